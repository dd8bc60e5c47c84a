/-
  Walks over the code of package code, continued: IDs. No statement is proved in this text; it holds for every input that its premises let by.
-/
import Derived.Test.YtmmpnnpkfghhcaaWalksD
namespace Go.Proofs.Ytmmpnnpkfghhcaa
open Go.RowKit
theorem below_row {B : Nat} {w wr w2 : World} {o : Obj} {v v' : Value} {n : Nat} {xs : List Value} (h : Below B w wr) (hB : B ≤ w.heap.size) (ho : (wr.alloc o).ownsRow B 5 1 v n xs) (k : Wrote (wr.alloc o) v w2 v') : Below B w w2 :=
  (h.alloc (Nat.le_trans hB h.size) o).trans (k.below ho (by have := h.size; simp; omega))
set_option maxHeartbeats 400000 in
theorem ids_yes (v : Value) (l : List (Int × Int)) (s : ByteArray) (w : World) (h : Ids w v l) (hl : l.length ≤ 64) (hs : s.size ≤ 140737488351232) (hv : (allVid l && risesB l) = true) :
    Calls Try.prog 13 #[.string s, v] w fun e w' => e = .returned (.tuple #[.string (s ++ bs (encIDs l)), .int .i64 0]) ∧ Below w.heap.size w w' := by
  obtain ⟨A, c, rfl, hz⟩ := id h
  clear hz
  have HI := Lib.hid h
  have HV := Lib.hid hv
  have HA := Lib.hid (show allVid l = true by simp at hv; exact hv.1)
  clear h hv
  have hd : decide ((64 : Int) < (l.length : Int)) = false := by simp; omega
  go_enter Try.func13, Try.ntmps13
  go_wp2_with fail
  refine (validList_any _ l _ HI.out (by omega)).mono ?_
  rintro e w1 ⟨rfl, h⟩
  rw [HV.out]
  have H1 := Lib.hid h
  clear h
  go_wp2_with fail
  refine (addNum_int w.heap.size _ [] (l.length : Int) w1 (owns_nil _ _) H1.out.size (by simp) (by omega) (by omega)).mono ?_
  rintro e w2 ⟨v2, rfl, h1, h2⟩
  rw [List.nil_append] at h1
  have HO := Lib.hid h1
  have H2 := Lib.hid (H1.out.trans (h2.below (owns_nil w1 w.heap.size) H1.out.size))
  clear h1 h2 H1
  go_wp2_with fail
  go_loopw [6, 22] (fun s6 s22 wr => ∃ k : Nat, k ≤ l.length ∧ s22 = .int .i64 k ∧ Owns wr w.heap.size s6 (encI (l.length : Int) ++ encAll (l.take k)) ∧ Below w.heap.size w wr) (fun _ s22 _ => l.length - (intOf s22).toNat)
  case atStart => exact ⟨0, by omega, rfl, by simpa [encAll] using HO.out, H2.out⟩
  case round =>
    obtain ⟨k, hkl, rfl, ho, hw⟩ := hrel
    have HP := Lib.hid ho
    have HW := Lib.hid hw
    clear ho hw
    by_cases hlt : k < l.length
    · have hd : decide ((k : Int) < (l.length : Int)) = true := by simp; omega
      obtain ⟨ad, rfl, c1, c2⟩ := HI.out.at_ HW.out hlt
      have HQ := Lib.hid (fun o => (World.ownsRow.alloc HP.out o : Owns (wr.alloc o) w.heap.size u6 (encI (l.length : Int) ++ encAll (l.take k))))
      have HN := Lib.hid (encAll_take hlt)
      have hz1 := (encI_len (l.length : Int)).2
      have hz2 := encAll_taken l k hl
      go_wp2_with fail
      refine (addID_drew w.heap.size _ _ _ _ _ (HQ.out _) (by have := HW.out.size; simp; omega) (by simp; omega) (allVid_at HA.out hlt)).mono ?_
      rintro e w3 ⟨v3, rfl, h1, h2⟩
      have H3 := Lib.hid (below_row HW.out (Nat.le_refl _) (HQ.out _) h2)
      have H4 := Lib.hid h1
      clear h1 h2 c1 c2
      go_wp2_with fail
      go_roundw
      case rel => exact ⟨k + 1, by omega, by go_num, by rw [HN.out, ← List.append_assoc]; exact H4.out, H3.out⟩
      case measure => simp [intOf]; omega
    · obtain rfl : k = l.length := by omega
      have hc := owns_text HP.out (by have := (encI_len (l.length : Int)).1; simp; omega)
      rw [List.take_length] at hc
      have hz : (bs (encI (l.length : Int) ++ encAll l)).size ≤ 800 := by
        rw [bs_size]
        have h1 := (encI_len (l.length : Int)).2
        have h2 := encAll_len l
        simp
        omega
      go_wp2_with fail
      go_ret2
      exact ⟨rfl, HW.out⟩
end Go.Proofs.Ytmmpnnpkfghhcaa
