/-
  Walks over the document's own answers for layer 2, continued: the bytes of lists, and whether two lists are the same. No statement is proved in this text; it holds for every input that its premises let by.
-/
import Derived.Test.YtmmpnnpkfghhcaaRefB
namespace Go.Proofs.Ytmmpnnpkfghhcaa
open Go.RowKit
theorem refIDsLong (v : Value) (l : List (Int × Int)) (s : ByteArray) (w : World) (h : Ids w v l) (hl : 64 < l.length) :
    Calls Try.prog 14 #[.string s, v] w fun e w' => e = .returned (.tuple #[.string s, .int .i64 40]) ∧ w = w' := by
  obtain ⟨A, c, rfl, hz⟩ := id h
  clear hz h
  have hd : decide ((64 : Int) < (l.length : Int)) = true := by simp; omega
  go_enter Try.func14, Try.ntmps14
  go_wp2_with fail
  go_ret2
  exact ⟨rfl, rfl⟩
theorem refIDsB (v : Value) (l : List (Int × Int)) (s : ByteArray) (w : World) (h : Ids w v l) (hl : l.length ≤ 64) (hv : (allVid l && risesB l) = false) :
    Calls Try.prog 14 #[.string s, v] w fun e w' => e = .returned (.tuple #[.string s, .int .i64 4]) ∧ Below w.heap.size w w' := by
  obtain ⟨A, c, rfl, hz⟩ := id h
  clear hz
  have HI := Lib.hid h
  have HV := Lib.hid hv
  clear h hv
  have hd : decide ((64 : Int) < (l.length : Int)) = false := by simp; omega
  go_enter Try.func14, Try.ntmps14
  go_wp2_with fail
  refine (refRises_any _ l _ HI.out (by omega)).mono ?_
  rintro e w1 ⟨rfl, h⟩
  rw [HV.out]
  have H1 := Lib.hid h
  clear h
  go_wp2_with fail
  go_ret2
  exact ⟨rfl, H1.out⟩
set_option maxHeartbeats 400000 in
theorem refIDs_any (v : Value) (l : List (Int × Int)) (s : ByteArray) (w : World) (h : Ids w v l) (hl : l.length ≤ 64) (hs : s.size ≤ 800000) (hv : (allVid l && risesB l) = true) :
    Calls Try.prog 14 #[.string s, v] w fun e w' => e = .returned (.tuple #[.string (s ++ bs (encIDs l)), .int .i64 0]) ∧ Below w.heap.size w w' := by
  obtain ⟨A, c, rfl, hz⟩ := id h
  clear hz
  have HI := Lib.hid h
  have HV := Lib.hid hv
  have HA := Lib.hid (show allVid l = true by simp at hv; exact hv.1)
  clear h hv
  have hd : decide ((64 : Int) < (l.length : Int)) = false := by simp; omega
  go_enter Try.func14, Try.ntmps14
  go_wp2_with fail
  refine (refRises_any _ l _ HI.out (by omega)).mono ?_
  rintro e w1 ⟨rfl, h⟩
  rw [HV.out]
  have H1 := Lib.hid h
  clear h
  go_wp2_with fail
  refine (refNum_any (l.length : Int) w1 (by omega) (by omega) s (by omega)).mono ?_
  rintro e w2 ⟨rfl, h⟩
  have H2 := Lib.hid (below_after H1.out h (Nat.le_refl _))
  clear h H1
  go_wp2_with fail
  go_loopw [6, 8] (fun s6 s8 wr => ∃ (k : Nat) (t : ByteArray), k ≤ l.length ∧ s8 = .int .i64 k ∧ s6 = .string t ∧ t = s ++ bs (encI (l.length : Int) ++ encAll (l.take k)) ∧ Below w.heap.size w wr) (fun _ s8 _ => l.length - (intOf s8).toNat)
  case atStart => exact ⟨0, _, by omega, rfl, rfl, by simp [encAll], H2.out⟩
  case round =>
    obtain ⟨k, t, hkl, rfl, rfl, ht, hw⟩ := hrel
    have HT := Lib.hid ht
    have HW := Lib.hid hw
    have hz : t.size ≤ s.size + 800 := by
      have h1 := (encI_len (l.length : Int)).2
      have h2 := encAll_taken l k hl
      rw [ht, text_size]
      simp
      omega
    clear ht hw
    by_cases hlt : k < l.length
    · have hd : decide ((k : Int) < (l.length : Int)) = true := by simp; omega
      obtain ⟨ad, rfl, c1, c2⟩ := HI.out.at_ HW.out hlt
      have HN := Lib.hid (encAll_take hlt)
      go_wp2_with fail
      refine (refID_any _ _ t _ (allVid_at HA.out hlt) (by omega)).mono ?_
      rintro e w3 ⟨rfl, h⟩
      have H3 := Lib.hid (below_after HW.out h (Nat.le_refl _))
      clear h c1 c2
      go_wp2_with fail
      go_roundw
      case rel => exact ⟨k + 1, _, by omega, by go_num, rfl, by rw [HN.out, HT.out]; exact WideShapes.bytes_inj (by simp [bs]), H3.out⟩
      case measure => simp [intOf]; omega
    · obtain rfl : k = l.length := by omega
      have hd : decide ((l.length : Int) < (l.length : Int)) = false := by simp
      go_wp2_with fail
      go_ret2
      exact ⟨ret_pair (by rw [HT.out, List.take_length]; rfl) rfl, HW.out⟩
set_option maxHeartbeats 400000 in
theorem same_any (v u : Value) (l : List (Int × Int)) (w : World) (h : Ids w v l) (k : Ids w u l) (hl : l.length ≤ 100000) :
    Calls Try.prog 15 #[v, u] w fun e w' => e = .returned (.bool true) ∧ Below w.heap.size w w' := by
  obtain ⟨A, c, rfl, hz⟩ := id h
  obtain ⟨B, d, rfl, hz2⟩ := id k
  clear hz hz2
  have HI := Lib.hid h
  have HJ := Lib.hid k
  clear h k
  have hd : ((l.length : Int) != (l.length : Int)) = false := by simp
  go_enter Try.func15, Try.ntmps15
  go_wp2_with fail
  go_loopw [5] (fun s5 wr => ∃ k : Nat, k ≤ l.length ∧ s5 = .int .i64 k ∧ Below w.heap.size w wr) (fun s5 _ => l.length - (intOf s5).toNat)
  case atStart => exact ⟨0, by omega, rfl, Below.refl _ _⟩
  case round =>
    obtain ⟨k, hkl, rfl, hw⟩ := hrel
    have HW := Lib.hid hw
    clear hw
    by_cases hlt : k < l.length
    · have hd : decide ((k : Int) < (l.length : Int)) = true := by simp; omega
      have i3 : (0 : Int) ≤ (k : Int) := by omega
      have i4 : (k : Int) < (l.length : Int) := by omega
      obtain ⟨ad, rfl, c1, c2⟩ := HI.out.at_ HW.out hlt
      obtain ⟨ae, rfl, c3, c4⟩ := HJ.out.at_ HW.out hlt
      generalize l[k].1 = a at *
      generalize l[k].2 = i at *
      go_wp2_with fail
      go_quiet (fail)
      go_wp2_with fail
      go_roundw
      case rel => exact ⟨k + 1, by omega, by go_num, below_drewN HW.out⟩
      case measure => simp [intOf]; omega
    · have hd : decide ((k : Int) < (l.length : Int)) = false := by simp; omega
      go_wp2_with fail
      go_ret
      exact ⟨rfl, HW.out⟩
end Go.Proofs.Ytmmpnnpkfghhcaa
