/-
  Carried over: contracts of this program's functions. No statement is proved in this text.
-/
import Derived.Test.YtmgkbfhkipfimaaIdeRefA
set_option maxRecDepth 20000
set_option maxRecDepth 20000
namespace Go.Proofs.Ytmgkbfhkipfimaa
open Go.RowKit Sets
theorem setOf_snoc {l : List (Int × Int)} {k : Nat} (hk : k < l.length) : setOf (l.take (k + 1)) = ins (l[k].1, l[k].2) (setOf (l.take k)) := by
  unfold setOf
  rw [List.take_succ_eq_append_getElem hk, List.foldl_append]
  rfl
theorem setOf_take_len (l : List (Int × Int)) (k : Nat) : (setOf (l.take k)).length ≤ l.length := by
  have h1 := setOf_len (l.take k)
  have h2 : (l.take k).length ≤ l.length := by simp; omega
  omega
set_option maxHeartbeats 1000000 in
theorem refSet_any (v : Value) (l : List (Int × Int)) (w : World) (h : Ids w v l) (hl : l.length ≤ 40000) :
    Calls Try.prog 31 #[v] w (Lists (setOf l) w) := by
  have HI := Lib.hid h
  obtain ⟨A, c, rfl, hz⟩ := h
  clear hz
  go_enter Try.func31, Try.ntmps31
  go_wp2_with fail
  go_loopw [3, 4] (fun s3 s4 wr => ∃ k : Nat, k ≤ l.length ∧ s4 = .int .i64 k ∧ Ids wr s3 (setOf (l.take k)) ∧ Below w.heap.size w wr) (fun _ s4 _ => l.length - (intOf s4).toNat)
  case atStart => exact ⟨0, by omega, rfl, Ids.nil _, Below.refl _ _⟩
  case round =>
    obtain ⟨k, hkl, rfl, ht, hw⟩ := hrel
    have HW := Lib.hid hw
    have HT := Lib.hid ht
    have hz := setOf_take_len l k
    clear hw ht
    have i3 : (0 : Int) ≤ (k : Int) := by omega
    by_cases hlt : k < l.length
    · have hd : decide ((k : Int) < (l.length : Int)) = true := by simp; omega
      have i4 : (k : Int) < (l.length : Int) := by omega
      obtain ⟨ad, rfl, c1, c2⟩ := HI.out.at_ HW.out hlt
      have HS := Lib.hid (setOf_snoc hlt)
      generalize l[k].1 = a at *
      generalize l[k].2 = i at *
      go_wp2_with fail
      refine (refPut_any u3 _ a i _ HT.out (by omega)).mono ?_
      rw [← HS.out]
      rintro e w1 ⟨r, rfl, hi, hb⟩
      have H1 := Lib.hid hi
      have B1 := Lib.hid (below_after HW.out hb (Nat.le_refl _))
      clear hi hb c1 c2
      go_wp2_with fail
      go_roundw
      case rel => exact ⟨k + 1, by omega, by go_num, H1.out, B1.out⟩
      case measure => simp [intOf]; omega
    · have hd : decide ((k : Int) < (l.length : Int)) = false := by simp; omega
      have HE := Lib.hid (show Ids wr u3 (setOf l) by have := HT.out; rwa [List.take_of_length_le (by omega)] at this)
      go_wp2_with fail
      go_ret
      exact ⟨_, rfl, HE.out, HW.out⟩
end Go.Proofs.Ytmgkbfhkipfimaa
