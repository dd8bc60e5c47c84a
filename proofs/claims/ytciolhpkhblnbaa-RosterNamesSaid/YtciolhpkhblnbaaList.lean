/-
  A walk over what lists the floors of an array. No statement is proved in this text; it holds for every input that its premises let by.
-/
import Derived.Test.YtciolhpkhblnbaaRaised
namespace Go.Proofs.Ytciolhpkhblnbaa
open Go Go.RowKit Ros
def listPart (L : Nat → Int) (k : Nat) : List Id2 := (List.range k).filterMap fun j => if 0 < L j then some ((j : Int), L j) else none
theorem listPart_yes {L : Nat → Int} {k : Nat} (h : 0 < L k) : listPart L (k + 1) = listPart L k ++ [((k : Int), L k)] := by
  unfold listPart
  rw [List.range_succ, List.filterMap_append]
  simp [h]
theorem listPart_no {L : Nat → Int} {k : Nat} (h : ¬ 0 < L k) : listPart L (k + 1) = listPart L k := by
  unfold listPart
  rw [List.range_succ, List.filterMap_append]
  simp [h]
theorem listPart_len (L : Nat → Int) (k : Nat) : (listPart L k).length ≤ k := by
  unfold listPart
  have := List.length_filterMap_le (fun j : Nat => if 0 < L j then some ((j : Int), L j) else none) (List.range k)
  simpa using this
theorem listF_is (L : Nat → Int) : listPart L 13 = listF L := rfl
set_option maxHeartbeats 4000000 in
theorem list_any (g : Nat) (L : Nat → Int) (w : World) (h : Lives w g L) :
    Calls Try.prog 51 #[.pointer (some ⟨g, 0, none⟩)] w fun e w' => ∃ V, e = .returned V ∧ Owns w' w.heap.size V (listF L) ∧ Below w.heap.size w w' := by
  have HL := Lib.hid h
  clear h
  go_enter Try.func51, Try.ntmps51
  go_wp2_with (at_make; refine wpList_make_room _ rfl _ rfl 12 rfl (by omega) (by omega) ?_; intro v1 w1 h1 h2; have HO := Lib.hid h1; have HB := Lib.hid h2; clear h1 h2)
  go_loopw [3, 8] (fun s3 s8 wr => ∃ k : Nat, k ≤ 13 ∧ s8 = .int .i64 k ∧ Hid (Owns wr w.heap.size s3 (listPart L k)) ∧ Hid (Below w.heap.size w wr)) (fun _ s8 _ => 13 - (intOf s8).toNat)
  case atStart => exact ⟨0, by omega, rfl, HO, HB⟩
  case round =>
    obtain ⟨k, hkl, rfl, HO, HW⟩ := hrel
    have i3 : (0 : Int) ≤ (k : Int) := by omega
    by_cases hlt : k < 13
    · have hd : decide ((k : Int) < 13) = true := by simp; omega
      have i4 : (k : Int) < 13 := by omega
      have HL1 := Lib.hid (lives_below HL.out HW.out)
      obtain ⟨c1, f1⟩ := HL1.out.2 k hlt
      have HS := Lib.hid HW.out.size
      have HP := Lib.hid (Nat.le_trans (listPart_len L k) hkl)
      by_cases hp : 0 < L k
      · have HT := Lib.hid (listPart_yes hp)
        have hd2 : decide (L k > 0) = true := by simpa using hp
        have hd3 : decide (0 < L k) = true := by simpa using hp
        generalize L k = z at *
        clear hp f1
        go_wp2_with fail
        go_quiet (fail)
        have HO1 := Lib.hid fun n => HO.out.below (below_drewN (n := n) (Below.refl _ _))
        go_wp2_with (at_builtin; refine wpList_append_one rfl (.tmp 16) (.tmp 20) rfl _ w.heap.size _ _ k z rfl rfl (HO1.out _) (by have := HP.out; omega) HS.out ?_; intro v' w' h1 h2; have O2 := Lib.hid h1; have B2 := Lib.hid ((below_drewN HW.out).trans h2); clear h1 h2)
        go_roundw
        case rel => exact ⟨k + 1, by omega, by go_num, by rw [HT.out]; exact O2, B2⟩
        case measure => simp [intOf]; omega
      · have HT := Lib.hid (listPart_no hp)
        have hd2 : decide (L k > 0) = false := by simpa using hp
        have hd3 : decide (0 < L k) = false := by simpa using hp
        generalize L k = z at *
        clear hp f1
        go_wp2_with fail
        go_quiet (fail)
        have HO1 := Lib.hid fun n => HO.out.below (below_drewN (n := n) (Below.refl _ _))
        go_wp2_with fail
        go_roundw
        case rel => exact ⟨k + 1, by omega, by go_num, by rw [HT.out]; exact Lib.hid (HO1.out _), Lib.hid (below_drewN HW.out)⟩
        case measure => simp [intOf]; omega
    · obtain rfl : k = 13 := by omega
      have HF := Lib.hid (listF_is L)
      go_wp2_with fail
      go_ret
      exact ⟨_, rfl, by rw [← HF.out]; exact HO.out, HW.out⟩
end Go.Proofs.Ytciolhpkhblnbaa
