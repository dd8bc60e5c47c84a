/-
  A walk over the statements' own question: are lists more than a statement goes through? No statement is proved in this text.
-/
import Derived.Test.YtdkmdaklnjomhaaRefB
namespace Go.Proofs.Ytdkmdaklnjomhaa
open Go.RowKit Sets
/-- Is a slice longer than 200? -/
def bigV (v : Value) : Bool := decide (200 < lenOf v)
/-- Block g holds these slices. -/
def Lots (w : World) (g : Nat) (cs : List Value) : Prop := w.heap[g]? = some (.cells cs.toArray 29 (0, 0))
theorem lots_cell {w : World} {g : Nat} {cs : List Value} (h : Lots w g cs) {k : Nat} (hk : k < cs.length) : w.cell? ⟨g, k, none⟩ = some cs[k] := by
  unfold Lots at h
  rw [cell_of_row _ _ k _ _ _ h]
  simp [hk]
theorem big_take {cs : List Value} {k : Nat} (hk : k < cs.length) (h : (cs.take k).any bigV = false) (h2 : bigV cs[k] = false) : (cs.take (k + 1)).any bigV = false := by
  rw [List.take_succ_eq_append_getElem hk, List.any_append, h]
  simp [h2]
theorem big_yes {cs : List Value} {k : Nat} (hk : k < cs.length) (h2 : bigV cs[k] = true) : cs.any bigV = true := by
  rw [List.any_eq_true]
  exact ⟨cs[k], List.getElem_mem hk, h2⟩
set_option maxHeartbeats 1000000 in
theorem large_any (g : Nat) (cs : List Value) (w : World) (h : Lots w g cs) (hs : ∀ (k : Nat) (hk : k < cs.length), ∃ A n c, cs[k] = .slice A n c) (hn : cs.length ≤ 10) :
    Calls Try.prog 18 #[.slice (some ⟨g, 0, none⟩) cs.length cs.length] w fun e w' => e = .returned (.bool (cs.any bigV)) ∧ w = w' := by
  have HI := Lib.hid h
  have HS := Lib.hid hs
  clear h hs
  go_enter Try.func18, Try.ntmps18
  go_wp2_with fail
  go_loop [3] (fun s3 => ∃ k : Nat, k ≤ cs.length ∧ s3 = .int .i64 k ∧ (cs.take k).any bigV = false) (fun s3 => cs.length - (intOf s3).toNat)
  case atStart => exact ⟨0, by omega, rfl, rfl⟩
  case round =>
    obtain ⟨k, hkl, rfl, ht⟩ := hrel
    have HT := Lib.hid ht
    clear ht
    have i3 : (0 : Int) ≤ (k : Int) := by omega
    by_cases hlt : k < cs.length
    · have hd : decide ((k : Int) < (cs.length : Int)) = true := by simp; omega
      have i4 : (k : Int) < (cs.length : Int) := by omega
      obtain ⟨A, n, c, hv⟩ := HS.out k hlt
      have c1 := lots_cell HI.out hlt
      rw [hv] at c1
      by_cases hb : 200 < n
      · have HF := Lib.hid (big_yes hlt (by rw [hv]; unfold bigV; rw [lenOf_slice]; exact decide_eq_true hb))
        have hd2 : decide ((200 : Int) < (n : Int)) = true := by simp; omega
        clear hv
        go_wp2_with fail
        go_ret
        exact ⟨ret_bool HF.out.symm, rfl⟩
      · have HF := Lib.hid (big_take hlt HT.out (by rw [hv]; unfold bigV; rw [lenOf_slice]; exact decide_eq_false hb))
        have hd2 : decide ((200 : Int) < (n : Int)) = false := by simp; omega
        clear hv
        go_wp2_with fail
        go_round
        case rel => exact ⟨k + 1, by omega, by go_num, HF.out⟩
        case measure => simp [intOf]; omega
    · have hd : decide ((k : Int) < (cs.length : Int)) = false := by simp; omega
      have HF := Lib.hid (show cs.any bigV = false by have := HT.out; rwa [List.take_of_length_le (by omega)] at this)
      go_wp2_with fail
      go_ret
      exact ⟨ret_bool HF.out.symm, rfl⟩
theorem large_two (g : Nat) (v u : Value) (l m : List (Int × Int)) (w : World) (h : Lots w g [v, u]) (h1 : lenOf v = l.length) (h2 : lenOf u = m.length) (hv : ∃ A n c, v = .slice A n c) (hu : ∃ A n c, u = .slice A n c) :
    Calls Try.prog 18 #[.slice (some ⟨g, 0, none⟩) 2 2] w fun e w' => e = .returned (.bool (decide (200 < l.length ∨ 200 < m.length))) ∧ w = w' :=
  (large_any g [v, u] w h (fun k hk => by
    match k, hk with
    | 0, _ => exact hv
    | 1, _ => exact hu) (by simp)).mono fun e w' ⟨he, hw⟩ => ⟨he.trans (ret_bool (by simp [bigV, h1, h2])), hw⟩
theorem large_three (g : Nat) (v u t : Value) (l m n : List (Int × Int)) (w : World) (h : Lots w g [v, u, t]) (h1 : lenOf v = l.length) (h2 : lenOf u = m.length) (h3 : lenOf t = n.length) (hv : ∃ A n c, v = .slice A n c) (hu : ∃ A n c, u = .slice A n c) (ht : ∃ A n c, t = .slice A n c) :
    Calls Try.prog 18 #[.slice (some ⟨g, 0, none⟩) 3 3] w fun e w' => e = .returned (.bool (decide (200 < l.length ∨ 200 < m.length ∨ 200 < n.length))) ∧ w = w' :=
  (large_any g [v, u, t] w h (fun k hk => by
    match k, hk with
    | 0, _ => exact hv
    | 1, _ => exact hu
    | 2, _ => exact ht) (by simp)).mono fun e w' ⟨he, hw⟩ => ⟨he.trans (ret_bool (by simp [bigV, h1, h2, h3])), hw⟩
end Go.Proofs.Ytdkmdaklnjomhaa
