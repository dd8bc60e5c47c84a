/-
  Walks over links: a copy. No statement is proved in this text.
-/
import Derived.Test.YtgbbmhdkhhchhaaLnkF
set_option maxRecDepth 20000
namespace Go.Proofs.Ytgbbmhdkhhchhaa
open Go Go.RowKit
theorem func31 : Try.prog.funcs[31]? = some Try.f31 := by kernel_rfl
set_option maxHeartbeats 1000000 in
theorem clone_any (w : World) (base base' l n : Nat) (m : Option Nat) (M : Int → Pr) (h : Lk w base l m n M) (hb' : base' ≤ w.heap.size) :
    Calls Try.prog 25 #[.map m] w fun e w' => ∃ m', e = .returned (.map m') ∧ Below w.heap.size w w' ∧ (∀ b, m' = some b → w.heap.size ≤ b) ∧ (m' = none → M = fun _ => p0) ∧ (∀ b, m' = some b → base' ≤ b ∧ MapAt w' b n M) := by
  cases m with
  | none =>
    have HM := Lib.hid (h.no rfl)
    clear h hb'
    have hq : ∀ w, (binOp .eql 52 (.map none) (.map none)).run Try.prog w = .ok (.bool true) w := fun w => eq_nil none w
    go_enter Try.func25, Try.ntmps25
    go_wp2_with fail
    go_ret
    exact ⟨none, rfl, Below.refl _ _, fun b e => (by cases e), fun _ => HM.out, fun b e => (by cases e)⟩
  | some b =>
    obtain ⟨_, h2⟩ := h.yes b rfl
    obtain ⟨D, ⟨es, clock, hx, hF, hs, hD⟩, h3⟩ := h2
    have HR := Lib.hid (show MapAt (w.alloc (.map es clock)) w.heap.size n M from ⟨D, ⟨es, clock, heap_alloc_new w _, hF, hs, hD⟩, h3⟩)
    have HB := Lib.hid hb'
    have HX := Lib.hid hx
    clear h hb' hF hs hD h3 hx
    have hq : ∀ w, (binOp .eql 52 (.map (some b)) (.map none)).run Try.prog w = .ok (.bool false) w := fun w => eq_nil (some b) w
    go_enter Try.func25, Try.ntmps25
    go_wp2_with fail
    rw [run_callFunc_extern func31 (by kernel_rfl) (by kernel_rfl) (by kernel_rfl) (e := Extern.MapsClone.clone) (by kernel_rfl), run_maps_clone_sl w 52 HX.out]
    simp only [Result.andThen]
    rw [Oper.upon_value]
    go_wp2_with fail
    rw [run_typeAssert_map_sl _ 52 20 _ _ _ Try.underlying52]
    simp only [Result.andThen]
    rw [Oper.upon_value]
    go_wp2_with fail
    go_ret
    refine ⟨_, rfl, below_one w _, fun b e => ?_, fun e => (by cases e), fun b e => ?_⟩
    · injection e with e
      subst e
      exact Nat.le_refl _
    · injection e with e
      subst e
      exact ⟨HB.out, HR.out⟩
/-- A copy of links. -/
def Copied (base n : Nat) (M : Int → Pr) (w : World) (e : Ending) (w' : World) : Prop := ∃ l m, e = .returned (.pointer (some ⟨l, 0, none⟩)) ∧ w.heap.size ≤ l ∧ (∀ b, m = some b → w.heap.size ≤ b) ∧ Lk w' base l m n M ∧ Below w.heap.size w w'
set_option maxHeartbeats 1000000 in
theorem copy_any (w : World) (base base' l n : Nat) (m : Option Nat) (M : Int → Pr) (h : Lk w base l m n M) (hb' : base' ≤ w.heap.size) :
    Calls Try.prog 11 #[.pointer (some ⟨l, 0, none⟩)] w (Copied base' n M w) := by
  have hc := h.cell
  have H := Lib.hid h
  have HB := Lib.hid hb'
  clear h hb'
  go_enter Try.func11, Try.ntmps11
  go_wp2_with fail
  (with_reducible refine (clone_any w base base' l n m M H.out HB.out).mono ?_)
  rintro e1 w1 ⟨m1, rfl, h1, h2, h3, h4⟩
  have HH := Lib.hid (show Copied base' n M w (.returned (.pointer (some ⟨w1.heap.size, 0, none⟩))) (w1.alloc (.cells #[.map m1] 54)) from
    ⟨_, m1, rfl, h1.size, h2, ⟨heap_alloc_new w1 _, Nat.le_trans HB.out h1.size, h3, fun b e => ⟨(h4 b e).1, mapAt_same (h4 b e).2 (Below.heap_alloc w1 _ b (h4 b e).2.lt)⟩⟩, h1.trans (((Below.refl _ _).alloc h1.size _))⟩)
  clear h1 h2 h3 h4 hc
  go_wp2_with fail
  go_ret
  exact HH.out
theorem copy_nil (w : World) : Calls Try.prog 11 #[.pointer none] w fun e w' => e = .returned (.pointer none) ∧ w = w' := by
  go_enter Try.func11, Try.ntmps11
  go_wp2_with fail
  go_ret
  exact ⟨rfl, rfl⟩
end Go.Proofs.Ytgbbmhdkhhchhaa
