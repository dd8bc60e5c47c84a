/-
  Carried over: contracts of this program's functions. No statement is proved in this text.
-/
import Derived.Test.YtkoeplgkiogjlaaXAccB
set_option maxRecDepth 20000
set_option maxRecDepth 20000
namespace Go.Proofs.Ytkoeplgkiogjlaa
open Go Go.RowKit
theorem min_two (a b : Int) (w : World) : (Builtin.min_ #[3, 3] 3 #[.int .i64 a, .int .i64 b]).run Try.prog w = .ok (.int .i64 (min a b)) w := by
  have e : (if b < a then b else a) = min a b := by split <;> omega
  have h2 : Builtin.min2 (.int .i64 a) (.int .i64 b) = pure (.int .i64 (min a b)) := by simp [Builtin.min2, e]
  simp [Builtin.min_, h2, List.foldlM, Sem.run_pure]
theorem max_two (a b : Int) (w : World) : (Builtin.max_ #[3, 3] 3 #[.int .i64 a, .int .i64 b]).run Try.prog w = .ok (.int .i64 (max a b)) w := by
  have e : (if a < b then b else a) = max a b := by split <;> omega
  have h2 : Builtin.max2 (.int .i64 a) (.int .i64 b) = pure (.int .i64 (max a b)) := by simp [Builtin.max2, e]
  simp [Builtin.max_, h2, List.foldlM, Sem.run_pure]
theorem within_any (x lo hi : Int) (w : World) : Calls Try.prog 58 #[.int .i64 x, .int .i64 lo, .int .i64 hi] w fun e w' => e = .returned (.int .i64 (clampI x lo hi)) ∧ w' = w := by
  have h1 : ∀ W, (Builtin.min_ #[3, 3] 3 #[.int .i64 x, .int .i64 hi]).run Try.prog W = .ok (.int .i64 (min x hi)) W := fun W => min_two _ _ W
  have h2 : ∀ W, (Builtin.max_ #[3, 3] 3 #[.int .i64 lo, .int .i64 (min x hi)]).run Try.prog W = .ok (.int .i64 (clampI x lo hi)) W := fun W => max_two _ _ W
  go_enter Try.func58, Try.ntmps58
  go_wp2_with fail
  go_ret
  exact ⟨rfl, rfl⟩
theorem time_any (l : Nat) (d : Dt) (v : Value) (x : Int) (w : World) (h : DBox 81 w l d v) : Calls Try.prog 47 #[.pointer (some ⟨l, 0, none⟩), .int .i64 x] w fun e w' => e = .returned (.int .i64 (d.time x)) ∧ w' = w := by
  obtain ⟨c0, c1, c2, c3, c4, c5⟩ := dbox_cells h
  clear h
  go_enter Try.func47, Try.ntmps47
  go_wp2_with fail
  (with_reducible refine (within_any _ _ _ _).mono ?_)
  rintro e w1 ⟨rfl, rfl⟩
  go_wp2_with fail
  go_ret
  exact ⟨rfl, rfl⟩
/-- What was done to the detector at l. -/
def Done (T : TypeId) (base l : Nat) (d : Dt) (v0 : Value) (w : World) (e : Ending) (w' : World) : Prop := e = .returned (.tuple #[]) ∧ ∃ v, Det T w' base l d v ∧ w.grownBy w' (some l) ∧ ∀ g, v.ownBlock = some g → v0.ownBlock = some g ∨ w.heap.size ≤ g
theorem begin_any (base l : Nat) (d : Dt) (v : Value) (x : Int) (w : World) (h : Det 81 w base l d v) : Calls Try.prog 53 #[.pointer (some ⟨l, 0, none⟩), .int .i64 x] w (Done 81 base l (d.start x) v w) := by
  have H := Lib.hid h
  obtain ⟨c0, c1, c2, c3, c4, c5⟩ := dbox_cells h.box
  obtain ⟨f3, f4, f5⟩ := dbox_free h.box
  clear h
  cases hb : d.bg
  · have E := Lib.hid (show d.start x = ⟨d.mn, d.mx, d.wi, true, d.time x, d.ga⟩ by unfold Dt.start; rw [hb]; rfl)
    have HB := Lib.hid hb
    rw [hb] at c3
    clear hb
    go_enter Try.func53, Try.ntmps53
    go_wp2_with fail
    (with_reducible refine (time_any l d v x _ H.out.box).mono ?_)
    rintro e w1 ⟨rfl, rfl⟩
    go_wp2_with fail
    go_end0
    refine ⟨rfl, v, ?_, (H.out.put _).2, fun g hg => .inl hg⟩
    rw [E.out]
    exact (H.out.put _).1
  · have E := Lib.hid (show d.start x = d by unfold Dt.start; rw [hb]; rfl)
    rw [hb] at c3
    clear hb
    go_enter Try.func53, Try.ntmps53
    go_wp2_with fail
    go_end0
    refine ⟨rfl, v, ?_, grown_refl _ _, fun g hg => .inl hg⟩
    rw [E.out]
    exact H.out
end Go.Proofs.Ytkoeplgkiogjlaa
