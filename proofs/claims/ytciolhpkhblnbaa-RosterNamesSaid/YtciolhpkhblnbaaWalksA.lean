/-
  Walks over package ident and the document's own answers for it: one ID, or two. No statement is proved in this text; it holds for every input that its premises let by.
-/
import Derived.Test.YtciolhpkhblnbaaRows
import Derived.Test.YtciolhpkhblnbaaRosC
import Derived.WalkKit
import Derived.WalkSpells
import Derived.WalkLawsBesides
import Derived.OwnWalk
import Derived.Deep.AppendLies
import Derived.Outline
import Derived.IntWalk
import Derived.Deep.LoopGhost
import Derived.Handy
import Derived.Lib.Hide
import Derived.Deep.RegionWith
import Derived.Deep.RegionHeld3
import Derived.BigQuiet
import Derived.Deep.QuietTactic
namespace Go.Proofs.Ytciolhpkhblnbaa
open Go.RowKit Ros
theorem ret_int {k : IntKind} {a b : Int} (h : a = b) : Ending.returned (.int k a) = .returned (.int k b) := by rw [h]
theorem ret_bool {a b : Bool} (h : a = b) : Ending.returned (.bool a) = .returned (.bool b) := by rw [h]
theorem below_after {B : Nat} {w w1 w2 : World} (h : Below B w w1) (k : Below w1.heap.size w1 w2) (hB : B ≤ w.heap.size) : Below B w w2 := h.trans (k.mono (Nat.le_trans hB h.size))
theorem below_boxed {B : Nat} {w w1 w2 : World} {o : Obj} (h : Below B w w1) (k : Below (w1.alloc o).heap.size (w1.alloc o) w2) (hB : B ≤ w.heap.size) : Below B w w2 :=
  (h.alloc (Nat.le_trans hB h.size) o).trans (k.mono (by have := h.size; simp; omega))
theorem below_drewN {B n : Nat} {w w1 : World} (h : Below B w w1) : Below B w (w1.drewN n) := ⟨h.os, h.tape, h.output, h.size, h.block⟩
theorem row_lt {w : World} {g : Nat} {o : Obj} (h : w.heap[g]? = some o) : g < w.heap.size := by
  rcases Nat.lt_or_ge g w.heap.size with hlt | hge
  · exact hlt
  · rw [Array.getElem?_eq_none hge] at h; cases h
/-- Block g holds an ID. -/
def Box (w : World) (g : Nat) (a i : Int) : Prop := w.heap[g]? = some (.cells #[.int .i64 a, .int .i64 i] 30 (0, 0))
theorem box_cells {w : World} {g : Nat} {a i : Int} (h : Box w g a i) : w.cell? ⟨g, 0, none⟩ = some (.int .i64 a) ∧ w.cell? ⟨g, 1, none⟩ = some (.int .i64 i) := by
  unfold Box at h
  exact ⟨by rw [cell_of_row _ _ 0 _ _ _ h]; rfl, by rw [cell_of_row _ _ 1 _ _ _ h]; rfl⟩
theorem box_new (w : World) (a i : Int) : Box (w.alloc (.cells #[.int .i64 a, .int .i64 i] 30)) w.heap.size a i := heap_alloc_new w _
theorem box_lt {w : World} {g : Nat} {a i : Int} (h : Box w g a i) : g < w.heap.size := row_lt h
theorem box_below {w w' : World} {g : Nat} {a i : Int} (h : Box w g a i) (hb : Below w.heap.size w w') : Box w' g a i := (hb.block _ (box_lt h)).trans h
theorem may_any (a i : Int) (w : World) :
    Calls Try.prog 31 #[.agg #[.int .i64 a, .int .i64 i]] w fun e w' => e = .returned (.bool (vid a i)) ∧ Below w.heap.size w w' := by
  by_cases h1 : 1 ≤ a
  · by_cases h2 : a ≤ 12
    · by_cases h3 : 1 ≤ i
      · by_cases h4 : i ≤ 1048576
        · have h5 := Lib.hid (show vid a i = true by simp [vid]; omega)
          go_enter Try.func31, Try.ntmps31
          go_wp2_with fail
          go_ret
          exact ⟨by rw [h5.out]; rfl, (Below.refl _ _).alloc (Nat.le_refl _) _⟩
        · have h5 := Lib.hid (show vid a i = false by simp [vid]; omega)
          go_enter Try.func31, Try.ntmps31
          go_wp2_with fail
          go_ret
          exact ⟨by rw [h5.out]; rfl, (Below.refl _ _).alloc (Nat.le_refl _) _⟩
      · have h5 := Lib.hid (show vid a i = false by simp [vid]; omega)
        go_enter Try.func31, Try.ntmps31
        go_wp2_with fail
        go_ret
        exact ⟨by rw [h5.out]; rfl, (Below.refl _ _).alloc (Nat.le_refl _) _⟩
    · have h5 := Lib.hid (show vid a i = false by simp [vid]; omega)
      go_enter Try.func31, Try.ntmps31
      go_wp2_with fail
      go_ret
      exact ⟨by rw [h5.out]; rfl, (Below.refl _ _).alloc (Nat.le_refl _) _⟩
  · have h5 := Lib.hid (show vid a i = false by simp [vid]; omega)
    go_enter Try.func31, Try.ntmps31
    go_wp2_with fail
    go_ret
    exact ⟨by rw [h5.out]; rfl, (Below.refl _ _).alloc (Nat.le_refl _) _⟩
theorem refMay_any (a i : Int) (w : World) :
    Calls Try.prog 24 #[.agg #[.int .i64 a, .int .i64 i]] w fun e w' => e = .returned (.bool (vid a i)) ∧ Below w.heap.size w w' := by
  by_cases h1 : 1 ≤ a
  · by_cases h2 : a ≤ 12
    · by_cases h3 : 1 ≤ i
      · by_cases h4 : i ≤ 1048576
        · have h5 := Lib.hid (show vid a i = true by simp [vid]; omega)
          go_enter Try.func24, Try.ntmps24
          go_wp2_with fail
          go_ret
          exact ⟨by rw [h5.out]; rfl, (Below.refl _ _).alloc (Nat.le_refl _) _⟩
        · have h5 := Lib.hid (show vid a i = false by simp [vid]; omega)
          go_enter Try.func24, Try.ntmps24
          go_wp2_with fail
          go_ret
          exact ⟨by rw [h5.out]; rfl, (Below.refl _ _).alloc (Nat.le_refl _) _⟩
      · have h5 := Lib.hid (show vid a i = false by simp [vid]; omega)
        go_enter Try.func24, Try.ntmps24
        go_wp2_with fail
        go_ret
        exact ⟨by rw [h5.out]; rfl, (Below.refl _ _).alloc (Nat.le_refl _) _⟩
    · have h5 := Lib.hid (show vid a i = false by simp [vid]; omega)
      go_enter Try.func24, Try.ntmps24
      go_wp2_with fail
      go_ret
      exact ⟨by rw [h5.out]; rfl, (Below.refl _ _).alloc (Nat.le_refl _) _⟩
  · have h5 := Lib.hid (show vid a i = false by simp [vid]; omega)
    go_enter Try.func24, Try.ntmps24
    go_wp2_with fail
    go_ret
    exact ⟨by rw [h5.out]; rfl, (Below.refl _ _).alloc (Nat.le_refl _) _⟩
/-- Does an ID stand ahead of another one? -/
def lss (a i b j : Int) : Bool := decide (a < b ∨ a = b ∧ i < j)
theorem less_any (a i b j : Int) (w : World) :
    Calls Try.prog 52 #[.agg #[.int .i64 a, .int .i64 i], .agg #[.int .i64 b, .int .i64 j]] w fun e w' => e = .returned (.bool (lss a i b j)) ∧ Below w.heap.size w w' := by
  have hb := Lib.hid (fun o o' : Obj => (((Below.refl w.heap.size w).alloc (Nat.le_refl _) o).alloc (by simp) o'))
  by_cases h1 : a < b
  · have h5 := Lib.hid (show lss a i b j = true by simp [lss]; omega)
    go_enter Try.func52, Try.ntmps52
    go_wp2_with fail
    go_ret
    exact ⟨by rw [h5.out]; rfl, hb.out _ _⟩
  · by_cases h2 : a = b
    · subst h2
      by_cases h3 : i < j
      · have h5 := Lib.hid (show lss a i a j = true by simp [lss]; omega)
        go_enter Try.func52, Try.ntmps52
        go_wp2_with fail
        go_ret
        exact ⟨by rw [h5.out]; rfl, hb.out _ _⟩
      · have h5 := Lib.hid (show lss a i a j = false by simp [lss]; omega)
        go_enter Try.func52, Try.ntmps52
        go_wp2_with fail
        go_ret
        exact ⟨by rw [h5.out]; rfl, hb.out _ _⟩
    · have h5 := Lib.hid (show lss a i b j = false by simp [lss]; omega)
      have h3 : (a == b) = false := by simpa using h2
      go_enter Try.func52, Try.ntmps52
      go_wp2_with fail
      go_ret
      exact ⟨by rw [h5.out]; rfl, hb.out _ _⟩
theorem two_boxes (w : World) (a i b j : Int) : Box ((w.alloc (.cells #[.int .i64 a, .int .i64 i] 30)).alloc (.cells #[.int .i64 b, .int .i64 j] 30)) w.heap.size a i ∧ Box ((w.alloc (.cells #[.int .i64 a, .int .i64 i] 30)).alloc (.cells #[.int .i64 b, .int .i64 j] 30)) (w.heap.size + 1) b j := by
  refine ⟨(Below.heap_alloc _ _ _ (by simp)).trans (box_new w a i), ?_⟩
  have := box_new (w.alloc (.cells #[.int .i64 a, .int .i64 i] 30)) b j
  simpa using this
theorem below_two (w : World) (o o' : Obj) : Below w.heap.size w ((w.alloc o).alloc o') := ((Below.refl w.heap.size w).alloc (Nat.le_refl _) o).alloc (by simp) o'
end Go.Proofs.Ytciolhpkhblnbaa
