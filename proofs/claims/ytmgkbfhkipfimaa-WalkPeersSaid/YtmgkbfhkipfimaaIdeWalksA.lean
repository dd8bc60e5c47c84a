/-
  Carried over: contracts of this program's functions. No statement is proved in this text.
-/
import Derived.Test.YtmgkbfhkipfimaaRows
import Derived.WalkKit
import Derived.WalkSpells
import Derived.WalkLawsBesides
import Derived.OwnWalk
import Derived.Deep.AppendLies
import Derived.Outline
import Derived.IntWalk
import Derived.Deep.LoopGhost
import Derived.Handy
import Derived.Lib.Hide
import Derived.Deep.RegionWith
import Derived.Deep.RegionHeld3
import Derived.BigQuiet
import Derived.Deep.QuietTactic
import Derived.Test.YtmgkbfhkipfimaaIdeMath
set_option maxRecDepth 20000
set_option maxRecDepth 20000
namespace Go.Proofs.Ytmgkbfhkipfimaa
open Go.RowKit
theorem ret_int {k : IntKind} {a b : Int} (h : a = b) : Ending.returned (.int k a) = .returned (.int k b) := by rw [h]
theorem ret_bool {a b : Bool} (h : a = b) : Ending.returned (.bool a) = .returned (.bool b) := by rw [h]
theorem below_after {B : Nat} {w w1 w2 : World} (h : Below B w w1) (k : Below w1.heap.size w1 w2) (hB : B ≤ w.heap.size) : Below B w w2 := h.trans (k.mono (Nat.le_trans hB h.size))
theorem below_boxed {B : Nat} {w w1 w2 : World} {o : Obj} (h : Below B w w1) (k : Below (w1.alloc o).heap.size (w1.alloc o) w2) (hB : B ≤ w.heap.size) : Below B w w2 :=
  (h.alloc (Nat.le_trans hB h.size) o).trans (k.mono (by have := h.size; simp; omega))
theorem below_drewN {B n : Nat} {w w1 : World} (h : Below B w w1) : Below B w (w1.drewN n) := ⟨h.os, h.tape, h.output, h.size, h.block⟩
theorem row_lt {w : World} {g : Nat} {o : Obj} (h : w.heap[g]? = some o) : g < w.heap.size := by
  rcases Nat.lt_or_ge g w.heap.size with hlt | hge
  · exact hlt
  · rw [Array.getElem?_eq_none hge] at h; cases h
/-- Block g holds an ID. -/
def Box (w : World) (g : Nat) (a i : Int) : Prop := w.heap[g]? = some (.cells #[.int .i64 a, .int .i64 i] 24 (0, 0))
theorem box_cells {w : World} {g : Nat} {a i : Int} (h : Box w g a i) : w.cell? ⟨g, 0, none⟩ = some (.int .i64 a) ∧ w.cell? ⟨g, 1, none⟩ = some (.int .i64 i) := by
  unfold Box at h
  exact ⟨by rw [cell_of_row _ _ 0 _ _ _ h]; rfl, by rw [cell_of_row _ _ 1 _ _ _ h]; rfl⟩
theorem box_new (w : World) (a i : Int) : Box (w.alloc (.cells #[.int .i64 a, .int .i64 i] 24)) w.heap.size a i := heap_alloc_new w _
theorem box_lt {w : World} {g : Nat} {a i : Int} (h : Box w g a i) : g < w.heap.size := row_lt h
theorem box_below {w w' : World} {g : Nat} {a i : Int} (h : Box w g a i) (hb : Below w.heap.size w w') : Box w' g a i := (hb.block _ (box_lt h)).trans h
/-- May an ID be? -/
def vid (a i : Int) : Bool := decide (1 ≤ a ∧ a ≤ 12 ∧ 1 ≤ i ∧ i ≤ 1048576)
theorem less_any (a i b j : Int) (w : World) :
    Calls Try.prog 40 #[.agg #[.int .i64 a, .int .i64 i], .agg #[.int .i64 b, .int .i64 j]] w fun e w' => e = .returned (.bool (lss a i b j)) ∧ Below w.heap.size w w' := by
  have hb := Lib.hid (fun o o' : Obj => (((Below.refl w.heap.size w).alloc (Nat.le_refl _) o).alloc (by simp) o'))
  by_cases h1 : a < b
  · have h5 := Lib.hid (show lss a i b j = true by simp [lss]; omega)
    go_enter Try.func40, Try.ntmps40
    go_wp2_with fail
    go_ret
    exact ⟨by rw [h5.out]; rfl, hb.out _ _⟩
  · by_cases h2 : a = b
    · subst h2
      by_cases h3 : i < j
      · have h5 := Lib.hid (show lss a i a j = true by simp [lss]; omega)
        go_enter Try.func40, Try.ntmps40
        go_wp2_with fail
        go_ret
        exact ⟨by rw [h5.out]; rfl, hb.out _ _⟩
      · have h5 := Lib.hid (show lss a i a j = false by simp [lss]; omega)
        go_enter Try.func40, Try.ntmps40
        go_wp2_with fail
        go_ret
        exact ⟨by rw [h5.out]; rfl, hb.out _ _⟩
    · have h5 := Lib.hid (show lss a i b j = false by simp [lss]; omega)
      have h3 : (a == b) = false := by simpa using h2
      go_enter Try.func40, Try.ntmps40
      go_wp2_with fail
      go_ret
      exact ⟨by rw [h5.out]; rfl, hb.out _ _⟩
theorem refLess_any (a i b j : Int) (w : World) :
    Calls Try.prog 43 #[.agg #[.int .i64 a, .int .i64 i], .agg #[.int .i64 b, .int .i64 j]] w fun e w' => e = .returned (.bool (lss a i b j)) ∧ Below w.heap.size w w' := by
  have hb := Lib.hid (fun o o' : Obj => (((Below.refl w.heap.size w).alloc (Nat.le_refl _) o).alloc (by simp) o'))
  by_cases h2 : a = b
  · subst h2
    by_cases h3 : i < j
    · have h5 := Lib.hid (show lss a i a j = true by simp [lss]; omega)
      go_enter Try.func43, Try.ntmps43
      go_wp2_with fail
      go_ret
      exact ⟨by rw [h5.out]; rfl, hb.out _ _⟩
    · have h5 := Lib.hid (show lss a i a j = false by simp [lss]; omega)
      go_enter Try.func43, Try.ntmps43
      go_wp2_with fail
      go_ret
      exact ⟨by rw [h5.out]; rfl, hb.out _ _⟩
  · have h4 : (a == b) = false := by simpa using h2
    have h6 : (a != b) = true := by simpa using h2
    by_cases h1 : a < b
    · have h5 := Lib.hid (show lss a i b j = true by simp [lss]; omega)
      go_enter Try.func43, Try.ntmps43
      go_wp2_with fail
      go_ret
      exact ⟨by rw [h5.out]; rfl, hb.out _ _⟩
    · have h5 := Lib.hid (show lss a i b j = false by simp [lss]; omega)
      go_enter Try.func43, Try.ntmps43
      go_wp2_with fail
      go_ret
      exact ⟨by rw [h5.out]; rfl, hb.out _ _⟩
theorem two_boxes (w : World) (a i b j : Int) : Box ((w.alloc (.cells #[.int .i64 a, .int .i64 i] 24)).alloc (.cells #[.int .i64 b, .int .i64 j] 24)) w.heap.size a i ∧ Box ((w.alloc (.cells #[.int .i64 a, .int .i64 i] 24)).alloc (.cells #[.int .i64 b, .int .i64 j] 24)) (w.heap.size + 1) b j := by
  refine ⟨(Below.heap_alloc _ _ _ (by simp)).trans (box_new w a i), ?_⟩
  have := box_new (w.alloc (.cells #[.int .i64 a, .int .i64 i] 24)) b j
  simpa using this
theorem below_two (w : World) (o o' : Obj) : Below w.heap.size w ((w.alloc o).alloc o') := ((Below.refl w.heap.size w).alloc (Nat.le_refl _) o).alloc (by simp) o'
set_option maxHeartbeats 1000000 in
theorem compare_any (a i b j : Int) (w : World) :
    Calls Try.prog 33 #[.agg #[.int .i64 a, .int .i64 i], .agg #[.int .i64 b, .int .i64 j]] w fun e w' => e = .returned (.int .i64 (cmpZ a i b j)) ∧ Below w.heap.size w w' := by
  have X0 := Lib.hid (two_boxes w a i b j)
  have B0 := Lib.hid (below_two w (.cells #[.int .i64 a, .int .i64 i] 24) (.cells #[.int .i64 b, .int .i64 j] 24))
  cases h1 : lss a i b j
  · cases h2 : lss b j a i
    · have h5 := Lib.hid (show cmpZ a i b j = 0 by simp [cmpZ, h1, h2])
      have H1 := Lib.hid h1
      have H2 := Lib.hid h2
      clear h1 h2
      go_enter Try.func33, Try.ntmps33
      go_wp2_with fail
      refine (less_any _ _ _ _ _).mono ?_
      rintro e w1 ⟨rfl, h⟩
      rw [H1.out]
      have X1 := Lib.hid (And.intro (box_below X0.out.1 h) (box_below X0.out.2 h))
      have B1 := Lib.hid (below_after B0.out h (Nat.le_refl _))
      clear h
      obtain ⟨c1, c2⟩ := box_cells X1.out.1
      obtain ⟨c3, c4⟩ := box_cells X1.out.2
      go_wp2_with fail
      refine (less_any _ _ _ _ _).mono ?_
      rintro e w2 ⟨rfl, h⟩
      rw [H2.out]
      have B2 := Lib.hid (below_after B1.out h (Nat.le_refl _))
      clear h c1 c2 c3 c4
      go_wp2_with fail
      go_ret
      exact ⟨ret_int h5.out.symm, B2.out⟩
    · have h5 := Lib.hid (show cmpZ a i b j = 1 by simp [cmpZ, h1, h2])
      have H1 := Lib.hid h1
      have H2 := Lib.hid h2
      clear h1 h2
      go_enter Try.func33, Try.ntmps33
      go_wp2_with fail
      refine (less_any _ _ _ _ _).mono ?_
      rintro e w1 ⟨rfl, h⟩
      rw [H1.out]
      have X1 := Lib.hid (And.intro (box_below X0.out.1 h) (box_below X0.out.2 h))
      have B1 := Lib.hid (below_after B0.out h (Nat.le_refl _))
      clear h
      obtain ⟨c1, c2⟩ := box_cells X1.out.1
      obtain ⟨c3, c4⟩ := box_cells X1.out.2
      go_wp2_with fail
      refine (less_any _ _ _ _ _).mono ?_
      rintro e w2 ⟨rfl, h⟩
      rw [H2.out]
      have B2 := Lib.hid (below_after B1.out h (Nat.le_refl _))
      clear h c1 c2 c3 c4
      go_wp2_with fail
      go_ret
      exact ⟨ret_int h5.out.symm, B2.out⟩
  · have h5 := Lib.hid (show cmpZ a i b j = -1 by simp [cmpZ, h1])
    have H1 := Lib.hid h1
    clear h1
    go_enter Try.func33, Try.ntmps33
    go_wp2_with fail
    refine (less_any _ _ _ _ _).mono ?_
    rintro e w1 ⟨rfl, h⟩
    rw [H1.out]
    have B1 := Lib.hid (below_after B0.out h (Nat.le_refl _))
    clear h
    go_wp2_with fail
    go_ret
    exact ⟨ret_int h5.out.symm, B1.out⟩
/-- A function that says of which lists IDs are kept: its number, and what it says. -/
def Keeps (K : Nat) (k : Bool → Bool → Bool) : Prop := (K = 39 ∧ k = fun _ _ => true) ∨ (K = 29 ∧ k = fun a b => a && !b)
theorem keeps_all : Keeps 39 (fun _ _ => true) := .inl ⟨rfl, rfl⟩
theorem keeps_not : Keeps 29 (fun a b => a && !b) := .inr ⟨rfl, rfl⟩
theorem keep39 (x y : Bool) (w : World) : Calls Try.prog 39 #[.bool x, .bool y] w fun e w' => e = .returned (.bool true) ∧ w = w' := by
  go_enter Try.func39, Try.ntmps39
  go_wp2_with fail
  go_ret
  exact ⟨rfl, rfl⟩
theorem keep29 (x y : Bool) (w : World) : Calls Try.prog 29 #[.bool x, .bool y] w fun e w' => e = .returned (.bool (x && !y)) ∧ w = w' := by
  cases x <;> cases y
  all_goals
    go_enter Try.func29, Try.ntmps29
    go_wp2_with fail
    go_ret
    exact ⟨rfl, rfl⟩
theorem keeps_any {K : Nat} {k : Bool → Bool → Bool} (h : Keeps K k) (x y : Bool) (w : World) : Calls Try.prog K #[.bool x, .bool y] w fun e w' => e = .returned (.bool (k x y)) ∧ w = w' := by
  rcases h with ⟨rfl, rfl⟩ | ⟨rfl, rfl⟩
  · exact keep39 x y w
  · exact keep29 x y w
end Go.Proofs.Ytmgkbfhkipfimaa
