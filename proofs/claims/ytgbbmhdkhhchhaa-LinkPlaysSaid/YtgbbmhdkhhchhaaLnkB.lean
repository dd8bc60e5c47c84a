/-
  Walks: whether an ID may be, why a frame is refused, and what it makes of what is known of an address. No statement is proved in this text.
-/
import Derived.Test.YtgbbmhdkhhchhaaRows
import Derived.Test.YtgbbmhdkhhchhaaLnkA
import Derived.WalkKit
import Derived.WalkSpells
import Derived.WalkLawsBesides
import Derived.OwnWalk
import Derived.Outline
import Derived.IntWalk
import Derived.Below
import Derived.Carry
import Derived.Deep.LoopGhost
import Derived.Handy
import Derived.Lib.Hide
import Derived.Deep.RegionWith
import Derived.Deep.RegionHeld3
import Derived.BigQuiet
import Derived.Deep.QuietTactic
set_option maxRecDepth 20000
namespace Go.Proofs.Ytgbbmhdkhhchhaa
open Go Go.RowKit
theorem ret_int {k : IntKind} {a b : Int} (h : a = b) : Ending.returned (.int k a) = .returned (.int k b) := by rw [h]
theorem ret_bool {a b : Bool} (h : a = b) : Ending.returned (.bool a) = .returned (.bool b) := by rw [h]
theorem below_boxed {B : Nat} {w w1 w2 : World} {o : Obj} (h : Below B w w1) (k : Below (w1.alloc o).heap.size (w1.alloc o) w2) (hB : B ≤ w.heap.size) : Below B w w2 :=
  (h.alloc (Nat.le_trans hB h.size) o).trans (k.mono (by have := h.size; simp; omega))
theorem below_drewN {B n : Nat} {w w1 : World} (h : Below B w w1) : Below B w (w1.drewN n) := ⟨h.os, h.tape, h.output, h.size, h.block⟩
theorem below_one (w : World) (o : Obj) : Below w.heap.size w (w.alloc o) := (Below.refl _ _).alloc (Nat.le_refl _) _
theorem row_lt {w : World} {g : Nat} {o : Obj} (h : w.heap[g]? = some o) : g < w.heap.size := by
  rcases Nat.lt_or_ge g w.heap.size with hlt | hge
  · exact hlt
  · rw [Array.getElem?_eq_none hge] at h; cases h
/-- Block g holds an ID. -/
def Box (w : World) (g : Nat) (a i : Int) : Prop := w.heap[g]? = some (.cells #[.int .i64 a, .int .i64 i] 23 (0, 0))
theorem box_cells {w : World} {g : Nat} {a i : Int} (h : Box w g a i) : w.cell? ⟨g, 0, none⟩ = some (.int .i64 a) ∧ w.cell? ⟨g, 1, none⟩ = some (.int .i64 i) := by
  unfold Box at h
  exact ⟨by rw [cell_of_row _ _ 0 _ _ _ h]; rfl, by rw [cell_of_row _ _ 1 _ _ _ h]; rfl⟩
theorem box_new (w : World) (a i : Int) : Box (w.alloc (.cells #[.int .i64 a, .int .i64 i] 23)) w.heap.size a i := heap_alloc_new w _
theorem box_lt {w : World} {g : Nat} {a i : Int} (h : Box w g a i) : g < w.heap.size := row_lt h
theorem box_below {w w' : World} {g B : Nat} {a i : Int} (h : Box w g a i) (hb : Below B w w') (hg : g < B) : Box w' g a i := (hb.block _ hg).trans h
/-- Block g holds what is known of an address. -/
def PBox (w : World) (g : Nat) (p : Pr) : Prop := w.heap[g]? = some (.cells #[.int .i64 p.nw, .int .i64 p.fe, .int .i64 p.be, .int .i64 p.re] 62 (0, 0))
theorem pbox_cells {w : World} {g : Nat} {p : Pr} (h : PBox w g p) : w.cell? ⟨g, 0, none⟩ = some (.int .i64 p.nw) ∧ w.cell? ⟨g, 1, none⟩ = some (.int .i64 p.fe) ∧ w.cell? ⟨g, 2, none⟩ = some (.int .i64 p.be) ∧ w.cell? ⟨g, 3, none⟩ = some (.int .i64 p.re) := by
  unfold PBox at h
  refine ⟨?_, ?_, ?_, ?_⟩ <;> (rw [cell_of_row _ _ _ _ _ _ h]; rfl)
theorem pbox_free {w : World} {g : Nat} {p : Pr} (h : PBox w g p) : w.frozen? ⟨g, 0, none⟩ = false ∧ w.frozen? ⟨g, 1, none⟩ = false ∧ w.frozen? ⟨g, 2, none⟩ = false ∧ w.frozen? ⟨g, 3, none⟩ = false := by
  unfold PBox at h
  refine ⟨?_, ?_, ?_, ?_⟩ <;> simp [World.frozen?, h]
theorem pbox_new (w : World) (p : Pr) : PBox (w.alloc (.cells #[.int .i64 p.nw, .int .i64 p.fe, .int .i64 p.be, .int .i64 p.re] 62)) w.heap.size p := heap_alloc_new w _
theorem pbox_lt {w : World} {g : Nat} {p : Pr} (h : PBox w g p) : g < w.heap.size := row_lt h
theorem pbox_below {w w' : World} {g B : Nat} {p : Pr} (h : PBox w g p) (hb : Below B w w') (hg : g < B) : PBox w' g p := (hb.block _ hg).trans h
/-- Block g holds a frame. -/
def FBox (w : World) (g : Nat) (F : Fm) : Prop := w.heap[g]? = some (.cells #[.int .u8 F.k, .int .i64 F.f1, .int .i64 F.f2, .int .i64 F.t1, .int .i64 F.t2, .int .i64 F.n, .int .i64 0, .int .i64 0, .int .i64 0, .slice none 0 0, .slice none 0 0, .slice none 0 0, .slice none 0 0, .slice none 0 0] 42 (0, 0))
theorem fbox_cells {w : World} {g : Nat} {F : Fm} (h : FBox w g F) : w.cell? ⟨g, 0, none⟩ = some (.int .u8 F.k) ∧ w.cell? ⟨g, 1, none⟩ = some (.int .i64 F.f1) ∧ w.cell? ⟨g, 2, none⟩ = some (.int .i64 F.f2) ∧ w.cell? ⟨g, 3, none⟩ = some (.int .i64 F.t1) ∧ w.cell? ⟨g, 4, none⟩ = some (.int .i64 F.t2) ∧ w.cell? ⟨g, 5, none⟩ = some (.int .i64 F.n) := by
  unfold FBox at h
  refine ⟨?_, ?_, ?_, ?_, ?_, ?_⟩ <;> (rw [cell_of_row _ _ _ _ _ _ h]; rfl)
theorem fbox_new (w : World) (F : Fm) : FBox (w.alloc (.cells #[.int .u8 F.k, .int .i64 F.f1, .int .i64 F.f2, .int .i64 F.t1, .int .i64 F.t2, .int .i64 F.n, .int .i64 0, .int .i64 0, .int .i64 0, .slice none 0 0, .slice none 0 0, .slice none 0 0, .slice none 0 0, .slice none 0 0] 42)) w.heap.size F := heap_alloc_new w _
theorem fbox_lt {w : World} {g : Nat} {F : Fm} (h : FBox w g F) : g < w.heap.size := row_lt h
theorem fbox_below {w w' : World} {g B : Nat} {F : Fm} (h : FBox w g F) (hb : Below B w w') (hg : g < B) : FBox w' g F := (hb.block _ hg).trans h
theorem may_is (b : Bool) (a i : Int) (h : mayI a i = b) (w : World) :
    Calls Try.prog 23 #[.agg #[.int .i64 a, .int .i64 i]] w fun e w' => e = .returned (.bool b) ∧ Below w.heap.size w w' := by
  subst h
  by_cases h1 : 1 ≤ a
  · by_cases h2 : a ≤ 12
    · by_cases h3 : 1 ≤ i
      · by_cases h4 : i ≤ 1048576
        · have h5 := Lib.hid (show mayI a i = true by simp [mayI]; omega)
          go_enter Try.func23, Try.ntmps23
          go_wp2_with fail
          go_ret
          exact ⟨by rw [h5.out]; rfl, (Below.refl _ _).alloc (Nat.le_refl _) _⟩
        · have h5 := Lib.hid (show mayI a i = false by simp [mayI]; omega)
          go_enter Try.func23, Try.ntmps23
          go_wp2_with fail
          go_ret
          exact ⟨by rw [h5.out]; rfl, (Below.refl _ _).alloc (Nat.le_refl _) _⟩
      · have h5 := Lib.hid (show mayI a i = false by simp [mayI]; omega)
        go_enter Try.func23, Try.ntmps23
        go_wp2_with fail
        go_ret
        exact ⟨by rw [h5.out]; rfl, (Below.refl _ _).alloc (Nat.le_refl _) _⟩
    · have h5 := Lib.hid (show mayI a i = false by simp [mayI]; omega)
      go_enter Try.func23, Try.ntmps23
      go_wp2_with fail
      go_ret
      exact ⟨by rw [h5.out]; rfl, (Below.refl _ _).alloc (Nat.le_refl _) _⟩
  · have h5 := Lib.hid (show mayI a i = false by simp [mayI]; omega)
    go_enter Try.func23, Try.ntmps23
    go_wp2_with fail
    go_ret
    exact ⟨by rw [h5.out]; rfl, (Below.refl _ _).alloc (Nat.le_refl _) _⟩
theorem refMay_is (b : Bool) (a i : Int) (h : mayI a i = b) (w : World) :
    Calls Try.prog 27 #[.agg #[.int .i64 a, .int .i64 i]] w fun e w' => e = .returned (.bool b) ∧ Below w.heap.size w w' := by
  subst h
  by_cases h1 : 1 ≤ a
  · by_cases h2 : a ≤ 12
    · by_cases h3 : 1 ≤ i
      · by_cases h4 : i ≤ 1048576
        · have h5 := Lib.hid (show mayI a i = true by simp [mayI]; omega)
          go_enter Try.func27, Try.ntmps27
          go_wp2_with fail
          go_ret
          exact ⟨by rw [h5.out]; rfl, (Below.refl _ _).alloc (Nat.le_refl _) _⟩
        · have h5 := Lib.hid (show mayI a i = false by simp [mayI]; omega)
          go_enter Try.func27, Try.ntmps27
          go_wp2_with fail
          go_ret
          exact ⟨by rw [h5.out]; rfl, (Below.refl _ _).alloc (Nat.le_refl _) _⟩
      · have h5 := Lib.hid (show mayI a i = false by simp [mayI]; omega)
        go_enter Try.func27, Try.ntmps27
        go_wp2_with fail
        go_ret
        exact ⟨by rw [h5.out]; rfl, (Below.refl _ _).alloc (Nat.le_refl _) _⟩
    · have h5 := Lib.hid (show mayI a i = false by simp [mayI]; omega)
      go_enter Try.func27, Try.ntmps27
      go_wp2_with fail
      go_ret
      exact ⟨by rw [h5.out]; rfl, (Below.refl _ _).alloc (Nat.le_refl _) _⟩
  · have h5 := Lib.hid (show mayI a i = false by simp [mayI]; omega)
    go_enter Try.func27, Try.ntmps27
    go_wp2_with fail
    go_ret
    exact ⟨by rw [h5.out]; rfl, (Below.refl _ _).alloc (Nat.le_refl _) _⟩
theorem fences_any (p : Pr) (a i : Int) (w : World) :
    Calls Try.prog 30 #[.agg #[.int .i64 p.nw, .int .i64 p.fe, .int .i64 p.be, .int .i64 p.re], .agg #[.int .i64 a, .int .i64 i]] w fun e w' => e = .returned (.bool (decide (i ≤ p.fe))) ∧ Below w.heap.size w w' := by
  go_enter Try.func30, Try.ntmps30
  go_wp2_with fail
  go_ret
  exact ⟨rfl, ((Below.refl _ _).alloc (Nat.le_refl _) _).alloc (by simp) _⟩
theorem fences_is (b : Bool) (p : Pr) (a i : Int) (h : decide (i ≤ p.fe) = b) (w : World) :
    Calls Try.prog 30 #[.agg #[.int .i64 p.nw, .int .i64 p.fe, .int .i64 p.be, .int .i64 p.re], .agg #[.int .i64 a, .int .i64 i]] w fun e w' => e = .returned (.bool b) ∧ Below w.heap.size w w' := by
  subst h
  exact fences_any p a i w
set_option maxHeartbeats 1000000 in
theorem refuses_any (p : Pr) (F : Fm) (m1 m2 : Int) (w : World) :
    Calls Try.prog 28 #[.agg #[.int .i64 p.nw, .int .i64 p.fe, .int .i64 p.be, .int .i64 p.re], .agg #[.int .u8 F.k, .int .i64 F.f1, .int .i64 F.f2, .int .i64 F.t1, .int .i64 F.t2, .int .i64 F.n, .int .i64 0, .int .i64 0, .int .i64 0, .slice none 0 0, .slice none 0 0, .slice none 0 0, .slice none 0 0, .slice none 0 0], .agg #[.int .i64 m1, .int .i64 m2]] w fun e w' => e = .returned (.int .i64 (refuse p F m1 m2)) ∧ Below w.heap.size w w' := by
  have B0 : Hid (∀ o1 o2 o3 : Obj, Below w.heap.size w (((w.alloc o1).alloc o2).alloc o3)) := Lib.hid fun o1 o2 o3 => (((Below.refl _ _).alloc (Nat.le_refl _) o1).alloc (by simp) o2).alloc (by simp; omega) o3
  have X1 : Hid (∀ o2 o3 : Obj, PBox (((w.alloc (.cells #[.int .i64 p.nw, .int .i64 p.fe, .int .i64 p.be, .int .i64 p.re] 62)).alloc o2).alloc o3) w.heap.size p) := Lib.hid fun o2 o3 => by
    unfold PBox
    rw [Below.heap_alloc _ _ _ (by simp; omega), Below.heap_alloc _ _ _ (by simp)]
    exact heap_alloc_new w _
  have X2 : Hid (∀ o1 o3 : Obj, FBox (((w.alloc o1).alloc (.cells #[.int .u8 F.k, .int .i64 F.f1, .int .i64 F.f2, .int .i64 F.t1, .int .i64 F.t2, .int .i64 F.n, .int .i64 0, .int .i64 0, .int .i64 0, .slice none 0 0, .slice none 0 0, .slice none 0 0, .slice none 0 0, .slice none 0 0] 42)).alloc o3) (w.heap.size + 1) F) := Lib.hid fun o1 o3 => by
    unfold FBox
    rw [Below.heap_alloc _ _ _ (by simp)]
    have := heap_alloc_new (w.alloc o1) (.cells #[.int .u8 F.k, .int .i64 F.f1, .int .i64 F.f2, .int .i64 F.t1, .int .i64 F.t2, .int .i64 F.n, .int .i64 0, .int .i64 0, .int .i64 0, .slice none 0 0, .slice none 0 0, .slice none 0 0, .slice none 0 0, .slice none 0 0] 42)
    simpa using this
  have X3 : Hid (∀ o1 o2 : Obj, Box (((w.alloc o1).alloc o2).alloc (.cells #[.int .i64 m1, .int .i64 m2] 23)) (w.heap.size + 1 + 1) m1 m2) := Lib.hid fun o1 o2 => by
    have := heap_alloc_new ((w.alloc o1).alloc o2) (.cells #[.int .i64 m1, .int .i64 m2] 23)
    unfold Box
    simpa using this
  by_cases hm : mayI F.f1 F.f2 = true
  · have HM := Lib.hid hm
    clear hm
    go_enter Try.func28, Try.ntmps28
    go_wp2_with fail
    (with_reducible refine (may_is true F.f1 F.f2 HM.out _).mono ?_)
    rintro e1 w1 ⟨rfl, hb⟩
    have B1 := Lib.hid ((B0.out _ _ _).trans (hb.mono (by simp; omega)))
    have Y1 := Lib.hid (pbox_below (X1.out _ _) hb (pbox_lt (X1.out _ _)))
    have Y2 := Lib.hid (fbox_below (X2.out _ _) hb (fbox_lt (X2.out _ _)))
    have Y3 := Lib.hid (box_below (X3.out _ _) hb (box_lt (X3.out _ _)))
    clear hb X1 X2 X3 B0
    obtain ⟨c0, c1, c2, c3⟩ := pbox_cells Y1.out
    obtain ⟨d0, d1, d2, d3, d4, d5⟩ := fbox_cells Y2.out
    obtain ⟨b0, b1⟩ := box_cells Y3.out
    go_wp2_with (go_at_call 30; refine (fences_any p F.f1 F.f2 _).mono ?_; rintro e2 w2 ⟨rfl, hb2⟩; (have _B2 := B1.out.trans (hb2.mono B1.out.size)); clear hb2)
    all_goals
      go_ret
      refine ⟨ret_int ?_, by first | exact B1.out | assumption⟩
      have hm := HM.out
      simp only [bne_iff_ne, ne_eq, beq_iff_eq, bne_eq_false_iff_eq, beq_eq_false_iff_ne] at *
      unfold refuse
      rw [hm]
      (repeat' split) <;> first | rfl | (exfalso; simp only [Bool.true_eq_false, false_or] at *; omega)
  · have R4 := Lib.hid (show refuse p F m1 m2 = 4 by unfold refuse; rw [if_pos]; left; simpa using hm)
    have HM := Lib.hid (show mayI F.f1 F.f2 = false by simpa using hm)
    clear hm
    go_enter Try.func28, Try.ntmps28
    go_wp2_with fail
    (with_reducible refine (may_is false F.f1 F.f2 HM.out _).mono ?_)
    rintro e1 w1 ⟨rfl, hb⟩
    go_wp2_with fail
    go_ret
    exact ⟨by rw [R4.out]; rfl, (B0.out _ _ _).trans (hb.mono (by simp; omega))⟩
end Go.Proofs.Ytgbbmhdkhhchhaa
