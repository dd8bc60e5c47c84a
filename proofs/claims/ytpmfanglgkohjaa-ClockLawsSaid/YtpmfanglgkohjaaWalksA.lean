/-
  Walks over the order of IDs and of ticks, and over what the list of ticks is sorted by. No statement is proved in this text; it holds for every input that its premises let by.
-/
import Derived.Test.YtpmfanglgkohjaaBase
import Derived.Test.YtpmfanglgkohjaaMath
import Derived.Test.YtpmfanglgkohjaaRecs
import Derived.WalkKit
import Derived.WalkSpells
import Derived.WalkLawsBesides
import Derived.OwnWalk
import Derived.Deep.AppendLies
import Derived.Outline
import Derived.IntWalk
import Derived.Deep.LoopGhost
import Derived.Handy
import Derived.Lib.Hide
import Derived.Deep.RegionWith
import Derived.Deep.RegionHeld3
import Derived.BigQuiet
import Derived.Deep.QuietTactic
import Derived.Sort.Grow
namespace Go.Proofs.Ytpmfanglgkohjaa
open Go.RowKit Sets Clocks
theorem ret_int {k : IntKind} {a b : Int} (h : a = b) : Ending.returned (.int k a) = .returned (.int k b) := by rw [h]
theorem ret_bool {a b : Bool} (h : a = b) : Ending.returned (.bool a) = .returned (.bool b) := by rw [h]
theorem below_after {B : Nat} {w w1 w2 : World} (h : Below B w w1) (k : Below w1.heap.size w1 w2) (hB : B ≤ w.heap.size) : Below B w w2 := h.trans (k.mono (Nat.le_trans hB h.size))
theorem below_boxed {B : Nat} {w w1 w2 : World} {o : Obj} (h : Below B w w1) (k : Below (w1.alloc o).heap.size (w1.alloc o) w2) (hB : B ≤ w.heap.size) : Below B w w2 :=
  (h.alloc (Nat.le_trans hB h.size) o).trans (k.mono (by have := h.size; simp; omega))
theorem below_drewN {B n : Nat} {w w1 : World} (h : Below B w w1) : Below B w (w1.drewN n) := ⟨h.os, h.tape, h.output, h.size, h.block⟩
theorem row_lt {w : World} {g : Nat} {o : Obj} (h : w.heap[g]? = some o) : g < w.heap.size := by
  rcases Nat.lt_or_ge g w.heap.size with hlt | hge
  · exact hlt
  · rw [Array.getElem?_eq_none hge] at h; cases h
/-- Block g holds an ID. -/
def Box (w : World) (g : Nat) (a i : Int) : Prop := w.heap[g]? = some (.cells #[.int .i64 a, .int .i64 i] 28 (0, 0))
theorem box_cells {w : World} {g : Nat} {a i : Int} (h : Box w g a i) : w.cell? ⟨g, 0, none⟩ = some (.int .i64 a) ∧ w.cell? ⟨g, 1, none⟩ = some (.int .i64 i) := by
  unfold Box at h
  exact ⟨by rw [cell_of_row _ _ 0 _ _ _ h]; rfl, by rw [cell_of_row _ _ 1 _ _ _ h]; rfl⟩
theorem box_new (w : World) (a i : Int) : Box (w.alloc (.cells #[.int .i64 a, .int .i64 i] 28)) w.heap.size a i := heap_alloc_new w _
theorem box_lt {w : World} {g : Nat} {a i : Int} (h : Box w g a i) : g < w.heap.size := row_lt h
theorem box_below {w w' : World} {g : Nat} {a i : Int} (h : Box w g a i) (hb : Below w.heap.size w w') : Box w' g a i := (hb.block _ (box_lt h)).trans h
/-- May an ID be? -/
def vid (a i : Int) : Bool := decide (1 ≤ a ∧ a ≤ 12 ∧ 1 ≤ i ∧ i ≤ 1048576)
theorem may_any (a i : Int) (w : World) :
    Calls Try.prog 20 #[.agg #[.int .i64 a, .int .i64 i]] w fun e w' => e = .returned (.bool (vid a i)) ∧ Below w.heap.size w w' := by
  by_cases h1 : 1 ≤ a
  · by_cases h2 : a ≤ 12
    · by_cases h3 : 1 ≤ i
      · by_cases h4 : i ≤ 1048576
        · have h5 := Lib.hid (show vid a i = true by simp [vid]; omega)
          go_enter Try.func20, Try.ntmps20
          go_wp2_with fail
          go_ret
          exact ⟨by rw [h5.out]; rfl, (Below.refl _ _).alloc (Nat.le_refl _) _⟩
        · have h5 := Lib.hid (show vid a i = false by simp [vid]; omega)
          go_enter Try.func20, Try.ntmps20
          go_wp2_with fail
          go_ret
          exact ⟨by rw [h5.out]; rfl, (Below.refl _ _).alloc (Nat.le_refl _) _⟩
      · have h5 := Lib.hid (show vid a i = false by simp [vid]; omega)
        go_enter Try.func20, Try.ntmps20
        go_wp2_with fail
        go_ret
        exact ⟨by rw [h5.out]; rfl, (Below.refl _ _).alloc (Nat.le_refl _) _⟩
    · have h5 := Lib.hid (show vid a i = false by simp [vid]; omega)
      go_enter Try.func20, Try.ntmps20
      go_wp2_with fail
      go_ret
      exact ⟨by rw [h5.out]; rfl, (Below.refl _ _).alloc (Nat.le_refl _) _⟩
  · have h5 := Lib.hid (show vid a i = false by simp [vid]; omega)
    go_enter Try.func20, Try.ntmps20
    go_wp2_with fail
    go_ret
    exact ⟨by rw [h5.out]; rfl, (Below.refl _ _).alloc (Nat.le_refl _) _⟩
/-- A world that has come of another one by draws and new memory alone. -/
def Grew (w w' : World) : Prop := ∃ q os, w' = Go.Sort.grow (w.drewN q) os
theorem Grew.refl (w : World) : Grew w w := ⟨0, #[], by rw [Go.Sort.grow_empty]; rfl⟩
theorem Grew.drew {w w' : World} (h : Grew w w') : Grew w w'.drew := by
  obtain ⟨q, os, rfl⟩ := h
  exact ⟨q + 1, os, rfl⟩
theorem Grew.drewN {w w' : World} (h : Grew w w') (n : Nat) : Grew w (w'.drewN n) := by
  obtain ⟨q, os, rfl⟩ := h
  refine ⟨q + n, os, ?_⟩
  simp [World.drewN, Go.Sort.grow, Nat.add_assoc]
theorem Grew.grow {w w' : World} (h : Grew w w') (os : Array Obj) : Grew w (Go.Sort.grow w' os) := by
  obtain ⟨q, os', rfl⟩ := h
  exact ⟨q, os' ++ os, Go.Sort.grow_grow _ _ _⟩
theorem Grew.alloc {w w' : World} (h : Grew w w') (o : Obj) : Grew w (w'.alloc o) := by rw [Go.Sort.alloc_eq_grow]; exact h.grow _
theorem Grew.trans {w w' w'' : World} (h : Grew w w') (k : Grew w' w'') : Grew w w'' := by
  obtain ⟨q, os, rfl⟩ := k
  exact (h.drewN q).grow os
theorem Grew.size {w w' : World} (h : Grew w w') : w.heap.size ≤ w'.heap.size := by
  obtain ⟨q, os, rfl⟩ := h
  simp [Go.Sort.grow, World.drewN]
theorem Grew.below {w w' : World} (h : Grew w w') : Below w.heap.size w w' := by
  obtain ⟨q, os, rfl⟩ := h
  exact ⟨rfl, rfl, rfl, by simp [Go.Sort.grow, World.drewN], fun k hk => Go.Sort.heap_grow_old (w.drewN q) os hk⟩
theorem grew_two (w : World) (o o' : Obj) : Grew w ((w.alloc o).alloc o') := ((Grew.refl w).alloc o).alloc o'
theorem less_grew (a i b j : Int) (w : World) :
    Calls Try.prog 21 #[.agg #[.int .i64 a, .int .i64 i], .agg #[.int .i64 b, .int .i64 j]] w fun e w' => e = .returned (.bool (lss a i b j)) ∧ Grew w w' := by
  have hb := Lib.hid (grew_two w)
  by_cases h1 : a < b
  · have h5 := Lib.hid (show lss a i b j = true by simp [lss]; omega)
    go_enter Try.func21, Try.ntmps21
    go_wp2_with fail
    go_ret
    exact ⟨by rw [h5.out]; rfl, hb.out _ _⟩
  · by_cases h2 : a = b
    · subst h2
      by_cases h3 : i < j
      · have h5 := Lib.hid (show lss a i a j = true by simp [lss]; omega)
        go_enter Try.func21, Try.ntmps21
        go_wp2_with fail
        go_ret
        exact ⟨by rw [h5.out]; rfl, hb.out _ _⟩
      · have h5 := Lib.hid (show lss a i a j = false by simp [lss]; omega)
        go_enter Try.func21, Try.ntmps21
        go_wp2_with fail
        go_ret
        exact ⟨by rw [h5.out]; rfl, hb.out _ _⟩
    · have h5 := Lib.hid (show lss a i b j = false by simp [lss]; omega)
      have h3 : (a == b) = false := by simpa using h2
      go_enter Try.func21, Try.ntmps21
      go_wp2_with fail
      go_ret
      exact ⟨by rw [h5.out]; rfl, hb.out _ _⟩
theorem less_any (a i b j : Int) (w : World) :
    Calls Try.prog 21 #[.agg #[.int .i64 a, .int .i64 i], .agg #[.int .i64 b, .int .i64 j]] w fun e w' => e = .returned (.bool (lss a i b j)) ∧ Below w.heap.size w w' :=
  (less_grew a i b j w).mono fun _ _ ⟨h1, h2⟩ => ⟨h1, h2.below⟩
theorem two_boxes (w : World) (a i b j : Int) : Box ((w.alloc (.cells #[.int .i64 a, .int .i64 i] 28)).alloc (.cells #[.int .i64 b, .int .i64 j] 28)) w.heap.size a i ∧ Box ((w.alloc (.cells #[.int .i64 a, .int .i64 i] 28)).alloc (.cells #[.int .i64 b, .int .i64 j] 28)) (w.heap.size + 1) b j := by
  refine ⟨(Below.heap_alloc _ _ _ (by simp)).trans (box_new w a i), ?_⟩
  have := box_new (w.alloc (.cells #[.int .i64 a, .int .i64 i] 28)) b j
  simpa using this
theorem below_two (w : World) (o o' : Obj) : Below w.heap.size w ((w.alloc o).alloc o') := ((Below.refl w.heap.size w).alloc (Nat.le_refl _) o).alloc (by simp) o'
set_option maxHeartbeats 1000000 in
theorem compare_grew (a i b j : Int) (w : World) :
    Calls Try.prog 32 #[.agg #[.int .i64 a, .int .i64 i], .agg #[.int .i64 b, .int .i64 j]] w fun e w' => e = .returned (.int .i64 (cmpZ a i b j)) ∧ Grew w w' := by
  have X0 := Lib.hid (two_boxes w a i b j)
  have B0 := Lib.hid (grew_two w (.cells #[.int .i64 a, .int .i64 i] 28) (.cells #[.int .i64 b, .int .i64 j] 28))
  cases h1 : lss a i b j
  · cases h2 : lss b j a i
    · have h5 := Lib.hid (show cmpZ a i b j = 0 by simp [cmpZ, h1, h2])
      have H1 := Lib.hid h1
      have H2 := Lib.hid h2
      clear h1 h2
      go_enter Try.func32, Try.ntmps32
      go_wp2_with fail
      refine (less_grew _ _ _ _ _).mono ?_
      rintro e w1 ⟨rfl, h⟩
      rw [H1.out]
      have X1 := Lib.hid (And.intro (box_below X0.out.1 h.below) (box_below X0.out.2 h.below))
      have B1 := Lib.hid (B0.out.trans h)
      clear h
      obtain ⟨c1, c2⟩ := box_cells X1.out.1
      obtain ⟨c3, c4⟩ := box_cells X1.out.2
      go_wp2_with fail
      refine (less_grew _ _ _ _ _).mono ?_
      rintro e w2 ⟨rfl, h⟩
      rw [H2.out]
      have B2 := Lib.hid (B1.out.trans h)
      clear h c1 c2 c3 c4
      go_wp2_with fail
      go_ret
      exact ⟨ret_int h5.out.symm, B2.out⟩
    · have h5 := Lib.hid (show cmpZ a i b j = 1 by simp [cmpZ, h1, h2])
      have H1 := Lib.hid h1
      have H2 := Lib.hid h2
      clear h1 h2
      go_enter Try.func32, Try.ntmps32
      go_wp2_with fail
      refine (less_grew _ _ _ _ _).mono ?_
      rintro e w1 ⟨rfl, h⟩
      rw [H1.out]
      have X1 := Lib.hid (And.intro (box_below X0.out.1 h.below) (box_below X0.out.2 h.below))
      have B1 := Lib.hid (B0.out.trans h)
      clear h
      obtain ⟨c1, c2⟩ := box_cells X1.out.1
      obtain ⟨c3, c4⟩ := box_cells X1.out.2
      go_wp2_with fail
      refine (less_grew _ _ _ _ _).mono ?_
      rintro e w2 ⟨rfl, h⟩
      rw [H2.out]
      have B2 := Lib.hid (B1.out.trans h)
      clear h c1 c2 c3 c4
      go_wp2_with fail
      go_ret
      exact ⟨ret_int h5.out.symm, B2.out⟩
  · have h5 := Lib.hid (show cmpZ a i b j = -1 by simp [cmpZ, h1])
    have H1 := Lib.hid h1
    clear h1
    go_enter Try.func32, Try.ntmps32
    go_wp2_with fail
    refine (less_grew _ _ _ _ _).mono ?_
    rintro e w1 ⟨rfl, h⟩
    rw [H1.out]
    have B1 := Lib.hid (B0.out.trans h)
    clear h
    go_wp2_with fail
    go_ret
    exact ⟨ret_int h5.out.symm, B1.out⟩

/-- A tick's three cells. -/
def encT (t : Tick) : List Value := [.int .i64 t.1.1, .int .i64 t.1.2, .int .i64 t.2]
theorem encT_len (t : Tick) : (encT t).length = 3 := rfl
theorem encT_one (t : Tick) : ∀ u ∈ encT t, u.oneCell' = true := by
  intro u hu
  simp [encT] at hu
  rcases hu with rfl | rfl | rfl <;> rfl
/-- Block g holds a tick. -/
def TBox (w : World) (g : Nat) (a i n : Int) : Prop := w.heap[g]? = some (.cells #[.int .i64 a, .int .i64 i, .int .i64 n] 35 (0, 0))
theorem tbox_cells {w : World} {g : Nat} {a i n : Int} (h : TBox w g a i n) : w.cell? ⟨g, 0, none⟩ = some (.int .i64 a) ∧ w.cell? ⟨g, 1, none⟩ = some (.int .i64 i) ∧ w.cell? ⟨g, 2, none⟩ = some (.int .i64 n) := by
  unfold TBox at h
  exact ⟨by rw [cell_of_row _ _ 0 _ _ _ h]; rfl, by rw [cell_of_row _ _ 1 _ _ _ h]; rfl, by rw [cell_of_row _ _ 2 _ _ _ h]; rfl⟩
theorem tbox_new (w : World) (a i n : Int) : TBox (w.alloc (.cells #[.int .i64 a, .int .i64 i, .int .i64 n] 35)) w.heap.size a i n := heap_alloc_new w _
theorem tbox_lt {w : World} {g : Nat} {a i n : Int} (h : TBox w g a i n) : g < w.heap.size := row_lt h
theorem tbox_below {w w' : World} {g : Nat} {a i n : Int} (h : TBox w g a i n) (hb : Below w.heap.size w w') : TBox w' g a i n := (hb.block _ (tbox_lt h)).trans h
theorem nan_any (a : Int) (w : World) : Calls Try.prog 39 #[.int .i64 a] w fun e w' => e = .returned (.bool false) ∧ w = w' := by
  go_enter Try.func39, Try.ntmps39
  go_wp2_with fail
  go_ret
  exact ⟨by simp, rfl⟩
theorem cmpI_any (a b : Int) (w : World) : Calls Try.prog 33 #[.int .i64 a, .int .i64 b] w fun e w' => e = .returned (.int .i64 (cmpI a b)) ∧ w = w' := by
  by_cases h1 : a < b
  · have h5 := Lib.hid (show cmpI a b = -1 by simp [cmpI, h1])
    go_enter Try.func33, Try.ntmps33
    go_wp2_with (first | (go_at_call 39; refine (nan_any _ _).mono ?_; rintro e w' ⟨rfl, rfl⟩))
    go_ret
    exact ⟨ret_int h5.out.symm, rfl⟩
  · by_cases h2 : b < a
    · have h5 := Lib.hid (show cmpI a b = 1 by simp [cmpI, h1, h2])
      go_enter Try.func33, Try.ntmps33
      go_wp2_with (first | (go_at_call 39; refine (nan_any _ _).mono ?_; rintro e w' ⟨rfl, rfl⟩))
      go_ret
      exact ⟨ret_int h5.out.symm, rfl⟩
    · have h5 := Lib.hid (show cmpI a b = 0 by simp [cmpI, h1, h2])
      go_enter Try.func33, Try.ntmps33
      go_wp2_with (first | (go_at_call 39; refine (nan_any _ _).mono ?_; rintro e w' ⟨rfl, rfl⟩))
      go_ret
      exact ⟨ret_int h5.out.symm, rfl⟩
/-- Block g holds two numbers. -/
def Two (w : World) (g : Nat) (a b : Int) : Prop := w.heap[g]? = some (.cells #[.int .i64 a, .int .i64 b] 3 (0, 0))
theorem two_cells {w : World} {g : Nat} {a b : Int} (h : Two w g a b) : w.cell? ⟨g, 0, none⟩ = some (.int .i64 a) ∧ w.cell? ⟨g, 1, none⟩ = some (.int .i64 b) := by
  unfold Two at h
  exact ⟨by rw [cell_of_row _ _ 0 _ _ _ h]; rfl, by rw [cell_of_row _ _ 1 _ _ _ h]; rfl⟩
theorem or_any (g : Nat) (a b : Int) (w : World) (h : Two w g a b) : Calls Try.prog 31 #[.slice (some ⟨g, 0, none⟩) 2 2] w fun e w' => e = .returned (.int .i64 (orI a b)) ∧ w = w' := by
  obtain ⟨c1, c2⟩ := two_cells h
  clear h
  by_cases h1 : a = 0
  · subst h1
    have h5 := Lib.hid (show orI 0 b = b by simp [orI])
    by_cases h2 : b = 0
    · subst h2
      go_enter Try.func31, Try.ntmps31
      go_wp2_with fail
      refine wp_loop_rounds 3 ?_
      rw [rounds_succ]
      go_wp2_with fail
      rw [rounds_succ]
      go_wp2_with fail
      rw [rounds_succ]
      go_wp2_with fail
      go_ret
      exact ⟨ret_int h5.out.symm, rfl⟩
    · have h3 : (b != 0) = true := by simpa using h2
      go_enter Try.func31, Try.ntmps31
      go_wp2_with fail
      refine wp_loop_rounds 3 ?_
      rw [rounds_succ]
      go_wp2_with fail
      rw [rounds_succ]
      go_wp2_with fail
      go_ret
      exact ⟨ret_int h5.out.symm, rfl⟩
  · have h5 := Lib.hid (show orI a b = a by simp [orI, h1])
    have h3 : (a != 0) = true := by simpa using h1
    go_enter Try.func31, Try.ntmps31
    go_wp2_with fail
    refine wp_loop_rounds 3 ?_
    rw [rounds_succ]
    go_wp2_with fail
    go_ret
    exact ⟨ret_int h5.out.symm, rfl⟩
theorem zeroN_any (a i n : Int) (w : World) : Calls Try.prog 28 #[.agg #[.int .i64 a, .int .i64 i, .int .i64 n]] w fun e w' => e = .returned (.bool (decide (n ≤ 0))) ∧ Below w.heap.size w w' := by
  go_enter Try.func28, Try.ntmps28
  go_wp2_with fail
  go_ret
  exact ⟨rfl, (Below.refl _ _).alloc (Nat.le_refl _) _⟩
theorem sameI_any (a i n b j m : Int) (w : World) : Calls Try.prog 35 #[.agg #[.int .i64 a, .int .i64 i, .int .i64 n], .agg #[.int .i64 b, .int .i64 j, .int .i64 m]] w fun e w' => e = .returned (.bool (decide ((a, i) = (b, j)))) ∧ Below w.heap.size w w' := by
  have hb := Lib.hid fun o o' => (grew_two w o o').below
  by_cases h1 : a = b
  · subst h1
    by_cases h2 : i = j
    · subst h2
      go_enter Try.func35, Try.ntmps35
      go_wp2_with fail
      go_ret
      exact ⟨by simp, hb.out _ _⟩
    · have h3 : (i == j) = false := by simpa using h2
      go_enter Try.func35, Try.ntmps35
      go_wp2_with fail
      go_ret
      exact ⟨by simp [h2], hb.out _ _⟩
  · have h3 : (a == b) = false := by simpa using h1
    go_enter Try.func35, Try.ntmps35
    go_wp2_with fail
    go_ret
    exact ⟨by simp [h1], hb.out _ _⟩
end Go.Proofs.Ytpmfanglgkohjaa
