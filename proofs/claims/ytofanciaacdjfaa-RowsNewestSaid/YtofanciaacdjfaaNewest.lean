/-
  PROVED HERE: for any two lists of rows, any ID and any list of IDs RowsNewest of package coveylaw06 returns true and leaves its arguments as they were: what was set is in the joined rows, as long as no greater version of that row is.
-/
import Derived.Test.YtofanciaacdjfaaOpenR
import Derived.Test.YtofanciaacdjfaaGotN
import Derived.Test.YtofanciaacdjfaaAwake
import Derived.Test.YtofanciaacdjfaaBase
import Derived.Lib.SmallJoins
namespace Go.Proofs.Ytofanciaacdjfaa
open Go Go.RowKit Sets RowSets
set_option maxHeartbeats 8000000 in
set_option maxRecDepth 100000 in
theorem newest_long0 (v0 : Value) (l0 : List Row) (v1 : Value) (l1 : List Row) (x y : Int) (v3 : Value) (l3 : List Id2) (w : World) (h0 : RowsAt w v0 l0) (h1 : RowsAt w v1 l1) (h3 : Ids w v3 l3) (a0 : longB l0 = true) :
    Calls Try.prog 5 #[v0, v1, .agg #[.int .i64 x, .int .i64 y], v3] w fun e w' => e = .returned (.bool true) ∧ Below w.heap.size w w' := by
  have B00 := Lib.hid (below_one w (.cells #[.int .i64 x, .int .i64 y] 23))
  have X00 := Lib.hid (box_new w x y)
  have I0 := Lib.hid (h0.below B00.out)
  have I1 := Lib.hid (h1.below B00.out)
  have I3 := Lib.hid (h3.below B00.out)
  obtain ⟨A0, c0, rfl, hz0⟩ := h0.shape
  obtain ⟨A1, c1, rfl, hz1⟩ := h1.shape
  obtain ⟨A3, c3, rfl, hz3, _⟩ := id h3
  have Ha0 := Lib.hid a0
  clear h0 h1 h3 hz0 hz1 hz3 a0
  go_enter Try.func5, Try.ntmps5
  have B0 := Lib.hid B00.out
  have J0 := Lib.hid I0.out
  have J1 := Lib.hid I1.out
  have J3 := Lib.hid I3.out
  have XX := Lib.hid X00.out
  obtain ⟨x1, x2⟩ := box_cells XX.out
  go_wp2_with fail
  refine (long_any _ l0 _ J0.out).mono ?_
  rw [Ha0.out]
  rintro e w1 ⟨rfl, hb⟩
  have B1 := Lib.hid (below_after B0.out hb (Nat.le_refl _))
  have IL01 := Lib.hid (J0.out.below hb)
  have IL11 := Lib.hid (J1.out.below hb)
  have IL31 := Lib.hid (J3.out.below hb)
  clear x1 x2
  have X0_1 := Lib.hid (box_below XX.out hb)
  obtain ⟨x1, x2⟩ := box_cells X0_1.out
  clear hb
  go_wp2_with fail
  refine (awake_any _).mono ?_
  rintro e w2 ⟨rfl, hb⟩
  have B2 := Lib.hid (below_after B1.out hb (Nat.le_refl _))
  have IL02 := Lib.hid (IL01.out.below hb)
  have IL12 := Lib.hid (IL11.out.below hb)
  have IL32 := Lib.hid (IL31.out.below hb)
  clear x1 x2
  have X0_2 := Lib.hid (box_below X0_1.out hb)
  obtain ⟨x1, x2⟩ := box_cells X0_2.out
  clear hb
  go_wp2_with fail
  go_ret
  exact ⟨rfl, B2.out⟩
set_option maxHeartbeats 8000000 in
set_option maxRecDepth 100000 in
theorem newest_long1 (v0 : Value) (l0 : List Row) (v1 : Value) (l1 : List Row) (x y : Int) (v3 : Value) (l3 : List Id2) (w : World) (h0 : RowsAt w v0 l0) (h1 : RowsAt w v1 l1) (h3 : Ids w v3 l3) (a0 : longB l0 = false) (a1 : longB l1 = true) :
    Calls Try.prog 5 #[v0, v1, .agg #[.int .i64 x, .int .i64 y], v3] w fun e w' => e = .returned (.bool true) ∧ Below w.heap.size w w' := by
  have B00 := Lib.hid (below_one w (.cells #[.int .i64 x, .int .i64 y] 23))
  have X00 := Lib.hid (box_new w x y)
  have I0 := Lib.hid (h0.below B00.out)
  have I1 := Lib.hid (h1.below B00.out)
  have I3 := Lib.hid (h3.below B00.out)
  obtain ⟨A0, c0, rfl, hz0⟩ := h0.shape
  obtain ⟨A1, c1, rfl, hz1⟩ := h1.shape
  obtain ⟨A3, c3, rfl, hz3, _⟩ := id h3
  have Ha0 := Lib.hid a0
  have Ha1 := Lib.hid a1
  clear h0 h1 h3 hz0 hz1 hz3 a0 a1
  go_enter Try.func5, Try.ntmps5
  have B0 := Lib.hid B00.out
  have J0 := Lib.hid I0.out
  have J1 := Lib.hid I1.out
  have J3 := Lib.hid I3.out
  have XX := Lib.hid X00.out
  obtain ⟨x1, x2⟩ := box_cells XX.out
  go_wp2_with fail
  refine (long_any _ l0 _ J0.out).mono ?_
  rw [Ha0.out]
  rintro e w1 ⟨rfl, hb⟩
  have B1 := Lib.hid (below_after B0.out hb (Nat.le_refl _))
  have IL01 := Lib.hid (J0.out.below hb)
  have IL11 := Lib.hid (J1.out.below hb)
  have IL31 := Lib.hid (J3.out.below hb)
  clear x1 x2
  have X0_1 := Lib.hid (box_below XX.out hb)
  obtain ⟨x1, x2⟩ := box_cells X0_1.out
  clear hb
  go_wp2_with fail
  refine (long_any _ l1 _ IL11.out).mono ?_
  rw [Ha1.out]
  rintro e w2 ⟨rfl, hb⟩
  have B2 := Lib.hid (below_after B1.out hb (Nat.le_refl _))
  have IL02 := Lib.hid (IL01.out.below hb)
  have IL12 := Lib.hid (IL11.out.below hb)
  have IL32 := Lib.hid (IL31.out.below hb)
  clear x1 x2
  have X0_2 := Lib.hid (box_below X0_1.out hb)
  obtain ⟨x1, x2⟩ := box_cells X0_2.out
  clear hb
  go_wp2_with fail
  refine (awake_any _).mono ?_
  rintro e w3 ⟨rfl, hb⟩
  have B3 := Lib.hid (below_after B2.out hb (Nat.le_refl _))
  have IL03 := Lib.hid (IL02.out.below hb)
  have IL13 := Lib.hid (IL12.out.below hb)
  have IL33 := Lib.hid (IL32.out.below hb)
  clear x1 x2
  have X0_3 := Lib.hid (box_below X0_2.out hb)
  obtain ⟨x1, x2⟩ := box_cells X0_3.out
  clear hb
  go_wp2_with fail
  go_ret
  exact ⟨rfl, B3.out⟩
set_option maxHeartbeats 8000000 in
set_option maxRecDepth 100000 in
theorem newest_long2 (v0 : Value) (l0 : List Row) (v1 : Value) (l1 : List Row) (x y : Int) (v3 : Value) (l3 : List Id2) (w : World) (h0 : RowsAt w v0 l0) (h1 : RowsAt w v1 l1) (h3 : Ids w v3 l3) (a0 : longB l0 = false) (a1 : longB l1 = false) (a2 : decide (80 < (l3.length : Int)) = true) :
    Calls Try.prog 5 #[v0, v1, .agg #[.int .i64 x, .int .i64 y], v3] w fun e w' => e = .returned (.bool true) ∧ Below w.heap.size w w' := by
  have B00 := Lib.hid (below_one w (.cells #[.int .i64 x, .int .i64 y] 23))
  have X00 := Lib.hid (box_new w x y)
  have I0 := Lib.hid (h0.below B00.out)
  have I1 := Lib.hid (h1.below B00.out)
  have I3 := Lib.hid (h3.below B00.out)
  obtain ⟨A0, c0, rfl, hz0⟩ := h0.shape
  obtain ⟨A1, c1, rfl, hz1⟩ := h1.shape
  obtain ⟨A3, c3, rfl, hz3, _⟩ := id h3
  have Ha0 := Lib.hid a0
  have Ha1 := Lib.hid a1
  clear h0 h1 h3 hz0 hz1 hz3 a0 a1
  go_enter Try.func5, Try.ntmps5
  have B0 := Lib.hid B00.out
  have J0 := Lib.hid I0.out
  have J1 := Lib.hid I1.out
  have J3 := Lib.hid I3.out
  have XX := Lib.hid X00.out
  obtain ⟨x1, x2⟩ := box_cells XX.out
  go_wp2_with fail
  refine (long_any _ l0 _ J0.out).mono ?_
  rw [Ha0.out]
  rintro e w1 ⟨rfl, hb⟩
  have B1 := Lib.hid (below_after B0.out hb (Nat.le_refl _))
  have IL01 := Lib.hid (J0.out.below hb)
  have IL11 := Lib.hid (J1.out.below hb)
  have IL31 := Lib.hid (J3.out.below hb)
  clear x1 x2
  have X0_1 := Lib.hid (box_below XX.out hb)
  obtain ⟨x1, x2⟩ := box_cells X0_1.out
  clear hb
  go_wp2_with fail
  refine (long_any _ l1 _ IL11.out).mono ?_
  rw [Ha1.out]
  rintro e w2 ⟨rfl, hb⟩
  have B2 := Lib.hid (below_after B1.out hb (Nat.le_refl _))
  have IL02 := Lib.hid (IL01.out.below hb)
  have IL12 := Lib.hid (IL11.out.below hb)
  have IL32 := Lib.hid (IL31.out.below hb)
  clear x1 x2
  have X0_2 := Lib.hid (box_below X0_1.out hb)
  obtain ⟨x1, x2⟩ := box_cells X0_2.out
  clear hb
  go_wp2_with fail
  refine (awake_any _).mono ?_
  rintro e w3 ⟨rfl, hb⟩
  have B3 := Lib.hid (below_after B2.out hb (Nat.le_refl _))
  have IL03 := Lib.hid (IL02.out.below hb)
  have IL13 := Lib.hid (IL12.out.below hb)
  have IL33 := Lib.hid (IL32.out.below hb)
  clear x1 x2
  have X0_3 := Lib.hid (box_below X0_2.out hb)
  obtain ⟨x1, x2⟩ := box_cells X0_3.out
  clear hb
  go_wp2_with fail
  go_ret
  exact ⟨rfl, B3.out⟩
set_option maxHeartbeats 8000000 in
set_option maxRecDepth 100000 in
theorem newest_may0 (v0 : Value) (l0 : List Row) (v1 : Value) (l1 : List Row) (x y : Int) (v3 : Value) (l3 : List Id2) (w : World) (h0 : RowsAt w v0 l0) (h1 : RowsAt w v1 l1) (h3 : Ids w v3 l3) (a0 : longB l0 = false) (a1 : longB l1 = false) (a2 : decide (80 < (l3.length : Int)) = false) (b0 : mayB l0 = false) :
    Calls Try.prog 5 #[v0, v1, .agg #[.int .i64 x, .int .i64 y], v3] w fun e w' => e = .returned (.bool true) ∧ Below w.heap.size w w' := by
  have B00 := Lib.hid (below_one w (.cells #[.int .i64 x, .int .i64 y] 23))
  have X00 := Lib.hid (box_new w x y)
  have I0 := Lib.hid (h0.below B00.out)
  have I1 := Lib.hid (h1.below B00.out)
  have I3 := Lib.hid (h3.below B00.out)
  obtain ⟨A0, c0, rfl, hz0⟩ := h0.shape
  obtain ⟨A1, c1, rfl, hz1⟩ := h1.shape
  obtain ⟨A3, c3, rfl, hz3, _⟩ := id h3
  have Ha0 := Lib.hid a0
  have Ha1 := Lib.hid a1
  have Hb0 := Lib.hid b0
  clear h0 h1 h3 hz0 hz1 hz3 a0 a1 b0
  go_enter Try.func5, Try.ntmps5
  have B0 := Lib.hid B00.out
  have J0 := Lib.hid I0.out
  have J1 := Lib.hid I1.out
  have J3 := Lib.hid I3.out
  have XX := Lib.hid X00.out
  obtain ⟨x1, x2⟩ := box_cells XX.out
  go_wp2_with fail
  refine (long_any _ l0 _ J0.out).mono ?_
  rw [Ha0.out]
  rintro e w1 ⟨rfl, hb⟩
  have B1 := Lib.hid (below_after B0.out hb (Nat.le_refl _))
  have IL01 := Lib.hid (J0.out.below hb)
  have IL11 := Lib.hid (J1.out.below hb)
  have IL31 := Lib.hid (J3.out.below hb)
  clear x1 x2
  have X0_1 := Lib.hid (box_below XX.out hb)
  obtain ⟨x1, x2⟩ := box_cells X0_1.out
  clear hb
  go_wp2_with fail
  refine (long_any _ l1 _ IL11.out).mono ?_
  rw [Ha1.out]
  rintro e w2 ⟨rfl, hb⟩
  have B2 := Lib.hid (below_after B1.out hb (Nat.le_refl _))
  have IL02 := Lib.hid (IL01.out.below hb)
  have IL12 := Lib.hid (IL11.out.below hb)
  have IL32 := Lib.hid (IL31.out.below hb)
  clear x1 x2
  have X0_2 := Lib.hid (box_below X0_1.out hb)
  obtain ⟨x1, x2⟩ := box_cells X0_2.out
  clear hb
  go_wp2_with fail
  refine (awake_any _).mono ?_
  rintro e w3 ⟨rfl, hb⟩
  have B3 := Lib.hid (below_after B2.out hb (Nat.le_refl _))
  have IL03 := Lib.hid (IL02.out.below hb)
  have IL13 := Lib.hid (IL12.out.below hb)
  have IL33 := Lib.hid (IL32.out.below hb)
  clear x1 x2
  have X0_3 := Lib.hid (box_below X0_2.out hb)
  obtain ⟨x1, x2⟩ := box_cells X0_3.out
  clear hb
  go_wp2_with fail
  refine (may_rows _ l0 _ IL03.out ((lens_long Ha0.out).nots (by omega))).mono ?_
  rw [Hb0.out]
  rintro e w4 ⟨rfl, hb⟩
  have B4 := Lib.hid (below_after B3.out hb (Nat.le_refl _))
  have IL04 := Lib.hid (IL03.out.below hb)
  have IL14 := Lib.hid (IL13.out.below hb)
  have IL34 := Lib.hid (IL33.out.below hb)
  clear x1 x2
  have X0_4 := Lib.hid (box_below X0_3.out hb)
  obtain ⟨x1, x2⟩ := box_cells X0_4.out
  clear hb
  go_wp2_with fail
  go_ret
  exact ⟨rfl, B4.out⟩
set_option maxHeartbeats 8000000 in
set_option maxRecDepth 100000 in
theorem newest_may1 (v0 : Value) (l0 : List Row) (v1 : Value) (l1 : List Row) (x y : Int) (v3 : Value) (l3 : List Id2) (w : World) (h0 : RowsAt w v0 l0) (h1 : RowsAt w v1 l1) (h3 : Ids w v3 l3) (a0 : longB l0 = false) (a1 : longB l1 = false) (a2 : decide (80 < (l3.length : Int)) = false) (b0 : mayB l0 = true) (b1 : mayB l1 = false) :
    Calls Try.prog 5 #[v0, v1, .agg #[.int .i64 x, .int .i64 y], v3] w fun e w' => e = .returned (.bool true) ∧ Below w.heap.size w w' := by
  have B00 := Lib.hid (below_one w (.cells #[.int .i64 x, .int .i64 y] 23))
  have X00 := Lib.hid (box_new w x y)
  have I0 := Lib.hid (h0.below B00.out)
  have I1 := Lib.hid (h1.below B00.out)
  have I3 := Lib.hid (h3.below B00.out)
  obtain ⟨A0, c0, rfl, hz0⟩ := h0.shape
  obtain ⟨A1, c1, rfl, hz1⟩ := h1.shape
  obtain ⟨A3, c3, rfl, hz3, _⟩ := id h3
  have Ha0 := Lib.hid a0
  have Ha1 := Lib.hid a1
  have Hb0 := Lib.hid b0
  have Hb1 := Lib.hid b1
  clear h0 h1 h3 hz0 hz1 hz3 a0 a1 b0 b1
  go_enter Try.func5, Try.ntmps5
  have B0 := Lib.hid B00.out
  have J0 := Lib.hid I0.out
  have J1 := Lib.hid I1.out
  have J3 := Lib.hid I3.out
  have XX := Lib.hid X00.out
  obtain ⟨x1, x2⟩ := box_cells XX.out
  go_wp2_with fail
  refine (long_any _ l0 _ J0.out).mono ?_
  rw [Ha0.out]
  rintro e w1 ⟨rfl, hb⟩
  have B1 := Lib.hid (below_after B0.out hb (Nat.le_refl _))
  have IL01 := Lib.hid (J0.out.below hb)
  have IL11 := Lib.hid (J1.out.below hb)
  have IL31 := Lib.hid (J3.out.below hb)
  clear x1 x2
  have X0_1 := Lib.hid (box_below XX.out hb)
  obtain ⟨x1, x2⟩ := box_cells X0_1.out
  clear hb
  go_wp2_with fail
  refine (long_any _ l1 _ IL11.out).mono ?_
  rw [Ha1.out]
  rintro e w2 ⟨rfl, hb⟩
  have B2 := Lib.hid (below_after B1.out hb (Nat.le_refl _))
  have IL02 := Lib.hid (IL01.out.below hb)
  have IL12 := Lib.hid (IL11.out.below hb)
  have IL32 := Lib.hid (IL31.out.below hb)
  clear x1 x2
  have X0_2 := Lib.hid (box_below X0_1.out hb)
  obtain ⟨x1, x2⟩ := box_cells X0_2.out
  clear hb
  go_wp2_with fail
  refine (awake_any _).mono ?_
  rintro e w3 ⟨rfl, hb⟩
  have B3 := Lib.hid (below_after B2.out hb (Nat.le_refl _))
  have IL03 := Lib.hid (IL02.out.below hb)
  have IL13 := Lib.hid (IL12.out.below hb)
  have IL33 := Lib.hid (IL32.out.below hb)
  clear x1 x2
  have X0_3 := Lib.hid (box_below X0_2.out hb)
  obtain ⟨x1, x2⟩ := box_cells X0_3.out
  clear hb
  go_wp2_with fail
  refine (may_rows _ l0 _ IL03.out ((lens_long Ha0.out).nots (by omega))).mono ?_
  rw [Hb0.out]
  rintro e w4 ⟨rfl, hb⟩
  have B4 := Lib.hid (below_after B3.out hb (Nat.le_refl _))
  have IL04 := Lib.hid (IL03.out.below hb)
  have IL14 := Lib.hid (IL13.out.below hb)
  have IL34 := Lib.hid (IL33.out.below hb)
  clear x1 x2
  have X0_4 := Lib.hid (box_below X0_3.out hb)
  obtain ⟨x1, x2⟩ := box_cells X0_4.out
  clear hb
  go_wp2_with fail
  refine (may_rows _ l1 _ IL14.out ((lens_long Ha1.out).nots (by omega))).mono ?_
  rw [Hb1.out]
  rintro e w5 ⟨rfl, hb⟩
  have B5 := Lib.hid (below_after B4.out hb (Nat.le_refl _))
  have IL05 := Lib.hid (IL04.out.below hb)
  have IL15 := Lib.hid (IL14.out.below hb)
  have IL35 := Lib.hid (IL34.out.below hb)
  clear x1 x2
  have X0_5 := Lib.hid (box_below X0_4.out hb)
  obtain ⟨x1, x2⟩ := box_cells X0_5.out
  clear hb
  go_wp2_with fail
  go_ret
  exact ⟨rfl, B5.out⟩
set_option maxHeartbeats 8000000 in
set_option maxRecDepth 100000 in
theorem newest_e4 (v0 : Value) (l0 : List Row) (v1 : Value) (l1 : List Row) (x y : Int) (v3 : Value) (l3 : List Id2) (w : World) (h0 : RowsAt w v0 l0) (h1 : RowsAt w v1 l1) (h3 : Ids w v3 l3) (a0 : longB l0 = false) (a1 : longB l1 = false) (a2 : decide (80 < (l3.length : Int)) = false) (b0 : mayB l0 = true) (b1 : mayB l1 = true) (he : setE l0 (x, y) l3 = (l0, 4)) :
    Calls Try.prog 5 #[v0, v1, .agg #[.int .i64 x, .int .i64 y], v3] w fun e w' => e = .returned (.bool true) ∧ Below w.heap.size w w' := by
  have B00 := Lib.hid (below_one w (.cells #[.int .i64 x, .int .i64 y] 23))
  have X00 := Lib.hid (box_new w x y)
  have I0 := Lib.hid (h0.below B00.out)
  have I1 := Lib.hid (h1.below B00.out)
  have I3 := Lib.hid (h3.below B00.out)
  obtain ⟨A0, c0, rfl, hz0⟩ := h0.shape
  obtain ⟨A1, c1, rfl, hz1⟩ := h1.shape
  obtain ⟨A3, c3, rfl, hz3, _⟩ := id h3
  have Ha0 := Lib.hid a0
  have Ha1 := Lib.hid a1
  have Hb0 := Lib.hid b0
  have Hb1 := Lib.hid b1
  have N0 := Lib.hid ((may_iff l0).1 b0)
  have N1 := Lib.hid ((may_iff l1).1 b1)
  have Z0 := Lib.hid (lens_long a0)
  have Z1 := Lib.hid (lens_long a1)
  have Z3 := Lib.hid (show l3.length ≤ 80 by have := of_decide_eq_false a2; omega)
  have HS : Hid (∀ W v, RowsAt W v l0 → Ids W (.slice A3 l3.length c3) l3 → Calls Try.prog 8 #[v, .agg #[.int .i64 x, .int .i64 y], .slice A3 l3.length c3] W fun e w' => ∃ V, e = .returned (.tuple #[V, .int .i64 4]) ∧ RowsAt w' V l0 ∧ Below W.heap.size W w') := Lib.hid fun W v h k => by
    have := setRows_any v (.slice A3 l3.length c3) l0 x y l3 W h k (Z0.out.small (by omega) (by omega)).1 (Z0.out.nots (by omega)) (by have := Z3.out; omega) (fun r hr => by have := (N0.out.2.1 r hr).2.1; omega)
    rw [he] at this
    exact this
  clear he
  clear h0 h1 h3 hz0 hz1 hz3 a0 a1 b0 b1
  go_enter Try.func5, Try.ntmps5
  have B0 := Lib.hid B00.out
  have J0 := Lib.hid I0.out
  have J1 := Lib.hid I1.out
  have J3 := Lib.hid I3.out
  have XX := Lib.hid X00.out
  obtain ⟨x1, x2⟩ := box_cells XX.out
  go_wp2_with fail
  refine (long_any _ l0 _ J0.out).mono ?_
  rw [Ha0.out]
  rintro e w1 ⟨rfl, hb⟩
  have B1 := Lib.hid (below_after B0.out hb (Nat.le_refl _))
  have IL01 := Lib.hid (J0.out.below hb)
  have IL11 := Lib.hid (J1.out.below hb)
  have IL31 := Lib.hid (J3.out.below hb)
  clear x1 x2
  have X0_1 := Lib.hid (box_below XX.out hb)
  obtain ⟨x1, x2⟩ := box_cells X0_1.out
  clear hb
  go_wp2_with fail
  refine (long_any _ l1 _ IL11.out).mono ?_
  rw [Ha1.out]
  rintro e w2 ⟨rfl, hb⟩
  have B2 := Lib.hid (below_after B1.out hb (Nat.le_refl _))
  have IL02 := Lib.hid (IL01.out.below hb)
  have IL12 := Lib.hid (IL11.out.below hb)
  have IL32 := Lib.hid (IL31.out.below hb)
  clear x1 x2
  have X0_2 := Lib.hid (box_below X0_1.out hb)
  obtain ⟨x1, x2⟩ := box_cells X0_2.out
  clear hb
  go_wp2_with fail
  refine (awake_any _).mono ?_
  rintro e w3 ⟨rfl, hb⟩
  have B3 := Lib.hid (below_after B2.out hb (Nat.le_refl _))
  have IL03 := Lib.hid (IL02.out.below hb)
  have IL13 := Lib.hid (IL12.out.below hb)
  have IL33 := Lib.hid (IL32.out.below hb)
  clear x1 x2
  have X0_3 := Lib.hid (box_below X0_2.out hb)
  obtain ⟨x1, x2⟩ := box_cells X0_3.out
  clear hb
  go_wp2_with fail
  refine (may_rows _ l0 _ IL03.out ((lens_long Ha0.out).nots (by omega))).mono ?_
  rw [Hb0.out]
  rintro e w4 ⟨rfl, hb⟩
  have B4 := Lib.hid (below_after B3.out hb (Nat.le_refl _))
  have IL04 := Lib.hid (IL03.out.below hb)
  have IL14 := Lib.hid (IL13.out.below hb)
  have IL34 := Lib.hid (IL33.out.below hb)
  clear x1 x2
  have X0_4 := Lib.hid (box_below X0_3.out hb)
  obtain ⟨x1, x2⟩ := box_cells X0_4.out
  clear hb
  go_wp2_with fail
  refine (may_rows _ l1 _ IL14.out ((lens_long Ha1.out).nots (by omega))).mono ?_
  rw [Hb1.out]
  rintro e w5 ⟨rfl, hb⟩
  have B5 := Lib.hid (below_after B4.out hb (Nat.le_refl _))
  have IL05 := Lib.hid (IL04.out.below hb)
  have IL15 := Lib.hid (IL14.out.below hb)
  have IL35 := Lib.hid (IL34.out.below hb)
  clear x1 x2
  have X0_5 := Lib.hid (box_below X0_4.out hb)
  obtain ⟨x1, x2⟩ := box_cells X0_5.out
  clear hb
  go_wp2_with fail
  refine (HS.out _ _ IL05.out IL35.out).mono ?_
  rintro e w6 ⟨S, rfl, hi, hb⟩
  have B6 := Lib.hid (below_after B5.out hb (Nat.le_refl _))
  have IL06 := Lib.hid (IL05.out.below hb)
  have IL16 := Lib.hid (IL15.out.below hb)
  have IL36 := Lib.hid (IL35.out.below hb)
  have IS6 := Lib.hid hi
  clear hi
  clear x1 x2
  have X0_6 := Lib.hid (box_below X0_5.out hb)
  obtain ⟨x1, x2⟩ := box_cells X0_6.out
  clear hb
  go_wp2_with fail
  go_ret
  exact ⟨rfl, B6.out⟩
set_option maxHeartbeats 8000000 in
set_option maxRecDepth 100000 in
theorem newest_e40 (v0 : Value) (l0 : List Row) (v1 : Value) (l1 : List Row) (x y : Int) (v3 : Value) (l3 : List Id2) (w : World) (h0 : RowsAt w v0 l0) (h1 : RowsAt w v1 l1) (h3 : Ids w v3 l3) (a0 : longB l0 = false) (a1 : longB l1 = false) (a2 : decide (80 < (l3.length : Int)) = false) (b0 : mayB l0 = true) (b1 : mayB l1 = true) (he : setE l0 (x, y) l3 = (l0, 40)) :
    Calls Try.prog 5 #[v0, v1, .agg #[.int .i64 x, .int .i64 y], v3] w fun e w' => e = .returned (.bool true) ∧ Below w.heap.size w w' := by
  have B00 := Lib.hid (below_one w (.cells #[.int .i64 x, .int .i64 y] 23))
  have X00 := Lib.hid (box_new w x y)
  have I0 := Lib.hid (h0.below B00.out)
  have I1 := Lib.hid (h1.below B00.out)
  have I3 := Lib.hid (h3.below B00.out)
  obtain ⟨A0, c0, rfl, hz0⟩ := h0.shape
  obtain ⟨A1, c1, rfl, hz1⟩ := h1.shape
  obtain ⟨A3, c3, rfl, hz3, _⟩ := id h3
  have Ha0 := Lib.hid a0
  have Ha1 := Lib.hid a1
  have Hb0 := Lib.hid b0
  have Hb1 := Lib.hid b1
  have N0 := Lib.hid ((may_iff l0).1 b0)
  have N1 := Lib.hid ((may_iff l1).1 b1)
  have Z0 := Lib.hid (lens_long a0)
  have Z1 := Lib.hid (lens_long a1)
  have Z3 := Lib.hid (show l3.length ≤ 80 by have := of_decide_eq_false a2; omega)
  have HS : Hid (∀ W v, RowsAt W v l0 → Ids W (.slice A3 l3.length c3) l3 → Calls Try.prog 8 #[v, .agg #[.int .i64 x, .int .i64 y], .slice A3 l3.length c3] W fun e w' => ∃ V, e = .returned (.tuple #[V, .int .i64 40]) ∧ RowsAt w' V l0 ∧ Below W.heap.size W w') := Lib.hid fun W v h k => by
    have := setRows_any v (.slice A3 l3.length c3) l0 x y l3 W h k (Z0.out.small (by omega) (by omega)).1 (Z0.out.nots (by omega)) (by have := Z3.out; omega) (fun r hr => by have := (N0.out.2.1 r hr).2.1; omega)
    rw [he] at this
    exact this
  clear he
  clear h0 h1 h3 hz0 hz1 hz3 a0 a1 b0 b1
  go_enter Try.func5, Try.ntmps5
  have B0 := Lib.hid B00.out
  have J0 := Lib.hid I0.out
  have J1 := Lib.hid I1.out
  have J3 := Lib.hid I3.out
  have XX := Lib.hid X00.out
  obtain ⟨x1, x2⟩ := box_cells XX.out
  go_wp2_with fail
  refine (long_any _ l0 _ J0.out).mono ?_
  rw [Ha0.out]
  rintro e w1 ⟨rfl, hb⟩
  have B1 := Lib.hid (below_after B0.out hb (Nat.le_refl _))
  have IL01 := Lib.hid (J0.out.below hb)
  have IL11 := Lib.hid (J1.out.below hb)
  have IL31 := Lib.hid (J3.out.below hb)
  clear x1 x2
  have X0_1 := Lib.hid (box_below XX.out hb)
  obtain ⟨x1, x2⟩ := box_cells X0_1.out
  clear hb
  go_wp2_with fail
  refine (long_any _ l1 _ IL11.out).mono ?_
  rw [Ha1.out]
  rintro e w2 ⟨rfl, hb⟩
  have B2 := Lib.hid (below_after B1.out hb (Nat.le_refl _))
  have IL02 := Lib.hid (IL01.out.below hb)
  have IL12 := Lib.hid (IL11.out.below hb)
  have IL32 := Lib.hid (IL31.out.below hb)
  clear x1 x2
  have X0_2 := Lib.hid (box_below X0_1.out hb)
  obtain ⟨x1, x2⟩ := box_cells X0_2.out
  clear hb
  go_wp2_with fail
  refine (awake_any _).mono ?_
  rintro e w3 ⟨rfl, hb⟩
  have B3 := Lib.hid (below_after B2.out hb (Nat.le_refl _))
  have IL03 := Lib.hid (IL02.out.below hb)
  have IL13 := Lib.hid (IL12.out.below hb)
  have IL33 := Lib.hid (IL32.out.below hb)
  clear x1 x2
  have X0_3 := Lib.hid (box_below X0_2.out hb)
  obtain ⟨x1, x2⟩ := box_cells X0_3.out
  clear hb
  go_wp2_with fail
  refine (may_rows _ l0 _ IL03.out ((lens_long Ha0.out).nots (by omega))).mono ?_
  rw [Hb0.out]
  rintro e w4 ⟨rfl, hb⟩
  have B4 := Lib.hid (below_after B3.out hb (Nat.le_refl _))
  have IL04 := Lib.hid (IL03.out.below hb)
  have IL14 := Lib.hid (IL13.out.below hb)
  have IL34 := Lib.hid (IL33.out.below hb)
  clear x1 x2
  have X0_4 := Lib.hid (box_below X0_3.out hb)
  obtain ⟨x1, x2⟩ := box_cells X0_4.out
  clear hb
  go_wp2_with fail
  refine (may_rows _ l1 _ IL14.out ((lens_long Ha1.out).nots (by omega))).mono ?_
  rw [Hb1.out]
  rintro e w5 ⟨rfl, hb⟩
  have B5 := Lib.hid (below_after B4.out hb (Nat.le_refl _))
  have IL05 := Lib.hid (IL04.out.below hb)
  have IL15 := Lib.hid (IL14.out.below hb)
  have IL35 := Lib.hid (IL34.out.below hb)
  clear x1 x2
  have X0_5 := Lib.hid (box_below X0_4.out hb)
  obtain ⟨x1, x2⟩ := box_cells X0_5.out
  clear hb
  go_wp2_with fail
  refine (HS.out _ _ IL05.out IL35.out).mono ?_
  rintro e w6 ⟨S, rfl, hi, hb⟩
  have B6 := Lib.hid (below_after B5.out hb (Nat.le_refl _))
  have IL06 := Lib.hid (IL05.out.below hb)
  have IL16 := Lib.hid (IL15.out.below hb)
  have IL36 := Lib.hid (IL35.out.below hb)
  have IS6 := Lib.hid hi
  clear hi
  clear x1 x2
  have X0_6 := Lib.hid (box_below X0_5.out hb)
  obtain ⟨x1, x2⟩ := box_cells X0_6.out
  clear hb
  go_wp2_with fail
  go_ret
  exact ⟨rfl, B6.out⟩
set_option maxHeartbeats 8000000 in
set_option maxRecDepth 100000 in
theorem newest_ok (v0 : Value) (l0 : List Row) (v1 : Value) (l1 : List Row) (x y : Int) (v3 : Value) (l3 : List Id2) (w : World) (h0 : RowsAt w v0 l0) (h1 : RowsAt w v1 l1) (h3 : Ids w v3 l3) (a0 : longB l0 = false) (a1 : longB l1 = false) (a2 : decide (80 < (l3.length : Int)) = false) (b0 : mayB l0 = true) (b1 : mayB l1 = true) (he : setE l0 (x, y) l3 = (setR l0 (x, y) l3, 0)) :
    Calls Try.prog 5 #[v0, v1, .agg #[.int .i64 x, .int .i64 y], v3] w fun e w' => e = .returned (.bool true) ∧ Below w.heap.size w w' := by
  have B00 := Lib.hid (below_one w (.cells #[.int .i64 x, .int .i64 y] 23))
  have X00 := Lib.hid (box_new w x y)
  have I0 := Lib.hid (h0.below B00.out)
  have I1 := Lib.hid (h1.below B00.out)
  have I3 := Lib.hid (h3.below B00.out)
  obtain ⟨A0, c0, rfl, hz0⟩ := h0.shape
  obtain ⟨A1, c1, rfl, hz1⟩ := h1.shape
  obtain ⟨A3, c3, rfl, hz3, _⟩ := id h3
  have Ha0 := Lib.hid a0
  have Ha1 := Lib.hid a1
  have Hb0 := Lib.hid b0
  have Hb1 := Lib.hid b1
  have N0 := Lib.hid ((may_iff l0).1 b0)
  have N1 := Lib.hid ((may_iff l1).1 b1)
  have Z0 := Lib.hid (lens_long a0)
  have Z1 := Lib.hid (lens_long a1)
  have Z3 := Lib.hid (show l3.length ≤ 80 by have := of_decide_eq_false a2; omega)
  have HS : Hid (∀ W v, RowsAt W v l0 → Ids W (.slice A3 l3.length c3) l3 → Calls Try.prog 8 #[v, .agg #[.int .i64 x, .int .i64 y], .slice A3 l3.length c3] W fun e w' => ∃ V, e = .returned (.tuple #[V, .int .i64 0]) ∧ RowsAt w' V (setR l0 (x, y) l3) ∧ Below W.heap.size W w') := Lib.hid fun W v h k => by
    have := setRows_any v (.slice A3 l3.length c3) l0 x y l3 W h k (Z0.out.small (by omega) (by omega)).1 (Z0.out.nots (by omega)) (by have := Z3.out; omega) (fun r hr => by have := (N0.out.2.1 r hr).2.1; omega)
    rw [he] at this
    exact this
  clear he
  have NS := Lib.hid (norm_setR (x, y) l3 (may_norm N0.out))
  have ZS := Lib.hid (lens_setR (x, y) l3 (may_norm N0.out) Z0.out Z3.out)
  have ZJ := Lib.hid (ZS.out.joinR Z1.out)
  have HW := Lib.hid (newest_ways (setR l0 (x, y) l3) l1 (x, y))
  have HN1 := Lib.hid (nots_len ZS.out (x, y))
  have HN3 := Lib.hid (nots_len ZJ.out (x, y))
  have G1 := Lib.hid fun W v h => gotN_any v (setR l0 (x, y) l3) x y W h (ZS.out.small (by omega) (by omega)).1 (ZS.out.nots (by omega))
  have G2 := Lib.hid fun W v h => gotN_any v l1 x y W h (Z1.out.small (by omega) (by omega)).1 (Z1.out.nots (by omega))
  have G3 := Lib.hid fun W v h => gotN_any v (joinR (setR l0 (x, y) l3) l1) x y W h (ZJ.out.small (by omega) (by omega)).1 (ZJ.out.nots (by omega))
  have HJ := Lib.hid fun W v u h k => join_rows v u (setR l0 (x, y) l3) l1 W h k NS.out.1 N1.out.2.2 (ZS.out.small (by omega) (by omega)) (Z1.out.small (by omega) (by omega))
  generalize get (setR l0 (x, y) l3) (x, y) = g1 at *
  generalize get l1 (x, y) = g2 at *
  generalize get (joinR (setR l0 (x, y) l3) l1) (x, y) = g3 at *
  generalize vers g1 = P at *
  generalize g1.isSome = I at *
  generalize nots g1 = M1 at *
  generalize vers g2 = Q at *
  generalize g2.isSome = J at *
  generalize nots g2 = M2 at *
  generalize vers g3 = T at *
  generalize g3.isSome = K at *
  generalize nots g3 = M3 at *
  clear h0 h1 h3 hz0 hz1 hz3 a0 a1 b0 b1
  go_enter Try.func5, Try.ntmps5
  have B0 := Lib.hid B00.out
  have J0 := Lib.hid I0.out
  have J1 := Lib.hid I1.out
  have J3 := Lib.hid I3.out
  have XX := Lib.hid X00.out
  obtain ⟨x1, x2⟩ := box_cells XX.out
  go_wp2_with fail
  refine (long_any _ l0 _ J0.out).mono ?_
  rw [Ha0.out]
  rintro e w1 ⟨rfl, hb⟩
  have B1 := Lib.hid (below_after B0.out hb (Nat.le_refl _))
  have IL01 := Lib.hid (J0.out.below hb)
  have IL11 := Lib.hid (J1.out.below hb)
  have IL31 := Lib.hid (J3.out.below hb)
  clear x1 x2
  have X0_1 := Lib.hid (box_below XX.out hb)
  obtain ⟨x1, x2⟩ := box_cells X0_1.out
  clear hb
  go_wp2_with fail
  refine (long_any _ l1 _ IL11.out).mono ?_
  rw [Ha1.out]
  rintro e w2 ⟨rfl, hb⟩
  have B2 := Lib.hid (below_after B1.out hb (Nat.le_refl _))
  have IL02 := Lib.hid (IL01.out.below hb)
  have IL12 := Lib.hid (IL11.out.below hb)
  have IL32 := Lib.hid (IL31.out.below hb)
  clear x1 x2
  have X0_2 := Lib.hid (box_below X0_1.out hb)
  obtain ⟨x1, x2⟩ := box_cells X0_2.out
  clear hb
  go_wp2_with fail
  refine (awake_any _).mono ?_
  rintro e w3 ⟨rfl, hb⟩
  have B3 := Lib.hid (below_after B2.out hb (Nat.le_refl _))
  have IL03 := Lib.hid (IL02.out.below hb)
  have IL13 := Lib.hid (IL12.out.below hb)
  have IL33 := Lib.hid (IL32.out.below hb)
  clear x1 x2
  have X0_3 := Lib.hid (box_below X0_2.out hb)
  obtain ⟨x1, x2⟩ := box_cells X0_3.out
  clear hb
  go_wp2_with fail
  refine (may_rows _ l0 _ IL03.out ((lens_long Ha0.out).nots (by omega))).mono ?_
  rw [Hb0.out]
  rintro e w4 ⟨rfl, hb⟩
  have B4 := Lib.hid (below_after B3.out hb (Nat.le_refl _))
  have IL04 := Lib.hid (IL03.out.below hb)
  have IL14 := Lib.hid (IL13.out.below hb)
  have IL34 := Lib.hid (IL33.out.below hb)
  clear x1 x2
  have X0_4 := Lib.hid (box_below X0_3.out hb)
  obtain ⟨x1, x2⟩ := box_cells X0_4.out
  clear hb
  go_wp2_with fail
  refine (may_rows _ l1 _ IL14.out ((lens_long Ha1.out).nots (by omega))).mono ?_
  rw [Hb1.out]
  rintro e w5 ⟨rfl, hb⟩
  have B5 := Lib.hid (below_after B4.out hb (Nat.le_refl _))
  have IL05 := Lib.hid (IL04.out.below hb)
  have IL15 := Lib.hid (IL14.out.below hb)
  have IL35 := Lib.hid (IL34.out.below hb)
  clear x1 x2
  have X0_5 := Lib.hid (box_below X0_4.out hb)
  obtain ⟨x1, x2⟩ := box_cells X0_5.out
  clear hb
  go_wp2_with fail
  refine (HS.out _ _ IL05.out IL35.out).mono ?_
  rintro e w6 ⟨S, rfl, hi, hb⟩
  have B6 := Lib.hid (below_after B5.out hb (Nat.le_refl _))
  have IL16 := Lib.hid (IL15.out.below hb)
  have IS6 := Lib.hid hi
  clear hi
  clear x1 x2
  have X0_6 := Lib.hid (box_below X0_5.out hb)
  obtain ⟨x1, x2⟩ := box_cells X0_6.out
  clear hb
  go_wp2_with fail
  (with_reducible refine (G1.out _ _ IS6.out).mono ?_)
  rintro e w7 ⟨a1, b1, D1, m1, d1, rfl, hi, hb⟩
  have bq := below_one w7 (.cells #[.int .i64 a1, .int .i64 b1, .int .i64 P, .slice D1 m1 d1] 26)
  have B7 := Lib.hid (below_after (below_after B6.out hb (Nat.le_refl _)) bq (Nat.le_refl _))
  have IL17 := Lib.hid ((IL16.out.below hb).below bq)
  have IS7 := Lib.hid ((IS6.out.below hb).below bq)
  have IN1 := Lib.hid ((ownsI_ids hi).below bq)
  clear x1 x2
  have X_7 := Lib.hid (box_below (box_below X0_6.out hb) bq)
  obtain ⟨x1, x2⟩ := box_cells X_7.out
  have WB1 := Lib.hid (wbox_new w7 a1 b1 P (.slice D1 m1 d1))
  clear hi hb bq
  go_wp2_with fail
  (with_reducible refine (G2.out _ _ IL17.out).mono ?_)
  rintro e w8 ⟨a2, b2, D2, m2, d2, rfl, hi, hb⟩
  have bq := below_one w8 (.cells #[.int .i64 a2, .int .i64 b2, .int .i64 Q, .slice D2 m2 d2] 26)
  have B8 := Lib.hid (below_after (below_after B7.out hb (Nat.le_refl _)) bq (Nat.le_refl _))
  have IL18 := Lib.hid ((IL17.out.below hb).below bq)
  have IS8 := Lib.hid ((IS7.out.below hb).below bq)
  have IN2 := Lib.hid ((ownsI_ids hi).below bq)
  clear x1 x2
  have X_8 := Lib.hid (box_below (box_below X_7.out hb) bq)
  obtain ⟨x1, x2⟩ := box_cells X_8.out
  have WB2 := Lib.hid (wbox_new w8 a2 b2 Q (.slice D2 m2 d2))
  have WB1 := Lib.hid (wbox_below (wbox_below WB1.out hb) bq)
  have IN1 := Lib.hid ((IN1.out.below hb).below bq)
  clear hi hb bq
  go_upto_region 10 with fail
  clear x1 x2
  have IS := Lib.hid IS8.out
  have IL := Lib.hid IL18.out
  have IX := Lib.hid X_8.out
  have BM := Lib.hid B8.out
  generalize (w8.alloc (.cells #[.int .i64 a2, .int .i64 b2, .int .i64 Q, .slice D2 m2 d2] 26)) = wm at *
  clear HS G1 G2 Z0 Ha0 Ha1 Hb0 Hb1
  go_cut [15, 16] (fun s15 s16 wx => ∃ Z a b B m c, s15 = .pointer (some ⟨Z, 0, none⟩) ∧ s16 = .bool K ∧ Hid (WBox wx Z a b T (.slice B m c)) ∧ Hid (Ids wx (.slice B m c) M3) ∧ Hid (Below wm.heap.size wm wx))
  case first =>
    refine wp_region_held_drew (S := fun w' => (w'.cell? ⟨w.heap.size, 0, none⟩ = some (.int .i64 x) ∧ w'.cell? ⟨w.heap.size, 1, none⟩ = some (.int .i64 y)) ∧ Hid (Below wm.heap.size wm w')) (by kernel_rfl) ?_ (fun hHeld => ?_)
    · exact ⟨box_cells (box_below IX.out (Below.drew (Below.refl _ _))), Lib.hid (Below.drew (Below.refl _ _))⟩
    (refine wpAnyH_take (i := 0) (oi := ⟨_, _, _, _, _, _⟩) (v := ?_) rfl (by kernel_rfl) (by kernel_rfl) (by kernel_rfl) (fun _ _ _ h => h) (Or.inl ⟨by rfl, ?_⟩) (by assumption) ?_; rotate_left 1; · (intro w hSw; (try dsimp only at hSw); go_simp; all_goals with_reducible rfl))
    try simp only [Act.put, List.setIfInBounds_toArray, List.set_cons_zero, List.set_cons_succ]
    (refine wpAnyH_take (i := 1) (oi := ⟨_, _, _, _, _, _⟩) (v := ?_) rfl (by kernel_rfl) (by kernel_rfl) (by kernel_rfl) (fun _ _ _ h => h) (Or.inl ⟨by rfl, ?_⟩) (by assumption) ?_; rotate_left 1; · (intro w hSw; (try dsimp only at hSw); go_simp; all_goals with_reducible rfl))
    try simp only [Act.put, List.setIfInBounds_toArray, List.set_cons_zero, List.set_cons_succ]
    (refine wpAnyH_take (i := 3) (oi := ⟨_, _, _, _, _, _⟩) (v := ?_) rfl (by kernel_rfl) (by kernel_rfl) (by kernel_rfl) (fun _ _ _ h => h) (Or.inl ⟨by rfl, ?_⟩) (by assumption) ?_; rotate_left 1; · (intro w hSw; (try dsimp only at hSw); go_simp; all_goals with_reducible rfl))
    try simp only [Act.put, List.setIfInBounds_toArray, List.set_cons_zero, List.set_cons_succ]
    refine wpAnyH_ready (rs := [2, 8]) (by kernel_rfl) (by simp) ?_
    refine AllReadyH.cons (o := ⟨_, _, _, _, _, _⟩) rfl (fun Kq hKq => ?_) (AllReadyH.cons (o := ⟨_, _, _, _, _, _⟩) rfl (fun Kq hKq => ?_) (AllReadyH.nil))
    · go_simp
      clear hHeld
      go_at_call 12; (with_reducible refine (HJ.out _ _ _ (IS.out.below (Below.drew (Below.refl _ _))) (IL.out.below (Below.drew (Below.refl _ _)))).mono ?_); rintro e wj ⟨vj, rfl, hr, hb⟩; have P2 := Lib.hid (below_after (Below.drew (Below.refl _ _)) hb (Nat.le_refl _)); have RJ := Lib.hid hr; clear hr hb
      refine hKq.out _ _ ?_ (fun hHeld => ?_)
      · (try dsimp only); exact ⟨box_cells (box_below IX.out P2.out), Lib.hid P2.out⟩
      clear hKq Kq
      try simp only [Act.put, List.setIfInBounds_toArray, List.set_cons_zero, List.set_cons_succ]
      refine wpAnyH_ready (rs := [4, 8]) (by kernel_rfl) (by simp) ?_
      refine AllReadyH.cons (o := ⟨_, _, _, _, _, _⟩) rfl (fun Kq hKq => ?_) (AllReadyH.cons (o := ⟨_, _, _, _, _, _⟩) rfl (fun Kq hKq => ?_) (AllReadyH.nil))
      · go_simp
        clear hHeld
        go_at_call 14; (with_reducible refine (G3.out _ _ RJ.out).mono ?_); rintro e wg ⟨a3, b3, D3, m3, d3, rfl, hi, hb⟩; have P4 := Lib.hid (below_after P2.out hb (Nat.le_refl _)); have O4 := Lib.hid hi; clear hi hb
        refine hKq.out _ _ ?_ (fun hHeld => ?_)
        · (try dsimp only); exact ⟨box_cells (box_below IX.out P4.out), Lib.hid P4.out⟩
        clear hKq Kq
        try simp only [Act.put, List.setIfInBounds_toArray, List.set_cons_zero, List.set_cons_succ]
        (refine wpAnyH_take (i := 5) (oi := ⟨_, _, _, _, _, _⟩) (v := ?_) rfl (by kernel_rfl) (by kernel_rfl) (by kernel_rfl) (fun _ _ _ h => h) (Or.inl ⟨by rfl, ?_⟩) (by assumption) ?_; rotate_left 1; · (intro w hSw; (try dsimp only at hSw); go_simp; all_goals with_reducible rfl))
        try simp only [Act.put, List.setIfInBounds_toArray, List.set_cons_zero, List.set_cons_succ]
        (refine wpAnyH_take (i := 6) (oi := ⟨_, _, _, _, _, _⟩) (v := ?_) rfl (by kernel_rfl) (by kernel_rfl) (by kernel_rfl) (fun _ _ _ h => h) (Or.inl ⟨by rfl, ?_⟩) (by assumption) ?_; rotate_left 1; · (intro w hSw; (try dsimp only at hSw); go_simp; all_goals with_reducible rfl))
        try simp only [Act.put, List.setIfInBounds_toArray, List.set_cons_zero, List.set_cons_succ]
        (refine wpAnyH_take (i := 7) (oi := ⟨_, _, _, _, _, _⟩) (v := ?_) rfl (by kernel_rfl) (by kernel_rfl) (by kernel_rfl) (fun _ _ _ h => h) (Or.inl ⟨by rfl, ?_⟩) (by assumption) ?_; rotate_left 1; · (intro w hSw; (try dsimp only at hSw); go_simp; all_goals with_reducible rfl))
        try simp only [Act.put, List.setIfInBounds_toArray, List.set_cons_zero, List.set_cons_succ]
        refine wpAnyH_ready (rs := [8]) (by kernel_rfl) (by simp) ?_
        refine AllReadyH.cons (o := ⟨_, _, _, _, _, _⟩) rfl (fun Kq hKq => ?_) (AllReadyH.nil)
        go_simp
        clear hHeld
        have Q8 := Lib.hid (below_one wg (.cells #[.int .i64 0, .int .i64 0, .int .i64 0, .slice none 0 0] 26)); have P8 := Lib.hid (below_after P4.out Q8.out (Nat.le_refl _)); have Y8 := Lib.hid (wbox_new wg 0 0 0 (.slice none 0 0)); have G8 := Lib.hid (show wm.heap.size ≤ wg.heap.size from P4.out.size)
        refine hKq.out _ _ ?_ (fun hHeld => ?_)
        · (try dsimp only); exact ⟨box_cells (box_below IX.out P8.out), Lib.hid P8.out⟩
        clear hKq Kq
        try simp only [Act.put, List.setIfInBounds_toArray, List.set_cons_zero, List.set_cons_succ]
        refine wpAnyH_ready (rs := [9]) (by kernel_rfl) (by simp) ?_
        refine AllReadyH.cons (o := ⟨_, _, _, _, _, _⟩) rfl (fun Kq hKq => ?_) (AllReadyH.nil)
        obtain ⟨y1, y2, y3, y4⟩ := wbox_cells Y8.out
        obtain ⟨f1, f2, f3, f4⟩ := wbox_free Y8.out
        go_simp
        clear hHeld
        have P9 := Lib.hid (below_after P4.out (below_one wg (.cells #[.int .i64 a3, .int .i64 b3, .int .i64 T, .slice D3 m3 d3] 26)) (Nat.le_refl _)); have Y9 := Lib.hid (wbox_new wg a3 b3 T (.slice D3 m3 d3)); have N9 := Lib.hid ((ownsI_ids O4.out).below (below_one wg (.cells #[.int .i64 a3, .int .i64 b3, .int .i64 T, .slice D3 m3 d3] 26))); clear y1 y2 y3 y4 f1 f2 f3 f4
        refine hKq.out _ _ ?_ (fun hHeld => ?_)
        · (try dsimp only); exact ⟨box_cells (box_below IX.out P9.out), Lib.hid P9.out⟩
        clear hKq Kq
        try simp only [Act.put, List.setIfInBounds_toArray, List.set_cons_zero, List.set_cons_succ]
        (refine wpAnyH_take (i := 10) (oi := ⟨_, _, _, _, _, _⟩) (v := ?_) rfl (by kernel_rfl) (by kernel_rfl) (by kernel_rfl) (fun _ _ _ h => h) (Or.inl ⟨by rfl, ?_⟩) (by assumption) ?_; rotate_left 1; · (intro w hSw; (try dsimp only at hSw); go_simp; all_goals with_reducible rfl))
        try simp only [Act.put, List.setIfInBounds_toArray, List.set_cons_zero, List.set_cons_succ]
        refine wpAnyH_done (by kernel_rfl) ?_ _
        go_wp2_with fail
        go_meet
        exact ⟨_, _, _, _, _, _, rfl, rfl, Y9, N9, P9⟩
      · go_simp
        clear hHeld
        have Q8 := Lib.hid (below_one wj (.cells #[.int .i64 0, .int .i64 0, .int .i64 0, .slice none 0 0] 26)); have P8 := Lib.hid (below_after P2.out Q8.out (Nat.le_refl _)); have Y8 := Lib.hid (wbox_new wj 0 0 0 (.slice none 0 0)); have G8 := Lib.hid (show wm.heap.size ≤ wj.heap.size from P2.out.size)
        refine hKq.out _ _ ?_ (fun hHeld => ?_)
        · (try dsimp only); exact ⟨box_cells (box_below IX.out P8.out), Lib.hid P8.out⟩
        clear hKq Kq
        try simp only [Act.put, List.setIfInBounds_toArray, List.set_cons_zero, List.set_cons_succ]
        refine wpAnyH_ready (rs := [4]) (by kernel_rfl) (by simp) ?_
        refine AllReadyH.cons (o := ⟨_, _, _, _, _, _⟩) rfl (fun Kq hKq => ?_) (AllReadyH.nil)
        go_simp
        clear hHeld
        go_at_call 14; (with_reducible refine (G3.out _ _ (RJ.out.below Q8.out)).mono ?_); rintro e wg ⟨a3, b3, D3, m3, d3, rfl, hi, hb⟩; have P4 := Lib.hid (below_after P8.out hb (Nat.le_refl _)); have O4 := Lib.hid hi; have Y4 := Lib.hid (wbox_below Y8.out hb); have S4 := Lib.hid (wbox_lt Y8.out); clear hi hb
        refine hKq.out _ _ ?_ (fun hHeld => ?_)
        · (try dsimp only); exact ⟨box_cells (box_below IX.out P4.out), Lib.hid P4.out⟩
        clear hKq Kq
        try simp only [Act.put, List.setIfInBounds_toArray, List.set_cons_zero, List.set_cons_succ]
        (refine wpAnyH_take (i := 5) (oi := ⟨_, _, _, _, _, _⟩) (v := ?_) rfl (by kernel_rfl) (by kernel_rfl) (by kernel_rfl) (fun _ _ _ h => h) (Or.inl ⟨by rfl, ?_⟩) (by assumption) ?_; rotate_left 1; · (intro w hSw; (try dsimp only at hSw); go_simp; all_goals with_reducible rfl))
        try simp only [Act.put, List.setIfInBounds_toArray, List.set_cons_zero, List.set_cons_succ]
        (refine wpAnyH_take (i := 6) (oi := ⟨_, _, _, _, _, _⟩) (v := ?_) rfl (by kernel_rfl) (by kernel_rfl) (by kernel_rfl) (fun _ _ _ h => h) (Or.inl ⟨by rfl, ?_⟩) (by assumption) ?_; rotate_left 1; · (intro w hSw; (try dsimp only at hSw); go_simp; all_goals with_reducible rfl))
        try simp only [Act.put, List.setIfInBounds_toArray, List.set_cons_zero, List.set_cons_succ]
        (refine wpAnyH_take (i := 7) (oi := ⟨_, _, _, _, _, _⟩) (v := ?_) rfl (by kernel_rfl) (by kernel_rfl) (by kernel_rfl) (fun _ _ _ h => h) (Or.inl ⟨by rfl, ?_⟩) (by assumption) ?_; rotate_left 1; · (intro w hSw; (try dsimp only at hSw); go_simp; all_goals with_reducible rfl))
        try simp only [Act.put, List.setIfInBounds_toArray, List.set_cons_zero, List.set_cons_succ]
        refine wpAnyH_ready (rs := [9]) (by kernel_rfl) (by simp) ?_
        refine AllReadyH.cons (o := ⟨_, _, _, _, _, _⟩) rfl (fun Kq hKq => ?_) (AllReadyH.nil)
        obtain ⟨y1, y2, y3, y4⟩ := wbox_cells Y4.out
        obtain ⟨f1, f2, f3, f4⟩ := wbox_free Y4.out
        go_simp
        clear hHeld
        have P9 := Lib.hid (below_set4 (g := wj.heap.size) P4.out G8.out (.int .i64 a3) (.int .i64 b3) (.int .i64 T) (.slice D3 m3 d3)); have Y9 := Lib.hid (wbox_set Y4.out a3 b3 T (.slice D3 m3 d3)); have N9 := Lib.hid (ownsI_ids (OwnsR.grown O4.out (grown_set4 (World.grownBy.refl _ (some (wj.heap.size))) (.int .i64 a3) (.int .i64 b3) (.int .i64 T) (.slice D3 m3 d3)) (ownsR_ne O4.out S4.out))); clear y1 y2 y3 y4 f1 f2 f3 f4
        refine hKq.out _ _ ?_ (fun hHeld => ?_)
        · (try dsimp only); exact ⟨box_cells (box_below IX.out P9.out), Lib.hid P9.out⟩
        clear hKq Kq
        try simp only [Act.put, List.setIfInBounds_toArray, List.set_cons_zero, List.set_cons_succ]
        (refine wpAnyH_take (i := 10) (oi := ⟨_, _, _, _, _, _⟩) (v := ?_) rfl (by kernel_rfl) (by kernel_rfl) (by kernel_rfl) (fun _ _ _ h => h) (Or.inl ⟨by rfl, ?_⟩) (by assumption) ?_; rotate_left 1; · (intro w hSw; (try dsimp only at hSw); go_simp; all_goals with_reducible rfl))
        try simp only [Act.put, List.setIfInBounds_toArray, List.set_cons_zero, List.set_cons_succ]
        refine wpAnyH_done (by kernel_rfl) ?_ _
        go_wp2_with fail
        go_meet
        exact ⟨_, _, _, _, _, _, rfl, rfl, Y9, N9, P9⟩
    · go_simp
      clear hHeld
      have P8 := Lib.hid (show Below wm.heap.size wm (wm.alloc (.cells #[.int .i64 0, .int .i64 0, .int .i64 0, .slice none 0 0] 26)).drew from Below.drew (below_one wm (.cells #[.int .i64 0, .int .i64 0, .int .i64 0, .slice none 0 0] 26))); have Y8 := Lib.hid (show WBox (wm.alloc (.cells #[.int .i64 0, .int .i64 0, .int .i64 0, .slice none 0 0] 26)).drew wm.heap.size 0 0 0 (.slice none 0 0) from wbox_new wm 0 0 0 (.slice none 0 0)); have G8 := Lib.hid (Nat.le_refl wm.heap.size)
      refine hKq.out _ _ ?_ (fun hHeld => ?_)
      · (try dsimp only); exact ⟨box_cells (box_below IX.out P8.out), Lib.hid P8.out⟩
      clear hKq Kq
      try simp only [Act.put, List.setIfInBounds_toArray, List.set_cons_zero, List.set_cons_succ]
      refine wpAnyH_ready (rs := [2]) (by kernel_rfl) (by simp) ?_
      refine AllReadyH.cons (o := ⟨_, _, _, _, _, _⟩) rfl (fun Kq hKq => ?_) (AllReadyH.nil)
      go_simp
      clear hHeld
      go_at_call 12; (with_reducible refine (HJ.out _ _ _ (IS.out.below P8.out) (IL.out.below P8.out)).mono ?_); rintro e wj ⟨vj, rfl, hr, hb⟩; have P2 := Lib.hid (below_after P8.out hb (Nat.le_refl _)); have RJ := Lib.hid hr; have Y2 := Lib.hid (wbox_below Y8.out hb); clear hr hb
      refine hKq.out _ _ ?_ (fun hHeld => ?_)
      · (try dsimp only); exact ⟨box_cells (box_below IX.out P2.out), Lib.hid P2.out⟩
      clear hKq Kq
      try simp only [Act.put, List.setIfInBounds_toArray, List.set_cons_zero, List.set_cons_succ]
      refine wpAnyH_ready (rs := [4]) (by kernel_rfl) (by simp) ?_
      refine AllReadyH.cons (o := ⟨_, _, _, _, _, _⟩) rfl (fun Kq hKq => ?_) (AllReadyH.nil)
      go_simp
      clear hHeld
      go_at_call 14; (with_reducible refine (G3.out _ _ RJ.out).mono ?_); rintro e wg ⟨a3, b3, D3, m3, d3, rfl, hi, hb⟩; have P4 := Lib.hid (below_after P2.out hb (Nat.le_refl _)); have O4 := Lib.hid hi; have Y4 := Lib.hid (wbox_below Y2.out hb); have S4 := Lib.hid (wbox_lt Y2.out); clear hi hb
      refine hKq.out _ _ ?_ (fun hHeld => ?_)
      · (try dsimp only); exact ⟨box_cells (box_below IX.out P4.out), Lib.hid P4.out⟩
      clear hKq Kq
      try simp only [Act.put, List.setIfInBounds_toArray, List.set_cons_zero, List.set_cons_succ]
      (refine wpAnyH_take (i := 5) (oi := ⟨_, _, _, _, _, _⟩) (v := ?_) rfl (by kernel_rfl) (by kernel_rfl) (by kernel_rfl) (fun _ _ _ h => h) (Or.inl ⟨by rfl, ?_⟩) (by assumption) ?_; rotate_left 1; · (intro w hSw; (try dsimp only at hSw); go_simp; all_goals with_reducible rfl))
      try simp only [Act.put, List.setIfInBounds_toArray, List.set_cons_zero, List.set_cons_succ]
      (refine wpAnyH_take (i := 6) (oi := ⟨_, _, _, _, _, _⟩) (v := ?_) rfl (by kernel_rfl) (by kernel_rfl) (by kernel_rfl) (fun _ _ _ h => h) (Or.inl ⟨by rfl, ?_⟩) (by assumption) ?_; rotate_left 1; · (intro w hSw; (try dsimp only at hSw); go_simp; all_goals with_reducible rfl))
      try simp only [Act.put, List.setIfInBounds_toArray, List.set_cons_zero, List.set_cons_succ]
      (refine wpAnyH_take (i := 7) (oi := ⟨_, _, _, _, _, _⟩) (v := ?_) rfl (by kernel_rfl) (by kernel_rfl) (by kernel_rfl) (fun _ _ _ h => h) (Or.inl ⟨by rfl, ?_⟩) (by assumption) ?_; rotate_left 1; · (intro w hSw; (try dsimp only at hSw); go_simp; all_goals with_reducible rfl))
      try simp only [Act.put, List.setIfInBounds_toArray, List.set_cons_zero, List.set_cons_succ]
      refine wpAnyH_ready (rs := [9]) (by kernel_rfl) (by simp) ?_
      refine AllReadyH.cons (o := ⟨_, _, _, _, _, _⟩) rfl (fun Kq hKq => ?_) (AllReadyH.nil)
      obtain ⟨y1, y2, y3, y4⟩ := wbox_cells Y4.out
      obtain ⟨f1, f2, f3, f4⟩ := wbox_free Y4.out
      go_simp
      clear hHeld
      have P9 := Lib.hid (below_set4 (g := wm.heap.size) P4.out G8.out (.int .i64 a3) (.int .i64 b3) (.int .i64 T) (.slice D3 m3 d3)); have Y9 := Lib.hid (wbox_set Y4.out a3 b3 T (.slice D3 m3 d3)); have N9 := Lib.hid (ownsI_ids (OwnsR.grown O4.out (grown_set4 (World.grownBy.refl _ (some (wm.heap.size))) (.int .i64 a3) (.int .i64 b3) (.int .i64 T) (.slice D3 m3 d3)) (ownsR_ne O4.out S4.out))); clear y1 y2 y3 y4 f1 f2 f3 f4
      refine hKq.out _ _ ?_ (fun hHeld => ?_)
      · (try dsimp only); exact ⟨box_cells (box_below IX.out P9.out), Lib.hid P9.out⟩
      clear hKq Kq
      try simp only [Act.put, List.setIfInBounds_toArray, List.set_cons_zero, List.set_cons_succ]
      (refine wpAnyH_take (i := 10) (oi := ⟨_, _, _, _, _, _⟩) (v := ?_) rfl (by kernel_rfl) (by kernel_rfl) (by kernel_rfl) (fun _ _ _ h => h) (Or.inl ⟨by rfl, ?_⟩) (by assumption) ?_; rotate_left 1; · (intro w hSw; (try dsimp only at hSw); go_simp; all_goals with_reducible rfl))
      try simp only [Act.put, List.setIfInBounds_toArray, List.set_cons_zero, List.set_cons_succ]
      refine wpAnyH_done (by kernel_rfl) ?_ _
      go_wp2_with fail
      go_meet
      exact ⟨_, _, _, _, _, _, rfl, rfl, Y9, N9, P9⟩
  case rest =>
    obtain ⟨Z, a3, b3, D3, m3, d3, rfl, rfl, Y0, N30, BC⟩ := hcut
    have X1 := Lib.hid (wbox_below WB1.out BC.out)
    have X2 := Lib.hid (wbox_below WB2.out BC.out)
    have N10 := Lib.hid (IN1.out.below BC.out)
    have BB := Lib.hid (below_after BM.out BC.out (Nat.le_refl _))
    clear HJ G3 NS ZS ZJ IS IL IX BM WB1 WB2 IN1 IN2
    have hm1 : m1 = M1.length := by
      obtain ⟨A', c', e, _⟩ := N10.out
      injection e with e1 e2 e3
    have hm3 : m3 = M3.length := by
      obtain ⟨A', c', e, _⟩ := N30.out
      injection e with e1 e2 e3
    have HM1 := Lib.hid hm1
    have HM3 := Lib.hid hm3
    clear hm1 hm3
    have i1 : m1 ≤ 80 := by have := HM1.out; have := HN1.out; omega
    obtain ⟨_, _, x3, x4⟩ := wbox_cells X1.out
    obtain ⟨_, _, y3, _⟩ := wbox_cells X2.out
    obtain ⟨_, _, z3, z4⟩ := wbox_cells Y0.out
    have hw := HW.out
    clear HW
    rcases hw with ⟨rfl, rfl⟩ | ⟨rfl, rfl, rfl, rfl, hn⟩ | ⟨rfl, rfl, rfl, hlt, rfl⟩ | ⟨rfl, rfl, rfl, hlt, rfl, hn⟩ | ⟨rfl, rfl, rfl, rfl, rfl, hn⟩
    · cases J
      · go_wp2_with fail
        go_ret
        exact ⟨rfl, BB.out⟩
      · go_wp2_with fail
        go_ret
        exact ⟨rfl, BB.out⟩
    · have hle : m1 = m3 := by rw [HM1.out, HM3.out, hn]
      subst hle
      have HSUB : Hid (∀ z ∈ M1, z ∈ M3) := Lib.hid (fun z hz => hn ▸ hz)
      go_wp2_with fail
      go_loopw [17] (fun s17 wr => ∃ k : Nat, k ≤ m1 ∧ s17 = .int .i64 k ∧ Hid (Below wc.heap.size wc wr)) (fun s17 _ => m1 - (intOf s17).toNat)
      case atStart => exact ⟨0, by omega, rfl, Lib.hid (Below.refl _ _)⟩
      case round =>
        obtain ⟨k, hkl, rfl, HW⟩ := hrel
        have i3 : (0 : Int) ≤ (k : Int) := by omega
        have XR := Lib.hid (wbox_below X1.out HW.out)
        have ZR := Lib.hid (wbox_below Y0.out HW.out)
        clear x3 x4 y3 z3 z4
        obtain ⟨_, _, x3, x4⟩ := wbox_cells XR.out
        obtain ⟨_, _, z3, z4⟩ := wbox_cells ZR.out
        by_cases hlt2 : k < m1
        · have i4 : (k : Int) < (m1 : Int) := by omega
          have hdk : decide ((k : Int) < (m1 : Int)) = true := decide_eq_true i4
          have hk2 : k < M1.length := by have := HM1.out; omega
          obtain ⟨ad, rfl, q1, q2⟩ := N10.out.at_ HW.out hk2
          have HH : Hid (hasB (M1[k].1, M1[k].2) M3 = true) := Lib.hid (decide_eq_true (HSUB.out _ (List.getElem_mem hk2)))
          have HC : Hid (∀ W, Below wc.heap.size wc W → Calls Try.prog 15 #[.slice D3 m1 d3, .agg #[.int .i64 M1[k].1, .int .i64 M1[k].2]] W fun e w' => e = .returned (.bool true) ∧ Below W.heap.size W w') := Lib.hid fun W hb => by
            have := refHas_any (.slice D3 m1 d3) M3 M1[k].1 M1[k].2 W (N30.out.below hb) (by have := HN3.out; omega)
            rw [HH.out] at this
            exact this
          have HF := Lib.hid fun W (hb : Below wr.heap.size wr W) => And.intro (wbox_cells (wbox_below XR.out hb)).2.2.2 (And.intro (wbox_cells (wbox_below ZR.out hb)).2.2.2 (And.intro ((hb.cell (block_lt_of_cell q1)).trans q1) (And.intro ((hb.cell (block_lt_of_cell q2)).trans q2) (Lib.hid hb))))
          clear HH
          generalize M1[k].1 = u at *
          generalize M1[k].2 = v at *
          go_wp2_with fail
          refine wp_region_held_drew (S := fun w' => w'.cell? ⟨w7.heap.size, 3, none⟩ = some (.slice (some ad) m1 d1) ∧ w'.cell? ⟨Z, 3, none⟩ = some (.slice D3 m1 d3) ∧ w'.cell? (ad.add (k * 2)) = some (.int .i64 u) ∧ w'.cell? ⟨(ad.add (k * 2)).block, (ad.add (k * 2)).off + 1, none⟩ = some (.int .i64 v) ∧ Hid (Below wr.heap.size wr w')) (by kernel_rfl) ?_ (fun hHeld => ?_)
          · exact HF.out _ (Below.drew (Below.refl _ _))
          (refine wpAnyH_take (i := 0) (oi := ⟨_, _, _, _, _, _⟩) (v := ?_) rfl (by kernel_rfl) (by kernel_rfl) (by kernel_rfl) (fun _ _ _ h => h) (Or.inl ⟨by rfl, ?_⟩) (by assumption) ?_; rotate_left 1; · (intro w hSw; (try dsimp only at hSw); go_simp; all_goals with_reducible rfl))
          try simp only [Act.put, List.setIfInBounds_toArray, List.set_cons_zero, List.set_cons_succ]
          (refine wpAnyH_take (i := 1) (oi := ⟨_, _, _, _, _, _⟩) (v := ?_) rfl (by kernel_rfl) (by kernel_rfl) (by kernel_rfl) (fun _ _ _ h => h) (Or.inl ⟨by rfl, ?_⟩) (by assumption) ?_; rotate_left 1; · (intro w hSw; (try dsimp only at hSw); go_simp; all_goals with_reducible rfl))
          try simp only [Act.put, List.setIfInBounds_toArray, List.set_cons_zero, List.set_cons_succ]
          (refine wpAnyH_take (i := 2) (oi := ⟨_, _, _, _, _, _⟩) (v := ?_) rfl (by kernel_rfl) (by kernel_rfl) (by kernel_rfl) (fun _ _ _ h => h) (Or.inl ⟨by rfl, ?_⟩) (by assumption) ?_; rotate_left 1; · (intro w hSw; (try dsimp only at hSw); go_simp; all_goals with_reducible rfl))
          try simp only [Act.put, List.setIfInBounds_toArray, List.set_cons_zero, List.set_cons_succ]
          (refine wpAnyH_take (i := 3) (oi := ⟨_, _, _, _, _, _⟩) (v := ?_) rfl (by kernel_rfl) (by kernel_rfl) (by kernel_rfl) (fun _ _ _ h => h) (Or.inl ⟨by rfl, ?_⟩) (by assumption) ?_; rotate_left 1; · (intro w hSw; (try dsimp only at hSw); go_simp; all_goals with_reducible rfl))
          try simp only [Act.put, List.setIfInBounds_toArray, List.set_cons_zero, List.set_cons_succ]
          (refine wpAnyH_take (i := 4) (oi := ⟨_, _, _, _, _, _⟩) (v := ?_) rfl (by kernel_rfl) (by kernel_rfl) (by kernel_rfl) (fun _ _ _ h => h) (Or.inl ⟨by rfl, ?_⟩) (by assumption) ?_; rotate_left 1; · (intro w hSw; (try dsimp only at hSw); go_simp; all_goals with_reducible rfl))
          try simp only [Act.put, List.setIfInBounds_toArray, List.set_cons_zero, List.set_cons_succ]
          (refine wpAnyH_take (i := 5) (oi := ⟨_, _, _, _, _, _⟩) (v := ?_) rfl (by kernel_rfl) (by kernel_rfl) (by kernel_rfl) (fun _ _ _ h => h) (Or.inl ⟨by rfl, ?_⟩) (by assumption) ?_; rotate_left 1; · (intro w hSw; (try dsimp only at hSw); go_simp; all_goals with_reducible rfl))
          try simp only [Act.put, List.setIfInBounds_toArray, List.set_cons_zero, List.set_cons_succ]
          (refine wpAnyH_take (i := 6) (oi := ⟨_, _, _, _, _, _⟩) (v := ?_) rfl (by kernel_rfl) (by kernel_rfl) (by kernel_rfl) (fun _ _ _ h => h) (Or.inl ⟨by rfl, ?_⟩) (by assumption) ?_; rotate_left 1; · (intro w hSw; (try dsimp only at hSw); go_simp; all_goals with_reducible rfl))
          try simp only [Act.put, List.setIfInBounds_toArray, List.set_cons_zero, List.set_cons_succ]
          refine wpAnyH_ready (rs := [7]) (by kernel_rfl) (by simp) ?_
          refine AllReadyH.cons (o := ⟨_, _, _, _, _, _⟩) rfl (fun Kq hKq => ?_) (AllReadyH.nil)
          go_simp
          clear hHeld
          go_at_call 15; (with_reducible refine (HC.out _ (below_after HW.out (Below.drew (Below.refl _ _)) (Nat.le_refl _))).mono ?_); rintro e w7 ⟨rfl, hb⟩; have P7 := Lib.hid (below_after (Below.drew (Below.refl _ _)) hb (Nat.le_refl _)); clear hb x3 x4 z3 z4 q1 q2
          refine hKq.out _ _ ?_ (fun hHeld => ?_)
          · (try dsimp only); exact HF.out _ P7.out
          clear hKq Kq
          try simp only [Act.put, List.setIfInBounds_toArray, List.set_cons_zero, List.set_cons_succ]
          (refine wpAnyH_take (i := 8) (oi := ⟨_, _, _, _, _, _⟩) (v := ?_) rfl (by kernel_rfl) (by kernel_rfl) (by kernel_rfl) (fun _ _ _ h => h) (Or.inl ⟨by rfl, ?_⟩) (by assumption) ?_; rotate_left 1; · (intro w hSw; (try dsimp only at hSw); go_simp; all_goals with_reducible rfl))
          try simp only [Act.put, List.setIfInBounds_toArray, List.set_cons_zero, List.set_cons_succ]
          refine wpAnyH_done (by kernel_rfl) ?_ _
          go_wp2_with fail
          go_roundw
          case rel => exact ⟨k + 1, by omega, by go_num, Lib.hid (below_after HW.out P7.out (Nat.le_refl _))⟩
          case measure => simp [intOf]; omega
        · have hdk : decide ((k : Int) < (m1 : Int)) = false := by simp; omega
          have V2 := Lib.hid (wbox_below X2.out HW.out)
          obtain ⟨_, _, y3, _⟩ := wbox_cells V2.out
          go_wp2_with fail
          go_ret
          exact ⟨rfl, below_after BB.out HW.out (Nat.le_refl _)⟩
    · have hd : decide (P < T) = true := decide_eq_true hlt
      go_wp2_with fail
      go_ret
      exact ⟨rfl, BB.out⟩
    · have hd : decide (T < Q) = false := decide_eq_false (by omega)
      have hd2 : (Q == T) = false := by simp; omega
      have hle : m1 = m3 := by rw [HM1.out, HM3.out, hn]
      subst hle
      have HSUB : Hid (∀ z ∈ M1, z ∈ M3) := Lib.hid (fun z hz => hn ▸ hz)
      go_wp2_with fail
      go_loopw [17] (fun s17 wr => ∃ k : Nat, k ≤ m1 ∧ s17 = .int .i64 k ∧ Hid (Below wc.heap.size wc wr)) (fun s17 _ => m1 - (intOf s17).toNat)
      case atStart => exact ⟨0, by omega, rfl, Lib.hid (Below.refl _ _)⟩
      case round =>
        obtain ⟨k, hkl, rfl, HW⟩ := hrel
        have i3 : (0 : Int) ≤ (k : Int) := by omega
        have XR := Lib.hid (wbox_below X1.out HW.out)
        have ZR := Lib.hid (wbox_below Y0.out HW.out)
        clear x3 x4 y3 z3 z4
        obtain ⟨_, _, x3, x4⟩ := wbox_cells XR.out
        obtain ⟨_, _, z3, z4⟩ := wbox_cells ZR.out
        by_cases hlt2 : k < m1
        · have i4 : (k : Int) < (m1 : Int) := by omega
          have hdk : decide ((k : Int) < (m1 : Int)) = true := decide_eq_true i4
          have hk2 : k < M1.length := by have := HM1.out; omega
          obtain ⟨ad, rfl, q1, q2⟩ := N10.out.at_ HW.out hk2
          have HH : Hid (hasB (M1[k].1, M1[k].2) M3 = true) := Lib.hid (decide_eq_true (HSUB.out _ (List.getElem_mem hk2)))
          have HC : Hid (∀ W, Below wc.heap.size wc W → Calls Try.prog 15 #[.slice D3 m1 d3, .agg #[.int .i64 M1[k].1, .int .i64 M1[k].2]] W fun e w' => e = .returned (.bool true) ∧ Below W.heap.size W w') := Lib.hid fun W hb => by
            have := refHas_any (.slice D3 m1 d3) M3 M1[k].1 M1[k].2 W (N30.out.below hb) (by have := HN3.out; omega)
            rw [HH.out] at this
            exact this
          have HF := Lib.hid fun W (hb : Below wr.heap.size wr W) => And.intro (wbox_cells (wbox_below XR.out hb)).2.2.2 (And.intro (wbox_cells (wbox_below ZR.out hb)).2.2.2 (And.intro ((hb.cell (block_lt_of_cell q1)).trans q1) (And.intro ((hb.cell (block_lt_of_cell q2)).trans q2) (Lib.hid hb))))
          clear HH
          generalize M1[k].1 = u at *
          generalize M1[k].2 = v at *
          go_wp2_with fail
          refine wp_region_held_drew (S := fun w' => w'.cell? ⟨w7.heap.size, 3, none⟩ = some (.slice (some ad) m1 d1) ∧ w'.cell? ⟨Z, 3, none⟩ = some (.slice D3 m1 d3) ∧ w'.cell? (ad.add (k * 2)) = some (.int .i64 u) ∧ w'.cell? ⟨(ad.add (k * 2)).block, (ad.add (k * 2)).off + 1, none⟩ = some (.int .i64 v) ∧ Hid (Below wr.heap.size wr w')) (by kernel_rfl) ?_ (fun hHeld => ?_)
          · exact HF.out _ (Below.drew (Below.refl _ _))
          (refine wpAnyH_take (i := 0) (oi := ⟨_, _, _, _, _, _⟩) (v := ?_) rfl (by kernel_rfl) (by kernel_rfl) (by kernel_rfl) (fun _ _ _ h => h) (Or.inl ⟨by rfl, ?_⟩) (by assumption) ?_; rotate_left 1; · (intro w hSw; (try dsimp only at hSw); go_simp; all_goals with_reducible rfl))
          try simp only [Act.put, List.setIfInBounds_toArray, List.set_cons_zero, List.set_cons_succ]
          (refine wpAnyH_take (i := 1) (oi := ⟨_, _, _, _, _, _⟩) (v := ?_) rfl (by kernel_rfl) (by kernel_rfl) (by kernel_rfl) (fun _ _ _ h => h) (Or.inl ⟨by rfl, ?_⟩) (by assumption) ?_; rotate_left 1; · (intro w hSw; (try dsimp only at hSw); go_simp; all_goals with_reducible rfl))
          try simp only [Act.put, List.setIfInBounds_toArray, List.set_cons_zero, List.set_cons_succ]
          (refine wpAnyH_take (i := 2) (oi := ⟨_, _, _, _, _, _⟩) (v := ?_) rfl (by kernel_rfl) (by kernel_rfl) (by kernel_rfl) (fun _ _ _ h => h) (Or.inl ⟨by rfl, ?_⟩) (by assumption) ?_; rotate_left 1; · (intro w hSw; (try dsimp only at hSw); go_simp; all_goals with_reducible rfl))
          try simp only [Act.put, List.setIfInBounds_toArray, List.set_cons_zero, List.set_cons_succ]
          (refine wpAnyH_take (i := 3) (oi := ⟨_, _, _, _, _, _⟩) (v := ?_) rfl (by kernel_rfl) (by kernel_rfl) (by kernel_rfl) (fun _ _ _ h => h) (Or.inl ⟨by rfl, ?_⟩) (by assumption) ?_; rotate_left 1; · (intro w hSw; (try dsimp only at hSw); go_simp; all_goals with_reducible rfl))
          try simp only [Act.put, List.setIfInBounds_toArray, List.set_cons_zero, List.set_cons_succ]
          (refine wpAnyH_take (i := 4) (oi := ⟨_, _, _, _, _, _⟩) (v := ?_) rfl (by kernel_rfl) (by kernel_rfl) (by kernel_rfl) (fun _ _ _ h => h) (Or.inl ⟨by rfl, ?_⟩) (by assumption) ?_; rotate_left 1; · (intro w hSw; (try dsimp only at hSw); go_simp; all_goals with_reducible rfl))
          try simp only [Act.put, List.setIfInBounds_toArray, List.set_cons_zero, List.set_cons_succ]
          (refine wpAnyH_take (i := 5) (oi := ⟨_, _, _, _, _, _⟩) (v := ?_) rfl (by kernel_rfl) (by kernel_rfl) (by kernel_rfl) (fun _ _ _ h => h) (Or.inl ⟨by rfl, ?_⟩) (by assumption) ?_; rotate_left 1; · (intro w hSw; (try dsimp only at hSw); go_simp; all_goals with_reducible rfl))
          try simp only [Act.put, List.setIfInBounds_toArray, List.set_cons_zero, List.set_cons_succ]
          (refine wpAnyH_take (i := 6) (oi := ⟨_, _, _, _, _, _⟩) (v := ?_) rfl (by kernel_rfl) (by kernel_rfl) (by kernel_rfl) (fun _ _ _ h => h) (Or.inl ⟨by rfl, ?_⟩) (by assumption) ?_; rotate_left 1; · (intro w hSw; (try dsimp only at hSw); go_simp; all_goals with_reducible rfl))
          try simp only [Act.put, List.setIfInBounds_toArray, List.set_cons_zero, List.set_cons_succ]
          refine wpAnyH_ready (rs := [7]) (by kernel_rfl) (by simp) ?_
          refine AllReadyH.cons (o := ⟨_, _, _, _, _, _⟩) rfl (fun Kq hKq => ?_) (AllReadyH.nil)
          go_simp
          clear hHeld
          go_at_call 15; (with_reducible refine (HC.out _ (below_after HW.out (Below.drew (Below.refl _ _)) (Nat.le_refl _))).mono ?_); rintro e w7 ⟨rfl, hb⟩; have P7 := Lib.hid (below_after (Below.drew (Below.refl _ _)) hb (Nat.le_refl _)); clear hb x3 x4 z3 z4 q1 q2
          refine hKq.out _ _ ?_ (fun hHeld => ?_)
          · (try dsimp only); exact HF.out _ P7.out
          clear hKq Kq
          try simp only [Act.put, List.setIfInBounds_toArray, List.set_cons_zero, List.set_cons_succ]
          (refine wpAnyH_take (i := 8) (oi := ⟨_, _, _, _, _, _⟩) (v := ?_) rfl (by kernel_rfl) (by kernel_rfl) (by kernel_rfl) (fun _ _ _ h => h) (Or.inl ⟨by rfl, ?_⟩) (by assumption) ?_; rotate_left 1; · (intro w hSw; (try dsimp only at hSw); go_simp; all_goals with_reducible rfl))
          try simp only [Act.put, List.setIfInBounds_toArray, List.set_cons_zero, List.set_cons_succ]
          refine wpAnyH_done (by kernel_rfl) ?_ _
          go_wp2_with fail
          go_roundw
          case rel => exact ⟨k + 1, by omega, by go_num, Lib.hid (below_after HW.out P7.out (Nat.le_refl _))⟩
          case measure => simp [intOf]; omega
        · have hdk : decide ((k : Int) < (m1 : Int)) = false := by simp; omega
          have V2 := Lib.hid (wbox_below X2.out HW.out)
          obtain ⟨_, _, y3, _⟩ := wbox_cells V2.out
          go_wp2_with fail
          go_ret
          exact ⟨rfl, below_after BB.out HW.out (Nat.le_refl _)⟩
    · have hd : decide (T < T) = false := decide_eq_false (by omega)
      have HSUB : Hid (∀ z ∈ M1, z ∈ M3) := Lib.hid (hn)
      go_wp2_with fail
      go_loopw [17] (fun s17 wr => ∃ k : Nat, k ≤ m1 ∧ s17 = .int .i64 k ∧ Hid (Below wc.heap.size wc wr)) (fun s17 _ => m1 - (intOf s17).toNat)
      case atStart => exact ⟨0, by omega, rfl, Lib.hid (Below.refl _ _)⟩
      case round =>
        obtain ⟨k, hkl, rfl, HW⟩ := hrel
        have i3 : (0 : Int) ≤ (k : Int) := by omega
        have XR := Lib.hid (wbox_below X1.out HW.out)
        have ZR := Lib.hid (wbox_below Y0.out HW.out)
        clear x3 x4 y3 z3 z4
        obtain ⟨_, _, x3, x4⟩ := wbox_cells XR.out
        obtain ⟨_, _, z3, z4⟩ := wbox_cells ZR.out
        by_cases hlt2 : k < m1
        · have i4 : (k : Int) < (m1 : Int) := by omega
          have hdk : decide ((k : Int) < (m1 : Int)) = true := decide_eq_true i4
          have hk2 : k < M1.length := by have := HM1.out; omega
          obtain ⟨ad, rfl, q1, q2⟩ := N10.out.at_ HW.out hk2
          have HH : Hid (hasB (M1[k].1, M1[k].2) M3 = true) := Lib.hid (decide_eq_true (HSUB.out _ (List.getElem_mem hk2)))
          have HC : Hid (∀ W, Below wc.heap.size wc W → Calls Try.prog 15 #[.slice D3 m3 d3, .agg #[.int .i64 M1[k].1, .int .i64 M1[k].2]] W fun e w' => e = .returned (.bool true) ∧ Below W.heap.size W w') := Lib.hid fun W hb => by
            have := refHas_any (.slice D3 m3 d3) M3 M1[k].1 M1[k].2 W (N30.out.below hb) (by have := HN3.out; omega)
            rw [HH.out] at this
            exact this
          have HF := Lib.hid fun W (hb : Below wr.heap.size wr W) => And.intro (wbox_cells (wbox_below XR.out hb)).2.2.2 (And.intro (wbox_cells (wbox_below ZR.out hb)).2.2.2 (And.intro ((hb.cell (block_lt_of_cell q1)).trans q1) (And.intro ((hb.cell (block_lt_of_cell q2)).trans q2) (Lib.hid hb))))
          clear HH
          generalize M1[k].1 = u at *
          generalize M1[k].2 = v at *
          go_wp2_with fail
          refine wp_region_held_drew (S := fun w' => w'.cell? ⟨w7.heap.size, 3, none⟩ = some (.slice (some ad) m1 d1) ∧ w'.cell? ⟨Z, 3, none⟩ = some (.slice D3 m3 d3) ∧ w'.cell? (ad.add (k * 2)) = some (.int .i64 u) ∧ w'.cell? ⟨(ad.add (k * 2)).block, (ad.add (k * 2)).off + 1, none⟩ = some (.int .i64 v) ∧ Hid (Below wr.heap.size wr w')) (by kernel_rfl) ?_ (fun hHeld => ?_)
          · exact HF.out _ (Below.drew (Below.refl _ _))
          (refine wpAnyH_take (i := 0) (oi := ⟨_, _, _, _, _, _⟩) (v := ?_) rfl (by kernel_rfl) (by kernel_rfl) (by kernel_rfl) (fun _ _ _ h => h) (Or.inl ⟨by rfl, ?_⟩) (by assumption) ?_; rotate_left 1; · (intro w hSw; (try dsimp only at hSw); go_simp; all_goals with_reducible rfl))
          try simp only [Act.put, List.setIfInBounds_toArray, List.set_cons_zero, List.set_cons_succ]
          (refine wpAnyH_take (i := 1) (oi := ⟨_, _, _, _, _, _⟩) (v := ?_) rfl (by kernel_rfl) (by kernel_rfl) (by kernel_rfl) (fun _ _ _ h => h) (Or.inl ⟨by rfl, ?_⟩) (by assumption) ?_; rotate_left 1; · (intro w hSw; (try dsimp only at hSw); go_simp; all_goals with_reducible rfl))
          try simp only [Act.put, List.setIfInBounds_toArray, List.set_cons_zero, List.set_cons_succ]
          (refine wpAnyH_take (i := 2) (oi := ⟨_, _, _, _, _, _⟩) (v := ?_) rfl (by kernel_rfl) (by kernel_rfl) (by kernel_rfl) (fun _ _ _ h => h) (Or.inl ⟨by rfl, ?_⟩) (by assumption) ?_; rotate_left 1; · (intro w hSw; (try dsimp only at hSw); go_simp; all_goals with_reducible rfl))
          try simp only [Act.put, List.setIfInBounds_toArray, List.set_cons_zero, List.set_cons_succ]
          (refine wpAnyH_take (i := 3) (oi := ⟨_, _, _, _, _, _⟩) (v := ?_) rfl (by kernel_rfl) (by kernel_rfl) (by kernel_rfl) (fun _ _ _ h => h) (Or.inl ⟨by rfl, ?_⟩) (by assumption) ?_; rotate_left 1; · (intro w hSw; (try dsimp only at hSw); go_simp; all_goals with_reducible rfl))
          try simp only [Act.put, List.setIfInBounds_toArray, List.set_cons_zero, List.set_cons_succ]
          (refine wpAnyH_take (i := 4) (oi := ⟨_, _, _, _, _, _⟩) (v := ?_) rfl (by kernel_rfl) (by kernel_rfl) (by kernel_rfl) (fun _ _ _ h => h) (Or.inl ⟨by rfl, ?_⟩) (by assumption) ?_; rotate_left 1; · (intro w hSw; (try dsimp only at hSw); go_simp; all_goals with_reducible rfl))
          try simp only [Act.put, List.setIfInBounds_toArray, List.set_cons_zero, List.set_cons_succ]
          (refine wpAnyH_take (i := 5) (oi := ⟨_, _, _, _, _, _⟩) (v := ?_) rfl (by kernel_rfl) (by kernel_rfl) (by kernel_rfl) (fun _ _ _ h => h) (Or.inl ⟨by rfl, ?_⟩) (by assumption) ?_; rotate_left 1; · (intro w hSw; (try dsimp only at hSw); go_simp; all_goals with_reducible rfl))
          try simp only [Act.put, List.setIfInBounds_toArray, List.set_cons_zero, List.set_cons_succ]
          (refine wpAnyH_take (i := 6) (oi := ⟨_, _, _, _, _, _⟩) (v := ?_) rfl (by kernel_rfl) (by kernel_rfl) (by kernel_rfl) (fun _ _ _ h => h) (Or.inl ⟨by rfl, ?_⟩) (by assumption) ?_; rotate_left 1; · (intro w hSw; (try dsimp only at hSw); go_simp; all_goals with_reducible rfl))
          try simp only [Act.put, List.setIfInBounds_toArray, List.set_cons_zero, List.set_cons_succ]
          refine wpAnyH_ready (rs := [7]) (by kernel_rfl) (by simp) ?_
          refine AllReadyH.cons (o := ⟨_, _, _, _, _, _⟩) rfl (fun Kq hKq => ?_) (AllReadyH.nil)
          go_simp
          clear hHeld
          go_at_call 15; (with_reducible refine (HC.out _ (below_after HW.out (Below.drew (Below.refl _ _)) (Nat.le_refl _))).mono ?_); rintro e w7 ⟨rfl, hb⟩; have P7 := Lib.hid (below_after (Below.drew (Below.refl _ _)) hb (Nat.le_refl _)); clear hb x3 x4 z3 z4 q1 q2
          refine hKq.out _ _ ?_ (fun hHeld => ?_)
          · (try dsimp only); exact HF.out _ P7.out
          clear hKq Kq
          try simp only [Act.put, List.setIfInBounds_toArray, List.set_cons_zero, List.set_cons_succ]
          (refine wpAnyH_take (i := 8) (oi := ⟨_, _, _, _, _, _⟩) (v := ?_) rfl (by kernel_rfl) (by kernel_rfl) (by kernel_rfl) (fun _ _ _ h => h) (Or.inl ⟨by rfl, ?_⟩) (by assumption) ?_; rotate_left 1; · (intro w hSw; (try dsimp only at hSw); go_simp; all_goals with_reducible rfl))
          try simp only [Act.put, List.setIfInBounds_toArray, List.set_cons_zero, List.set_cons_succ]
          refine wpAnyH_done (by kernel_rfl) ?_ _
          go_wp2_with fail
          go_roundw
          case rel => exact ⟨k + 1, by omega, by go_num, Lib.hid (below_after HW.out P7.out (Nat.le_refl _))⟩
          case measure => simp [intOf]; omega
        · have hdk : decide ((k : Int) < (m1 : Int)) = false := by simp; omega
          have V2 := Lib.hid (wbox_below X2.out HW.out)
          obtain ⟨_, _, y3, _⟩ := wbox_cells V2.out
          go_wp2_with fail
          go_ret
          exact ⟨rfl, below_after BB.out HW.out (Nat.le_refl _)⟩
theorem newest_any (v0 : Value) (l0 : List Row) (v1 : Value) (l1 : List Row) (x y : Int) (v3 : Value) (l3 : List Id2) (w : World) (h0 : RowsAt w v0 l0) (h1 : RowsAt w v1 l1) (h3 : Ids w v3 l3) :
    Calls Try.prog 5 #[v0, v1, .agg #[.int .i64 x, .int .i64 y], v3] w fun e w' => e = .returned (.bool true) ∧ Below w.heap.size w w' := by
  rcases a0 : longB l0 with _ | _
  · rcases a1 : longB l1 with _ | _
    · rcases a2 : decide (80 < (l3.length : Int)) with _ | _
      · rcases b0 : mayB l0 with _ | _
        · exact newest_may0 v0 l0 v1 l1 x y v3 l3 w h0 h1 h3 a0 a1 a2 b0
        · rcases b1 : mayB l1 with _ | _
          · exact newest_may1 v0 l0 v1 l1 x y v3 l3 w h0 h1 h3 a0 a1 a2 b0 b1
          · rcases setE_cases (x, y) l3 ((may_iff l0).1 b0).2.2 with he | he | he
            · exact newest_e4 v0 l0 v1 l1 x y v3 l3 w h0 h1 h3 a0 a1 a2 b0 b1 he
            · exact newest_e40 v0 l0 v1 l1 x y v3 l3 w h0 h1 h3 a0 a1 a2 b0 b1 he
            · exact newest_ok v0 l0 v1 l1 x y v3 l3 w h0 h1 h3 a0 a1 a2 b0 b1 he
      · exact newest_long2 v0 l0 v1 l1 x y v3 l3 w h0 h1 h3 a0 a1 a2
    · exact newest_long1 v0 l0 v1 l1 x y v3 l3 w h0 h1 h3 a0 a1
  · exact newest_long0 v0 l0 v1 l1 x y v3 l3 w h0 h1 h3 a0
section
open Go.ChangeShapes Go.WideShapes Go.ChangeAt
open Go.ChangeMaps (open_string)
set_option maxRecDepth 100000 in
theorem newest_lifted (os : Os) (started : os.Started) (H : Type) (enc : TypeId × Value → H) :
    ReturnsInHanded {} Try.checked os 5 .any (Rows.rowsNewestSpec.pre6 enc Try.prog Try.f5 Rows.rowsNewestRow.domain false) (Rows.rowsNewestSpec.post enc Try.prog Try.f5 false true false false) := by
  refine returnsInHanded_of_change_sized (C := Try.checked) Try.own started (by kernel_rfl) Try.func5
    (ChangeSpec.witness6 (enc := enc) (C := Try.checked) false ⟨#[], #[.slice none 0 0, .slice none 0 0, .agg #[.int .i64 0, .int .i64 0], .slice none 0 0], []⟩ 8 (by kernel_rfl) (by kernel_rfl) (by kernel_rfl) (by kernel_rfl)) ?_
  intro W base args ds gs before hval0 hW _ _ _
  have hval : ∀ (j : Nat) t v, Try.f5.params[j]? = some t → args[j]? = some v → Value.okWide Try.prog W .any base t v := hval0
  have hW' := hW
  obtain ⟨p, q, hA0, hV, rfl, _, _⟩ := hW
  have hA : DataW.TrodAll enc Try.prog W 0 (fun _ => true) true Try.f5.params.toList args.toList ds p := hA0
  rw [Try.params5] at hA hval
  obtain ⟨v0, v1, v2, v3, d0, d1, d2, d3, p0, p1, p2, p3, rfl, rfl, rfl, h0, h1, h2, h3⟩ := trodAll_four hA
  obtain ⟨rfl, rfl⟩ := trodVars_none hV
  obtain ⟨l0, I0, U0⟩ := open_rows (hval 0 27 v0 rfl rfl) h0
  obtain ⟨l1, I1, U1⟩ := open_rows (hval 1 27 v1 rfl rfl) h1
  obtain ⟨a2, b2, rfl⟩ := open_id (hval 2 23 v2 rfl rfl) h2
  obtain ⟨l3, I3⟩ := open_ids (hval 3 24 v3 rfl rfl) h3
  refine (newest_any v0 l0 v1 l1 a2 b2 v3 l3 W I0 I1 I3).mono fun e W' ⟨he, hb⟩ => ?_
  subst he
  exact ⟨_, rfl, law_post hW' rfl (by kernel_rfl) Try.underlying4 rfl (by unfold Legible; kernel_rfl) hb⟩
/-- The statement. -/
theorem newest_holds : Rows.RowsNewestSaid :=
  OpenClaim.holds_of_wide 5 Try.f5 rfl rfl rfl rfl rfl rfl rfl ⟨rfl, rfl, rfl, rfl, rfl⟩ rfl rfl rfl rfl rfl (by kernel_rfl) Try.func5 (by kernel_rfl)
    (of_decide_eq_true (by kernel_rfl)) (by unfold Func.isWrapper; first | (rw [if_pos (by decide +kernel)]; kernel_rfl) | (rw [if_neg (by decide +kernel)]; exact ⟨rfl, rfl⟩))
    (fun os started H enc _ => newest_lifted os started H enc)
end

end Go.Proofs.Ytofanciaacdjfaa
