/-
  Walks over RowsGone of package coveylaw06, for any two lists of rows, any floors and any ID: without those that are Removed, and then joined, and so once more, rows are the same as joined first; none of them is anywhere then.
-/
import Derived.Test.YtofanciaacdjfaaOpenR
import Derived.Test.YtofanciaacdjfaaRowFacts
import Derived.Test.YtofanciaacdjfaaGoneW
import Derived.Test.YtofanciaacdjfaaAwake
import Derived.Test.YtofanciaacdjfaaBase
import Derived.Lib.SmallJoins
namespace Go.Proofs.Ytofanciaacdjfaa
open Go Go.RowKit Sets RowSets
theorem rem_next2 {fl : List Id2} {k : Nat} (h : k < fl.length) (x : Id2) : rem (fl.take (k + 1)) x = (rem (fl.take k) x || (decide (fl[k].1 = x.1) && decide (x.2 ≤ fl[k].2))) := by
  unfold rem
  rw [List.take_succ_eq_append_getElem h, List.any_append]
  simp
theorem Lens.gone {l : List Row} {n m : Nat} (h : Lens n m l) (fl : List Id2) : Lens n m (gone fl l) := by
  refine ⟨?_, fun r hr => ?_⟩
  · unfold RowSets.gone
    rw [List.length_map]
    exact Nat.le_trans (List.length_filter_le _ _) h.1
  · unfold RowSets.gone at hr
    obtain ⟨u, hu, rfl⟩ := List.mem_map.1 hr
    exact Nat.le_trans (List.length_filter_le _ _) (h.2 u (List.mem_filter.1 hu).1)
set_option maxHeartbeats 8000000 in
set_option maxRecDepth 100000 in
theorem gone_long0 (v0 : Value) (l0 : List Row) (v1 : Value) (l1 : List Row) (v2 : Value) (l2 : List Id2) (x y : Int) (w : World) (h0 : RowsAt w v0 l0) (h1 : RowsAt w v1 l1) (h2 : Ids w v2 l2) (a0 : longB l0 = true) :
    Calls Try.prog 6 #[v0, v1, v2, .agg #[.int .i64 x, .int .i64 y]] w fun e w' => e = .returned (.bool true) ∧ Below w.heap.size w w' := by
  have B00 := Lib.hid (below_one w (.cells #[.int .i64 x, .int .i64 y] 23))
  have X00 := Lib.hid (box_new w x y)
  have I0 := Lib.hid (h0.below B00.out)
  have I1 := Lib.hid (h1.below B00.out)
  have I2 := Lib.hid (h2.below B00.out)
  obtain ⟨A0, c0, rfl, hz0⟩ := h0.shape
  obtain ⟨A1, c1, rfl, hz1⟩ := h1.shape
  obtain ⟨A2, c2, rfl, hz2, _⟩ := id h2
  have Ha0 := Lib.hid a0
  clear h0 h1 h2 hz0 hz1 hz2 a0
  go_enter Try.func6, Try.ntmps6
  have B0 := Lib.hid B00.out
  have J0 := Lib.hid I0.out
  have J1 := Lib.hid I1.out
  have J2 := Lib.hid I2.out
  have XX := Lib.hid X00.out
  obtain ⟨x1, x2⟩ := box_cells XX.out
  go_wp2_with fail
  refine (long_any _ l0 _ J0.out).mono ?_
  rw [Ha0.out]
  rintro e w1 ⟨rfl, hb⟩
  have B1 := Lib.hid (below_after B0.out hb (Nat.le_refl _))
  have IL01 := Lib.hid (J0.out.below hb)
  have IL11 := Lib.hid (J1.out.below hb)
  have IL21 := Lib.hid (J2.out.below hb)
  clear x1 x2
  have X0_1 := Lib.hid (box_below XX.out hb)
  obtain ⟨x1, x2⟩ := box_cells X0_1.out
  clear hb
  go_wp2_with fail
  refine (awake_any _).mono ?_
  rintro e w2 ⟨rfl, hb⟩
  have B2 := Lib.hid (below_after B1.out hb (Nat.le_refl _))
  have IL02 := Lib.hid (IL01.out.below hb)
  have IL12 := Lib.hid (IL11.out.below hb)
  have IL22 := Lib.hid (IL21.out.below hb)
  clear x1 x2
  have X0_2 := Lib.hid (box_below X0_1.out hb)
  obtain ⟨x1, x2⟩ := box_cells X0_2.out
  clear hb
  go_wp2_with fail
  go_ret
  exact ⟨rfl, B2.out⟩
set_option maxHeartbeats 8000000 in
set_option maxRecDepth 100000 in
theorem gone_long1 (v0 : Value) (l0 : List Row) (v1 : Value) (l1 : List Row) (v2 : Value) (l2 : List Id2) (x y : Int) (w : World) (h0 : RowsAt w v0 l0) (h1 : RowsAt w v1 l1) (h2 : Ids w v2 l2) (a0 : longB l0 = false) (a1 : longB l1 = true) :
    Calls Try.prog 6 #[v0, v1, v2, .agg #[.int .i64 x, .int .i64 y]] w fun e w' => e = .returned (.bool true) ∧ Below w.heap.size w w' := by
  have B00 := Lib.hid (below_one w (.cells #[.int .i64 x, .int .i64 y] 23))
  have X00 := Lib.hid (box_new w x y)
  have I0 := Lib.hid (h0.below B00.out)
  have I1 := Lib.hid (h1.below B00.out)
  have I2 := Lib.hid (h2.below B00.out)
  obtain ⟨A0, c0, rfl, hz0⟩ := h0.shape
  obtain ⟨A1, c1, rfl, hz1⟩ := h1.shape
  obtain ⟨A2, c2, rfl, hz2, _⟩ := id h2
  have Ha0 := Lib.hid a0
  have Ha1 := Lib.hid a1
  clear h0 h1 h2 hz0 hz1 hz2 a0 a1
  go_enter Try.func6, Try.ntmps6
  have B0 := Lib.hid B00.out
  have J0 := Lib.hid I0.out
  have J1 := Lib.hid I1.out
  have J2 := Lib.hid I2.out
  have XX := Lib.hid X00.out
  obtain ⟨x1, x2⟩ := box_cells XX.out
  go_wp2_with fail
  refine (long_any _ l0 _ J0.out).mono ?_
  rw [Ha0.out]
  rintro e w1 ⟨rfl, hb⟩
  have B1 := Lib.hid (below_after B0.out hb (Nat.le_refl _))
  have IL01 := Lib.hid (J0.out.below hb)
  have IL11 := Lib.hid (J1.out.below hb)
  have IL21 := Lib.hid (J2.out.below hb)
  clear x1 x2
  have X0_1 := Lib.hid (box_below XX.out hb)
  obtain ⟨x1, x2⟩ := box_cells X0_1.out
  clear hb
  go_wp2_with fail
  refine (long_any _ l1 _ IL11.out).mono ?_
  rw [Ha1.out]
  rintro e w2 ⟨rfl, hb⟩
  have B2 := Lib.hid (below_after B1.out hb (Nat.le_refl _))
  have IL02 := Lib.hid (IL01.out.below hb)
  have IL12 := Lib.hid (IL11.out.below hb)
  have IL22 := Lib.hid (IL21.out.below hb)
  clear x1 x2
  have X0_2 := Lib.hid (box_below X0_1.out hb)
  obtain ⟨x1, x2⟩ := box_cells X0_2.out
  clear hb
  go_wp2_with fail
  refine (awake_any _).mono ?_
  rintro e w3 ⟨rfl, hb⟩
  have B3 := Lib.hid (below_after B2.out hb (Nat.le_refl _))
  have IL03 := Lib.hid (IL02.out.below hb)
  have IL13 := Lib.hid (IL12.out.below hb)
  have IL23 := Lib.hid (IL22.out.below hb)
  clear x1 x2
  have X0_3 := Lib.hid (box_below X0_2.out hb)
  obtain ⟨x1, x2⟩ := box_cells X0_3.out
  clear hb
  go_wp2_with fail
  go_ret
  exact ⟨rfl, B3.out⟩
set_option maxHeartbeats 8000000 in
set_option maxRecDepth 100000 in
theorem gone_long2 (v0 : Value) (l0 : List Row) (v1 : Value) (l1 : List Row) (v2 : Value) (l2 : List Id2) (x y : Int) (w : World) (h0 : RowsAt w v0 l0) (h1 : RowsAt w v1 l1) (h2 : Ids w v2 l2) (a0 : longB l0 = false) (a1 : longB l1 = false) (a2 : decide (80 < (l2.length : Int)) = true) :
    Calls Try.prog 6 #[v0, v1, v2, .agg #[.int .i64 x, .int .i64 y]] w fun e w' => e = .returned (.bool true) ∧ Below w.heap.size w w' := by
  have B00 := Lib.hid (below_one w (.cells #[.int .i64 x, .int .i64 y] 23))
  have X00 := Lib.hid (box_new w x y)
  have I0 := Lib.hid (h0.below B00.out)
  have I1 := Lib.hid (h1.below B00.out)
  have I2 := Lib.hid (h2.below B00.out)
  obtain ⟨A0, c0, rfl, hz0⟩ := h0.shape
  obtain ⟨A1, c1, rfl, hz1⟩ := h1.shape
  obtain ⟨A2, c2, rfl, hz2, _⟩ := id h2
  have Ha0 := Lib.hid a0
  have Ha1 := Lib.hid a1
  clear h0 h1 h2 hz0 hz1 hz2 a0 a1
  go_enter Try.func6, Try.ntmps6
  have B0 := Lib.hid B00.out
  have J0 := Lib.hid I0.out
  have J1 := Lib.hid I1.out
  have J2 := Lib.hid I2.out
  have XX := Lib.hid X00.out
  obtain ⟨x1, x2⟩ := box_cells XX.out
  go_wp2_with fail
  refine (long_any _ l0 _ J0.out).mono ?_
  rw [Ha0.out]
  rintro e w1 ⟨rfl, hb⟩
  have B1 := Lib.hid (below_after B0.out hb (Nat.le_refl _))
  have IL01 := Lib.hid (J0.out.below hb)
  have IL11 := Lib.hid (J1.out.below hb)
  have IL21 := Lib.hid (J2.out.below hb)
  clear x1 x2
  have X0_1 := Lib.hid (box_below XX.out hb)
  obtain ⟨x1, x2⟩ := box_cells X0_1.out
  clear hb
  go_wp2_with fail
  refine (long_any _ l1 _ IL11.out).mono ?_
  rw [Ha1.out]
  rintro e w2 ⟨rfl, hb⟩
  have B2 := Lib.hid (below_after B1.out hb (Nat.le_refl _))
  have IL02 := Lib.hid (IL01.out.below hb)
  have IL12 := Lib.hid (IL11.out.below hb)
  have IL22 := Lib.hid (IL21.out.below hb)
  clear x1 x2
  have X0_2 := Lib.hid (box_below X0_1.out hb)
  obtain ⟨x1, x2⟩ := box_cells X0_2.out
  clear hb
  go_wp2_with fail
  refine (awake_any _).mono ?_
  rintro e w3 ⟨rfl, hb⟩
  have B3 := Lib.hid (below_after B2.out hb (Nat.le_refl _))
  have IL03 := Lib.hid (IL02.out.below hb)
  have IL13 := Lib.hid (IL12.out.below hb)
  have IL23 := Lib.hid (IL22.out.below hb)
  clear x1 x2
  have X0_3 := Lib.hid (box_below X0_2.out hb)
  obtain ⟨x1, x2⟩ := box_cells X0_3.out
  clear hb
  go_wp2_with fail
  go_ret
  exact ⟨rfl, B3.out⟩
set_option maxHeartbeats 8000000 in
set_option maxRecDepth 100000 in
theorem gone_may0 (v0 : Value) (l0 : List Row) (v1 : Value) (l1 : List Row) (v2 : Value) (l2 : List Id2) (x y : Int) (w : World) (h0 : RowsAt w v0 l0) (h1 : RowsAt w v1 l1) (h2 : Ids w v2 l2) (a0 : longB l0 = false) (a1 : longB l1 = false) (a2 : decide (80 < (l2.length : Int)) = false) (b0 : mayB l0 = false) :
    Calls Try.prog 6 #[v0, v1, v2, .agg #[.int .i64 x, .int .i64 y]] w fun e w' => e = .returned (.bool true) ∧ Below w.heap.size w w' := by
  have B00 := Lib.hid (below_one w (.cells #[.int .i64 x, .int .i64 y] 23))
  have X00 := Lib.hid (box_new w x y)
  have I0 := Lib.hid (h0.below B00.out)
  have I1 := Lib.hid (h1.below B00.out)
  have I2 := Lib.hid (h2.below B00.out)
  obtain ⟨A0, c0, rfl, hz0⟩ := h0.shape
  obtain ⟨A1, c1, rfl, hz1⟩ := h1.shape
  obtain ⟨A2, c2, rfl, hz2, _⟩ := id h2
  have Ha0 := Lib.hid a0
  have Ha1 := Lib.hid a1
  have Hb0 := Lib.hid b0
  clear h0 h1 h2 hz0 hz1 hz2 a0 a1 b0
  go_enter Try.func6, Try.ntmps6
  have B0 := Lib.hid B00.out
  have J0 := Lib.hid I0.out
  have J1 := Lib.hid I1.out
  have J2 := Lib.hid I2.out
  have XX := Lib.hid X00.out
  obtain ⟨x1, x2⟩ := box_cells XX.out
  go_wp2_with fail
  refine (long_any _ l0 _ J0.out).mono ?_
  rw [Ha0.out]
  rintro e w1 ⟨rfl, hb⟩
  have B1 := Lib.hid (below_after B0.out hb (Nat.le_refl _))
  have IL01 := Lib.hid (J0.out.below hb)
  have IL11 := Lib.hid (J1.out.below hb)
  have IL21 := Lib.hid (J2.out.below hb)
  clear x1 x2
  have X0_1 := Lib.hid (box_below XX.out hb)
  obtain ⟨x1, x2⟩ := box_cells X0_1.out
  clear hb
  go_wp2_with fail
  refine (long_any _ l1 _ IL11.out).mono ?_
  rw [Ha1.out]
  rintro e w2 ⟨rfl, hb⟩
  have B2 := Lib.hid (below_after B1.out hb (Nat.le_refl _))
  have IL02 := Lib.hid (IL01.out.below hb)
  have IL12 := Lib.hid (IL11.out.below hb)
  have IL22 := Lib.hid (IL21.out.below hb)
  clear x1 x2
  have X0_2 := Lib.hid (box_below X0_1.out hb)
  obtain ⟨x1, x2⟩ := box_cells X0_2.out
  clear hb
  go_wp2_with fail
  refine (awake_any _).mono ?_
  rintro e w3 ⟨rfl, hb⟩
  have B3 := Lib.hid (below_after B2.out hb (Nat.le_refl _))
  have IL03 := Lib.hid (IL02.out.below hb)
  have IL13 := Lib.hid (IL12.out.below hb)
  have IL23 := Lib.hid (IL22.out.below hb)
  clear x1 x2
  have X0_3 := Lib.hid (box_below X0_2.out hb)
  obtain ⟨x1, x2⟩ := box_cells X0_3.out
  clear hb
  go_wp2_with fail
  refine (may_rows _ l0 _ IL03.out ((lens_long Ha0.out).nots (by omega))).mono ?_
  rw [Hb0.out]
  rintro e w4 ⟨rfl, hb⟩
  have B4 := Lib.hid (below_after B3.out hb (Nat.le_refl _))
  have IL04 := Lib.hid (IL03.out.below hb)
  have IL14 := Lib.hid (IL13.out.below hb)
  have IL24 := Lib.hid (IL23.out.below hb)
  clear x1 x2
  have X0_4 := Lib.hid (box_below X0_3.out hb)
  obtain ⟨x1, x2⟩ := box_cells X0_4.out
  clear hb
  go_wp2_with fail
  go_ret
  exact ⟨rfl, B4.out⟩
set_option maxHeartbeats 8000000 in
set_option maxRecDepth 100000 in
theorem gone_may1 (v0 : Value) (l0 : List Row) (v1 : Value) (l1 : List Row) (v2 : Value) (l2 : List Id2) (x y : Int) (w : World) (h0 : RowsAt w v0 l0) (h1 : RowsAt w v1 l1) (h2 : Ids w v2 l2) (a0 : longB l0 = false) (a1 : longB l1 = false) (a2 : decide (80 < (l2.length : Int)) = false) (b0 : mayB l0 = true) (b1 : mayB l1 = false) :
    Calls Try.prog 6 #[v0, v1, v2, .agg #[.int .i64 x, .int .i64 y]] w fun e w' => e = .returned (.bool true) ∧ Below w.heap.size w w' := by
  have B00 := Lib.hid (below_one w (.cells #[.int .i64 x, .int .i64 y] 23))
  have X00 := Lib.hid (box_new w x y)
  have I0 := Lib.hid (h0.below B00.out)
  have I1 := Lib.hid (h1.below B00.out)
  have I2 := Lib.hid (h2.below B00.out)
  obtain ⟨A0, c0, rfl, hz0⟩ := h0.shape
  obtain ⟨A1, c1, rfl, hz1⟩ := h1.shape
  obtain ⟨A2, c2, rfl, hz2, _⟩ := id h2
  have Ha0 := Lib.hid a0
  have Ha1 := Lib.hid a1
  have Hb0 := Lib.hid b0
  have Hb1 := Lib.hid b1
  clear h0 h1 h2 hz0 hz1 hz2 a0 a1 b0 b1
  go_enter Try.func6, Try.ntmps6
  have B0 := Lib.hid B00.out
  have J0 := Lib.hid I0.out
  have J1 := Lib.hid I1.out
  have J2 := Lib.hid I2.out
  have XX := Lib.hid X00.out
  obtain ⟨x1, x2⟩ := box_cells XX.out
  go_wp2_with fail
  refine (long_any _ l0 _ J0.out).mono ?_
  rw [Ha0.out]
  rintro e w1 ⟨rfl, hb⟩
  have B1 := Lib.hid (below_after B0.out hb (Nat.le_refl _))
  have IL01 := Lib.hid (J0.out.below hb)
  have IL11 := Lib.hid (J1.out.below hb)
  have IL21 := Lib.hid (J2.out.below hb)
  clear x1 x2
  have X0_1 := Lib.hid (box_below XX.out hb)
  obtain ⟨x1, x2⟩ := box_cells X0_1.out
  clear hb
  go_wp2_with fail
  refine (long_any _ l1 _ IL11.out).mono ?_
  rw [Ha1.out]
  rintro e w2 ⟨rfl, hb⟩
  have B2 := Lib.hid (below_after B1.out hb (Nat.le_refl _))
  have IL02 := Lib.hid (IL01.out.below hb)
  have IL12 := Lib.hid (IL11.out.below hb)
  have IL22 := Lib.hid (IL21.out.below hb)
  clear x1 x2
  have X0_2 := Lib.hid (box_below X0_1.out hb)
  obtain ⟨x1, x2⟩ := box_cells X0_2.out
  clear hb
  go_wp2_with fail
  refine (awake_any _).mono ?_
  rintro e w3 ⟨rfl, hb⟩
  have B3 := Lib.hid (below_after B2.out hb (Nat.le_refl _))
  have IL03 := Lib.hid (IL02.out.below hb)
  have IL13 := Lib.hid (IL12.out.below hb)
  have IL23 := Lib.hid (IL22.out.below hb)
  clear x1 x2
  have X0_3 := Lib.hid (box_below X0_2.out hb)
  obtain ⟨x1, x2⟩ := box_cells X0_3.out
  clear hb
  go_wp2_with fail
  refine (may_rows _ l0 _ IL03.out ((lens_long Ha0.out).nots (by omega))).mono ?_
  rw [Hb0.out]
  rintro e w4 ⟨rfl, hb⟩
  have B4 := Lib.hid (below_after B3.out hb (Nat.le_refl _))
  have IL04 := Lib.hid (IL03.out.below hb)
  have IL14 := Lib.hid (IL13.out.below hb)
  have IL24 := Lib.hid (IL23.out.below hb)
  clear x1 x2
  have X0_4 := Lib.hid (box_below X0_3.out hb)
  obtain ⟨x1, x2⟩ := box_cells X0_4.out
  clear hb
  go_wp2_with fail
  refine (may_rows _ l1 _ IL14.out ((lens_long Ha1.out).nots (by omega))).mono ?_
  rw [Hb1.out]
  rintro e w5 ⟨rfl, hb⟩
  have B5 := Lib.hid (below_after B4.out hb (Nat.le_refl _))
  have IL05 := Lib.hid (IL04.out.below hb)
  have IL15 := Lib.hid (IL14.out.below hb)
  have IL25 := Lib.hid (IL24.out.below hb)
  clear x1 x2
  have X0_5 := Lib.hid (box_below X0_4.out hb)
  obtain ⟨x1, x2⟩ := box_cells X0_5.out
  clear hb
  go_wp2_with fail
  go_ret
  exact ⟨rfl, B5.out⟩
set_option maxHeartbeats 8000000 in
set_option maxRecDepth 100000 in
theorem gone_ok (v0 : Value) (l0 : List Row) (v1 : Value) (l1 : List Row) (v2 : Value) (l2 : List Id2) (x y : Int) (w : World) (h0 : RowsAt w v0 l0) (h1 : RowsAt w v1 l1) (h2 : Ids w v2 l2) (a0 : longB l0 = false) (a1 : longB l1 = false) (a2 : decide (80 < (l2.length : Int)) = false) (b0 : mayB l0 = true) (b1 : mayB l1 = true) :
    Calls Try.prog 6 #[v0, v1, v2, .agg #[.int .i64 x, .int .i64 y]] w fun e w' => e = .returned (.bool true) ∧ Below w.heap.size w w' := by
  have B00 := Lib.hid (below_one w (.cells #[.int .i64 x, .int .i64 y] 23))
  have X00 := Lib.hid (box_new w x y)
  have I0 := Lib.hid (h0.below B00.out)
  have I1 := Lib.hid (h1.below B00.out)
  have I2 := Lib.hid (h2.below B00.out)
  obtain ⟨A0, c0, rfl, hz0⟩ := h0.shape
  obtain ⟨A1, c1, rfl, hz1⟩ := h1.shape
  obtain ⟨A2, c2, rfl, hz2, _⟩ := id h2
  have Ha0 := Lib.hid a0
  have Ha1 := Lib.hid a1
  have Hb0 := Lib.hid b0
  have Hb1 := Lib.hid b1
  have N0 := Lib.hid ((may_iff l0).1 b0)
  have N1 := Lib.hid ((may_iff l1).1 b1)
  have Z0 := Lib.hid (lens_long a0)
  have Z1 := Lib.hid (lens_long a1)
  have ZJ := Lib.hid (Z0.out.joinR Z1.out)
  have ZL := Lib.hid (ZJ.out.gone l2)
  have Z2 := Lib.hid (show l2.length ≤ 80 by have := of_decide_eq_false a2; omega)
  have UL := Lib.hid fun h => gone_ids (fl := l2) (l := joinR l0 l1) (x := (x, y)) h
  have UN := Lib.hid fun h r (hr : r ∈ gone l2 (joinR l0 l1)) => gone_nots (fl := l2) (x := (x, y)) h hr
  have Q1 := Lib.hid (gone_late l2 l0 l1)
  have Q2 := Lib.hid (gone_gone l2 (joinR l0 l1))
  have Q3 := Lib.hid (gone_join l2 l0 l1).symm
  clear h0 h1 h2 hz0 hz1 hz2 a0 a1 b0 b1
  go_enter Try.func6, Try.ntmps6
  have B0 := Lib.hid B00.out
  have J0 := Lib.hid I0.out
  have J1 := Lib.hid I1.out
  have J2 := Lib.hid I2.out
  have XX := Lib.hid X00.out
  obtain ⟨x1, x2⟩ := box_cells XX.out
  go_wp2_with fail
  refine (long_any _ l0 _ J0.out).mono ?_
  rw [Ha0.out]
  rintro e w1 ⟨rfl, hb⟩
  have B1 := Lib.hid (below_after B0.out hb (Nat.le_refl _))
  have IL01 := Lib.hid (J0.out.below hb)
  have IL11 := Lib.hid (J1.out.below hb)
  have IL21 := Lib.hid (J2.out.below hb)
  clear x1 x2
  have X0_1 := Lib.hid (box_below XX.out hb)
  obtain ⟨x1, x2⟩ := box_cells X0_1.out
  clear hb
  go_wp2_with fail
  refine (long_any _ l1 _ IL11.out).mono ?_
  rw [Ha1.out]
  rintro e w2 ⟨rfl, hb⟩
  have B2 := Lib.hid (below_after B1.out hb (Nat.le_refl _))
  have IL02 := Lib.hid (IL01.out.below hb)
  have IL12 := Lib.hid (IL11.out.below hb)
  have IL22 := Lib.hid (IL21.out.below hb)
  clear x1 x2
  have X0_2 := Lib.hid (box_below X0_1.out hb)
  obtain ⟨x1, x2⟩ := box_cells X0_2.out
  clear hb
  go_wp2_with fail
  refine (awake_any _).mono ?_
  rintro e w3 ⟨rfl, hb⟩
  have B3 := Lib.hid (below_after B2.out hb (Nat.le_refl _))
  have IL03 := Lib.hid (IL02.out.below hb)
  have IL13 := Lib.hid (IL12.out.below hb)
  have IL23 := Lib.hid (IL22.out.below hb)
  clear x1 x2
  have X0_3 := Lib.hid (box_below X0_2.out hb)
  obtain ⟨x1, x2⟩ := box_cells X0_3.out
  clear hb
  go_wp2_with fail
  refine (may_rows _ l0 _ IL03.out ((lens_long Ha0.out).nots (by omega))).mono ?_
  rw [Hb0.out]
  rintro e w4 ⟨rfl, hb⟩
  have B4 := Lib.hid (below_after B3.out hb (Nat.le_refl _))
  have IL04 := Lib.hid (IL03.out.below hb)
  have IL14 := Lib.hid (IL13.out.below hb)
  have IL24 := Lib.hid (IL23.out.below hb)
  clear x1 x2
  have X0_4 := Lib.hid (box_below X0_3.out hb)
  obtain ⟨x1, x2⟩ := box_cells X0_4.out
  clear hb
  go_wp2_with fail
  refine (may_rows _ l1 _ IL14.out ((lens_long Ha1.out).nots (by omega))).mono ?_
  rw [Hb1.out]
  rintro e w5 ⟨rfl, hb⟩
  have B5 := Lib.hid (below_after B4.out hb (Nat.le_refl _))
  have IL05 := Lib.hid (IL04.out.below hb)
  have IL15 := Lib.hid (IL14.out.below hb)
  have IL25 := Lib.hid (IL24.out.below hb)
  clear x1 x2
  have X0_5 := Lib.hid (box_below X0_4.out hb)
  obtain ⟨x1, x2⟩ := box_cells X0_5.out
  clear hb
  go_wp2_with fail
  refine (join_rows _ _ l0 l1 _ IL05.out IL15.out N0.out.2.2 N1.out.2.2 (Z0.out.small (by omega) (by omega)) (Z1.out.small (by omega) (by omega))).mono ?_
  rintro e w6 ⟨J, rfl, hi, hb⟩
  have B6 := Lib.hid (below_after B5.out hb (Nat.le_refl _))
  have IL06 := Lib.hid (IL05.out.below hb)
  have IL16 := Lib.hid (IL15.out.below hb)
  have IL26 := Lib.hid (IL25.out.below hb)
  have IJ6 := Lib.hid hi
  clear hi
  clear x1 x2
  have X0_6 := Lib.hid (box_below X0_5.out hb)
  obtain ⟨x1, x2⟩ := box_cells X0_6.out
  clear hb
  go_wp2_with fail
  refine (gone_any _ _ (joinR l0 l1) l2 _ IJ6.out IL26.out (ZJ.out.small (by omega) (by omega)).1 (ZJ.out.nots (by omega)) (by have := Z2.out; omega)).mono ?_
  rintro e w7 ⟨late, rfl, hi, hb⟩
  have B7 := Lib.hid (below_after B6.out hb (Nat.le_refl _))
  have IL07 := Lib.hid (IL06.out.below hb)
  have IL17 := Lib.hid (IL16.out.below hb)
  have IL27 := Lib.hid (IL26.out.below hb)
  have Ilate7 := Lib.hid hi
  clear hi
  clear x1 x2
  have X0_7 := Lib.hid (box_below X0_6.out hb)
  obtain ⟨x1, x2⟩ := box_cells X0_7.out
  clear hb
  obtain ⟨Ab, cb, eb, _⟩ := Ilate7.out.shape
  subst eb
  go_wp2_with fail
  refine (gone_any _ _ l0 l2 _ IL07.out IL27.out (Z0.out.small (by omega) (by omega)).1 (Z0.out.nots (by omega)) (by have := Z2.out; omega)).mono ?_
  rintro e w8 ⟨ga, rfl, hi, hb⟩
  have B8 := Lib.hid (below_after B7.out hb (Nat.le_refl _))
  have IL08 := Lib.hid (IL07.out.below hb)
  have IL18 := Lib.hid (IL17.out.below hb)
  have IL28 := Lib.hid (IL27.out.below hb)
  have Ilate8 := Lib.hid (Ilate7.out.below hb)
  have Iga8 := Lib.hid hi
  clear hi
  clear x1 x2
  have X0_8 := Lib.hid (box_below X0_7.out hb)
  obtain ⟨x1, x2⟩ := box_cells X0_8.out
  clear hb
  go_wp2_with fail
  refine (join_rows _ _ (gone l2 l0) l1 _ Iga8.out IL18.out (up_gone l2 N0.out.2.2) N1.out.2.2 ((Z0.out.gone l2).small (by omega) (by omega)) (Z1.out.small (by omega) (by omega))).mono ?_
  rintro e w9 ⟨j2, rfl, hi, hb⟩
  have B9 := Lib.hid (below_after B8.out hb (Nat.le_refl _))
  have IL09 := Lib.hid (IL08.out.below hb)
  have IL19 := Lib.hid (IL18.out.below hb)
  have IL29 := Lib.hid (IL28.out.below hb)
  have Ilate9 := Lib.hid (Ilate8.out.below hb)
  have Ij29 := Lib.hid hi
  clear hi
  clear x1 x2
  have X0_9 := Lib.hid (box_below X0_8.out hb)
  obtain ⟨x1, x2⟩ := box_cells X0_9.out
  clear hb
  go_wp2_with fail
  refine (gone_any _ _ (joinR (gone l2 l0) l1) l2 _ Ij29.out IL29.out (((Z0.out.gone l2).joinR Z1.out).small (by omega) (by omega)).1 (((Z0.out.gone l2).joinR Z1.out).nots (by omega)) (by have := Z2.out; omega)).mono ?_
  rw [Q1.out]
  rintro e w10 ⟨g2, rfl, hi, hb⟩
  have B10 := Lib.hid (below_after B9.out hb (Nat.le_refl _))
  have IL010 := Lib.hid (IL09.out.below hb)
  have IL110 := Lib.hid (IL19.out.below hb)
  have IL210 := Lib.hid (IL29.out.below hb)
  have Ilate10 := Lib.hid (Ilate9.out.below hb)
  have Ig210 := Lib.hid hi
  clear hi
  clear x1 x2
  have X0_10 := Lib.hid (box_below X0_9.out hb)
  obtain ⟨x1, x2⟩ := box_cells X0_10.out
  clear hb
  go_wp2_with fail
  refine (sameRows_any _ _ (gone l2 (joinR l0 l1)) _ Ilate10.out Ig210.out (ZL.out.small (by omega) (by omega))).mono ?_
  rintro e w11 ⟨rfl, hb⟩
  have B11 := Lib.hid (below_after B10.out hb (Nat.le_refl _))
  have IL011 := Lib.hid (IL010.out.below hb)
  have IL111 := Lib.hid (IL110.out.below hb)
  have IL211 := Lib.hid (IL210.out.below hb)
  have Ilate11 := Lib.hid (Ilate10.out.below hb)
  clear x1 x2
  have X0_11 := Lib.hid (box_below X0_10.out hb)
  obtain ⟨x1, x2⟩ := box_cells X0_11.out
  clear hb
  go_wp2_with fail
  refine (gone_any _ _ (gone l2 (joinR l0 l1)) l2 _ Ilate11.out IL211.out (ZL.out.small (by omega) (by omega)).1 (ZL.out.nots (by omega)) (by have := Z2.out; omega)).mono ?_
  rw [Q2.out]
  rintro e w12 ⟨g3, rfl, hi, hb⟩
  have B12 := Lib.hid (below_after B11.out hb (Nat.le_refl _))
  have IL012 := Lib.hid (IL011.out.below hb)
  have IL112 := Lib.hid (IL111.out.below hb)
  have IL212 := Lib.hid (IL211.out.below hb)
  have Ilate12 := Lib.hid (Ilate11.out.below hb)
  have Ig312 := Lib.hid hi
  clear hi
  clear x1 x2
  have X0_12 := Lib.hid (box_below X0_11.out hb)
  obtain ⟨x1, x2⟩ := box_cells X0_12.out
  clear hb
  go_wp2_with fail
  refine (sameRows_any _ _ (gone l2 (joinR l0 l1)) _ Ilate12.out Ig312.out (ZL.out.small (by omega) (by omega))).mono ?_
  rintro e w13 ⟨rfl, hb⟩
  have B13 := Lib.hid (below_after B12.out hb (Nat.le_refl _))
  have IL013 := Lib.hid (IL012.out.below hb)
  have IL113 := Lib.hid (IL112.out.below hb)
  have IL213 := Lib.hid (IL212.out.below hb)
  have Ilate13 := Lib.hid (Ilate12.out.below hb)
  clear x1 x2
  have X0_13 := Lib.hid (box_below X0_12.out hb)
  obtain ⟨x1, x2⟩ := box_cells X0_13.out
  clear hb
  go_wp2_with fail
  refine (gone_any _ _ l0 l2 _ IL013.out IL213.out (Z0.out.small (by omega) (by omega)).1 (Z0.out.nots (by omega)) (by have := Z2.out; omega)).mono ?_
  rintro e w14 ⟨g4, rfl, hi, hb⟩
  have B14 := Lib.hid (below_after B13.out hb (Nat.le_refl _))
  have IL014 := Lib.hid (IL013.out.below hb)
  have IL114 := Lib.hid (IL113.out.below hb)
  have IL214 := Lib.hid (IL213.out.below hb)
  have Ilate14 := Lib.hid (Ilate13.out.below hb)
  have Ig414 := Lib.hid hi
  clear hi
  clear x1 x2
  have X0_14 := Lib.hid (box_below X0_13.out hb)
  obtain ⟨x1, x2⟩ := box_cells X0_14.out
  clear hb
  go_wp2_with fail
  refine (gone_any _ _ l1 l2 _ IL114.out IL214.out (Z1.out.small (by omega) (by omega)).1 (Z1.out.nots (by omega)) (by have := Z2.out; omega)).mono ?_
  rintro e w15 ⟨g5, rfl, hi, hb⟩
  have B15 := Lib.hid (below_after B14.out hb (Nat.le_refl _))
  have IL215 := Lib.hid (IL214.out.below hb)
  have Ilate15 := Lib.hid (Ilate14.out.below hb)
  have Ig415 := Lib.hid (Ig414.out.below hb)
  have Ig515 := Lib.hid hi
  clear hi
  clear x1 x2
  have X0_15 := Lib.hid (box_below X0_14.out hb)
  obtain ⟨x1, x2⟩ := box_cells X0_15.out
  clear hb
  go_wp2_with fail
  refine (join_rows _ _ (gone l2 l0) (gone l2 l1) _ Ig415.out Ig515.out (up_gone l2 N0.out.2.2) (up_gone l2 N1.out.2.2) ((Z0.out.gone l2).small (by omega) (by omega)) ((Z1.out.gone l2).small (by omega) (by omega))).mono ?_
  rw [Q3.out]
  rintro e w16 ⟨j6, rfl, hi, hb⟩
  have B16 := Lib.hid (below_after B15.out hb (Nat.le_refl _))
  have IL216 := Lib.hid (IL215.out.below hb)
  have Ilate16 := Lib.hid (Ilate15.out.below hb)
  have Ij616 := Lib.hid hi
  clear hi
  clear x1 x2
  have X0_16 := Lib.hid (box_below X0_15.out hb)
  obtain ⟨x1, x2⟩ := box_cells X0_16.out
  clear hb
  go_wp2_with fail
  refine (sameRows_any _ _ (gone l2 (joinR l0 l1)) _ Ilate16.out Ij616.out (ZL.out.small (by omega) (by omega))).mono ?_
  rintro e w17 ⟨rfl, hb⟩
  have B17 := Lib.hid (below_after B16.out hb (Nat.le_refl _))
  have IL217 := Lib.hid (IL216.out.below hb)
  have Ilate17 := Lib.hid (Ilate16.out.below hb)
  clear x1 x2
  have X0_17 := Lib.hid (box_below X0_16.out hb)
  obtain ⟨x1, x2⟩ := box_cells X0_17.out
  clear hb
  have RL := Lib.hid Ilate17.out
  have R2 := Lib.hid IL217.out
  have XB := Lib.hid X0_17.out
  have BB := Lib.hid B17.out
  have i2 : l2.length ≤ 80 := Z2.out
  generalize hlate : gone l2 (joinR l0 l1) = late at *
  clear hlate Q1 Q2 Q3 x1 x2
  have hlb : late.length ≤ 160 := ZL.out.1
  go_wp2_with fail
  go_loopw [10, 11] (fun s10 s11 wr => ∃ k : Nat, k ≤ l2.length ∧ s11 = .int .i64 k ∧ s10 = .bool (rem (l2.take k) (x, y)) ∧ Hid (Below w17.heap.size w17 wr)) (fun _ s11 _ => l2.length - (intOf s11).toNat)
  case atStart => exact ⟨0, by omega, rfl, by simp [rem], Lib.hid (Below.refl _ _)⟩
  case round =>
    obtain ⟨k, hkl, rfl, rfl, HW⟩ := hrel
    have i3 : (0 : Int) ≤ (k : Int) := by omega
    have XR := Lib.hid (box_below XB.out HW.out)
    obtain ⟨x1, x2⟩ := box_cells XR.out
    by_cases hlt : k < l2.length
    · have i4 : (k : Int) < (l2.length : Int) := by omega
      have hdk : decide ((k : Int) < (l2.length : Int)) = true := decide_eq_true i4
      obtain ⟨ad, rfl, q1, q2⟩ := R2.out.at_ HW.out hlt
      have HN := Lib.hid (rem_next2 hlt (x, y))
      generalize l2[k].1 = u at *
      generalize l2[k].2 = v at *
      rcases hf : rem (l2.take k) (x, y) with _ | _
      · by_cases e1 : u = x
        · have he1 : (u == x) = true := by simpa using e1
          by_cases e2 : y ≤ v
          · have he2 : decide (y ≤ v) = true := decide_eq_true e2
            have HT := Lib.hid (show rem (l2.take (k + 1)) (x, y) = true by rw [HN.out, decide_eq_true (show u = (x, y).1 from e1), decide_eq_true (show (x, y).2 ≤ v from e2)]; simp)
            clear hf HN e1 e2
            go_wp2_with fail
            go_quiet (fail)
            go_wp2_with fail
            go_roundw
            case rel => exact ⟨k + 1, by omega, by go_num, by rw [HT.out], Lib.hid (below_drewN HW.out)⟩
            case measure => simp [intOf]; omega
          · have he2 : decide (y ≤ v) = false := decide_eq_false e2
            have HT := Lib.hid (show rem (l2.take (k + 1)) (x, y) = false by rw [HN.out, hf, decide_eq_false (show ¬ (x, y).2 ≤ v from e2)]; simp)
            clear hf HN e1 e2
            go_wp2_with fail
            go_quiet (fail)
            go_wp2_with fail
            go_roundw
            case rel => exact ⟨k + 1, by omega, by go_num, by rw [HT.out], Lib.hid (below_drewN HW.out)⟩
            case measure => simp [intOf]; omega
        · have he1 : (u == x) = false := by simpa using e1
          have HT := Lib.hid (show rem (l2.take (k + 1)) (x, y) = false by rw [HN.out, hf, decide_eq_false (show ¬ u = (x, y).1 from e1)]; simp)
          clear hf HN e1
          go_wp2_with fail
          go_quiet (fail)
          go_wp2_with fail
          go_roundw
          case rel => exact ⟨k + 1, by omega, by go_num, by rw [HT.out], Lib.hid (below_drewN HW.out)⟩
          case measure => simp [intOf]; omega
      · have HT := Lib.hid (show rem (l2.take (k + 1)) (x, y) = true by rw [HN.out, hf]; rfl)
        clear hf HN
        go_wp2_with fail
        go_quiet (fail)
        go_wp2_with fail
        go_roundw
        case rel => exact ⟨k + 1, by omega, by go_num, by rw [HT.out], Lib.hid (below_drewN HW.out)⟩
        case measure => simp [intOf]; omega
    · have hdk : decide ((k : Int) < (l2.length : Int)) = false := decide_eq_false (by omega)
      have HT := Lib.hid (show rem (l2.take k) (x, y) = rem l2 (x, y) by rw [List.take_of_length_le (by omega)])
      have HV := Lib.hid HW.out
      rcases hf : rem (l2.take k) (x, y) with _ | _
      · clear hf HT XR x1 x2
        go_wp2_with fail
        go_loopw [12] (fun s12 wr => ∃ i : Nat, i ≤ late.length ∧ s12 = .int .i64 i ∧ Hid (Below w17.heap.size w17 wr)) (fun s12 _ => late.length - (intOf s12).toNat)
        case atStart => exact ⟨0, by omega, rfl, HV⟩
        case round =>
          obtain ⟨i, hil, rfl, HI⟩ := hrel
          by_cases hli : i < late.length
          · have hdi : decide ((i : Int) < (late.length : Int)) = true := decide_eq_true (by omega)
            go_wp2_with fail
            go_quiet (fail)
            go_wp2_with fail
            go_roundw
            case rel => exact ⟨i + 1, by omega, by go_num, Lib.hid (below_drewN HI.out)⟩
            case measure => simp [intOf]; omega
          · have hdi : decide ((i : Int) < (late.length : Int)) = false := decide_eq_false (by omega)
            go_wp2_with fail
            go_ret
            exact ⟨rfl, below_after BB.out HI.out (Nat.le_refl _)⟩
      · have HY := Lib.hid (HT.out.symm.trans hf)
        clear hf HT XR x1 x2
        go_wp2_with fail
        go_loopw [12] (fun s12 wr => ∃ i : Nat, i ≤ late.length ∧ s12 = .int .i64 i ∧ Hid (Below w17.heap.size w17 wr)) (fun s12 _ => late.length - (intOf s12).toNat)
        case atStart => exact ⟨0, by omega, rfl, HV⟩
        case round =>
          obtain ⟨i, hil, rfl, HI⟩ := hrel
          have i5 : (0 : Int) ≤ (i : Int) := by omega
          by_cases hli : i < late.length
          · have i6 : (i : Int) < (late.length : Int) := by omega
            have hdi : decide ((i : Int) < (late.length : Int)) = true := decide_eq_true i6
            obtain ⟨ad, sv, rfl, q1, q2, _, q4, hsv⟩ := RL.out.at_ HI.out hli
            have XR := Lib.hid (box_below XB.out HI.out)
            have HF := Lib.hid fun W (hb : Below wr.heap.size wr W) => And.intro ((hb.cell (block_lt_of_cell q1)).trans q1) (And.intro ((hb.cell (block_lt_of_cell q2)).trans q2) (And.intro ((hb.cell (block_lt_of_cell q4)).trans q4) (And.intro (box_cells (box_below XR.out hb)) (Lib.hid hb))))
            have HNO := Lib.hid (show hasB (x, y) late[i].2.2 = false from decide_eq_false (UN.out HY.out _ (List.getElem_mem hli)))
            have HNE := Lib.hid (show ¬ (late[i].1.1 = x ∧ late[i].1.2 = y) from fun h => UL.out HY.out (by
              have := List.mem_map_of_mem (f := (·.1)) (List.getElem_mem hli)
              rw [show late[i].1 = (x, y) from Prod.ext h.1 h.2] at this
              exact this))
            have HC : Hid (∀ W, Below w17.heap.size w17 W → Calls Try.prog 15 #[sv, .agg #[.int .i64 x, .int .i64 y]] W fun e w' => e = .returned (.bool false) ∧ Below W.heap.size W w') := Lib.hid fun W hb => by
              have := refHas_any sv late[i].2.2 x y W (hsv.below hb) (by have := ZL.out.2 _ (List.getElem_mem hli); omega)
              rw [HNO.out] at this
              exact this
            obtain ⟨x1, x2⟩ := box_cells XR.out
            clear hsv HNO
            generalize late[i].1.1 = u at *
            generalize late[i].1.2 = v at *
            by_cases e1 : u = x
            · have e2 : v ≠ y := fun h => HNE.out ⟨e1, h⟩
              have hv1 : (v == y) = false := by simpa using e2
              have hu1 : (u == x) = true := by simpa using e1
              clear e1 e2 HNE
              go_wp2_with fail
              refine wp_region_held_drew (S := fun w' => w'.cell? (ad.add (i * 4)) = some (.int .i64 u) ∧ w'.cell? ⟨(ad.add (i * 4)).block, (ad.add (i * 4)).off + 1, none⟩ = some (.int .i64 v) ∧ w'.cell? ⟨(ad.add (i * 4)).block, (ad.add (i * 4)).off + 3, none⟩ = some sv ∧ (w'.cell? ⟨w.heap.size, 0, none⟩ = some (.int .i64 x) ∧ w'.cell? ⟨w.heap.size, 1, none⟩ = some (.int .i64 y)) ∧ Hid (Below wr.heap.size wr w')) (by kernel_rfl) ?_ (fun hHeld => ?_)
              · exact HF.out _ (Below.drew (Below.refl _ _))
              (refine wpAnyH_take (i := 0) (oi := ⟨_, _, _, _, _, _⟩) (v := ?_) rfl (by kernel_rfl) (by kernel_rfl) (by kernel_rfl) (fun _ _ _ h => h) (Or.inl ⟨by rfl, ?_⟩) (by assumption) ?_; rotate_left 1; · (intro w hSw; (try dsimp only at hSw); go_simp; all_goals with_reducible rfl))
              try simp only [Act.put, List.setIfInBounds_toArray, List.set_cons_zero, List.set_cons_succ]
              (refine wpAnyH_take (i := 1) (oi := ⟨_, _, _, _, _, _⟩) (v := ?_) rfl (by kernel_rfl) (by kernel_rfl) (by kernel_rfl) (fun _ _ _ h => h) (Or.inl ⟨by rfl, ?_⟩) (by assumption) ?_; rotate_left 1; · (intro w hSw; (try dsimp only at hSw); go_simp; all_goals with_reducible rfl))
              try simp only [Act.put, List.setIfInBounds_toArray, List.set_cons_zero, List.set_cons_succ]
              first | (refine wpAnyH_take (i := 2) (oi := ⟨_, _, _, _, _, _⟩) (v := ?_) rfl (by kernel_rfl) (by kernel_rfl) (by kernel_rfl) (fun _ _ _ h => h) (Or.inl ⟨by rfl, ?_⟩) (by assumption) ?_; rotate_left 1; · (intro w hSw; (try dsimp only at hSw); go_simp; all_goals with_reducible rfl)) | refine wpAnyH_take (i := 2) (oi := ⟨_, _, _, _, _, _⟩) (v := undef) rfl (by kernel_rfl) (by kernel_rfl) (by kernel_rfl) (fun _ _ _ h => h) (Or.inr ⟨by kernel_rfl, rfl⟩) (by assumption) ?_
              try simp only [Act.put, List.setIfInBounds_toArray, List.set_cons_zero, List.set_cons_succ]
              first | (refine wpAnyH_take (i := 3) (oi := ⟨_, _, _, _, _, _⟩) (v := ?_) rfl (by kernel_rfl) (by kernel_rfl) (by kernel_rfl) (fun _ _ _ h => h) (Or.inl ⟨by rfl, ?_⟩) (by assumption) ?_; rotate_left 1; · (intro w hSw; (try dsimp only at hSw); go_simp; all_goals with_reducible rfl)) | refine wpAnyH_take (i := 3) (oi := ⟨_, _, _, _, _, _⟩) (v := undef) rfl (by kernel_rfl) (by kernel_rfl) (by kernel_rfl) (fun _ _ _ h => h) (Or.inr ⟨by kernel_rfl, rfl⟩) (by assumption) ?_
              try simp only [Act.put, List.setIfInBounds_toArray, List.set_cons_zero, List.set_cons_succ]
              first | (refine wpAnyH_take (i := 4) (oi := ⟨_, _, _, _, _, _⟩) (v := ?_) rfl (by kernel_rfl) (by kernel_rfl) (by kernel_rfl) (fun _ _ _ h => h) (Or.inl ⟨by rfl, ?_⟩) (by assumption) ?_; rotate_left 1; · (intro w hSw; (try dsimp only at hSw); go_simp; all_goals with_reducible rfl)) | refine wpAnyH_take (i := 4) (oi := ⟨_, _, _, _, _, _⟩) (v := undef) rfl (by kernel_rfl) (by kernel_rfl) (by kernel_rfl) (fun _ _ _ h => h) (Or.inr ⟨by kernel_rfl, rfl⟩) (by assumption) ?_
              try simp only [Act.put, List.setIfInBounds_toArray, List.set_cons_zero, List.set_cons_succ]
              first | (refine wpAnyH_take (i := 5) (oi := ⟨_, _, _, _, _, _⟩) (v := ?_) rfl (by kernel_rfl) (by kernel_rfl) (by kernel_rfl) (fun _ _ _ h => h) (Or.inl ⟨by rfl, ?_⟩) (by assumption) ?_; rotate_left 1; · (intro w hSw; (try dsimp only at hSw); go_simp; all_goals with_reducible rfl)) | refine wpAnyH_take (i := 5) (oi := ⟨_, _, _, _, _, _⟩) (v := undef) rfl (by kernel_rfl) (by kernel_rfl) (by kernel_rfl) (fun _ _ _ h => h) (Or.inr ⟨by kernel_rfl, rfl⟩) (by assumption) ?_
              try simp only [Act.put, List.setIfInBounds_toArray, List.set_cons_zero, List.set_cons_succ]
              first | (refine wpAnyH_take (i := 6) (oi := ⟨_, _, _, _, _, _⟩) (v := ?_) rfl (by kernel_rfl) (by kernel_rfl) (by kernel_rfl) (fun _ _ _ h => h) (Or.inl ⟨by rfl, ?_⟩) (by assumption) ?_; rotate_left 1; · (intro w hSw; (try dsimp only at hSw); go_simp; all_goals with_reducible rfl)) | refine wpAnyH_take (i := 6) (oi := ⟨_, _, _, _, _, _⟩) (v := undef) rfl (by kernel_rfl) (by kernel_rfl) (by kernel_rfl) (fun _ _ _ h => h) (Or.inr ⟨by kernel_rfl, rfl⟩) (by assumption) ?_
              try simp only [Act.put, List.setIfInBounds_toArray, List.set_cons_zero, List.set_cons_succ]
              first | (refine wpAnyH_take (i := 7) (oi := ⟨_, _, _, _, _, _⟩) (v := ?_) rfl (by kernel_rfl) (by kernel_rfl) (by kernel_rfl) (fun _ _ _ h => h) (Or.inl ⟨by rfl, ?_⟩) (by assumption) ?_; rotate_left 1; · (intro w hSw; (try dsimp only at hSw); go_simp; all_goals with_reducible rfl)) | refine wpAnyH_take (i := 7) (oi := ⟨_, _, _, _, _, _⟩) (v := undef) rfl (by kernel_rfl) (by kernel_rfl) (by kernel_rfl) (fun _ _ _ h => h) (Or.inr ⟨by kernel_rfl, rfl⟩) (by assumption) ?_
              try simp only [Act.put, List.setIfInBounds_toArray, List.set_cons_zero, List.set_cons_succ]
              first | (refine wpAnyH_take (i := 8) (oi := ⟨_, _, _, _, _, _⟩) (v := ?_) rfl (by kernel_rfl) (by kernel_rfl) (by kernel_rfl) (fun _ _ _ h => h) (Or.inl ⟨by rfl, ?_⟩) (by assumption) ?_; rotate_left 1; · (intro w hSw; (try dsimp only at hSw); go_simp; all_goals with_reducible rfl)) | refine wpAnyH_take (i := 8) (oi := ⟨_, _, _, _, _, _⟩) (v := undef) rfl (by kernel_rfl) (by kernel_rfl) (by kernel_rfl) (fun _ _ _ h => h) (Or.inr ⟨by kernel_rfl, rfl⟩) (by assumption) ?_
              try simp only [Act.put, List.setIfInBounds_toArray, List.set_cons_zero, List.set_cons_succ]
              first | (refine wpAnyH_take (i := 9) (oi := ⟨_, _, _, _, _, _⟩) (v := ?_) rfl (by kernel_rfl) (by kernel_rfl) (by kernel_rfl) (fun _ _ _ h => h) (Or.inl ⟨by rfl, ?_⟩) (by assumption) ?_; rotate_left 1; · (intro w hSw; (try dsimp only at hSw); go_simp; all_goals with_reducible rfl)) | refine wpAnyH_take (i := 9) (oi := ⟨_, _, _, _, _, _⟩) (v := undef) rfl (by kernel_rfl) (by kernel_rfl) (by kernel_rfl) (fun _ _ _ h => h) (Or.inr ⟨by kernel_rfl, rfl⟩) (by assumption) ?_
              try simp only [Act.put, List.setIfInBounds_toArray, List.set_cons_zero, List.set_cons_succ]
              first | (refine wpAnyH_take (i := 10) (oi := ⟨_, _, _, _, _, _⟩) (v := ?_) rfl (by kernel_rfl) (by kernel_rfl) (by kernel_rfl) (fun _ _ _ h => h) (Or.inl ⟨by rfl, ?_⟩) (by assumption) ?_; rotate_left 1; · (intro w hSw; (try dsimp only at hSw); go_simp; all_goals with_reducible rfl)) | refine wpAnyH_take (i := 10) (oi := ⟨_, _, _, _, _, _⟩) (v := undef) rfl (by kernel_rfl) (by kernel_rfl) (by kernel_rfl) (fun _ _ _ h => h) (Or.inr ⟨by kernel_rfl, rfl⟩) (by assumption) ?_
              try simp only [Act.put, List.setIfInBounds_toArray, List.set_cons_zero, List.set_cons_succ]
              first | (refine wpAnyH_take (i := 11) (oi := ⟨_, _, _, _, _, _⟩) (v := ?_) rfl (by kernel_rfl) (by kernel_rfl) (by kernel_rfl) (fun _ _ _ h => h) (Or.inl ⟨by rfl, ?_⟩) (by assumption) ?_; rotate_left 1; · (intro w hSw; (try dsimp only at hSw); go_simp; all_goals with_reducible rfl)) | refine wpAnyH_take (i := 11) (oi := ⟨_, _, _, _, _, _⟩) (v := undef) rfl (by kernel_rfl) (by kernel_rfl) (by kernel_rfl) (fun _ _ _ h => h) (Or.inr ⟨by kernel_rfl, rfl⟩) (by assumption) ?_
              try simp only [Act.put, List.setIfInBounds_toArray, List.set_cons_zero, List.set_cons_succ]
              first | (refine wpAnyH_take (i := 12) (oi := ⟨_, _, _, _, _, _⟩) (v := ?_) rfl (by kernel_rfl) (by kernel_rfl) (by kernel_rfl) (fun _ _ _ h => h) (Or.inl ⟨by rfl, ?_⟩) (by assumption) ?_; rotate_left 1; · (intro w hSw; (try dsimp only at hSw); go_simp; all_goals with_reducible rfl)) | refine wpAnyH_take (i := 12) (oi := ⟨_, _, _, _, _, _⟩) (v := undef) rfl (by kernel_rfl) (by kernel_rfl) (by kernel_rfl) (fun _ _ _ h => h) (Or.inr ⟨by kernel_rfl, rfl⟩) (by assumption) ?_
              try simp only [Act.put, List.setIfInBounds_toArray, List.set_cons_zero, List.set_cons_succ]
              first | (refine wpAnyH_take (i := 13) (oi := ⟨_, _, _, _, _, _⟩) (v := ?_) rfl (by kernel_rfl) (by kernel_rfl) (by kernel_rfl) (fun _ _ _ h => h) (Or.inl ⟨by rfl, ?_⟩) (by assumption) ?_; rotate_left 1; · (intro w hSw; (try dsimp only at hSw); go_simp; all_goals with_reducible rfl)) | refine wpAnyH_take (i := 13) (oi := ⟨_, _, _, _, _, _⟩) (v := undef) rfl (by kernel_rfl) (by kernel_rfl) (by kernel_rfl) (fun _ _ _ h => h) (Or.inr ⟨by kernel_rfl, rfl⟩) (by assumption) ?_
              try simp only [Act.put, List.setIfInBounds_toArray, List.set_cons_zero, List.set_cons_succ]
              first | (refine wpAnyH_take (i := 14) (oi := ⟨_, _, _, _, _, _⟩) (v := ?_) rfl (by kernel_rfl) (by kernel_rfl) (by kernel_rfl) (fun _ _ _ h => h) (Or.inl ⟨by rfl, ?_⟩) (by assumption) ?_; rotate_left 1; · (intro w hSw; (try dsimp only at hSw); go_simp; all_goals with_reducible rfl)) | refine wpAnyH_take (i := 14) (oi := ⟨_, _, _, _, _, _⟩) (v := undef) rfl (by kernel_rfl) (by kernel_rfl) (by kernel_rfl) (fun _ _ _ h => h) (Or.inr ⟨by kernel_rfl, rfl⟩) (by assumption) ?_
              try simp only [Act.put, List.setIfInBounds_toArray, List.set_cons_zero, List.set_cons_succ]
              first | (refine wpAnyH_take (i := 15) (oi := ⟨_, _, _, _, _, _⟩) (v := ?_) rfl (by kernel_rfl) (by kernel_rfl) (by kernel_rfl) (fun _ _ _ h => h) (Or.inl ⟨by rfl, ?_⟩) (by assumption) ?_; rotate_left 1; · (intro w hSw; (try dsimp only at hSw); go_simp; all_goals with_reducible rfl)) | refine wpAnyH_take (i := 15) (oi := ⟨_, _, _, _, _, _⟩) (v := undef) rfl (by kernel_rfl) (by kernel_rfl) (by kernel_rfl) (fun _ _ _ h => h) (Or.inr ⟨by kernel_rfl, rfl⟩) (by assumption) ?_
              try simp only [Act.put, List.setIfInBounds_toArray, List.set_cons_zero, List.set_cons_succ]
              refine wpAnyH_ready (rs := [16]) (by kernel_rfl) (by simp) ?_
              refine AllReadyH.cons (o := ⟨_, _, _, _, _, _⟩) rfl (fun Kq hKq => ?_) (AllReadyH.nil)
              go_simp
              clear hHeld
              go_at_call 15; (with_reducible refine (HC.out _ (below_after HI.out (Below.drew (Below.refl _ _)) (Nat.le_refl _))).mono ?_); rintro e w7 ⟨rfl, hb⟩; have P7 := Lib.hid (below_after (Below.drew (Below.refl _ _)) hb (Nat.le_refl _)); clear hb q1 q2 q4 x1 x2
              refine hKq.out _ _ ?_ (fun hHeld => ?_)
              · (try dsimp only); exact HF.out _ P7.out
              clear hKq Kq
              try simp only [Act.put, List.setIfInBounds_toArray, List.set_cons_zero, List.set_cons_succ]
              first | (refine wpAnyH_take (i := 17) (oi := ⟨_, _, _, _, _, _⟩) (v := ?_) rfl (by kernel_rfl) (by kernel_rfl) (by kernel_rfl) (fun _ _ _ h => h) (Or.inl ⟨by rfl, ?_⟩) (by assumption) ?_; rotate_left 1; · (intro w hSw; (try dsimp only at hSw); go_simp; all_goals with_reducible rfl)) | refine wpAnyH_take (i := 17) (oi := ⟨_, _, _, _, _, _⟩) (v := undef) rfl (by kernel_rfl) (by kernel_rfl) (by kernel_rfl) (fun _ _ _ h => h) (Or.inr ⟨by kernel_rfl, rfl⟩) (by assumption) ?_
              try simp only [Act.put, List.setIfInBounds_toArray, List.set_cons_zero, List.set_cons_succ]
              (refine wpAnyH_take (i := 18) (oi := ⟨_, _, _, _, _, _⟩) (v := ?_) rfl (by kernel_rfl) (by kernel_rfl) (by kernel_rfl) (fun _ _ _ h => h) (Or.inl ⟨by rfl, ?_⟩) (by assumption) ?_; rotate_left 1; · (intro w hSw; (try dsimp only at hSw); go_simp; all_goals with_reducible rfl))
              try simp only [Act.put, List.setIfInBounds_toArray, List.set_cons_zero, List.set_cons_succ]
              refine wpAnyH_done (by kernel_rfl) ?_ _
              go_wp2_with fail
              go_roundw
              case rel => exact ⟨i + 1, by omega, by go_num, Lib.hid (below_after HI.out P7.out (Nat.le_refl _))⟩
              case measure => simp [intOf]; omega
            · have hu1 : (u == x) = false := by simpa using e1
              clear e1 HNE
              go_wp2_with fail
              refine wp_region_held_drew (S := fun w' => w'.cell? (ad.add (i * 4)) = some (.int .i64 u) ∧ w'.cell? ⟨(ad.add (i * 4)).block, (ad.add (i * 4)).off + 1, none⟩ = some (.int .i64 v) ∧ w'.cell? ⟨(ad.add (i * 4)).block, (ad.add (i * 4)).off + 3, none⟩ = some sv ∧ (w'.cell? ⟨w.heap.size, 0, none⟩ = some (.int .i64 x) ∧ w'.cell? ⟨w.heap.size, 1, none⟩ = some (.int .i64 y)) ∧ Hid (Below wr.heap.size wr w')) (by kernel_rfl) ?_ (fun hHeld => ?_)
              · exact HF.out _ (Below.drew (Below.refl _ _))
              (refine wpAnyH_take (i := 0) (oi := ⟨_, _, _, _, _, _⟩) (v := ?_) rfl (by kernel_rfl) (by kernel_rfl) (by kernel_rfl) (fun _ _ _ h => h) (Or.inl ⟨by rfl, ?_⟩) (by assumption) ?_; rotate_left 1; · (intro w hSw; (try dsimp only at hSw); go_simp; all_goals with_reducible rfl))
              try simp only [Act.put, List.setIfInBounds_toArray, List.set_cons_zero, List.set_cons_succ]
              (refine wpAnyH_take (i := 1) (oi := ⟨_, _, _, _, _, _⟩) (v := ?_) rfl (by kernel_rfl) (by kernel_rfl) (by kernel_rfl) (fun _ _ _ h => h) (Or.inl ⟨by rfl, ?_⟩) (by assumption) ?_; rotate_left 1; · (intro w hSw; (try dsimp only at hSw); go_simp; all_goals with_reducible rfl))
              try simp only [Act.put, List.setIfInBounds_toArray, List.set_cons_zero, List.set_cons_succ]
              first | (refine wpAnyH_take (i := 2) (oi := ⟨_, _, _, _, _, _⟩) (v := ?_) rfl (by kernel_rfl) (by kernel_rfl) (by kernel_rfl) (fun _ _ _ h => h) (Or.inl ⟨by rfl, ?_⟩) (by assumption) ?_; rotate_left 1; · (intro w hSw; (try dsimp only at hSw); go_simp; all_goals with_reducible rfl)) | refine wpAnyH_take (i := 2) (oi := ⟨_, _, _, _, _, _⟩) (v := undef) rfl (by kernel_rfl) (by kernel_rfl) (by kernel_rfl) (fun _ _ _ h => h) (Or.inr ⟨by kernel_rfl, rfl⟩) (by assumption) ?_
              try simp only [Act.put, List.setIfInBounds_toArray, List.set_cons_zero, List.set_cons_succ]
              first | (refine wpAnyH_take (i := 3) (oi := ⟨_, _, _, _, _, _⟩) (v := ?_) rfl (by kernel_rfl) (by kernel_rfl) (by kernel_rfl) (fun _ _ _ h => h) (Or.inl ⟨by rfl, ?_⟩) (by assumption) ?_; rotate_left 1; · (intro w hSw; (try dsimp only at hSw); go_simp; all_goals with_reducible rfl)) | refine wpAnyH_take (i := 3) (oi := ⟨_, _, _, _, _, _⟩) (v := undef) rfl (by kernel_rfl) (by kernel_rfl) (by kernel_rfl) (fun _ _ _ h => h) (Or.inr ⟨by kernel_rfl, rfl⟩) (by assumption) ?_
              try simp only [Act.put, List.setIfInBounds_toArray, List.set_cons_zero, List.set_cons_succ]
              first | (refine wpAnyH_take (i := 4) (oi := ⟨_, _, _, _, _, _⟩) (v := ?_) rfl (by kernel_rfl) (by kernel_rfl) (by kernel_rfl) (fun _ _ _ h => h) (Or.inl ⟨by rfl, ?_⟩) (by assumption) ?_; rotate_left 1; · (intro w hSw; (try dsimp only at hSw); go_simp; all_goals with_reducible rfl)) | refine wpAnyH_take (i := 4) (oi := ⟨_, _, _, _, _, _⟩) (v := undef) rfl (by kernel_rfl) (by kernel_rfl) (by kernel_rfl) (fun _ _ _ h => h) (Or.inr ⟨by kernel_rfl, rfl⟩) (by assumption) ?_
              try simp only [Act.put, List.setIfInBounds_toArray, List.set_cons_zero, List.set_cons_succ]
              first | (refine wpAnyH_take (i := 5) (oi := ⟨_, _, _, _, _, _⟩) (v := ?_) rfl (by kernel_rfl) (by kernel_rfl) (by kernel_rfl) (fun _ _ _ h => h) (Or.inl ⟨by rfl, ?_⟩) (by assumption) ?_; rotate_left 1; · (intro w hSw; (try dsimp only at hSw); go_simp; all_goals with_reducible rfl)) | refine wpAnyH_take (i := 5) (oi := ⟨_, _, _, _, _, _⟩) (v := undef) rfl (by kernel_rfl) (by kernel_rfl) (by kernel_rfl) (fun _ _ _ h => h) (Or.inr ⟨by kernel_rfl, rfl⟩) (by assumption) ?_
              try simp only [Act.put, List.setIfInBounds_toArray, List.set_cons_zero, List.set_cons_succ]
              first | (refine wpAnyH_take (i := 6) (oi := ⟨_, _, _, _, _, _⟩) (v := ?_) rfl (by kernel_rfl) (by kernel_rfl) (by kernel_rfl) (fun _ _ _ h => h) (Or.inl ⟨by rfl, ?_⟩) (by assumption) ?_; rotate_left 1; · (intro w hSw; (try dsimp only at hSw); go_simp; all_goals with_reducible rfl)) | refine wpAnyH_take (i := 6) (oi := ⟨_, _, _, _, _, _⟩) (v := undef) rfl (by kernel_rfl) (by kernel_rfl) (by kernel_rfl) (fun _ _ _ h => h) (Or.inr ⟨by kernel_rfl, rfl⟩) (by assumption) ?_
              try simp only [Act.put, List.setIfInBounds_toArray, List.set_cons_zero, List.set_cons_succ]
              first | (refine wpAnyH_take (i := 7) (oi := ⟨_, _, _, _, _, _⟩) (v := ?_) rfl (by kernel_rfl) (by kernel_rfl) (by kernel_rfl) (fun _ _ _ h => h) (Or.inl ⟨by rfl, ?_⟩) (by assumption) ?_; rotate_left 1; · (intro w hSw; (try dsimp only at hSw); go_simp; all_goals with_reducible rfl)) | refine wpAnyH_take (i := 7) (oi := ⟨_, _, _, _, _, _⟩) (v := undef) rfl (by kernel_rfl) (by kernel_rfl) (by kernel_rfl) (fun _ _ _ h => h) (Or.inr ⟨by kernel_rfl, rfl⟩) (by assumption) ?_
              try simp only [Act.put, List.setIfInBounds_toArray, List.set_cons_zero, List.set_cons_succ]
              first | (refine wpAnyH_take (i := 8) (oi := ⟨_, _, _, _, _, _⟩) (v := ?_) rfl (by kernel_rfl) (by kernel_rfl) (by kernel_rfl) (fun _ _ _ h => h) (Or.inl ⟨by rfl, ?_⟩) (by assumption) ?_; rotate_left 1; · (intro w hSw; (try dsimp only at hSw); go_simp; all_goals with_reducible rfl)) | refine wpAnyH_take (i := 8) (oi := ⟨_, _, _, _, _, _⟩) (v := undef) rfl (by kernel_rfl) (by kernel_rfl) (by kernel_rfl) (fun _ _ _ h => h) (Or.inr ⟨by kernel_rfl, rfl⟩) (by assumption) ?_
              try simp only [Act.put, List.setIfInBounds_toArray, List.set_cons_zero, List.set_cons_succ]
              first | (refine wpAnyH_take (i := 9) (oi := ⟨_, _, _, _, _, _⟩) (v := ?_) rfl (by kernel_rfl) (by kernel_rfl) (by kernel_rfl) (fun _ _ _ h => h) (Or.inl ⟨by rfl, ?_⟩) (by assumption) ?_; rotate_left 1; · (intro w hSw; (try dsimp only at hSw); go_simp; all_goals with_reducible rfl)) | refine wpAnyH_take (i := 9) (oi := ⟨_, _, _, _, _, _⟩) (v := undef) rfl (by kernel_rfl) (by kernel_rfl) (by kernel_rfl) (fun _ _ _ h => h) (Or.inr ⟨by kernel_rfl, rfl⟩) (by assumption) ?_
              try simp only [Act.put, List.setIfInBounds_toArray, List.set_cons_zero, List.set_cons_succ]
              first | (refine wpAnyH_take (i := 10) (oi := ⟨_, _, _, _, _, _⟩) (v := ?_) rfl (by kernel_rfl) (by kernel_rfl) (by kernel_rfl) (fun _ _ _ h => h) (Or.inl ⟨by rfl, ?_⟩) (by assumption) ?_; rotate_left 1; · (intro w hSw; (try dsimp only at hSw); go_simp; all_goals with_reducible rfl)) | refine wpAnyH_take (i := 10) (oi := ⟨_, _, _, _, _, _⟩) (v := undef) rfl (by kernel_rfl) (by kernel_rfl) (by kernel_rfl) (fun _ _ _ h => h) (Or.inr ⟨by kernel_rfl, rfl⟩) (by assumption) ?_
              try simp only [Act.put, List.setIfInBounds_toArray, List.set_cons_zero, List.set_cons_succ]
              first | (refine wpAnyH_take (i := 11) (oi := ⟨_, _, _, _, _, _⟩) (v := ?_) rfl (by kernel_rfl) (by kernel_rfl) (by kernel_rfl) (fun _ _ _ h => h) (Or.inl ⟨by rfl, ?_⟩) (by assumption) ?_; rotate_left 1; · (intro w hSw; (try dsimp only at hSw); go_simp; all_goals with_reducible rfl)) | refine wpAnyH_take (i := 11) (oi := ⟨_, _, _, _, _, _⟩) (v := undef) rfl (by kernel_rfl) (by kernel_rfl) (by kernel_rfl) (fun _ _ _ h => h) (Or.inr ⟨by kernel_rfl, rfl⟩) (by assumption) ?_
              try simp only [Act.put, List.setIfInBounds_toArray, List.set_cons_zero, List.set_cons_succ]
              first | (refine wpAnyH_take (i := 12) (oi := ⟨_, _, _, _, _, _⟩) (v := ?_) rfl (by kernel_rfl) (by kernel_rfl) (by kernel_rfl) (fun _ _ _ h => h) (Or.inl ⟨by rfl, ?_⟩) (by assumption) ?_; rotate_left 1; · (intro w hSw; (try dsimp only at hSw); go_simp; all_goals with_reducible rfl)) | refine wpAnyH_take (i := 12) (oi := ⟨_, _, _, _, _, _⟩) (v := undef) rfl (by kernel_rfl) (by kernel_rfl) (by kernel_rfl) (fun _ _ _ h => h) (Or.inr ⟨by kernel_rfl, rfl⟩) (by assumption) ?_
              try simp only [Act.put, List.setIfInBounds_toArray, List.set_cons_zero, List.set_cons_succ]
              first | (refine wpAnyH_take (i := 13) (oi := ⟨_, _, _, _, _, _⟩) (v := ?_) rfl (by kernel_rfl) (by kernel_rfl) (by kernel_rfl) (fun _ _ _ h => h) (Or.inl ⟨by rfl, ?_⟩) (by assumption) ?_; rotate_left 1; · (intro w hSw; (try dsimp only at hSw); go_simp; all_goals with_reducible rfl)) | refine wpAnyH_take (i := 13) (oi := ⟨_, _, _, _, _, _⟩) (v := undef) rfl (by kernel_rfl) (by kernel_rfl) (by kernel_rfl) (fun _ _ _ h => h) (Or.inr ⟨by kernel_rfl, rfl⟩) (by assumption) ?_
              try simp only [Act.put, List.setIfInBounds_toArray, List.set_cons_zero, List.set_cons_succ]
              first | (refine wpAnyH_take (i := 14) (oi := ⟨_, _, _, _, _, _⟩) (v := ?_) rfl (by kernel_rfl) (by kernel_rfl) (by kernel_rfl) (fun _ _ _ h => h) (Or.inl ⟨by rfl, ?_⟩) (by assumption) ?_; rotate_left 1; · (intro w hSw; (try dsimp only at hSw); go_simp; all_goals with_reducible rfl)) | refine wpAnyH_take (i := 14) (oi := ⟨_, _, _, _, _, _⟩) (v := undef) rfl (by kernel_rfl) (by kernel_rfl) (by kernel_rfl) (fun _ _ _ h => h) (Or.inr ⟨by kernel_rfl, rfl⟩) (by assumption) ?_
              try simp only [Act.put, List.setIfInBounds_toArray, List.set_cons_zero, List.set_cons_succ]
              first | (refine wpAnyH_take (i := 15) (oi := ⟨_, _, _, _, _, _⟩) (v := ?_) rfl (by kernel_rfl) (by kernel_rfl) (by kernel_rfl) (fun _ _ _ h => h) (Or.inl ⟨by rfl, ?_⟩) (by assumption) ?_; rotate_left 1; · (intro w hSw; (try dsimp only at hSw); go_simp; all_goals with_reducible rfl)) | refine wpAnyH_take (i := 15) (oi := ⟨_, _, _, _, _, _⟩) (v := undef) rfl (by kernel_rfl) (by kernel_rfl) (by kernel_rfl) (fun _ _ _ h => h) (Or.inr ⟨by kernel_rfl, rfl⟩) (by assumption) ?_
              try simp only [Act.put, List.setIfInBounds_toArray, List.set_cons_zero, List.set_cons_succ]
              refine wpAnyH_ready (rs := [16]) (by kernel_rfl) (by simp) ?_
              refine AllReadyH.cons (o := ⟨_, _, _, _, _, _⟩) rfl (fun Kq hKq => ?_) (AllReadyH.nil)
              go_simp
              clear hHeld
              go_at_call 15; (with_reducible refine (HC.out _ (below_after HI.out (Below.drew (Below.refl _ _)) (Nat.le_refl _))).mono ?_); rintro e w7 ⟨rfl, hb⟩; have P7 := Lib.hid (below_after (Below.drew (Below.refl _ _)) hb (Nat.le_refl _)); clear hb q1 q2 q4 x1 x2
              refine hKq.out _ _ ?_ (fun hHeld => ?_)
              · (try dsimp only); exact HF.out _ P7.out
              clear hKq Kq
              try simp only [Act.put, List.setIfInBounds_toArray, List.set_cons_zero, List.set_cons_succ]
              first | (refine wpAnyH_take (i := 17) (oi := ⟨_, _, _, _, _, _⟩) (v := ?_) rfl (by kernel_rfl) (by kernel_rfl) (by kernel_rfl) (fun _ _ _ h => h) (Or.inl ⟨by rfl, ?_⟩) (by assumption) ?_; rotate_left 1; · (intro w hSw; (try dsimp only at hSw); go_simp; all_goals with_reducible rfl)) | refine wpAnyH_take (i := 17) (oi := ⟨_, _, _, _, _, _⟩) (v := undef) rfl (by kernel_rfl) (by kernel_rfl) (by kernel_rfl) (fun _ _ _ h => h) (Or.inr ⟨by kernel_rfl, rfl⟩) (by assumption) ?_
              try simp only [Act.put, List.setIfInBounds_toArray, List.set_cons_zero, List.set_cons_succ]
              (refine wpAnyH_take (i := 18) (oi := ⟨_, _, _, _, _, _⟩) (v := ?_) rfl (by kernel_rfl) (by kernel_rfl) (by kernel_rfl) (fun _ _ _ h => h) (Or.inl ⟨by rfl, ?_⟩) (by assumption) ?_; rotate_left 1; · (intro w hSw; (try dsimp only at hSw); go_simp; all_goals with_reducible rfl))
              try simp only [Act.put, List.setIfInBounds_toArray, List.set_cons_zero, List.set_cons_succ]
              refine wpAnyH_done (by kernel_rfl) ?_ _
              go_wp2_with fail
              go_roundw
              case rel => exact ⟨i + 1, by omega, by go_num, Lib.hid (below_after HI.out P7.out (Nat.le_refl _))⟩
              case measure => simp [intOf]; omega
          · have hdi : decide ((i : Int) < (late.length : Int)) = false := decide_eq_false (by omega)
            go_wp2_with fail
            go_ret
            exact ⟨rfl, below_after BB.out HI.out (Nat.le_refl _)⟩
end Go.Proofs.Ytofanciaacdjfaa
