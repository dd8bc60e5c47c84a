/-
  Walks over RowsSet of package coveylaw06, for any list of rows, any ID, any list of IDs and another ID: what was set is told by Get; other rows stay; set to the same once more nothing changes; no version is less; rows that may be may be still, if there are not too many.
-/
import Derived.Test.YtofanciaacdjfaaOpenR
import Derived.Test.YtofanciaacdjfaaSetFacts
import Derived.Test.YtofanciaacdjfaaNotR
import Derived.Test.YtofanciaacdjfaaAwake
import Derived.Test.YtofanciaacdjfaaBase
import Derived.Lib.SmallJoins
namespace Go.Proofs.Ytofanciaacdjfaa
open Go Go.RowKit Sets RowSets
theorem two_lits (W : World) (o1 o2 ov : Int) (B1 : Option Addr) (m1 c1 : Nat) (B2 : Option Addr) (m2 c2 : Nat) (N : List Id2) (h1 : Ids W (.slice B1 m1 c1) N) (h2 : Ids W (.slice B2 m2 c2) N) :
    RowsAt (((W.alloc (.cells #[.int .i64 o1, .int .i64 o2, .int .i64 ov, .slice B1 m1 c1] 26)).alloc (.cells #[.int .i64 o1, .int .i64 o2, .int .i64 ov, .slice B2 m2 c2] 26)).drew) (.slice (some ⟨W.heap.size, 0, none⟩) 1 1) [((o1, o2), ov, N)] ∧
    RowsAt (((W.alloc (.cells #[.int .i64 o1, .int .i64 o2, .int .i64 ov, .slice B1 m1 c1] 26)).alloc (.cells #[.int .i64 o1, .int .i64 o2, .int .i64 ov, .slice B2 m2 c2] 26)).drew) (.slice (some ⟨W.heap.size + 1, 0, none⟩) 1 1) [((o1, o2), ov, N)] ∧
    Below W.heap.size W (((W.alloc (.cells #[.int .i64 o1, .int .i64 o2, .int .i64 ov, .slice B1 m1 c1] 26)).alloc (.cells #[.int .i64 o1, .int .i64 o2, .int .i64 ov, .slice B2 m2 c2] 26)).drew) := by
  have q1 := below_one W (.cells #[.int .i64 o1, .int .i64 o2, .int .i64 ov, .slice B1 m1 c1] 26)
  have q2 := below_one (W.alloc (.cells #[.int .i64 o1, .int .i64 o2, .int .i64 ov, .slice B1 m1 c1] 26)) (.cells #[.int .i64 o1, .int .i64 o2, .int .i64 ov, .slice B2 m2 c2] 26)
  have l1 := rows_lit (wbox_new W o1 o2 ov (.slice B1 m1 c1)) (h1.below q1)
  have l2 := rows_lit (wbox_new (W.alloc (.cells #[.int .i64 o1, .int .i64 o2, .int .i64 ov, .slice B1 m1 c1] 26)) o1 o2 ov (.slice B2 m2 c2)) ((h2.below q1).below q2)
  refine ⟨(l1.below q2).below (Below.drew (Below.refl _ _)), ?_, Below.drew (below_after q1 q2 (Nat.le_refl _))⟩
  have l3 := l2.below (Below.drew (Below.refl _ _))
  rw [World.size_alloc] at l3
  exact l3
set_option maxHeartbeats 8000000 in
set_option maxRecDepth 100000 in
theorem set_long0 (v0 : Value) (l0 : List Row) (x y : Int) (v2 : Value) (l2 : List Id2) (p q : Int) (w : World) (h0 : RowsAt w v0 l0) (u0 : ∀ r ∈ l0, -9223372036854775808 ≤ r.2.1) (h2 : Ids w v2 l2) (a0 : longB l0 = true) :
    Calls Try.prog 7 #[v0, .agg #[.int .i64 x, .int .i64 y], v2, .agg #[.int .i64 p, .int .i64 q]] w fun e w' => e = .returned (.bool true) ∧ Below w.heap.size w w' := by
  have B00 := Lib.hid (below_two w (.cells #[.int .i64 x, .int .i64 y] 23) (.cells #[.int .i64 p, .int .i64 q] 23))
  have X00 := Lib.hid (show Box ((w.alloc (.cells #[.int .i64 x, .int .i64 y] 23)).alloc (.cells #[.int .i64 p, .int .i64 q] 23)) w.heap.size x y from box_below (box_new w x y) (below_one (w.alloc (.cells #[.int .i64 x, .int .i64 y] 23)) (.cells #[.int .i64 p, .int .i64 q] 23)))
  have Y00 := Lib.hid (show Box ((w.alloc (.cells #[.int .i64 x, .int .i64 y] 23)).alloc (.cells #[.int .i64 p, .int .i64 q] 23)) (w.heap.size + 1) p q from by have := box_new (w.alloc (.cells #[.int .i64 x, .int .i64 y] 23)) p q; simpa using this)
  have I0 := Lib.hid (h0.below B00.out)
  have I2 := Lib.hid (h2.below B00.out)
  have U0 := Lib.hid u0
  obtain ⟨A0, c0, rfl, hz0⟩ := h0.shape
  obtain ⟨A2, c2, rfl, hz2, _⟩ := id h2
  have Ha0 := Lib.hid a0
  clear h0 h2 u0 hz0 hz2 a0
  go_enter Try.func7, Try.ntmps7
  have B0 := Lib.hid B00.out
  have J0 := Lib.hid I0.out
  have J2 := Lib.hid I2.out
  have XX := Lib.hid X00.out
  have YY := Lib.hid Y00.out
  obtain ⟨x1, x2⟩ := box_cells XX.out
  obtain ⟨y1, y2⟩ := box_cells YY.out
  go_wp2_with fail
  refine (long_any _ l0 _ J0.out).mono ?_
  rw [Ha0.out]
  rintro e w1 ⟨rfl, hb⟩
  have B1 := Lib.hid (below_after B0.out hb (Nat.le_refl _))
  have IL01 := Lib.hid (J0.out.below hb)
  have IL21 := Lib.hid (J2.out.below hb)
  clear x1 x2
  have X0_1 := Lib.hid (box_below XX.out hb)
  obtain ⟨x1, x2⟩ := box_cells X0_1.out
  clear y1 y2
  have X1_1 := Lib.hid (box_below YY.out hb)
  obtain ⟨y1, y2⟩ := box_cells X1_1.out
  clear hb
  go_wp2_with fail
  refine (awake_any _).mono ?_
  rintro e w2 ⟨rfl, hb⟩
  have B2 := Lib.hid (below_after B1.out hb (Nat.le_refl _))
  have IL02 := Lib.hid (IL01.out.below hb)
  have IL22 := Lib.hid (IL21.out.below hb)
  clear x1 x2
  have X0_2 := Lib.hid (box_below X0_1.out hb)
  obtain ⟨x1, x2⟩ := box_cells X0_2.out
  clear y1 y2
  have X1_2 := Lib.hid (box_below X1_1.out hb)
  obtain ⟨y1, y2⟩ := box_cells X1_2.out
  clear hb
  go_wp2_with fail
  go_ret
  exact ⟨rfl, B2.out⟩
set_option maxHeartbeats 8000000 in
set_option maxRecDepth 100000 in
theorem set_long1 (v0 : Value) (l0 : List Row) (x y : Int) (v2 : Value) (l2 : List Id2) (p q : Int) (w : World) (h0 : RowsAt w v0 l0) (u0 : ∀ r ∈ l0, -9223372036854775808 ≤ r.2.1) (h2 : Ids w v2 l2) (a0 : longB l0 = false) (a2 : decide (60 < (l2.length : Int)) = true) :
    Calls Try.prog 7 #[v0, .agg #[.int .i64 x, .int .i64 y], v2, .agg #[.int .i64 p, .int .i64 q]] w fun e w' => e = .returned (.bool true) ∧ Below w.heap.size w w' := by
  have B00 := Lib.hid (below_two w (.cells #[.int .i64 x, .int .i64 y] 23) (.cells #[.int .i64 p, .int .i64 q] 23))
  have X00 := Lib.hid (show Box ((w.alloc (.cells #[.int .i64 x, .int .i64 y] 23)).alloc (.cells #[.int .i64 p, .int .i64 q] 23)) w.heap.size x y from box_below (box_new w x y) (below_one (w.alloc (.cells #[.int .i64 x, .int .i64 y] 23)) (.cells #[.int .i64 p, .int .i64 q] 23)))
  have Y00 := Lib.hid (show Box ((w.alloc (.cells #[.int .i64 x, .int .i64 y] 23)).alloc (.cells #[.int .i64 p, .int .i64 q] 23)) (w.heap.size + 1) p q from by have := box_new (w.alloc (.cells #[.int .i64 x, .int .i64 y] 23)) p q; simpa using this)
  have I0 := Lib.hid (h0.below B00.out)
  have I2 := Lib.hid (h2.below B00.out)
  have U0 := Lib.hid u0
  obtain ⟨A0, c0, rfl, hz0⟩ := h0.shape
  obtain ⟨A2, c2, rfl, hz2, _⟩ := id h2
  have Ha0 := Lib.hid a0
  clear h0 h2 u0 hz0 hz2 a0
  go_enter Try.func7, Try.ntmps7
  have B0 := Lib.hid B00.out
  have J0 := Lib.hid I0.out
  have J2 := Lib.hid I2.out
  have XX := Lib.hid X00.out
  have YY := Lib.hid Y00.out
  obtain ⟨x1, x2⟩ := box_cells XX.out
  obtain ⟨y1, y2⟩ := box_cells YY.out
  go_wp2_with fail
  refine (long_any _ l0 _ J0.out).mono ?_
  rw [Ha0.out]
  rintro e w1 ⟨rfl, hb⟩
  have B1 := Lib.hid (below_after B0.out hb (Nat.le_refl _))
  have IL01 := Lib.hid (J0.out.below hb)
  have IL21 := Lib.hid (J2.out.below hb)
  clear x1 x2
  have X0_1 := Lib.hid (box_below XX.out hb)
  obtain ⟨x1, x2⟩ := box_cells X0_1.out
  clear y1 y2
  have X1_1 := Lib.hid (box_below YY.out hb)
  obtain ⟨y1, y2⟩ := box_cells X1_1.out
  clear hb
  go_wp2_with fail
  refine (awake_any _).mono ?_
  rintro e w2 ⟨rfl, hb⟩
  have B2 := Lib.hid (below_after B1.out hb (Nat.le_refl _))
  have IL02 := Lib.hid (IL01.out.below hb)
  have IL22 := Lib.hid (IL21.out.below hb)
  clear x1 x2
  have X0_2 := Lib.hid (box_below X0_1.out hb)
  obtain ⟨x1, x2⟩ := box_cells X0_2.out
  clear y1 y2
  have X1_2 := Lib.hid (box_below X1_1.out hb)
  obtain ⟨y1, y2⟩ := box_cells X1_2.out
  clear hb
  go_wp2_with fail
  go_ret
  exact ⟨rfl, B2.out⟩
set_option maxHeartbeats 8000000 in
set_option maxRecDepth 100000 in
theorem set_may0 (v0 : Value) (l0 : List Row) (x y : Int) (v2 : Value) (l2 : List Id2) (p q : Int) (w : World) (h0 : RowsAt w v0 l0) (u0 : ∀ r ∈ l0, -9223372036854775808 ≤ r.2.1) (h2 : Ids w v2 l2) (a0 : longB l0 = false) (a2 : decide (60 < (l2.length : Int)) = false) (m : List Row) (er : Int) (he : setE l0 (x, y) l2 = (m, er)) (b0 : mayB l0 = false) :
    Calls Try.prog 7 #[v0, .agg #[.int .i64 x, .int .i64 y], v2, .agg #[.int .i64 p, .int .i64 q]] w fun e w' => e = .returned (.bool true) ∧ Below w.heap.size w w' := by
  have B00 := Lib.hid (below_two w (.cells #[.int .i64 x, .int .i64 y] 23) (.cells #[.int .i64 p, .int .i64 q] 23))
  have X00 := Lib.hid (show Box ((w.alloc (.cells #[.int .i64 x, .int .i64 y] 23)).alloc (.cells #[.int .i64 p, .int .i64 q] 23)) w.heap.size x y from box_below (box_new w x y) (below_one (w.alloc (.cells #[.int .i64 x, .int .i64 y] 23)) (.cells #[.int .i64 p, .int .i64 q] 23)))
  have Y00 := Lib.hid (show Box ((w.alloc (.cells #[.int .i64 x, .int .i64 y] 23)).alloc (.cells #[.int .i64 p, .int .i64 q] 23)) (w.heap.size + 1) p q from by have := box_new (w.alloc (.cells #[.int .i64 x, .int .i64 y] 23)) p q; simpa using this)
  have I0 := Lib.hid (h0.below B00.out)
  have I2 := Lib.hid (h2.below B00.out)
  have U0 := Lib.hid u0
  obtain ⟨A0, c0, rfl, hz0⟩ := h0.shape
  obtain ⟨A2, c2, rfl, hz2, _⟩ := id h2
  have Ha0 := Lib.hid a0
  have Hb0 := Lib.hid b0
  have Z0 := Lib.hid (lens_long a0)
  have Z2 := Lib.hid (show l2.length ≤ 60 by have := of_decide_eq_false a2; omega)
  have HS : Hid (∀ W v, RowsAt W v l0 → Ids W (.slice A2 l2.length c2) l2 → Calls Try.prog 8 #[v, .agg #[.int .i64 x, .int .i64 y], .slice A2 l2.length c2] W fun e w' => ∃ V, e = .returned (.tuple #[V, .int .i64 er]) ∧ RowsAt w' V m ∧ Below W.heap.size W w') := Lib.hid fun W v h k => by
    have := setRows_any v (.slice A2 l2.length c2) l0 x y l2 W h k (Z0.out.small (by omega) (by omega)).1 (Z0.out.nots (by omega)) (by have := Z2.out; omega) U0.out
    rw [he] at this
    exact this
  clear h0 h2 u0 hz0 hz2 a0 b0
  go_enter Try.func7, Try.ntmps7
  have B0 := Lib.hid B00.out
  have J0 := Lib.hid I0.out
  have J2 := Lib.hid I2.out
  have XX := Lib.hid X00.out
  have YY := Lib.hid Y00.out
  obtain ⟨x1, x2⟩ := box_cells XX.out
  obtain ⟨y1, y2⟩ := box_cells YY.out
  go_wp2_with fail
  refine (long_any _ l0 _ J0.out).mono ?_
  rw [Ha0.out]
  rintro e w1 ⟨rfl, hb⟩
  have B1 := Lib.hid (below_after B0.out hb (Nat.le_refl _))
  have IL01 := Lib.hid (J0.out.below hb)
  have IL21 := Lib.hid (J2.out.below hb)
  clear x1 x2
  have X0_1 := Lib.hid (box_below XX.out hb)
  obtain ⟨x1, x2⟩ := box_cells X0_1.out
  clear y1 y2
  have X1_1 := Lib.hid (box_below YY.out hb)
  obtain ⟨y1, y2⟩ := box_cells X1_1.out
  clear hb
  go_wp2_with fail
  refine (awake_any _).mono ?_
  rintro e w2 ⟨rfl, hb⟩
  have B2 := Lib.hid (below_after B1.out hb (Nat.le_refl _))
  have IL02 := Lib.hid (IL01.out.below hb)
  have IL22 := Lib.hid (IL21.out.below hb)
  clear x1 x2
  have X0_2 := Lib.hid (box_below X0_1.out hb)
  obtain ⟨x1, x2⟩ := box_cells X0_2.out
  clear y1 y2
  have X1_2 := Lib.hid (box_below X1_1.out hb)
  obtain ⟨y1, y2⟩ := box_cells X1_2.out
  clear hb
  go_wp2_with fail
  refine (HS.out _ _ IL02.out IL22.out).mono ?_
  rintro e w3 ⟨S, rfl, hi, hb⟩
  have B3 := Lib.hid (below_after B2.out hb (Nat.le_refl _))
  have IL03 := Lib.hid (IL02.out.below hb)
  have IL23 := Lib.hid (IL22.out.below hb)
  have IS3 := Lib.hid hi
  clear hi
  clear x1 x2
  have X0_3 := Lib.hid (box_below X0_2.out hb)
  obtain ⟨x1, x2⟩ := box_cells X0_3.out
  clear y1 y2
  have X1_3 := Lib.hid (box_below X1_2.out hb)
  obtain ⟨y1, y2⟩ := box_cells X1_3.out
  clear hb
  go_wp2_with fail
  refine (may_rows _ l0 _ IL03.out ((lens_long Ha0.out).nots (by omega))).mono ?_
  rw [Hb0.out]
  rintro e w4 ⟨rfl, hb⟩
  have B4 := Lib.hid (below_after B3.out hb (Nat.le_refl _))
  have IL04 := Lib.hid (IL03.out.below hb)
  have IL24 := Lib.hid (IL23.out.below hb)
  have IS4 := Lib.hid (IS3.out.below hb)
  clear x1 x2
  have X0_4 := Lib.hid (box_below X0_3.out hb)
  obtain ⟨x1, x2⟩ := box_cells X0_4.out
  clear y1 y2
  have X1_4 := Lib.hid (box_below X1_3.out hb)
  obtain ⟨y1, y2⟩ := box_cells X1_4.out
  clear hb
  go_wp2_with fail
  go_ret
  exact ⟨rfl, B4.out⟩
set_option maxHeartbeats 8000000 in
set_option maxRecDepth 100000 in
theorem set_e4 (v0 : Value) (l0 : List Row) (x y : Int) (v2 : Value) (l2 : List Id2) (p q : Int) (w : World) (h0 : RowsAt w v0 l0) (u0 : ∀ r ∈ l0, -9223372036854775808 ≤ r.2.1) (h2 : Ids w v2 l2) (a0 : longB l0 = false) (a2 : decide (60 < (l2.length : Int)) = false) (he : setE l0 (x, y) l2 = (l0, 4)) (b0 : mayB l0 = true) :
    Calls Try.prog 7 #[v0, .agg #[.int .i64 x, .int .i64 y], v2, .agg #[.int .i64 p, .int .i64 q]] w fun e w' => e = .returned (.bool true) ∧ Below w.heap.size w w' := by
  have B00 := Lib.hid (below_two w (.cells #[.int .i64 x, .int .i64 y] 23) (.cells #[.int .i64 p, .int .i64 q] 23))
  have X00 := Lib.hid (show Box ((w.alloc (.cells #[.int .i64 x, .int .i64 y] 23)).alloc (.cells #[.int .i64 p, .int .i64 q] 23)) w.heap.size x y from box_below (box_new w x y) (below_one (w.alloc (.cells #[.int .i64 x, .int .i64 y] 23)) (.cells #[.int .i64 p, .int .i64 q] 23)))
  have Y00 := Lib.hid (show Box ((w.alloc (.cells #[.int .i64 x, .int .i64 y] 23)).alloc (.cells #[.int .i64 p, .int .i64 q] 23)) (w.heap.size + 1) p q from by have := box_new (w.alloc (.cells #[.int .i64 x, .int .i64 y] 23)) p q; simpa using this)
  have I0 := Lib.hid (h0.below B00.out)
  have I2 := Lib.hid (h2.below B00.out)
  have U0 := Lib.hid u0
  obtain ⟨A0, c0, rfl, hz0⟩ := h0.shape
  obtain ⟨A2, c2, rfl, hz2, _⟩ := id h2
  have Ha0 := Lib.hid a0
  have Hb0 := Lib.hid b0
  have Z0 := Lib.hid (lens_long a0)
  have Z2 := Lib.hid (show l2.length ≤ 60 by have := of_decide_eq_false a2; omega)
  have HS : Hid (∀ W v, RowsAt W v l0 → Ids W (.slice A2 l2.length c2) l2 → Calls Try.prog 8 #[v, .agg #[.int .i64 x, .int .i64 y], .slice A2 l2.length c2] W fun e w' => ∃ V, e = .returned (.tuple #[V, .int .i64 4]) ∧ RowsAt w' V l0 ∧ Below W.heap.size W w') := Lib.hid fun W v h k => by
    have := setRows_any v (.slice A2 l2.length c2) l0 x y l2 W h k (Z0.out.small (by omega) (by omega)).1 (Z0.out.nots (by omega)) (by have := Z2.out; omega) U0.out
    rw [he] at this
    exact this
  clear h0 h2 u0 hz0 hz2 a0 b0
  go_enter Try.func7, Try.ntmps7
  have B0 := Lib.hid B00.out
  have J0 := Lib.hid I0.out
  have J2 := Lib.hid I2.out
  have XX := Lib.hid X00.out
  have YY := Lib.hid Y00.out
  obtain ⟨x1, x2⟩ := box_cells XX.out
  obtain ⟨y1, y2⟩ := box_cells YY.out
  go_wp2_with fail
  refine (long_any _ l0 _ J0.out).mono ?_
  rw [Ha0.out]
  rintro e w1 ⟨rfl, hb⟩
  have B1 := Lib.hid (below_after B0.out hb (Nat.le_refl _))
  have IL01 := Lib.hid (J0.out.below hb)
  have IL21 := Lib.hid (J2.out.below hb)
  clear x1 x2
  have X0_1 := Lib.hid (box_below XX.out hb)
  obtain ⟨x1, x2⟩ := box_cells X0_1.out
  clear y1 y2
  have X1_1 := Lib.hid (box_below YY.out hb)
  obtain ⟨y1, y2⟩ := box_cells X1_1.out
  clear hb
  go_wp2_with fail
  refine (awake_any _).mono ?_
  rintro e w2 ⟨rfl, hb⟩
  have B2 := Lib.hid (below_after B1.out hb (Nat.le_refl _))
  have IL02 := Lib.hid (IL01.out.below hb)
  have IL22 := Lib.hid (IL21.out.below hb)
  clear x1 x2
  have X0_2 := Lib.hid (box_below X0_1.out hb)
  obtain ⟨x1, x2⟩ := box_cells X0_2.out
  clear y1 y2
  have X1_2 := Lib.hid (box_below X1_1.out hb)
  obtain ⟨y1, y2⟩ := box_cells X1_2.out
  clear hb
  go_wp2_with fail
  refine (HS.out _ _ IL02.out IL22.out).mono ?_
  rintro e w3 ⟨S, rfl, hi, hb⟩
  have B3 := Lib.hid (below_after B2.out hb (Nat.le_refl _))
  have IL03 := Lib.hid (IL02.out.below hb)
  have IL23 := Lib.hid (IL22.out.below hb)
  have IS3 := Lib.hid hi
  clear hi
  clear x1 x2
  have X0_3 := Lib.hid (box_below X0_2.out hb)
  obtain ⟨x1, x2⟩ := box_cells X0_3.out
  clear y1 y2
  have X1_3 := Lib.hid (box_below X1_2.out hb)
  obtain ⟨y1, y2⟩ := box_cells X1_3.out
  clear hb
  go_wp2_with fail
  refine (may_rows _ l0 _ IL03.out ((lens_long Ha0.out).nots (by omega))).mono ?_
  rw [Hb0.out]
  rintro e w4 ⟨rfl, hb⟩
  have B4 := Lib.hid (below_after B3.out hb (Nat.le_refl _))
  have IL04 := Lib.hid (IL03.out.below hb)
  have IL24 := Lib.hid (IL23.out.below hb)
  have IS4 := Lib.hid (IS3.out.below hb)
  clear x1 x2
  have X0_4 := Lib.hid (box_below X0_3.out hb)
  obtain ⟨x1, x2⟩ := box_cells X0_4.out
  clear y1 y2
  have X1_4 := Lib.hid (box_below X1_3.out hb)
  obtain ⟨y1, y2⟩ := box_cells X1_4.out
  clear hb
  go_wp2_with fail
  go_ret
  exact ⟨rfl, B4.out⟩
set_option maxHeartbeats 8000000 in
set_option maxRecDepth 100000 in
theorem set_e40 (v0 : Value) (l0 : List Row) (x y : Int) (v2 : Value) (l2 : List Id2) (p q : Int) (w : World) (h0 : RowsAt w v0 l0) (u0 : ∀ r ∈ l0, -9223372036854775808 ≤ r.2.1) (h2 : Ids w v2 l2) (a0 : longB l0 = false) (a2 : decide (60 < (l2.length : Int)) = false) (he : setE l0 (x, y) l2 = (l0, 40)) (b0 : mayB l0 = true) :
    Calls Try.prog 7 #[v0, .agg #[.int .i64 x, .int .i64 y], v2, .agg #[.int .i64 p, .int .i64 q]] w fun e w' => e = .returned (.bool true) ∧ Below w.heap.size w w' := by
  have B00 := Lib.hid (below_two w (.cells #[.int .i64 x, .int .i64 y] 23) (.cells #[.int .i64 p, .int .i64 q] 23))
  have X00 := Lib.hid (show Box ((w.alloc (.cells #[.int .i64 x, .int .i64 y] 23)).alloc (.cells #[.int .i64 p, .int .i64 q] 23)) w.heap.size x y from box_below (box_new w x y) (below_one (w.alloc (.cells #[.int .i64 x, .int .i64 y] 23)) (.cells #[.int .i64 p, .int .i64 q] 23)))
  have Y00 := Lib.hid (show Box ((w.alloc (.cells #[.int .i64 x, .int .i64 y] 23)).alloc (.cells #[.int .i64 p, .int .i64 q] 23)) (w.heap.size + 1) p q from by have := box_new (w.alloc (.cells #[.int .i64 x, .int .i64 y] 23)) p q; simpa using this)
  have I0 := Lib.hid (h0.below B00.out)
  have I2 := Lib.hid (h2.below B00.out)
  have U0 := Lib.hid u0
  obtain ⟨A0, c0, rfl, hz0⟩ := h0.shape
  obtain ⟨A2, c2, rfl, hz2, _⟩ := id h2
  have Ha0 := Lib.hid a0
  have Hb0 := Lib.hid b0
  have Z0 := Lib.hid (lens_long a0)
  have Z2 := Lib.hid (show l2.length ≤ 60 by have := of_decide_eq_false a2; omega)
  have HS : Hid (∀ W v, RowsAt W v l0 → Ids W (.slice A2 l2.length c2) l2 → Calls Try.prog 8 #[v, .agg #[.int .i64 x, .int .i64 y], .slice A2 l2.length c2] W fun e w' => ∃ V, e = .returned (.tuple #[V, .int .i64 40]) ∧ RowsAt w' V l0 ∧ Below W.heap.size W w') := Lib.hid fun W v h k => by
    have := setRows_any v (.slice A2 l2.length c2) l0 x y l2 W h k (Z0.out.small (by omega) (by omega)).1 (Z0.out.nots (by omega)) (by have := Z2.out; omega) U0.out
    rw [he] at this
    exact this
  clear h0 h2 u0 hz0 hz2 a0 b0
  go_enter Try.func7, Try.ntmps7
  have B0 := Lib.hid B00.out
  have J0 := Lib.hid I0.out
  have J2 := Lib.hid I2.out
  have XX := Lib.hid X00.out
  have YY := Lib.hid Y00.out
  obtain ⟨x1, x2⟩ := box_cells XX.out
  obtain ⟨y1, y2⟩ := box_cells YY.out
  go_wp2_with fail
  refine (long_any _ l0 _ J0.out).mono ?_
  rw [Ha0.out]
  rintro e w1 ⟨rfl, hb⟩
  have B1 := Lib.hid (below_after B0.out hb (Nat.le_refl _))
  have IL01 := Lib.hid (J0.out.below hb)
  have IL21 := Lib.hid (J2.out.below hb)
  clear x1 x2
  have X0_1 := Lib.hid (box_below XX.out hb)
  obtain ⟨x1, x2⟩ := box_cells X0_1.out
  clear y1 y2
  have X1_1 := Lib.hid (box_below YY.out hb)
  obtain ⟨y1, y2⟩ := box_cells X1_1.out
  clear hb
  go_wp2_with fail
  refine (awake_any _).mono ?_
  rintro e w2 ⟨rfl, hb⟩
  have B2 := Lib.hid (below_after B1.out hb (Nat.le_refl _))
  have IL02 := Lib.hid (IL01.out.below hb)
  have IL22 := Lib.hid (IL21.out.below hb)
  clear x1 x2
  have X0_2 := Lib.hid (box_below X0_1.out hb)
  obtain ⟨x1, x2⟩ := box_cells X0_2.out
  clear y1 y2
  have X1_2 := Lib.hid (box_below X1_1.out hb)
  obtain ⟨y1, y2⟩ := box_cells X1_2.out
  clear hb
  go_wp2_with fail
  refine (HS.out _ _ IL02.out IL22.out).mono ?_
  rintro e w3 ⟨S, rfl, hi, hb⟩
  have B3 := Lib.hid (below_after B2.out hb (Nat.le_refl _))
  have IL03 := Lib.hid (IL02.out.below hb)
  have IL23 := Lib.hid (IL22.out.below hb)
  have IS3 := Lib.hid hi
  clear hi
  clear x1 x2
  have X0_3 := Lib.hid (box_below X0_2.out hb)
  obtain ⟨x1, x2⟩ := box_cells X0_3.out
  clear y1 y2
  have X1_3 := Lib.hid (box_below X1_2.out hb)
  obtain ⟨y1, y2⟩ := box_cells X1_3.out
  clear hb
  go_wp2_with fail
  refine (may_rows _ l0 _ IL03.out ((lens_long Ha0.out).nots (by omega))).mono ?_
  rw [Hb0.out]
  rintro e w4 ⟨rfl, hb⟩
  have B4 := Lib.hid (below_after B3.out hb (Nat.le_refl _))
  have IL04 := Lib.hid (IL03.out.below hb)
  have IL24 := Lib.hid (IL23.out.below hb)
  have IS4 := Lib.hid (IS3.out.below hb)
  clear x1 x2
  have X0_4 := Lib.hid (box_below X0_3.out hb)
  obtain ⟨x1, x2⟩ := box_cells X0_4.out
  clear y1 y2
  have X1_4 := Lib.hid (box_below X1_3.out hb)
  obtain ⟨y1, y2⟩ := box_cells X1_4.out
  clear hb
  go_wp2_with fail
  go_ret
  exact ⟨rfl, B4.out⟩
set_option maxHeartbeats 8000000 in
set_option maxRecDepth 100000 in
theorem set_ok (v0 : Value) (l0 : List Row) (x y : Int) (v2 : Value) (l2 : List Id2) (p q : Int) (w : World) (h0 : RowsAt w v0 l0) (u0 : ∀ r ∈ l0, -9223372036854775808 ≤ r.2.1) (h2 : Ids w v2 l2) (a0 : longB l0 = false) (a2 : decide (60 < (l2.length : Int)) = false) (he : setE l0 (x, y) l2 = (setR l0 (x, y) l2, 0)) (b0 : mayB l0 = true) :
    Calls Try.prog 7 #[v0, .agg #[.int .i64 x, .int .i64 y], v2, .agg #[.int .i64 p, .int .i64 q]] w fun e w' => e = .returned (.bool true) ∧ Below w.heap.size w w' := by
  have B00 := Lib.hid (below_two w (.cells #[.int .i64 x, .int .i64 y] 23) (.cells #[.int .i64 p, .int .i64 q] 23))
  have X00 := Lib.hid (show Box ((w.alloc (.cells #[.int .i64 x, .int .i64 y] 23)).alloc (.cells #[.int .i64 p, .int .i64 q] 23)) w.heap.size x y from box_below (box_new w x y) (below_one (w.alloc (.cells #[.int .i64 x, .int .i64 y] 23)) (.cells #[.int .i64 p, .int .i64 q] 23)))
  have Y00 := Lib.hid (show Box ((w.alloc (.cells #[.int .i64 x, .int .i64 y] 23)).alloc (.cells #[.int .i64 p, .int .i64 q] 23)) (w.heap.size + 1) p q from by have := box_new (w.alloc (.cells #[.int .i64 x, .int .i64 y] 23)) p q; simpa using this)
  have I0 := Lib.hid (h0.below B00.out)
  have I2 := Lib.hid (h2.below B00.out)
  have U0 := Lib.hid u0
  obtain ⟨A0, c0, rfl, hz0⟩ := h0.shape
  obtain ⟨A2, c2, rfl, hz2, _⟩ := id h2
  have Ha0 := Lib.hid a0
  have Hb0 := Lib.hid b0
  have Z0 := Lib.hid (lens_long a0)
  have Z2 := Lib.hid (show l2.length ≤ 60 by have := of_decide_eq_false a2; omega)
  have HS : Hid (∀ W v, RowsAt W v l0 → Ids W (.slice A2 l2.length c2) l2 → Calls Try.prog 8 #[v, .agg #[.int .i64 x, .int .i64 y], .slice A2 l2.length c2] W fun e w' => ∃ V, e = .returned (.tuple #[V, .int .i64 0]) ∧ RowsAt w' V (setR l0 (x, y) l2) ∧ Below W.heap.size W w') := Lib.hid fun W v h k => by
    have := setRows_any v (.slice A2 l2.length c2) l0 x y l2 W h k (Z0.out.small (by omega) (by omega)).1 (Z0.out.nots (by omega)) (by have := Z2.out; omega) U0.out
    rw [he] at this
    exact this
  have N0 := Lib.hid ((may_iff l0).1 b0)
  have HE := Lib.hid he
  have UP := Lib.hid N0.out.2.2
  have NS := Lib.hid (norm_setR (x, y) l2 (may_norm N0.out))
  have ZS := Lib.hid (lens_setR (x, y) l2 (may_norm N0.out) Z0.out (show l2.length ≤ 80 by have := Z2.out; omega))
  have HM := Lib.hid fun hl => (may_iff _).2 (may_setR N0.out he hl)
  have US : Hid (∀ r ∈ setR l0 (x, y) l2, -9223372036854775808 ≤ r.2.1) := Lib.hid fun r hr => by
    rcases setR_mem (x, y) l2 (may_norm N0.out) hr with h1 | ⟨_, rfl⟩
    · exact U0.out r h1
    · rcases hg : get l0 (x, y) with _ | s
      · simp [vers]
      · have := (N0.out.2.1 _ (get_mem hg)).2.1
        show -9223372036854775808 ≤ s.1 + 1
        dsimp only at this
        omega
  have HS2 : Hid (∀ W v, RowsAt W v (setR l0 (x, y) l2) → Ids W (.slice A2 l2.length c2) l2 → Calls Try.prog 8 #[v, .agg #[.int .i64 x, .int .i64 y], .slice A2 l2.length c2] W fun e w' => ∃ V, e = .returned (.tuple #[V, .int .i64 0]) ∧ RowsAt w' V (setR l0 (x, y) l2) ∧ Below W.heap.size W w') := Lib.hid fun W v h k => by
    have := setRows_any v (.slice A2 l2.length c2) (setR l0 (x, y) l2) x y l2 W h k (ZS.out.small (by omega) (by omega)).1 (ZS.out.nots (by omega)) (by have := Z2.out; omega) US.out
    rw [setE_again N0.out.2.2 HE.out] at this
    exact this
  have F3 := Lib.hid fun h => set_stays (x, y) l2 N0.out.2.2 h
  have F4 := Lib.hid (vers_setR (x, y) l2 N0.out.2.2)
  have F6 := Lib.hid fun z hz hne => set_has (z := z) (of := (x, y)) (not := l2) N0.out.2.2 hz hne
  have F7 := Lib.hid fun z hz => set_only (z := z) (of := (x, y)) (not := l2) N0.out.2.2 hz
  have F8 := Lib.hid fun h => other_setR (of := (x, y)) (x := (p, q)) l2 N0.out.2.2 h
  have F9 := Lib.hid (notL_one NS.out.1 (x, y))
  have HN1 := Lib.hid (nots_len ZS.out (x, y))
  have HNO := Lib.hid (nots_len Z0.out (p, q))
  have G1 := Lib.hid fun W v h => gotN_any v (setR l0 (x, y) l2) x y W h (ZS.out.small (by omega) (by omega)).1 (ZS.out.nots (by omega))
  have G2 := Lib.hid fun W v h => gotN_any v l0 x y W h (Z0.out.small (by omega) (by omega)).1 (Z0.out.nots (by omega))
  have G3 := Lib.hid fun W v h => get_own v (setR l0 (x, y) l2) p q W h (ZS.out.small (by omega) (by omega)).1 (ZS.out.nots (by omega))
  have G4 := Lib.hid fun W v h => get_own v l0 p q W h (Z0.out.small (by omega) (by omega)).1 (Z0.out.nots (by omega))
  have E2 := Lib.hid fun W v u h k => sameRows_any v u (setR l0 (x, y) l2) W h k (ZS.out.small (by omega) (by omega))
  have HMY := Lib.hid fun W v h => may_rows v (setR l0 (x, y) l2) W h (ZS.out.nots (by omega))
  have HNT : Hid (∀ W v u, RowsAt W v (setR l0 (x, y) l2) → Ids W u [(x, y)] → Calls Try.prog 19 #[v, u] W (News (setOf (nots (get (setR l0 (x, y) l2) (x, y)))) W)) := Lib.hid fun W v u h k => by
    have := not_any v u (setR l0 (x, y) l2) [(x, y)] 81 80 W h k NS.out.1 ZS.out (by omega) (by omega) (by omega) (by simp)
    rw [F9.out] at this
    exact this
  generalize get (setR l0 (x, y) l2) (x, y) = g1 at *
  generalize get l0 (x, y) = g2 at *
  generalize vers g1 = P at *
  generalize g1.isSome = I at *
  generalize nots g1 = M1 at *
  generalize vers g2 = Q at *
  generalize g2.isSome = J at *
  generalize nots g2 = M2 at *
  clear HE US F9 he
  clear h0 h2 u0 hz0 hz2 a0 b0
  go_enter Try.func7, Try.ntmps7
  have B0 := Lib.hid B00.out
  have J0 := Lib.hid I0.out
  have J2 := Lib.hid I2.out
  have XX := Lib.hid X00.out
  have YY := Lib.hid Y00.out
  obtain ⟨x1, x2⟩ := box_cells XX.out
  obtain ⟨y1, y2⟩ := box_cells YY.out
  go_wp2_with fail
  refine (long_any _ l0 _ J0.out).mono ?_
  rw [Ha0.out]
  rintro e w1 ⟨rfl, hb⟩
  have B1 := Lib.hid (below_after B0.out hb (Nat.le_refl _))
  have IL01 := Lib.hid (J0.out.below hb)
  have IL21 := Lib.hid (J2.out.below hb)
  clear x1 x2
  have X0_1 := Lib.hid (box_below XX.out hb)
  obtain ⟨x1, x2⟩ := box_cells X0_1.out
  clear y1 y2
  have X1_1 := Lib.hid (box_below YY.out hb)
  obtain ⟨y1, y2⟩ := box_cells X1_1.out
  clear hb
  go_wp2_with fail
  refine (awake_any _).mono ?_
  rintro e w2 ⟨rfl, hb⟩
  have B2 := Lib.hid (below_after B1.out hb (Nat.le_refl _))
  have IL02 := Lib.hid (IL01.out.below hb)
  have IL22 := Lib.hid (IL21.out.below hb)
  clear x1 x2
  have X0_2 := Lib.hid (box_below X0_1.out hb)
  obtain ⟨x1, x2⟩ := box_cells X0_2.out
  clear y1 y2
  have X1_2 := Lib.hid (box_below X1_1.out hb)
  obtain ⟨y1, y2⟩ := box_cells X1_2.out
  clear hb
  go_wp2_with fail
  refine (HS.out _ _ IL02.out IL22.out).mono ?_
  rintro e w3 ⟨S, rfl, hi, hb⟩
  have B3 := Lib.hid (below_after B2.out hb (Nat.le_refl _))
  have IL03 := Lib.hid (IL02.out.below hb)
  have IL23 := Lib.hid (IL22.out.below hb)
  have IS3 := Lib.hid hi
  clear hi
  clear x1 x2
  have X0_3 := Lib.hid (box_below X0_2.out hb)
  obtain ⟨x1, x2⟩ := box_cells X0_3.out
  clear y1 y2
  have X1_3 := Lib.hid (box_below X1_2.out hb)
  obtain ⟨y1, y2⟩ := box_cells X1_3.out
  clear hb
  go_wp2_with fail
  refine (may_rows _ l0 _ IL03.out ((lens_long Ha0.out).nots (by omega))).mono ?_
  rw [Hb0.out]
  rintro e w4 ⟨rfl, hb⟩
  have B4 := Lib.hid (below_after B3.out hb (Nat.le_refl _))
  have IL04 := Lib.hid (IL03.out.below hb)
  have IL24 := Lib.hid (IL23.out.below hb)
  have IS4 := Lib.hid (IS3.out.below hb)
  clear x1 x2
  have X0_4 := Lib.hid (box_below X0_3.out hb)
  obtain ⟨x1, x2⟩ := box_cells X0_4.out
  clear y1 y2
  have X1_4 := Lib.hid (box_below X1_3.out hb)
  obtain ⟨y1, y2⟩ := box_cells X1_4.out
  clear hb
  obtain ⟨Ab, cb, eb, _⟩ := IS4.out.shape
  subst eb
  go_wp2_with fail
  refine (HS2.out _ _ IS4.out IL24.out).mono ?_
  rintro e w5 ⟨T, rfl, hi, hb⟩
  have B5 := Lib.hid (below_after B4.out hb (Nat.le_refl _))
  have IL05 := Lib.hid (IL04.out.below hb)
  have IL25 := Lib.hid (IL24.out.below hb)
  have IS5 := Lib.hid (IS4.out.below hb)
  have IT5 := Lib.hid hi
  clear hi
  clear x1 x2
  have X0_5 := Lib.hid (box_below X0_4.out hb)
  obtain ⟨x1, x2⟩ := box_cells X0_5.out
  clear y1 y2
  have X1_5 := Lib.hid (box_below X1_4.out hb)
  obtain ⟨y1, y2⟩ := box_cells X1_5.out
  clear hb
  go_wp2_with fail
  (with_reducible refine (G1.out _ _ IS5.out).mono ?_)
  rintro e w6 ⟨a1, b1, D1, m1, d1, rfl, hi, hb⟩
  have bq := below_one w6 (.cells #[.int .i64 a1, .int .i64 b1, .int .i64 P, .slice D1 m1 d1] 26)
  have B6 := Lib.hid (below_after (below_after B5.out hb (Nat.le_refl _)) bq (Nat.le_refl _))
  have IL06 := Lib.hid ((IL05.out.below hb).below bq)
  have IL26 := Lib.hid ((IL25.out.below hb).below bq)
  have IS6 := Lib.hid ((IS5.out.below hb).below bq)
  have IT6 := Lib.hid ((IT5.out.below hb).below bq)
  have IN1 := Lib.hid ((ownsI_ids hi).below bq)
  clear x1 x2
  have X0_6 := Lib.hid (box_below (box_below X0_5.out hb) bq)
  obtain ⟨x1, x2⟩ := box_cells X0_6.out
  clear y1 y2
  have X1_6 := Lib.hid (box_below (box_below X1_5.out hb) bq)
  obtain ⟨y1, y2⟩ := box_cells X1_6.out
  have WB1 := Lib.hid (wbox_new w6 a1 b1 P (.slice D1 m1 d1))
  clear hi hb bq
  go_wp2_with fail
  (with_reducible refine (G2.out _ _ IL06.out).mono ?_)
  rintro e w7 ⟨a2, b2, D2, m2, d2, rfl, hi, hb⟩
  have bq := below_one w7 (.cells #[.int .i64 a2, .int .i64 b2, .int .i64 Q, .slice D2 m2 d2] 26)
  have B7 := Lib.hid (below_after (below_after B6.out hb (Nat.le_refl _)) bq (Nat.le_refl _))
  have IL07 := Lib.hid ((IL06.out.below hb).below bq)
  have IL27 := Lib.hid ((IL26.out.below hb).below bq)
  have IS7 := Lib.hid ((IS6.out.below hb).below bq)
  have IT7 := Lib.hid ((IT6.out.below hb).below bq)
  have IN2 := Lib.hid ((ownsI_ids hi).below bq)
  clear x1 x2
  have X0_7 := Lib.hid (box_below (box_below X0_6.out hb) bq)
  obtain ⟨x1, x2⟩ := box_cells X0_7.out
  clear y1 y2
  have X1_7 := Lib.hid (box_below (box_below X1_6.out hb) bq)
  obtain ⟨y1, y2⟩ := box_cells X1_7.out
  have WB2 := Lib.hid (wbox_new w7 a2 b2 Q (.slice D2 m2 d2))
  have WB1 := Lib.hid (wbox_below (wbox_below WB1.out hb) bq)
  have IN1 := Lib.hid ((IN1.out.below hb).below bq)
  clear hi hb bq
  go_upto_region 9 with fail
  clear x1 x2 y1 y2
  have IS := Lib.hid IS7.out
  have IT := Lib.hid IT7.out
  have IL0 := Lib.hid IL07.out
  have IL2 := Lib.hid IL27.out
  have IX := Lib.hid X0_7.out
  have IY := Lib.hid X1_7.out
  have BM := Lib.hid B7.out
  generalize (w7.alloc (.cells #[.int .i64 a2, .int .i64 b2, .int .i64 Q, .slice D2 m2 d2] 26)) = wm at *
  clear HS HS2 G1 G2 U0 Ha0 Hb0
  go_cut [99] (fun s99 wx => s99 = .bool false ∧ Hid (Below wm.heap.size wm wx))
  case first =>
    have h3 := F3.out
    have h4 := F4.out
    have hd : decide (P < Q) = false := decide_eq_false (by omega)
    have hlen : ∀ b : Bool, decide ((((setR l0 (x, y) l2).length : Nat) : Int) ≤ 64) = b → True := fun _ _ => trivial
    have HI2 := Lib.hid h3
    clear h3 h4 hlen
    by_cases hs : (setR l0 (x, y) l2).length ≤ 64
    · have HB := Lib.hid (HM.out hs)
      have hd2 : decide ((((setR l0 (x, y) l2).length : Nat) : Int) ≤ 64) = true := decide_eq_true (by omega)
      clear hs
      rcases I with _ | _
      · rcases J with _ | _
        · (go_wp2_with fail; (with_reducible refine (E2.out _ _ _ IT.out IS.out).mono ?_); rintro e wa ⟨rfl, hb⟩; have PA := Lib.hid hb; have WA1 := Lib.hid (wbox_below WB1.out hb); have WA2 := Lib.hid (wbox_below WB2.out hb); clear hb; obtain ⟨_, _, q1, _⟩ := wbox_cells WA1.out; obtain ⟨_, _, q2, _⟩ := wbox_cells WA2.out)
          go_wp2_with fail
          refine (HMY.out _ _ (IS.out.below PA.out)).mono ?_
          rw [HB.out]
          rintro e wd ⟨rfl, hb⟩
          have PB := Lib.hid (below_after PA.out hb (Nat.le_refl _))
          clear hb
          go_wp2_with fail
          go_meet
          exact ⟨rfl, PB⟩
        · exact absurd (HI2.out rfl) (by simp)
      · rcases J with _ | _
        · (go_wp2_with fail; (with_reducible refine (E2.out _ _ _ IT.out IS.out).mono ?_); rintro e wa ⟨rfl, hb⟩; have PA := Lib.hid hb; have WA1 := Lib.hid (wbox_below WB1.out hb); have WA2 := Lib.hid (wbox_below WB2.out hb); clear hb; obtain ⟨_, _, q1, _⟩ := wbox_cells WA1.out; obtain ⟨_, _, q2, _⟩ := wbox_cells WA2.out)
          go_wp2_with fail
          refine (HMY.out _ _ (IS.out.below PA.out)).mono ?_
          rw [HB.out]
          rintro e wd ⟨rfl, hb⟩
          have PB := Lib.hid (below_after PA.out hb (Nat.le_refl _))
          clear hb
          go_wp2_with fail
          go_meet
          exact ⟨rfl, PB⟩
        · (go_wp2_with fail; (with_reducible refine (E2.out _ _ _ IT.out IS.out).mono ?_); rintro e wa ⟨rfl, hb⟩; have PA := Lib.hid hb; have WA1 := Lib.hid (wbox_below WB1.out hb); have WA2 := Lib.hid (wbox_below WB2.out hb); clear hb; obtain ⟨_, _, q1, _⟩ := wbox_cells WA1.out; obtain ⟨_, _, q2, _⟩ := wbox_cells WA2.out)
          go_wp2_with fail
          refine (HMY.out _ _ (IS.out.below PA.out)).mono ?_
          rw [HB.out]
          rintro e wd ⟨rfl, hb⟩
          have PB := Lib.hid (below_after PA.out hb (Nat.le_refl _))
          clear hb
          go_wp2_with fail
          go_meet
          exact ⟨rfl, PB⟩
    · have hd2 : decide ((((setR l0 (x, y) l2).length : Nat) : Int) ≤ 64) = false := decide_eq_false (by omega)
      clear hs
      rcases I with _ | _
      · rcases J with _ | _
        · (go_wp2_with fail; (with_reducible refine (E2.out _ _ _ IT.out IS.out).mono ?_); rintro e wa ⟨rfl, hb⟩; have PA := Lib.hid hb; have WA1 := Lib.hid (wbox_below WB1.out hb); have WA2 := Lib.hid (wbox_below WB2.out hb); clear hb; obtain ⟨_, _, q1, _⟩ := wbox_cells WA1.out; obtain ⟨_, _, q2, _⟩ := wbox_cells WA2.out)
          go_wp2_with fail
          go_meet
          exact ⟨rfl, PA⟩
        · exact absurd (HI2.out rfl) (by simp)
      · rcases J with _ | _
        · (go_wp2_with fail; (with_reducible refine (E2.out _ _ _ IT.out IS.out).mono ?_); rintro e wa ⟨rfl, hb⟩; have PA := Lib.hid hb; have WA1 := Lib.hid (wbox_below WB1.out hb); have WA2 := Lib.hid (wbox_below WB2.out hb); clear hb; obtain ⟨_, _, q1, _⟩ := wbox_cells WA1.out; obtain ⟨_, _, q2, _⟩ := wbox_cells WA2.out)
          go_wp2_with fail
          go_meet
          exact ⟨rfl, PA⟩
        · (go_wp2_with fail; (with_reducible refine (E2.out _ _ _ IT.out IS.out).mono ?_); rintro e wa ⟨rfl, hb⟩; have PA := Lib.hid hb; have WA1 := Lib.hid (wbox_below WB1.out hb); have WA2 := Lib.hid (wbox_below WB2.out hb); clear hb; obtain ⟨_, _, q1, _⟩ := wbox_cells WA1.out; obtain ⟨_, _, q2, _⟩ := wbox_cells WA2.out)
          go_wp2_with fail
          go_meet
          exact ⟨rfl, PA⟩
  case rest =>
    obtain ⟨rfl, BC⟩ := hcut
    have X1 := Lib.hid (wbox_below WB1.out BC.out)
    have N10 := Lib.hid (IN1.out.below BC.out)
    have XA := Lib.hid (box_below IX.out BC.out)
    have YA := Lib.hid (box_below IY.out BC.out)
    have RS := Lib.hid (IS.out.below BC.out)
    have R0 := Lib.hid (IL0.out.below BC.out)
    have R2 := Lib.hid (IL2.out.below BC.out)
    have BB := Lib.hid (below_after BM.out BC.out (Nat.le_refl _))
    clear E2 HMY HM F3 F4 IS IT IL0 IL2 IX IY BM WB1 WB2 IN1 IN2
    have hm1 : m1 = M1.length := by
      obtain ⟨A', c', e, _⟩ := N10.out
      injection e with e1 e2 e3
    have HM1 := Lib.hid hm1
    clear hm1
    have i1 : m1 ≤ 80 := by have := HM1.out; have := HN1.out; omega
    have i2 : l2.length ≤ 60 := Z2.out
    obtain ⟨_, _, _, x4⟩ := wbox_cells X1.out
    go_wp2_with fail
    go_loopw [17] (fun s17 wr => ∃ k : Nat, k ≤ l2.length ∧ s17 = .int .i64 k ∧ Hid (Below wc.heap.size wc wr)) (fun s17 _ => l2.length - (intOf s17).toNat)
    case atStart => exact ⟨0, by omega, rfl, Lib.hid (Below.refl _ _)⟩
    case round =>
      obtain ⟨k, hkl, rfl, HW⟩ := hrel
      have i3 : (0 : Int) ≤ (k : Int) := by omega
      clear x4
      by_cases hlt : k < l2.length
      · have i4 : (k : Int) < (l2.length : Int) := by omega
        have hdk : decide ((k : Int) < (l2.length : Int)) = true := decide_eq_true i4
        obtain ⟨ad, rfl, q1, q2⟩ := R2.out.at_ HW.out hlt
        have XR := Lib.hid (wbox_below X1.out HW.out)
        have AR := Lib.hid (box_below XA.out HW.out)
        have HF := Lib.hid fun W (hb : Below wr.heap.size wr W) => And.intro (wbox_cells (wbox_below XR.out hb)).2.2.2 (And.intro (box_cells (box_below AR.out hb)) (And.intro ((hb.cell (block_lt_of_cell q1)).trans q1) (And.intro ((hb.cell (block_lt_of_cell q2)).trans q2) (Lib.hid hb))))
        have HH := Lib.hid fun (h : l2[k] ≠ (x, y)) => (show hasB (l2[k].1, l2[k].2) M1 = true from decide_eq_true (F6.out _ (List.getElem_mem hlt) h))
        have HC := Lib.hid fun W (hb : Below wc.heap.size wc W) => refHas_any (.slice D1 m1 d1) M1 l2[k].1 l2[k].2 W (N10.out.below hb) (by have := HN1.out; omega)
        have HX := Lib.hid (show l2[k] = (l2[k].1, l2[k].2) from rfl)
        obtain ⟨_, _, _, x4⟩ := wbox_cells XR.out
        obtain ⟨z1, z2⟩ := box_cells AR.out
        rw [HX.out] at HH
        clear HX
        generalize l2[k].1 = u at *
        generalize l2[k].2 = v at *
        by_cases e1 : u = x
        · by_cases e2 : v = y
          · have hn1 : (x == x) = true := by simp
            rw [e1] at q1
            rw [e2] at q2
            clear e1 e2 HC HH HF
            go_wp2_with fail
            go_quiet (fail)
            go_wp2_with fail
            go_roundw
            case rel => exact ⟨k + 1, by omega, by go_num, Lib.hid (below_drewN HW.out)⟩
            case measure => simp [intOf]; omega
          · have hv1 : (v == y) = false := by simpa using e2
            have hv2 : (v != y) = true := by simpa using e2
            have HHT := Lib.hid (HH.out (fun h => e2 (congrArg Prod.snd h)))
            rw [HHT.out] at HC
            rw [e1] at q1 HF HC
            clear e1 e2 HH HHT
            go_wp2_with fail
            refine wp_region_held_drew (S := fun w' => w'.cell? ⟨w6.heap.size, 3, none⟩ = some (.slice D1 m1 d1) ∧ (w'.cell? ⟨w.heap.size, 0, none⟩ = some (.int .i64 x) ∧ w'.cell? ⟨w.heap.size, 1, none⟩ = some (.int .i64 y)) ∧ w'.cell? (ad.add (k * 2)) = some (.int .i64 x) ∧ w'.cell? ⟨(ad.add (k * 2)).block, (ad.add (k * 2)).off + 1, none⟩ = some (.int .i64 v) ∧ Hid (Below wr.heap.size wr w')) (by kernel_rfl) ?_ (fun hHeld => ?_)
            · exact HF.out _ (Below.drew (Below.refl _ _))
            (refine wpAnyH_take (i := 0) (oi := ⟨_, _, _, _, _, _⟩) (v := ?_) rfl (by kernel_rfl) (by kernel_rfl) (by kernel_rfl) (fun _ _ _ h => h) (Or.inl ⟨by rfl, ?_⟩) (by assumption) ?_; rotate_left 1; · (intro w hSw; (try dsimp only at hSw); go_simp; all_goals with_reducible rfl))
            try simp only [Act.put, List.setIfInBounds_toArray, List.set_cons_zero, List.set_cons_succ]
            (refine wpAnyH_take (i := 1) (oi := ⟨_, _, _, _, _, _⟩) (v := ?_) rfl (by kernel_rfl) (by kernel_rfl) (by kernel_rfl) (fun _ _ _ h => h) (Or.inl ⟨by rfl, ?_⟩) (by assumption) ?_; rotate_left 1; · (intro w hSw; (try dsimp only at hSw); go_simp; all_goals with_reducible rfl))
            try simp only [Act.put, List.setIfInBounds_toArray, List.set_cons_zero, List.set_cons_succ]
            (refine wpAnyH_take (i := 2) (oi := ⟨_, _, _, _, _, _⟩) (v := ?_) rfl (by kernel_rfl) (by kernel_rfl) (by kernel_rfl) (fun _ _ _ h => h) (Or.inl ⟨by rfl, ?_⟩) (by assumption) ?_; rotate_left 1; · (intro w hSw; (try dsimp only at hSw); go_simp; all_goals with_reducible rfl))
            try simp only [Act.put, List.setIfInBounds_toArray, List.set_cons_zero, List.set_cons_succ]
            (refine wpAnyH_take (i := 3) (oi := ⟨_, _, _, _, _, _⟩) (v := ?_) rfl (by kernel_rfl) (by kernel_rfl) (by kernel_rfl) (fun _ _ _ h => h) (Or.inl ⟨by rfl, ?_⟩) (by assumption) ?_; rotate_left 1; · (intro w hSw; (try dsimp only at hSw); go_simp; all_goals with_reducible rfl))
            try simp only [Act.put, List.setIfInBounds_toArray, List.set_cons_zero, List.set_cons_succ]
            (refine wpAnyH_take (i := 4) (oi := ⟨_, _, _, _, _, _⟩) (v := ?_) rfl (by kernel_rfl) (by kernel_rfl) (by kernel_rfl) (fun _ _ _ h => h) (Or.inl ⟨by rfl, ?_⟩) (by assumption) ?_; rotate_left 1; · (intro w hSw; (try dsimp only at hSw); go_simp; all_goals with_reducible rfl))
            try simp only [Act.put, List.setIfInBounds_toArray, List.set_cons_zero, List.set_cons_succ]
            (refine wpAnyH_take (i := 5) (oi := ⟨_, _, _, _, _, _⟩) (v := ?_) rfl (by kernel_rfl) (by kernel_rfl) (by kernel_rfl) (fun _ _ _ h => h) (Or.inl ⟨by rfl, ?_⟩) (by assumption) ?_; rotate_left 1; · (intro w hSw; (try dsimp only at hSw); go_simp; all_goals with_reducible rfl))
            try simp only [Act.put, List.setIfInBounds_toArray, List.set_cons_zero, List.set_cons_succ]
            (refine wpAnyH_take (i := 6) (oi := ⟨_, _, _, _, _, _⟩) (v := ?_) rfl (by kernel_rfl) (by kernel_rfl) (by kernel_rfl) (fun _ _ _ h => h) (Or.inl ⟨by rfl, ?_⟩) (by assumption) ?_; rotate_left 1; · (intro w hSw; (try dsimp only at hSw); go_simp; all_goals with_reducible rfl))
            try simp only [Act.put, List.setIfInBounds_toArray, List.set_cons_zero, List.set_cons_succ]
            first | (refine wpAnyH_take (i := 7) (oi := ⟨_, _, _, _, _, _⟩) (v := ?_) rfl (by kernel_rfl) (by kernel_rfl) (by kernel_rfl) (fun _ _ _ h => h) (Or.inl ⟨by rfl, ?_⟩) (by assumption) ?_; rotate_left 1; · (intro w hSw; (try dsimp only at hSw); go_simp; all_goals with_reducible rfl)) | refine wpAnyH_take (i := 7) (oi := ⟨_, _, _, _, _, _⟩) (v := undef) rfl (by kernel_rfl) (by kernel_rfl) (by kernel_rfl) (fun _ _ _ h => h) (Or.inr ⟨by kernel_rfl, rfl⟩) (by assumption) ?_
            try simp only [Act.put, List.setIfInBounds_toArray, List.set_cons_zero, List.set_cons_succ]
            first | (refine wpAnyH_take (i := 8) (oi := ⟨_, _, _, _, _, _⟩) (v := ?_) rfl (by kernel_rfl) (by kernel_rfl) (by kernel_rfl) (fun _ _ _ h => h) (Or.inl ⟨by rfl, ?_⟩) (by assumption) ?_; rotate_left 1; · (intro w hSw; (try dsimp only at hSw); go_simp; all_goals with_reducible rfl)) | refine wpAnyH_take (i := 8) (oi := ⟨_, _, _, _, _, _⟩) (v := undef) rfl (by kernel_rfl) (by kernel_rfl) (by kernel_rfl) (fun _ _ _ h => h) (Or.inr ⟨by kernel_rfl, rfl⟩) (by assumption) ?_
            try simp only [Act.put, List.setIfInBounds_toArray, List.set_cons_zero, List.set_cons_succ]
            first | (refine wpAnyH_take (i := 9) (oi := ⟨_, _, _, _, _, _⟩) (v := ?_) rfl (by kernel_rfl) (by kernel_rfl) (by kernel_rfl) (fun _ _ _ h => h) (Or.inl ⟨by rfl, ?_⟩) (by assumption) ?_; rotate_left 1; · (intro w hSw; (try dsimp only at hSw); go_simp; all_goals with_reducible rfl)) | refine wpAnyH_take (i := 9) (oi := ⟨_, _, _, _, _, _⟩) (v := undef) rfl (by kernel_rfl) (by kernel_rfl) (by kernel_rfl) (fun _ _ _ h => h) (Or.inr ⟨by kernel_rfl, rfl⟩) (by assumption) ?_
            try simp only [Act.put, List.setIfInBounds_toArray, List.set_cons_zero, List.set_cons_succ]
            first | (refine wpAnyH_take (i := 10) (oi := ⟨_, _, _, _, _, _⟩) (v := ?_) rfl (by kernel_rfl) (by kernel_rfl) (by kernel_rfl) (fun _ _ _ h => h) (Or.inl ⟨by rfl, ?_⟩) (by assumption) ?_; rotate_left 1; · (intro w hSw; (try dsimp only at hSw); go_simp; all_goals with_reducible rfl)) | refine wpAnyH_take (i := 10) (oi := ⟨_, _, _, _, _, _⟩) (v := undef) rfl (by kernel_rfl) (by kernel_rfl) (by kernel_rfl) (fun _ _ _ h => h) (Or.inr ⟨by kernel_rfl, rfl⟩) (by assumption) ?_
            try simp only [Act.put, List.setIfInBounds_toArray, List.set_cons_zero, List.set_cons_succ]
            first | (refine wpAnyH_take (i := 11) (oi := ⟨_, _, _, _, _, _⟩) (v := ?_) rfl (by kernel_rfl) (by kernel_rfl) (by kernel_rfl) (fun _ _ _ h => h) (Or.inl ⟨by rfl, ?_⟩) (by assumption) ?_; rotate_left 1; · (intro w hSw; (try dsimp only at hSw); go_simp; all_goals with_reducible rfl)) | refine wpAnyH_take (i := 11) (oi := ⟨_, _, _, _, _, _⟩) (v := undef) rfl (by kernel_rfl) (by kernel_rfl) (by kernel_rfl) (fun _ _ _ h => h) (Or.inr ⟨by kernel_rfl, rfl⟩) (by assumption) ?_
            try simp only [Act.put, List.setIfInBounds_toArray, List.set_cons_zero, List.set_cons_succ]
            first | (refine wpAnyH_take (i := 12) (oi := ⟨_, _, _, _, _, _⟩) (v := ?_) rfl (by kernel_rfl) (by kernel_rfl) (by kernel_rfl) (fun _ _ _ h => h) (Or.inl ⟨by rfl, ?_⟩) (by assumption) ?_; rotate_left 1; · (intro w hSw; (try dsimp only at hSw); go_simp; all_goals with_reducible rfl)) | refine wpAnyH_take (i := 12) (oi := ⟨_, _, _, _, _, _⟩) (v := undef) rfl (by kernel_rfl) (by kernel_rfl) (by kernel_rfl) (fun _ _ _ h => h) (Or.inr ⟨by kernel_rfl, rfl⟩) (by assumption) ?_
            try simp only [Act.put, List.setIfInBounds_toArray, List.set_cons_zero, List.set_cons_succ]
            refine wpAnyH_ready (rs := [13]) (by kernel_rfl) (by simp) ?_
            refine AllReadyH.cons (o := ⟨_, _, _, _, _, _⟩) rfl (fun Kq hKq => ?_) (AllReadyH.nil)
            go_simp
            clear hHeld
            go_at_call 15; (with_reducible refine (HC.out _ (below_after HW.out (Below.drew (Below.refl _ _)) (Nat.le_refl _))).mono ?_); rintro e w7 ⟨rfl, hb⟩; have P7 := Lib.hid (below_after (Below.drew (Below.refl _ _)) hb (Nat.le_refl _)); clear hb x4 z1 z2 q1 q2
            refine hKq.out _ _ ?_ (fun hHeld => ?_)
            · (try dsimp only); exact HF.out _ P7.out
            clear hKq Kq
            try simp only [Act.put, List.setIfInBounds_toArray, List.set_cons_zero, List.set_cons_succ]
            first | (refine wpAnyH_take (i := 14) (oi := ⟨_, _, _, _, _, _⟩) (v := ?_) rfl (by kernel_rfl) (by kernel_rfl) (by kernel_rfl) (fun _ _ _ h => h) (Or.inl ⟨by rfl, ?_⟩) (by assumption) ?_; rotate_left 1; · (intro w hSw; (try dsimp only at hSw); go_simp; all_goals with_reducible rfl)) | refine wpAnyH_take (i := 14) (oi := ⟨_, _, _, _, _, _⟩) (v := undef) rfl (by kernel_rfl) (by kernel_rfl) (by kernel_rfl) (fun _ _ _ h => h) (Or.inr ⟨by kernel_rfl, rfl⟩) (by assumption) ?_
            try simp only [Act.put, List.setIfInBounds_toArray, List.set_cons_zero, List.set_cons_succ]
            (refine wpAnyH_take (i := 15) (oi := ⟨_, _, _, _, _, _⟩) (v := ?_) rfl (by kernel_rfl) (by kernel_rfl) (by kernel_rfl) (fun _ _ _ h => h) (Or.inl ⟨by rfl, ?_⟩) (by assumption) ?_; rotate_left 1; · (intro w hSw; (try dsimp only at hSw); go_simp; all_goals with_reducible rfl))
            try simp only [Act.put, List.setIfInBounds_toArray, List.set_cons_zero, List.set_cons_succ]
            refine wpAnyH_done (by kernel_rfl) ?_ _
            go_wp2_with fail
            go_roundw
            case rel => exact ⟨k + 1, by omega, by go_num, Lib.hid (below_after HW.out P7.out (Nat.le_refl _))⟩
            case measure => simp [intOf]; omega
        · have hu1 : (u == x) = false := by simpa using e1
          have hu2 : (u != x) = true := by simpa using e1
          have HHT := Lib.hid (HH.out (fun h => e1 (congrArg Prod.fst h)))
          rw [HHT.out] at HC
          clear e1 HH HHT
          go_wp2_with fail
          refine wp_region_held_drew (S := fun w' => w'.cell? ⟨w6.heap.size, 3, none⟩ = some (.slice D1 m1 d1) ∧ (w'.cell? ⟨w.heap.size, 0, none⟩ = some (.int .i64 x) ∧ w'.cell? ⟨w.heap.size, 1, none⟩ = some (.int .i64 y)) ∧ w'.cell? (ad.add (k * 2)) = some (.int .i64 u) ∧ w'.cell? ⟨(ad.add (k * 2)).block, (ad.add (k * 2)).off + 1, none⟩ = some (.int .i64 v) ∧ Hid (Below wr.heap.size wr w')) (by kernel_rfl) ?_ (fun hHeld => ?_)
          · exact HF.out _ (Below.drew (Below.refl _ _))
          (refine wpAnyH_take (i := 0) (oi := ⟨_, _, _, _, _, _⟩) (v := ?_) rfl (by kernel_rfl) (by kernel_rfl) (by kernel_rfl) (fun _ _ _ h => h) (Or.inl ⟨by rfl, ?_⟩) (by assumption) ?_; rotate_left 1; · (intro w hSw; (try dsimp only at hSw); go_simp; all_goals with_reducible rfl))
          try simp only [Act.put, List.setIfInBounds_toArray, List.set_cons_zero, List.set_cons_succ]
          (refine wpAnyH_take (i := 1) (oi := ⟨_, _, _, _, _, _⟩) (v := ?_) rfl (by kernel_rfl) (by kernel_rfl) (by kernel_rfl) (fun _ _ _ h => h) (Or.inl ⟨by rfl, ?_⟩) (by assumption) ?_; rotate_left 1; · (intro w hSw; (try dsimp only at hSw); go_simp; all_goals with_reducible rfl))
          try simp only [Act.put, List.setIfInBounds_toArray, List.set_cons_zero, List.set_cons_succ]
          (refine wpAnyH_take (i := 2) (oi := ⟨_, _, _, _, _, _⟩) (v := ?_) rfl (by kernel_rfl) (by kernel_rfl) (by kernel_rfl) (fun _ _ _ h => h) (Or.inl ⟨by rfl, ?_⟩) (by assumption) ?_; rotate_left 1; · (intro w hSw; (try dsimp only at hSw); go_simp; all_goals with_reducible rfl))
          try simp only [Act.put, List.setIfInBounds_toArray, List.set_cons_zero, List.set_cons_succ]
          (refine wpAnyH_take (i := 3) (oi := ⟨_, _, _, _, _, _⟩) (v := ?_) rfl (by kernel_rfl) (by kernel_rfl) (by kernel_rfl) (fun _ _ _ h => h) (Or.inl ⟨by rfl, ?_⟩) (by assumption) ?_; rotate_left 1; · (intro w hSw; (try dsimp only at hSw); go_simp; all_goals with_reducible rfl))
          try simp only [Act.put, List.setIfInBounds_toArray, List.set_cons_zero, List.set_cons_succ]
          (refine wpAnyH_take (i := 4) (oi := ⟨_, _, _, _, _, _⟩) (v := ?_) rfl (by kernel_rfl) (by kernel_rfl) (by kernel_rfl) (fun _ _ _ h => h) (Or.inl ⟨by rfl, ?_⟩) (by assumption) ?_; rotate_left 1; · (intro w hSw; (try dsimp only at hSw); go_simp; all_goals with_reducible rfl))
          try simp only [Act.put, List.setIfInBounds_toArray, List.set_cons_zero, List.set_cons_succ]
          (refine wpAnyH_take (i := 5) (oi := ⟨_, _, _, _, _, _⟩) (v := ?_) rfl (by kernel_rfl) (by kernel_rfl) (by kernel_rfl) (fun _ _ _ h => h) (Or.inl ⟨by rfl, ?_⟩) (by assumption) ?_; rotate_left 1; · (intro w hSw; (try dsimp only at hSw); go_simp; all_goals with_reducible rfl))
          try simp only [Act.put, List.setIfInBounds_toArray, List.set_cons_zero, List.set_cons_succ]
          (refine wpAnyH_take (i := 6) (oi := ⟨_, _, _, _, _, _⟩) (v := ?_) rfl (by kernel_rfl) (by kernel_rfl) (by kernel_rfl) (fun _ _ _ h => h) (Or.inl ⟨by rfl, ?_⟩) (by assumption) ?_; rotate_left 1; · (intro w hSw; (try dsimp only at hSw); go_simp; all_goals with_reducible rfl))
          try simp only [Act.put, List.setIfInBounds_toArray, List.set_cons_zero, List.set_cons_succ]
          first | (refine wpAnyH_take (i := 7) (oi := ⟨_, _, _, _, _, _⟩) (v := ?_) rfl (by kernel_rfl) (by kernel_rfl) (by kernel_rfl) (fun _ _ _ h => h) (Or.inl ⟨by rfl, ?_⟩) (by assumption) ?_; rotate_left 1; · (intro w hSw; (try dsimp only at hSw); go_simp; all_goals with_reducible rfl)) | refine wpAnyH_take (i := 7) (oi := ⟨_, _, _, _, _, _⟩) (v := undef) rfl (by kernel_rfl) (by kernel_rfl) (by kernel_rfl) (fun _ _ _ h => h) (Or.inr ⟨by kernel_rfl, rfl⟩) (by assumption) ?_
          try simp only [Act.put, List.setIfInBounds_toArray, List.set_cons_zero, List.set_cons_succ]
          first | (refine wpAnyH_take (i := 8) (oi := ⟨_, _, _, _, _, _⟩) (v := ?_) rfl (by kernel_rfl) (by kernel_rfl) (by kernel_rfl) (fun _ _ _ h => h) (Or.inl ⟨by rfl, ?_⟩) (by assumption) ?_; rotate_left 1; · (intro w hSw; (try dsimp only at hSw); go_simp; all_goals with_reducible rfl)) | refine wpAnyH_take (i := 8) (oi := ⟨_, _, _, _, _, _⟩) (v := undef) rfl (by kernel_rfl) (by kernel_rfl) (by kernel_rfl) (fun _ _ _ h => h) (Or.inr ⟨by kernel_rfl, rfl⟩) (by assumption) ?_
          try simp only [Act.put, List.setIfInBounds_toArray, List.set_cons_zero, List.set_cons_succ]
          first | (refine wpAnyH_take (i := 9) (oi := ⟨_, _, _, _, _, _⟩) (v := ?_) rfl (by kernel_rfl) (by kernel_rfl) (by kernel_rfl) (fun _ _ _ h => h) (Or.inl ⟨by rfl, ?_⟩) (by assumption) ?_; rotate_left 1; · (intro w hSw; (try dsimp only at hSw); go_simp; all_goals with_reducible rfl)) | refine wpAnyH_take (i := 9) (oi := ⟨_, _, _, _, _, _⟩) (v := undef) rfl (by kernel_rfl) (by kernel_rfl) (by kernel_rfl) (fun _ _ _ h => h) (Or.inr ⟨by kernel_rfl, rfl⟩) (by assumption) ?_
          try simp only [Act.put, List.setIfInBounds_toArray, List.set_cons_zero, List.set_cons_succ]
          first | (refine wpAnyH_take (i := 10) (oi := ⟨_, _, _, _, _, _⟩) (v := ?_) rfl (by kernel_rfl) (by kernel_rfl) (by kernel_rfl) (fun _ _ _ h => h) (Or.inl ⟨by rfl, ?_⟩) (by assumption) ?_; rotate_left 1; · (intro w hSw; (try dsimp only at hSw); go_simp; all_goals with_reducible rfl)) | refine wpAnyH_take (i := 10) (oi := ⟨_, _, _, _, _, _⟩) (v := undef) rfl (by kernel_rfl) (by kernel_rfl) (by kernel_rfl) (fun _ _ _ h => h) (Or.inr ⟨by kernel_rfl, rfl⟩) (by assumption) ?_
          try simp only [Act.put, List.setIfInBounds_toArray, List.set_cons_zero, List.set_cons_succ]
          first | (refine wpAnyH_take (i := 11) (oi := ⟨_, _, _, _, _, _⟩) (v := ?_) rfl (by kernel_rfl) (by kernel_rfl) (by kernel_rfl) (fun _ _ _ h => h) (Or.inl ⟨by rfl, ?_⟩) (by assumption) ?_; rotate_left 1; · (intro w hSw; (try dsimp only at hSw); go_simp; all_goals with_reducible rfl)) | refine wpAnyH_take (i := 11) (oi := ⟨_, _, _, _, _, _⟩) (v := undef) rfl (by kernel_rfl) (by kernel_rfl) (by kernel_rfl) (fun _ _ _ h => h) (Or.inr ⟨by kernel_rfl, rfl⟩) (by assumption) ?_
          try simp only [Act.put, List.setIfInBounds_toArray, List.set_cons_zero, List.set_cons_succ]
          first | (refine wpAnyH_take (i := 12) (oi := ⟨_, _, _, _, _, _⟩) (v := ?_) rfl (by kernel_rfl) (by kernel_rfl) (by kernel_rfl) (fun _ _ _ h => h) (Or.inl ⟨by rfl, ?_⟩) (by assumption) ?_; rotate_left 1; · (intro w hSw; (try dsimp only at hSw); go_simp; all_goals with_reducible rfl)) | refine wpAnyH_take (i := 12) (oi := ⟨_, _, _, _, _, _⟩) (v := undef) rfl (by kernel_rfl) (by kernel_rfl) (by kernel_rfl) (fun _ _ _ h => h) (Or.inr ⟨by kernel_rfl, rfl⟩) (by assumption) ?_
          try simp only [Act.put, List.setIfInBounds_toArray, List.set_cons_zero, List.set_cons_succ]
          refine wpAnyH_ready (rs := [13]) (by kernel_rfl) (by simp) ?_
          refine AllReadyH.cons (o := ⟨_, _, _, _, _, _⟩) rfl (fun Kq hKq => ?_) (AllReadyH.nil)
          go_simp
          clear hHeld
          go_at_call 15; (with_reducible refine (HC.out _ (below_after HW.out (Below.drew (Below.refl _ _)) (Nat.le_refl _))).mono ?_); rintro e w7 ⟨rfl, hb⟩; have P7 := Lib.hid (below_after (Below.drew (Below.refl _ _)) hb (Nat.le_refl _)); clear hb x4 z1 z2 q1 q2
          refine hKq.out _ _ ?_ (fun hHeld => ?_)
          · (try dsimp only); exact HF.out _ P7.out
          clear hKq Kq
          try simp only [Act.put, List.setIfInBounds_toArray, List.set_cons_zero, List.set_cons_succ]
          first | (refine wpAnyH_take (i := 14) (oi := ⟨_, _, _, _, _, _⟩) (v := ?_) rfl (by kernel_rfl) (by kernel_rfl) (by kernel_rfl) (fun _ _ _ h => h) (Or.inl ⟨by rfl, ?_⟩) (by assumption) ?_; rotate_left 1; · (intro w hSw; (try dsimp only at hSw); go_simp; all_goals with_reducible rfl)) | refine wpAnyH_take (i := 14) (oi := ⟨_, _, _, _, _, _⟩) (v := undef) rfl (by kernel_rfl) (by kernel_rfl) (by kernel_rfl) (fun _ _ _ h => h) (Or.inr ⟨by kernel_rfl, rfl⟩) (by assumption) ?_
          try simp only [Act.put, List.setIfInBounds_toArray, List.set_cons_zero, List.set_cons_succ]
          (refine wpAnyH_take (i := 15) (oi := ⟨_, _, _, _, _, _⟩) (v := ?_) rfl (by kernel_rfl) (by kernel_rfl) (by kernel_rfl) (fun _ _ _ h => h) (Or.inl ⟨by rfl, ?_⟩) (by assumption) ?_; rotate_left 1; · (intro w hSw; (try dsimp only at hSw); go_simp; all_goals with_reducible rfl))
          try simp only [Act.put, List.setIfInBounds_toArray, List.set_cons_zero, List.set_cons_succ]
          refine wpAnyH_done (by kernel_rfl) ?_ _
          go_wp2_with fail
          go_roundw
          case rel => exact ⟨k + 1, by omega, by go_num, Lib.hid (below_after HW.out P7.out (Nat.le_refl _))⟩
          case measure => simp [intOf]; omega
      · have hdk : decide ((k : Int) < (l2.length : Int)) = false := decide_eq_false (by omega)
        have XR := Lib.hid (wbox_below X1.out HW.out)
        obtain ⟨_, _, _, x4⟩ := wbox_cells XR.out
        have HV := Lib.hid HW.out
        go_wp2_with fail
        clear HW x4
        go_loopw [18] (fun s18 wr => ∃ k : Nat, k ≤ m1 ∧ s18 = .int .i64 k ∧ Hid (Below wc.heap.size wc wr)) (fun s18 _ => m1 - (intOf s18).toNat)
        case atStart => exact ⟨0, by omega, rfl, HV⟩
        case round =>
          obtain ⟨j, hjl, rfl, HW⟩ := hrel
          have i5 : (0 : Int) ≤ (j : Int) := by omega
          have XR := Lib.hid (wbox_below X1.out HW.out)
          obtain ⟨_, _, _, x4⟩ := wbox_cells XR.out
          by_cases hlj : j < m1
          · have i6 : (j : Int) < (m1 : Int) := by omega
            have hdj : decide ((j : Int) < (m1 : Int)) = true := decide_eq_true i6
            have hj2 : j < M1.length := by have := HM1.out; omega
            obtain ⟨ad, rfl, q1, q2⟩ := N10.out.at_ HW.out hj2
            have HH := Lib.hid (show hasB (M1[j].1, M1[j].2) l2 = true from decide_eq_true (F7.out _ (List.getElem_mem hj2)))
            have HC : Hid (∀ W, Below wc.heap.size wc W → Calls Try.prog 15 #[.slice A2 l2.length c2, .agg #[.int .i64 M1[j].1, .int .i64 M1[j].2]] W fun e w' => e = .returned (.bool true) ∧ Below W.heap.size W w') := Lib.hid fun W hb => by
              have := refHas_any (.slice A2 l2.length c2) l2 M1[j].1 M1[j].2 W (R2.out.below hb) (by omega)
              rw [HH.out] at this
              exact this
            clear HH
            generalize M1[j].1 = u at *
            generalize M1[j].2 = v at *
            go_wp2_with fail
            (with_reducible refine (HC.out _ HW.out).mono ?_)
            rintro e w8 ⟨rfl, hb⟩
            have P8 := Lib.hid (below_after HW.out hb (Nat.le_refl _))
            clear hb x4 q1 q2
            go_wp2_with fail
            go_roundw
            case rel => exact ⟨j + 1, by omega, by go_num, P8⟩
            case measure => simp [intOf]; omega
          · have hdj : decide ((j : Int) < (m1 : Int)) = false := decide_eq_false (by omega)
            have AR := Lib.hid (box_below XA.out HW.out)
            have CR := Lib.hid (box_below YA.out HW.out)
            obtain ⟨z1, z2⟩ := box_cells AR.out
            obtain ⟨t1, t2⟩ := box_cells CR.out
            have HFIN := Lib.hid (below_after BB.out HW.out (Nat.le_refl _))
            by_cases e1 : p = x
            · by_cases e2 : q = y
              · rw [e1] at t1
                rw [e2] at t2
                go_wp2_with fail
                go_ret
                exact ⟨rfl, HFIN.out⟩
              · have hv1 : (q == y) = false := by simpa using e2
                have hv2 : (q != y) = true := by simpa using e2
                have HO := Lib.hid (F8.out (fun h => e2 (congrArg Prod.snd h)))
                have hp1 : (p == x) = true := by simpa using e1
                have hp2 : (p != x) = false := by simpa using e1
                clear e1 e2
                rw [HO.out] at G3
                clear HO F8
                generalize get l0 (p, q) = go at *
                generalize (ofI go (p, q)).1 = o1 at *
                generalize (ofI go (p, q)).2 = o2 at *
                generalize vers go = ov at *
                generalize go.isSome = K at *
                generalize nots go = NN at *
                go_wp2_with fail
                (with_reducible refine (G3.out _ _ (RS.out.below HW.out)).mono ?_)
                rintro e wA ⟨Bs, ms, cs, rfl, hi, hb⟩
                have qa := below_one wA (.cells #[.int .i64 o1, .int .i64 o2, .int .i64 ov, .slice Bs ms cs] 26)
                have V1 := Lib.hid (below_after (below_after HW.out hb (Nat.le_refl _)) qa (Nat.le_refl _))
                have NA := Lib.hid ((ownsI_ids hi).below qa)
                have WA := Lib.hid (wbox_new wA o1 o2 ov (.slice Bs ms cs))
                have CR1 := Lib.hid (box_below (box_below CR.out hb) qa)
                clear hi hb qa t1 t2 z1 z2 x4
                obtain ⟨t1, t2⟩ := box_cells CR1.out
                go_wp2_with fail
                (with_reducible refine (G4.out _ _ (R0.out.below V1.out)).mono ?_)
                rintro e wB ⟨Bl, ml, cl, rfl, hi, hb⟩
                have qb := below_one wB (.cells #[.int .i64 o1, .int .i64 o2, .int .i64 ov, .slice Bl ml cl] 26)
                have V2 := Lib.hid (below_after (below_after V1.out hb (Nat.le_refl _)) qb (Nat.le_refl _))
                have NA2 := Lib.hid ((NA.out.below hb).below qb)
                have NB := Lib.hid ((ownsI_ids hi).below qb)
                have WA2 := Lib.hid (wbox_below (wbox_below WA.out hb) qb)
                have WB := Lib.hid (wbox_new wB o1 o2 ov (.slice Bl ml cl))
                have AR2 := Lib.hid (box_below XA.out V2.out)
                have XR2 := Lib.hid (wbox_below X1.out V2.out)
                clear hi hb qb t1 t2
                go_upto_region 25 with fail
                generalize wB.alloc (.cells #[.int .i64 o1, .int .i64 o2, .int .i64 ov, .slice Bl ml cl] 26) = wz at *
                have HF := Lib.hid fun W (hb : Below wz.heap.size wz W) => And.intro (wbox_cells (wbox_below WA2.out hb)) (And.intro (wbox_cells (wbox_below WB.out hb)) (And.intro (box_cells (box_below AR2.out hb)) (And.intro (wbox_cells (wbox_below XR2.out hb)).2.2.2 (Lib.hid hb))))
                have HSM := Lib.hid (show Small [((o1, o2), ov, NN)] from ⟨by simp, fun r hr => by rw [List.mem_singleton.1 hr]; have := HNO.out; show NN.length ≤ 20000; omega⟩)
                have HSAME : Hid (∀ W v, Ids W v (setOf M1) → Ids W (.slice D1 m1 d1) M1 → Calls Try.prog 18 #[v, .slice D1 m1 d1] W fun e w' => e = .returned (.bool true) ∧ Below W.heap.size W w') := Lib.hid fun W v h k => by
                  have := refSame_any v (.slice D1 m1 d1) (setOf M1) M1 W h k (by have := setOf_len M1; have := HN1.out; omega) (by have := HN1.out; omega)
                  rw [setOf_setOf, show sameB (setOf M1) (setOf M1) = true from decide_eq_true rfl] at this
                  exact this
                refine wp_region_held_drew (S := fun w' => (w'.cell? ⟨wA.heap.size, 0, none⟩ = some (.int .i64 o1) ∧ w'.cell? ⟨wA.heap.size, 1, none⟩ = some (.int .i64 o2) ∧ w'.cell? ⟨wA.heap.size, 2, none⟩ = some (.int .i64 ov) ∧ w'.cell? ⟨wA.heap.size, 3, none⟩ = some (.slice Bs ms cs)) ∧ (w'.cell? ⟨wB.heap.size, 0, none⟩ = some (.int .i64 o1) ∧ w'.cell? ⟨wB.heap.size, 1, none⟩ = some (.int .i64 o2) ∧ w'.cell? ⟨wB.heap.size, 2, none⟩ = some (.int .i64 ov) ∧ w'.cell? ⟨wB.heap.size, 3, none⟩ = some (.slice Bl ml cl)) ∧ (w'.cell? ⟨w.heap.size, 0, none⟩ = some (.int .i64 x) ∧ w'.cell? ⟨w.heap.size, 1, none⟩ = some (.int .i64 y)) ∧ w'.cell? ⟨w6.heap.size, 3, none⟩ = some (.slice D1 m1 d1) ∧ Hid (Below wz.heap.size wz w')) (by kernel_rfl) ?_ (fun hHeld => ?_)
                · exact HF.out _ (Below.drew (Below.refl _ _))
                (refine wpAnyH_take (i := 0) (oi := ⟨_, _, _, _, _, _⟩) (v := ?_) rfl (by kernel_rfl) (by kernel_rfl) (by kernel_rfl) (fun _ _ _ h => h) (Or.inl ⟨by rfl, ?_⟩) (by assumption) ?_; rotate_left 1; · (intro w hSw; (try dsimp only at hSw); go_simp; all_goals with_reducible rfl))
                try simp only [Act.put, List.setIfInBounds_toArray, List.set_cons_zero, List.set_cons_succ]
                (refine wpAnyH_take (i := 1) (oi := ⟨_, _, _, _, _, _⟩) (v := ?_) rfl (by kernel_rfl) (by kernel_rfl) (by kernel_rfl) (fun _ _ _ h => h) (Or.inl ⟨by rfl, ?_⟩) (by assumption) ?_; rotate_left 1; · (intro w hSw; (try dsimp only at hSw); go_simp; all_goals with_reducible rfl))
                try simp only [Act.put, List.setIfInBounds_toArray, List.set_cons_zero, List.set_cons_succ]
                (refine wpAnyH_take (i := 2) (oi := ⟨_, _, _, _, _, _⟩) (v := ?_) rfl (by kernel_rfl) (by kernel_rfl) (by kernel_rfl) (fun _ _ _ h => h) (Or.inl ⟨by rfl, ?_⟩) (by assumption) ?_; rotate_left 1; · (intro w hSw; (try dsimp only at hSw); go_simp; all_goals with_reducible rfl))
                try simp only [Act.put, List.setIfInBounds_toArray, List.set_cons_zero, List.set_cons_succ]
                (refine wpAnyH_take (i := 3) (oi := ⟨_, _, _, _, _, _⟩) (v := ?_) rfl (by kernel_rfl) (by kernel_rfl) (by kernel_rfl) (fun _ _ _ h => h) (Or.inl ⟨by rfl, ?_⟩) (by assumption) ?_; rotate_left 1; · (intro w hSw; (try dsimp only at hSw); go_simp; all_goals with_reducible rfl))
                try simp only [Act.put, List.setIfInBounds_toArray, List.set_cons_zero, List.set_cons_succ]
                first | (refine wpAnyH_take (i := 4) (oi := ⟨_, _, _, _, _, _⟩) (v := ?_) rfl (by kernel_rfl) (by kernel_rfl) (by kernel_rfl) (fun _ _ _ h => h) (Or.inl ⟨by rfl, ?_⟩) (by assumption) ?_; rotate_left 1; · (intro w hSw; (try dsimp only at hSw); go_simp; all_goals with_reducible rfl)) | refine wpAnyH_take (i := 4) (oi := ⟨_, _, _, _, _, _⟩) (v := undef) rfl (by kernel_rfl) (by kernel_rfl) (by kernel_rfl) (fun _ _ _ h => h) (Or.inr ⟨by kernel_rfl, rfl⟩) (by assumption) ?_
                try simp only [Act.put, List.setIfInBounds_toArray, List.set_cons_zero, List.set_cons_succ]
                first | (refine wpAnyH_take (i := 6) (oi := ⟨_, _, _, _, _, _⟩) (v := ?_) rfl (by kernel_rfl) (by kernel_rfl) (by kernel_rfl) (fun _ _ _ h => h) (Or.inl ⟨by rfl, ?_⟩) (by assumption) ?_; rotate_left 1; · (intro w hSw; (try dsimp only at hSw); go_simp; all_goals with_reducible rfl)) | refine wpAnyH_take (i := 6) (oi := ⟨_, _, _, _, _, _⟩) (v := undef) rfl (by kernel_rfl) (by kernel_rfl) (by kernel_rfl) (fun _ _ _ h => h) (Or.inr ⟨by kernel_rfl, rfl⟩) (by assumption) ?_
                try simp only [Act.put, List.setIfInBounds_toArray, List.set_cons_zero, List.set_cons_succ]
                refine wpAnyH_ready (rs := [5, 7]) (by kernel_rfl) (by simp) ?_
                refine AllReadyH.cons (o := ⟨_, _, _, _, _, _⟩) rfl (fun Kq hKq => ?_) (AllReadyH.cons (o := ⟨_, _, _, _, _, _⟩) rfl (fun Kq hKq => ?_) (AllReadyH.nil))
                · go_simp
                  clear hHeld
                  have PF := Lib.hid (show Below wz.heap.size wz (wz.alloc (.cells #[.int .i64 o1, .int .i64 o2, .int .i64 ov, .slice Bs ms cs] 26)).drew from Below.drew (below_one wz (.cells #[.int .i64 o1, .int .i64 o2, .int .i64 ov, .slice Bs ms cs] 26)))
                  refine hKq.out _ _ ?_ (fun hHeld => ?_)
                  · (try dsimp only); exact HF.out _ PF.out
                  clear hKq Kq
                  try simp only [Act.put, List.setIfInBounds_toArray, List.set_cons_zero, List.set_cons_succ]
                  refine wpAnyH_ready (rs := [7]) (by kernel_rfl) (by simp) ?_
                  refine AllReadyH.cons (o := ⟨_, _, _, _, _, _⟩) rfl (fun Kq hKq => ?_) (AllReadyH.nil)
                  go_simp
                  clear hHeld
                  have TL := Lib.hid (two_lits wz o1 o2 ov Bs ms cs Bl ml cl NN NA2.out NB.out)
                  refine hKq.out _ _ ?_ (fun hHeld => ?_)
                  · (try dsimp only); exact HF.out _ TL.out.2.2
                  clear hKq Kq
                  try simp only [Act.put, List.setIfInBounds_toArray, List.set_cons_zero, List.set_cons_succ]
                  refine wpAnyH_ready (rs := [8]) (by kernel_rfl) (by simp) ?_
                  refine AllReadyH.cons (o := ⟨_, _, _, _, _, _⟩) rfl (fun Kq hKq => ?_) (AllReadyH.nil)
                  go_simp
                  clear hHeld
                  go_at_call 13; (with_reducible refine (sameRows_any _ _ [((o1, o2), ov, NN)] _ TL.out.1 TL.out.2.1 HSM.out).mono ?_); rintro e wD ⟨rfl, hb⟩; have P8 := Lib.hid (below_after TL.out.2.2 hb (Nat.le_refl _)); clear hb
                  refine hKq.out _ _ ?_ (fun hHeld => ?_)
                  · (try dsimp only); exact HF.out _ P8.out
                  clear hKq Kq
                  try simp only [Act.put, List.setIfInBounds_toArray, List.set_cons_zero, List.set_cons_succ]
                  (refine wpAnyH_take (i := 9) (oi := ⟨_, _, _, _, _, _⟩) (v := ?_) rfl (by kernel_rfl) (by kernel_rfl) (by kernel_rfl) (fun _ _ _ h => h) (Or.inl ⟨by rfl, ?_⟩) (by assumption) ?_; rotate_left 1; · (intro w hSw; (try dsimp only at hSw); go_simp; all_goals with_reducible rfl))
                  try simp only [Act.put, List.setIfInBounds_toArray, List.set_cons_zero, List.set_cons_succ]
                  (refine wpAnyH_take (i := 10) (oi := ⟨_, _, _, _, _, _⟩) (v := ?_) rfl (by kernel_rfl) (by kernel_rfl) (by kernel_rfl) (fun _ _ _ h => h) (Or.inl ⟨by rfl, ?_⟩) (by assumption) ?_; rotate_left 1; · (intro w hSw; (try dsimp only at hSw); go_simp; all_goals with_reducible rfl))
                  try simp only [Act.put, List.setIfInBounds_toArray, List.set_cons_zero, List.set_cons_succ]
                  first | (refine wpAnyH_take (i := 11) (oi := ⟨_, _, _, _, _, _⟩) (v := ?_) rfl (by kernel_rfl) (by kernel_rfl) (by kernel_rfl) (fun _ _ _ h => h) (Or.inl ⟨by rfl, ?_⟩) (by assumption) ?_; rotate_left 1; · (intro w hSw; (try dsimp only at hSw); go_simp; all_goals with_reducible rfl)) | refine wpAnyH_take (i := 11) (oi := ⟨_, _, _, _, _, _⟩) (v := undef) rfl (by kernel_rfl) (by kernel_rfl) (by kernel_rfl) (fun _ _ _ h => h) (Or.inr ⟨by kernel_rfl, rfl⟩) (by assumption) ?_
                  try simp only [Act.put, List.setIfInBounds_toArray, List.set_cons_zero, List.set_cons_succ]
                  first | (refine wpAnyH_take (i := 12) (oi := ⟨_, _, _, _, _, _⟩) (v := ?_) rfl (by kernel_rfl) (by kernel_rfl) (by kernel_rfl) (fun _ _ _ h => h) (Or.inl ⟨by rfl, ?_⟩) (by assumption) ?_; rotate_left 1; · (intro w hSw; (try dsimp only at hSw); go_simp; all_goals with_reducible rfl)) | refine wpAnyH_take (i := 12) (oi := ⟨_, _, _, _, _, _⟩) (v := undef) rfl (by kernel_rfl) (by kernel_rfl) (by kernel_rfl) (fun _ _ _ h => h) (Or.inr ⟨by kernel_rfl, rfl⟩) (by assumption) ?_
                  try simp only [Act.put, List.setIfInBounds_toArray, List.set_cons_zero, List.set_cons_succ]
                  first | (refine wpAnyH_take (i := 15) (oi := ⟨_, _, _, _, _, _⟩) (v := ?_) rfl (by kernel_rfl) (by kernel_rfl) (by kernel_rfl) (fun _ _ _ h => h) (Or.inl ⟨by rfl, ?_⟩) (by assumption) ?_; rotate_left 1; · (intro w hSw; (try dsimp only at hSw); go_simp; all_goals with_reducible rfl)) | refine wpAnyH_take (i := 15) (oi := ⟨_, _, _, _, _, _⟩) (v := undef) rfl (by kernel_rfl) (by kernel_rfl) (by kernel_rfl) (fun _ _ _ h => h) (Or.inr ⟨by kernel_rfl, rfl⟩) (by assumption) ?_
                  try simp only [Act.put, List.setIfInBounds_toArray, List.set_cons_zero, List.set_cons_succ]
                  first | (refine wpAnyH_take (i := 16) (oi := ⟨_, _, _, _, _, _⟩) (v := ?_) rfl (by kernel_rfl) (by kernel_rfl) (by kernel_rfl) (fun _ _ _ h => h) (Or.inl ⟨by rfl, ?_⟩) (by assumption) ?_; rotate_left 1; · (intro w hSw; (try dsimp only at hSw); go_simp; all_goals with_reducible rfl)) | refine wpAnyH_take (i := 16) (oi := ⟨_, _, _, _, _, _⟩) (v := undef) rfl (by kernel_rfl) (by kernel_rfl) (by kernel_rfl) (fun _ _ _ h => h) (Or.inr ⟨by kernel_rfl, rfl⟩) (by assumption) ?_
                  try simp only [Act.put, List.setIfInBounds_toArray, List.set_cons_zero, List.set_cons_succ]
                  refine wpAnyH_ready (rs := [13]) (by kernel_rfl) (by simp) ?_
                  refine AllReadyH.cons (o := ⟨_, _, _, _, _, _⟩) rfl (fun Kq hKq => ?_) (AllReadyH.nil)
                  go_simp
                  clear hHeld
                  have P13 := Lib.hid (below_after P8.out (below_one wD (.cells #[.int .i64 x, .int .i64 y] 23)) (Nat.le_refl _))
                  refine hKq.out _ _ ?_ (fun hHeld => ?_)
                  · (try dsimp only); exact HF.out _ P13.out
                  clear hKq Kq
                  try simp only [Act.put, List.setIfInBounds_toArray, List.set_cons_zero, List.set_cons_succ]
                  refine wpAnyH_ready (rs := [14]) (by kernel_rfl) (by simp) ?_
                  refine AllReadyH.cons (o := ⟨_, _, _, _, _, _⟩) rfl (fun Kq hKq => ?_) (AllReadyH.nil)
                  go_simp
                  clear hHeld
                  go_at_call 19; (with_reducible refine (HNT.out _ _ _ (RS.out.below (below_after V2.out P13.out (Nat.le_refl _))) (ids_one wD x y)).mono ?_); rintro e wE ⟨vn, rfl, hi, hb⟩; have P14 := Lib.hid (below_after P13.out hb (Nat.le_refl _)); have NE := Lib.hid (ownsI_ids (ownsI_of hi)); clear hi hb
                  refine hKq.out _ _ ?_ (fun hHeld => ?_)
                  · (try dsimp only); exact HF.out _ P14.out
                  clear hKq Kq
                  try simp only [Act.put, List.setIfInBounds_toArray, List.set_cons_zero, List.set_cons_succ]
                  refine wpAnyH_ready (rs := [17]) (by kernel_rfl) (by simp) ?_
                  refine AllReadyH.cons (o := ⟨_, _, _, _, _, _⟩) rfl (fun Kq hKq => ?_) (AllReadyH.nil)
                  go_simp
                  clear hHeld
                  go_at_call 18; (with_reducible refine (HSAME.out _ _ NE.out (N10.out.below (below_after V2.out P14.out (Nat.le_refl _)))).mono ?_); rintro e wF ⟨rfl, hb⟩; have P17 := Lib.hid (below_after P14.out hb (Nat.le_refl _)); clear hb
                  refine hKq.out _ _ ?_ (fun hHeld => ?_)
                  · (try dsimp only); exact HF.out _ P17.out
                  clear hKq Kq
                  try simp only [Act.put, List.setIfInBounds_toArray, List.set_cons_zero, List.set_cons_succ]
                  (refine wpAnyH_take (i := 18) (oi := ⟨_, _, _, _, _, _⟩) (v := ?_) rfl (by kernel_rfl) (by kernel_rfl) (by kernel_rfl) (fun _ _ _ h => h) (Or.inl ⟨by rfl, ?_⟩) (by assumption) ?_; rotate_left 1; · (intro w hSw; (try dsimp only at hSw); go_simp; all_goals with_reducible rfl))
                  try simp only [Act.put, List.setIfInBounds_toArray, List.set_cons_zero, List.set_cons_succ]
                  (refine wpAnyH_take (i := 19) (oi := ⟨_, _, _, _, _, _⟩) (v := ?_) rfl (by kernel_rfl) (by kernel_rfl) (by kernel_rfl) (fun _ _ _ h => h) (Or.inl ⟨by rfl, ?_⟩) (by assumption) ?_; rotate_left 1; · (intro w hSw; (try dsimp only at hSw); go_simp; all_goals with_reducible rfl))
                  try simp only [Act.put, List.setIfInBounds_toArray, List.set_cons_zero, List.set_cons_succ]
                  refine wpAnyH_done (by kernel_rfl) ?_ _
                  go_wp2_with fail
                  go_ret
                  exact ⟨rfl, below_after (below_after BB.out V2.out (Nat.le_refl _)) P17.out (Nat.le_refl _)⟩
                · go_simp
                  clear hHeld
                  have PF := Lib.hid (show Below wz.heap.size wz (wz.alloc (.cells #[.int .i64 o1, .int .i64 o2, .int .i64 ov, .slice Bl ml cl] 26)).drew from Below.drew (below_one wz (.cells #[.int .i64 o1, .int .i64 o2, .int .i64 ov, .slice Bl ml cl] 26)))
                  refine hKq.out _ _ ?_ (fun hHeld => ?_)
                  · (try dsimp only); exact HF.out _ PF.out
                  clear hKq Kq
                  try simp only [Act.put, List.setIfInBounds_toArray, List.set_cons_zero, List.set_cons_succ]
                  refine wpAnyH_ready (rs := [5]) (by kernel_rfl) (by simp) ?_
                  refine AllReadyH.cons (o := ⟨_, _, _, _, _, _⟩) rfl (fun Kq hKq => ?_) (AllReadyH.nil)
                  go_simp
                  clear hHeld
                  have TL := Lib.hid (two_lits wz o1 o2 ov Bl ml cl Bs ms cs NN NB.out NA2.out)
                  refine hKq.out _ _ ?_ (fun hHeld => ?_)
                  · (try dsimp only); exact HF.out _ TL.out.2.2
                  clear hKq Kq
                  try simp only [Act.put, List.setIfInBounds_toArray, List.set_cons_zero, List.set_cons_succ]
                  refine wpAnyH_ready (rs := [8]) (by kernel_rfl) (by simp) ?_
                  refine AllReadyH.cons (o := ⟨_, _, _, _, _, _⟩) rfl (fun Kq hKq => ?_) (AllReadyH.nil)
                  go_simp
                  clear hHeld
                  go_at_call 13; (with_reducible refine (sameRows_any _ _ [((o1, o2), ov, NN)] _ TL.out.2.1 TL.out.1 HSM.out).mono ?_); rintro e wD ⟨rfl, hb⟩; have P8 := Lib.hid (below_after TL.out.2.2 hb (Nat.le_refl _)); clear hb
                  refine hKq.out _ _ ?_ (fun hHeld => ?_)
                  · (try dsimp only); exact HF.out _ P8.out
                  clear hKq Kq
                  try simp only [Act.put, List.setIfInBounds_toArray, List.set_cons_zero, List.set_cons_succ]
                  (refine wpAnyH_take (i := 9) (oi := ⟨_, _, _, _, _, _⟩) (v := ?_) rfl (by kernel_rfl) (by kernel_rfl) (by kernel_rfl) (fun _ _ _ h => h) (Or.inl ⟨by rfl, ?_⟩) (by assumption) ?_; rotate_left 1; · (intro w hSw; (try dsimp only at hSw); go_simp; all_goals with_reducible rfl))
                  try simp only [Act.put, List.setIfInBounds_toArray, List.set_cons_zero, List.set_cons_succ]
                  (refine wpAnyH_take (i := 10) (oi := ⟨_, _, _, _, _, _⟩) (v := ?_) rfl (by kernel_rfl) (by kernel_rfl) (by kernel_rfl) (fun _ _ _ h => h) (Or.inl ⟨by rfl, ?_⟩) (by assumption) ?_; rotate_left 1; · (intro w hSw; (try dsimp only at hSw); go_simp; all_goals with_reducible rfl))
                  try simp only [Act.put, List.setIfInBounds_toArray, List.set_cons_zero, List.set_cons_succ]
                  first | (refine wpAnyH_take (i := 11) (oi := ⟨_, _, _, _, _, _⟩) (v := ?_) rfl (by kernel_rfl) (by kernel_rfl) (by kernel_rfl) (fun _ _ _ h => h) (Or.inl ⟨by rfl, ?_⟩) (by assumption) ?_; rotate_left 1; · (intro w hSw; (try dsimp only at hSw); go_simp; all_goals with_reducible rfl)) | refine wpAnyH_take (i := 11) (oi := ⟨_, _, _, _, _, _⟩) (v := undef) rfl (by kernel_rfl) (by kernel_rfl) (by kernel_rfl) (fun _ _ _ h => h) (Or.inr ⟨by kernel_rfl, rfl⟩) (by assumption) ?_
                  try simp only [Act.put, List.setIfInBounds_toArray, List.set_cons_zero, List.set_cons_succ]
                  first | (refine wpAnyH_take (i := 12) (oi := ⟨_, _, _, _, _, _⟩) (v := ?_) rfl (by kernel_rfl) (by kernel_rfl) (by kernel_rfl) (fun _ _ _ h => h) (Or.inl ⟨by rfl, ?_⟩) (by assumption) ?_; rotate_left 1; · (intro w hSw; (try dsimp only at hSw); go_simp; all_goals with_reducible rfl)) | refine wpAnyH_take (i := 12) (oi := ⟨_, _, _, _, _, _⟩) (v := undef) rfl (by kernel_rfl) (by kernel_rfl) (by kernel_rfl) (fun _ _ _ h => h) (Or.inr ⟨by kernel_rfl, rfl⟩) (by assumption) ?_
                  try simp only [Act.put, List.setIfInBounds_toArray, List.set_cons_zero, List.set_cons_succ]
                  first | (refine wpAnyH_take (i := 15) (oi := ⟨_, _, _, _, _, _⟩) (v := ?_) rfl (by kernel_rfl) (by kernel_rfl) (by kernel_rfl) (fun _ _ _ h => h) (Or.inl ⟨by rfl, ?_⟩) (by assumption) ?_; rotate_left 1; · (intro w hSw; (try dsimp only at hSw); go_simp; all_goals with_reducible rfl)) | refine wpAnyH_take (i := 15) (oi := ⟨_, _, _, _, _, _⟩) (v := undef) rfl (by kernel_rfl) (by kernel_rfl) (by kernel_rfl) (fun _ _ _ h => h) (Or.inr ⟨by kernel_rfl, rfl⟩) (by assumption) ?_
                  try simp only [Act.put, List.setIfInBounds_toArray, List.set_cons_zero, List.set_cons_succ]
                  first | (refine wpAnyH_take (i := 16) (oi := ⟨_, _, _, _, _, _⟩) (v := ?_) rfl (by kernel_rfl) (by kernel_rfl) (by kernel_rfl) (fun _ _ _ h => h) (Or.inl ⟨by rfl, ?_⟩) (by assumption) ?_; rotate_left 1; · (intro w hSw; (try dsimp only at hSw); go_simp; all_goals with_reducible rfl)) | refine wpAnyH_take (i := 16) (oi := ⟨_, _, _, _, _, _⟩) (v := undef) rfl (by kernel_rfl) (by kernel_rfl) (by kernel_rfl) (fun _ _ _ h => h) (Or.inr ⟨by kernel_rfl, rfl⟩) (by assumption) ?_
                  try simp only [Act.put, List.setIfInBounds_toArray, List.set_cons_zero, List.set_cons_succ]
                  refine wpAnyH_ready (rs := [13]) (by kernel_rfl) (by simp) ?_
                  refine AllReadyH.cons (o := ⟨_, _, _, _, _, _⟩) rfl (fun Kq hKq => ?_) (AllReadyH.nil)
                  go_simp
                  clear hHeld
                  have P13 := Lib.hid (below_after P8.out (below_one wD (.cells #[.int .i64 x, .int .i64 y] 23)) (Nat.le_refl _))
                  refine hKq.out _ _ ?_ (fun hHeld => ?_)
                  · (try dsimp only); exact HF.out _ P13.out
                  clear hKq Kq
                  try simp only [Act.put, List.setIfInBounds_toArray, List.set_cons_zero, List.set_cons_succ]
                  refine wpAnyH_ready (rs := [14]) (by kernel_rfl) (by simp) ?_
                  refine AllReadyH.cons (o := ⟨_, _, _, _, _, _⟩) rfl (fun Kq hKq => ?_) (AllReadyH.nil)
                  go_simp
                  clear hHeld
                  go_at_call 19; (with_reducible refine (HNT.out _ _ _ (RS.out.below (below_after V2.out P13.out (Nat.le_refl _))) (ids_one wD x y)).mono ?_); rintro e wE ⟨vn, rfl, hi, hb⟩; have P14 := Lib.hid (below_after P13.out hb (Nat.le_refl _)); have NE := Lib.hid (ownsI_ids (ownsI_of hi)); clear hi hb
                  refine hKq.out _ _ ?_ (fun hHeld => ?_)
                  · (try dsimp only); exact HF.out _ P14.out
                  clear hKq Kq
                  try simp only [Act.put, List.setIfInBounds_toArray, List.set_cons_zero, List.set_cons_succ]
                  refine wpAnyH_ready (rs := [17]) (by kernel_rfl) (by simp) ?_
                  refine AllReadyH.cons (o := ⟨_, _, _, _, _, _⟩) rfl (fun Kq hKq => ?_) (AllReadyH.nil)
                  go_simp
                  clear hHeld
                  go_at_call 18; (with_reducible refine (HSAME.out _ _ NE.out (N10.out.below (below_after V2.out P14.out (Nat.le_refl _)))).mono ?_); rintro e wF ⟨rfl, hb⟩; have P17 := Lib.hid (below_after P14.out hb (Nat.le_refl _)); clear hb
                  refine hKq.out _ _ ?_ (fun hHeld => ?_)
                  · (try dsimp only); exact HF.out _ P17.out
                  clear hKq Kq
                  try simp only [Act.put, List.setIfInBounds_toArray, List.set_cons_zero, List.set_cons_succ]
                  (refine wpAnyH_take (i := 18) (oi := ⟨_, _, _, _, _, _⟩) (v := ?_) rfl (by kernel_rfl) (by kernel_rfl) (by kernel_rfl) (fun _ _ _ h => h) (Or.inl ⟨by rfl, ?_⟩) (by assumption) ?_; rotate_left 1; · (intro w hSw; (try dsimp only at hSw); go_simp; all_goals with_reducible rfl))
                  try simp only [Act.put, List.setIfInBounds_toArray, List.set_cons_zero, List.set_cons_succ]
                  (refine wpAnyH_take (i := 19) (oi := ⟨_, _, _, _, _, _⟩) (v := ?_) rfl (by kernel_rfl) (by kernel_rfl) (by kernel_rfl) (fun _ _ _ h => h) (Or.inl ⟨by rfl, ?_⟩) (by assumption) ?_; rotate_left 1; · (intro w hSw; (try dsimp only at hSw); go_simp; all_goals with_reducible rfl))
                  try simp only [Act.put, List.setIfInBounds_toArray, List.set_cons_zero, List.set_cons_succ]
                  refine wpAnyH_done (by kernel_rfl) ?_ _
                  go_wp2_with fail
                  go_ret
                  exact ⟨rfl, below_after (below_after BB.out V2.out (Nat.le_refl _)) P17.out (Nat.le_refl _)⟩
            · have hu1 : (p == x) = false := by simpa using e1
              have hu2 : (p != x) = true := by simpa using e1
              have HO := Lib.hid (F8.out (fun h => e1 (congrArg Prod.fst h)))
              clear e1
              rw [HO.out] at G3
              clear HO F8
              generalize get l0 (p, q) = go at *
              generalize (ofI go (p, q)).1 = o1 at *
              generalize (ofI go (p, q)).2 = o2 at *
              generalize vers go = ov at *
              generalize go.isSome = K at *
              generalize nots go = NN at *
              go_wp2_with fail
              (with_reducible refine (G3.out _ _ (RS.out.below HW.out)).mono ?_)
              rintro e wA ⟨Bs, ms, cs, rfl, hi, hb⟩
              have qa := below_one wA (.cells #[.int .i64 o1, .int .i64 o2, .int .i64 ov, .slice Bs ms cs] 26)
              have V1 := Lib.hid (below_after (below_after HW.out hb (Nat.le_refl _)) qa (Nat.le_refl _))
              have NA := Lib.hid ((ownsI_ids hi).below qa)
              have WA := Lib.hid (wbox_new wA o1 o2 ov (.slice Bs ms cs))
              have CR1 := Lib.hid (box_below (box_below CR.out hb) qa)
              clear hi hb qa t1 t2 z1 z2 x4
              obtain ⟨t1, t2⟩ := box_cells CR1.out
              go_wp2_with fail
              (with_reducible refine (G4.out _ _ (R0.out.below V1.out)).mono ?_)
              rintro e wB ⟨Bl, ml, cl, rfl, hi, hb⟩
              have qb := below_one wB (.cells #[.int .i64 o1, .int .i64 o2, .int .i64 ov, .slice Bl ml cl] 26)
              have V2 := Lib.hid (below_after (below_after V1.out hb (Nat.le_refl _)) qb (Nat.le_refl _))
              have NA2 := Lib.hid ((NA.out.below hb).below qb)
              have NB := Lib.hid ((ownsI_ids hi).below qb)
              have WA2 := Lib.hid (wbox_below (wbox_below WA.out hb) qb)
              have WB := Lib.hid (wbox_new wB o1 o2 ov (.slice Bl ml cl))
              have AR2 := Lib.hid (box_below XA.out V2.out)
              have XR2 := Lib.hid (wbox_below X1.out V2.out)
              clear hi hb qb t1 t2
              go_upto_region 25 with fail
              generalize wB.alloc (.cells #[.int .i64 o1, .int .i64 o2, .int .i64 ov, .slice Bl ml cl] 26) = wz at *
              have HF := Lib.hid fun W (hb : Below wz.heap.size wz W) => And.intro (wbox_cells (wbox_below WA2.out hb)) (And.intro (wbox_cells (wbox_below WB.out hb)) (And.intro (box_cells (box_below AR2.out hb)) (And.intro (wbox_cells (wbox_below XR2.out hb)).2.2.2 (Lib.hid hb))))
              have HSM := Lib.hid (show Small [((o1, o2), ov, NN)] from ⟨by simp, fun r hr => by rw [List.mem_singleton.1 hr]; have := HNO.out; show NN.length ≤ 20000; omega⟩)
              have HSAME : Hid (∀ W v, Ids W v (setOf M1) → Ids W (.slice D1 m1 d1) M1 → Calls Try.prog 18 #[v, .slice D1 m1 d1] W fun e w' => e = .returned (.bool true) ∧ Below W.heap.size W w') := Lib.hid fun W v h k => by
                have := refSame_any v (.slice D1 m1 d1) (setOf M1) M1 W h k (by have := setOf_len M1; have := HN1.out; omega) (by have := HN1.out; omega)
                rw [setOf_setOf, show sameB (setOf M1) (setOf M1) = true from decide_eq_true rfl] at this
                exact this
              refine wp_region_held_drew (S := fun w' => (w'.cell? ⟨wA.heap.size, 0, none⟩ = some (.int .i64 o1) ∧ w'.cell? ⟨wA.heap.size, 1, none⟩ = some (.int .i64 o2) ∧ w'.cell? ⟨wA.heap.size, 2, none⟩ = some (.int .i64 ov) ∧ w'.cell? ⟨wA.heap.size, 3, none⟩ = some (.slice Bs ms cs)) ∧ (w'.cell? ⟨wB.heap.size, 0, none⟩ = some (.int .i64 o1) ∧ w'.cell? ⟨wB.heap.size, 1, none⟩ = some (.int .i64 o2) ∧ w'.cell? ⟨wB.heap.size, 2, none⟩ = some (.int .i64 ov) ∧ w'.cell? ⟨wB.heap.size, 3, none⟩ = some (.slice Bl ml cl)) ∧ (w'.cell? ⟨w.heap.size, 0, none⟩ = some (.int .i64 x) ∧ w'.cell? ⟨w.heap.size, 1, none⟩ = some (.int .i64 y)) ∧ w'.cell? ⟨w6.heap.size, 3, none⟩ = some (.slice D1 m1 d1) ∧ Hid (Below wz.heap.size wz w')) (by kernel_rfl) ?_ (fun hHeld => ?_)
              · exact HF.out _ (Below.drew (Below.refl _ _))
              (refine wpAnyH_take (i := 0) (oi := ⟨_, _, _, _, _, _⟩) (v := ?_) rfl (by kernel_rfl) (by kernel_rfl) (by kernel_rfl) (fun _ _ _ h => h) (Or.inl ⟨by rfl, ?_⟩) (by assumption) ?_; rotate_left 1; · (intro w hSw; (try dsimp only at hSw); go_simp; all_goals with_reducible rfl))
              try simp only [Act.put, List.setIfInBounds_toArray, List.set_cons_zero, List.set_cons_succ]
              (refine wpAnyH_take (i := 1) (oi := ⟨_, _, _, _, _, _⟩) (v := ?_) rfl (by kernel_rfl) (by kernel_rfl) (by kernel_rfl) (fun _ _ _ h => h) (Or.inl ⟨by rfl, ?_⟩) (by assumption) ?_; rotate_left 1; · (intro w hSw; (try dsimp only at hSw); go_simp; all_goals with_reducible rfl))
              try simp only [Act.put, List.setIfInBounds_toArray, List.set_cons_zero, List.set_cons_succ]
              (refine wpAnyH_take (i := 2) (oi := ⟨_, _, _, _, _, _⟩) (v := ?_) rfl (by kernel_rfl) (by kernel_rfl) (by kernel_rfl) (fun _ _ _ h => h) (Or.inl ⟨by rfl, ?_⟩) (by assumption) ?_; rotate_left 1; · (intro w hSw; (try dsimp only at hSw); go_simp; all_goals with_reducible rfl))
              try simp only [Act.put, List.setIfInBounds_toArray, List.set_cons_zero, List.set_cons_succ]
              (refine wpAnyH_take (i := 3) (oi := ⟨_, _, _, _, _, _⟩) (v := ?_) rfl (by kernel_rfl) (by kernel_rfl) (by kernel_rfl) (fun _ _ _ h => h) (Or.inl ⟨by rfl, ?_⟩) (by assumption) ?_; rotate_left 1; · (intro w hSw; (try dsimp only at hSw); go_simp; all_goals with_reducible rfl))
              try simp only [Act.put, List.setIfInBounds_toArray, List.set_cons_zero, List.set_cons_succ]
              first | (refine wpAnyH_take (i := 4) (oi := ⟨_, _, _, _, _, _⟩) (v := ?_) rfl (by kernel_rfl) (by kernel_rfl) (by kernel_rfl) (fun _ _ _ h => h) (Or.inl ⟨by rfl, ?_⟩) (by assumption) ?_; rotate_left 1; · (intro w hSw; (try dsimp only at hSw); go_simp; all_goals with_reducible rfl)) | refine wpAnyH_take (i := 4) (oi := ⟨_, _, _, _, _, _⟩) (v := undef) rfl (by kernel_rfl) (by kernel_rfl) (by kernel_rfl) (fun _ _ _ h => h) (Or.inr ⟨by kernel_rfl, rfl⟩) (by assumption) ?_
              try simp only [Act.put, List.setIfInBounds_toArray, List.set_cons_zero, List.set_cons_succ]
              first | (refine wpAnyH_take (i := 6) (oi := ⟨_, _, _, _, _, _⟩) (v := ?_) rfl (by kernel_rfl) (by kernel_rfl) (by kernel_rfl) (fun _ _ _ h => h) (Or.inl ⟨by rfl, ?_⟩) (by assumption) ?_; rotate_left 1; · (intro w hSw; (try dsimp only at hSw); go_simp; all_goals with_reducible rfl)) | refine wpAnyH_take (i := 6) (oi := ⟨_, _, _, _, _, _⟩) (v := undef) rfl (by kernel_rfl) (by kernel_rfl) (by kernel_rfl) (fun _ _ _ h => h) (Or.inr ⟨by kernel_rfl, rfl⟩) (by assumption) ?_
              try simp only [Act.put, List.setIfInBounds_toArray, List.set_cons_zero, List.set_cons_succ]
              refine wpAnyH_ready (rs := [5, 7]) (by kernel_rfl) (by simp) ?_
              refine AllReadyH.cons (o := ⟨_, _, _, _, _, _⟩) rfl (fun Kq hKq => ?_) (AllReadyH.cons (o := ⟨_, _, _, _, _, _⟩) rfl (fun Kq hKq => ?_) (AllReadyH.nil))
              · go_simp
                clear hHeld
                have PF := Lib.hid (show Below wz.heap.size wz (wz.alloc (.cells #[.int .i64 o1, .int .i64 o2, .int .i64 ov, .slice Bs ms cs] 26)).drew from Below.drew (below_one wz (.cells #[.int .i64 o1, .int .i64 o2, .int .i64 ov, .slice Bs ms cs] 26)))
                refine hKq.out _ _ ?_ (fun hHeld => ?_)
                · (try dsimp only); exact HF.out _ PF.out
                clear hKq Kq
                try simp only [Act.put, List.setIfInBounds_toArray, List.set_cons_zero, List.set_cons_succ]
                refine wpAnyH_ready (rs := [7]) (by kernel_rfl) (by simp) ?_
                refine AllReadyH.cons (o := ⟨_, _, _, _, _, _⟩) rfl (fun Kq hKq => ?_) (AllReadyH.nil)
                go_simp
                clear hHeld
                have TL := Lib.hid (two_lits wz o1 o2 ov Bs ms cs Bl ml cl NN NA2.out NB.out)
                refine hKq.out _ _ ?_ (fun hHeld => ?_)
                · (try dsimp only); exact HF.out _ TL.out.2.2
                clear hKq Kq
                try simp only [Act.put, List.setIfInBounds_toArray, List.set_cons_zero, List.set_cons_succ]
                refine wpAnyH_ready (rs := [8]) (by kernel_rfl) (by simp) ?_
                refine AllReadyH.cons (o := ⟨_, _, _, _, _, _⟩) rfl (fun Kq hKq => ?_) (AllReadyH.nil)
                go_simp
                clear hHeld
                go_at_call 13; (with_reducible refine (sameRows_any _ _ [((o1, o2), ov, NN)] _ TL.out.1 TL.out.2.1 HSM.out).mono ?_); rintro e wD ⟨rfl, hb⟩; have P8 := Lib.hid (below_after TL.out.2.2 hb (Nat.le_refl _)); clear hb
                refine hKq.out _ _ ?_ (fun hHeld => ?_)
                · (try dsimp only); exact HF.out _ P8.out
                clear hKq Kq
                try simp only [Act.put, List.setIfInBounds_toArray, List.set_cons_zero, List.set_cons_succ]
                (refine wpAnyH_take (i := 9) (oi := ⟨_, _, _, _, _, _⟩) (v := ?_) rfl (by kernel_rfl) (by kernel_rfl) (by kernel_rfl) (fun _ _ _ h => h) (Or.inl ⟨by rfl, ?_⟩) (by assumption) ?_; rotate_left 1; · (intro w hSw; (try dsimp only at hSw); go_simp; all_goals with_reducible rfl))
                try simp only [Act.put, List.setIfInBounds_toArray, List.set_cons_zero, List.set_cons_succ]
                (refine wpAnyH_take (i := 10) (oi := ⟨_, _, _, _, _, _⟩) (v := ?_) rfl (by kernel_rfl) (by kernel_rfl) (by kernel_rfl) (fun _ _ _ h => h) (Or.inl ⟨by rfl, ?_⟩) (by assumption) ?_; rotate_left 1; · (intro w hSw; (try dsimp only at hSw); go_simp; all_goals with_reducible rfl))
                try simp only [Act.put, List.setIfInBounds_toArray, List.set_cons_zero, List.set_cons_succ]
                first | (refine wpAnyH_take (i := 11) (oi := ⟨_, _, _, _, _, _⟩) (v := ?_) rfl (by kernel_rfl) (by kernel_rfl) (by kernel_rfl) (fun _ _ _ h => h) (Or.inl ⟨by rfl, ?_⟩) (by assumption) ?_; rotate_left 1; · (intro w hSw; (try dsimp only at hSw); go_simp; all_goals with_reducible rfl)) | refine wpAnyH_take (i := 11) (oi := ⟨_, _, _, _, _, _⟩) (v := undef) rfl (by kernel_rfl) (by kernel_rfl) (by kernel_rfl) (fun _ _ _ h => h) (Or.inr ⟨by kernel_rfl, rfl⟩) (by assumption) ?_
                try simp only [Act.put, List.setIfInBounds_toArray, List.set_cons_zero, List.set_cons_succ]
                first | (refine wpAnyH_take (i := 12) (oi := ⟨_, _, _, _, _, _⟩) (v := ?_) rfl (by kernel_rfl) (by kernel_rfl) (by kernel_rfl) (fun _ _ _ h => h) (Or.inl ⟨by rfl, ?_⟩) (by assumption) ?_; rotate_left 1; · (intro w hSw; (try dsimp only at hSw); go_simp; all_goals with_reducible rfl)) | refine wpAnyH_take (i := 12) (oi := ⟨_, _, _, _, _, _⟩) (v := undef) rfl (by kernel_rfl) (by kernel_rfl) (by kernel_rfl) (fun _ _ _ h => h) (Or.inr ⟨by kernel_rfl, rfl⟩) (by assumption) ?_
                try simp only [Act.put, List.setIfInBounds_toArray, List.set_cons_zero, List.set_cons_succ]
                first | (refine wpAnyH_take (i := 15) (oi := ⟨_, _, _, _, _, _⟩) (v := ?_) rfl (by kernel_rfl) (by kernel_rfl) (by kernel_rfl) (fun _ _ _ h => h) (Or.inl ⟨by rfl, ?_⟩) (by assumption) ?_; rotate_left 1; · (intro w hSw; (try dsimp only at hSw); go_simp; all_goals with_reducible rfl)) | refine wpAnyH_take (i := 15) (oi := ⟨_, _, _, _, _, _⟩) (v := undef) rfl (by kernel_rfl) (by kernel_rfl) (by kernel_rfl) (fun _ _ _ h => h) (Or.inr ⟨by kernel_rfl, rfl⟩) (by assumption) ?_
                try simp only [Act.put, List.setIfInBounds_toArray, List.set_cons_zero, List.set_cons_succ]
                first | (refine wpAnyH_take (i := 16) (oi := ⟨_, _, _, _, _, _⟩) (v := ?_) rfl (by kernel_rfl) (by kernel_rfl) (by kernel_rfl) (fun _ _ _ h => h) (Or.inl ⟨by rfl, ?_⟩) (by assumption) ?_; rotate_left 1; · (intro w hSw; (try dsimp only at hSw); go_simp; all_goals with_reducible rfl)) | refine wpAnyH_take (i := 16) (oi := ⟨_, _, _, _, _, _⟩) (v := undef) rfl (by kernel_rfl) (by kernel_rfl) (by kernel_rfl) (fun _ _ _ h => h) (Or.inr ⟨by kernel_rfl, rfl⟩) (by assumption) ?_
                try simp only [Act.put, List.setIfInBounds_toArray, List.set_cons_zero, List.set_cons_succ]
                refine wpAnyH_ready (rs := [13]) (by kernel_rfl) (by simp) ?_
                refine AllReadyH.cons (o := ⟨_, _, _, _, _, _⟩) rfl (fun Kq hKq => ?_) (AllReadyH.nil)
                go_simp
                clear hHeld
                have P13 := Lib.hid (below_after P8.out (below_one wD (.cells #[.int .i64 x, .int .i64 y] 23)) (Nat.le_refl _))
                refine hKq.out _ _ ?_ (fun hHeld => ?_)
                · (try dsimp only); exact HF.out _ P13.out
                clear hKq Kq
                try simp only [Act.put, List.setIfInBounds_toArray, List.set_cons_zero, List.set_cons_succ]
                refine wpAnyH_ready (rs := [14]) (by kernel_rfl) (by simp) ?_
                refine AllReadyH.cons (o := ⟨_, _, _, _, _, _⟩) rfl (fun Kq hKq => ?_) (AllReadyH.nil)
                go_simp
                clear hHeld
                go_at_call 19; (with_reducible refine (HNT.out _ _ _ (RS.out.below (below_after V2.out P13.out (Nat.le_refl _))) (ids_one wD x y)).mono ?_); rintro e wE ⟨vn, rfl, hi, hb⟩; have P14 := Lib.hid (below_after P13.out hb (Nat.le_refl _)); have NE := Lib.hid (ownsI_ids (ownsI_of hi)); clear hi hb
                refine hKq.out _ _ ?_ (fun hHeld => ?_)
                · (try dsimp only); exact HF.out _ P14.out
                clear hKq Kq
                try simp only [Act.put, List.setIfInBounds_toArray, List.set_cons_zero, List.set_cons_succ]
                refine wpAnyH_ready (rs := [17]) (by kernel_rfl) (by simp) ?_
                refine AllReadyH.cons (o := ⟨_, _, _, _, _, _⟩) rfl (fun Kq hKq => ?_) (AllReadyH.nil)
                go_simp
                clear hHeld
                go_at_call 18; (with_reducible refine (HSAME.out _ _ NE.out (N10.out.below (below_after V2.out P14.out (Nat.le_refl _)))).mono ?_); rintro e wF ⟨rfl, hb⟩; have P17 := Lib.hid (below_after P14.out hb (Nat.le_refl _)); clear hb
                refine hKq.out _ _ ?_ (fun hHeld => ?_)
                · (try dsimp only); exact HF.out _ P17.out
                clear hKq Kq
                try simp only [Act.put, List.setIfInBounds_toArray, List.set_cons_zero, List.set_cons_succ]
                (refine wpAnyH_take (i := 18) (oi := ⟨_, _, _, _, _, _⟩) (v := ?_) rfl (by kernel_rfl) (by kernel_rfl) (by kernel_rfl) (fun _ _ _ h => h) (Or.inl ⟨by rfl, ?_⟩) (by assumption) ?_; rotate_left 1; · (intro w hSw; (try dsimp only at hSw); go_simp; all_goals with_reducible rfl))
                try simp only [Act.put, List.setIfInBounds_toArray, List.set_cons_zero, List.set_cons_succ]
                (refine wpAnyH_take (i := 19) (oi := ⟨_, _, _, _, _, _⟩) (v := ?_) rfl (by kernel_rfl) (by kernel_rfl) (by kernel_rfl) (fun _ _ _ h => h) (Or.inl ⟨by rfl, ?_⟩) (by assumption) ?_; rotate_left 1; · (intro w hSw; (try dsimp only at hSw); go_simp; all_goals with_reducible rfl))
                try simp only [Act.put, List.setIfInBounds_toArray, List.set_cons_zero, List.set_cons_succ]
                refine wpAnyH_done (by kernel_rfl) ?_ _
                go_wp2_with fail
                go_ret
                exact ⟨rfl, below_after (below_after BB.out V2.out (Nat.le_refl _)) P17.out (Nat.le_refl _)⟩
              · go_simp
                clear hHeld
                have PF := Lib.hid (show Below wz.heap.size wz (wz.alloc (.cells #[.int .i64 o1, .int .i64 o2, .int .i64 ov, .slice Bl ml cl] 26)).drew from Below.drew (below_one wz (.cells #[.int .i64 o1, .int .i64 o2, .int .i64 ov, .slice Bl ml cl] 26)))
                refine hKq.out _ _ ?_ (fun hHeld => ?_)
                · (try dsimp only); exact HF.out _ PF.out
                clear hKq Kq
                try simp only [Act.put, List.setIfInBounds_toArray, List.set_cons_zero, List.set_cons_succ]
                refine wpAnyH_ready (rs := [5]) (by kernel_rfl) (by simp) ?_
                refine AllReadyH.cons (o := ⟨_, _, _, _, _, _⟩) rfl (fun Kq hKq => ?_) (AllReadyH.nil)
                go_simp
                clear hHeld
                have TL := Lib.hid (two_lits wz o1 o2 ov Bl ml cl Bs ms cs NN NB.out NA2.out)
                refine hKq.out _ _ ?_ (fun hHeld => ?_)
                · (try dsimp only); exact HF.out _ TL.out.2.2
                clear hKq Kq
                try simp only [Act.put, List.setIfInBounds_toArray, List.set_cons_zero, List.set_cons_succ]
                refine wpAnyH_ready (rs := [8]) (by kernel_rfl) (by simp) ?_
                refine AllReadyH.cons (o := ⟨_, _, _, _, _, _⟩) rfl (fun Kq hKq => ?_) (AllReadyH.nil)
                go_simp
                clear hHeld
                go_at_call 13; (with_reducible refine (sameRows_any _ _ [((o1, o2), ov, NN)] _ TL.out.2.1 TL.out.1 HSM.out).mono ?_); rintro e wD ⟨rfl, hb⟩; have P8 := Lib.hid (below_after TL.out.2.2 hb (Nat.le_refl _)); clear hb
                refine hKq.out _ _ ?_ (fun hHeld => ?_)
                · (try dsimp only); exact HF.out _ P8.out
                clear hKq Kq
                try simp only [Act.put, List.setIfInBounds_toArray, List.set_cons_zero, List.set_cons_succ]
                (refine wpAnyH_take (i := 9) (oi := ⟨_, _, _, _, _, _⟩) (v := ?_) rfl (by kernel_rfl) (by kernel_rfl) (by kernel_rfl) (fun _ _ _ h => h) (Or.inl ⟨by rfl, ?_⟩) (by assumption) ?_; rotate_left 1; · (intro w hSw; (try dsimp only at hSw); go_simp; all_goals with_reducible rfl))
                try simp only [Act.put, List.setIfInBounds_toArray, List.set_cons_zero, List.set_cons_succ]
                (refine wpAnyH_take (i := 10) (oi := ⟨_, _, _, _, _, _⟩) (v := ?_) rfl (by kernel_rfl) (by kernel_rfl) (by kernel_rfl) (fun _ _ _ h => h) (Or.inl ⟨by rfl, ?_⟩) (by assumption) ?_; rotate_left 1; · (intro w hSw; (try dsimp only at hSw); go_simp; all_goals with_reducible rfl))
                try simp only [Act.put, List.setIfInBounds_toArray, List.set_cons_zero, List.set_cons_succ]
                first | (refine wpAnyH_take (i := 11) (oi := ⟨_, _, _, _, _, _⟩) (v := ?_) rfl (by kernel_rfl) (by kernel_rfl) (by kernel_rfl) (fun _ _ _ h => h) (Or.inl ⟨by rfl, ?_⟩) (by assumption) ?_; rotate_left 1; · (intro w hSw; (try dsimp only at hSw); go_simp; all_goals with_reducible rfl)) | refine wpAnyH_take (i := 11) (oi := ⟨_, _, _, _, _, _⟩) (v := undef) rfl (by kernel_rfl) (by kernel_rfl) (by kernel_rfl) (fun _ _ _ h => h) (Or.inr ⟨by kernel_rfl, rfl⟩) (by assumption) ?_
                try simp only [Act.put, List.setIfInBounds_toArray, List.set_cons_zero, List.set_cons_succ]
                first | (refine wpAnyH_take (i := 12) (oi := ⟨_, _, _, _, _, _⟩) (v := ?_) rfl (by kernel_rfl) (by kernel_rfl) (by kernel_rfl) (fun _ _ _ h => h) (Or.inl ⟨by rfl, ?_⟩) (by assumption) ?_; rotate_left 1; · (intro w hSw; (try dsimp only at hSw); go_simp; all_goals with_reducible rfl)) | refine wpAnyH_take (i := 12) (oi := ⟨_, _, _, _, _, _⟩) (v := undef) rfl (by kernel_rfl) (by kernel_rfl) (by kernel_rfl) (fun _ _ _ h => h) (Or.inr ⟨by kernel_rfl, rfl⟩) (by assumption) ?_
                try simp only [Act.put, List.setIfInBounds_toArray, List.set_cons_zero, List.set_cons_succ]
                first | (refine wpAnyH_take (i := 15) (oi := ⟨_, _, _, _, _, _⟩) (v := ?_) rfl (by kernel_rfl) (by kernel_rfl) (by kernel_rfl) (fun _ _ _ h => h) (Or.inl ⟨by rfl, ?_⟩) (by assumption) ?_; rotate_left 1; · (intro w hSw; (try dsimp only at hSw); go_simp; all_goals with_reducible rfl)) | refine wpAnyH_take (i := 15) (oi := ⟨_, _, _, _, _, _⟩) (v := undef) rfl (by kernel_rfl) (by kernel_rfl) (by kernel_rfl) (fun _ _ _ h => h) (Or.inr ⟨by kernel_rfl, rfl⟩) (by assumption) ?_
                try simp only [Act.put, List.setIfInBounds_toArray, List.set_cons_zero, List.set_cons_succ]
                first | (refine wpAnyH_take (i := 16) (oi := ⟨_, _, _, _, _, _⟩) (v := ?_) rfl (by kernel_rfl) (by kernel_rfl) (by kernel_rfl) (fun _ _ _ h => h) (Or.inl ⟨by rfl, ?_⟩) (by assumption) ?_; rotate_left 1; · (intro w hSw; (try dsimp only at hSw); go_simp; all_goals with_reducible rfl)) | refine wpAnyH_take (i := 16) (oi := ⟨_, _, _, _, _, _⟩) (v := undef) rfl (by kernel_rfl) (by kernel_rfl) (by kernel_rfl) (fun _ _ _ h => h) (Or.inr ⟨by kernel_rfl, rfl⟩) (by assumption) ?_
                try simp only [Act.put, List.setIfInBounds_toArray, List.set_cons_zero, List.set_cons_succ]
                refine wpAnyH_ready (rs := [13]) (by kernel_rfl) (by simp) ?_
                refine AllReadyH.cons (o := ⟨_, _, _, _, _, _⟩) rfl (fun Kq hKq => ?_) (AllReadyH.nil)
                go_simp
                clear hHeld
                have P13 := Lib.hid (below_after P8.out (below_one wD (.cells #[.int .i64 x, .int .i64 y] 23)) (Nat.le_refl _))
                refine hKq.out _ _ ?_ (fun hHeld => ?_)
                · (try dsimp only); exact HF.out _ P13.out
                clear hKq Kq
                try simp only [Act.put, List.setIfInBounds_toArray, List.set_cons_zero, List.set_cons_succ]
                refine wpAnyH_ready (rs := [14]) (by kernel_rfl) (by simp) ?_
                refine AllReadyH.cons (o := ⟨_, _, _, _, _, _⟩) rfl (fun Kq hKq => ?_) (AllReadyH.nil)
                go_simp
                clear hHeld
                go_at_call 19; (with_reducible refine (HNT.out _ _ _ (RS.out.below (below_after V2.out P13.out (Nat.le_refl _))) (ids_one wD x y)).mono ?_); rintro e wE ⟨vn, rfl, hi, hb⟩; have P14 := Lib.hid (below_after P13.out hb (Nat.le_refl _)); have NE := Lib.hid (ownsI_ids (ownsI_of hi)); clear hi hb
                refine hKq.out _ _ ?_ (fun hHeld => ?_)
                · (try dsimp only); exact HF.out _ P14.out
                clear hKq Kq
                try simp only [Act.put, List.setIfInBounds_toArray, List.set_cons_zero, List.set_cons_succ]
                refine wpAnyH_ready (rs := [17]) (by kernel_rfl) (by simp) ?_
                refine AllReadyH.cons (o := ⟨_, _, _, _, _, _⟩) rfl (fun Kq hKq => ?_) (AllReadyH.nil)
                go_simp
                clear hHeld
                go_at_call 18; (with_reducible refine (HSAME.out _ _ NE.out (N10.out.below (below_after V2.out P14.out (Nat.le_refl _)))).mono ?_); rintro e wF ⟨rfl, hb⟩; have P17 := Lib.hid (below_after P14.out hb (Nat.le_refl _)); clear hb
                refine hKq.out _ _ ?_ (fun hHeld => ?_)
                · (try dsimp only); exact HF.out _ P17.out
                clear hKq Kq
                try simp only [Act.put, List.setIfInBounds_toArray, List.set_cons_zero, List.set_cons_succ]
                (refine wpAnyH_take (i := 18) (oi := ⟨_, _, _, _, _, _⟩) (v := ?_) rfl (by kernel_rfl) (by kernel_rfl) (by kernel_rfl) (fun _ _ _ h => h) (Or.inl ⟨by rfl, ?_⟩) (by assumption) ?_; rotate_left 1; · (intro w hSw; (try dsimp only at hSw); go_simp; all_goals with_reducible rfl))
                try simp only [Act.put, List.setIfInBounds_toArray, List.set_cons_zero, List.set_cons_succ]
                (refine wpAnyH_take (i := 19) (oi := ⟨_, _, _, _, _, _⟩) (v := ?_) rfl (by kernel_rfl) (by kernel_rfl) (by kernel_rfl) (fun _ _ _ h => h) (Or.inl ⟨by rfl, ?_⟩) (by assumption) ?_; rotate_left 1; · (intro w hSw; (try dsimp only at hSw); go_simp; all_goals with_reducible rfl))
                try simp only [Act.put, List.setIfInBounds_toArray, List.set_cons_zero, List.set_cons_succ]
                refine wpAnyH_done (by kernel_rfl) ?_ _
                go_wp2_with fail
                go_ret
                exact ⟨rfl, below_after (below_after BB.out V2.out (Nat.le_refl _)) P17.out (Nat.le_refl _)⟩
end Go.Proofs.Ytofanciaacdjfaa
