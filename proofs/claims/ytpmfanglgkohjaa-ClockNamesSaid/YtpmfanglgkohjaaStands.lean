/-
  PROVED HERE: for any three lists of ticks ClockStands of package coveylaw05 returns true and leaves its arguments as they were: Compare turned about turns behind and ahead; what is behind what is behind a clock is behind it; a clock that is behind another one, joined with it, is that one, if that may be. No condition.
-/
import Derived.Test.YtpmfanglgkohjaaOpen
namespace Go.Proofs.Ytpmfanglgkohjaa
open Go.RowKit Sets Clocks
theorem may_norm {l : List Tick} (h : mayB l = true) : Norm l := by
  unfold mayB at h
  rw [Bool.and_eq_true, Bool.and_eq_true, List.all_eq_true] at h
  refine ⟨(risesT_iff l).1 h.2.2, fun t ht => ?_⟩
  have h2 := h.2.1 t ht
  unfold okT at h2
  rw [Bool.and_eq_true, Bool.and_eq_true] at h2
  have := of_decide_eq_true h2.2.1
  omega
theorem same_self (l : List Tick) : sameT l l = true := decide_eq_true rfl
theorem stands_large (v0 v1 v2 : Value) (l0 l1 l2 : List Tick) (w : World) (h0 : Rcs encT 3 w v0 l0) (h1 : Rcs encT 3 w v1 l1) (h2 : Rcs encT 3 w v2 l2) (hl : decide (150 < l0.length ∨ 150 < l1.length ∨ 150 < l2.length) = true) :
    Calls Try.prog 6 #[v0, v1, v2] w fun e w' => e = .returned (.bool true) ∧ Below w.heap.size w w' := by
  have HL := Lib.hid hl
  have I0 := Lib.hid h0
  have I1 := Lib.hid h1
  have I2 := Lib.hid h2
  obtain ⟨A0, c0, rfl, hz0⟩ := h0
  obtain ⟨A1, c1, rfl, hz1⟩ := h1
  obtain ⟨A2, c2, rfl, hz2⟩ := h2
  clear hl hz0 hz1 hz2
  go_enter Try.func6, Try.ntmps6
  have B0 := Lib.hid (show Below w.heap.size w w from Below.refl _ _)
  go_wp2_with fail
  refine (works_any _).mono ?_
  rintro e w1 ⟨rfl, hb⟩
  have B1 := Lib.hid (below_after B0.out hb (Nat.le_refl _))
  clear hb
  go_wp2_with fail
  refine (large_lit3 _ _ _ l0 l1 l2 w1 w I0.out I1.out I2.out).mono ?_
  rw [HL.out]
  rintro e w2 ⟨rfl, hb⟩
  have B2 := Lib.hid (below_after B1.out hb (Nat.le_refl _))
  clear hb
  go_wp2_with fail
  refine (works_any _).mono ?_
  rintro e w3 ⟨rfl, hb⟩
  have B3 := Lib.hid (below_after B2.out hb (Nat.le_refl _))
  clear hb
  go_wp2_with fail
  go_ret
  exact ⟨rfl, B3.out⟩
set_option maxHeartbeats 4000000 in
set_option maxRecDepth 100000 in
theorem stands1 (v0 v1 v2 : Value) (l0 l1 l2 : List Tick) (w : World) (h0 : Rcs encT 3 w v0 l0) (h1 : Rcs encT 3 w v1 l1) (h2 : Rcs encT 3 w v2 l2) (hl : decide (150 < l0.length ∨ 150 < l1.length ∨ 150 < l2.length) = false)
    (hx : cmp l0 l1 = 1) (hy : cmp l1 l0 = 1)  : Calls Try.prog 6 #[v0, v1, v2] w fun e w' => e = .returned (.bool true) ∧ Below w.heap.size w w' := by
  have HL := Lib.hid hl
  have K := Lib.hid (show l0.length ≤ 150 ∧ l1.length ≤ 150 ∧ l2.length ≤ 150 by have := of_decide_eq_false hl; omega)
  have I0 := Lib.hid h0
  have I1 := Lib.hid h1
  have I2 := Lib.hid h2
  have EX := Lib.hid hx
  have EY := Lib.hid hy
  have ES := Lib.hid (cmp_self l0)
  have U := Lib.hid (join_len l0 l1)
  have EJ := Lib.hid (show cmp (joinC l0 l1) l1 = 1 from (join_same_iff l0 l1).1 (.inr hx))
  obtain ⟨A0, c0, rfl, hz0⟩ := h0
  obtain ⟨A1, c1, rfl, hz1⟩ := h1
  obtain ⟨A2, c2, rfl, hz2⟩ := h2
  clear hl hz0 hz1 hz2 hx hy
  go_enter Try.func6, Try.ntmps6
  have B0 := Lib.hid (show Below w.heap.size w w from Below.refl _ _)
  have J0 := Lib.hid I0.out
  have J1 := Lib.hid I1.out
  have J2 := Lib.hid I2.out
  go_wp2_with fail
  refine (works_any _).mono ?_
  rintro e w1 ⟨rfl, hb⟩
  have B1 := Lib.hid (below_after B0.out hb (Nat.le_refl _))
  have IL01 := Lib.hid (J0.out.below hb)
  have IL11 := Lib.hid (J1.out.below hb)
  have IL21 := Lib.hid (J2.out.below hb)
  clear hb
  go_wp2_with fail
  refine (large_lit3 _ _ _ l0 l1 l2 w1 w I0.out I1.out I2.out).mono ?_
  rw [HL.out]
  rintro e w2 ⟨rfl, hb⟩
  have B2 := Lib.hid (below_after B1.out hb (Nat.le_refl _))
  have IL02 := Lib.hid (IL01.out.below hb)
  have IL12 := Lib.hid (IL11.out.below hb)
  have IL22 := Lib.hid (IL21.out.below hb)
  clear hb
  go_wp2_with fail
  refine (compare_clocks _ _ l0 l1 _ IL02.out IL12.out (by have := K.out; omega) (by have := K.out; omega)).mono ?_
  rw [EX.out]
  rintro e w3 ⟨rfl, hb⟩
  have B3 := Lib.hid (below_after B2.out hb (Nat.le_refl _))
  have IL03 := Lib.hid (IL02.out.below hb)
  have IL13 := Lib.hid (IL12.out.below hb)
  have IL23 := Lib.hid (IL22.out.below hb)
  clear hb
  go_wp2_with fail
  refine (compare_clocks _ _ l1 l0 _ IL13.out IL03.out (by have := K.out; omega) (by have := K.out; omega)).mono ?_
  rw [EY.out]
  rintro e w4 ⟨rfl, hb⟩
  have B4 := Lib.hid (below_after B3.out hb (Nat.le_refl _))
  have IL04 := Lib.hid (IL03.out.below hb)
  have IL14 := Lib.hid (IL13.out.below hb)
  have IL24 := Lib.hid (IL23.out.below hb)
  clear hb
  have T0 := Lib.hid (show Below w4.heap.size w4 (w4.alloc (.cells #[.int .u8 0, .int .u8 1, .int .u8 3, .int .u8 2, .int .u8 4] 5)) from (Below.refl _ _).alloc (Nat.le_refl _) _)
  have BT := Lib.hid (B4.out.alloc B4.out.size (.cells #[.int .u8 0, .int .u8 1, .int .u8 3, .int .u8 2, .int .u8 4] 5))
  have IL04T := Lib.hid (IL04.out.below T0.out)
  have IL14T := Lib.hid (IL14.out.below T0.out)
  have IL24T := Lib.hid (IL24.out.below T0.out)
  go_wp2_with fail
  refine (compare_clocks _ _ l0 l0 _ IL04T.out IL04T.out (by have := K.out; omega) (by have := K.out; omega)).mono ?_
  rw [ES.out]
  rintro e w5 ⟨rfl, hb⟩
  have B5 := Lib.hid (below_after BT.out hb (Nat.le_refl _))
  have IL05 := Lib.hid (IL04T.out.below hb)
  have IL15 := Lib.hid (IL14T.out.below hb)
  have IL25 := Lib.hid (IL24T.out.below hb)
  clear hb
  go_wp2_with fail
  refine (join_any _ _ l0 l1 _ IL05.out IL15.out (by have := K.out; omega) (by have := K.out; omega)).mono ?_
  rintro e w6 ⟨j, rfl, hi, hb⟩
  have B6 := Lib.hid (below_after B5.out hb (Nat.le_refl _))
  have IL06 := Lib.hid (IL05.out.below hb)
  have IL16 := Lib.hid (IL15.out.below hb)
  have Ij6 := Lib.hid hi
  clear hi
  clear hb
  go_wp2_with fail
  refine (compare_clocks j _ (joinC l0 l1) l1 _ Ij6.out IL16.out (by have := K.out; have := U.out; omega) (by have := K.out; omega)).mono ?_
  rw [EJ.out]
  rintro e w7 ⟨rfl, hb⟩
  have B7 := Lib.hid (below_after B6.out hb (Nat.le_refl _))
  have IL07 := Lib.hid (IL06.out.below hb)
  have IL17 := Lib.hid (IL16.out.below hb)
  clear hb
  go_wp2_with fail
  go_ret
  exact ⟨rfl, B7.out⟩
set_option maxHeartbeats 4000000 in
set_option maxRecDepth 100000 in
theorem stands3 (v0 v1 v2 : Value) (l0 l1 l2 : List Tick) (w : World) (h0 : Rcs encT 3 w v0 l0) (h1 : Rcs encT 3 w v1 l1) (h2 : Rcs encT 3 w v2 l2) (hl : decide (150 < l0.length ∨ 150 < l1.length ∨ 150 < l2.length) = false)
    (hx : cmp l0 l1 = 3) (hy : cmp l1 l0 = 2)  : Calls Try.prog 6 #[v0, v1, v2] w fun e w' => e = .returned (.bool true) ∧ Below w.heap.size w w' := by
  have HL := Lib.hid hl
  have K := Lib.hid (show l0.length ≤ 150 ∧ l1.length ≤ 150 ∧ l2.length ≤ 150 by have := of_decide_eq_false hl; omega)
  have I0 := Lib.hid h0
  have I1 := Lib.hid h1
  have I2 := Lib.hid h2
  have EX := Lib.hid hx
  have EY := Lib.hid hy
  have ES := Lib.hid (cmp_self l0)
  have U := Lib.hid (join_len l0 l1)
  have EJ := Lib.hid (show cmp (joinC l0 l1) l1 = 3 by
    rcases (cmp_above (joinC l0 l1) l1).2 (join_above' l0 l1) with e | e
    · exact e
    · rcases (join_same_iff l0 l1).2 e with e2 | e2 <;> omega)
  obtain ⟨A0, c0, rfl, hz0⟩ := h0
  obtain ⟨A1, c1, rfl, hz1⟩ := h1
  obtain ⟨A2, c2, rfl, hz2⟩ := h2
  clear hl hz0 hz1 hz2 hx hy
  go_enter Try.func6, Try.ntmps6
  have B0 := Lib.hid (show Below w.heap.size w w from Below.refl _ _)
  have J0 := Lib.hid I0.out
  have J1 := Lib.hid I1.out
  have J2 := Lib.hid I2.out
  go_wp2_with fail
  refine (works_any _).mono ?_
  rintro e w1 ⟨rfl, hb⟩
  have B1 := Lib.hid (below_after B0.out hb (Nat.le_refl _))
  have IL01 := Lib.hid (J0.out.below hb)
  have IL11 := Lib.hid (J1.out.below hb)
  have IL21 := Lib.hid (J2.out.below hb)
  clear hb
  go_wp2_with fail
  refine (large_lit3 _ _ _ l0 l1 l2 w1 w I0.out I1.out I2.out).mono ?_
  rw [HL.out]
  rintro e w2 ⟨rfl, hb⟩
  have B2 := Lib.hid (below_after B1.out hb (Nat.le_refl _))
  have IL02 := Lib.hid (IL01.out.below hb)
  have IL12 := Lib.hid (IL11.out.below hb)
  have IL22 := Lib.hid (IL21.out.below hb)
  clear hb
  go_wp2_with fail
  refine (compare_clocks _ _ l0 l1 _ IL02.out IL12.out (by have := K.out; omega) (by have := K.out; omega)).mono ?_
  rw [EX.out]
  rintro e w3 ⟨rfl, hb⟩
  have B3 := Lib.hid (below_after B2.out hb (Nat.le_refl _))
  have IL03 := Lib.hid (IL02.out.below hb)
  have IL13 := Lib.hid (IL12.out.below hb)
  have IL23 := Lib.hid (IL22.out.below hb)
  clear hb
  go_wp2_with fail
  refine (compare_clocks _ _ l1 l0 _ IL13.out IL03.out (by have := K.out; omega) (by have := K.out; omega)).mono ?_
  rw [EY.out]
  rintro e w4 ⟨rfl, hb⟩
  have B4 := Lib.hid (below_after B3.out hb (Nat.le_refl _))
  have IL04 := Lib.hid (IL03.out.below hb)
  have IL14 := Lib.hid (IL13.out.below hb)
  have IL24 := Lib.hid (IL23.out.below hb)
  clear hb
  have T0 := Lib.hid (show Below w4.heap.size w4 (w4.alloc (.cells #[.int .u8 0, .int .u8 1, .int .u8 3, .int .u8 2, .int .u8 4] 5)) from (Below.refl _ _).alloc (Nat.le_refl _) _)
  have BT := Lib.hid (B4.out.alloc B4.out.size (.cells #[.int .u8 0, .int .u8 1, .int .u8 3, .int .u8 2, .int .u8 4] 5))
  have IL04T := Lib.hid (IL04.out.below T0.out)
  have IL14T := Lib.hid (IL14.out.below T0.out)
  have IL24T := Lib.hid (IL24.out.below T0.out)
  go_wp2_with fail
  refine (compare_clocks _ _ l0 l0 _ IL04T.out IL04T.out (by have := K.out; omega) (by have := K.out; omega)).mono ?_
  rw [ES.out]
  rintro e w5 ⟨rfl, hb⟩
  have B5 := Lib.hid (below_after BT.out hb (Nat.le_refl _))
  have IL05 := Lib.hid (IL04T.out.below hb)
  have IL15 := Lib.hid (IL14T.out.below hb)
  have IL25 := Lib.hid (IL24T.out.below hb)
  clear hb
  go_wp2_with fail
  refine (join_any _ _ l0 l1 _ IL05.out IL15.out (by have := K.out; omega) (by have := K.out; omega)).mono ?_
  rintro e w6 ⟨j, rfl, hi, hb⟩
  have B6 := Lib.hid (below_after B5.out hb (Nat.le_refl _))
  have IL06 := Lib.hid (IL05.out.below hb)
  have IL16 := Lib.hid (IL15.out.below hb)
  have Ij6 := Lib.hid hi
  clear hi
  clear hb
  go_wp2_with fail
  refine (compare_clocks j _ (joinC l0 l1) l1 _ Ij6.out IL16.out (by have := K.out; have := U.out; omega) (by have := K.out; omega)).mono ?_
  rw [EJ.out]
  rintro e w7 ⟨rfl, hb⟩
  have B7 := Lib.hid (below_after B6.out hb (Nat.le_refl _))
  have IL07 := Lib.hid (IL06.out.below hb)
  have IL17 := Lib.hid (IL16.out.below hb)
  clear hb
  go_wp2_with fail
  go_ret
  exact ⟨rfl, B7.out⟩
set_option maxHeartbeats 4000000 in
set_option maxRecDepth 100000 in
theorem stands4 (v0 v1 v2 : Value) (l0 l1 l2 : List Tick) (w : World) (h0 : Rcs encT 3 w v0 l0) (h1 : Rcs encT 3 w v1 l1) (h2 : Rcs encT 3 w v2 l2) (hl : decide (150 < l0.length ∨ 150 < l1.length ∨ 150 < l2.length) = false)
    (hx : cmp l0 l1 = 4) (hy : cmp l1 l0 = 4)  : Calls Try.prog 6 #[v0, v1, v2] w fun e w' => e = .returned (.bool true) ∧ Below w.heap.size w w' := by
  have HL := Lib.hid hl
  have K := Lib.hid (show l0.length ≤ 150 ∧ l1.length ≤ 150 ∧ l2.length ≤ 150 by have := of_decide_eq_false hl; omega)
  have I0 := Lib.hid h0
  have I1 := Lib.hid h1
  have I2 := Lib.hid h2
  have EX := Lib.hid hx
  have EY := Lib.hid hy
  have ES := Lib.hid (cmp_self l0)
  have U := Lib.hid (join_len l0 l1)
  have EJ := Lib.hid (show cmp (joinC l0 l1) l1 = 3 by
    rcases (cmp_above (joinC l0 l1) l1).2 (join_above' l0 l1) with e | e
    · exact e
    · rcases (join_same_iff l0 l1).2 e with e2 | e2 <;> omega)
  obtain ⟨A0, c0, rfl, hz0⟩ := h0
  obtain ⟨A1, c1, rfl, hz1⟩ := h1
  obtain ⟨A2, c2, rfl, hz2⟩ := h2
  clear hl hz0 hz1 hz2 hx hy
  go_enter Try.func6, Try.ntmps6
  have B0 := Lib.hid (show Below w.heap.size w w from Below.refl _ _)
  have J0 := Lib.hid I0.out
  have J1 := Lib.hid I1.out
  have J2 := Lib.hid I2.out
  go_wp2_with fail
  refine (works_any _).mono ?_
  rintro e w1 ⟨rfl, hb⟩
  have B1 := Lib.hid (below_after B0.out hb (Nat.le_refl _))
  have IL01 := Lib.hid (J0.out.below hb)
  have IL11 := Lib.hid (J1.out.below hb)
  have IL21 := Lib.hid (J2.out.below hb)
  clear hb
  go_wp2_with fail
  refine (large_lit3 _ _ _ l0 l1 l2 w1 w I0.out I1.out I2.out).mono ?_
  rw [HL.out]
  rintro e w2 ⟨rfl, hb⟩
  have B2 := Lib.hid (below_after B1.out hb (Nat.le_refl _))
  have IL02 := Lib.hid (IL01.out.below hb)
  have IL12 := Lib.hid (IL11.out.below hb)
  have IL22 := Lib.hid (IL21.out.below hb)
  clear hb
  go_wp2_with fail
  refine (compare_clocks _ _ l0 l1 _ IL02.out IL12.out (by have := K.out; omega) (by have := K.out; omega)).mono ?_
  rw [EX.out]
  rintro e w3 ⟨rfl, hb⟩
  have B3 := Lib.hid (below_after B2.out hb (Nat.le_refl _))
  have IL03 := Lib.hid (IL02.out.below hb)
  have IL13 := Lib.hid (IL12.out.below hb)
  have IL23 := Lib.hid (IL22.out.below hb)
  clear hb
  go_wp2_with fail
  refine (compare_clocks _ _ l1 l0 _ IL13.out IL03.out (by have := K.out; omega) (by have := K.out; omega)).mono ?_
  rw [EY.out]
  rintro e w4 ⟨rfl, hb⟩
  have B4 := Lib.hid (below_after B3.out hb (Nat.le_refl _))
  have IL04 := Lib.hid (IL03.out.below hb)
  have IL14 := Lib.hid (IL13.out.below hb)
  have IL24 := Lib.hid (IL23.out.below hb)
  clear hb
  have T0 := Lib.hid (show Below w4.heap.size w4 (w4.alloc (.cells #[.int .u8 0, .int .u8 1, .int .u8 3, .int .u8 2, .int .u8 4] 5)) from (Below.refl _ _).alloc (Nat.le_refl _) _)
  have BT := Lib.hid (B4.out.alloc B4.out.size (.cells #[.int .u8 0, .int .u8 1, .int .u8 3, .int .u8 2, .int .u8 4] 5))
  have IL04T := Lib.hid (IL04.out.below T0.out)
  have IL14T := Lib.hid (IL14.out.below T0.out)
  have IL24T := Lib.hid (IL24.out.below T0.out)
  go_wp2_with fail
  refine (compare_clocks _ _ l0 l0 _ IL04T.out IL04T.out (by have := K.out; omega) (by have := K.out; omega)).mono ?_
  rw [ES.out]
  rintro e w5 ⟨rfl, hb⟩
  have B5 := Lib.hid (below_after BT.out hb (Nat.le_refl _))
  have IL05 := Lib.hid (IL04T.out.below hb)
  have IL15 := Lib.hid (IL14T.out.below hb)
  have IL25 := Lib.hid (IL24T.out.below hb)
  clear hb
  go_wp2_with fail
  refine (join_any _ _ l0 l1 _ IL05.out IL15.out (by have := K.out; omega) (by have := K.out; omega)).mono ?_
  rintro e w6 ⟨j, rfl, hi, hb⟩
  have B6 := Lib.hid (below_after B5.out hb (Nat.le_refl _))
  have IL06 := Lib.hid (IL05.out.below hb)
  have IL16 := Lib.hid (IL15.out.below hb)
  have Ij6 := Lib.hid hi
  clear hi
  clear hb
  go_wp2_with fail
  refine (compare_clocks j _ (joinC l0 l1) l1 _ Ij6.out IL16.out (by have := K.out; have := U.out; omega) (by have := K.out; omega)).mono ?_
  rw [EJ.out]
  rintro e w7 ⟨rfl, hb⟩
  have B7 := Lib.hid (below_after B6.out hb (Nat.le_refl _))
  have IL07 := Lib.hid (IL06.out.below hb)
  have IL17 := Lib.hid (IL16.out.below hb)
  clear hb
  go_wp2_with fail
  go_ret
  exact ⟨rfl, B7.out⟩
set_option maxHeartbeats 4000000 in
set_option maxRecDepth 100000 in
theorem stands2_00 (v0 v1 v2 : Value) (l0 l1 l2 : List Tick) (w : World) (h0 : Rcs encT 3 w v0 l0) (h1 : Rcs encT 3 w v1 l1) (h2 : Rcs encT 3 w v2 l2) (hl : decide (150 < l0.length ∨ 150 < l1.length ∨ 150 < l2.length) = false)
    (hx : cmp l0 l1 = 2) (hy : cmp l1 l0 = 3) (n : Nat) (hbc : cmp l1 l2 = n) (hn : ((n : Int) == 2) = false) (hm : mayB l1 = false) : Calls Try.prog 6 #[v0, v1, v2] w fun e w' => e = .returned (.bool true) ∧ Below w.heap.size w w' := by
  have HL := Lib.hid hl
  have K := Lib.hid (show l0.length ≤ 150 ∧ l1.length ≤ 150 ∧ l2.length ≤ 150 by have := of_decide_eq_false hl; omega)
  have I0 := Lib.hid h0
  have I1 := Lib.hid h1
  have I2 := Lib.hid h2
  have EX := Lib.hid hx
  have EY := Lib.hid hy
  have ES := Lib.hid (cmp_self l0)
  have U := Lib.hid (join_len l0 l1)
  have EJ := Lib.hid (show cmp (joinC l0 l1) l1 = 1 from (join_same_iff l0 l1).1 (.inl hx))
  have EB := Lib.hid hbc
  have EM := Lib.hid hm
  obtain ⟨A0, c0, rfl, hz0⟩ := h0
  obtain ⟨A1, c1, rfl, hz1⟩ := h1
  obtain ⟨A2, c2, rfl, hz2⟩ := h2
  clear hl hz0 hz1 hz2 hx hy hbc hm
  go_enter Try.func6, Try.ntmps6
  have B0 := Lib.hid (show Below w.heap.size w w from Below.refl _ _)
  have J0 := Lib.hid I0.out
  have J1 := Lib.hid I1.out
  have J2 := Lib.hid I2.out
  go_wp2_with fail
  refine (works_any _).mono ?_
  rintro e w1 ⟨rfl, hb⟩
  have B1 := Lib.hid (below_after B0.out hb (Nat.le_refl _))
  have IL01 := Lib.hid (J0.out.below hb)
  have IL11 := Lib.hid (J1.out.below hb)
  have IL21 := Lib.hid (J2.out.below hb)
  clear hb
  go_wp2_with fail
  refine (large_lit3 _ _ _ l0 l1 l2 w1 w I0.out I1.out I2.out).mono ?_
  rw [HL.out]
  rintro e w2 ⟨rfl, hb⟩
  have B2 := Lib.hid (below_after B1.out hb (Nat.le_refl _))
  have IL02 := Lib.hid (IL01.out.below hb)
  have IL12 := Lib.hid (IL11.out.below hb)
  have IL22 := Lib.hid (IL21.out.below hb)
  clear hb
  go_wp2_with fail
  refine (compare_clocks _ _ l0 l1 _ IL02.out IL12.out (by have := K.out; omega) (by have := K.out; omega)).mono ?_
  rw [EX.out]
  rintro e w3 ⟨rfl, hb⟩
  have B3 := Lib.hid (below_after B2.out hb (Nat.le_refl _))
  have IL03 := Lib.hid (IL02.out.below hb)
  have IL13 := Lib.hid (IL12.out.below hb)
  have IL23 := Lib.hid (IL22.out.below hb)
  clear hb
  go_wp2_with fail
  refine (compare_clocks _ _ l1 l0 _ IL13.out IL03.out (by have := K.out; omega) (by have := K.out; omega)).mono ?_
  rw [EY.out]
  rintro e w4 ⟨rfl, hb⟩
  have B4 := Lib.hid (below_after B3.out hb (Nat.le_refl _))
  have IL04 := Lib.hid (IL03.out.below hb)
  have IL14 := Lib.hid (IL13.out.below hb)
  have IL24 := Lib.hid (IL23.out.below hb)
  clear hb
  have T0 := Lib.hid (show Below w4.heap.size w4 (w4.alloc (.cells #[.int .u8 0, .int .u8 1, .int .u8 3, .int .u8 2, .int .u8 4] 5)) from (Below.refl _ _).alloc (Nat.le_refl _) _)
  have BT := Lib.hid (B4.out.alloc B4.out.size (.cells #[.int .u8 0, .int .u8 1, .int .u8 3, .int .u8 2, .int .u8 4] 5))
  have IL04T := Lib.hid (IL04.out.below T0.out)
  have IL14T := Lib.hid (IL14.out.below T0.out)
  have IL24T := Lib.hid (IL24.out.below T0.out)
  go_wp2_with fail
  refine (compare_clocks _ _ l0 l0 _ IL04T.out IL04T.out (by have := K.out; omega) (by have := K.out; omega)).mono ?_
  rw [ES.out]
  rintro e w5 ⟨rfl, hb⟩
  have B5 := Lib.hid (below_after BT.out hb (Nat.le_refl _))
  have IL05 := Lib.hid (IL04T.out.below hb)
  have IL15 := Lib.hid (IL14T.out.below hb)
  have IL25 := Lib.hid (IL24T.out.below hb)
  clear hb
  go_wp2_with fail
  refine (compare_clocks _ _ l1 l2 _ IL15.out IL25.out (by have := K.out; omega) (by have := K.out; omega)).mono ?_
  rw [EB.out]
  rintro e w6 ⟨rfl, hb⟩
  have B6 := Lib.hid (below_after B5.out hb (Nat.le_refl _))
  have IL06 := Lib.hid (IL05.out.below hb)
  have IL16 := Lib.hid (IL15.out.below hb)
  have IL26 := Lib.hid (IL25.out.below hb)
  clear hb
  go_wp2_with fail
  refine (join_any _ _ l0 l1 _ IL06.out IL16.out (by have := K.out; omega) (by have := K.out; omega)).mono ?_
  rintro e w7 ⟨j, rfl, hi, hb⟩
  have B7 := Lib.hid (below_after B6.out hb (Nat.le_refl _))
  have IL07 := Lib.hid (IL06.out.below hb)
  have IL17 := Lib.hid (IL16.out.below hb)
  have Ij7 := Lib.hid hi
  clear hi
  clear hb
  go_wp2_with fail
  refine (compare_clocks j _ (joinC l0 l1) l1 _ Ij7.out IL17.out (by have := K.out; have := U.out; omega) (by have := K.out; omega)).mono ?_
  rw [EJ.out]
  rintro e w8 ⟨rfl, hb⟩
  have B8 := Lib.hid (below_after B7.out hb (Nat.le_refl _))
  have IL08 := Lib.hid (IL07.out.below hb)
  have IL18 := Lib.hid (IL17.out.below hb)
  clear hb
  go_wp2_with fail
  refine (mayClock_any _ l1 _ IL18.out (by have := K.out; omega)).mono ?_
  rw [EM.out]
  rintro e w9 ⟨rfl, hb⟩
  have B9 := Lib.hid (below_after B8.out hb (Nat.le_refl _))
  have IL09 := Lib.hid (IL08.out.below hb)
  have IL19 := Lib.hid (IL18.out.below hb)
  clear hb
  go_wp2_with fail
  go_ret
  exact ⟨rfl, B9.out⟩
set_option maxHeartbeats 4000000 in
set_option maxRecDepth 100000 in
theorem stands2_01 (v0 v1 v2 : Value) (l0 l1 l2 : List Tick) (w : World) (h0 : Rcs encT 3 w v0 l0) (h1 : Rcs encT 3 w v1 l1) (h2 : Rcs encT 3 w v2 l2) (hl : decide (150 < l0.length ∨ 150 < l1.length ∨ 150 < l2.length) = false)
    (hx : cmp l0 l1 = 2) (hy : cmp l1 l0 = 3) (n : Nat) (hbc : cmp l1 l2 = n) (hn : ((n : Int) == 2) = false) (hm : mayB l1 = true) : Calls Try.prog 6 #[v0, v1, v2] w fun e w' => e = .returned (.bool true) ∧ Below w.heap.size w w' := by
  have HL := Lib.hid hl
  have K := Lib.hid (show l0.length ≤ 150 ∧ l1.length ≤ 150 ∧ l2.length ≤ 150 by have := of_decide_eq_false hl; omega)
  have I0 := Lib.hid h0
  have I1 := Lib.hid h1
  have I2 := Lib.hid h2
  have EX := Lib.hid hx
  have EY := Lib.hid hy
  have ES := Lib.hid (cmp_self l0)
  have U := Lib.hid (join_len l0 l1)
  have EJ := Lib.hid (show cmp (joinC l0 l1) l1 = 1 from (join_same_iff l0 l1).1 (.inl hx))
  have EB := Lib.hid hbc
  have EM := Lib.hid hm
  have EQ := Lib.hid (show sameT (joinC l0 l1) l1 = true by rw [join_behind hx (may_norm hm)]; exact same_self l1)
  obtain ⟨A0, c0, rfl, hz0⟩ := h0
  obtain ⟨A1, c1, rfl, hz1⟩ := h1
  obtain ⟨A2, c2, rfl, hz2⟩ := h2
  clear hl hz0 hz1 hz2 hx hy hbc hm
  go_enter Try.func6, Try.ntmps6
  have B0 := Lib.hid (show Below w.heap.size w w from Below.refl _ _)
  have J0 := Lib.hid I0.out
  have J1 := Lib.hid I1.out
  have J2 := Lib.hid I2.out
  go_wp2_with fail
  refine (works_any _).mono ?_
  rintro e w1 ⟨rfl, hb⟩
  have B1 := Lib.hid (below_after B0.out hb (Nat.le_refl _))
  have IL01 := Lib.hid (J0.out.below hb)
  have IL11 := Lib.hid (J1.out.below hb)
  have IL21 := Lib.hid (J2.out.below hb)
  clear hb
  go_wp2_with fail
  refine (large_lit3 _ _ _ l0 l1 l2 w1 w I0.out I1.out I2.out).mono ?_
  rw [HL.out]
  rintro e w2 ⟨rfl, hb⟩
  have B2 := Lib.hid (below_after B1.out hb (Nat.le_refl _))
  have IL02 := Lib.hid (IL01.out.below hb)
  have IL12 := Lib.hid (IL11.out.below hb)
  have IL22 := Lib.hid (IL21.out.below hb)
  clear hb
  go_wp2_with fail
  refine (compare_clocks _ _ l0 l1 _ IL02.out IL12.out (by have := K.out; omega) (by have := K.out; omega)).mono ?_
  rw [EX.out]
  rintro e w3 ⟨rfl, hb⟩
  have B3 := Lib.hid (below_after B2.out hb (Nat.le_refl _))
  have IL03 := Lib.hid (IL02.out.below hb)
  have IL13 := Lib.hid (IL12.out.below hb)
  have IL23 := Lib.hid (IL22.out.below hb)
  clear hb
  go_wp2_with fail
  refine (compare_clocks _ _ l1 l0 _ IL13.out IL03.out (by have := K.out; omega) (by have := K.out; omega)).mono ?_
  rw [EY.out]
  rintro e w4 ⟨rfl, hb⟩
  have B4 := Lib.hid (below_after B3.out hb (Nat.le_refl _))
  have IL04 := Lib.hid (IL03.out.below hb)
  have IL14 := Lib.hid (IL13.out.below hb)
  have IL24 := Lib.hid (IL23.out.below hb)
  clear hb
  have T0 := Lib.hid (show Below w4.heap.size w4 (w4.alloc (.cells #[.int .u8 0, .int .u8 1, .int .u8 3, .int .u8 2, .int .u8 4] 5)) from (Below.refl _ _).alloc (Nat.le_refl _) _)
  have BT := Lib.hid (B4.out.alloc B4.out.size (.cells #[.int .u8 0, .int .u8 1, .int .u8 3, .int .u8 2, .int .u8 4] 5))
  have IL04T := Lib.hid (IL04.out.below T0.out)
  have IL14T := Lib.hid (IL14.out.below T0.out)
  have IL24T := Lib.hid (IL24.out.below T0.out)
  go_wp2_with fail
  refine (compare_clocks _ _ l0 l0 _ IL04T.out IL04T.out (by have := K.out; omega) (by have := K.out; omega)).mono ?_
  rw [ES.out]
  rintro e w5 ⟨rfl, hb⟩
  have B5 := Lib.hid (below_after BT.out hb (Nat.le_refl _))
  have IL05 := Lib.hid (IL04T.out.below hb)
  have IL15 := Lib.hid (IL14T.out.below hb)
  have IL25 := Lib.hid (IL24T.out.below hb)
  clear hb
  go_wp2_with fail
  refine (compare_clocks _ _ l1 l2 _ IL15.out IL25.out (by have := K.out; omega) (by have := K.out; omega)).mono ?_
  rw [EB.out]
  rintro e w6 ⟨rfl, hb⟩
  have B6 := Lib.hid (below_after B5.out hb (Nat.le_refl _))
  have IL06 := Lib.hid (IL05.out.below hb)
  have IL16 := Lib.hid (IL15.out.below hb)
  have IL26 := Lib.hid (IL25.out.below hb)
  clear hb
  go_wp2_with fail
  refine (join_any _ _ l0 l1 _ IL06.out IL16.out (by have := K.out; omega) (by have := K.out; omega)).mono ?_
  rintro e w7 ⟨j, rfl, hi, hb⟩
  have B7 := Lib.hid (below_after B6.out hb (Nat.le_refl _))
  have IL07 := Lib.hid (IL06.out.below hb)
  have IL17 := Lib.hid (IL16.out.below hb)
  have Ij7 := Lib.hid hi
  clear hi
  clear hb
  go_wp2_with fail
  refine (compare_clocks j _ (joinC l0 l1) l1 _ Ij7.out IL17.out (by have := K.out; have := U.out; omega) (by have := K.out; omega)).mono ?_
  rw [EJ.out]
  rintro e w8 ⟨rfl, hb⟩
  have B8 := Lib.hid (below_after B7.out hb (Nat.le_refl _))
  have IL08 := Lib.hid (IL07.out.below hb)
  have IL18 := Lib.hid (IL17.out.below hb)
  clear hb
  go_wp2_with fail
  refine (mayClock_any _ l1 _ IL18.out (by have := K.out; omega)).mono ?_
  rw [EM.out]
  rintro e w9 ⟨rfl, hb⟩
  have B9 := Lib.hid (below_after B8.out hb (Nat.le_refl _))
  have IL09 := Lib.hid (IL08.out.below hb)
  have IL19 := Lib.hid (IL18.out.below hb)
  clear hb
  go_wp2_with fail
  refine (join_any _ _ l0 l1 _ IL09.out IL19.out (by have := K.out; omega) (by have := K.out; omega)).mono ?_
  rintro e w10 ⟨k, rfl, hi, hb⟩
  have B10 := Lib.hid (below_after B9.out hb (Nat.le_refl _))
  have IL010 := Lib.hid (IL09.out.below hb)
  have IL110 := Lib.hid (IL19.out.below hb)
  have Ik10 := Lib.hid hi
  clear hi
  clear hb
  go_wp2_with fail
  refine (ticks_any k _ (joinC l0 l1) l1 _ Ik10.out IL110.out (by have := K.out; have := U.out; omega)).mono ?_
  rw [EQ.out]
  rintro e w11 ⟨rfl, hb⟩
  have B11 := Lib.hid (below_after B10.out hb (Nat.le_refl _))
  clear hb
  go_wp2_with fail
  go_ret
  exact ⟨rfl, B11.out⟩
set_option maxHeartbeats 4000000 in
set_option maxRecDepth 100000 in
theorem stands2_20 (v0 v1 v2 : Value) (l0 l1 l2 : List Tick) (w : World) (h0 : Rcs encT 3 w v0 l0) (h1 : Rcs encT 3 w v1 l1) (h2 : Rcs encT 3 w v2 l2) (hl : decide (150 < l0.length ∨ 150 < l1.length ∨ 150 < l2.length) = false)
    (hx : cmp l0 l1 = 2) (hy : cmp l1 l0 = 3) (hbc : cmp l1 l2 = 2) (hm : mayB l1 = false) : Calls Try.prog 6 #[v0, v1, v2] w fun e w' => e = .returned (.bool true) ∧ Below w.heap.size w w' := by
  have HL := Lib.hid hl
  have K := Lib.hid (show l0.length ≤ 150 ∧ l1.length ≤ 150 ∧ l2.length ≤ 150 by have := of_decide_eq_false hl; omega)
  have I0 := Lib.hid h0
  have I1 := Lib.hid h1
  have I2 := Lib.hid h2
  have EX := Lib.hid hx
  have EY := Lib.hid hy
  have ES := Lib.hid (cmp_self l0)
  have U := Lib.hid (join_len l0 l1)
  have EJ := Lib.hid (show cmp (joinC l0 l1) l1 = 1 from (join_same_iff l0 l1).1 (.inl hx))
  have EB := Lib.hid hbc
  have EA := Lib.hid (behind_trans hx hbc)
  have EM := Lib.hid hm
  obtain ⟨A0, c0, rfl, hz0⟩ := h0
  obtain ⟨A1, c1, rfl, hz1⟩ := h1
  obtain ⟨A2, c2, rfl, hz2⟩ := h2
  clear hl hz0 hz1 hz2 hx hy hbc hm
  go_enter Try.func6, Try.ntmps6
  have B0 := Lib.hid (show Below w.heap.size w w from Below.refl _ _)
  have J0 := Lib.hid I0.out
  have J1 := Lib.hid I1.out
  have J2 := Lib.hid I2.out
  go_wp2_with fail
  refine (works_any _).mono ?_
  rintro e w1 ⟨rfl, hb⟩
  have B1 := Lib.hid (below_after B0.out hb (Nat.le_refl _))
  have IL01 := Lib.hid (J0.out.below hb)
  have IL11 := Lib.hid (J1.out.below hb)
  have IL21 := Lib.hid (J2.out.below hb)
  clear hb
  go_wp2_with fail
  refine (large_lit3 _ _ _ l0 l1 l2 w1 w I0.out I1.out I2.out).mono ?_
  rw [HL.out]
  rintro e w2 ⟨rfl, hb⟩
  have B2 := Lib.hid (below_after B1.out hb (Nat.le_refl _))
  have IL02 := Lib.hid (IL01.out.below hb)
  have IL12 := Lib.hid (IL11.out.below hb)
  have IL22 := Lib.hid (IL21.out.below hb)
  clear hb
  go_wp2_with fail
  refine (compare_clocks _ _ l0 l1 _ IL02.out IL12.out (by have := K.out; omega) (by have := K.out; omega)).mono ?_
  rw [EX.out]
  rintro e w3 ⟨rfl, hb⟩
  have B3 := Lib.hid (below_after B2.out hb (Nat.le_refl _))
  have IL03 := Lib.hid (IL02.out.below hb)
  have IL13 := Lib.hid (IL12.out.below hb)
  have IL23 := Lib.hid (IL22.out.below hb)
  clear hb
  go_wp2_with fail
  refine (compare_clocks _ _ l1 l0 _ IL13.out IL03.out (by have := K.out; omega) (by have := K.out; omega)).mono ?_
  rw [EY.out]
  rintro e w4 ⟨rfl, hb⟩
  have B4 := Lib.hid (below_after B3.out hb (Nat.le_refl _))
  have IL04 := Lib.hid (IL03.out.below hb)
  have IL14 := Lib.hid (IL13.out.below hb)
  have IL24 := Lib.hid (IL23.out.below hb)
  clear hb
  have T0 := Lib.hid (show Below w4.heap.size w4 (w4.alloc (.cells #[.int .u8 0, .int .u8 1, .int .u8 3, .int .u8 2, .int .u8 4] 5)) from (Below.refl _ _).alloc (Nat.le_refl _) _)
  have BT := Lib.hid (B4.out.alloc B4.out.size (.cells #[.int .u8 0, .int .u8 1, .int .u8 3, .int .u8 2, .int .u8 4] 5))
  have IL04T := Lib.hid (IL04.out.below T0.out)
  have IL14T := Lib.hid (IL14.out.below T0.out)
  have IL24T := Lib.hid (IL24.out.below T0.out)
  go_wp2_with fail
  refine (compare_clocks _ _ l0 l0 _ IL04T.out IL04T.out (by have := K.out; omega) (by have := K.out; omega)).mono ?_
  rw [ES.out]
  rintro e w5 ⟨rfl, hb⟩
  have B5 := Lib.hid (below_after BT.out hb (Nat.le_refl _))
  have IL05 := Lib.hid (IL04T.out.below hb)
  have IL15 := Lib.hid (IL14T.out.below hb)
  have IL25 := Lib.hid (IL24T.out.below hb)
  clear hb
  go_wp2_with fail
  refine (compare_clocks _ _ l1 l2 _ IL15.out IL25.out (by have := K.out; omega) (by have := K.out; omega)).mono ?_
  rw [EB.out]
  rintro e w6 ⟨rfl, hb⟩
  have B6 := Lib.hid (below_after B5.out hb (Nat.le_refl _))
  have IL06 := Lib.hid (IL05.out.below hb)
  have IL16 := Lib.hid (IL15.out.below hb)
  have IL26 := Lib.hid (IL25.out.below hb)
  clear hb
  go_wp2_with fail
  refine (compare_clocks _ _ l0 l2 _ IL06.out IL26.out (by have := K.out; omega) (by have := K.out; omega)).mono ?_
  rw [EA.out]
  rintro e w7 ⟨rfl, hb⟩
  have B7 := Lib.hid (below_after B6.out hb (Nat.le_refl _))
  have IL07 := Lib.hid (IL06.out.below hb)
  have IL17 := Lib.hid (IL16.out.below hb)
  have IL27 := Lib.hid (IL26.out.below hb)
  clear hb
  go_wp2_with fail
  refine (join_any _ _ l0 l1 _ IL07.out IL17.out (by have := K.out; omega) (by have := K.out; omega)).mono ?_
  rintro e w8 ⟨j, rfl, hi, hb⟩
  have B8 := Lib.hid (below_after B7.out hb (Nat.le_refl _))
  have IL08 := Lib.hid (IL07.out.below hb)
  have IL18 := Lib.hid (IL17.out.below hb)
  have Ij8 := Lib.hid hi
  clear hi
  clear hb
  go_wp2_with fail
  refine (compare_clocks j _ (joinC l0 l1) l1 _ Ij8.out IL18.out (by have := K.out; have := U.out; omega) (by have := K.out; omega)).mono ?_
  rw [EJ.out]
  rintro e w9 ⟨rfl, hb⟩
  have B9 := Lib.hid (below_after B8.out hb (Nat.le_refl _))
  have IL09 := Lib.hid (IL08.out.below hb)
  have IL19 := Lib.hid (IL18.out.below hb)
  clear hb
  go_wp2_with fail
  refine (mayClock_any _ l1 _ IL19.out (by have := K.out; omega)).mono ?_
  rw [EM.out]
  rintro e w10 ⟨rfl, hb⟩
  have B10 := Lib.hid (below_after B9.out hb (Nat.le_refl _))
  have IL010 := Lib.hid (IL09.out.below hb)
  have IL110 := Lib.hid (IL19.out.below hb)
  clear hb
  go_wp2_with fail
  go_ret
  exact ⟨rfl, B10.out⟩
set_option maxHeartbeats 4000000 in
set_option maxRecDepth 100000 in
theorem stands2_21 (v0 v1 v2 : Value) (l0 l1 l2 : List Tick) (w : World) (h0 : Rcs encT 3 w v0 l0) (h1 : Rcs encT 3 w v1 l1) (h2 : Rcs encT 3 w v2 l2) (hl : decide (150 < l0.length ∨ 150 < l1.length ∨ 150 < l2.length) = false)
    (hx : cmp l0 l1 = 2) (hy : cmp l1 l0 = 3) (hbc : cmp l1 l2 = 2) (hm : mayB l1 = true) : Calls Try.prog 6 #[v0, v1, v2] w fun e w' => e = .returned (.bool true) ∧ Below w.heap.size w w' := by
  have HL := Lib.hid hl
  have K := Lib.hid (show l0.length ≤ 150 ∧ l1.length ≤ 150 ∧ l2.length ≤ 150 by have := of_decide_eq_false hl; omega)
  have I0 := Lib.hid h0
  have I1 := Lib.hid h1
  have I2 := Lib.hid h2
  have EX := Lib.hid hx
  have EY := Lib.hid hy
  have ES := Lib.hid (cmp_self l0)
  have U := Lib.hid (join_len l0 l1)
  have EJ := Lib.hid (show cmp (joinC l0 l1) l1 = 1 from (join_same_iff l0 l1).1 (.inl hx))
  have EB := Lib.hid hbc
  have EA := Lib.hid (behind_trans hx hbc)
  have EM := Lib.hid hm
  have EQ := Lib.hid (show sameT (joinC l0 l1) l1 = true by rw [join_behind hx (may_norm hm)]; exact same_self l1)
  obtain ⟨A0, c0, rfl, hz0⟩ := h0
  obtain ⟨A1, c1, rfl, hz1⟩ := h1
  obtain ⟨A2, c2, rfl, hz2⟩ := h2
  clear hl hz0 hz1 hz2 hx hy hbc hm
  go_enter Try.func6, Try.ntmps6
  have B0 := Lib.hid (show Below w.heap.size w w from Below.refl _ _)
  have J0 := Lib.hid I0.out
  have J1 := Lib.hid I1.out
  have J2 := Lib.hid I2.out
  go_wp2_with fail
  refine (works_any _).mono ?_
  rintro e w1 ⟨rfl, hb⟩
  have B1 := Lib.hid (below_after B0.out hb (Nat.le_refl _))
  have IL01 := Lib.hid (J0.out.below hb)
  have IL11 := Lib.hid (J1.out.below hb)
  have IL21 := Lib.hid (J2.out.below hb)
  clear hb
  go_wp2_with fail
  refine (large_lit3 _ _ _ l0 l1 l2 w1 w I0.out I1.out I2.out).mono ?_
  rw [HL.out]
  rintro e w2 ⟨rfl, hb⟩
  have B2 := Lib.hid (below_after B1.out hb (Nat.le_refl _))
  have IL02 := Lib.hid (IL01.out.below hb)
  have IL12 := Lib.hid (IL11.out.below hb)
  have IL22 := Lib.hid (IL21.out.below hb)
  clear hb
  go_wp2_with fail
  refine (compare_clocks _ _ l0 l1 _ IL02.out IL12.out (by have := K.out; omega) (by have := K.out; omega)).mono ?_
  rw [EX.out]
  rintro e w3 ⟨rfl, hb⟩
  have B3 := Lib.hid (below_after B2.out hb (Nat.le_refl _))
  have IL03 := Lib.hid (IL02.out.below hb)
  have IL13 := Lib.hid (IL12.out.below hb)
  have IL23 := Lib.hid (IL22.out.below hb)
  clear hb
  go_wp2_with fail
  refine (compare_clocks _ _ l1 l0 _ IL13.out IL03.out (by have := K.out; omega) (by have := K.out; omega)).mono ?_
  rw [EY.out]
  rintro e w4 ⟨rfl, hb⟩
  have B4 := Lib.hid (below_after B3.out hb (Nat.le_refl _))
  have IL04 := Lib.hid (IL03.out.below hb)
  have IL14 := Lib.hid (IL13.out.below hb)
  have IL24 := Lib.hid (IL23.out.below hb)
  clear hb
  have T0 := Lib.hid (show Below w4.heap.size w4 (w4.alloc (.cells #[.int .u8 0, .int .u8 1, .int .u8 3, .int .u8 2, .int .u8 4] 5)) from (Below.refl _ _).alloc (Nat.le_refl _) _)
  have BT := Lib.hid (B4.out.alloc B4.out.size (.cells #[.int .u8 0, .int .u8 1, .int .u8 3, .int .u8 2, .int .u8 4] 5))
  have IL04T := Lib.hid (IL04.out.below T0.out)
  have IL14T := Lib.hid (IL14.out.below T0.out)
  have IL24T := Lib.hid (IL24.out.below T0.out)
  go_wp2_with fail
  refine (compare_clocks _ _ l0 l0 _ IL04T.out IL04T.out (by have := K.out; omega) (by have := K.out; omega)).mono ?_
  rw [ES.out]
  rintro e w5 ⟨rfl, hb⟩
  have B5 := Lib.hid (below_after BT.out hb (Nat.le_refl _))
  have IL05 := Lib.hid (IL04T.out.below hb)
  have IL15 := Lib.hid (IL14T.out.below hb)
  have IL25 := Lib.hid (IL24T.out.below hb)
  clear hb
  go_wp2_with fail
  refine (compare_clocks _ _ l1 l2 _ IL15.out IL25.out (by have := K.out; omega) (by have := K.out; omega)).mono ?_
  rw [EB.out]
  rintro e w6 ⟨rfl, hb⟩
  have B6 := Lib.hid (below_after B5.out hb (Nat.le_refl _))
  have IL06 := Lib.hid (IL05.out.below hb)
  have IL16 := Lib.hid (IL15.out.below hb)
  have IL26 := Lib.hid (IL25.out.below hb)
  clear hb
  go_wp2_with fail
  refine (compare_clocks _ _ l0 l2 _ IL06.out IL26.out (by have := K.out; omega) (by have := K.out; omega)).mono ?_
  rw [EA.out]
  rintro e w7 ⟨rfl, hb⟩
  have B7 := Lib.hid (below_after B6.out hb (Nat.le_refl _))
  have IL07 := Lib.hid (IL06.out.below hb)
  have IL17 := Lib.hid (IL16.out.below hb)
  have IL27 := Lib.hid (IL26.out.below hb)
  clear hb
  go_wp2_with fail
  refine (join_any _ _ l0 l1 _ IL07.out IL17.out (by have := K.out; omega) (by have := K.out; omega)).mono ?_
  rintro e w8 ⟨j, rfl, hi, hb⟩
  have B8 := Lib.hid (below_after B7.out hb (Nat.le_refl _))
  have IL08 := Lib.hid (IL07.out.below hb)
  have IL18 := Lib.hid (IL17.out.below hb)
  have Ij8 := Lib.hid hi
  clear hi
  clear hb
  go_wp2_with fail
  refine (compare_clocks j _ (joinC l0 l1) l1 _ Ij8.out IL18.out (by have := K.out; have := U.out; omega) (by have := K.out; omega)).mono ?_
  rw [EJ.out]
  rintro e w9 ⟨rfl, hb⟩
  have B9 := Lib.hid (below_after B8.out hb (Nat.le_refl _))
  have IL09 := Lib.hid (IL08.out.below hb)
  have IL19 := Lib.hid (IL18.out.below hb)
  clear hb
  go_wp2_with fail
  refine (mayClock_any _ l1 _ IL19.out (by have := K.out; omega)).mono ?_
  rw [EM.out]
  rintro e w10 ⟨rfl, hb⟩
  have B10 := Lib.hid (below_after B9.out hb (Nat.le_refl _))
  have IL010 := Lib.hid (IL09.out.below hb)
  have IL110 := Lib.hid (IL19.out.below hb)
  clear hb
  go_wp2_with fail
  refine (join_any _ _ l0 l1 _ IL010.out IL110.out (by have := K.out; omega) (by have := K.out; omega)).mono ?_
  rintro e w11 ⟨k, rfl, hi, hb⟩
  have B11 := Lib.hid (below_after B10.out hb (Nat.le_refl _))
  have IL011 := Lib.hid (IL010.out.below hb)
  have IL111 := Lib.hid (IL110.out.below hb)
  have Ik11 := Lib.hid hi
  clear hi
  clear hb
  go_wp2_with fail
  refine (ticks_any k _ (joinC l0 l1) l1 _ Ik11.out IL111.out (by have := K.out; have := U.out; omega)).mono ?_
  rw [EQ.out]
  rintro e w12 ⟨rfl, hb⟩
  have B12 := Lib.hid (below_after B11.out hb (Nat.le_refl _))
  clear hb
  go_wp2_with fail
  go_ret
  exact ⟨rfl, B12.out⟩
theorem stands_any (v0 : Value) (l0 : List Tick) (v1 : Value) (l1 : List Tick) (v2 : Value) (l2 : List Tick) (w : World) (h0 : Rcs encT 3 w v0 l0) (h1 : Rcs encT 3 w v1 l1) (h2 : Rcs encT 3 w v2 l2) :
    Calls Try.prog 6 #[v0, v1, v2] w fun e w' => e = .returned (.bool true) ∧ Below w.heap.size w w' := by
  cases hl : decide (150 < l0.length ∨ 150 < l1.length ∨ 150 < l2.length)
  · have hy := cmp_turned l0 l1
    have hr := cmp_range l0 l1
    have hx : cmp l0 l1 = 1 ∨ cmp l0 l1 = 2 ∨ cmp l0 l1 = 3 ∨ cmp l0 l1 = 4 := by omega
    rcases hx with hx | hx | hx | hx
    · exact stands1 v0 v1 v2 l0 l1 l2 w h0 h1 h2 hl hx (by rw [hy, hx]; rfl)
    · have hy2 : cmp l1 l0 = 3 := by rw [hy, hx]; rfl
      by_cases hb : cmp l1 l2 = 2
      · cases hm : mayB l1
        · exact stands2_20 v0 v1 v2 l0 l1 l2 w h0 h1 h2 hl hx hy2 hb hm
        · exact stands2_21 v0 v1 v2 l0 l1 l2 w h0 h1 h2 hl hx hy2 hb hm
      · have hn : (((cmp l1 l2 : Nat) : Int) == 2) = false := by
          simp only [beq_eq_false_iff_ne]
          omega
        cases hm : mayB l1
        · exact stands2_00 v0 v1 v2 l0 l1 l2 w h0 h1 h2 hl hx hy2 _ rfl hn hm
        · exact stands2_01 v0 v1 v2 l0 l1 l2 w h0 h1 h2 hl hx hy2 _ rfl hn hm
    · exact stands3 v0 v1 v2 l0 l1 l2 w h0 h1 h2 hl hx (by rw [hy, hx]; rfl)
    · exact stands4 v0 v1 v2 l0 l1 l2 w h0 h1 h2 hl hx (by rw [hy, hx]; rfl)
  · exact stands_large v0 v1 v2 l0 l1 l2 w h0 h1 h2 hl
section
open Go.ChangeShapes Go.WideShapes Go.ChangeAt
open Go.ChangeMaps (open_string)
set_option maxRecDepth 100000 in
theorem stands_lifted (os : Os) (started : os.Started) (H : Type) (enc : TypeId × Value → H) :
    ReturnsInHanded {} Try.checked os 6 .any (Rows.clockStandsSpec.pre6 enc Try.prog Try.f6 Rows.clockStandsRow.domain false) (Rows.clockStandsSpec.post enc Try.prog Try.f6 false true false false) := by
  refine returnsInHanded_of_change_sized (C := Try.checked) Try.own started (by kernel_rfl) Try.func6
    (ChangeSpec.witness6 (enc := enc) (C := Try.checked) false ⟨#[], #[.slice none 0 0, .slice none 0 0, .slice none 0 0], []⟩ 8 (by kernel_rfl) (by kernel_rfl) (by kernel_rfl) (by kernel_rfl)) ?_
  intro W base args ds gs before hval0 hW _ _ _
  have hval : ∀ (j : Nat) t v, Try.f6.params[j]? = some t → args[j]? = some v → Value.okWide Try.prog W .any base t v := hval0
  have hW' := hW
  obtain ⟨p, q, hA0, hV, rfl, _, _⟩ := hW
  have hA : DataW.TrodAll enc Try.prog W 0 (fun _ => true) true Try.f6.params.toList args.toList ds p := hA0
  rw [Try.params6] at hA hval
  obtain ⟨v0, v1, v2, d0, d1, d2, p0, p1, p2, rfl, rfl, rfl, h0, h1, h2⟩ := trodAll_three hA
  obtain ⟨rfl, rfl⟩ := trodVars_none hV
  obtain ⟨l0, I0⟩ := open_ticks (hval 0 24 v0 rfl rfl) h0
  obtain ⟨l1, I1⟩ := open_ticks (hval 1 24 v1 rfl rfl) h1
  obtain ⟨l2, I2⟩ := open_ticks (hval 2 24 v2 rfl rfl) h2
  refine (stands_any v0 l0 v1 l1 v2 l2 W I0 I1 I2).mono fun e W' ⟨he, hb⟩ => ?_
  subst he
  exact ⟨_, rfl, law_post hW' rfl (by kernel_rfl) Try.underlying4 rfl (by unfold Legible; kernel_rfl) hb⟩
/-- The statement. -/
theorem stands_holds : Rows.ClockStandsSaid :=
  OpenClaim.holds_of_wide 6 Try.f6 rfl rfl rfl rfl rfl rfl rfl ⟨rfl, rfl, rfl, rfl, rfl⟩ rfl rfl rfl rfl rfl (by kernel_rfl) Try.func6 (by kernel_rfl)
    (of_decide_eq_true (by kernel_rfl)) (by unfold Func.isWrapper; first | (rw [if_pos (by decide +kernel)]; kernel_rfl) | (rw [if_neg (by decide +kernel)]; exact ⟨rfl, rfl⟩))
    (fun os started H enc _ => stands_lifted os started H enc)
end

end Go.Proofs.Ytpmfanglgkohjaa
