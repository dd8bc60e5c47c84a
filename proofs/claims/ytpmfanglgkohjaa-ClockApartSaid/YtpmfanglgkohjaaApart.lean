/-
  PROVED HERE: for any list of ticks and any two IDs ClockApart of package coveylaw05 returns true and leaves its arguments as they were: what goes up from one clock for two IDs that are not the same is apart, and both are behind their Join, which is what comes of going up for both. No condition.
-/
import Derived.Test.YtpmfanglgkohjaaOpen
namespace Go.Proofs.Ytpmfanglgkohjaa
open Go.RowKit Sets Clocks
theorem upR_cases (l : List Tick) (z : Id2) : (∃ k : Int, upR l z = ([], k) ∧ (k != 0) = true) ∨ upR l z = (up l z, 0) := by
  unfold upR
  split
  · split
    · exact .inl ⟨40, rfl, rfl⟩
    · exact .inr rfl
  · exact .inl ⟨4, rfl, rfl⟩
theorem sameT_self (l : List Tick) : sameT l l = true := decide_eq_true rfl
theorem apart_large (v0 : Value) (l0 : List Tick) (a i b j : Int) (w : World) (h0 : Rcs encT 3 w v0 l0) (hl : decide (150 < l0.length) = true) :
    Calls Try.prog 7 #[v0, .agg #[.int .i64 a, .int .i64 i], .agg #[.int .i64 b, .int .i64 j]] w fun e w' => e = .returned (.bool true) ∧ Below w.heap.size w w' := by
  have HL := Lib.hid hl
  have I0 := Lib.hid h0
  obtain ⟨A0, c0, rfl, hz0⟩ := h0
  clear hl hz0
  go_enter Try.func7, Try.ntmps7
  have B0 := Lib.hid (show Below w.heap.size w ((w.alloc (.cells #[.int .i64 a, .int .i64 i] 28)).alloc (.cells #[.int .i64 b, .int .i64 j] 28)) from below_two w (.cells #[.int .i64 a, .int .i64 i] 28) (.cells #[.int .i64 b, .int .i64 j] 28))
  go_wp2_with fail
  refine (works_any _).mono ?_
  rintro e w1 ⟨rfl, hb⟩
  have B1 := Lib.hid (below_after B0.out hb (Nat.le_refl _))
  clear hb
  go_wp2_with fail
  refine (large_lit1 _ l0 w1 w I0.out).mono ?_
  rw [HL.out]
  rintro e w2 ⟨rfl, hb⟩
  have B2 := Lib.hid (below_after B1.out hb (Nat.le_refl _))
  clear hb
  go_wp2_with fail
  refine (works_any _).mono ?_
  rintro e w3 ⟨rfl, hb⟩
  have B3 := Lib.hid (below_after B2.out hb (Nat.le_refl _))
  clear hb
  go_wp2_with fail
  go_ret
  exact ⟨rfl, B3.out⟩
theorem apart_same (v0 : Value) (l0 : List Tick) (a i : Int) (w : World) (h0 : Rcs encT 3 w v0 l0) (hl : decide (150 < l0.length) = false) :
    Calls Try.prog 7 #[v0, .agg #[.int .i64 a, .int .i64 i], .agg #[.int .i64 a, .int .i64 i]] w fun e w' => e = .returned (.bool true) ∧ Below w.heap.size w w' := by
  have HL := Lib.hid hl
  have g0 : l0.length ≤ 150 := by have := of_decide_eq_false hl; omega
  have I0 := Lib.hid h0
  have K := Lib.hid g0
  have X := two_boxes w a i a i
  have XA := Lib.hid X.1
  have XB := Lib.hid X.2
  obtain ⟨A0, c0, rfl, hz0⟩ := h0
  clear hl hz0 g0 X
  obtain ⟨p1, p2⟩ := box_cells XA.out
  obtain ⟨p3, p4⟩ := box_cells XB.out
  go_enter Try.func7, Try.ntmps7
  have B0 := Lib.hid (show Below w.heap.size w ((w.alloc (.cells #[.int .i64 a, .int .i64 i] 28)).alloc (.cells #[.int .i64 a, .int .i64 i] 28)) from below_two w (.cells #[.int .i64 a, .int .i64 i] 28) (.cells #[.int .i64 a, .int .i64 i] 28))
  have J0 := Lib.hid (I0.out.below B0.out)
  go_wp2_with fail
  refine (works_any _).mono ?_
  rintro e w1 ⟨rfl, hb⟩
  have B1 := Lib.hid (below_after B0.out hb (Nat.le_refl _))
  have IL01 := Lib.hid (J0.out.below hb)
  clear p1 p2
  have X0_1 := Lib.hid (box_below XA.out hb)
  obtain ⟨p1, p2⟩ := box_cells X0_1.out
  clear p3 p4
  have X1_1 := Lib.hid (box_below XB.out hb)
  obtain ⟨p3, p4⟩ := box_cells X1_1.out
  clear hb
  go_wp2_with fail
  refine (large_lit1 _ l0 w1 w I0.out).mono ?_
  rw [HL.out]
  rintro e w2 ⟨rfl, hb⟩
  have B2 := Lib.hid (below_after B1.out hb (Nat.le_refl _))
  have IL02 := Lib.hid (IL01.out.below hb)
  clear p1 p2
  have X0_2 := Lib.hid (box_below X0_1.out hb)
  obtain ⟨p1, p2⟩ := box_cells X0_2.out
  clear p3 p4
  have X1_2 := Lib.hid (box_below X1_1.out hb)
  obtain ⟨p3, p4⟩ := box_cells X1_2.out
  clear hb
  go_wp2_with fail
  refine (works_any _).mono ?_
  rintro e w3 ⟨rfl, hb⟩
  have B3 := Lib.hid (below_after B2.out hb (Nat.le_refl _))
  have IL03 := Lib.hid (IL02.out.below hb)
  clear p1 p2
  have X0_3 := Lib.hid (box_below X0_2.out hb)
  obtain ⟨p1, p2⟩ := box_cells X0_3.out
  clear p3 p4
  have X1_3 := Lib.hid (box_below X1_2.out hb)
  obtain ⟨p3, p4⟩ := box_cells X1_3.out
  clear hb
  go_wp2_with fail
  go_ret
  exact ⟨rfl, B3.out⟩
set_option maxHeartbeats 4000000 in
set_option maxRecDepth 100000 in
theorem apart1_e (v0 : Value) (l0 : List Tick) (a i b j : Int) (w : World) (h0 : Rcs encT 3 w v0 l0) (hl : decide (150 < l0.length) = false) (hab : (a == b) = false) (k : Int) (r2 : List Tick) (k2 : Int) (e1 : upR l0 (a, i) = ([], k)) (hk : (k != 0) = true) (e2 : upR l0 (b, j) = (r2, k2)) :
    Calls Try.prog 7 #[v0, .agg #[.int .i64 a, .int .i64 i], .agg #[.int .i64 b, .int .i64 j]] w fun e w' => e = .returned (.bool true) ∧ Below w.heap.size w w' := by
  have HL := Lib.hid hl
  have g0 : l0.length ≤ 150 := by have := of_decide_eq_false hl; omega
  have I0 := Lib.hid h0
  have K := Lib.hid g0
  have X := two_boxes w a i b j
  have XA := Lib.hid X.1
  have XB := Lib.hid X.2
  obtain ⟨A0, c0, rfl, hz0⟩ := h0
  clear hl hz0 g0 X
  have E1 := Lib.hid e1
  have E2 := Lib.hid e2
  clear e1 e2
  obtain ⟨p1, p2⟩ := box_cells XA.out
  obtain ⟨p3, p4⟩ := box_cells XB.out
  go_enter Try.func7, Try.ntmps7
  have B0 := Lib.hid (show Below w.heap.size w ((w.alloc (.cells #[.int .i64 a, .int .i64 i] 28)).alloc (.cells #[.int .i64 b, .int .i64 j] 28)) from below_two w (.cells #[.int .i64 a, .int .i64 i] 28) (.cells #[.int .i64 b, .int .i64 j] 28))
  have J0 := Lib.hid (I0.out.below B0.out)
  go_wp2_with fail
  refine (works_any _).mono ?_
  rintro e w1 ⟨rfl, hb⟩
  have B1 := Lib.hid (below_after B0.out hb (Nat.le_refl _))
  have IL01 := Lib.hid (J0.out.below hb)
  clear p1 p2
  have X0_1 := Lib.hid (box_below XA.out hb)
  obtain ⟨p1, p2⟩ := box_cells X0_1.out
  clear p3 p4
  have X1_1 := Lib.hid (box_below XB.out hb)
  obtain ⟨p3, p4⟩ := box_cells X1_1.out
  clear hb
  go_wp2_with fail
  refine (large_lit1 _ l0 w1 w I0.out).mono ?_
  rw [HL.out]
  rintro e w2 ⟨rfl, hb⟩
  have B2 := Lib.hid (below_after B1.out hb (Nat.le_refl _))
  have IL02 := Lib.hid (IL01.out.below hb)
  clear p1 p2
  have X0_2 := Lib.hid (box_below X0_1.out hb)
  obtain ⟨p1, p2⟩ := box_cells X0_2.out
  clear p3 p4
  have X1_2 := Lib.hid (box_below X1_1.out hb)
  obtain ⟨p3, p4⟩ := box_cells X1_2.out
  clear hb
  go_wp2_with fail
  refine (up_lit _ l0 a i _ _ _ IL02.out (by have := K.out; omega) E1.out).mono ?_
  rintro e w3 ⟨x, rfl, hi, hb⟩
  have B3 := Lib.hid (below_after B2.out hb (Nat.le_refl _))
  have IL03 := Lib.hid (IL02.out.below hb)
  have Ix3 := Lib.hid hi
  clear hi
  clear p1 p2
  have X0_3 := Lib.hid (box_below X0_2.out hb)
  obtain ⟨p1, p2⟩ := box_cells X0_3.out
  clear p3 p4
  have X1_3 := Lib.hid (box_below X1_2.out hb)
  obtain ⟨p3, p4⟩ := box_cells X1_3.out
  clear hb
  go_wp2_with fail
  refine (up_lit _ l0 b j _ _ _ IL03.out (by have := K.out; omega) E2.out).mono ?_
  rintro e w4 ⟨y, rfl, hi, hb⟩
  have B4 := Lib.hid (below_after B3.out hb (Nat.le_refl _))
  have IL04 := Lib.hid (IL03.out.below hb)
  have Ix4 := Lib.hid (Ix3.out.below hb)
  have Iy4 := Lib.hid hi
  clear hi
  clear p1 p2
  have X0_4 := Lib.hid (box_below X0_3.out hb)
  obtain ⟨p1, p2⟩ := box_cells X0_4.out
  clear p3 p4
  have X1_4 := Lib.hid (box_below X1_3.out hb)
  obtain ⟨p3, p4⟩ := box_cells X1_4.out
  clear hb
  go_wp2_with fail
  go_ret
  exact ⟨rfl, B4.out⟩
set_option maxHeartbeats 4000000 in
set_option maxRecDepth 100000 in
theorem apart1_f (v0 : Value) (l0 : List Tick) (a i b j : Int) (w : World) (h0 : Rcs encT 3 w v0 l0) (hl : decide (150 < l0.length) = false) (hab : (a == b) = false) (r1 : List Tick) (k : Int) (e1 : upR l0 (a, i) = (r1, 0)) (e2 : upR l0 (b, j) = ([], k)) (hk : (k != 0) = true) :
    Calls Try.prog 7 #[v0, .agg #[.int .i64 a, .int .i64 i], .agg #[.int .i64 b, .int .i64 j]] w fun e w' => e = .returned (.bool true) ∧ Below w.heap.size w w' := by
  have HL := Lib.hid hl
  have g0 : l0.length ≤ 150 := by have := of_decide_eq_false hl; omega
  have I0 := Lib.hid h0
  have K := Lib.hid g0
  have X := two_boxes w a i b j
  have XA := Lib.hid X.1
  have XB := Lib.hid X.2
  obtain ⟨A0, c0, rfl, hz0⟩ := h0
  clear hl hz0 g0 X
  have E1 := Lib.hid e1
  have E2 := Lib.hid e2
  clear e1 e2
  obtain ⟨p1, p2⟩ := box_cells XA.out
  obtain ⟨p3, p4⟩ := box_cells XB.out
  go_enter Try.func7, Try.ntmps7
  have B0 := Lib.hid (show Below w.heap.size w ((w.alloc (.cells #[.int .i64 a, .int .i64 i] 28)).alloc (.cells #[.int .i64 b, .int .i64 j] 28)) from below_two w (.cells #[.int .i64 a, .int .i64 i] 28) (.cells #[.int .i64 b, .int .i64 j] 28))
  have J0 := Lib.hid (I0.out.below B0.out)
  go_wp2_with fail
  refine (works_any _).mono ?_
  rintro e w1 ⟨rfl, hb⟩
  have B1 := Lib.hid (below_after B0.out hb (Nat.le_refl _))
  have IL01 := Lib.hid (J0.out.below hb)
  clear p1 p2
  have X0_1 := Lib.hid (box_below XA.out hb)
  obtain ⟨p1, p2⟩ := box_cells X0_1.out
  clear p3 p4
  have X1_1 := Lib.hid (box_below XB.out hb)
  obtain ⟨p3, p4⟩ := box_cells X1_1.out
  clear hb
  go_wp2_with fail
  refine (large_lit1 _ l0 w1 w I0.out).mono ?_
  rw [HL.out]
  rintro e w2 ⟨rfl, hb⟩
  have B2 := Lib.hid (below_after B1.out hb (Nat.le_refl _))
  have IL02 := Lib.hid (IL01.out.below hb)
  clear p1 p2
  have X0_2 := Lib.hid (box_below X0_1.out hb)
  obtain ⟨p1, p2⟩ := box_cells X0_2.out
  clear p3 p4
  have X1_2 := Lib.hid (box_below X1_1.out hb)
  obtain ⟨p3, p4⟩ := box_cells X1_2.out
  clear hb
  go_wp2_with fail
  refine (up_lit _ l0 a i _ _ _ IL02.out (by have := K.out; omega) E1.out).mono ?_
  rintro e w3 ⟨x, rfl, hi, hb⟩
  have B3 := Lib.hid (below_after B2.out hb (Nat.le_refl _))
  have IL03 := Lib.hid (IL02.out.below hb)
  have Ix3 := Lib.hid hi
  clear hi
  clear p1 p2
  have X0_3 := Lib.hid (box_below X0_2.out hb)
  obtain ⟨p1, p2⟩ := box_cells X0_3.out
  clear p3 p4
  have X1_3 := Lib.hid (box_below X1_2.out hb)
  obtain ⟨p3, p4⟩ := box_cells X1_3.out
  clear hb
  go_wp2_with fail
  refine (up_lit _ l0 b j _ _ _ IL03.out (by have := K.out; omega) E2.out).mono ?_
  rintro e w4 ⟨y, rfl, hi, hb⟩
  have B4 := Lib.hid (below_after B3.out hb (Nat.le_refl _))
  have IL04 := Lib.hid (IL03.out.below hb)
  have Ix4 := Lib.hid (Ix3.out.below hb)
  have Iy4 := Lib.hid hi
  clear hi
  clear p1 p2
  have X0_4 := Lib.hid (box_below X0_3.out hb)
  obtain ⟨p1, p2⟩ := box_cells X0_4.out
  clear p3 p4
  have X1_4 := Lib.hid (box_below X1_3.out hb)
  obtain ⟨p3, p4⟩ := box_cells X1_4.out
  clear hb
  go_wp2_with fail
  go_ret
  exact ⟨rfl, B4.out⟩
set_option maxHeartbeats 4000000 in
set_option maxRecDepth 100000 in
theorem apart1_g (v0 : Value) (l0 : List Tick) (a i b j : Int) (w : World) (h0 : Rcs encT 3 w v0 l0) (hl : decide (150 < l0.length) = false) (hab : (a == b) = false) (e1 : upR l0 (a, i) = (up l0 (a, i), 0)) (e2 : upR l0 (b, j) = (up l0 (b, j), 0)) (k : Int) (r3 : List Tick) (e3 : upR (up l0 (a, i)) (b, j) = (r3, k)) (hk : (k != 0) = true) :
    Calls Try.prog 7 #[v0, .agg #[.int .i64 a, .int .i64 i], .agg #[.int .i64 b, .int .i64 j]] w fun e w' => e = .returned (.bool true) ∧ Below w.heap.size w w' := by
  have hne : (a, i) ≠ (b, j) := fun e => by injection e with e1 e2; subst e1; simp at hab
  have Q1 := Lib.hid (apart_up l0 hne)
  have Q2 := Lib.hid (behind_left l0 hne)
  have Q3 := Lib.hid (behind_right l0 hne)
  have Q4 := Lib.hid (show sameT (up (up l0 (a, i)) (b, j)) (joinC (up l0 (a, i)) (up l0 (b, j))) = true by rw [up_up l0 hne]; exact sameT_self _)
  have u1 := up_len l0 (a, i)
  have u2 := up_len l0 (b, j)
  have u3 := join_len (up l0 (a, i)) (up l0 (b, j))
  have u4 := up_len (up l0 (a, i)) (b, j)
  have HL := Lib.hid hl
  have g0 : l0.length ≤ 150 := by have := of_decide_eq_false hl; omega
  have I0 := Lib.hid h0
  have K := Lib.hid g0
  have X := two_boxes w a i b j
  have XA := Lib.hid X.1
  have XB := Lib.hid X.2
  obtain ⟨A0, c0, rfl, hz0⟩ := h0
  clear hl hz0 g0 X
  have E1 := Lib.hid e1
  have E2 := Lib.hid e2
  have E3 := Lib.hid e3
  clear e1 e2 e3 hne
  generalize up l0 (a, i) = X at *
  generalize up l0 (b, j) = Y at *
  generalize hJ : joinC X Y = J at *
  have HJ := Lib.hid hJ
  clear hJ
  have U := Lib.hid (And.intro u1 (And.intro u2 (And.intro u3 u4)))
  clear u1 u2 u3 u4
  obtain ⟨p1, p2⟩ := box_cells XA.out
  obtain ⟨p3, p4⟩ := box_cells XB.out
  go_enter Try.func7, Try.ntmps7
  have B0 := Lib.hid (show Below w.heap.size w ((w.alloc (.cells #[.int .i64 a, .int .i64 i] 28)).alloc (.cells #[.int .i64 b, .int .i64 j] 28)) from below_two w (.cells #[.int .i64 a, .int .i64 i] 28) (.cells #[.int .i64 b, .int .i64 j] 28))
  have J0 := Lib.hid (I0.out.below B0.out)
  go_wp2_with fail
  refine (works_any _).mono ?_
  rintro e w1 ⟨rfl, hb⟩
  have B1 := Lib.hid (below_after B0.out hb (Nat.le_refl _))
  have IL01 := Lib.hid (J0.out.below hb)
  clear p1 p2
  have X0_1 := Lib.hid (box_below XA.out hb)
  obtain ⟨p1, p2⟩ := box_cells X0_1.out
  clear p3 p4
  have X1_1 := Lib.hid (box_below XB.out hb)
  obtain ⟨p3, p4⟩ := box_cells X1_1.out
  clear hb
  go_wp2_with fail
  refine (large_lit1 _ l0 w1 w I0.out).mono ?_
  rw [HL.out]
  rintro e w2 ⟨rfl, hb⟩
  have B2 := Lib.hid (below_after B1.out hb (Nat.le_refl _))
  have IL02 := Lib.hid (IL01.out.below hb)
  clear p1 p2
  have X0_2 := Lib.hid (box_below X0_1.out hb)
  obtain ⟨p1, p2⟩ := box_cells X0_2.out
  clear p3 p4
  have X1_2 := Lib.hid (box_below X1_1.out hb)
  obtain ⟨p3, p4⟩ := box_cells X1_2.out
  clear hb
  go_wp2_with fail
  refine (up_lit _ l0 a i _ _ _ IL02.out (by have := K.out; omega) E1.out).mono ?_
  rintro e w3 ⟨x, rfl, hi, hb⟩
  have B3 := Lib.hid (below_after B2.out hb (Nat.le_refl _))
  have IL03 := Lib.hid (IL02.out.below hb)
  have Ix3 := Lib.hid hi
  clear hi
  clear p1 p2
  have X0_3 := Lib.hid (box_below X0_2.out hb)
  obtain ⟨p1, p2⟩ := box_cells X0_3.out
  clear p3 p4
  have X1_3 := Lib.hid (box_below X1_2.out hb)
  obtain ⟨p3, p4⟩ := box_cells X1_3.out
  clear hb
  go_wp2_with fail
  refine (up_lit _ l0 b j _ _ _ IL03.out (by have := K.out; omega) E2.out).mono ?_
  rintro e w4 ⟨y, rfl, hi, hb⟩
  have B4 := Lib.hid (below_after B3.out hb (Nat.le_refl _))
  have IL04 := Lib.hid (IL03.out.below hb)
  have Ix4 := Lib.hid (Ix3.out.below hb)
  have Iy4 := Lib.hid hi
  clear hi
  clear p1 p2
  have X0_4 := Lib.hid (box_below X0_3.out hb)
  obtain ⟨p1, p2⟩ := box_cells X0_4.out
  clear p3 p4
  have X1_4 := Lib.hid (box_below X1_3.out hb)
  obtain ⟨p3, p4⟩ := box_cells X1_4.out
  clear hb
  go_wp2_with fail
  refine (join_any x y X Y _ Ix4.out Iy4.out (by have := K.out; have := U.out; omega) (by have := K.out; have := U.out; omega)).mono ?_
  rw [HJ.out]
  rintro e w5 ⟨jj, rfl, hi, hb⟩
  have B5 := Lib.hid (below_after B4.out hb (Nat.le_refl _))
  have Ix5 := Lib.hid (Ix4.out.below hb)
  have Iy5 := Lib.hid (Iy4.out.below hb)
  have Ijj5 := Lib.hid hi
  clear hi
  clear p1 p2
  have X0_5 := Lib.hid (box_below X0_4.out hb)
  obtain ⟨p1, p2⟩ := box_cells X0_5.out
  clear p3 p4
  have X1_5 := Lib.hid (box_below X1_4.out hb)
  obtain ⟨p3, p4⟩ := box_cells X1_5.out
  clear hb
  go_wp2_with fail
  refine (up_lit _ X b j _ _ _ Ix5.out (by have := K.out; have := U.out; omega) E3.out).mono ?_
  rintro e w6 ⟨z, rfl, hi, hb⟩
  have B6 := Lib.hid (below_after B5.out hb (Nat.le_refl _))
  have Ix6 := Lib.hid (Ix5.out.below hb)
  have Iy6 := Lib.hid (Iy5.out.below hb)
  have Ijj6 := Lib.hid (Ijj5.out.below hb)
  have Iz6 := Lib.hid hi
  clear hi
  clear p1 p2
  have X0_6 := Lib.hid (box_below X0_5.out hb)
  obtain ⟨p1, p2⟩ := box_cells X0_6.out
  clear p3 p4
  have X1_6 := Lib.hid (box_below X1_5.out hb)
  obtain ⟨p3, p4⟩ := box_cells X1_6.out
  clear hb
  go_wp2_with fail
  refine (compare_clocks x y X Y _ Ix6.out Iy6.out (by have := K.out; have := U.out; omega) (by have := K.out; have := U.out; omega)).mono ?_
  rw [Q1.out]
  rintro e w7 ⟨rfl, hb⟩
  have B7 := Lib.hid (below_after B6.out hb (Nat.le_refl _))
  have Ix7 := Lib.hid (Ix6.out.below hb)
  have Iy7 := Lib.hid (Iy6.out.below hb)
  have Ijj7 := Lib.hid (Ijj6.out.below hb)
  have Iz7 := Lib.hid (Iz6.out.below hb)
  clear p1 p2
  have X0_7 := Lib.hid (box_below X0_6.out hb)
  obtain ⟨p1, p2⟩ := box_cells X0_7.out
  clear p3 p4
  have X1_7 := Lib.hid (box_below X1_6.out hb)
  obtain ⟨p3, p4⟩ := box_cells X1_7.out
  clear hb
  go_wp2_with fail
  refine (compare_clocks x jj X J _ Ix7.out Ijj7.out (by have := K.out; have := U.out; omega) (by have := K.out; have := U.out; omega)).mono ?_
  rw [Q2.out]
  rintro e w8 ⟨rfl, hb⟩
  have B8 := Lib.hid (below_after B7.out hb (Nat.le_refl _))
  have Iy8 := Lib.hid (Iy7.out.below hb)
  have Ijj8 := Lib.hid (Ijj7.out.below hb)
  have Iz8 := Lib.hid (Iz7.out.below hb)
  clear p1 p2
  have X0_8 := Lib.hid (box_below X0_7.out hb)
  obtain ⟨p1, p2⟩ := box_cells X0_8.out
  clear p3 p4
  have X1_8 := Lib.hid (box_below X1_7.out hb)
  obtain ⟨p3, p4⟩ := box_cells X1_8.out
  clear hb
  go_wp2_with fail
  refine (compare_clocks y jj Y J _ Iy8.out Ijj8.out (by have := K.out; have := U.out; omega) (by have := K.out; have := U.out; omega)).mono ?_
  rw [Q3.out]
  rintro e w9 ⟨rfl, hb⟩
  have B9 := Lib.hid (below_after B8.out hb (Nat.le_refl _))
  have Ijj9 := Lib.hid (Ijj8.out.below hb)
  have Iz9 := Lib.hid (Iz8.out.below hb)
  clear p1 p2
  have X0_9 := Lib.hid (box_below X0_8.out hb)
  obtain ⟨p1, p2⟩ := box_cells X0_9.out
  clear p3 p4
  have X1_9 := Lib.hid (box_below X1_8.out hb)
  obtain ⟨p3, p4⟩ := box_cells X1_9.out
  clear hb
  go_wp2_with fail
  go_ret
  exact ⟨rfl, B9.out⟩
set_option maxHeartbeats 4000000 in
set_option maxRecDepth 100000 in
theorem apart1_h (v0 : Value) (l0 : List Tick) (a i b j : Int) (w : World) (h0 : Rcs encT 3 w v0 l0) (hl : decide (150 < l0.length) = false) (hab : (a == b) = false) (e1 : upR l0 (a, i) = (up l0 (a, i), 0)) (e2 : upR l0 (b, j) = (up l0 (b, j), 0)) (e3 : upR (up l0 (a, i)) (b, j) = (up (up l0 (a, i)) (b, j), 0)) :
    Calls Try.prog 7 #[v0, .agg #[.int .i64 a, .int .i64 i], .agg #[.int .i64 b, .int .i64 j]] w fun e w' => e = .returned (.bool true) ∧ Below w.heap.size w w' := by
  have hne : (a, i) ≠ (b, j) := fun e => by injection e with e1 e2; subst e1; simp at hab
  have Q1 := Lib.hid (apart_up l0 hne)
  have Q2 := Lib.hid (behind_left l0 hne)
  have Q3 := Lib.hid (behind_right l0 hne)
  have Q4 := Lib.hid (show sameT (up (up l0 (a, i)) (b, j)) (joinC (up l0 (a, i)) (up l0 (b, j))) = true by rw [up_up l0 hne]; exact sameT_self _)
  have u1 := up_len l0 (a, i)
  have u2 := up_len l0 (b, j)
  have u3 := join_len (up l0 (a, i)) (up l0 (b, j))
  have u4 := up_len (up l0 (a, i)) (b, j)
  have HL := Lib.hid hl
  have g0 : l0.length ≤ 150 := by have := of_decide_eq_false hl; omega
  have I0 := Lib.hid h0
  have K := Lib.hid g0
  have X := two_boxes w a i b j
  have XA := Lib.hid X.1
  have XB := Lib.hid X.2
  obtain ⟨A0, c0, rfl, hz0⟩ := h0
  clear hl hz0 g0 X
  have E1 := Lib.hid e1
  have E2 := Lib.hid e2
  have E3 := Lib.hid e3
  clear e1 e2 e3 hne
  generalize up l0 (a, i) = X at *
  generalize up l0 (b, j) = Y at *
  generalize hJ : joinC X Y = J at *
  generalize up X (b, j) = Z at *
  have HJ := Lib.hid hJ
  clear hJ
  have U := Lib.hid (And.intro u1 (And.intro u2 (And.intro u3 u4)))
  clear u1 u2 u3 u4
  obtain ⟨p1, p2⟩ := box_cells XA.out
  obtain ⟨p3, p4⟩ := box_cells XB.out
  go_enter Try.func7, Try.ntmps7
  have B0 := Lib.hid (show Below w.heap.size w ((w.alloc (.cells #[.int .i64 a, .int .i64 i] 28)).alloc (.cells #[.int .i64 b, .int .i64 j] 28)) from below_two w (.cells #[.int .i64 a, .int .i64 i] 28) (.cells #[.int .i64 b, .int .i64 j] 28))
  have J0 := Lib.hid (I0.out.below B0.out)
  go_wp2_with fail
  refine (works_any _).mono ?_
  rintro e w1 ⟨rfl, hb⟩
  have B1 := Lib.hid (below_after B0.out hb (Nat.le_refl _))
  have IL01 := Lib.hid (J0.out.below hb)
  clear p1 p2
  have X0_1 := Lib.hid (box_below XA.out hb)
  obtain ⟨p1, p2⟩ := box_cells X0_1.out
  clear p3 p4
  have X1_1 := Lib.hid (box_below XB.out hb)
  obtain ⟨p3, p4⟩ := box_cells X1_1.out
  clear hb
  go_wp2_with fail
  refine (large_lit1 _ l0 w1 w I0.out).mono ?_
  rw [HL.out]
  rintro e w2 ⟨rfl, hb⟩
  have B2 := Lib.hid (below_after B1.out hb (Nat.le_refl _))
  have IL02 := Lib.hid (IL01.out.below hb)
  clear p1 p2
  have X0_2 := Lib.hid (box_below X0_1.out hb)
  obtain ⟨p1, p2⟩ := box_cells X0_2.out
  clear p3 p4
  have X1_2 := Lib.hid (box_below X1_1.out hb)
  obtain ⟨p3, p4⟩ := box_cells X1_2.out
  clear hb
  go_wp2_with fail
  refine (up_lit _ l0 a i _ _ _ IL02.out (by have := K.out; omega) E1.out).mono ?_
  rintro e w3 ⟨x, rfl, hi, hb⟩
  have B3 := Lib.hid (below_after B2.out hb (Nat.le_refl _))
  have IL03 := Lib.hid (IL02.out.below hb)
  have Ix3 := Lib.hid hi
  clear hi
  clear p1 p2
  have X0_3 := Lib.hid (box_below X0_2.out hb)
  obtain ⟨p1, p2⟩ := box_cells X0_3.out
  clear p3 p4
  have X1_3 := Lib.hid (box_below X1_2.out hb)
  obtain ⟨p3, p4⟩ := box_cells X1_3.out
  clear hb
  go_wp2_with fail
  refine (up_lit _ l0 b j _ _ _ IL03.out (by have := K.out; omega) E2.out).mono ?_
  rintro e w4 ⟨y, rfl, hi, hb⟩
  have B4 := Lib.hid (below_after B3.out hb (Nat.le_refl _))
  have IL04 := Lib.hid (IL03.out.below hb)
  have Ix4 := Lib.hid (Ix3.out.below hb)
  have Iy4 := Lib.hid hi
  clear hi
  clear p1 p2
  have X0_4 := Lib.hid (box_below X0_3.out hb)
  obtain ⟨p1, p2⟩ := box_cells X0_4.out
  clear p3 p4
  have X1_4 := Lib.hid (box_below X1_3.out hb)
  obtain ⟨p3, p4⟩ := box_cells X1_4.out
  clear hb
  go_wp2_with fail
  refine (join_any x y X Y _ Ix4.out Iy4.out (by have := K.out; have := U.out; omega) (by have := K.out; have := U.out; omega)).mono ?_
  rw [HJ.out]
  rintro e w5 ⟨jj, rfl, hi, hb⟩
  have B5 := Lib.hid (below_after B4.out hb (Nat.le_refl _))
  have Ix5 := Lib.hid (Ix4.out.below hb)
  have Iy5 := Lib.hid (Iy4.out.below hb)
  have Ijj5 := Lib.hid hi
  clear hi
  clear p1 p2
  have X0_5 := Lib.hid (box_below X0_4.out hb)
  obtain ⟨p1, p2⟩ := box_cells X0_5.out
  clear p3 p4
  have X1_5 := Lib.hid (box_below X1_4.out hb)
  obtain ⟨p3, p4⟩ := box_cells X1_5.out
  clear hb
  go_wp2_with fail
  refine (up_lit _ X b j _ _ _ Ix5.out (by have := K.out; have := U.out; omega) E3.out).mono ?_
  rintro e w6 ⟨z, rfl, hi, hb⟩
  have B6 := Lib.hid (below_after B5.out hb (Nat.le_refl _))
  have Ix6 := Lib.hid (Ix5.out.below hb)
  have Iy6 := Lib.hid (Iy5.out.below hb)
  have Ijj6 := Lib.hid (Ijj5.out.below hb)
  have Iz6 := Lib.hid hi
  clear hi
  clear p1 p2
  have X0_6 := Lib.hid (box_below X0_5.out hb)
  obtain ⟨p1, p2⟩ := box_cells X0_6.out
  clear p3 p4
  have X1_6 := Lib.hid (box_below X1_5.out hb)
  obtain ⟨p3, p4⟩ := box_cells X1_6.out
  clear hb
  go_wp2_with fail
  refine (compare_clocks x y X Y _ Ix6.out Iy6.out (by have := K.out; have := U.out; omega) (by have := K.out; have := U.out; omega)).mono ?_
  rw [Q1.out]
  rintro e w7 ⟨rfl, hb⟩
  have B7 := Lib.hid (below_after B6.out hb (Nat.le_refl _))
  have Ix7 := Lib.hid (Ix6.out.below hb)
  have Iy7 := Lib.hid (Iy6.out.below hb)
  have Ijj7 := Lib.hid (Ijj6.out.below hb)
  have Iz7 := Lib.hid (Iz6.out.below hb)
  clear p1 p2
  have X0_7 := Lib.hid (box_below X0_6.out hb)
  obtain ⟨p1, p2⟩ := box_cells X0_7.out
  clear p3 p4
  have X1_7 := Lib.hid (box_below X1_6.out hb)
  obtain ⟨p3, p4⟩ := box_cells X1_7.out
  clear hb
  go_wp2_with fail
  refine (compare_clocks x jj X J _ Ix7.out Ijj7.out (by have := K.out; have := U.out; omega) (by have := K.out; have := U.out; omega)).mono ?_
  rw [Q2.out]
  rintro e w8 ⟨rfl, hb⟩
  have B8 := Lib.hid (below_after B7.out hb (Nat.le_refl _))
  have Iy8 := Lib.hid (Iy7.out.below hb)
  have Ijj8 := Lib.hid (Ijj7.out.below hb)
  have Iz8 := Lib.hid (Iz7.out.below hb)
  clear p1 p2
  have X0_8 := Lib.hid (box_below X0_7.out hb)
  obtain ⟨p1, p2⟩ := box_cells X0_8.out
  clear p3 p4
  have X1_8 := Lib.hid (box_below X1_7.out hb)
  obtain ⟨p3, p4⟩ := box_cells X1_8.out
  clear hb
  go_wp2_with fail
  refine (compare_clocks y jj Y J _ Iy8.out Ijj8.out (by have := K.out; have := U.out; omega) (by have := K.out; have := U.out; omega)).mono ?_
  rw [Q3.out]
  rintro e w9 ⟨rfl, hb⟩
  have B9 := Lib.hid (below_after B8.out hb (Nat.le_refl _))
  have Ijj9 := Lib.hid (Ijj8.out.below hb)
  have Iz9 := Lib.hid (Iz8.out.below hb)
  clear p1 p2
  have X0_9 := Lib.hid (box_below X0_8.out hb)
  obtain ⟨p1, p2⟩ := box_cells X0_9.out
  clear p3 p4
  have X1_9 := Lib.hid (box_below X1_8.out hb)
  obtain ⟨p3, p4⟩ := box_cells X1_9.out
  clear hb
  go_wp2_with fail
  refine (ticks_any z jj Z J _ Iz9.out Ijj9.out (by have := K.out; have := U.out; omega)).mono ?_
  rw [Q4.out]
  rintro e w10 ⟨rfl, hb⟩
  have B10 := Lib.hid (below_after B9.out hb (Nat.le_refl _))
  clear p1 p2
  have X0_10 := Lib.hid (box_below X0_9.out hb)
  obtain ⟨p1, p2⟩ := box_cells X0_10.out
  clear p3 p4
  have X1_10 := Lib.hid (box_below X1_9.out hb)
  obtain ⟨p3, p4⟩ := box_cells X1_10.out
  clear hb
  go_wp2_with fail
  go_ret
  exact ⟨rfl, B10.out⟩
set_option maxHeartbeats 4000000 in
set_option maxRecDepth 100000 in
theorem apart2_e (v0 : Value) (l0 : List Tick) (a i j : Int) (w : World) (h0 : Rcs encT 3 w v0 l0) (hl : decide (150 < l0.length) = false) (hij : (i == j) = false) (k : Int) (r2 : List Tick) (k2 : Int) (e1 : upR l0 (a, i) = ([], k)) (hk : (k != 0) = true) (e2 : upR l0 (a, j) = (r2, k2)) :
    Calls Try.prog 7 #[v0, .agg #[.int .i64 a, .int .i64 i], .agg #[.int .i64 a, .int .i64 j]] w fun e w' => e = .returned (.bool true) ∧ Below w.heap.size w w' := by
  have HL := Lib.hid hl
  have g0 : l0.length ≤ 150 := by have := of_decide_eq_false hl; omega
  have I0 := Lib.hid h0
  have K := Lib.hid g0
  have X := two_boxes w a i a j
  have XA := Lib.hid X.1
  have XB := Lib.hid X.2
  obtain ⟨A0, c0, rfl, hz0⟩ := h0
  clear hl hz0 g0 X
  have E1 := Lib.hid e1
  have E2 := Lib.hid e2
  clear e1 e2
  obtain ⟨p1, p2⟩ := box_cells XA.out
  obtain ⟨p3, p4⟩ := box_cells XB.out
  go_enter Try.func7, Try.ntmps7
  have B0 := Lib.hid (show Below w.heap.size w ((w.alloc (.cells #[.int .i64 a, .int .i64 i] 28)).alloc (.cells #[.int .i64 a, .int .i64 j] 28)) from below_two w (.cells #[.int .i64 a, .int .i64 i] 28) (.cells #[.int .i64 a, .int .i64 j] 28))
  have J0 := Lib.hid (I0.out.below B0.out)
  go_wp2_with fail
  refine (works_any _).mono ?_
  rintro e w1 ⟨rfl, hb⟩
  have B1 := Lib.hid (below_after B0.out hb (Nat.le_refl _))
  have IL01 := Lib.hid (J0.out.below hb)
  clear p1 p2
  have X0_1 := Lib.hid (box_below XA.out hb)
  obtain ⟨p1, p2⟩ := box_cells X0_1.out
  clear p3 p4
  have X1_1 := Lib.hid (box_below XB.out hb)
  obtain ⟨p3, p4⟩ := box_cells X1_1.out
  clear hb
  go_wp2_with fail
  refine (large_lit1 _ l0 w1 w I0.out).mono ?_
  rw [HL.out]
  rintro e w2 ⟨rfl, hb⟩
  have B2 := Lib.hid (below_after B1.out hb (Nat.le_refl _))
  have IL02 := Lib.hid (IL01.out.below hb)
  clear p1 p2
  have X0_2 := Lib.hid (box_below X0_1.out hb)
  obtain ⟨p1, p2⟩ := box_cells X0_2.out
  clear p3 p4
  have X1_2 := Lib.hid (box_below X1_1.out hb)
  obtain ⟨p3, p4⟩ := box_cells X1_2.out
  clear hb
  go_wp2_with fail
  refine (up_lit _ l0 a i _ _ _ IL02.out (by have := K.out; omega) E1.out).mono ?_
  rintro e w3 ⟨x, rfl, hi, hb⟩
  have B3 := Lib.hid (below_after B2.out hb (Nat.le_refl _))
  have IL03 := Lib.hid (IL02.out.below hb)
  have Ix3 := Lib.hid hi
  clear hi
  clear p1 p2
  have X0_3 := Lib.hid (box_below X0_2.out hb)
  obtain ⟨p1, p2⟩ := box_cells X0_3.out
  clear p3 p4
  have X1_3 := Lib.hid (box_below X1_2.out hb)
  obtain ⟨p3, p4⟩ := box_cells X1_3.out
  clear hb
  go_wp2_with fail
  refine (up_lit _ l0 a j _ _ _ IL03.out (by have := K.out; omega) E2.out).mono ?_
  rintro e w4 ⟨y, rfl, hi, hb⟩
  have B4 := Lib.hid (below_after B3.out hb (Nat.le_refl _))
  have IL04 := Lib.hid (IL03.out.below hb)
  have Ix4 := Lib.hid (Ix3.out.below hb)
  have Iy4 := Lib.hid hi
  clear hi
  clear p1 p2
  have X0_4 := Lib.hid (box_below X0_3.out hb)
  obtain ⟨p1, p2⟩ := box_cells X0_4.out
  clear p3 p4
  have X1_4 := Lib.hid (box_below X1_3.out hb)
  obtain ⟨p3, p4⟩ := box_cells X1_4.out
  clear hb
  go_wp2_with fail
  go_ret
  exact ⟨rfl, B4.out⟩
set_option maxHeartbeats 4000000 in
set_option maxRecDepth 100000 in
theorem apart2_f (v0 : Value) (l0 : List Tick) (a i j : Int) (w : World) (h0 : Rcs encT 3 w v0 l0) (hl : decide (150 < l0.length) = false) (hij : (i == j) = false) (r1 : List Tick) (k : Int) (e1 : upR l0 (a, i) = (r1, 0)) (e2 : upR l0 (a, j) = ([], k)) (hk : (k != 0) = true) :
    Calls Try.prog 7 #[v0, .agg #[.int .i64 a, .int .i64 i], .agg #[.int .i64 a, .int .i64 j]] w fun e w' => e = .returned (.bool true) ∧ Below w.heap.size w w' := by
  have HL := Lib.hid hl
  have g0 : l0.length ≤ 150 := by have := of_decide_eq_false hl; omega
  have I0 := Lib.hid h0
  have K := Lib.hid g0
  have X := two_boxes w a i a j
  have XA := Lib.hid X.1
  have XB := Lib.hid X.2
  obtain ⟨A0, c0, rfl, hz0⟩ := h0
  clear hl hz0 g0 X
  have E1 := Lib.hid e1
  have E2 := Lib.hid e2
  clear e1 e2
  obtain ⟨p1, p2⟩ := box_cells XA.out
  obtain ⟨p3, p4⟩ := box_cells XB.out
  go_enter Try.func7, Try.ntmps7
  have B0 := Lib.hid (show Below w.heap.size w ((w.alloc (.cells #[.int .i64 a, .int .i64 i] 28)).alloc (.cells #[.int .i64 a, .int .i64 j] 28)) from below_two w (.cells #[.int .i64 a, .int .i64 i] 28) (.cells #[.int .i64 a, .int .i64 j] 28))
  have J0 := Lib.hid (I0.out.below B0.out)
  go_wp2_with fail
  refine (works_any _).mono ?_
  rintro e w1 ⟨rfl, hb⟩
  have B1 := Lib.hid (below_after B0.out hb (Nat.le_refl _))
  have IL01 := Lib.hid (J0.out.below hb)
  clear p1 p2
  have X0_1 := Lib.hid (box_below XA.out hb)
  obtain ⟨p1, p2⟩ := box_cells X0_1.out
  clear p3 p4
  have X1_1 := Lib.hid (box_below XB.out hb)
  obtain ⟨p3, p4⟩ := box_cells X1_1.out
  clear hb
  go_wp2_with fail
  refine (large_lit1 _ l0 w1 w I0.out).mono ?_
  rw [HL.out]
  rintro e w2 ⟨rfl, hb⟩
  have B2 := Lib.hid (below_after B1.out hb (Nat.le_refl _))
  have IL02 := Lib.hid (IL01.out.below hb)
  clear p1 p2
  have X0_2 := Lib.hid (box_below X0_1.out hb)
  obtain ⟨p1, p2⟩ := box_cells X0_2.out
  clear p3 p4
  have X1_2 := Lib.hid (box_below X1_1.out hb)
  obtain ⟨p3, p4⟩ := box_cells X1_2.out
  clear hb
  go_wp2_with fail
  refine (up_lit _ l0 a i _ _ _ IL02.out (by have := K.out; omega) E1.out).mono ?_
  rintro e w3 ⟨x, rfl, hi, hb⟩
  have B3 := Lib.hid (below_after B2.out hb (Nat.le_refl _))
  have IL03 := Lib.hid (IL02.out.below hb)
  have Ix3 := Lib.hid hi
  clear hi
  clear p1 p2
  have X0_3 := Lib.hid (box_below X0_2.out hb)
  obtain ⟨p1, p2⟩ := box_cells X0_3.out
  clear p3 p4
  have X1_3 := Lib.hid (box_below X1_2.out hb)
  obtain ⟨p3, p4⟩ := box_cells X1_3.out
  clear hb
  go_wp2_with fail
  refine (up_lit _ l0 a j _ _ _ IL03.out (by have := K.out; omega) E2.out).mono ?_
  rintro e w4 ⟨y, rfl, hi, hb⟩
  have B4 := Lib.hid (below_after B3.out hb (Nat.le_refl _))
  have IL04 := Lib.hid (IL03.out.below hb)
  have Ix4 := Lib.hid (Ix3.out.below hb)
  have Iy4 := Lib.hid hi
  clear hi
  clear p1 p2
  have X0_4 := Lib.hid (box_below X0_3.out hb)
  obtain ⟨p1, p2⟩ := box_cells X0_4.out
  clear p3 p4
  have X1_4 := Lib.hid (box_below X1_3.out hb)
  obtain ⟨p3, p4⟩ := box_cells X1_4.out
  clear hb
  go_wp2_with fail
  go_ret
  exact ⟨rfl, B4.out⟩
set_option maxHeartbeats 4000000 in
set_option maxRecDepth 100000 in
theorem apart2_g (v0 : Value) (l0 : List Tick) (a i j : Int) (w : World) (h0 : Rcs encT 3 w v0 l0) (hl : decide (150 < l0.length) = false) (hij : (i == j) = false) (e1 : upR l0 (a, i) = (up l0 (a, i), 0)) (e2 : upR l0 (a, j) = (up l0 (a, j), 0)) (k : Int) (r3 : List Tick) (e3 : upR (up l0 (a, i)) (a, j) = (r3, k)) (hk : (k != 0) = true) :
    Calls Try.prog 7 #[v0, .agg #[.int .i64 a, .int .i64 i], .agg #[.int .i64 a, .int .i64 j]] w fun e w' => e = .returned (.bool true) ∧ Below w.heap.size w w' := by
  have hne : (a, i) ≠ (a, j) := fun e => by injection e with e1 e2; subst e2; simp at hij
  have Q1 := Lib.hid (apart_up l0 hne)
  have Q2 := Lib.hid (behind_left l0 hne)
  have Q3 := Lib.hid (behind_right l0 hne)
  have Q4 := Lib.hid (show sameT (up (up l0 (a, i)) (a, j)) (joinC (up l0 (a, i)) (up l0 (a, j))) = true by rw [up_up l0 hne]; exact sameT_self _)
  have u1 := up_len l0 (a, i)
  have u2 := up_len l0 (a, j)
  have u3 := join_len (up l0 (a, i)) (up l0 (a, j))
  have u4 := up_len (up l0 (a, i)) (a, j)
  have HL := Lib.hid hl
  have g0 : l0.length ≤ 150 := by have := of_decide_eq_false hl; omega
  have I0 := Lib.hid h0
  have K := Lib.hid g0
  have X := two_boxes w a i a j
  have XA := Lib.hid X.1
  have XB := Lib.hid X.2
  obtain ⟨A0, c0, rfl, hz0⟩ := h0
  clear hl hz0 g0 X
  have E1 := Lib.hid e1
  have E2 := Lib.hid e2
  have E3 := Lib.hid e3
  clear e1 e2 e3 hne
  generalize up l0 (a, i) = X at *
  generalize up l0 (a, j) = Y at *
  generalize hJ : joinC X Y = J at *
  have HJ := Lib.hid hJ
  clear hJ
  have U := Lib.hid (And.intro u1 (And.intro u2 (And.intro u3 u4)))
  clear u1 u2 u3 u4
  obtain ⟨p1, p2⟩ := box_cells XA.out
  obtain ⟨p3, p4⟩ := box_cells XB.out
  go_enter Try.func7, Try.ntmps7
  have B0 := Lib.hid (show Below w.heap.size w ((w.alloc (.cells #[.int .i64 a, .int .i64 i] 28)).alloc (.cells #[.int .i64 a, .int .i64 j] 28)) from below_two w (.cells #[.int .i64 a, .int .i64 i] 28) (.cells #[.int .i64 a, .int .i64 j] 28))
  have J0 := Lib.hid (I0.out.below B0.out)
  go_wp2_with fail
  refine (works_any _).mono ?_
  rintro e w1 ⟨rfl, hb⟩
  have B1 := Lib.hid (below_after B0.out hb (Nat.le_refl _))
  have IL01 := Lib.hid (J0.out.below hb)
  clear p1 p2
  have X0_1 := Lib.hid (box_below XA.out hb)
  obtain ⟨p1, p2⟩ := box_cells X0_1.out
  clear p3 p4
  have X1_1 := Lib.hid (box_below XB.out hb)
  obtain ⟨p3, p4⟩ := box_cells X1_1.out
  clear hb
  go_wp2_with fail
  refine (large_lit1 _ l0 w1 w I0.out).mono ?_
  rw [HL.out]
  rintro e w2 ⟨rfl, hb⟩
  have B2 := Lib.hid (below_after B1.out hb (Nat.le_refl _))
  have IL02 := Lib.hid (IL01.out.below hb)
  clear p1 p2
  have X0_2 := Lib.hid (box_below X0_1.out hb)
  obtain ⟨p1, p2⟩ := box_cells X0_2.out
  clear p3 p4
  have X1_2 := Lib.hid (box_below X1_1.out hb)
  obtain ⟨p3, p4⟩ := box_cells X1_2.out
  clear hb
  go_wp2_with fail
  refine (up_lit _ l0 a i _ _ _ IL02.out (by have := K.out; omega) E1.out).mono ?_
  rintro e w3 ⟨x, rfl, hi, hb⟩
  have B3 := Lib.hid (below_after B2.out hb (Nat.le_refl _))
  have IL03 := Lib.hid (IL02.out.below hb)
  have Ix3 := Lib.hid hi
  clear hi
  clear p1 p2
  have X0_3 := Lib.hid (box_below X0_2.out hb)
  obtain ⟨p1, p2⟩ := box_cells X0_3.out
  clear p3 p4
  have X1_3 := Lib.hid (box_below X1_2.out hb)
  obtain ⟨p3, p4⟩ := box_cells X1_3.out
  clear hb
  go_wp2_with fail
  refine (up_lit _ l0 a j _ _ _ IL03.out (by have := K.out; omega) E2.out).mono ?_
  rintro e w4 ⟨y, rfl, hi, hb⟩
  have B4 := Lib.hid (below_after B3.out hb (Nat.le_refl _))
  have IL04 := Lib.hid (IL03.out.below hb)
  have Ix4 := Lib.hid (Ix3.out.below hb)
  have Iy4 := Lib.hid hi
  clear hi
  clear p1 p2
  have X0_4 := Lib.hid (box_below X0_3.out hb)
  obtain ⟨p1, p2⟩ := box_cells X0_4.out
  clear p3 p4
  have X1_4 := Lib.hid (box_below X1_3.out hb)
  obtain ⟨p3, p4⟩ := box_cells X1_4.out
  clear hb
  go_wp2_with fail
  refine (join_any x y X Y _ Ix4.out Iy4.out (by have := K.out; have := U.out; omega) (by have := K.out; have := U.out; omega)).mono ?_
  rw [HJ.out]
  rintro e w5 ⟨jj, rfl, hi, hb⟩
  have B5 := Lib.hid (below_after B4.out hb (Nat.le_refl _))
  have Ix5 := Lib.hid (Ix4.out.below hb)
  have Iy5 := Lib.hid (Iy4.out.below hb)
  have Ijj5 := Lib.hid hi
  clear hi
  clear p1 p2
  have X0_5 := Lib.hid (box_below X0_4.out hb)
  obtain ⟨p1, p2⟩ := box_cells X0_5.out
  clear p3 p4
  have X1_5 := Lib.hid (box_below X1_4.out hb)
  obtain ⟨p3, p4⟩ := box_cells X1_5.out
  clear hb
  go_wp2_with fail
  refine (up_lit _ X a j _ _ _ Ix5.out (by have := K.out; have := U.out; omega) E3.out).mono ?_
  rintro e w6 ⟨z, rfl, hi, hb⟩
  have B6 := Lib.hid (below_after B5.out hb (Nat.le_refl _))
  have Ix6 := Lib.hid (Ix5.out.below hb)
  have Iy6 := Lib.hid (Iy5.out.below hb)
  have Ijj6 := Lib.hid (Ijj5.out.below hb)
  have Iz6 := Lib.hid hi
  clear hi
  clear p1 p2
  have X0_6 := Lib.hid (box_below X0_5.out hb)
  obtain ⟨p1, p2⟩ := box_cells X0_6.out
  clear p3 p4
  have X1_6 := Lib.hid (box_below X1_5.out hb)
  obtain ⟨p3, p4⟩ := box_cells X1_6.out
  clear hb
  go_wp2_with fail
  refine (compare_clocks x y X Y _ Ix6.out Iy6.out (by have := K.out; have := U.out; omega) (by have := K.out; have := U.out; omega)).mono ?_
  rw [Q1.out]
  rintro e w7 ⟨rfl, hb⟩
  have B7 := Lib.hid (below_after B6.out hb (Nat.le_refl _))
  have Ix7 := Lib.hid (Ix6.out.below hb)
  have Iy7 := Lib.hid (Iy6.out.below hb)
  have Ijj7 := Lib.hid (Ijj6.out.below hb)
  have Iz7 := Lib.hid (Iz6.out.below hb)
  clear p1 p2
  have X0_7 := Lib.hid (box_below X0_6.out hb)
  obtain ⟨p1, p2⟩ := box_cells X0_7.out
  clear p3 p4
  have X1_7 := Lib.hid (box_below X1_6.out hb)
  obtain ⟨p3, p4⟩ := box_cells X1_7.out
  clear hb
  go_wp2_with fail
  refine (compare_clocks x jj X J _ Ix7.out Ijj7.out (by have := K.out; have := U.out; omega) (by have := K.out; have := U.out; omega)).mono ?_
  rw [Q2.out]
  rintro e w8 ⟨rfl, hb⟩
  have B8 := Lib.hid (below_after B7.out hb (Nat.le_refl _))
  have Iy8 := Lib.hid (Iy7.out.below hb)
  have Ijj8 := Lib.hid (Ijj7.out.below hb)
  have Iz8 := Lib.hid (Iz7.out.below hb)
  clear p1 p2
  have X0_8 := Lib.hid (box_below X0_7.out hb)
  obtain ⟨p1, p2⟩ := box_cells X0_8.out
  clear p3 p4
  have X1_8 := Lib.hid (box_below X1_7.out hb)
  obtain ⟨p3, p4⟩ := box_cells X1_8.out
  clear hb
  go_wp2_with fail
  refine (compare_clocks y jj Y J _ Iy8.out Ijj8.out (by have := K.out; have := U.out; omega) (by have := K.out; have := U.out; omega)).mono ?_
  rw [Q3.out]
  rintro e w9 ⟨rfl, hb⟩
  have B9 := Lib.hid (below_after B8.out hb (Nat.le_refl _))
  have Ijj9 := Lib.hid (Ijj8.out.below hb)
  have Iz9 := Lib.hid (Iz8.out.below hb)
  clear p1 p2
  have X0_9 := Lib.hid (box_below X0_8.out hb)
  obtain ⟨p1, p2⟩ := box_cells X0_9.out
  clear p3 p4
  have X1_9 := Lib.hid (box_below X1_8.out hb)
  obtain ⟨p3, p4⟩ := box_cells X1_9.out
  clear hb
  go_wp2_with fail
  go_ret
  exact ⟨rfl, B9.out⟩
set_option maxHeartbeats 4000000 in
set_option maxRecDepth 100000 in
theorem apart2_h (v0 : Value) (l0 : List Tick) (a i j : Int) (w : World) (h0 : Rcs encT 3 w v0 l0) (hl : decide (150 < l0.length) = false) (hij : (i == j) = false) (e1 : upR l0 (a, i) = (up l0 (a, i), 0)) (e2 : upR l0 (a, j) = (up l0 (a, j), 0)) (e3 : upR (up l0 (a, i)) (a, j) = (up (up l0 (a, i)) (a, j), 0)) :
    Calls Try.prog 7 #[v0, .agg #[.int .i64 a, .int .i64 i], .agg #[.int .i64 a, .int .i64 j]] w fun e w' => e = .returned (.bool true) ∧ Below w.heap.size w w' := by
  have hne : (a, i) ≠ (a, j) := fun e => by injection e with e1 e2; subst e2; simp at hij
  have Q1 := Lib.hid (apart_up l0 hne)
  have Q2 := Lib.hid (behind_left l0 hne)
  have Q3 := Lib.hid (behind_right l0 hne)
  have Q4 := Lib.hid (show sameT (up (up l0 (a, i)) (a, j)) (joinC (up l0 (a, i)) (up l0 (a, j))) = true by rw [up_up l0 hne]; exact sameT_self _)
  have u1 := up_len l0 (a, i)
  have u2 := up_len l0 (a, j)
  have u3 := join_len (up l0 (a, i)) (up l0 (a, j))
  have u4 := up_len (up l0 (a, i)) (a, j)
  have HL := Lib.hid hl
  have g0 : l0.length ≤ 150 := by have := of_decide_eq_false hl; omega
  have I0 := Lib.hid h0
  have K := Lib.hid g0
  have X := two_boxes w a i a j
  have XA := Lib.hid X.1
  have XB := Lib.hid X.2
  obtain ⟨A0, c0, rfl, hz0⟩ := h0
  clear hl hz0 g0 X
  have E1 := Lib.hid e1
  have E2 := Lib.hid e2
  have E3 := Lib.hid e3
  clear e1 e2 e3 hne
  generalize up l0 (a, i) = X at *
  generalize up l0 (a, j) = Y at *
  generalize hJ : joinC X Y = J at *
  generalize up X (a, j) = Z at *
  have HJ := Lib.hid hJ
  clear hJ
  have U := Lib.hid (And.intro u1 (And.intro u2 (And.intro u3 u4)))
  clear u1 u2 u3 u4
  obtain ⟨p1, p2⟩ := box_cells XA.out
  obtain ⟨p3, p4⟩ := box_cells XB.out
  go_enter Try.func7, Try.ntmps7
  have B0 := Lib.hid (show Below w.heap.size w ((w.alloc (.cells #[.int .i64 a, .int .i64 i] 28)).alloc (.cells #[.int .i64 a, .int .i64 j] 28)) from below_two w (.cells #[.int .i64 a, .int .i64 i] 28) (.cells #[.int .i64 a, .int .i64 j] 28))
  have J0 := Lib.hid (I0.out.below B0.out)
  go_wp2_with fail
  refine (works_any _).mono ?_
  rintro e w1 ⟨rfl, hb⟩
  have B1 := Lib.hid (below_after B0.out hb (Nat.le_refl _))
  have IL01 := Lib.hid (J0.out.below hb)
  clear p1 p2
  have X0_1 := Lib.hid (box_below XA.out hb)
  obtain ⟨p1, p2⟩ := box_cells X0_1.out
  clear p3 p4
  have X1_1 := Lib.hid (box_below XB.out hb)
  obtain ⟨p3, p4⟩ := box_cells X1_1.out
  clear hb
  go_wp2_with fail
  refine (large_lit1 _ l0 w1 w I0.out).mono ?_
  rw [HL.out]
  rintro e w2 ⟨rfl, hb⟩
  have B2 := Lib.hid (below_after B1.out hb (Nat.le_refl _))
  have IL02 := Lib.hid (IL01.out.below hb)
  clear p1 p2
  have X0_2 := Lib.hid (box_below X0_1.out hb)
  obtain ⟨p1, p2⟩ := box_cells X0_2.out
  clear p3 p4
  have X1_2 := Lib.hid (box_below X1_1.out hb)
  obtain ⟨p3, p4⟩ := box_cells X1_2.out
  clear hb
  go_wp2_with fail
  refine (up_lit _ l0 a i _ _ _ IL02.out (by have := K.out; omega) E1.out).mono ?_
  rintro e w3 ⟨x, rfl, hi, hb⟩
  have B3 := Lib.hid (below_after B2.out hb (Nat.le_refl _))
  have IL03 := Lib.hid (IL02.out.below hb)
  have Ix3 := Lib.hid hi
  clear hi
  clear p1 p2
  have X0_3 := Lib.hid (box_below X0_2.out hb)
  obtain ⟨p1, p2⟩ := box_cells X0_3.out
  clear p3 p4
  have X1_3 := Lib.hid (box_below X1_2.out hb)
  obtain ⟨p3, p4⟩ := box_cells X1_3.out
  clear hb
  go_wp2_with fail
  refine (up_lit _ l0 a j _ _ _ IL03.out (by have := K.out; omega) E2.out).mono ?_
  rintro e w4 ⟨y, rfl, hi, hb⟩
  have B4 := Lib.hid (below_after B3.out hb (Nat.le_refl _))
  have IL04 := Lib.hid (IL03.out.below hb)
  have Ix4 := Lib.hid (Ix3.out.below hb)
  have Iy4 := Lib.hid hi
  clear hi
  clear p1 p2
  have X0_4 := Lib.hid (box_below X0_3.out hb)
  obtain ⟨p1, p2⟩ := box_cells X0_4.out
  clear p3 p4
  have X1_4 := Lib.hid (box_below X1_3.out hb)
  obtain ⟨p3, p4⟩ := box_cells X1_4.out
  clear hb
  go_wp2_with fail
  refine (join_any x y X Y _ Ix4.out Iy4.out (by have := K.out; have := U.out; omega) (by have := K.out; have := U.out; omega)).mono ?_
  rw [HJ.out]
  rintro e w5 ⟨jj, rfl, hi, hb⟩
  have B5 := Lib.hid (below_after B4.out hb (Nat.le_refl _))
  have Ix5 := Lib.hid (Ix4.out.below hb)
  have Iy5 := Lib.hid (Iy4.out.below hb)
  have Ijj5 := Lib.hid hi
  clear hi
  clear p1 p2
  have X0_5 := Lib.hid (box_below X0_4.out hb)
  obtain ⟨p1, p2⟩ := box_cells X0_5.out
  clear p3 p4
  have X1_5 := Lib.hid (box_below X1_4.out hb)
  obtain ⟨p3, p4⟩ := box_cells X1_5.out
  clear hb
  go_wp2_with fail
  refine (up_lit _ X a j _ _ _ Ix5.out (by have := K.out; have := U.out; omega) E3.out).mono ?_
  rintro e w6 ⟨z, rfl, hi, hb⟩
  have B6 := Lib.hid (below_after B5.out hb (Nat.le_refl _))
  have Ix6 := Lib.hid (Ix5.out.below hb)
  have Iy6 := Lib.hid (Iy5.out.below hb)
  have Ijj6 := Lib.hid (Ijj5.out.below hb)
  have Iz6 := Lib.hid hi
  clear hi
  clear p1 p2
  have X0_6 := Lib.hid (box_below X0_5.out hb)
  obtain ⟨p1, p2⟩ := box_cells X0_6.out
  clear p3 p4
  have X1_6 := Lib.hid (box_below X1_5.out hb)
  obtain ⟨p3, p4⟩ := box_cells X1_6.out
  clear hb
  go_wp2_with fail
  refine (compare_clocks x y X Y _ Ix6.out Iy6.out (by have := K.out; have := U.out; omega) (by have := K.out; have := U.out; omega)).mono ?_
  rw [Q1.out]
  rintro e w7 ⟨rfl, hb⟩
  have B7 := Lib.hid (below_after B6.out hb (Nat.le_refl _))
  have Ix7 := Lib.hid (Ix6.out.below hb)
  have Iy7 := Lib.hid (Iy6.out.below hb)
  have Ijj7 := Lib.hid (Ijj6.out.below hb)
  have Iz7 := Lib.hid (Iz6.out.below hb)
  clear p1 p2
  have X0_7 := Lib.hid (box_below X0_6.out hb)
  obtain ⟨p1, p2⟩ := box_cells X0_7.out
  clear p3 p4
  have X1_7 := Lib.hid (box_below X1_6.out hb)
  obtain ⟨p3, p4⟩ := box_cells X1_7.out
  clear hb
  go_wp2_with fail
  refine (compare_clocks x jj X J _ Ix7.out Ijj7.out (by have := K.out; have := U.out; omega) (by have := K.out; have := U.out; omega)).mono ?_
  rw [Q2.out]
  rintro e w8 ⟨rfl, hb⟩
  have B8 := Lib.hid (below_after B7.out hb (Nat.le_refl _))
  have Iy8 := Lib.hid (Iy7.out.below hb)
  have Ijj8 := Lib.hid (Ijj7.out.below hb)
  have Iz8 := Lib.hid (Iz7.out.below hb)
  clear p1 p2
  have X0_8 := Lib.hid (box_below X0_7.out hb)
  obtain ⟨p1, p2⟩ := box_cells X0_8.out
  clear p3 p4
  have X1_8 := Lib.hid (box_below X1_7.out hb)
  obtain ⟨p3, p4⟩ := box_cells X1_8.out
  clear hb
  go_wp2_with fail
  refine (compare_clocks y jj Y J _ Iy8.out Ijj8.out (by have := K.out; have := U.out; omega) (by have := K.out; have := U.out; omega)).mono ?_
  rw [Q3.out]
  rintro e w9 ⟨rfl, hb⟩
  have B9 := Lib.hid (below_after B8.out hb (Nat.le_refl _))
  have Ijj9 := Lib.hid (Ijj8.out.below hb)
  have Iz9 := Lib.hid (Iz8.out.below hb)
  clear p1 p2
  have X0_9 := Lib.hid (box_below X0_8.out hb)
  obtain ⟨p1, p2⟩ := box_cells X0_9.out
  clear p3 p4
  have X1_9 := Lib.hid (box_below X1_8.out hb)
  obtain ⟨p3, p4⟩ := box_cells X1_9.out
  clear hb
  go_wp2_with fail
  refine (ticks_any z jj Z J _ Iz9.out Ijj9.out (by have := K.out; have := U.out; omega)).mono ?_
  rw [Q4.out]
  rintro e w10 ⟨rfl, hb⟩
  have B10 := Lib.hid (below_after B9.out hb (Nat.le_refl _))
  clear p1 p2
  have X0_10 := Lib.hid (box_below X0_9.out hb)
  obtain ⟨p1, p2⟩ := box_cells X0_10.out
  clear p3 p4
  have X1_10 := Lib.hid (box_below X1_9.out hb)
  obtain ⟨p3, p4⟩ := box_cells X1_10.out
  clear hb
  go_wp2_with fail
  go_ret
  exact ⟨rfl, B10.out⟩
theorem apart_any (v0 : Value) (l0 : List Tick) (a i b j : Int) (w : World) (h0 : Rcs encT 3 w v0 l0) :
    Calls Try.prog 7 #[v0, .agg #[.int .i64 a, .int .i64 i], .agg #[.int .i64 b, .int .i64 j]] w fun e w' => e = .returned (.bool true) ∧ Below w.heap.size w w' := by
  cases hl : decide (150 < l0.length)
  · by_cases hab : a = b
    · subst hab
      by_cases hij : i = j
      · subst hij
        exact apart_same v0 l0 a i w h0 hl
      · have hij2 : (i == j) = false := by simpa using hij
        rcases upR_cases l0 (a, i) with ⟨k, e1, hk⟩ | e1
        · exact apart2_e v0 l0 a i j w h0 hl hij2 k _ _ e1 hk rfl
        · rcases upR_cases l0 (a, j) with ⟨k, e2, hk⟩ | e2
          · exact apart2_f v0 l0 a i j w h0 hl hij2 _ k e1 e2 hk
          · rcases upR_cases (up l0 (a, i)) (a, j) with ⟨k, e3, hk⟩ | e3
            · exact apart2_g v0 l0 a i j w h0 hl hij2 e1 e2 k _ e3 hk
            · exact apart2_h v0 l0 a i j w h0 hl hij2 e1 e2 e3
    · have hab2 : (a == b) = false := by simpa using hab
      rcases upR_cases l0 (a, i) with ⟨k, e1, hk⟩ | e1
      · exact apart1_e v0 l0 a i b j w h0 hl hab2 k _ _ e1 hk rfl
      · rcases upR_cases l0 (b, j) with ⟨k, e2, hk⟩ | e2
        · exact apart1_f v0 l0 a i b j w h0 hl hab2 _ k e1 e2 hk
        · rcases upR_cases (up l0 (a, i)) (b, j) with ⟨k, e3, hk⟩ | e3
          · exact apart1_g v0 l0 a i b j w h0 hl hab2 e1 e2 k _ e3 hk
          · exact apart1_h v0 l0 a i b j w h0 hl hab2 e1 e2 e3
  · exact apart_large v0 l0 a i b j w h0 hl
section
open Go.ChangeShapes Go.WideShapes Go.ChangeAt
open Go.ChangeMaps (open_string)
set_option maxRecDepth 100000 in
theorem apart_lifted (os : Os) (started : os.Started) (H : Type) (enc : TypeId × Value → H) :
    ReturnsInHanded {} Try.checked os 7 .any (Rows.clockApartSpec.pre6 enc Try.prog Try.f7 Rows.clockApartRow.domain false) (Rows.clockApartSpec.post enc Try.prog Try.f7 false true false false) := by
  refine returnsInHanded_of_change_sized (C := Try.checked) Try.own started (by kernel_rfl) Try.func7
    (ChangeSpec.witness6 (enc := enc) (C := Try.checked) false ⟨#[], #[.slice none 0 0, .agg #[.int .i64 0, .int .i64 0], .agg #[.int .i64 0, .int .i64 0]], []⟩ 8 (by kernel_rfl) (by kernel_rfl) (by kernel_rfl) (by kernel_rfl)) ?_
  intro W base args ds gs before hval0 hW _ _ _
  have hval : ∀ (j : Nat) t v, Try.f7.params[j]? = some t → args[j]? = some v → Value.okWide Try.prog W .any base t v := hval0
  have hW' := hW
  obtain ⟨p, q, hA0, hV, rfl, _, _⟩ := hW
  have hA : DataW.TrodAll enc Try.prog W 0 (fun _ => true) true Try.f7.params.toList args.toList ds p := hA0
  rw [Try.params7] at hA hval
  obtain ⟨v0, v1, v2, d0, d1, d2, p0, p1, p2, rfl, rfl, rfl, h0, h1, h2⟩ := trodAll_three hA
  obtain ⟨rfl, rfl⟩ := trodVars_none hV
  obtain ⟨l0, I0⟩ := open_ticks (hval 0 24 v0 rfl rfl) h0
  obtain ⟨a1, b1, rfl⟩ := open_id (hval 1 28 v1 rfl rfl) h1
  obtain ⟨a2, b2, rfl⟩ := open_id (hval 2 28 v2 rfl rfl) h2
  refine (apart_any v0 l0 a1 b1 a2 b2 W I0).mono fun e W' ⟨he, hb⟩ => ?_
  subst he
  exact ⟨_, rfl, law_post hW' rfl (by kernel_rfl) Try.underlying4 rfl (by unfold Legible; kernel_rfl) hb⟩
/-- The statement. -/
theorem apart_holds : Rows.ClockApartSaid :=
  OpenClaim.holds_of_wide 7 Try.f7 rfl rfl rfl rfl rfl rfl rfl ⟨rfl, rfl, rfl, rfl, rfl⟩ rfl rfl rfl rfl rfl (by kernel_rfl) Try.func7 (by kernel_rfl)
    (of_decide_eq_true (by kernel_rfl)) (by unfold Func.isWrapper; first | (rw [if_pos (by decide +kernel)]; kernel_rfl) | (rw [if_neg (by decide +kernel)]; exact ⟨rfl, rfl⟩))
    (fun os started H enc _ => apart_lifted os started H enc)
end

end Go.Proofs.Ytpmfanglgkohjaa
