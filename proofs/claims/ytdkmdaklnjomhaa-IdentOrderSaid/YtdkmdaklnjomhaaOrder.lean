/-
  PROVED HERE: for any three IDs IdentOrder of package coveylaw03 returns true and leaves its arguments as they were: of any two IDs one stands ahead, or they are the same; what stands ahead of what stands ahead of an ID stands ahead of it. No condition.
-/
import Derived.Test.YtdkmdaklnjomhaaWorks
import Derived.Test.YtdkmdaklnjomhaaOpen
import Derived.Test.YtdkmdaklnjomhaaBase
namespace Go.Proofs.Ytdkmdaklnjomhaa
open Go.RowKit Sets
theorem lss_trans {a i b j c k : Int} (h : lss a i b j = true) (h2 : lss b j c k = true) : lss a i c k = true :=
  (lss_iff (a, i) (c, k)).2 (lt_trans ((lss_iff (a, i) (b, j)).1 h) ((lss_iff (b, j) (c, k)).1 h2))
theorem lss_asymm {a i b j : Int} (h : lss a i b j = true) : lss b j a i = false :=
  (lss_not (b, j) (a, i)).2 (lt_asymm ((lss_iff (a, i) (b, j)).1 h))
theorem cmpZ_lt {a i b j : Int} (h : lss a i b j = true) : cmpZ a i b j = -1 := by unfold cmpZ; rw [h]; rfl
theorem cmpZ_gt {a i b j : Int} (h : lss b j a i = true) : cmpZ a i b j = 1 := by unfold cmpZ; rw [h, lss_asymm h]; rfl
theorem three_boxes (w : World) (a i b j c k : Int) : Box (((w.alloc (.cells #[.int .i64 a, .int .i64 i] 25)).alloc (.cells #[.int .i64 b, .int .i64 j] 25)).alloc (.cells #[.int .i64 c, .int .i64 k] 25)) w.heap.size a i ∧
    Box (((w.alloc (.cells #[.int .i64 a, .int .i64 i] 25)).alloc (.cells #[.int .i64 b, .int .i64 j] 25)).alloc (.cells #[.int .i64 c, .int .i64 k] 25)) (w.heap.size + 1) b j ∧
    Box (((w.alloc (.cells #[.int .i64 a, .int .i64 i] 25)).alloc (.cells #[.int .i64 b, .int .i64 j] 25)).alloc (.cells #[.int .i64 c, .int .i64 k] 25)) (w.heap.size + 2) c k := by
  have h := two_boxes w a i b j
  refine ⟨(Below.heap_alloc _ _ _ (by simp; omega)).trans h.1, (Below.heap_alloc _ _ _ (by simp)).trans h.2, ?_⟩
  have := box_new ((w.alloc (.cells #[.int .i64 a, .int .i64 i] 25)).alloc (.cells #[.int .i64 b, .int .i64 j] 25)) c k
  simpa using this
set_option maxHeartbeats 8000000 in
set_option maxRecDepth 100000 in
theorem order_lt_addr_yes (a i b j c k : Int) (w : World) (h1 : lss a i b j = true) (hne : (a == b) = false) (h2 : lss b j c k = true) :
    Calls Try.prog 5 #[.agg #[.int .i64 a, .int .i64 i], .agg #[.int .i64 b, .int .i64 j], .agg #[.int .i64 c, .int .i64 k]] w fun e w' => e = .returned (.bool true) ∧ Below w.heap.size w w' := by
  have E1 := Lib.hid (cmpZ_lt h1)
  have E2 := Lib.hid (cmpZ_gt h1)
  have E3 := Lib.hid h1
  have E4 := Lib.hid h2
  have E5 := Lib.hid (lss_trans h1 h2)
  clear h1 h2
  have X := three_boxes w a i b j c k
  have XA := Lib.hid X.1
  have XB := Lib.hid X.2.1
  have XC := Lib.hid X.2.2
  clear X
  obtain ⟨p1, p2⟩ := box_cells XA.out
  obtain ⟨p3, p4⟩ := box_cells XB.out
  obtain ⟨p5, p6⟩ := box_cells XC.out
  go_enter Try.func5, Try.ntmps5
  have B0 := Lib.hid (show Below w.heap.size w (((w.alloc (.cells #[.int .i64 a, .int .i64 i] 25)).alloc (.cells #[.int .i64 b, .int .i64 j] 25)).alloc (.cells #[.int .i64 c, .int .i64 k] 25)) from ((below_two w (.cells #[.int .i64 a, .int .i64 i] 25) (.cells #[.int .i64 b, .int .i64 j] 25)).alloc (by simp; omega) _))
  go_wp2_with fail
  refine (works_any _).mono ?_
  rintro e w1 ⟨rfl, hb⟩
  have B1 := Lib.hid (below_after B0.out hb (Nat.le_refl _))
  clear p1 p2
  have X0_1 := Lib.hid (box_below XA.out hb)
  obtain ⟨p1, p2⟩ := box_cells X0_1.out
  clear p3 p4
  have X1_1 := Lib.hid (box_below XB.out hb)
  obtain ⟨p3, p4⟩ := box_cells X1_1.out
  clear p5 p6
  have X2_1 := Lib.hid (box_below XC.out hb)
  obtain ⟨p5, p6⟩ := box_cells X2_1.out
  clear hb
  go_wp2_with fail
  refine (compare_any a i b j _).mono ?_
  rw [E1.out]
  rintro e w2 ⟨rfl, hb⟩
  have B2 := Lib.hid (below_after B1.out hb (Nat.le_refl _))
  clear p1 p2
  have X0_2 := Lib.hid (box_below X0_1.out hb)
  obtain ⟨p1, p2⟩ := box_cells X0_2.out
  clear p3 p4
  have X1_2 := Lib.hid (box_below X1_1.out hb)
  obtain ⟨p3, p4⟩ := box_cells X1_2.out
  clear p5 p6
  have X2_2 := Lib.hid (box_below X2_1.out hb)
  obtain ⟨p5, p6⟩ := box_cells X2_2.out
  clear hb
  go_wp2_with fail
  refine (compare_any b j a i _).mono ?_
  rw [E2.out]
  rintro e w3 ⟨rfl, hb⟩
  have B3 := Lib.hid (below_after B2.out hb (Nat.le_refl _))
  clear p1 p2
  have X0_3 := Lib.hid (box_below X0_2.out hb)
  obtain ⟨p1, p2⟩ := box_cells X0_3.out
  clear p3 p4
  have X1_3 := Lib.hid (box_below X1_2.out hb)
  obtain ⟨p3, p4⟩ := box_cells X1_3.out
  clear p5 p6
  have X2_3 := Lib.hid (box_below X2_2.out hb)
  obtain ⟨p5, p6⟩ := box_cells X2_3.out
  clear hb
  go_wp2_with fail
  refine (less_any a i b j _).mono ?_
  rw [E3.out]
  rintro e w4 ⟨rfl, hb⟩
  have B4 := Lib.hid (below_after B3.out hb (Nat.le_refl _))
  clear p1 p2
  have X0_4 := Lib.hid (box_below X0_3.out hb)
  obtain ⟨p1, p2⟩ := box_cells X0_4.out
  clear p3 p4
  have X1_4 := Lib.hid (box_below X1_3.out hb)
  obtain ⟨p3, p4⟩ := box_cells X1_4.out
  clear p5 p6
  have X2_4 := Lib.hid (box_below X2_3.out hb)
  obtain ⟨p5, p6⟩ := box_cells X2_4.out
  clear hb
  go_wp2_with fail
  refine (less_any a i b j _).mono ?_
  rw [E3.out]
  rintro e w5 ⟨rfl, hb⟩
  have B5 := Lib.hid (below_after B4.out hb (Nat.le_refl _))
  clear p1 p2
  have X0_5 := Lib.hid (box_below X0_4.out hb)
  obtain ⟨p1, p2⟩ := box_cells X0_5.out
  clear p3 p4
  have X1_5 := Lib.hid (box_below X1_4.out hb)
  obtain ⟨p3, p4⟩ := box_cells X1_5.out
  clear p5 p6
  have X2_5 := Lib.hid (box_below X2_4.out hb)
  obtain ⟨p5, p6⟩ := box_cells X2_5.out
  clear hb
  go_wp2_with fail
  refine (less_any b j c k _).mono ?_
  rw [E4.out]
  rintro e w6 ⟨rfl, hb⟩
  have B6 := Lib.hid (below_after B5.out hb (Nat.le_refl _))
  clear p1 p2
  have X0_6 := Lib.hid (box_below X0_5.out hb)
  obtain ⟨p1, p2⟩ := box_cells X0_6.out
  clear p3 p4
  have X1_6 := Lib.hid (box_below X1_5.out hb)
  obtain ⟨p3, p4⟩ := box_cells X1_6.out
  clear p5 p6
  have X2_6 := Lib.hid (box_below X2_5.out hb)
  obtain ⟨p5, p6⟩ := box_cells X2_6.out
  clear hb
  go_wp2_with fail
  refine (less_any a i c k _).mono ?_
  rw [E5.out]
  rintro e w7 ⟨rfl, hb⟩
  have B7 := Lib.hid (below_after B6.out hb (Nat.le_refl _))
  clear p1 p2
  have X0_7 := Lib.hid (box_below X0_6.out hb)
  obtain ⟨p1, p2⟩ := box_cells X0_7.out
  clear p3 p4
  have X1_7 := Lib.hid (box_below X1_6.out hb)
  obtain ⟨p3, p4⟩ := box_cells X1_7.out
  clear p5 p6
  have X2_7 := Lib.hid (box_below X2_6.out hb)
  obtain ⟨p5, p6⟩ := box_cells X2_7.out
  clear hb
  go_wp2_with fail
  go_ret
  exact ⟨rfl, B7.out⟩
set_option maxHeartbeats 8000000 in
set_option maxRecDepth 100000 in
theorem order_lt_addr_no (a i b j c k : Int) (w : World) (h1 : lss a i b j = true) (hne : (a == b) = false) (h2 : lss b j c k = false) :
    Calls Try.prog 5 #[.agg #[.int .i64 a, .int .i64 i], .agg #[.int .i64 b, .int .i64 j], .agg #[.int .i64 c, .int .i64 k]] w fun e w' => e = .returned (.bool true) ∧ Below w.heap.size w w' := by
  have E1 := Lib.hid (cmpZ_lt h1)
  have E2 := Lib.hid (cmpZ_gt h1)
  have E3 := Lib.hid h1
  have E4 := Lib.hid h2
  clear h1 h2
  have X := three_boxes w a i b j c k
  have XA := Lib.hid X.1
  have XB := Lib.hid X.2.1
  have XC := Lib.hid X.2.2
  clear X
  obtain ⟨p1, p2⟩ := box_cells XA.out
  obtain ⟨p3, p4⟩ := box_cells XB.out
  obtain ⟨p5, p6⟩ := box_cells XC.out
  go_enter Try.func5, Try.ntmps5
  have B0 := Lib.hid (show Below w.heap.size w (((w.alloc (.cells #[.int .i64 a, .int .i64 i] 25)).alloc (.cells #[.int .i64 b, .int .i64 j] 25)).alloc (.cells #[.int .i64 c, .int .i64 k] 25)) from ((below_two w (.cells #[.int .i64 a, .int .i64 i] 25) (.cells #[.int .i64 b, .int .i64 j] 25)).alloc (by simp; omega) _))
  go_wp2_with fail
  refine (works_any _).mono ?_
  rintro e w1 ⟨rfl, hb⟩
  have B1 := Lib.hid (below_after B0.out hb (Nat.le_refl _))
  clear p1 p2
  have X0_1 := Lib.hid (box_below XA.out hb)
  obtain ⟨p1, p2⟩ := box_cells X0_1.out
  clear p3 p4
  have X1_1 := Lib.hid (box_below XB.out hb)
  obtain ⟨p3, p4⟩ := box_cells X1_1.out
  clear p5 p6
  have X2_1 := Lib.hid (box_below XC.out hb)
  obtain ⟨p5, p6⟩ := box_cells X2_1.out
  clear hb
  go_wp2_with fail
  refine (compare_any a i b j _).mono ?_
  rw [E1.out]
  rintro e w2 ⟨rfl, hb⟩
  have B2 := Lib.hid (below_after B1.out hb (Nat.le_refl _))
  clear p1 p2
  have X0_2 := Lib.hid (box_below X0_1.out hb)
  obtain ⟨p1, p2⟩ := box_cells X0_2.out
  clear p3 p4
  have X1_2 := Lib.hid (box_below X1_1.out hb)
  obtain ⟨p3, p4⟩ := box_cells X1_2.out
  clear p5 p6
  have X2_2 := Lib.hid (box_below X2_1.out hb)
  obtain ⟨p5, p6⟩ := box_cells X2_2.out
  clear hb
  go_wp2_with fail
  refine (compare_any b j a i _).mono ?_
  rw [E2.out]
  rintro e w3 ⟨rfl, hb⟩
  have B3 := Lib.hid (below_after B2.out hb (Nat.le_refl _))
  clear p1 p2
  have X0_3 := Lib.hid (box_below X0_2.out hb)
  obtain ⟨p1, p2⟩ := box_cells X0_3.out
  clear p3 p4
  have X1_3 := Lib.hid (box_below X1_2.out hb)
  obtain ⟨p3, p4⟩ := box_cells X1_3.out
  clear p5 p6
  have X2_3 := Lib.hid (box_below X2_2.out hb)
  obtain ⟨p5, p6⟩ := box_cells X2_3.out
  clear hb
  go_wp2_with fail
  refine (less_any a i b j _).mono ?_
  rw [E3.out]
  rintro e w4 ⟨rfl, hb⟩
  have B4 := Lib.hid (below_after B3.out hb (Nat.le_refl _))
  clear p1 p2
  have X0_4 := Lib.hid (box_below X0_3.out hb)
  obtain ⟨p1, p2⟩ := box_cells X0_4.out
  clear p3 p4
  have X1_4 := Lib.hid (box_below X1_3.out hb)
  obtain ⟨p3, p4⟩ := box_cells X1_4.out
  clear p5 p6
  have X2_4 := Lib.hid (box_below X2_3.out hb)
  obtain ⟨p5, p6⟩ := box_cells X2_4.out
  clear hb
  go_wp2_with fail
  refine (less_any a i b j _).mono ?_
  rw [E3.out]
  rintro e w5 ⟨rfl, hb⟩
  have B5 := Lib.hid (below_after B4.out hb (Nat.le_refl _))
  clear p1 p2
  have X0_5 := Lib.hid (box_below X0_4.out hb)
  obtain ⟨p1, p2⟩ := box_cells X0_5.out
  clear p3 p4
  have X1_5 := Lib.hid (box_below X1_4.out hb)
  obtain ⟨p3, p4⟩ := box_cells X1_5.out
  clear p5 p6
  have X2_5 := Lib.hid (box_below X2_4.out hb)
  obtain ⟨p5, p6⟩ := box_cells X2_5.out
  clear hb
  go_wp2_with fail
  refine (less_any b j c k _).mono ?_
  rw [E4.out]
  rintro e w6 ⟨rfl, hb⟩
  have B6 := Lib.hid (below_after B5.out hb (Nat.le_refl _))
  clear p1 p2
  have X0_6 := Lib.hid (box_below X0_5.out hb)
  obtain ⟨p1, p2⟩ := box_cells X0_6.out
  clear p3 p4
  have X1_6 := Lib.hid (box_below X1_5.out hb)
  obtain ⟨p3, p4⟩ := box_cells X1_6.out
  clear p5 p6
  have X2_6 := Lib.hid (box_below X2_5.out hb)
  obtain ⟨p5, p6⟩ := box_cells X2_6.out
  clear hb
  go_wp2_with fail
  go_ret
  exact ⟨rfl, B6.out⟩
set_option maxHeartbeats 8000000 in
set_option maxRecDepth 100000 in
theorem order_lt_inc_yes (a i b j c k : Int) (w : World) (h1 : lss a i b j = true) (he : a = b) (hne : (i == j) = false) (h2 : lss b j c k = true) :
    Calls Try.prog 5 #[.agg #[.int .i64 a, .int .i64 i], .agg #[.int .i64 b, .int .i64 j], .agg #[.int .i64 c, .int .i64 k]] w fun e w' => e = .returned (.bool true) ∧ Below w.heap.size w w' := by
  subst he
  have E1 := Lib.hid (cmpZ_lt h1)
  have E2 := Lib.hid (cmpZ_gt h1)
  have E3 := Lib.hid h1
  have E4 := Lib.hid h2
  have E5 := Lib.hid (lss_trans h1 h2)
  clear h1 h2
  have X := three_boxes w a i a j c k
  have XA := Lib.hid X.1
  have XB := Lib.hid X.2.1
  have XC := Lib.hid X.2.2
  clear X
  obtain ⟨p1, p2⟩ := box_cells XA.out
  obtain ⟨p3, p4⟩ := box_cells XB.out
  obtain ⟨p5, p6⟩ := box_cells XC.out
  go_enter Try.func5, Try.ntmps5
  have B0 := Lib.hid (show Below w.heap.size w (((w.alloc (.cells #[.int .i64 a, .int .i64 i] 25)).alloc (.cells #[.int .i64 a, .int .i64 j] 25)).alloc (.cells #[.int .i64 c, .int .i64 k] 25)) from ((below_two w (.cells #[.int .i64 a, .int .i64 i] 25) (.cells #[.int .i64 a, .int .i64 j] 25)).alloc (by simp; omega) _))
  go_wp2_with fail
  refine (works_any _).mono ?_
  rintro e w1 ⟨rfl, hb⟩
  have B1 := Lib.hid (below_after B0.out hb (Nat.le_refl _))
  clear p1 p2
  have X0_1 := Lib.hid (box_below XA.out hb)
  obtain ⟨p1, p2⟩ := box_cells X0_1.out
  clear p3 p4
  have X1_1 := Lib.hid (box_below XB.out hb)
  obtain ⟨p3, p4⟩ := box_cells X1_1.out
  clear p5 p6
  have X2_1 := Lib.hid (box_below XC.out hb)
  obtain ⟨p5, p6⟩ := box_cells X2_1.out
  clear hb
  go_wp2_with fail
  refine (compare_any a i a j _).mono ?_
  rw [E1.out]
  rintro e w2 ⟨rfl, hb⟩
  have B2 := Lib.hid (below_after B1.out hb (Nat.le_refl _))
  clear p1 p2
  have X0_2 := Lib.hid (box_below X0_1.out hb)
  obtain ⟨p1, p2⟩ := box_cells X0_2.out
  clear p3 p4
  have X1_2 := Lib.hid (box_below X1_1.out hb)
  obtain ⟨p3, p4⟩ := box_cells X1_2.out
  clear p5 p6
  have X2_2 := Lib.hid (box_below X2_1.out hb)
  obtain ⟨p5, p6⟩ := box_cells X2_2.out
  clear hb
  go_wp2_with fail
  refine (compare_any a j a i _).mono ?_
  rw [E2.out]
  rintro e w3 ⟨rfl, hb⟩
  have B3 := Lib.hid (below_after B2.out hb (Nat.le_refl _))
  clear p1 p2
  have X0_3 := Lib.hid (box_below X0_2.out hb)
  obtain ⟨p1, p2⟩ := box_cells X0_3.out
  clear p3 p4
  have X1_3 := Lib.hid (box_below X1_2.out hb)
  obtain ⟨p3, p4⟩ := box_cells X1_3.out
  clear p5 p6
  have X2_3 := Lib.hid (box_below X2_2.out hb)
  obtain ⟨p5, p6⟩ := box_cells X2_3.out
  clear hb
  go_wp2_with fail
  refine (less_any a i a j _).mono ?_
  rw [E3.out]
  rintro e w4 ⟨rfl, hb⟩
  have B4 := Lib.hid (below_after B3.out hb (Nat.le_refl _))
  clear p1 p2
  have X0_4 := Lib.hid (box_below X0_3.out hb)
  obtain ⟨p1, p2⟩ := box_cells X0_4.out
  clear p3 p4
  have X1_4 := Lib.hid (box_below X1_3.out hb)
  obtain ⟨p3, p4⟩ := box_cells X1_4.out
  clear p5 p6
  have X2_4 := Lib.hid (box_below X2_3.out hb)
  obtain ⟨p5, p6⟩ := box_cells X2_4.out
  clear hb
  go_wp2_with fail
  refine (less_any a i a j _).mono ?_
  rw [E3.out]
  rintro e w5 ⟨rfl, hb⟩
  have B5 := Lib.hid (below_after B4.out hb (Nat.le_refl _))
  clear p1 p2
  have X0_5 := Lib.hid (box_below X0_4.out hb)
  obtain ⟨p1, p2⟩ := box_cells X0_5.out
  clear p3 p4
  have X1_5 := Lib.hid (box_below X1_4.out hb)
  obtain ⟨p3, p4⟩ := box_cells X1_5.out
  clear p5 p6
  have X2_5 := Lib.hid (box_below X2_4.out hb)
  obtain ⟨p5, p6⟩ := box_cells X2_5.out
  clear hb
  go_wp2_with fail
  refine (less_any a j c k _).mono ?_
  rw [E4.out]
  rintro e w6 ⟨rfl, hb⟩
  have B6 := Lib.hid (below_after B5.out hb (Nat.le_refl _))
  clear p1 p2
  have X0_6 := Lib.hid (box_below X0_5.out hb)
  obtain ⟨p1, p2⟩ := box_cells X0_6.out
  clear p3 p4
  have X1_6 := Lib.hid (box_below X1_5.out hb)
  obtain ⟨p3, p4⟩ := box_cells X1_6.out
  clear p5 p6
  have X2_6 := Lib.hid (box_below X2_5.out hb)
  obtain ⟨p5, p6⟩ := box_cells X2_6.out
  clear hb
  go_wp2_with fail
  refine (less_any a i c k _).mono ?_
  rw [E5.out]
  rintro e w7 ⟨rfl, hb⟩
  have B7 := Lib.hid (below_after B6.out hb (Nat.le_refl _))
  clear p1 p2
  have X0_7 := Lib.hid (box_below X0_6.out hb)
  obtain ⟨p1, p2⟩ := box_cells X0_7.out
  clear p3 p4
  have X1_7 := Lib.hid (box_below X1_6.out hb)
  obtain ⟨p3, p4⟩ := box_cells X1_7.out
  clear p5 p6
  have X2_7 := Lib.hid (box_below X2_6.out hb)
  obtain ⟨p5, p6⟩ := box_cells X2_7.out
  clear hb
  go_wp2_with fail
  go_ret
  exact ⟨rfl, B7.out⟩
set_option maxHeartbeats 8000000 in
set_option maxRecDepth 100000 in
theorem order_lt_inc_no (a i b j c k : Int) (w : World) (h1 : lss a i b j = true) (he : a = b) (hne : (i == j) = false) (h2 : lss b j c k = false) :
    Calls Try.prog 5 #[.agg #[.int .i64 a, .int .i64 i], .agg #[.int .i64 b, .int .i64 j], .agg #[.int .i64 c, .int .i64 k]] w fun e w' => e = .returned (.bool true) ∧ Below w.heap.size w w' := by
  subst he
  have E1 := Lib.hid (cmpZ_lt h1)
  have E2 := Lib.hid (cmpZ_gt h1)
  have E3 := Lib.hid h1
  have E4 := Lib.hid h2
  clear h1 h2
  have X := three_boxes w a i a j c k
  have XA := Lib.hid X.1
  have XB := Lib.hid X.2.1
  have XC := Lib.hid X.2.2
  clear X
  obtain ⟨p1, p2⟩ := box_cells XA.out
  obtain ⟨p3, p4⟩ := box_cells XB.out
  obtain ⟨p5, p6⟩ := box_cells XC.out
  go_enter Try.func5, Try.ntmps5
  have B0 := Lib.hid (show Below w.heap.size w (((w.alloc (.cells #[.int .i64 a, .int .i64 i] 25)).alloc (.cells #[.int .i64 a, .int .i64 j] 25)).alloc (.cells #[.int .i64 c, .int .i64 k] 25)) from ((below_two w (.cells #[.int .i64 a, .int .i64 i] 25) (.cells #[.int .i64 a, .int .i64 j] 25)).alloc (by simp; omega) _))
  go_wp2_with fail
  refine (works_any _).mono ?_
  rintro e w1 ⟨rfl, hb⟩
  have B1 := Lib.hid (below_after B0.out hb (Nat.le_refl _))
  clear p1 p2
  have X0_1 := Lib.hid (box_below XA.out hb)
  obtain ⟨p1, p2⟩ := box_cells X0_1.out
  clear p3 p4
  have X1_1 := Lib.hid (box_below XB.out hb)
  obtain ⟨p3, p4⟩ := box_cells X1_1.out
  clear p5 p6
  have X2_1 := Lib.hid (box_below XC.out hb)
  obtain ⟨p5, p6⟩ := box_cells X2_1.out
  clear hb
  go_wp2_with fail
  refine (compare_any a i a j _).mono ?_
  rw [E1.out]
  rintro e w2 ⟨rfl, hb⟩
  have B2 := Lib.hid (below_after B1.out hb (Nat.le_refl _))
  clear p1 p2
  have X0_2 := Lib.hid (box_below X0_1.out hb)
  obtain ⟨p1, p2⟩ := box_cells X0_2.out
  clear p3 p4
  have X1_2 := Lib.hid (box_below X1_1.out hb)
  obtain ⟨p3, p4⟩ := box_cells X1_2.out
  clear p5 p6
  have X2_2 := Lib.hid (box_below X2_1.out hb)
  obtain ⟨p5, p6⟩ := box_cells X2_2.out
  clear hb
  go_wp2_with fail
  refine (compare_any a j a i _).mono ?_
  rw [E2.out]
  rintro e w3 ⟨rfl, hb⟩
  have B3 := Lib.hid (below_after B2.out hb (Nat.le_refl _))
  clear p1 p2
  have X0_3 := Lib.hid (box_below X0_2.out hb)
  obtain ⟨p1, p2⟩ := box_cells X0_3.out
  clear p3 p4
  have X1_3 := Lib.hid (box_below X1_2.out hb)
  obtain ⟨p3, p4⟩ := box_cells X1_3.out
  clear p5 p6
  have X2_3 := Lib.hid (box_below X2_2.out hb)
  obtain ⟨p5, p6⟩ := box_cells X2_3.out
  clear hb
  go_wp2_with fail
  refine (less_any a i a j _).mono ?_
  rw [E3.out]
  rintro e w4 ⟨rfl, hb⟩
  have B4 := Lib.hid (below_after B3.out hb (Nat.le_refl _))
  clear p1 p2
  have X0_4 := Lib.hid (box_below X0_3.out hb)
  obtain ⟨p1, p2⟩ := box_cells X0_4.out
  clear p3 p4
  have X1_4 := Lib.hid (box_below X1_3.out hb)
  obtain ⟨p3, p4⟩ := box_cells X1_4.out
  clear p5 p6
  have X2_4 := Lib.hid (box_below X2_3.out hb)
  obtain ⟨p5, p6⟩ := box_cells X2_4.out
  clear hb
  go_wp2_with fail
  refine (less_any a i a j _).mono ?_
  rw [E3.out]
  rintro e w5 ⟨rfl, hb⟩
  have B5 := Lib.hid (below_after B4.out hb (Nat.le_refl _))
  clear p1 p2
  have X0_5 := Lib.hid (box_below X0_4.out hb)
  obtain ⟨p1, p2⟩ := box_cells X0_5.out
  clear p3 p4
  have X1_5 := Lib.hid (box_below X1_4.out hb)
  obtain ⟨p3, p4⟩ := box_cells X1_5.out
  clear p5 p6
  have X2_5 := Lib.hid (box_below X2_4.out hb)
  obtain ⟨p5, p6⟩ := box_cells X2_5.out
  clear hb
  go_wp2_with fail
  refine (less_any a j c k _).mono ?_
  rw [E4.out]
  rintro e w6 ⟨rfl, hb⟩
  have B6 := Lib.hid (below_after B5.out hb (Nat.le_refl _))
  clear p1 p2
  have X0_6 := Lib.hid (box_below X0_5.out hb)
  obtain ⟨p1, p2⟩ := box_cells X0_6.out
  clear p3 p4
  have X1_6 := Lib.hid (box_below X1_5.out hb)
  obtain ⟨p3, p4⟩ := box_cells X1_6.out
  clear p5 p6
  have X2_6 := Lib.hid (box_below X2_5.out hb)
  obtain ⟨p5, p6⟩ := box_cells X2_6.out
  clear hb
  go_wp2_with fail
  go_ret
  exact ⟨rfl, B6.out⟩
set_option maxHeartbeats 8000000 in
set_option maxRecDepth 100000 in
theorem order_gt_addr (a i b j c k : Int) (w : World) (h1 : lss b j a i = true) (hne : (a == b) = false) :
    Calls Try.prog 5 #[.agg #[.int .i64 a, .int .i64 i], .agg #[.int .i64 b, .int .i64 j], .agg #[.int .i64 c, .int .i64 k]] w fun e w' => e = .returned (.bool true) ∧ Below w.heap.size w w' := by
  have E1 := Lib.hid (cmpZ_gt h1)
  have E2 := Lib.hid (cmpZ_lt h1)
  have E3 := Lib.hid (lss_asymm h1)
  clear h1
  have X := three_boxes w a i b j c k
  have XA := Lib.hid X.1
  have XB := Lib.hid X.2.1
  have XC := Lib.hid X.2.2
  clear X
  obtain ⟨p1, p2⟩ := box_cells XA.out
  obtain ⟨p3, p4⟩ := box_cells XB.out
  obtain ⟨p5, p6⟩ := box_cells XC.out
  go_enter Try.func5, Try.ntmps5
  have B0 := Lib.hid (show Below w.heap.size w (((w.alloc (.cells #[.int .i64 a, .int .i64 i] 25)).alloc (.cells #[.int .i64 b, .int .i64 j] 25)).alloc (.cells #[.int .i64 c, .int .i64 k] 25)) from ((below_two w (.cells #[.int .i64 a, .int .i64 i] 25) (.cells #[.int .i64 b, .int .i64 j] 25)).alloc (by simp; omega) _))
  go_wp2_with fail
  refine (works_any _).mono ?_
  rintro e w1 ⟨rfl, hb⟩
  have B1 := Lib.hid (below_after B0.out hb (Nat.le_refl _))
  clear p1 p2
  have X0_1 := Lib.hid (box_below XA.out hb)
  obtain ⟨p1, p2⟩ := box_cells X0_1.out
  clear p3 p4
  have X1_1 := Lib.hid (box_below XB.out hb)
  obtain ⟨p3, p4⟩ := box_cells X1_1.out
  clear p5 p6
  have X2_1 := Lib.hid (box_below XC.out hb)
  obtain ⟨p5, p6⟩ := box_cells X2_1.out
  clear hb
  go_wp2_with fail
  refine (compare_any a i b j _).mono ?_
  rw [E1.out]
  rintro e w2 ⟨rfl, hb⟩
  have B2 := Lib.hid (below_after B1.out hb (Nat.le_refl _))
  clear p1 p2
  have X0_2 := Lib.hid (box_below X0_1.out hb)
  obtain ⟨p1, p2⟩ := box_cells X0_2.out
  clear p3 p4
  have X1_2 := Lib.hid (box_below X1_1.out hb)
  obtain ⟨p3, p4⟩ := box_cells X1_2.out
  clear p5 p6
  have X2_2 := Lib.hid (box_below X2_1.out hb)
  obtain ⟨p5, p6⟩ := box_cells X2_2.out
  clear hb
  go_wp2_with fail
  refine (compare_any b j a i _).mono ?_
  rw [E2.out]
  rintro e w3 ⟨rfl, hb⟩
  have B3 := Lib.hid (below_after B2.out hb (Nat.le_refl _))
  clear p1 p2
  have X0_3 := Lib.hid (box_below X0_2.out hb)
  obtain ⟨p1, p2⟩ := box_cells X0_3.out
  clear p3 p4
  have X1_3 := Lib.hid (box_below X1_2.out hb)
  obtain ⟨p3, p4⟩ := box_cells X1_3.out
  clear p5 p6
  have X2_3 := Lib.hid (box_below X2_2.out hb)
  obtain ⟨p5, p6⟩ := box_cells X2_3.out
  clear hb
  go_wp2_with fail
  refine (less_any a i b j _).mono ?_
  rw [E3.out]
  rintro e w4 ⟨rfl, hb⟩
  have B4 := Lib.hid (below_after B3.out hb (Nat.le_refl _))
  clear p1 p2
  have X0_4 := Lib.hid (box_below X0_3.out hb)
  obtain ⟨p1, p2⟩ := box_cells X0_4.out
  clear p3 p4
  have X1_4 := Lib.hid (box_below X1_3.out hb)
  obtain ⟨p3, p4⟩ := box_cells X1_4.out
  clear p5 p6
  have X2_4 := Lib.hid (box_below X2_3.out hb)
  obtain ⟨p5, p6⟩ := box_cells X2_4.out
  clear hb
  go_wp2_with fail
  refine (less_any a i b j _).mono ?_
  rw [E3.out]
  rintro e w5 ⟨rfl, hb⟩
  have B5 := Lib.hid (below_after B4.out hb (Nat.le_refl _))
  clear p1 p2
  have X0_5 := Lib.hid (box_below X0_4.out hb)
  obtain ⟨p1, p2⟩ := box_cells X0_5.out
  clear p3 p4
  have X1_5 := Lib.hid (box_below X1_4.out hb)
  obtain ⟨p3, p4⟩ := box_cells X1_5.out
  clear p5 p6
  have X2_5 := Lib.hid (box_below X2_4.out hb)
  obtain ⟨p5, p6⟩ := box_cells X2_5.out
  clear hb
  go_wp2_with fail
  go_ret
  exact ⟨rfl, B5.out⟩
set_option maxHeartbeats 8000000 in
set_option maxRecDepth 100000 in
theorem order_gt_inc (a i b j c k : Int) (w : World) (h1 : lss b j a i = true) (he : a = b) (hne : (i == j) = false) :
    Calls Try.prog 5 #[.agg #[.int .i64 a, .int .i64 i], .agg #[.int .i64 b, .int .i64 j], .agg #[.int .i64 c, .int .i64 k]] w fun e w' => e = .returned (.bool true) ∧ Below w.heap.size w w' := by
  subst he
  have E1 := Lib.hid (cmpZ_gt h1)
  have E2 := Lib.hid (cmpZ_lt h1)
  have E3 := Lib.hid (lss_asymm h1)
  clear h1
  have X := three_boxes w a i a j c k
  have XA := Lib.hid X.1
  have XB := Lib.hid X.2.1
  have XC := Lib.hid X.2.2
  clear X
  obtain ⟨p1, p2⟩ := box_cells XA.out
  obtain ⟨p3, p4⟩ := box_cells XB.out
  obtain ⟨p5, p6⟩ := box_cells XC.out
  go_enter Try.func5, Try.ntmps5
  have B0 := Lib.hid (show Below w.heap.size w (((w.alloc (.cells #[.int .i64 a, .int .i64 i] 25)).alloc (.cells #[.int .i64 a, .int .i64 j] 25)).alloc (.cells #[.int .i64 c, .int .i64 k] 25)) from ((below_two w (.cells #[.int .i64 a, .int .i64 i] 25) (.cells #[.int .i64 a, .int .i64 j] 25)).alloc (by simp; omega) _))
  go_wp2_with fail
  refine (works_any _).mono ?_
  rintro e w1 ⟨rfl, hb⟩
  have B1 := Lib.hid (below_after B0.out hb (Nat.le_refl _))
  clear p1 p2
  have X0_1 := Lib.hid (box_below XA.out hb)
  obtain ⟨p1, p2⟩ := box_cells X0_1.out
  clear p3 p4
  have X1_1 := Lib.hid (box_below XB.out hb)
  obtain ⟨p3, p4⟩ := box_cells X1_1.out
  clear p5 p6
  have X2_1 := Lib.hid (box_below XC.out hb)
  obtain ⟨p5, p6⟩ := box_cells X2_1.out
  clear hb
  go_wp2_with fail
  refine (compare_any a i a j _).mono ?_
  rw [E1.out]
  rintro e w2 ⟨rfl, hb⟩
  have B2 := Lib.hid (below_after B1.out hb (Nat.le_refl _))
  clear p1 p2
  have X0_2 := Lib.hid (box_below X0_1.out hb)
  obtain ⟨p1, p2⟩ := box_cells X0_2.out
  clear p3 p4
  have X1_2 := Lib.hid (box_below X1_1.out hb)
  obtain ⟨p3, p4⟩ := box_cells X1_2.out
  clear p5 p6
  have X2_2 := Lib.hid (box_below X2_1.out hb)
  obtain ⟨p5, p6⟩ := box_cells X2_2.out
  clear hb
  go_wp2_with fail
  refine (compare_any a j a i _).mono ?_
  rw [E2.out]
  rintro e w3 ⟨rfl, hb⟩
  have B3 := Lib.hid (below_after B2.out hb (Nat.le_refl _))
  clear p1 p2
  have X0_3 := Lib.hid (box_below X0_2.out hb)
  obtain ⟨p1, p2⟩ := box_cells X0_3.out
  clear p3 p4
  have X1_3 := Lib.hid (box_below X1_2.out hb)
  obtain ⟨p3, p4⟩ := box_cells X1_3.out
  clear p5 p6
  have X2_3 := Lib.hid (box_below X2_2.out hb)
  obtain ⟨p5, p6⟩ := box_cells X2_3.out
  clear hb
  go_wp2_with fail
  refine (less_any a i a j _).mono ?_
  rw [E3.out]
  rintro e w4 ⟨rfl, hb⟩
  have B4 := Lib.hid (below_after B3.out hb (Nat.le_refl _))
  clear p1 p2
  have X0_4 := Lib.hid (box_below X0_3.out hb)
  obtain ⟨p1, p2⟩ := box_cells X0_4.out
  clear p3 p4
  have X1_4 := Lib.hid (box_below X1_3.out hb)
  obtain ⟨p3, p4⟩ := box_cells X1_4.out
  clear p5 p6
  have X2_4 := Lib.hid (box_below X2_3.out hb)
  obtain ⟨p5, p6⟩ := box_cells X2_4.out
  clear hb
  go_wp2_with fail
  refine (less_any a i a j _).mono ?_
  rw [E3.out]
  rintro e w5 ⟨rfl, hb⟩
  have B5 := Lib.hid (below_after B4.out hb (Nat.le_refl _))
  clear p1 p2
  have X0_5 := Lib.hid (box_below X0_4.out hb)
  obtain ⟨p1, p2⟩ := box_cells X0_5.out
  clear p3 p4
  have X1_5 := Lib.hid (box_below X1_4.out hb)
  obtain ⟨p3, p4⟩ := box_cells X1_5.out
  clear p5 p6
  have X2_5 := Lib.hid (box_below X2_4.out hb)
  obtain ⟨p5, p6⟩ := box_cells X2_5.out
  clear hb
  go_wp2_with fail
  go_ret
  exact ⟨rfl, B5.out⟩
set_option maxHeartbeats 8000000 in
set_option maxRecDepth 100000 in
theorem order_same (a i c k : Int) (w : World) :
    Calls Try.prog 5 #[.agg #[.int .i64 a, .int .i64 i], .agg #[.int .i64 a, .int .i64 i], .agg #[.int .i64 c, .int .i64 k]] w fun e w' => e = .returned (.bool true) ∧ Below w.heap.size w w' := by
  have E1 := Lib.hid (cmpZ_same (a, i))
  have E2 := Lib.hid (show lss a i a i = false from (lss_not (a, i) (a, i)).2 (lt_irrefl _))
  have X := three_boxes w a i a i c k
  have XA := Lib.hid X.1
  have XB := Lib.hid X.2.1
  have XC := Lib.hid X.2.2
  clear X
  obtain ⟨p1, p2⟩ := box_cells XA.out
  obtain ⟨p3, p4⟩ := box_cells XB.out
  obtain ⟨p5, p6⟩ := box_cells XC.out
  go_enter Try.func5, Try.ntmps5
  have B0 := Lib.hid (show Below w.heap.size w (((w.alloc (.cells #[.int .i64 a, .int .i64 i] 25)).alloc (.cells #[.int .i64 a, .int .i64 i] 25)).alloc (.cells #[.int .i64 c, .int .i64 k] 25)) from ((below_two w (.cells #[.int .i64 a, .int .i64 i] 25) (.cells #[.int .i64 a, .int .i64 i] 25)).alloc (by simp; omega) _))
  go_wp2_with fail
  refine (works_any _).mono ?_
  rintro e w1 ⟨rfl, hb⟩
  have B1 := Lib.hid (below_after B0.out hb (Nat.le_refl _))
  clear p1 p2
  have X0_1 := Lib.hid (box_below XA.out hb)
  obtain ⟨p1, p2⟩ := box_cells X0_1.out
  clear p3 p4
  have X1_1 := Lib.hid (box_below XB.out hb)
  obtain ⟨p3, p4⟩ := box_cells X1_1.out
  clear p5 p6
  have X2_1 := Lib.hid (box_below XC.out hb)
  obtain ⟨p5, p6⟩ := box_cells X2_1.out
  clear hb
  go_wp2_with fail
  refine (compare_any a i a i _).mono ?_
  rw [E1.out]
  rintro e w2 ⟨rfl, hb⟩
  have B2 := Lib.hid (below_after B1.out hb (Nat.le_refl _))
  clear p1 p2
  have X0_2 := Lib.hid (box_below X0_1.out hb)
  obtain ⟨p1, p2⟩ := box_cells X0_2.out
  clear p3 p4
  have X1_2 := Lib.hid (box_below X1_1.out hb)
  obtain ⟨p3, p4⟩ := box_cells X1_2.out
  clear p5 p6
  have X2_2 := Lib.hid (box_below X2_1.out hb)
  obtain ⟨p5, p6⟩ := box_cells X2_2.out
  clear hb
  go_wp2_with fail
  refine (compare_any a i a i _).mono ?_
  rw [E1.out]
  rintro e w3 ⟨rfl, hb⟩
  have B3 := Lib.hid (below_after B2.out hb (Nat.le_refl _))
  clear p1 p2
  have X0_3 := Lib.hid (box_below X0_2.out hb)
  obtain ⟨p1, p2⟩ := box_cells X0_3.out
  clear p3 p4
  have X1_3 := Lib.hid (box_below X1_2.out hb)
  obtain ⟨p3, p4⟩ := box_cells X1_3.out
  clear p5 p6
  have X2_3 := Lib.hid (box_below X2_2.out hb)
  obtain ⟨p5, p6⟩ := box_cells X2_3.out
  clear hb
  go_wp2_with fail
  refine (less_any a i a i _).mono ?_
  rw [E2.out]
  rintro e w4 ⟨rfl, hb⟩
  have B4 := Lib.hid (below_after B3.out hb (Nat.le_refl _))
  clear p1 p2
  have X0_4 := Lib.hid (box_below X0_3.out hb)
  obtain ⟨p1, p2⟩ := box_cells X0_4.out
  clear p3 p4
  have X1_4 := Lib.hid (box_below X1_3.out hb)
  obtain ⟨p3, p4⟩ := box_cells X1_4.out
  clear p5 p6
  have X2_4 := Lib.hid (box_below X2_3.out hb)
  obtain ⟨p5, p6⟩ := box_cells X2_4.out
  clear hb
  go_wp2_with fail
  refine (less_any a i a i _).mono ?_
  rw [E2.out]
  rintro e w5 ⟨rfl, hb⟩
  have B5 := Lib.hid (below_after B4.out hb (Nat.le_refl _))
  clear p1 p2
  have X0_5 := Lib.hid (box_below X0_4.out hb)
  obtain ⟨p1, p2⟩ := box_cells X0_5.out
  clear p3 p4
  have X1_5 := Lib.hid (box_below X1_4.out hb)
  obtain ⟨p3, p4⟩ := box_cells X1_5.out
  clear p5 p6
  have X2_5 := Lib.hid (box_below X2_4.out hb)
  obtain ⟨p5, p6⟩ := box_cells X2_5.out
  clear hb
  go_wp2_with fail
  go_ret
  exact ⟨rfl, B5.out⟩
theorem order_any (a i b j c k : Int) (w : World) :
    Calls Try.prog 5 #[.agg #[.int .i64 a, .int .i64 i], .agg #[.int .i64 b, .int .i64 j], .agg #[.int .i64 c, .int .i64 k]] w fun e w' => e = .returned (.bool true) ∧ Below w.heap.size w w' := by
  rcases lt_total (a, i) (b, j) with h | h | h
  · have h1 := (lss_iff (a, i) (b, j)).2 h
    cases h2 : lss b j c k
    · by_cases he : a = b
      · exact order_lt_inc_no a i b j c k w h1 he (by unfold lt at h; simp at h ⊢; omega) h2
      · exact order_lt_addr_no a i b j c k w h1 (by simpa using he) h2
    · by_cases he : a = b
      · exact order_lt_inc_yes a i b j c k w h1 he (by unfold lt at h; simp at h ⊢; omega) h2
      · exact order_lt_addr_yes a i b j c k w h1 (by simpa using he) h2
  · injection h with e1 e2
    subst e1 e2
    exact order_same a i c k w
  · have h1 := (lss_iff (b, j) (a, i)).2 h
    by_cases he : a = b
    · exact order_gt_inc a i b j c k w h1 he (by unfold lt at h; simp at h ⊢; omega)
    · exact order_gt_addr a i b j c k w h1 (by simpa using he)
section
open Go.ChangeShapes Go.WideShapes Go.ChangeAt
open Go.ChangeMaps (open_string)
set_option maxRecDepth 100000 in
theorem order_lifted (os : Os) (started : os.Started) (H : Type) (enc : TypeId × Value → H) :
    ReturnsInHanded {} Try.checked os 5 .any (Rows.identOrderSpec.pre6 enc Try.prog Try.f5 Rows.identOrderRow.domain false) (Rows.identOrderSpec.post enc Try.prog Try.f5 false true false false) := by
  refine returnsInHanded_of_change_sized (C := Try.checked) Try.own started (by kernel_rfl) Try.func5
    (ChangeSpec.witness6 (enc := enc) (C := Try.checked) false ⟨#[], #[.agg #[.int .i64 0, .int .i64 0], .agg #[.int .i64 0, .int .i64 0], .agg #[.int .i64 0, .int .i64 0]], []⟩ 8 (by kernel_rfl) (by kernel_rfl) (by kernel_rfl) (by kernel_rfl)) ?_
  intro W base args ds gs before hval0 hW _ _ _
  have hval : ∀ (j : Nat) t v, Try.f5.params[j]? = some t → args[j]? = some v → Value.okWide Try.prog W .any base t v := hval0
  have hW' := hW
  obtain ⟨p, q, hA0, hV, rfl, _, _⟩ := hW
  have hA : DataW.TrodAll enc Try.prog W 0 (fun _ => true) true Try.f5.params.toList args.toList ds p := hA0
  rw [Try.params5] at hA hval
  obtain ⟨v0, v1, v2, d0, d1, d2, p0, p1, p2, rfl, rfl, rfl, h0, h1, h2⟩ := trodAll_three hA
  obtain ⟨rfl, rfl⟩ := trodVars_none hV
  obtain ⟨a0, b0, rfl⟩ := open_id (hval 0 25 v0 rfl rfl) h0
  obtain ⟨a1, b1, rfl⟩ := open_id (hval 1 25 v1 rfl rfl) h1
  obtain ⟨a2, b2, rfl⟩ := open_id (hval 2 25 v2 rfl rfl) h2
  refine (order_any a0 b0 a1 b1 a2 b2 W).mono fun e W' ⟨he, hb⟩ => ?_
  subst he
  exact ⟨_, rfl, law_post hW' rfl (by kernel_rfl) Try.underlying4 rfl (by unfold Legible; kernel_rfl) hb⟩
/-- The statement. -/
theorem order_holds : Rows.IdentOrderSaid :=
  OpenClaim.holds_of_wide 5 Try.f5 rfl rfl rfl rfl rfl rfl rfl ⟨rfl, rfl, rfl, rfl, rfl⟩ rfl rfl rfl rfl rfl (by kernel_rfl) Try.func5 (by kernel_rfl)
    (of_decide_eq_true (by kernel_rfl)) (by unfold Func.isWrapper; first | (rw [if_pos (by decide +kernel)]; kernel_rfl) | (rw [if_neg (by decide +kernel)]; exact ⟨rfl, rfl⟩))
    (fun os started H enc _ => order_lifted os started H enc)
end

end Go.Proofs.Ytdkmdaklnjomhaa
