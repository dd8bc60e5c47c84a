/-
  Walked: the examples; each status, each rank, whose rows count, and views of nobody. No statement is proved in this text.
-/
import Derived.Test.YtloghkiabgnpnaaDoorH22
namespace Go.Proofs.YtloghkiabgnpnaaDoor
open Go Go.RowKit
set_option maxHeartbeats 16000000 in
set_option maxRecDepth 100000 in
theorem agreeNames_any (w : World) (ht : Tabs w) : Calls Tryd.prog 3 #[] w fun e w' => e = .returned (.bool true) ∧ Below w.heap.size w w' := by
  have HT0 := Lib.hid ht
  clear ht
  go_enter Tryd.func3, Tryd.ntmps3
  go_wp2_with fail
  (with_reducible refine (works_any w HT0.out).mono ?_)
  rintro e1 w1 ⟨rfl, hb⟩
  have T1 := Lib.hid (HT0.out.below hb)
  have B1 := Lib.hid hb
  clear hb
  go_wp2_with fail
  (with_reducible refine (tells_any _ (⟨[], [], [], [], []⟩ : Vw) false false 0 _ [] w1 (vAt_of (Rcs.nil _) (Ids.nil _) (RowsAt.nil _) (Rcs.nil _) (Ids.nil _)) ⟨by decide, by decide, by decide, by decide +kernel⟩ T1.out (Rcs.nil _) (by decide) ⟨by kernel_rfl, by kernel_rfl, by kernel_rfl, by kernel_rfl, by kernel_rfl⟩).mono ?_)
  rintro e2 w2 ⟨rfl, hb⟩
  have B2 := Lib.hid (below_after B1.out hb (Nat.le_refl _))
  clear hb B1 T1
  go_wp2_with fail
  (with_reducible refine (of_any 1 w2).mono ?_)
  rintro e3 w3 ⟨rfl, hb⟩
  have B3 := Lib.hid (below_after B2.out hb (Nat.le_refl _))
  clear hb B2
  go_wp2_with fail
  (with_reducible refine (reached_any _ (⟨[], [], [], [], []⟩ : Vw) 1 1 w3 (vAt_of (Rcs.nil _) (Ids.nil _) (RowsAt.nil _) (Rcs.nil _) (Ids.nil _)) ⟨by decide, by decide, by decide, by decide +kernel⟩).mono ?_)
  rintro e4 W0 ⟨rfl, hb⟩
  have B4 := Lib.hid (below_after B3.out hb (Nat.le_refl _))
  clear hb B3
  have hr0 : Agr.reachedB (⟨[], [], [], [], []⟩ : Vw).m (⟨[], [], [], [], []⟩ : Vw).r (1, 1) = false := rfl
  rw [hr0]
  clear hr0
  have SB := Lib.hid (Below.refl W0.heap.size W0)
  go_wp2_with fail
  have hq := below_one W0 (.cells #[.int .u8 1, .int .u8 2, .int .u8 3] 5)
  have SB' := Lib.hid (below_after SB.out hq (Nat.le_refl _))
  clear SB
  have SB := SB'
  clear SB'
  clear hq
  have LT := Lib.hid (show U8s (W0.alloc (.cells #[.int .u8 1, .int .u8 2, .int .u8 3] 5)) (.slice (some ⟨W0.heap.size, 0, none⟩) 3 3) [1, 2, 3] from u8s_lit W0 [1, 2, 3])
  (with_reducible refine (membersOf_any _ [1, 2, 3] _ LT.out (by decide)).mono ?_)
  rintro eu1 wu1 ⟨v1, rfl, hm, hb⟩
  have SB' := Lib.hid (below_after SB.out hb (Nat.le_refl _))
  clear SB
  have SB := SB'
  clear SB'
  clear hb LT
  obtain ⟨a1, rfl⟩ := sl_rcs hm
  have FM := Lib.hid hm
  clear hm
  go_wp2_with fail
  have hq := below_one wu1 (.cells #[.int .i64 3] 3)
  have SB' := Lib.hid (below_after SB.out hq (Nat.le_refl _))
  clear SB
  have SB := SB'
  clear SB'
  have FM' := Lib.hid (FM.out.below hq)
  clear FM
  have FM := FM'
  clear FM'
  clear hq
  have LT := Lib.hid (show Nums (wu1.alloc (.cells #[.int .i64 3] 3)) (.slice (some ⟨wu1.heap.size, 0, none⟩) 1 1) [3] from nums_lit wu1 [3])
  (with_reducible refine (allOf_any _ [3] _ LT.out (by decide)).mono ?_)
  rintro es1 ws1 ⟨v1, rfl, ho, hb⟩
  have SB' := Lib.hid (below_after SB.out hb (Nat.le_refl _))
  clear SB
  have SB := SB'
  clear SB'
  have FM' := Lib.hid (FM.out.below hb)
  clear FM
  have FM := FM'
  clear FM'
  clear hb LT
  have FS := Lib.hid (ids_of_owns ho)
  obtain ⟨e1, he⟩ := sl_ids FS.out
  subst he
  clear ho
  have I1 : Hid (ItmOk ws1 ⟨a1, nl, nl, nl, e1, (⟨membersOf [1, 2, 3], [], [], [], allOf [3]⟩ : Vw), true, true, 3, nl, []⟩) := Lib.hid ⟨vAt_of FM.out (Ids.nil _) (RowsAt.nil _) (Rcs.nil _) FS.out, Rcs.nil _⟩
  have C1 := SB
  clear SB FM FS
  obtain ⟨W1, hW1⟩ : ∃ W, W = ws1 := ⟨_, rfl⟩
  rw [← hW1] at I1 C1
  rw [← hW1]
  clear hW1
  have SB := Lib.hid (Below.refl W1.heap.size W1)
  go_wp2_with fail
  have hq := below_one W1 (.cells #[.int .u8 1, .int .u8 2] 5)
  have SB' := Lib.hid (below_after SB.out hq (Nat.le_refl _))
  clear SB
  have SB := SB'
  clear SB'
  clear hq
  have LT := Lib.hid (show U8s (W1.alloc (.cells #[.int .u8 1, .int .u8 2] 5)) (.slice (some ⟨W1.heap.size, 0, none⟩) 2 2) [1, 2] from u8s_lit W1 [1, 2])
  (with_reducible refine (membersOf_any _ [1, 2] _ LT.out (by decide)).mono ?_)
  rintro eu2 wu2 ⟨v1, rfl, hm, hb⟩
  have SB' := Lib.hid (below_after SB.out hb (Nat.le_refl _))
  clear SB
  have SB := SB'
  clear SB'
  clear hb LT
  obtain ⟨a2, rfl⟩ := sl_rcs hm
  have FM := Lib.hid hm
  clear hm
  go_wp2_with fail
  have hq := below_one wu2 (.cells #[.int .i64 1, .int .i64 2] 3)
  have SB' := Lib.hid (below_after SB.out hq (Nat.le_refl _))
  clear SB
  have SB := SB'
  clear SB'
  have FM' := Lib.hid (FM.out.below hq)
  clear FM
  have FM := FM'
  clear FM'
  clear hq
  have LT := Lib.hid (show Nums (wu2.alloc (.cells #[.int .i64 1, .int .i64 2] 3)) (.slice (some ⟨wu2.heap.size, 0, none⟩) 2 2) [1, 2] from nums_lit wu2 [1, 2])
  (with_reducible refine (allOf_any _ [1, 2] _ LT.out (by decide)).mono ?_)
  rintro es2 ws2 ⟨v1, rfl, ho, hb⟩
  have SB' := Lib.hid (below_after SB.out hb (Nat.le_refl _))
  clear SB
  have SB := SB'
  clear SB'
  have FM' := Lib.hid (FM.out.below hb)
  clear FM
  have FM := FM'
  clear FM'
  clear hb LT
  have FS := Lib.hid (ids_of_owns ho)
  obtain ⟨e2, he⟩ := sl_ids FS.out
  subst he
  clear ho
  have I2 : Hid (ItmOk ws2 ⟨a2, nl, nl, nl, e2, (⟨membersOf [1, 2], [], [], [], allOf [1, 2]⟩ : Vw), false, false, 2, nl, []⟩) := Lib.hid ⟨vAt_of FM.out (Ids.nil _) (RowsAt.nil _) (Rcs.nil _) FS.out, Rcs.nil _⟩
  have C2 := SB
  clear SB FM FS
  obtain ⟨W2, hW2⟩ : ∃ W, W = ws2 := ⟨_, rfl⟩
  rw [← hW2] at I2 C2
  rw [← hW2]
  clear hW2
  have SB := Lib.hid (Below.refl W2.heap.size W2)
  go_wp2_with fail
  have hq := below_one W2 (.cells #[.int .u8 1] 5)
  have SB' := Lib.hid (below_after SB.out hq (Nat.le_refl _))
  clear SB
  have SB := SB'
  clear SB'
  clear hq
  have LT := Lib.hid (show U8s (W2.alloc (.cells #[.int .u8 1] 5)) (.slice (some ⟨W2.heap.size, 0, none⟩) 1 1) [1] from u8s_lit W2 [1])
  (with_reducible refine (membersOf_any _ [1] _ LT.out (by decide)).mono ?_)
  rintro eu3 wu3 ⟨v1, rfl, hm, hb⟩
  have SB' := Lib.hid (below_after SB.out hb (Nat.le_refl _))
  clear SB
  have SB := SB'
  clear SB'
  clear hb LT
  obtain ⟨a3, rfl⟩ := sl_rcs hm
  have FM := Lib.hid hm
  clear hm
  go_wp2_with fail
  have hq := below_one wu3 (.cells #[.int .i64 1] 3)
  have SB' := Lib.hid (below_after SB.out hq (Nat.le_refl _))
  clear SB
  have SB := SB'
  clear SB'
  have FM' := Lib.hid (FM.out.below hq)
  clear FM
  have FM := FM'
  clear FM'
  clear hq
  have LT := Lib.hid (show Nums (wu3.alloc (.cells #[.int .i64 1] 3)) (.slice (some ⟨wu3.heap.size, 0, none⟩) 1 1) [1] from nums_lit wu3 [1])
  (with_reducible refine (allOf_any _ [1] _ LT.out (by decide)).mono ?_)
  rintro es3 ws3 ⟨v1, rfl, ho, hb⟩
  have SB' := Lib.hid (below_after SB.out hb (Nat.le_refl _))
  clear SB
  have SB := SB'
  clear SB'
  have FM' := Lib.hid (FM.out.below hb)
  clear FM
  have FM := FM'
  clear FM'
  clear hb LT
  have FS := Lib.hid (ids_of_owns ho)
  obtain ⟨e3, he⟩ := sl_ids FS.out
  subst he
  clear ho
  have I3 : Hid (ItmOk ws3 ⟨a3, nl, nl, nl, e3, (⟨membersOf [1], [], [], [], allOf [1]⟩ : Vw), false, false, 1, nl, []⟩) := Lib.hid ⟨vAt_of FM.out (Ids.nil _) (RowsAt.nil _) (Rcs.nil _) FS.out, Rcs.nil _⟩
  have C3 := SB
  clear SB FM FS
  obtain ⟨W3, hW3⟩ : ∃ W, W = ws3 := ⟨_, rfl⟩
  rw [← hW3] at I3 C3
  rw [← hW3]
  clear hW3
  have SB := Lib.hid (Below.refl W3.heap.size W3)
  go_wp2_with fail
  have hq := below_one W3 (.cells #[.int .u8 5, .int .u8 6] 5)
  have SB' := Lib.hid (below_after SB.out hq (Nat.le_refl _))
  clear SB
  have SB := SB'
  clear SB'
  clear hq
  have LT := Lib.hid (show U8s (W3.alloc (.cells #[.int .u8 5, .int .u8 6] 5)) (.slice (some ⟨W3.heap.size, 0, none⟩) 2 2) [5, 6] from u8s_lit W3 [5, 6])
  (with_reducible refine (membersOf_any _ [5, 6] _ LT.out (by decide)).mono ?_)
  rintro eu4 wu4 ⟨v1, rfl, hm, hb⟩
  have SB' := Lib.hid (below_after SB.out hb (Nat.le_refl _))
  clear SB
  have SB := SB'
  clear SB'
  clear hb LT
  obtain ⟨a4, rfl⟩ := sl_rcs hm
  have FM := Lib.hid hm
  clear hm
  go_wp2_with fail
  have hq := below_one wu4 (.cells #[.int .i64 1, .int .i64 2] 3)
  have SB' := Lib.hid (below_after SB.out hq (Nat.le_refl _))
  clear SB
  have SB := SB'
  clear SB'
  have FM' := Lib.hid (FM.out.below hq)
  clear FM
  have FM := FM'
  clear FM'
  clear hq
  have LT := Lib.hid (show Nums (wu4.alloc (.cells #[.int .i64 1, .int .i64 2] 3)) (.slice (some ⟨wu4.heap.size, 0, none⟩) 2 2) [1, 2] from nums_lit wu4 [1, 2])
  (with_reducible refine (allOf_any _ [1, 2] _ LT.out (by decide)).mono ?_)
  rintro es4 ws4 ⟨v1, rfl, ho, hb⟩
  have SB' := Lib.hid (below_after SB.out hb (Nat.le_refl _))
  clear SB
  have SB := SB'
  clear SB'
  have FM' := Lib.hid (FM.out.below hb)
  clear FM
  have FM := FM'
  clear FM'
  clear hb LT
  have FS := Lib.hid (ids_of_owns ho)
  obtain ⟨e4, he⟩ := sl_ids FS.out
  subst he
  clear ho
  have I4 : Hid (ItmOk ws4 ⟨a4, nl, nl, nl, e4, (⟨membersOf [5, 6], [], [], [], allOf [1, 2]⟩ : Vw), false, false, 0, nl, []⟩) := Lib.hid ⟨vAt_of FM.out (Ids.nil _) (RowsAt.nil _) (Rcs.nil _) FS.out, Rcs.nil _⟩
  have C4 := SB
  clear SB FM FS
  obtain ⟨W4, hW4⟩ : ∃ W, W = ws4 := ⟨_, rfl⟩
  rw [← hW4] at I4 C4
  rw [← hW4]
  clear hW4
  have SB := Lib.hid (Below.refl W4.heap.size W4)
  go_wp2_with fail
  have hq := below_one W4 (.cells #[.int .u8 4, .int .u8 3] 5)
  have SB' := Lib.hid (below_after SB.out hq (Nat.le_refl _))
  clear SB
  have SB := SB'
  clear SB'
  clear hq
  have LT := Lib.hid (show U8s (W4.alloc (.cells #[.int .u8 4, .int .u8 3] 5)) (.slice (some ⟨W4.heap.size, 0, none⟩) 2 2) [4, 3] from u8s_lit W4 [4, 3])
  (with_reducible refine (membersOf_any _ [4, 3] _ LT.out (by decide)).mono ?_)
  rintro eu5 wu5 ⟨v1, rfl, hm, hb⟩
  have SB' := Lib.hid (below_after SB.out hb (Nat.le_refl _))
  clear SB
  have SB := SB'
  clear SB'
  clear hb LT
  obtain ⟨a5, rfl⟩ := sl_rcs hm
  have FM := Lib.hid hm
  clear hm
  go_wp2_with fail
  have hq := below_one wu5 (.cells #[.int .i64 1] 3)
  have SB' := Lib.hid (below_after SB.out hq (Nat.le_refl _))
  clear SB
  have SB := SB'
  clear SB'
  have FM' := Lib.hid (FM.out.below hq)
  clear FM
  have FM := FM'
  clear FM'
  clear hq
  have LT := Lib.hid (show Nums (wu5.alloc (.cells #[.int .i64 1] 3)) (.slice (some ⟨wu5.heap.size, 0, none⟩) 1 1) [1] from nums_lit wu5 [1])
  (with_reducible refine (allOf_any _ [1] _ LT.out (by decide)).mono ?_)
  rintro es5 ws5 ⟨v1, rfl, ho, hb⟩
  have SB' := Lib.hid (below_after SB.out hb (Nat.le_refl _))
  clear SB
  have SB := SB'
  clear SB'
  have FM' := Lib.hid (FM.out.below hb)
  clear FM
  have FM := FM'
  clear FM'
  clear hb LT
  have FS := Lib.hid (ids_of_owns ho)
  obtain ⟨e5, he⟩ := sl_ids FS.out
  subst he
  clear ho
  have I5 : Hid (ItmOk ws5 ⟨a5, nl, nl, nl, e5, (⟨membersOf [4, 3], [], [], [], allOf [1]⟩ : Vw), false, false, 1, nl, []⟩) := Lib.hid ⟨vAt_of FM.out (Ids.nil _) (RowsAt.nil _) (Rcs.nil _) FS.out, Rcs.nil _⟩
  have C5 := SB
  clear SB FM FS
  obtain ⟨W5, hW5⟩ : ∃ W, W = ws5 := ⟨_, rfl⟩
  rw [← hW5] at I5 C5
  rw [← hW5]
  clear hW5
  have SB := Lib.hid (Below.refl W5.heap.size W5)
  go_wp2_with fail
  have hq := below_one W5 (.cells #[.int .u8 3, .int .u8 6] 5)
  have SB' := Lib.hid (below_after SB.out hq (Nat.le_refl _))
  clear SB
  have SB := SB'
  clear SB'
  clear hq
  have LT := Lib.hid (show U8s (W5.alloc (.cells #[.int .u8 3, .int .u8 6] 5)) (.slice (some ⟨W5.heap.size, 0, none⟩) 2 2) [3, 6] from u8s_lit W5 [3, 6])
  (with_reducible refine (membersOf_any _ [3, 6] _ LT.out (by decide)).mono ?_)
  rintro eu6 wu6 ⟨v1, rfl, hm, hb⟩
  have SB' := Lib.hid (below_after SB.out hb (Nat.le_refl _))
  clear SB
  have SB := SB'
  clear SB'
  clear hb LT
  obtain ⟨a6, rfl⟩ := sl_rcs hm
  have FM := Lib.hid hm
  clear hm
  go_wp2_with fail
  have hq := below_one wu6 (.cells #[.int .i64 1] 3)
  have SB' := Lib.hid (below_after SB.out hq (Nat.le_refl _))
  clear SB
  have SB := SB'
  clear SB'
  have FM' := Lib.hid (FM.out.below hq)
  clear FM
  have FM := FM'
  clear FM'
  clear hq
  have LT := Lib.hid (show Nums (wu6.alloc (.cells #[.int .i64 1] 3)) (.slice (some ⟨wu6.heap.size, 0, none⟩) 1 1) [1] from nums_lit wu6 [1])
  (with_reducible refine (allOf_any _ [1] _ LT.out (by decide)).mono ?_)
  rintro es6 ws6 ⟨v1, rfl, ho, hb⟩
  have SB' := Lib.hid (below_after SB.out hb (Nat.le_refl _))
  clear SB
  have SB := SB'
  clear SB'
  have FM' := Lib.hid (FM.out.below hb)
  clear FM
  have FM := FM'
  clear FM'
  clear hb LT
  have FS := Lib.hid (ids_of_owns ho)
  obtain ⟨e6, he⟩ := sl_ids FS.out
  subst he
  clear ho
  go_wp2_with fail
  have hq := below_one ws6 (.cells #[.int .i64 2] 3)
  have SB' := Lib.hid (below_after SB.out hq (Nat.le_refl _))
  clear SB
  have SB := SB'
  clear SB'
  have FM' := Lib.hid (FM.out.below hq)
  clear FM
  have FM := FM'
  clear FM'
  have FS' := Lib.hid (FS.out.below hq)
  clear FS
  have FS := FS'
  clear FS'
  clear hq
  have LT := Lib.hid (show Nums (ws6.alloc (.cells #[.int .i64 2] 3)) (.slice (some ⟨ws6.heap.size, 0, none⟩) 1 1) [2] from nums_lit ws6 [2])
  (with_reducible refine (rowsOf_any 1 _ [2] _ LT.out (by decide)).mono ?_)
  rintro er6 wr6 ⟨c6, rfl, hr, hb⟩
  have SB' := Lib.hid (below_after SB.out hb (Nat.le_refl _))
  clear SB
  have SB := SB'
  clear SB'
  have FM' := Lib.hid (FM.out.below hb)
  clear FM
  have FM := FM'
  clear FM'
  have FS' := Lib.hid (FS.out.below hb)
  clear FS
  have FS := FS'
  clear FS'
  clear hb LT
  have FR := Lib.hid hr
  clear hr
  have hq := below_one wr6 (.cells #[.int .i64 2] 3)
  have SB' := Lib.hid (below_after SB.out hq (Nat.le_refl _))
  clear SB
  have SB := SB'
  clear SB'
  have FM' := Lib.hid (FM.out.below hq)
  clear FM
  have FM := FM'
  clear FM'
  have FS' := Lib.hid (FS.out.below hq)
  clear FS
  have FS := FS'
  clear FS'
  have FR' := Lib.hid (FR.out.below hq)
  clear FR
  have FR := FR'
  clear FR'
  clear hq
  have FN := Lib.hid (show Nums (wr6.alloc (.cells #[.int .i64 2] 3)) (.slice (some ⟨wr6.heap.size, 0, none⟩) 1 1) [2] from nums_lit wr6 [2])
  obtain ⟨u6, hu6⟩ : ∃ u : SL, u = (some ⟨wr6.heap.size, 0, none⟩, 1, 1) := ⟨_, rfl⟩
  have HU6 := Lib.hid (show (Value.slice (some ⟨wr6.heap.size, 0, none⟩) 1 1) = (.slice u6.1 u6.2.1 u6.2.2) by rw [hu6])
  rw [HU6.out] at FN
  clear hu6
  have I6 : Hid (ItmOk (wr6.alloc (.cells #[.int .i64 2] 3)) ⟨a6, nl, c6, nl, e6, (⟨membersOf [3, 6], [], [((1, 1), 0, allOf [2])], [], allOf [1]⟩ : Vw), true, true, 1, u6, [2]⟩) := Lib.hid ⟨vAt_of FM.out (Ids.nil _) FR.out (Rcs.nil _) FS.out, FN.out⟩
  have C6 := SB
  clear SB FM FS FR FN
  obtain ⟨W6, hW6⟩ : ∃ W, W = (wr6.alloc (.cells #[.int .i64 2] 3)) := ⟨_, rfl⟩
  rw [← hW6] at I6 C6
  have HZ6 := Lib.hid (show wr6.heap.size + 1 = W6.heap.size by rw [hW6]; simp)
  have SB := Lib.hid (Below.refl W6.heap.size W6)
  go_wp2_with fail
  rw [HU6.out, HZ6.out, ← hW6]
  clear HU6 HZ6 hW6
  have hq := below_one W6 (.cells #[.int .u8 3, .int .u8 5] 5)
  have SB' := Lib.hid (below_after SB.out hq (Nat.le_refl _))
  clear SB
  have SB := SB'
  clear SB'
  clear hq
  have LT := Lib.hid (show U8s (W6.alloc (.cells #[.int .u8 3, .int .u8 5] 5)) (.slice (some ⟨W6.heap.size, 0, none⟩) 2 2) [3, 5] from u8s_lit W6 [3, 5])
  (with_reducible refine (membersOf_any _ [3, 5] _ LT.out (by decide)).mono ?_)
  rintro eu7 wu7 ⟨v1, rfl, hm, hb⟩
  have SB' := Lib.hid (below_after SB.out hb (Nat.le_refl _))
  clear SB
  have SB := SB'
  clear SB'
  clear hb LT
  obtain ⟨a7, rfl⟩ := sl_rcs hm
  have FM := Lib.hid hm
  clear hm
  go_wp2_with fail
  have hq := below_one wu7 (.cells #[.int .i64 1] 3)
  have SB' := Lib.hid (below_after SB.out hq (Nat.le_refl _))
  clear SB
  have SB := SB'
  clear SB'
  have FM' := Lib.hid (FM.out.below hq)
  clear FM
  have FM := FM'
  clear FM'
  clear hq
  have LT := Lib.hid (show Nums (wu7.alloc (.cells #[.int .i64 1] 3)) (.slice (some ⟨wu7.heap.size, 0, none⟩) 1 1) [1] from nums_lit wu7 [1])
  (with_reducible refine (allOf_any _ [1] _ LT.out (by decide)).mono ?_)
  rintro es7 ws7 ⟨v1, rfl, ho, hb⟩
  have SB' := Lib.hid (below_after SB.out hb (Nat.le_refl _))
  clear SB
  have SB := SB'
  clear SB'
  have FM' := Lib.hid (FM.out.below hb)
  clear FM
  have FM := FM'
  clear FM'
  clear hb LT
  have FS := Lib.hid (ids_of_owns ho)
  obtain ⟨e7, he⟩ := sl_ids FS.out
  subst he
  clear ho
  go_wp2_with fail
  have hq := below_one ws7 (.cells #[.int .i64 2] 3)
  have SB' := Lib.hid (below_after SB.out hq (Nat.le_refl _))
  clear SB
  have SB := SB'
  clear SB'
  have FM' := Lib.hid (FM.out.below hq)
  clear FM
  have FM := FM'
  clear FM'
  have FS' := Lib.hid (FS.out.below hq)
  clear FS
  have FS := FS'
  clear FS'
  clear hq
  have LT := Lib.hid (show Nums (ws7.alloc (.cells #[.int .i64 2] 3)) (.slice (some ⟨ws7.heap.size, 0, none⟩) 1 1) [2] from nums_lit ws7 [2])
  (with_reducible refine (rowsOf_any 1 _ [2] _ LT.out (by decide)).mono ?_)
  rintro er7 wr7 ⟨c7, rfl, hr, hb⟩
  have SB' := Lib.hid (below_after SB.out hb (Nat.le_refl _))
  clear SB
  have SB := SB'
  clear SB'
  have FM' := Lib.hid (FM.out.below hb)
  clear FM
  have FM := FM'
  clear FM'
  have FS' := Lib.hid (FS.out.below hb)
  clear FS
  have FS := FS'
  clear FS'
  clear hb LT
  have FR := Lib.hid hr
  clear hr
  have hq := below_one wr7 (.cells #[.int .i64 2] 3)
  have SB' := Lib.hid (below_after SB.out hq (Nat.le_refl _))
  clear SB
  have SB := SB'
  clear SB'
  have FM' := Lib.hid (FM.out.below hq)
  clear FM
  have FM := FM'
  clear FM'
  have FS' := Lib.hid (FS.out.below hq)
  clear FS
  have FS := FS'
  clear FS'
  have FR' := Lib.hid (FR.out.below hq)
  clear FR
  have FR := FR'
  clear FR'
  clear hq
  have FN := Lib.hid (show Nums (wr7.alloc (.cells #[.int .i64 2] 3)) (.slice (some ⟨wr7.heap.size, 0, none⟩) 1 1) [2] from nums_lit wr7 [2])
  obtain ⟨u7, hu7⟩ : ∃ u : SL, u = (some ⟨wr7.heap.size, 0, none⟩, 1, 1) := ⟨_, rfl⟩
  have HU7 := Lib.hid (show (Value.slice (some ⟨wr7.heap.size, 0, none⟩) 1 1) = (.slice u7.1 u7.2.1 u7.2.2) by rw [hu7])
  rw [HU7.out] at FN
  clear hu7
  have I7 : Hid (ItmOk (wr7.alloc (.cells #[.int .i64 2] 3)) ⟨a7, nl, c7, nl, e7, (⟨membersOf [3, 5], [], [((1, 1), 0, allOf [2])], [], allOf [1]⟩ : Vw), true, true, 1, u7, [2]⟩) := Lib.hid ⟨vAt_of FM.out (Ids.nil _) FR.out (Rcs.nil _) FS.out, FN.out⟩
  have C7 := SB
  clear SB FM FS FR FN
  obtain ⟨W7, hW7⟩ : ∃ W, W = (wr7.alloc (.cells #[.int .i64 2] 3)) := ⟨_, rfl⟩
  rw [← hW7] at I7 C7
  have HZ7 := Lib.hid (show wr7.heap.size + 1 = W7.heap.size by rw [hW7]; simp)
  have SB := Lib.hid (Below.refl W7.heap.size W7)
  go_wp2_with fail
  rw [HU7.out, HZ7.out, ← hW7]
  clear HU7 HZ7 hW7
  have hq := below_one W7 (.cells #[.int .u8 3, .int .u8 1] 5)
  have SB' := Lib.hid (below_after SB.out hq (Nat.le_refl _))
  clear SB
  have SB := SB'
  clear SB'
  clear hq
  have LT := Lib.hid (show U8s (W7.alloc (.cells #[.int .u8 3, .int .u8 1] 5)) (.slice (some ⟨W7.heap.size, 0, none⟩) 2 2) [3, 1] from u8s_lit W7 [3, 1])
  (with_reducible refine (membersOf_any _ [3, 1] _ LT.out (by decide)).mono ?_)
  rintro eu8 wu8 ⟨v1, rfl, hm, hb⟩
  have SB' := Lib.hid (below_after SB.out hb (Nat.le_refl _))
  clear SB
  have SB := SB'
  clear SB'
  clear hb LT
  obtain ⟨a8, rfl⟩ := sl_rcs hm
  have FM := Lib.hid hm
  clear hm
  go_wp2_with fail
  have hq := below_one wu8 (.cells #[.int .i64 1] 3)
  have SB' := Lib.hid (below_after SB.out hq (Nat.le_refl _))
  clear SB
  have SB := SB'
  clear SB'
  have FM' := Lib.hid (FM.out.below hq)
  clear FM
  have FM := FM'
  clear FM'
  clear hq
  have LT := Lib.hid (show Nums (wu8.alloc (.cells #[.int .i64 1] 3)) (.slice (some ⟨wu8.heap.size, 0, none⟩) 1 1) [1] from nums_lit wu8 [1])
  (with_reducible refine (allOf_any _ [1] _ LT.out (by decide)).mono ?_)
  rintro es8 ws8 ⟨v1, rfl, ho, hb⟩
  have SB' := Lib.hid (below_after SB.out hb (Nat.le_refl _))
  clear SB
  have SB := SB'
  clear SB'
  have FM' := Lib.hid (FM.out.below hb)
  clear FM
  have FM := FM'
  clear FM'
  clear hb LT
  have FS := Lib.hid (ids_of_owns ho)
  obtain ⟨e8, he⟩ := sl_ids FS.out
  subst he
  clear ho
  go_wp2_with fail
  have hq := below_one ws8 (.cells #[.int .i64 2] 3)
  have SB' := Lib.hid (below_after SB.out hq (Nat.le_refl _))
  clear SB
  have SB := SB'
  clear SB'
  have FM' := Lib.hid (FM.out.below hq)
  clear FM
  have FM := FM'
  clear FM'
  have FS' := Lib.hid (FS.out.below hq)
  clear FS
  have FS := FS'
  clear FS'
  clear hq
  have LT := Lib.hid (show Nums (ws8.alloc (.cells #[.int .i64 2] 3)) (.slice (some ⟨ws8.heap.size, 0, none⟩) 1 1) [2] from nums_lit ws8 [2])
  (with_reducible refine (rowsOf_any 1 _ [2] _ LT.out (by decide)).mono ?_)
  rintro er8 wr8 ⟨c8, rfl, hr, hb⟩
  have SB' := Lib.hid (below_after SB.out hb (Nat.le_refl _))
  clear SB
  have SB := SB'
  clear SB'
  have FM' := Lib.hid (FM.out.below hb)
  clear FM
  have FM := FM'
  clear FM'
  have FS' := Lib.hid (FS.out.below hb)
  clear FS
  have FS := FS'
  clear FS'
  clear hb LT
  have FR := Lib.hid hr
  clear hr
  have hq := below_one wr8 (.cells #[.int .i64 2] 3)
  have SB' := Lib.hid (below_after SB.out hq (Nat.le_refl _))
  clear SB
  have SB := SB'
  clear SB'
  have FM' := Lib.hid (FM.out.below hq)
  clear FM
  have FM := FM'
  clear FM'
  have FS' := Lib.hid (FS.out.below hq)
  clear FS
  have FS := FS'
  clear FS'
  have FR' := Lib.hid (FR.out.below hq)
  clear FR
  have FR := FR'
  clear FR'
  clear hq
  have FN := Lib.hid (show Nums (wr8.alloc (.cells #[.int .i64 2] 3)) (.slice (some ⟨wr8.heap.size, 0, none⟩) 1 1) [2] from nums_lit wr8 [2])
  obtain ⟨u8, hu8⟩ : ∃ u : SL, u = (some ⟨wr8.heap.size, 0, none⟩, 1, 1) := ⟨_, rfl⟩
  have HU8 := Lib.hid (show (Value.slice (some ⟨wr8.heap.size, 0, none⟩) 1 1) = (.slice u8.1 u8.2.1 u8.2.2) by rw [hu8])
  rw [HU8.out] at FN
  clear hu8
  have I8 : Hid (ItmOk (wr8.alloc (.cells #[.int .i64 2] 3)) ⟨a8, nl, c8, nl, e8, (⟨membersOf [3, 1], [], [((1, 1), 0, allOf [2])], [], allOf [1]⟩ : Vw), false, true, 1, u8, [2]⟩) := Lib.hid ⟨vAt_of FM.out (Ids.nil _) FR.out (Rcs.nil _) FS.out, FN.out⟩
  have C8 := SB
  clear SB FM FS FR FN
  obtain ⟨W8, hW8⟩ : ∃ W, W = (wr8.alloc (.cells #[.int .i64 2] 3)) := ⟨_, rfl⟩
  rw [← hW8] at I8 C8
  have HZ8 := Lib.hid (show wr8.heap.size + 1 = W8.heap.size by rw [hW8]; simp)
  have SB := Lib.hid (Below.refl W8.heap.size W8)
  go_wp2_with fail
  rw [HU8.out, HZ8.out, ← hW8]
  clear HU8 HZ8 hW8
  have hq := below_one W8 (.cells #[.int .u8 3, .int .u8 3] 5)
  have SB' := Lib.hid (below_after SB.out hq (Nat.le_refl _))
  clear SB
  have SB := SB'
  clear SB'
  clear hq
  have LT := Lib.hid (show U8s (W8.alloc (.cells #[.int .u8 3, .int .u8 3] 5)) (.slice (some ⟨W8.heap.size, 0, none⟩) 2 2) [3, 3] from u8s_lit W8 [3, 3])
  (with_reducible refine (membersOf_any _ [3, 3] _ LT.out (by decide)).mono ?_)
  rintro eu9 wu9 ⟨v1, rfl, hm, hb⟩
  have SB' := Lib.hid (below_after SB.out hb (Nat.le_refl _))
  clear SB
  have SB := SB'
  clear SB'
  clear hb LT
  obtain ⟨a9, rfl⟩ := sl_rcs hm
  have FM := Lib.hid hm
  clear hm
  go_wp2_with fail
  have hq := below_one wu9 (.cells #[.int .i64 2] 3)
  have SB' := Lib.hid (below_after SB.out hq (Nat.le_refl _))
  clear SB
  have SB := SB'
  clear SB'
  have FM' := Lib.hid (FM.out.below hq)
  clear FM
  have FM := FM'
  clear FM'
  clear hq
  have LT := Lib.hid (show Nums (wu9.alloc (.cells #[.int .i64 2] 3)) (.slice (some ⟨wu9.heap.size, 0, none⟩) 1 1) [2] from nums_lit wu9 [2])
  (with_reducible refine (allOf_any _ [2] _ LT.out (by decide)).mono ?_)
  rintro es9 ws9 ⟨v1, rfl, ho, hb⟩
  have SB' := Lib.hid (below_after SB.out hb (Nat.le_refl _))
  clear SB
  have SB := SB'
  clear SB'
  have FM' := Lib.hid (FM.out.below hb)
  clear FM
  have FM := FM'
  clear FM'
  clear hb LT
  have FS := Lib.hid (ids_of_owns ho)
  obtain ⟨e9, he⟩ := sl_ids FS.out
  subst he
  clear ho
  go_wp2_with fail
  have hq := below_one ws9 (.cells #[.int .i64 1] 3)
  have SB' := Lib.hid (below_after SB.out hq (Nat.le_refl _))
  clear SB
  have SB := SB'
  clear SB'
  have FM' := Lib.hid (FM.out.below hq)
  clear FM
  have FM := FM'
  clear FM'
  have FS' := Lib.hid (FS.out.below hq)
  clear FS
  have FS := FS'
  clear FS'
  clear hq
  have LT := Lib.hid (show Nums (ws9.alloc (.cells #[.int .i64 1] 3)) (.slice (some ⟨ws9.heap.size, 0, none⟩) 1 1) [1] from nums_lit ws9 [1])
  (with_reducible refine (rowsOf_any 2 _ [1] _ LT.out (by decide)).mono ?_)
  rintro er9 wr9 ⟨c9, rfl, hr, hb⟩
  have SB' := Lib.hid (below_after SB.out hb (Nat.le_refl _))
  clear SB
  have SB := SB'
  clear SB'
  have FM' := Lib.hid (FM.out.below hb)
  clear FM
  have FM := FM'
  clear FM'
  have FS' := Lib.hid (FS.out.below hb)
  clear FS
  have FS := FS'
  clear FS'
  clear hb LT
  have FR := Lib.hid hr
  clear hr
  have hq := below_one wr9 (.cells #[.int .i64 1] 3)
  have SB' := Lib.hid (below_after SB.out hq (Nat.le_refl _))
  clear SB
  have SB := SB'
  clear SB'
  have FM' := Lib.hid (FM.out.below hq)
  clear FM
  have FM := FM'
  clear FM'
  have FS' := Lib.hid (FS.out.below hq)
  clear FS
  have FS := FS'
  clear FS'
  have FR' := Lib.hid (FR.out.below hq)
  clear FR
  have FR := FR'
  clear FR'
  clear hq
  have FN := Lib.hid (show Nums (wr9.alloc (.cells #[.int .i64 1] 3)) (.slice (some ⟨wr9.heap.size, 0, none⟩) 1 1) [1] from nums_lit wr9 [1])
  obtain ⟨u9, hu9⟩ : ∃ u : SL, u = (some ⟨wr9.heap.size, 0, none⟩, 1, 1) := ⟨_, rfl⟩
  have HU9 := Lib.hid (show (Value.slice (some ⟨wr9.heap.size, 0, none⟩) 1 1) = (.slice u9.1 u9.2.1 u9.2.2) by rw [hu9])
  rw [HU9.out] at FN
  clear hu9
  have I9 : Hid (ItmOk (wr9.alloc (.cells #[.int .i64 1] 3)) ⟨a9, nl, c9, nl, e9, (⟨membersOf [3, 3], [], [((2, 1), 0, allOf [1])], [], allOf [2]⟩ : Vw), false, true, 2, u9, [1]⟩) := Lib.hid ⟨vAt_of FM.out (Ids.nil _) FR.out (Rcs.nil _) FS.out, FN.out⟩
  have C9 := SB
  clear SB FM FS FR FN
  obtain ⟨W9, hW9⟩ : ∃ W, W = (wr9.alloc (.cells #[.int .i64 1] 3)) := ⟨_, rfl⟩
  rw [← hW9] at I9 C9
  have HZ9 := Lib.hid (show wr9.heap.size + 1 = W9.heap.size by rw [hW9]; simp)
  have SB := Lib.hid (Below.refl W9.heap.size W9)
  go_wp2_with fail
  rw [HU9.out, HZ9.out, ← hW9]
  clear HU9 HZ9 hW9
  have hq := below_one W9 (.cells #[.int .u8 3, .int .u8 2] 5)
  have SB' := Lib.hid (below_after SB.out hq (Nat.le_refl _))
  clear SB
  have SB := SB'
  clear SB'
  clear hq
  have LT := Lib.hid (show U8s (W9.alloc (.cells #[.int .u8 3, .int .u8 2] 5)) (.slice (some ⟨W9.heap.size, 0, none⟩) 2 2) [3, 2] from u8s_lit W9 [3, 2])
  (with_reducible refine (membersOf_any _ [3, 2] _ LT.out (by decide)).mono ?_)
  rintro eu10 wu10 ⟨v1, rfl, hm, hb⟩
  have SB' := Lib.hid (below_after SB.out hb (Nat.le_refl _))
  clear SB
  have SB := SB'
  clear SB'
  clear hb LT
  obtain ⟨a10, rfl⟩ := sl_rcs hm
  have FM := Lib.hid hm
  clear hm
  go_wp2_with fail
  have hq := below_one wu10 (.cells #[.int .i64 1] 3)
  have SB' := Lib.hid (below_after SB.out hq (Nat.le_refl _))
  clear SB
  have SB := SB'
  clear SB'
  have FM' := Lib.hid (FM.out.below hq)
  clear FM
  have FM := FM'
  clear FM'
  clear hq
  have LT := Lib.hid (show Nums (wu10.alloc (.cells #[.int .i64 1] 3)) (.slice (some ⟨wu10.heap.size, 0, none⟩) 1 1) [1] from nums_lit wu10 [1])
  (with_reducible refine (allOf_any _ [1] _ LT.out (by decide)).mono ?_)
  rintro es10 ws10 ⟨v1, rfl, ho, hb⟩
  have SB' := Lib.hid (below_after SB.out hb (Nat.le_refl _))
  clear SB
  have SB := SB'
  clear SB'
  have FM' := Lib.hid (FM.out.below hb)
  clear FM
  have FM := FM'
  clear FM'
  clear hb LT
  have FS := Lib.hid (ids_of_owns ho)
  obtain ⟨e10, he⟩ := sl_ids FS.out
  subst he
  clear ho
  go_wp2_with fail
  have hq := below_one ws10 (.cells #[.int .i64 1] 3)
  have SB' := Lib.hid (below_after SB.out hq (Nat.le_refl _))
  clear SB
  have SB := SB'
  clear SB'
  have FM' := Lib.hid (FM.out.below hq)
  clear FM
  have FM := FM'
  clear FM'
  have FS' := Lib.hid (FS.out.below hq)
  clear FS
  have FS := FS'
  clear FS'
  clear hq
  have LT := Lib.hid (show Nums (ws10.alloc (.cells #[.int .i64 1] 3)) (.slice (some ⟨ws10.heap.size, 0, none⟩) 1 1) [1] from nums_lit ws10 [1])
  (with_reducible refine (rowsOf_any 2 _ [1] _ LT.out (by decide)).mono ?_)
  rintro er10 wr10 ⟨c10, rfl, hr, hb⟩
  have SB' := Lib.hid (below_after SB.out hb (Nat.le_refl _))
  clear SB
  have SB := SB'
  clear SB'
  have FM' := Lib.hid (FM.out.below hb)
  clear FM
  have FM := FM'
  clear FM'
  have FS' := Lib.hid (FS.out.below hb)
  clear FS
  have FS := FS'
  clear FS'
  clear hb LT
  have FR := Lib.hid hr
  clear hr
  have hq := below_one wr10 (.cells #[.int .i64 1] 3)
  have SB' := Lib.hid (below_after SB.out hq (Nat.le_refl _))
  clear SB
  have SB := SB'
  clear SB'
  have FM' := Lib.hid (FM.out.below hq)
  clear FM
  have FM := FM'
  clear FM'
  have FS' := Lib.hid (FS.out.below hq)
  clear FS
  have FS := FS'
  clear FS'
  have FR' := Lib.hid (FR.out.below hq)
  clear FR
  have FR := FR'
  clear FR'
  clear hq
  have FN := Lib.hid (show Nums (wr10.alloc (.cells #[.int .i64 1] 3)) (.slice (some ⟨wr10.heap.size, 0, none⟩) 1 1) [1] from nums_lit wr10 [1])
  obtain ⟨u10, hu10⟩ : ∃ u : SL, u = (some ⟨wr10.heap.size, 0, none⟩, 1, 1) := ⟨_, rfl⟩
  have HU10 := Lib.hid (show (Value.slice (some ⟨wr10.heap.size, 0, none⟩) 1 1) = (.slice u10.1 u10.2.1 u10.2.2) by rw [hu10])
  rw [HU10.out] at FN
  clear hu10
  have I10 : Hid (ItmOk (wr10.alloc (.cells #[.int .i64 1] 3)) ⟨a10, nl, c10, nl, e10, (⟨membersOf [3, 2], [], [((2, 1), 0, allOf [1])], [], allOf [1]⟩ : Vw), false, false, 2, u10, [1]⟩) := Lib.hid ⟨vAt_of FM.out (Ids.nil _) FR.out (Rcs.nil _) FS.out, FN.out⟩
  have C10 := SB
  clear SB FM FS FR FN
  obtain ⟨W10, hW10⟩ : ∃ W, W = (wr10.alloc (.cells #[.int .i64 1] 3)) := ⟨_, rfl⟩
  rw [← hW10] at I10 C10
  have HZ10 := Lib.hid (show wr10.heap.size + 1 = W10.heap.size by rw [hW10]; simp)
  have SB := Lib.hid (Below.refl W10.heap.size W10)
  go_wp2_with fail
  rw [HU10.out, HZ10.out, ← hW10]
  clear HU10 HZ10 hW10
  have hq := below_one W10 (.cells #[.int .u8 3, .int .u8 5] 5)
  have SB' := Lib.hid (below_after SB.out hq (Nat.le_refl _))
  clear SB
  have SB := SB'
  clear SB'
  clear hq
  have LT := Lib.hid (show U8s (W10.alloc (.cells #[.int .u8 3, .int .u8 5] 5)) (.slice (some ⟨W10.heap.size, 0, none⟩) 2 2) [3, 5] from u8s_lit W10 [3, 5])
  (with_reducible refine (membersOf_any _ [3, 5] _ LT.out (by decide)).mono ?_)
  rintro eu11 wu11 ⟨v1, rfl, hm, hb⟩
  have SB' := Lib.hid (below_after SB.out hb (Nat.le_refl _))
  clear SB
  have SB := SB'
  clear SB'
  clear hb LT
  obtain ⟨a11, rfl⟩ := sl_rcs hm
  have FM := Lib.hid hm
  clear hm
  go_wp2_with fail
  have hq := below_one wu11 (.cells #[.int .i64 1] 3)
  have SB' := Lib.hid (below_after SB.out hq (Nat.le_refl _))
  clear SB
  have SB := SB'
  clear SB'
  have FM' := Lib.hid (FM.out.below hq)
  clear FM
  have FM := FM'
  clear FM'
  clear hq
  have LT := Lib.hid (show Nums (wu11.alloc (.cells #[.int .i64 1] 3)) (.slice (some ⟨wu11.heap.size, 0, none⟩) 1 1) [1] from nums_lit wu11 [1])
  (with_reducible refine (allOf_any _ [1] _ LT.out (by decide)).mono ?_)
  rintro es11 ws11 ⟨v1, rfl, ho, hb⟩
  have SB' := Lib.hid (below_after SB.out hb (Nat.le_refl _))
  clear SB
  have SB := SB'
  clear SB'
  have FM' := Lib.hid (FM.out.below hb)
  clear FM
  have FM := FM'
  clear FM'
  clear hb LT
  have FS := Lib.hid (ids_of_owns ho)
  obtain ⟨e11, he⟩ := sl_ids FS.out
  subst he
  clear ho
  go_wp2_with fail
  have hq := below_one ws11 (.cells #[.int .i64 1] 3)
  have SB' := Lib.hid (below_after SB.out hq (Nat.le_refl _))
  clear SB
  have SB := SB'
  clear SB'
  have FM' := Lib.hid (FM.out.below hq)
  clear FM
  have FM := FM'
  clear FM'
  have FS' := Lib.hid (FS.out.below hq)
  clear FS
  have FS := FS'
  clear FS'
  clear hq
  have LT := Lib.hid (show Nums (ws11.alloc (.cells #[.int .i64 1] 3)) (.slice (some ⟨ws11.heap.size, 0, none⟩) 1 1) [1] from nums_lit ws11 [1])
  (with_reducible refine (rowsOf_any 2 _ [1] _ LT.out (by decide)).mono ?_)
  rintro er11 wr11 ⟨c11, rfl, hr, hb⟩
  have SB' := Lib.hid (below_after SB.out hb (Nat.le_refl _))
  clear SB
  have SB := SB'
  clear SB'
  have FM' := Lib.hid (FM.out.below hb)
  clear FM
  have FM := FM'
  clear FM'
  have FS' := Lib.hid (FS.out.below hb)
  clear FS
  have FS := FS'
  clear FS'
  clear hb LT
  have FR := Lib.hid hr
  clear hr
  have hq := below_one wr11 (.cells #[.int .i64 1] 3)
  have SB' := Lib.hid (below_after SB.out hq (Nat.le_refl _))
  clear SB
  have SB := SB'
  clear SB'
  have FM' := Lib.hid (FM.out.below hq)
  clear FM
  have FM := FM'
  clear FM'
  have FS' := Lib.hid (FS.out.below hq)
  clear FS
  have FS := FS'
  clear FS'
  have FR' := Lib.hid (FR.out.below hq)
  clear FR
  have FR := FR'
  clear FR'
  clear hq
  have FN := Lib.hid (show Nums (wr11.alloc (.cells #[.int .i64 1] 3)) (.slice (some ⟨wr11.heap.size, 0, none⟩) 1 1) [1] from nums_lit wr11 [1])
  obtain ⟨u11, hu11⟩ : ∃ u : SL, u = (some ⟨wr11.heap.size, 0, none⟩, 1, 1) := ⟨_, rfl⟩
  have HU11 := Lib.hid (show (Value.slice (some ⟨wr11.heap.size, 0, none⟩) 1 1) = (.slice u11.1 u11.2.1 u11.2.2) by rw [hu11])
  rw [HU11.out] at FN
  clear hu11
  have I11 : Hid (ItmOk (wr11.alloc (.cells #[.int .i64 1] 3)) ⟨a11, nl, c11, nl, e11, (⟨membersOf [3, 5], [], [((2, 1), 0, allOf [1])], [], allOf [1]⟩ : Vw), false, false, 0, u11, [1]⟩) := Lib.hid ⟨vAt_of FM.out (Ids.nil _) FR.out (Rcs.nil _) FS.out, FN.out⟩
  have C11 := SB
  clear SB FM FS FR FN
  obtain ⟨W11, hW11⟩ : ∃ W, W = (wr11.alloc (.cells #[.int .i64 1] 3)) := ⟨_, rfl⟩
  rw [← hW11] at I11 C11
  have HZ11 := Lib.hid (show wr11.heap.size + 1 = W11.heap.size by rw [hW11]; simp)
  have SB := Lib.hid (Below.refl W11.heap.size W11)
  go_wp2_with fail
  rw [HU11.out, HZ11.out, ← hW11]
  clear HU11 HZ11 hW11
  have hq := below_one W11 (.cells #[.int .u8 3] 5)
  have SB' := Lib.hid (below_after SB.out hq (Nat.le_refl _))
  clear SB
  have SB := SB'
  clear SB'
  clear hq
  have LT := Lib.hid (show U8s (W11.alloc (.cells #[.int .u8 3] 5)) (.slice (some ⟨W11.heap.size, 0, none⟩) 1 1) [3] from u8s_lit W11 [3])
  (with_reducible refine (membersOf_any _ [3] _ LT.out (by decide)).mono ?_)
  rintro eu12 wu12 ⟨v1, rfl, hm, hb⟩
  have SB' := Lib.hid (below_after SB.out hb (Nat.le_refl _))
  clear SB
  have SB := SB'
  clear SB'
  clear hb LT
  obtain ⟨a12, rfl⟩ := sl_rcs hm
  have FM := Lib.hid hm
  clear hm
  go_wp2_with fail
  have hq := below_one wu12 (.cells #[.int .i64 1] 3)
  have SB' := Lib.hid (below_after SB.out hq (Nat.le_refl _))
  clear SB
  have SB := SB'
  clear SB'
  have FM' := Lib.hid (FM.out.below hq)
  clear FM
  have FM := FM'
  clear FM'
  clear hq
  have LT := Lib.hid (show Nums (wu12.alloc (.cells #[.int .i64 1] 3)) (.slice (some ⟨wu12.heap.size, 0, none⟩) 1 1) [1] from nums_lit wu12 [1])
  (with_reducible refine (allOf_any _ [1] _ LT.out (by decide)).mono ?_)
  rintro es12 ws12 ⟨v1, rfl, ho, hb⟩
  have SB' := Lib.hid (below_after SB.out hb (Nat.le_refl _))
  clear SB
  have SB := SB'
  clear SB'
  have FM' := Lib.hid (FM.out.below hb)
  clear FM
  have FM := FM'
  clear FM'
  clear hb LT
  have FS := Lib.hid (ids_of_owns ho)
  obtain ⟨e12, he⟩ := sl_ids FS.out
  subst he
  clear ho
  go_wp2_with fail
  have hq := below_one ws12 (.cells #[.int .i64 1] 3)
  have SB' := Lib.hid (below_after SB.out hq (Nat.le_refl _))
  clear SB
  have SB := SB'
  clear SB'
  have FM' := Lib.hid (FM.out.below hq)
  clear FM
  have FM := FM'
  clear FM'
  have FS' := Lib.hid (FS.out.below hq)
  clear FS
  have FS := FS'
  clear FS'
  clear hq
  have LT := Lib.hid (show Nums (ws12.alloc (.cells #[.int .i64 1] 3)) (.slice (some ⟨ws12.heap.size, 0, none⟩) 1 1) [1] from nums_lit ws12 [1])
  (with_reducible refine (rowsOf_any 1 _ [1] _ LT.out (by decide)).mono ?_)
  rintro er12 wr12 ⟨c12, rfl, hr, hb⟩
  have SB' := Lib.hid (below_after SB.out hb (Nat.le_refl _))
  clear SB
  have SB := SB'
  clear SB'
  have FM' := Lib.hid (FM.out.below hb)
  clear FM
  have FM := FM'
  clear FM'
  have FS' := Lib.hid (FS.out.below hb)
  clear FS
  have FS := FS'
  clear FS'
  clear hb LT
  have FR := Lib.hid hr
  clear hr
  have I12 : Hid (ItmOk wr12 ⟨a12, nl, c12, nl, e12, (⟨membersOf [3], [], [((1, 1), 0, allOf [1])], [], allOf [1]⟩ : Vw), true, true, 1, nl, []⟩) := Lib.hid ⟨vAt_of FM.out (Ids.nil _) FR.out (Rcs.nil _) FS.out, Rcs.nil _⟩
  have C12 := SB
  clear SB FM FS FR
  obtain ⟨W12, hW12⟩ : ∃ W, W = wr12 := ⟨_, rfl⟩
  rw [← hW12] at I12 C12
  rw [← hW12]
  clear hW12
  have SB := Lib.hid (Below.refl W12.heap.size W12)
  go_wp2_with fail
  have hq := below_one W12 (.cells #[.int .u8 3] 5)
  have SB' := Lib.hid (below_after SB.out hq (Nat.le_refl _))
  clear SB
  have SB := SB'
  clear SB'
  clear hq
  have LT := Lib.hid (show U8s (W12.alloc (.cells #[.int .u8 3] 5)) (.slice (some ⟨W12.heap.size, 0, none⟩) 1 1) [3] from u8s_lit W12 [3])
  (with_reducible refine (membersOf_any _ [3] _ LT.out (by decide)).mono ?_)
  rintro eu13 wu13 ⟨v1, rfl, hm, hb⟩
  have SB' := Lib.hid (below_after SB.out hb (Nat.le_refl _))
  clear SB
  have SB := SB'
  clear SB'
  clear hb LT
  obtain ⟨a13, rfl⟩ := sl_rcs hm
  have FM := Lib.hid hm
  clear hm
  go_wp2_with fail
  have hq := below_one wu13 (.cells #[.int .i64 1] 3)
  have SB' := Lib.hid (below_after SB.out hq (Nat.le_refl _))
  clear SB
  have SB := SB'
  clear SB'
  have FM' := Lib.hid (FM.out.below hq)
  clear FM
  have FM := FM'
  clear FM'
  clear hq
  have LT := Lib.hid (show Nums (wu13.alloc (.cells #[.int .i64 1] 3)) (.slice (some ⟨wu13.heap.size, 0, none⟩) 1 1) [1] from nums_lit wu13 [1])
  (with_reducible refine (allOf_any _ [1] _ LT.out (by decide)).mono ?_)
  rintro es13 ws13 ⟨v1, rfl, ho, hb⟩
  have SB' := Lib.hid (below_after SB.out hb (Nat.le_refl _))
  clear SB
  have SB := SB'
  clear SB'
  have FM' := Lib.hid (FM.out.below hb)
  clear FM
  have FM := FM'
  clear FM'
  clear hb LT
  have FS := Lib.hid (ids_of_owns ho)
  obtain ⟨e13, he⟩ := sl_ids FS.out
  subst he
  clear ho
  go_wp2_with fail
  have hq := below_one ws13 (.cells #[.int .i64 1] 3)
  have SB' := Lib.hid (below_after SB.out hq (Nat.le_refl _))
  clear SB
  have SB := SB'
  clear SB'
  have FM' := Lib.hid (FM.out.below hq)
  clear FM
  have FM := FM'
  clear FM'
  have FS' := Lib.hid (FS.out.below hq)
  clear FS
  have FS := FS'
  clear FS'
  clear hq
  have LT := Lib.hid (show Nums (ws13.alloc (.cells #[.int .i64 1] 3)) (.slice (some ⟨ws13.heap.size, 0, none⟩) 1 1) [1] from nums_lit ws13 [1])
  (with_reducible refine (rowsOf_any 5 _ [1] _ LT.out (by decide)).mono ?_)
  rintro er13 wr13 ⟨c13, rfl, hr, hb⟩
  have SB' := Lib.hid (below_after SB.out hb (Nat.le_refl _))
  clear SB
  have SB := SB'
  clear SB'
  have FM' := Lib.hid (FM.out.below hb)
  clear FM
  have FM := FM'
  clear FM'
  have FS' := Lib.hid (FS.out.below hb)
  clear FS
  have FS := FS'
  clear FS'
  clear hb LT
  have FR := Lib.hid hr
  clear hr
  have I13 : Hid (ItmOk wr13 ⟨a13, nl, c13, nl, e13, (⟨membersOf [3], [], [((5, 1), 0, allOf [1])], [], allOf [1]⟩ : Vw), true, true, 1, nl, []⟩) := Lib.hid ⟨vAt_of FM.out (Ids.nil _) FR.out (Rcs.nil _) FS.out, Rcs.nil _⟩
  have C13 := SB
  clear SB FM FS FR
  obtain ⟨W13, hW13⟩ : ∃ W, W = wr13 := ⟨_, rfl⟩
  rw [← hW13] at I13 C13
  rw [← hW13]
  clear hW13
  have SB := Lib.hid (Below.refl W13.heap.size W13)
  go_wp2_with fail
  have hq := below_one W13 (.cells #[.int .u8 3] 5)
  have SB' := Lib.hid (below_after SB.out hq (Nat.le_refl _))
  clear SB
  have SB := SB'
  clear SB'
  clear hq
  have LT := Lib.hid (show U8s (W13.alloc (.cells #[.int .u8 3] 5)) (.slice (some ⟨W13.heap.size, 0, none⟩) 1 1) [3] from u8s_lit W13 [3])
  (with_reducible refine (membersOf_any _ [3] _ LT.out (by decide)).mono ?_)
  rintro eu14 wu14 ⟨v1, rfl, hm, hb⟩
  have SB' := Lib.hid (below_after SB.out hb (Nat.le_refl _))
  clear SB
  have SB := SB'
  clear SB'
  clear hb LT
  obtain ⟨a14, rfl⟩ := sl_rcs hm
  have FM := Lib.hid hm
  clear hm
  go_wp2_with fail
  have hq := below_one wu14 (.cells #[.int .i64 1] 3)
  have SB' := Lib.hid (below_after SB.out hq (Nat.le_refl _))
  clear SB
  have SB := SB'
  clear SB'
  have FM' := Lib.hid (FM.out.below hq)
  clear FM
  have FM := FM'
  clear FM'
  clear hq
  have LT := Lib.hid (show Nums (wu14.alloc (.cells #[.int .i64 1] 3)) (.slice (some ⟨wu14.heap.size, 0, none⟩) 1 1) [1] from nums_lit wu14 [1])
  (with_reducible refine (allOf_any _ [1] _ LT.out (by decide)).mono ?_)
  rintro es14 ws14 ⟨v1, rfl, ho, hb⟩
  have SB' := Lib.hid (below_after SB.out hb (Nat.le_refl _))
  clear SB
  have SB := SB'
  clear SB'
  have FM' := Lib.hid (FM.out.below hb)
  clear FM
  have FM := FM'
  clear FM'
  clear hb LT
  have FS := Lib.hid (ids_of_owns ho)
  obtain ⟨e14, he⟩ := sl_ids FS.out
  subst he
  clear ho
  go_wp2_with fail
  have hq := below_one ws14 (.cells #[.int .i64 5] 3)
  have SB' := Lib.hid (below_after SB.out hq (Nat.le_refl _))
  clear SB
  have SB := SB'
  clear SB'
  have FM' := Lib.hid (FM.out.below hq)
  clear FM
  have FM := FM'
  clear FM'
  have FS' := Lib.hid (FS.out.below hq)
  clear FS
  have FS := FS'
  clear FS'
  clear hq
  have LT := Lib.hid (show Nums (ws14.alloc (.cells #[.int .i64 5] 3)) (.slice (some ⟨ws14.heap.size, 0, none⟩) 1 1) [5] from nums_lit ws14 [5])
  (with_reducible refine (rowsOf_any 1 _ [5] _ LT.out (by decide)).mono ?_)
  rintro er14 wr14 ⟨c14, rfl, hr, hb⟩
  have SB' := Lib.hid (below_after SB.out hb (Nat.le_refl _))
  clear SB
  have SB := SB'
  clear SB'
  have FM' := Lib.hid (FM.out.below hb)
  clear FM
  have FM := FM'
  clear FM'
  have FS' := Lib.hid (FS.out.below hb)
  clear FS
  have FS := FS'
  clear FS'
  clear hb LT
  have FR := Lib.hid hr
  clear hr
  have I14 : Hid (ItmOk wr14 ⟨a14, nl, c14, nl, e14, (⟨membersOf [3], [], [((1, 1), 0, allOf [5])], [], allOf [1]⟩ : Vw), true, true, 1, nl, []⟩) := Lib.hid ⟨vAt_of FM.out (Ids.nil _) FR.out (Rcs.nil _) FS.out, Rcs.nil _⟩
  have C14 := SB
  clear SB FM FS FR
  obtain ⟨W14, hW14⟩ : ∃ W, W = wr14 := ⟨_, rfl⟩
  rw [← hW14] at I14 C14
  rw [← hW14]
  clear hW14
  go_wp2_with fail
  obtain ⟨xs, hxs⟩ : ∃ xs : List Itm, xs = (⟨a1, nl, nl, nl, e1, (⟨membersOf [1, 2, 3], [], [], [], allOf [3]⟩ : Vw), true, true, 3, nl, []⟩ : Itm) :: (⟨a2, nl, nl, nl, e2, (⟨membersOf [1, 2], [], [], [], allOf [1, 2]⟩ : Vw), false, false, 2, nl, []⟩ : Itm) :: (⟨a3, nl, nl, nl, e3, (⟨membersOf [1], [], [], [], allOf [1]⟩ : Vw), false, false, 1, nl, []⟩ : Itm) :: (⟨a4, nl, nl, nl, e4, (⟨membersOf [5, 6], [], [], [], allOf [1, 2]⟩ : Vw), false, false, 0, nl, []⟩ : Itm) :: (⟨a5, nl, nl, nl, e5, (⟨membersOf [4, 3], [], [], [], allOf [1]⟩ : Vw), false, false, 1, nl, []⟩ : Itm) :: (⟨a6, nl, c6, nl, e6, (⟨membersOf [3, 6], [], [((1, 1), 0, allOf [2])], [], allOf [1]⟩ : Vw), true, true, 1, u6, [2]⟩ : Itm) :: (⟨a7, nl, c7, nl, e7, (⟨membersOf [3, 5], [], [((1, 1), 0, allOf [2])], [], allOf [1]⟩ : Vw), true, true, 1, u7, [2]⟩ : Itm) :: (⟨a8, nl, c8, nl, e8, (⟨membersOf [3, 1], [], [((1, 1), 0, allOf [2])], [], allOf [1]⟩ : Vw), false, true, 1, u8, [2]⟩ : Itm) :: (⟨a9, nl, c9, nl, e9, (⟨membersOf [3, 3], [], [((2, 1), 0, allOf [1])], [], allOf [2]⟩ : Vw), false, true, 2, u9, [1]⟩ : Itm) :: (⟨a10, nl, c10, nl, e10, (⟨membersOf [3, 2], [], [((2, 1), 0, allOf [1])], [], allOf [1]⟩ : Vw), false, false, 2, u10, [1]⟩ : Itm) :: (⟨a11, nl, c11, nl, e11, (⟨membersOf [3, 5], [], [((2, 1), 0, allOf [1])], [], allOf [1]⟩ : Vw), false, false, 0, u11, [1]⟩ : Itm) :: (⟨a12, nl, c12, nl, e12, (⟨membersOf [3], [], [((1, 1), 0, allOf [1])], [], allOf [1]⟩ : Vw), true, true, 1, nl, []⟩ : Itm) :: (⟨a13, nl, c13, nl, e13, (⟨membersOf [3], [], [((5, 1), 0, allOf [1])], [], allOf [1]⟩ : Vw), true, true, 1, nl, []⟩ : Itm) :: (⟨a14, nl, c14, nl, e14, (⟨membersOf [3], [], [((1, 1), 0, allOf [5])], [], allOf [1]⟩ : Vw), true, true, 1, nl, []⟩ : Itm) :: [] := ⟨_, rfl⟩
  have D14 := Lib.hid (Below.refl W14.heap.size W14)
  have D13 := Lib.hid (below_after C14.out D14.out (Nat.le_refl _))
  have D12 := Lib.hid (below_after C13.out D13.out (Nat.le_refl _))
  have D11 := Lib.hid (below_after C12.out D12.out (Nat.le_refl _))
  have D10 := Lib.hid (below_after C11.out D11.out (Nat.le_refl _))
  have D9 := Lib.hid (below_after C10.out D10.out (Nat.le_refl _))
  have D8 := Lib.hid (below_after C9.out D9.out (Nat.le_refl _))
  have D7 := Lib.hid (below_after C8.out D8.out (Nat.le_refl _))
  have D6 := Lib.hid (below_after C7.out D7.out (Nat.le_refl _))
  have D5 := Lib.hid (below_after C6.out D6.out (Nat.le_refl _))
  have D4 := Lib.hid (below_after C5.out D5.out (Nat.le_refl _))
  have D3 := Lib.hid (below_after C4.out D4.out (Nat.le_refl _))
  have D2 := Lib.hid (below_after C3.out D3.out (Nat.le_refl _))
  have D1 := Lib.hid (below_after C2.out D2.out (Nat.le_refl _))
  have D0 := Lib.hid (below_after C1.out D1.out (Nat.le_refl _))
  have HOk : Hid (∀ x ∈ xs, ItmOk W14 x) := Lib.hid (by rw [hxs]; exact all_more1 (I1.out.below D1.out) (all_more1 (I2.out.below D2.out) (all_more1 (I3.out.below D3.out) (all_more1 (I4.out.below D4.out) (all_more1 (I5.out.below D5.out) (all_more1 (I6.out.below D6.out) (all_more1 (I7.out.below D7.out) (all_more1 (I8.out.below D8.out) (all_more1 (I9.out.below D9.out) (all_more1 (I10.out.below D10.out) (all_more1 (I11.out.below D11.out) (all_more1 (I12.out.below D12.out) (all_more1 (I13.out.below D13.out) (all_more1 I14.out (all_none)))))))))))))))
  have HTl : Hid (∀ x ∈ xs, ItmTells x) := Lib.hid (by rw [hxs]; exact all_more1 (itm_tells (show Tells (⟨membersOf [1, 2, 3], [], [], [], allOf [3]⟩ : Vw) true true 3 [] from ⟨by kernel_rfl, by kernel_rfl, by kernel_rfl, by kernel_rfl, by kernel_rfl⟩) (show FitA (⟨membersOf [1, 2, 3], [], [], [], allOf [3]⟩ : Vw) from ⟨by decide, by decide, by decide, by decide +kernel⟩) (show ([] : List Int).length ≤ 1000 by decide)) (all_more1 (itm_tells (show Tells (⟨membersOf [1, 2], [], [], [], allOf [1, 2]⟩ : Vw) false false 2 [] from ⟨by kernel_rfl, by kernel_rfl, by kernel_rfl, by kernel_rfl, by kernel_rfl⟩) (show FitA (⟨membersOf [1, 2], [], [], [], allOf [1, 2]⟩ : Vw) from ⟨by decide, by decide, by decide, by decide +kernel⟩) (show ([] : List Int).length ≤ 1000 by decide)) (all_more1 (itm_tells (show Tells (⟨membersOf [1], [], [], [], allOf [1]⟩ : Vw) false false 1 [] from ⟨by kernel_rfl, by kernel_rfl, by kernel_rfl, by kernel_rfl, by kernel_rfl⟩) (show FitA (⟨membersOf [1], [], [], [], allOf [1]⟩ : Vw) from ⟨by decide, by decide, by decide, by decide +kernel⟩) (show ([] : List Int).length ≤ 1000 by decide)) (all_more1 (itm_tells (show Tells (⟨membersOf [5, 6], [], [], [], allOf [1, 2]⟩ : Vw) false false 0 [] from ⟨by kernel_rfl, by kernel_rfl, by kernel_rfl, by kernel_rfl, by kernel_rfl⟩) (show FitA (⟨membersOf [5, 6], [], [], [], allOf [1, 2]⟩ : Vw) from ⟨by decide, by decide, by decide, by decide +kernel⟩) (show ([] : List Int).length ≤ 1000 by decide)) (all_more1 (itm_tells (show Tells (⟨membersOf [4, 3], [], [], [], allOf [1]⟩ : Vw) false false 1 [] from ⟨by kernel_rfl, by kernel_rfl, by kernel_rfl, by kernel_rfl, by kernel_rfl⟩) (show FitA (⟨membersOf [4, 3], [], [], [], allOf [1]⟩ : Vw) from ⟨by decide, by decide, by decide, by decide +kernel⟩) (show ([] : List Int).length ≤ 1000 by decide)) (all_more1 (itm_tells (show Tells (⟨membersOf [3, 6], [], [((1, 1), 0, allOf [2])], [], allOf [1]⟩ : Vw) true true 1 [2] from ⟨by kernel_rfl, by kernel_rfl, by kernel_rfl, by kernel_rfl, by kernel_rfl⟩) (show FitA (⟨membersOf [3, 6], [], [((1, 1), 0, allOf [2])], [], allOf [1]⟩ : Vw) from ⟨by decide, by decide, by decide, by decide +kernel⟩) (show ([2] : List Int).length ≤ 1000 by decide)) (all_more1 (itm_tells (show Tells (⟨membersOf [3, 5], [], [((1, 1), 0, allOf [2])], [], allOf [1]⟩ : Vw) true true 1 [2] from ⟨by kernel_rfl, by kernel_rfl, by kernel_rfl, by kernel_rfl, by kernel_rfl⟩) (show FitA (⟨membersOf [3, 5], [], [((1, 1), 0, allOf [2])], [], allOf [1]⟩ : Vw) from ⟨by decide, by decide, by decide, by decide +kernel⟩) (show ([2] : List Int).length ≤ 1000 by decide)) (all_more1 (itm_tells (show Tells (⟨membersOf [3, 1], [], [((1, 1), 0, allOf [2])], [], allOf [1]⟩ : Vw) false true 1 [2] from ⟨by kernel_rfl, by kernel_rfl, by kernel_rfl, by kernel_rfl, by kernel_rfl⟩) (show FitA (⟨membersOf [3, 1], [], [((1, 1), 0, allOf [2])], [], allOf [1]⟩ : Vw) from ⟨by decide, by decide, by decide, by decide +kernel⟩) (show ([2] : List Int).length ≤ 1000 by decide)) (all_more1 (itm_tells (show Tells (⟨membersOf [3, 3], [], [((2, 1), 0, allOf [1])], [], allOf [2]⟩ : Vw) false true 2 [1] from ⟨by kernel_rfl, by kernel_rfl, by kernel_rfl, by kernel_rfl, by kernel_rfl⟩) (show FitA (⟨membersOf [3, 3], [], [((2, 1), 0, allOf [1])], [], allOf [2]⟩ : Vw) from ⟨by decide, by decide, by decide, by decide +kernel⟩) (show ([1] : List Int).length ≤ 1000 by decide)) (all_more1 (itm_tells (show Tells (⟨membersOf [3, 2], [], [((2, 1), 0, allOf [1])], [], allOf [1]⟩ : Vw) false false 2 [1] from ⟨by kernel_rfl, by kernel_rfl, by kernel_rfl, by kernel_rfl, by kernel_rfl⟩) (show FitA (⟨membersOf [3, 2], [], [((2, 1), 0, allOf [1])], [], allOf [1]⟩ : Vw) from ⟨by decide, by decide, by decide, by decide +kernel⟩) (show ([1] : List Int).length ≤ 1000 by decide)) (all_more1 (itm_tells (show Tells (⟨membersOf [3, 5], [], [((2, 1), 0, allOf [1])], [], allOf [1]⟩ : Vw) false false 0 [1] from ⟨by kernel_rfl, by kernel_rfl, by kernel_rfl, by kernel_rfl, by kernel_rfl⟩) (show FitA (⟨membersOf [3, 5], [], [((2, 1), 0, allOf [1])], [], allOf [1]⟩ : Vw) from ⟨by decide, by decide, by decide, by decide +kernel⟩) (show ([1] : List Int).length ≤ 1000 by decide)) (all_more1 (itm_tells (show Tells (⟨membersOf [3], [], [((1, 1), 0, allOf [1])], [], allOf [1]⟩ : Vw) true true 1 [] from ⟨by kernel_rfl, by kernel_rfl, by kernel_rfl, by kernel_rfl, by kernel_rfl⟩) (show FitA (⟨membersOf [3], [], [((1, 1), 0, allOf [1])], [], allOf [1]⟩ : Vw) from ⟨by decide, by decide, by decide, by decide +kernel⟩) (show ([] : List Int).length ≤ 1000 by decide)) (all_more1 (itm_tells (show Tells (⟨membersOf [3], [], [((5, 1), 0, allOf [1])], [], allOf [1]⟩ : Vw) true true 1 [] from ⟨by kernel_rfl, by kernel_rfl, by kernel_rfl, by kernel_rfl, by kernel_rfl⟩) (show FitA (⟨membersOf [3], [], [((5, 1), 0, allOf [1])], [], allOf [1]⟩ : Vw) from ⟨by decide, by decide, by decide, by decide +kernel⟩) (show ([] : List Int).length ≤ 1000 by decide)) (all_more1 (itm_tells (show Tells (⟨membersOf [3], [], [((1, 1), 0, allOf [5])], [], allOf [1]⟩ : Vw) true true 1 [] from ⟨by kernel_rfl, by kernel_rfl, by kernel_rfl, by kernel_rfl, by kernel_rfl⟩) (show FitA (⟨membersOf [3], [], [((1, 1), 0, allOf [5])], [], allOf [1]⟩ : Vw) from ⟨by decide, by decide, by decide, by decide +kernel⟩) (show ([] : List Int).length ≤ 1000 by decide)) (all_none)))))))))))))))
  have HLn : Hid (xs.length = 14) := Lib.hid (by rw [hxs]; rfl)
  have BW := Lib.hid (below_after B4.out D0.out (Nat.le_refl _))
  have TW := Lib.hid (HT0.out.below BW.out)
  clear I1 C1 D1 I2 C2 D2 I3 C3 D3 I4 C4 D4 I5 C5 D5 I6 C6 D6 I7 C7 D7 I8 C8 D8 I9 C9 D9 I10 C10 D10 I11 C11 D11 I12 C12 D12 I13 C13 D13 I14 C14 D14
  clear D0 B4 HT0
  obtain ⟨ad, had⟩ : ∃ ad : Addr, ad = ⟨W14.heap.size, 0, none⟩ := ⟨_, rfl⟩
  rw [← had]
  go_loopw [135] (fun s135 wr => ∃ k : Nat, s135 = .int .i64 k ∧ k ≤ 14 ∧ Hid (Rcs encX 9 wr (.slice (some ad) 14 14) xs) ∧ Hid (Below W14.heap.size W14 wr)) (fun s135 _ => 14 - (intOf s135).toNat)
  case atStart => exact ⟨0, rfl, by omega, Lib.hid (by rw [had]; exact rcs_itms W14 xs _ 14 HLn.out (by rw [hxs]; rfl)), Lib.hid (below_one _ _)⟩
  case round =>
    obtain ⟨k, rfl, hk, HR, HB⟩ := hrel
    rename World => wr
    clear hxs had
    by_cases hlt : k < 14
    · have hd : decide (k < 14) = true := decide_eq_true hlt
      have hd2 : decide ((k : Int) < 14) = true := decide_eq_true (by omega)
      have i3 : (0 : Int) ≤ (k : Int) := by omega
      have i4 : (k : Int) < 14 := by omega
      have hkx : k < xs.length := by rw [HLn.out]; exact hlt
      obtain ⟨x, hx⟩ : ∃ x, x = xs[k] := ⟨_, rfl⟩
      obtain ⟨c0, c1, c2, c3, c4, c5, c6, c7, c8⟩ := itm_cells HR.out hkx hx
      have hmem : x ∈ xs := by rw [hx]; exact List.getElem_mem hkx
      have XO := Lib.hid (HOk.out x hmem)
      have XT := Lib.hid (HTl.out x hmem)
      clear hx hmem hkx
      obtain ⟨a, b, c, d, e, V, ev, re, ld, u, l⟩ := x
      dsimp only at c0 c1 c2 c3 c4 c5 c6 c7 c8
      obtain ⟨m0, m1, m2, m3, m4, m5, m6, m7, m8⟩ := nine_cells wr (.slice a.1 a.2.1 a.2.2) (.slice b.1 b.2.1 b.2.2) (.slice c.1 c.2.1 c.2.2) (.slice d.1 d.2.1 d.2.2) (.slice e.1 e.2.1 e.2.2) (.bool ev) (.bool re) (.int .i64 ld) (.slice u.1 u.2.1 u.2.2)
      have q := below_one wr (.cells #[.slice a.1 a.2.1 a.2.2, .slice b.1 b.2.1 b.2.2, .slice c.1 c.2.1 c.2.2, .slice d.1 d.2.1 d.2.2, .slice e.1 e.2.1 e.2.2, .bool ev, .bool re, .int .i64 ld, .slice u.1 u.2.1 u.2.2] 40)
      have QX := Lib.hid q
      clear q
      go_wp2_with fail
      clear c0 c1 c2 c3 c4 c5 c6 c7 c8 m0 m1 m2 m3 m4 m5 m6 m7 m8
      have B7 := Lib.hid (below_after HB.out QX.out (Nat.le_refl _))
      have R7 := Lib.hid (HR.out.below QX.out)
      clear HB HR QX
      generalize wr.alloc (.cells #[.slice a.1 a.2.1 a.2.2, .slice b.1 b.2.1 b.2.2, .slice c.1 c.2.1 c.2.2, .slice d.1 d.2.1 d.2.2, .slice e.1 e.2.1 e.2.2, .bool ev, .bool re, .int .i64 ld, .slice u.1 u.2.1 u.2.2] 40) = wy at *
      have XO2 := Lib.hid (XO.out.below B7.out)
      (with_reducible refine (tells_any _ V ev re ld _ l wy XO2.out.v XT.out.f (TW.out.below B7.out) XO2.out.n XT.out.l XT.out.t).mono ?_)
      rintro ey wz ⟨rfl, hb⟩
      have B8 := Lib.hid (below_after B7.out hb (Nat.le_refl _))
      have R8 := Lib.hid (R7.out.below hb)
      clear hb B7 R7 XO XO2 XT
      go_wp2_with fail
      go_roundw
      case rel => exact ⟨k + 1, by go_num, by omega, R8, B8⟩
      case measure => simp [intOf]; omega
    · have hd : decide (k < 14) = false := decide_eq_false hlt
      have hd2 : decide ((k : Int) < 14) = false := decide_eq_false (by omega)
      go_wp2_with fail
      go_ret
      exact ⟨rfl, below_after BW.out HB.out (Nat.le_refl _)⟩
end Go.Proofs.YtloghkiabgnpnaaDoor
