/-
  The first question of each statement: the document's examples. No statement is proved in this text.
-/
import Derived.Test.YtofanciaacdjfaaSetR
import Derived.Test.YtofanciaacdjfaaJoinB
namespace Go.Proofs.Ytofanciaacdjfaa
open Go Go.RowKit Sets RowSets
/-- One row, as a literal. -/
theorem rows_lit {W : World} {g : Nat} {a i n : Int} {B : Option Addr} {m c : Nat} {not : List Id2} (h : WBox W g a i n (.slice B m c)) (hn : Ids W (.slice B m c) not) : RowsAt W (.slice (some ⟨g, 0, none⟩) 1 1) [((a, i), n, not)] := by
  have h2 := wbox_cells h
  refine ⟨[((a, i), n, B, m, c)], ?_, EachReads.one (show Reads W ((a, i), n, B, m, c) ((a, i), n, not) from ⟨rfl, rfl, hn⟩)⟩
  refine rcs_cells (l := [((a, i), n, B, m, c)]) (wbox_lt h) (by simp) (fun p u hu => ?_)
  have := World.news_of_block (cs := #[.int .i64 a, .int .i64 i, .int .i64 n, .slice B m c]) h p u (by rw [← hu]; rfl)
  rwa [add_lit] at this
theorem ids_two (w : World) (a i b j : Int) : Ids (w.alloc (.cells #[.int .i64 a, .int .i64 i, .int .i64 b, .int .i64 j] 23)) (.slice (some ⟨w.heap.size, 0, none⟩) 2 2) [(a, i), (b, j)] := by
  have hh : (w.alloc (.cells #[.int .i64 a, .int .i64 i, .int .i64 b, .int .i64 j] 23)).heap[w.heap.size]? = some (.cells #[.int .i64 a, .int .i64 i, .int .i64 b, .int .i64 j] 23 (0, 0)) := heap_alloc_new w _
  refine ids_rcs ⟨some ⟨w.heap.size, 0, none⟩, 2, rfl, (fun h => by cases h), by simp, fun k hk => ⟨_, rfl, by simp, fun q u hu => ?_⟩⟩
  have := World.news_of_block (cs := #[.int .i64 a, .int .i64 i, .int .i64 b, .int .i64 j]) hh (k * 2 + q) u (by
    have := flatR_at encI_len [(a, i), (b, j)] k hk q u hu
    rw [← this]; rfl)
  exact this
theorem lit_row (W : World) (a i n x y : Int) : RowsAt ((W.alloc (.cells #[.int .i64 x, .int .i64 y] 23)).alloc (.cells #[.int .i64 a, .int .i64 i, .int .i64 n, .slice (some ⟨W.heap.size, 0, none⟩) 1 1] 26)) (.slice (some ⟨W.heap.size + 1, 0, none⟩) 1 1) [((a, i), n, [(x, y)])] := by
  have h := rows_lit (wbox_new (W.alloc (.cells #[.int .i64 x, .int .i64 y] 23)) a i n (.slice (some ⟨W.heap.size, 0, none⟩) 1 1)) ((ids_one W x y).below (below_one _ _))
  simpa using h
/-- The three IDs of the examples. -/
structure AwI (w0 w : World) : Prop where
  a : Box w w0.heap.size 1 1
  b : Box w (w0.heap.size + 1) 2 1
  c : Box w (w0.heap.size + 1 + 1) 3 1
  below : Below w0.heap.size w0 w
theorem AwI.step {w0 w w' : World} (h : AwI w0 w) (hb : Below w.heap.size w w') : AwI w0 w' := ⟨box_below h.a hb, box_below h.b hb, box_below h.c hb, below_after h.below hb (Nat.le_refl _)⟩
theorem awI_new (w : World) : AwI w (((w.alloc (.cells #[.int .i64 1, .int .i64 1] 23)).alloc (.cells #[.int .i64 2, .int .i64 1] 23)).alloc (.cells #[.int .i64 3, .int .i64 1] 23)) := by
  have h1 := box_new w 1 1
  have b2 := below_one (w.alloc (.cells #[.int .i64 1, .int .i64 1] 23)) (.cells #[.int .i64 2, .int .i64 1] 23)
  have h2 := box_new (w.alloc (.cells #[.int .i64 1, .int .i64 1] 23)) 2 1
  have b3 := below_one ((w.alloc (.cells #[.int .i64 1, .int .i64 1] 23)).alloc (.cells #[.int .i64 2, .int .i64 1] 23)) (.cells #[.int .i64 3, .int .i64 1] 23)
  have h3 := box_new ((w.alloc (.cells #[.int .i64 1, .int .i64 1] 23)).alloc (.cells #[.int .i64 2, .int .i64 1] 23)) 3 1
  refine ⟨box_below (box_below h1 b2) b3, ?_, ?_, below_after (below_after (below_one _ _) b2 (Nat.le_refl _)) b3 (Nat.le_refl _)⟩
  · have := box_below h2 b3
    simpa using this
  · simpa using h3
abbrev l1 : List Row := [((1, 1), 1, [(2, 1)])]
abbrev l2 : List Row := [((1, 1), 2, [])]
abbrev m1 : List Row := [((1, 1), 2, [(2, 1)])]
abbrev m2 : List Row := [((1, 1), 2, [(3, 1)])]
abbrev m3 : List Row := [((1, 1), 2, [(2, 1), (3, 1)])]
theorem set1 : setE [] (1, 1) [(2, 1)] = (l1, 0) := by kernel_rfl
theorem set2 : setE l1 (1, 1) [] = (l2, 0) := by kernel_rfl
theorem set3 : setE l2 (1, 1) [] = (l2, 0) := by kernel_rfl
theorem join1 : joinR l1 l2 = l2 := by kernel_rfl
theorem join2 : joinR m1 m2 = m3 := by kernel_rfl
theorem up_one (r : Row) : Up [r] := by exact List.Pairwise.cons (by simp) List.Pairwise.nil
theorem small_two (x : Id2) (n : Int) (y z : Id2) : Small [(x, n, [y, z])] := by unfold Small; simp
theorem small_one (x : Id2) (n : Int) (y : Id2) : Small [(x, n, [y])] := by unfold Small; simp
theorem small_none (x : Id2) (n : Int) : Small [(x, n, [])] := by unfold Small; simp

set_option maxHeartbeats 8000000 in
set_option maxRecDepth 100000 in
theorem awake_any (w : World) : Calls Try.prog 10 #[] w fun e w' => e = .returned (.bool true) ∧ Below w.heap.size w w' := by
  have A0 := Lib.hid (awI_new w)
  have S1 : Hid (∀ W vn, Ids W vn [(2, 1)] → Calls Try.prog 8 #[.slice none 0 0, .agg #[.int .i64 1, .int .i64 1], vn] W fun e w' => ∃ V, e = .returned (.tuple #[V, .int .i64 0]) ∧ RowsAt w' V l1 ∧ Below W.heap.size W w') := Lib.hid fun W vn h => by
    have := setRows_any (.slice none 0 0) vn [] 1 1 [(2, 1)] W (RowsAt.nil W) h (by simp) (by simp) (by simp) (by simp)
    rw [set1] at this
    exact this
  have S2 : Hid (∀ W v, RowsAt W v l1 → Calls Try.prog 8 #[v, .agg #[.int .i64 1, .int .i64 1], .slice none 0 0] W fun e w' => ∃ V, e = .returned (.tuple #[V, .int .i64 0]) ∧ RowsAt w' V l2 ∧ Below W.heap.size W w') := Lib.hid fun W v h => by
    have := setRows_any v (.slice none 0 0) l1 1 1 [] W h (Ids.nil W) (by simp) (by simp) (by simp) (by simp)
    rw [set2] at this
    exact this
  have S3 : Hid (∀ W v, RowsAt W v l2 → Calls Try.prog 8 #[v, .agg #[.int .i64 1, .int .i64 1], .slice none 0 0] W fun e w' => ∃ V, e = .returned (.tuple #[V, .int .i64 0]) ∧ RowsAt w' V l2 ∧ Below W.heap.size W w') := Lib.hid fun W v h => by
    have := setRows_any v (.slice none 0 0) l2 1 1 [] W h (Ids.nil W) (by simp) (by simp) (by simp) (by simp)
    rw [set3] at this
    exact this
  have J1 : Hid (∀ W v u, RowsAt W v l1 → RowsAt W u l2 → Calls Try.prog 12 #[v, u] W fun e w' => ∃ v', e = .returned v' ∧ RowsAt w' v' l2 ∧ Below W.heap.size W w') := Lib.hid fun W v u h k => by
    have := join_rows v u l1 l2 W h k (up_one _) (up_one _) (small_one _ _ _) (small_none _ _)
    rw [join1] at this
    exact this
  have J2 : Hid (∀ W v u, RowsAt W v m1 → RowsAt W u m2 → Calls Try.prog 12 #[v, u] W fun e w' => ∃ v', e = .returned v' ∧ RowsAt w' v' m3 ∧ Below W.heap.size W w') := Lib.hid fun W v u h k => by
    have := join_rows v u m1 m2 W h k (up_one _) (up_one _) (small_one _ _ _) (small_one _ _ _)
    rw [join2] at this
    exact this
  have E1 := Lib.hid fun W v u (h : RowsAt W v l1) (k : RowsAt W u l1) => sameRows_any v u l1 W h k (small_one _ _ _)
  have E2 := Lib.hid fun W v u (h : RowsAt W v l2) (k : RowsAt W u l2) => sameRows_any v u l2 W h k (small_none _ _)
  go_enter Try.func10, Try.ntmps10
  go_upto_region 2 with fail
  generalize ((w.alloc (.cells #[.int .i64 1, .int .i64 1] 23)).alloc (.cells #[.int .i64 2, .int .i64 1] 23)).alloc (.cells #[.int .i64 3, .int .i64 1] 23) = w1 at *
  obtain ⟨a1, a2⟩ := box_cells A0.out.a
  obtain ⟨b1, b2⟩ := box_cells A0.out.b
  go_wp2_with fail
  (with_reducible refine (S1.out _ _ (ids_one w1 2 1)).mono ?_)
  rintro e w2 ⟨V1, rfl, hr, hb⟩
  have A2 := Lib.hid (A0.out.step (below_after (below_one w1 (.cells #[.int .i64 2, .int .i64 1] 23)) hb (Nat.le_refl _)))
  have R1 := Lib.hid hr
  clear hr hb a1 a2 b1 b2
  obtain ⟨a1, a2⟩ := box_cells A2.out.a
  go_wp2_with fail
  (with_reducible refine (S2.out _ _ R1.out).mono ?_)
  rintro e w3 ⟨V2, rfl, hr, hb⟩
  have A3 := Lib.hid (A2.out.step hb)
  have P1 := Lib.hid (R1.out.below hb)
  have R2 := Lib.hid hr
  clear hr hb a1 a2
  obtain ⟨a1, a2⟩ := box_cells A3.out.a
  go_wp2_with fail
  (with_reducible refine (S3.out _ _ R2.out).mono ?_)
  rintro e w4 ⟨V3, rfl, hr, hb⟩
  have A4 := Lib.hid (A3.out.step hb)
  have Q1 := Lib.hid (P1.out.below hb)
  have Q2 := Lib.hid (R2.out.below hb)
  have R3 := Lib.hid hr
  clear hr hb a1 a2
  go_wp2_with fail
  (with_reducible refine (J1.out _ _ _ Q1.out Q2.out).mono ?_)
  rintro e w5 ⟨V4, rfl, hr, hb⟩
  have A5 := Lib.hid (A4.out.step hb)
  have T1 := Lib.hid (Q1.out.below hb)
  have T2 := Lib.hid (Q2.out.below hb)
  have T3 := Lib.hid (R3.out.below hb)
  have R4 := Lib.hid hr
  clear hr hb
  obtain ⟨a1, a2⟩ := box_cells A5.out.a
  obtain ⟨b1, b2⟩ := box_cells A5.out.b
  obtain ⟨c1, c2⟩ := box_cells A5.out.c
  have A6 := Lib.hid (A5.out.step (below_two w5 (.cells #[.int .i64 2, .int .i64 1] 23) (.cells #[.int .i64 1, .int .i64 1, .int .i64 2, .slice (some ⟨w5.heap.size, 0, none⟩) 1 1] 26)))
  obtain ⟨d1, d2⟩ := box_cells A6.out.a
  obtain ⟨e1, e2⟩ := box_cells A6.out.c
  go_wp2_with fail
  have L1 := Lib.hid (lit_row w5 1 1 2 2 1)
  have L2 := Lib.hid (lit_row ((w5.alloc (.cells #[.int .i64 2, .int .i64 1] 23)).alloc (.cells #[.int .i64 1, .int .i64 1, .int .i64 2, .slice (some ⟨w5.heap.size, 0, none⟩) 1 1] 26)) 1 1 2 3 1)
  simp only [World.size_alloc] at L2
  have M1 := Lib.hid (L1.out.below (below_two _ (.cells #[.int .i64 3, .int .i64 1] 23) (.cells #[.int .i64 1, .int .i64 1, .int .i64 2, .slice (some ⟨w5.heap.size + 1 + 1, 0, none⟩) 1 1] 26)))
  have A7 := Lib.hid (A6.out.step (below_two _ (.cells #[.int .i64 3, .int .i64 1] 23) (.cells #[.int .i64 1, .int .i64 1, .int .i64 2, .slice (some ⟨w5.heap.size + 1 + 1, 0, none⟩) 1 1] 26)))
  have B7 := Lib.hid (below_after (below_two w5 (.cells #[.int .i64 2, .int .i64 1] 23) (.cells #[.int .i64 1, .int .i64 1, .int .i64 2, .slice (some ⟨w5.heap.size, 0, none⟩) 1 1] 26)) (below_two _ (.cells #[.int .i64 3, .int .i64 1] 23) (.cells #[.int .i64 1, .int .i64 1, .int .i64 2, .slice (some ⟨w5.heap.size + 1 + 1, 0, none⟩) 1 1] 26)) (Nat.le_refl _))
  (with_reducible refine (J2.out _ _ _ M1.out L2.out).mono ?_)
  rintro e w6 ⟨V5, rfl, hr, hb⟩
  have K6 := Lib.hid (below_after B7.out hb (Nat.le_refl _))
  have A8 := Lib.hid (A7.out.step hb)
  have U1 := Lib.hid (T1.out.below K6.out)
  have U2 := Lib.hid (T2.out.below K6.out)
  have U3 := Lib.hid (T3.out.below K6.out)
  have U4 := Lib.hid (R4.out.below K6.out)
  obtain ⟨A, c, e5, _⟩ := hr.shape
  have e5 : V5 = .slice A 1 c := e5
  subst e5
  have HY := Lib.hid fun W (hb : Below w6.heap.size w6 W) => hr.at_ hb (k := 0) (by simp)
  obtain ⟨ad, s, rfl, y1, y2, y3, y4, ys⟩ := HY.out _ (Below.refl _ _)
  clear hb a1 a2 b1 b2 c1 c2 d1 d2 e1 e2 HY hr
  rw [Nat.zero_mul, add_zero'] at y4
  have YS := Lib.hid ys
  have HY := Lib.hid fun W (hb : Below w6.heap.size w6 W) => (hb.cell (block_lt_of_cell y4)).trans y4
  clear ys y1 y2 y3 y4
  have HS := Lib.hid fun W (hb : Below w6.heap.size w6 W) => And.intro (box_cells (A8.out.step hb).a) (And.intro (box_cells (A8.out.step hb).b) (And.intro (box_cells (A8.out.step hb).c) (And.intro (HY.out W hb) (Lib.hid hb))))
  go_wp2_with fail
  refine wp_region_held_drew (S := fun w' => (w'.cell? ⟨w.heap.size, 0, none⟩ = some (.int .i64 1) ∧ w'.cell? ⟨w.heap.size, 1, none⟩ = some (.int .i64 1)) ∧ (w'.cell? ⟨w.heap.size + 1, 0, none⟩ = some (.int .i64 2) ∧ w'.cell? ⟨w.heap.size + 1, 1, none⟩ = some (.int .i64 1)) ∧ (w'.cell? ⟨w.heap.size + 1 + 1, 0, none⟩ = some (.int .i64 3) ∧ w'.cell? ⟨w.heap.size + 1 + 1, 1, none⟩ = some (.int .i64 1)) ∧ w'.cell? ⟨ad.block, ad.off + 3, none⟩ = some s ∧ Hid (Below w6.heap.size w6 w')) (by kernel_rfl) ?_ (fun hHeld => ?_)
  · exact HS.out _ (Below.drew (Below.refl _ _))
  (refine wpAnyH_take (i := 0) (oi := ⟨_, _, _, _, _, _⟩) (v := ?_) rfl (by kernel_rfl) (by kernel_rfl) (by kernel_rfl) (fun _ _ _ h => h) (Or.inl ⟨by rfl, ?_⟩) (by assumption) ?_; rotate_left 1; · (intro w hSw; (try dsimp only at hSw); go_simp; all_goals with_reducible rfl))
  try simp only [Act.put, List.setIfInBounds_toArray, List.set_cons_zero, List.set_cons_succ]
  (refine wpAnyH_take (i := 1) (oi := ⟨_, _, _, _, _, _⟩) (v := ?_) rfl (by kernel_rfl) (by kernel_rfl) (by kernel_rfl) (fun _ _ _ h => h) (Or.inl ⟨by rfl, ?_⟩) (by assumption) ?_; rotate_left 1; · (intro w hSw; (try dsimp only at hSw); go_simp; all_goals with_reducible rfl))
  try simp only [Act.put, List.setIfInBounds_toArray, List.set_cons_zero, List.set_cons_succ]
  (refine wpAnyH_take (i := 2) (oi := ⟨_, _, _, _, _, _⟩) (v := ?_) rfl (by kernel_rfl) (by kernel_rfl) (by kernel_rfl) (fun _ _ _ h => h) (Or.inl ⟨by rfl, ?_⟩) (by assumption) ?_; rotate_left 1; · (intro w hSw; (try dsimp only at hSw); go_simp; all_goals with_reducible rfl))
  try simp only [Act.put, List.setIfInBounds_toArray, List.set_cons_zero, List.set_cons_succ]
  first | (refine wpAnyH_take (i := 3) (oi := ⟨_, _, _, _, _, _⟩) (v := ?_) rfl (by kernel_rfl) (by kernel_rfl) (by kernel_rfl) (fun _ _ _ h => h) (Or.inl ⟨by rfl, ?_⟩) (by assumption) ?_; rotate_left 1; · (intro w hSw; (try dsimp only at hSw); go_simp; all_goals with_reducible rfl)) | refine wpAnyH_take (i := 3) (oi := ⟨_, _, _, _, _, _⟩) (v := undef) rfl (by kernel_rfl) (by kernel_rfl) (by kernel_rfl) (fun _ _ _ h => h) (Or.inr ⟨by kernel_rfl, rfl⟩) (by assumption) ?_
  try simp only [Act.put, List.setIfInBounds_toArray, List.set_cons_zero, List.set_cons_succ]
  first | (refine wpAnyH_take (i := 4) (oi := ⟨_, _, _, _, _, _⟩) (v := ?_) rfl (by kernel_rfl) (by kernel_rfl) (by kernel_rfl) (fun _ _ _ h => h) (Or.inl ⟨by rfl, ?_⟩) (by assumption) ?_; rotate_left 1; · (intro w hSw; (try dsimp only at hSw); go_simp; all_goals with_reducible rfl)) | refine wpAnyH_take (i := 4) (oi := ⟨_, _, _, _, _, _⟩) (v := undef) rfl (by kernel_rfl) (by kernel_rfl) (by kernel_rfl) (fun _ _ _ h => h) (Or.inr ⟨by kernel_rfl, rfl⟩) (by assumption) ?_
  try simp only [Act.put, List.setIfInBounds_toArray, List.set_cons_zero, List.set_cons_succ]
  (refine wpAnyH_take (i := 5) (oi := ⟨_, _, _, _, _, _⟩) (v := ?_) rfl (by kernel_rfl) (by kernel_rfl) (by kernel_rfl) (fun _ _ _ h => h) (Or.inl ⟨by rfl, ?_⟩) (by assumption) ?_; rotate_left 1; · (intro w hSw; (try dsimp only at hSw); go_simp; all_goals with_reducible rfl))
  try simp only [Act.put, List.setIfInBounds_toArray, List.set_cons_zero, List.set_cons_succ]
  (refine wpAnyH_take (i := 6) (oi := ⟨_, _, _, _, _, _⟩) (v := ?_) rfl (by kernel_rfl) (by kernel_rfl) (by kernel_rfl) (fun _ _ _ h => h) (Or.inl ⟨by rfl, ?_⟩) (by assumption) ?_; rotate_left 1; · (intro w hSw; (try dsimp only at hSw); go_simp; all_goals with_reducible rfl))
  try simp only [Act.put, List.setIfInBounds_toArray, List.set_cons_zero, List.set_cons_succ]
  first | (refine wpAnyH_take (i := 7) (oi := ⟨_, _, _, _, _, _⟩) (v := ?_) rfl (by kernel_rfl) (by kernel_rfl) (by kernel_rfl) (fun _ _ _ h => h) (Or.inl ⟨by rfl, ?_⟩) (by assumption) ?_; rotate_left 1; · (intro w hSw; (try dsimp only at hSw); go_simp; all_goals with_reducible rfl)) | refine wpAnyH_take (i := 7) (oi := ⟨_, _, _, _, _, _⟩) (v := undef) rfl (by kernel_rfl) (by kernel_rfl) (by kernel_rfl) (fun _ _ _ h => h) (Or.inr ⟨by kernel_rfl, rfl⟩) (by assumption) ?_
  try simp only [Act.put, List.setIfInBounds_toArray, List.set_cons_zero, List.set_cons_succ]
  first | (refine wpAnyH_take (i := 8) (oi := ⟨_, _, _, _, _, _⟩) (v := ?_) rfl (by kernel_rfl) (by kernel_rfl) (by kernel_rfl) (fun _ _ _ h => h) (Or.inl ⟨by rfl, ?_⟩) (by assumption) ?_; rotate_left 1; · (intro w hSw; (try dsimp only at hSw); go_simp; all_goals with_reducible rfl)) | refine wpAnyH_take (i := 8) (oi := ⟨_, _, _, _, _, _⟩) (v := undef) rfl (by kernel_rfl) (by kernel_rfl) (by kernel_rfl) (fun _ _ _ h => h) (Or.inr ⟨by kernel_rfl, rfl⟩) (by assumption) ?_
  try simp only [Act.put, List.setIfInBounds_toArray, List.set_cons_zero, List.set_cons_succ]
  (refine wpAnyH_take (i := 9) (oi := ⟨_, _, _, _, _, _⟩) (v := ?_) rfl (by kernel_rfl) (by kernel_rfl) (by kernel_rfl) (fun _ _ _ h => h) (Or.inl ⟨by rfl, ?_⟩) (by assumption) ?_; rotate_left 1; · (intro w hSw; (try dsimp only at hSw); go_simp; all_goals with_reducible rfl))
  try simp only [Act.put, List.setIfInBounds_toArray, List.set_cons_zero, List.set_cons_succ]
  (refine wpAnyH_take (i := 10) (oi := ⟨_, _, _, _, _, _⟩) (v := ?_) rfl (by kernel_rfl) (by kernel_rfl) (by kernel_rfl) (fun _ _ _ h => h) (Or.inl ⟨by rfl, ?_⟩) (by assumption) ?_; rotate_left 1; · (intro w hSw; (try dsimp only at hSw); go_simp; all_goals with_reducible rfl))
  try simp only [Act.put, List.setIfInBounds_toArray, List.set_cons_zero, List.set_cons_succ]
  first | (refine wpAnyH_take (i := 11) (oi := ⟨_, _, _, _, _, _⟩) (v := ?_) rfl (by kernel_rfl) (by kernel_rfl) (by kernel_rfl) (fun _ _ _ h => h) (Or.inl ⟨by rfl, ?_⟩) (by assumption) ?_; rotate_left 1; · (intro w hSw; (try dsimp only at hSw); go_simp; all_goals with_reducible rfl)) | refine wpAnyH_take (i := 11) (oi := ⟨_, _, _, _, _, _⟩) (v := undef) rfl (by kernel_rfl) (by kernel_rfl) (by kernel_rfl) (fun _ _ _ h => h) (Or.inr ⟨by kernel_rfl, rfl⟩) (by assumption) ?_
  try simp only [Act.put, List.setIfInBounds_toArray, List.set_cons_zero, List.set_cons_succ]
  first | (refine wpAnyH_take (i := 12) (oi := ⟨_, _, _, _, _, _⟩) (v := ?_) rfl (by kernel_rfl) (by kernel_rfl) (by kernel_rfl) (fun _ _ _ h => h) (Or.inl ⟨by rfl, ?_⟩) (by assumption) ?_; rotate_left 1; · (intro w hSw; (try dsimp only at hSw); go_simp; all_goals with_reducible rfl)) | refine wpAnyH_take (i := 12) (oi := ⟨_, _, _, _, _, _⟩) (v := undef) rfl (by kernel_rfl) (by kernel_rfl) (by kernel_rfl) (fun _ _ _ h => h) (Or.inr ⟨by kernel_rfl, rfl⟩) (by assumption) ?_
  try simp only [Act.put, List.setIfInBounds_toArray, List.set_cons_zero, List.set_cons_succ]
  first | (refine wpAnyH_take (i := 13) (oi := ⟨_, _, _, _, _, _⟩) (v := ?_) rfl (by kernel_rfl) (by kernel_rfl) (by kernel_rfl) (fun _ _ _ h => h) (Or.inl ⟨by rfl, ?_⟩) (by assumption) ?_; rotate_left 1; · (intro w hSw; (try dsimp only at hSw); go_simp; all_goals with_reducible rfl)) | refine wpAnyH_take (i := 13) (oi := ⟨_, _, _, _, _, _⟩) (v := undef) rfl (by kernel_rfl) (by kernel_rfl) (by kernel_rfl) (fun _ _ _ h => h) (Or.inr ⟨by kernel_rfl, rfl⟩) (by assumption) ?_
  try simp only [Act.put, List.setIfInBounds_toArray, List.set_cons_zero, List.set_cons_succ]
  refine wpAnyH_ready (rs := [14]) (by kernel_rfl) (by simp) ?_
  refine AllReadyH.cons (o := ⟨_, _, _, _, _, _⟩) rfl (fun Kq hKq => ?_) (AllReadyH.nil)
  go_simp
  clear hHeld
  have P14 := Lib.hid (show Below w6.heap.size w6 (w6.alloc (.cells #[.int .i64 2, .int .i64 1] 23)).drew from Below.drew (below_one w6 (.cells #[.int .i64 2, .int .i64 1] 23)))
  refine hKq.out _ _ ?_ (fun hHeld => ?_)
  · (try dsimp only); exact HS.out _ P14.out
  clear hKq Kq
  try simp only [Act.put, List.setIfInBounds_toArray, List.set_cons_zero, List.set_cons_succ]
  first | (refine wpAnyH_take (i := 15) (oi := ⟨_, _, _, _, _, _⟩) (v := ?_) rfl (by kernel_rfl) (by kernel_rfl) (by kernel_rfl) (fun _ _ _ h => h) (Or.inl ⟨by rfl, ?_⟩) (by assumption) ?_; rotate_left 1; · (intro w hSw; (try dsimp only at hSw); go_simp; all_goals with_reducible rfl)) | refine wpAnyH_take (i := 15) (oi := ⟨_, _, _, _, _, _⟩) (v := undef) rfl (by kernel_rfl) (by kernel_rfl) (by kernel_rfl) (fun _ _ _ h => h) (Or.inr ⟨by kernel_rfl, rfl⟩) (by assumption) ?_
  try simp only [Act.put, List.setIfInBounds_toArray, List.set_cons_zero, List.set_cons_succ]
  refine wpAnyH_ready (rs := [16]) (by kernel_rfl) (by simp) ?_
  refine AllReadyH.cons (o := ⟨_, _, _, _, _, _⟩) rfl (fun Kq hKq => ?_) (AllReadyH.nil)
  go_simp
  clear hHeld
  have P16 := Lib.hid (show Below w6.heap.size w6 ((w6.alloc (.cells #[.int .i64 2, .int .i64 1] 23)).alloc (.cells #[.int .i64 1, .int .i64 1, .int .i64 1, .slice (some ⟨w6.heap.size, 0, none⟩) 1 1] 26)).drew from Below.drew (below_two w6 (.cells #[.int .i64 2, .int .i64 1] 23) (.cells #[.int .i64 1, .int .i64 1, .int .i64 1, .slice (some ⟨w6.heap.size, 0, none⟩) 1 1] 26)))
  refine hKq.out _ _ ?_ (fun hHeld => ?_)
  · (try dsimp only); exact HS.out _ P16.out
  clear hKq Kq
  try simp only [Act.put, List.setIfInBounds_toArray, List.set_cons_zero, List.set_cons_succ]
  refine wpAnyH_ready (rs := [17]) (by kernel_rfl) (by simp) ?_
  refine AllReadyH.cons (o := ⟨_, _, _, _, _, _⟩) rfl (fun Kq hKq => ?_) (AllReadyH.nil)
  go_simp
  clear hHeld
  go_at_call 13; (with_reducible refine (E1.out _ _ _ (U1.out.below P16.out) ((lit_row w6 1 1 1 2 1).below (Below.drew (Below.refl _ _)))).mono ?_); rintro e w7 ⟨rfl, hb⟩; have P17 := Lib.hid (below_after P16.out hb (Nat.le_refl _)); clear hb
  refine hKq.out _ _ ?_ (fun hHeld => ?_)
  · (try dsimp only); exact HS.out _ P17.out
  clear hKq Kq
  try simp only [Act.put, List.setIfInBounds_toArray, List.set_cons_zero, List.set_cons_succ]
  (refine wpAnyH_take (i := 18) (oi := ⟨_, _, _, _, _, _⟩) (v := ?_) rfl (by kernel_rfl) (by kernel_rfl) (by kernel_rfl) (fun _ _ _ h => h) (Or.inl ⟨by rfl, ?_⟩) (by assumption) ?_; rotate_left 1; · (intro w hSw; (try dsimp only at hSw); go_simp; all_goals with_reducible rfl))
  try simp only [Act.put, List.setIfInBounds_toArray, List.set_cons_zero, List.set_cons_succ]
  (refine wpAnyH_take (i := 19) (oi := ⟨_, _, _, _, _, _⟩) (v := ?_) rfl (by kernel_rfl) (by kernel_rfl) (by kernel_rfl) (fun _ _ _ h => h) (Or.inl ⟨by rfl, ?_⟩) (by assumption) ?_; rotate_left 1; · (intro w hSw; (try dsimp only at hSw); go_simp; all_goals with_reducible rfl))
  try simp only [Act.put, List.setIfInBounds_toArray, List.set_cons_zero, List.set_cons_succ]
  first | (refine wpAnyH_take (i := 20) (oi := ⟨_, _, _, _, _, _⟩) (v := ?_) rfl (by kernel_rfl) (by kernel_rfl) (by kernel_rfl) (fun _ _ _ h => h) (Or.inl ⟨by rfl, ?_⟩) (by assumption) ?_; rotate_left 1; · (intro w hSw; (try dsimp only at hSw); go_simp; all_goals with_reducible rfl)) | refine wpAnyH_take (i := 20) (oi := ⟨_, _, _, _, _, _⟩) (v := undef) rfl (by kernel_rfl) (by kernel_rfl) (by kernel_rfl) (fun _ _ _ h => h) (Or.inr ⟨by kernel_rfl, rfl⟩) (by assumption) ?_
  try simp only [Act.put, List.setIfInBounds_toArray, List.set_cons_zero, List.set_cons_succ]
  first | (refine wpAnyH_take (i := 21) (oi := ⟨_, _, _, _, _, _⟩) (v := ?_) rfl (by kernel_rfl) (by kernel_rfl) (by kernel_rfl) (fun _ _ _ h => h) (Or.inl ⟨by rfl, ?_⟩) (by assumption) ?_; rotate_left 1; · (intro w hSw; (try dsimp only at hSw); go_simp; all_goals with_reducible rfl)) | refine wpAnyH_take (i := 21) (oi := ⟨_, _, _, _, _, _⟩) (v := undef) rfl (by kernel_rfl) (by kernel_rfl) (by kernel_rfl) (fun _ _ _ h => h) (Or.inr ⟨by kernel_rfl, rfl⟩) (by assumption) ?_
  try simp only [Act.put, List.setIfInBounds_toArray, List.set_cons_zero, List.set_cons_succ]
  first | (refine wpAnyH_take (i := 22) (oi := ⟨_, _, _, _, _, _⟩) (v := ?_) rfl (by kernel_rfl) (by kernel_rfl) (by kernel_rfl) (fun _ _ _ h => h) (Or.inl ⟨by rfl, ?_⟩) (by assumption) ?_; rotate_left 1; · (intro w hSw; (try dsimp only at hSw); go_simp; all_goals with_reducible rfl)) | refine wpAnyH_take (i := 22) (oi := ⟨_, _, _, _, _, _⟩) (v := undef) rfl (by kernel_rfl) (by kernel_rfl) (by kernel_rfl) (fun _ _ _ h => h) (Or.inr ⟨by kernel_rfl, rfl⟩) (by assumption) ?_
  try simp only [Act.put, List.setIfInBounds_toArray, List.set_cons_zero, List.set_cons_succ]
  refine wpAnyH_ready (rs := [23]) (by kernel_rfl) (by simp) ?_
  refine AllReadyH.cons (o := ⟨_, _, _, _, _, _⟩) rfl (fun Kq hKq => ?_) (AllReadyH.nil)
  go_simp
  clear hHeld
  have P23 := Lib.hid (below_after P17.out (below_one w7 (.cells #[.int .i64 1, .int .i64 1, .int .i64 2, .slice none 0 0] 26)) (Nat.le_refl _))
  refine hKq.out _ _ ?_ (fun hHeld => ?_)
  · (try dsimp only); exact HS.out _ P23.out
  clear hKq Kq
  try simp only [Act.put, List.setIfInBounds_toArray, List.set_cons_zero, List.set_cons_succ]
  refine wpAnyH_ready (rs := [24]) (by kernel_rfl) (by simp) ?_
  refine AllReadyH.cons (o := ⟨_, _, _, _, _, _⟩) rfl (fun Kq hKq => ?_) (AllReadyH.nil)
  go_simp
  clear hHeld
  go_at_call 13; (with_reducible refine (E2.out _ _ _ (U2.out.below P23.out) (rows_lit (wbox_new w7 1 1 2 (.slice none 0 0)) (Ids.nil _))).mono ?_); rintro e w8 ⟨rfl, hb⟩; have P24 := Lib.hid (below_after P23.out hb (Nat.le_refl _)); clear hb
  refine hKq.out _ _ ?_ (fun hHeld => ?_)
  · (try dsimp only); exact HS.out _ P24.out
  clear hKq Kq
  try simp only [Act.put, List.setIfInBounds_toArray, List.set_cons_zero, List.set_cons_succ]
  (refine wpAnyH_take (i := 25) (oi := ⟨_, _, _, _, _, _⟩) (v := ?_) rfl (by kernel_rfl) (by kernel_rfl) (by kernel_rfl) (fun _ _ _ h => h) (Or.inl ⟨by rfl, ?_⟩) (by assumption) ?_; rotate_left 1; · (intro w hSw; (try dsimp only at hSw); go_simp; all_goals with_reducible rfl))
  try simp only [Act.put, List.setIfInBounds_toArray, List.set_cons_zero, List.set_cons_succ]
  (refine wpAnyH_take (i := 26) (oi := ⟨_, _, _, _, _, _⟩) (v := ?_) rfl (by kernel_rfl) (by kernel_rfl) (by kernel_rfl) (fun _ _ _ h => h) (Or.inl ⟨by rfl, ?_⟩) (by assumption) ?_; rotate_left 1; · (intro w hSw; (try dsimp only at hSw); go_simp; all_goals with_reducible rfl))
  try simp only [Act.put, List.setIfInBounds_toArray, List.set_cons_zero, List.set_cons_succ]
  first | (refine wpAnyH_take (i := 27) (oi := ⟨_, _, _, _, _, _⟩) (v := ?_) rfl (by kernel_rfl) (by kernel_rfl) (by kernel_rfl) (fun _ _ _ h => h) (Or.inl ⟨by rfl, ?_⟩) (by assumption) ?_; rotate_left 1; · (intro w hSw; (try dsimp only at hSw); go_simp; all_goals with_reducible rfl)) | refine wpAnyH_take (i := 27) (oi := ⟨_, _, _, _, _, _⟩) (v := undef) rfl (by kernel_rfl) (by kernel_rfl) (by kernel_rfl) (fun _ _ _ h => h) (Or.inr ⟨by kernel_rfl, rfl⟩) (by assumption) ?_
  try simp only [Act.put, List.setIfInBounds_toArray, List.set_cons_zero, List.set_cons_succ]
  first | (refine wpAnyH_take (i := 28) (oi := ⟨_, _, _, _, _, _⟩) (v := ?_) rfl (by kernel_rfl) (by kernel_rfl) (by kernel_rfl) (fun _ _ _ h => h) (Or.inl ⟨by rfl, ?_⟩) (by assumption) ?_; rotate_left 1; · (intro w hSw; (try dsimp only at hSw); go_simp; all_goals with_reducible rfl)) | refine wpAnyH_take (i := 28) (oi := ⟨_, _, _, _, _, _⟩) (v := undef) rfl (by kernel_rfl) (by kernel_rfl) (by kernel_rfl) (fun _ _ _ h => h) (Or.inr ⟨by kernel_rfl, rfl⟩) (by assumption) ?_
  try simp only [Act.put, List.setIfInBounds_toArray, List.set_cons_zero, List.set_cons_succ]
  refine wpAnyH_ready (rs := [29]) (by kernel_rfl) (by simp) ?_
  refine AllReadyH.cons (o := ⟨_, _, _, _, _, _⟩) rfl (fun Kq hKq => ?_) (AllReadyH.nil)
  go_simp
  clear hHeld
  go_at_call 13; (with_reducible refine (E2.out _ _ _ (U3.out.below P24.out) (U2.out.below P24.out)).mono ?_); rintro e w9 ⟨rfl, hb⟩; have P29 := Lib.hid (below_after P24.out hb (Nat.le_refl _)); clear hb
  refine hKq.out _ _ ?_ (fun hHeld => ?_)
  · (try dsimp only); exact HS.out _ P29.out
  clear hKq Kq
  try simp only [Act.put, List.setIfInBounds_toArray, List.set_cons_zero, List.set_cons_succ]
  (refine wpAnyH_take (i := 30) (oi := ⟨_, _, _, _, _, _⟩) (v := ?_) rfl (by kernel_rfl) (by kernel_rfl) (by kernel_rfl) (fun _ _ _ h => h) (Or.inl ⟨by rfl, ?_⟩) (by assumption) ?_; rotate_left 1; · (intro w hSw; (try dsimp only at hSw); go_simp; all_goals with_reducible rfl))
  try simp only [Act.put, List.setIfInBounds_toArray, List.set_cons_zero, List.set_cons_succ]
  (refine wpAnyH_take (i := 31) (oi := ⟨_, _, _, _, _, _⟩) (v := ?_) rfl (by kernel_rfl) (by kernel_rfl) (by kernel_rfl) (fun _ _ _ h => h) (Or.inl ⟨by rfl, ?_⟩) (by assumption) ?_; rotate_left 1; · (intro w hSw; (try dsimp only at hSw); go_simp; all_goals with_reducible rfl))
  try simp only [Act.put, List.setIfInBounds_toArray, List.set_cons_zero, List.set_cons_succ]
  first | (refine wpAnyH_take (i := 32) (oi := ⟨_, _, _, _, _, _⟩) (v := ?_) rfl (by kernel_rfl) (by kernel_rfl) (by kernel_rfl) (fun _ _ _ h => h) (Or.inl ⟨by rfl, ?_⟩) (by assumption) ?_; rotate_left 1; · (intro w hSw; (try dsimp only at hSw); go_simp; all_goals with_reducible rfl)) | refine wpAnyH_take (i := 32) (oi := ⟨_, _, _, _, _, _⟩) (v := undef) rfl (by kernel_rfl) (by kernel_rfl) (by kernel_rfl) (fun _ _ _ h => h) (Or.inr ⟨by kernel_rfl, rfl⟩) (by assumption) ?_
  try simp only [Act.put, List.setIfInBounds_toArray, List.set_cons_zero, List.set_cons_succ]
  first | (refine wpAnyH_take (i := 33) (oi := ⟨_, _, _, _, _, _⟩) (v := ?_) rfl (by kernel_rfl) (by kernel_rfl) (by kernel_rfl) (fun _ _ _ h => h) (Or.inl ⟨by rfl, ?_⟩) (by assumption) ?_; rotate_left 1; · (intro w hSw; (try dsimp only at hSw); go_simp; all_goals with_reducible rfl)) | refine wpAnyH_take (i := 33) (oi := ⟨_, _, _, _, _, _⟩) (v := undef) rfl (by kernel_rfl) (by kernel_rfl) (by kernel_rfl) (fun _ _ _ h => h) (Or.inr ⟨by kernel_rfl, rfl⟩) (by assumption) ?_
  try simp only [Act.put, List.setIfInBounds_toArray, List.set_cons_zero, List.set_cons_succ]
  refine wpAnyH_ready (rs := [34]) (by kernel_rfl) (by simp) ?_
  refine AllReadyH.cons (o := ⟨_, _, _, _, _, _⟩) rfl (fun Kq hKq => ?_) (AllReadyH.nil)
  go_simp
  clear hHeld
  go_at_call 13; (with_reducible refine (E2.out _ _ _ (U4.out.below P29.out) (U2.out.below P29.out)).mono ?_); rintro e w10 ⟨rfl, hb⟩; have P34 := Lib.hid (below_after P29.out hb (Nat.le_refl _)); clear hb
  refine hKq.out _ _ ?_ (fun hHeld => ?_)
  · (try dsimp only); exact HS.out _ P34.out
  clear hKq Kq
  try simp only [Act.put, List.setIfInBounds_toArray, List.set_cons_zero, List.set_cons_succ]
  (refine wpAnyH_take (i := 35) (oi := ⟨_, _, _, _, _, _⟩) (v := ?_) rfl (by kernel_rfl) (by kernel_rfl) (by kernel_rfl) (fun _ _ _ h => h) (Or.inl ⟨by rfl, ?_⟩) (by assumption) ?_; rotate_left 1; · (intro w hSw; (try dsimp only at hSw); go_simp; all_goals with_reducible rfl))
  try simp only [Act.put, List.setIfInBounds_toArray, List.set_cons_zero, List.set_cons_succ]
  (refine wpAnyH_take (i := 36) (oi := ⟨_, _, _, _, _, _⟩) (v := ?_) rfl (by kernel_rfl) (by kernel_rfl) (by kernel_rfl) (fun _ _ _ h => h) (Or.inl ⟨by rfl, ?_⟩) (by assumption) ?_; rotate_left 1; · (intro w hSw; (try dsimp only at hSw); go_simp; all_goals with_reducible rfl))
  try simp only [Act.put, List.setIfInBounds_toArray, List.set_cons_zero, List.set_cons_succ]
  first | (refine wpAnyH_take (i := 37) (oi := ⟨_, _, _, _, _, _⟩) (v := ?_) rfl (by kernel_rfl) (by kernel_rfl) (by kernel_rfl) (fun _ _ _ h => h) (Or.inl ⟨by rfl, ?_⟩) (by assumption) ?_; rotate_left 1; · (intro w hSw; (try dsimp only at hSw); go_simp; all_goals with_reducible rfl)) | refine wpAnyH_take (i := 37) (oi := ⟨_, _, _, _, _, _⟩) (v := undef) rfl (by kernel_rfl) (by kernel_rfl) (by kernel_rfl) (fun _ _ _ h => h) (Or.inr ⟨by kernel_rfl, rfl⟩) (by assumption) ?_
  try simp only [Act.put, List.setIfInBounds_toArray, List.set_cons_zero, List.set_cons_succ]
  first | (refine wpAnyH_take (i := 38) (oi := ⟨_, _, _, _, _, _⟩) (v := ?_) rfl (by kernel_rfl) (by kernel_rfl) (by kernel_rfl) (fun _ _ _ h => h) (Or.inl ⟨by rfl, ?_⟩) (by assumption) ?_; rotate_left 1; · (intro w hSw; (try dsimp only at hSw); go_simp; all_goals with_reducible rfl)) | refine wpAnyH_take (i := 38) (oi := ⟨_, _, _, _, _, _⟩) (v := undef) rfl (by kernel_rfl) (by kernel_rfl) (by kernel_rfl) (fun _ _ _ h => h) (Or.inr ⟨by kernel_rfl, rfl⟩) (by assumption) ?_
  try simp only [Act.put, List.setIfInBounds_toArray, List.set_cons_zero, List.set_cons_succ]
  first | (refine wpAnyH_take (i := 39) (oi := ⟨_, _, _, _, _, _⟩) (v := ?_) rfl (by kernel_rfl) (by kernel_rfl) (by kernel_rfl) (fun _ _ _ h => h) (Or.inl ⟨by rfl, ?_⟩) (by assumption) ?_; rotate_left 1; · (intro w hSw; (try dsimp only at hSw); go_simp; all_goals with_reducible rfl)) | refine wpAnyH_take (i := 39) (oi := ⟨_, _, _, _, _, _⟩) (v := undef) rfl (by kernel_rfl) (by kernel_rfl) (by kernel_rfl) (fun _ _ _ h => h) (Or.inr ⟨by kernel_rfl, rfl⟩) (by assumption) ?_
  try simp only [Act.put, List.setIfInBounds_toArray, List.set_cons_zero, List.set_cons_succ]
  (refine wpAnyH_take (i := 40) (oi := ⟨_, _, _, _, _, _⟩) (v := ?_) rfl (by kernel_rfl) (by kernel_rfl) (by kernel_rfl) (fun _ _ _ h => h) (Or.inl ⟨by rfl, ?_⟩) (by assumption) ?_; rotate_left 1; · (intro w hSw; (try dsimp only at hSw); go_simp; all_goals with_reducible rfl))
  try simp only [Act.put, List.setIfInBounds_toArray, List.set_cons_zero, List.set_cons_succ]
  (refine wpAnyH_take (i := 41) (oi := ⟨_, _, _, _, _, _⟩) (v := ?_) rfl (by kernel_rfl) (by kernel_rfl) (by kernel_rfl) (fun _ _ _ h => h) (Or.inl ⟨by rfl, ?_⟩) (by assumption) ?_; rotate_left 1; · (intro w hSw; (try dsimp only at hSw); go_simp; all_goals with_reducible rfl))
  try simp only [Act.put, List.setIfInBounds_toArray, List.set_cons_zero, List.set_cons_succ]
  first | (refine wpAnyH_take (i := 42) (oi := ⟨_, _, _, _, _, _⟩) (v := ?_) rfl (by kernel_rfl) (by kernel_rfl) (by kernel_rfl) (fun _ _ _ h => h) (Or.inl ⟨by rfl, ?_⟩) (by assumption) ?_; rotate_left 1; · (intro w hSw; (try dsimp only at hSw); go_simp; all_goals with_reducible rfl)) | refine wpAnyH_take (i := 42) (oi := ⟨_, _, _, _, _, _⟩) (v := undef) rfl (by kernel_rfl) (by kernel_rfl) (by kernel_rfl) (fun _ _ _ h => h) (Or.inr ⟨by kernel_rfl, rfl⟩) (by assumption) ?_
  try simp only [Act.put, List.setIfInBounds_toArray, List.set_cons_zero, List.set_cons_succ]
  first | (refine wpAnyH_take (i := 43) (oi := ⟨_, _, _, _, _, _⟩) (v := ?_) rfl (by kernel_rfl) (by kernel_rfl) (by kernel_rfl) (fun _ _ _ h => h) (Or.inl ⟨by rfl, ?_⟩) (by assumption) ?_; rotate_left 1; · (intro w hSw; (try dsimp only at hSw); go_simp; all_goals with_reducible rfl)) | refine wpAnyH_take (i := 43) (oi := ⟨_, _, _, _, _, _⟩) (v := undef) rfl (by kernel_rfl) (by kernel_rfl) (by kernel_rfl) (fun _ _ _ h => h) (Or.inr ⟨by kernel_rfl, rfl⟩) (by assumption) ?_
  try simp only [Act.put, List.setIfInBounds_toArray, List.set_cons_zero, List.set_cons_succ]
  first | (refine wpAnyH_take (i := 44) (oi := ⟨_, _, _, _, _, _⟩) (v := ?_) rfl (by kernel_rfl) (by kernel_rfl) (by kernel_rfl) (fun _ _ _ h => h) (Or.inl ⟨by rfl, ?_⟩) (by assumption) ?_; rotate_left 1; · (intro w hSw; (try dsimp only at hSw); go_simp; all_goals with_reducible rfl)) | refine wpAnyH_take (i := 44) (oi := ⟨_, _, _, _, _, _⟩) (v := undef) rfl (by kernel_rfl) (by kernel_rfl) (by kernel_rfl) (fun _ _ _ h => h) (Or.inr ⟨by kernel_rfl, rfl⟩) (by assumption) ?_
  try simp only [Act.put, List.setIfInBounds_toArray, List.set_cons_zero, List.set_cons_succ]
  first | (refine wpAnyH_take (i := 45) (oi := ⟨_, _, _, _, _, _⟩) (v := ?_) rfl (by kernel_rfl) (by kernel_rfl) (by kernel_rfl) (fun _ _ _ h => h) (Or.inl ⟨by rfl, ?_⟩) (by assumption) ?_; rotate_left 1; · (intro w hSw; (try dsimp only at hSw); go_simp; all_goals with_reducible rfl)) | refine wpAnyH_take (i := 45) (oi := ⟨_, _, _, _, _, _⟩) (v := undef) rfl (by kernel_rfl) (by kernel_rfl) (by kernel_rfl) (fun _ _ _ h => h) (Or.inr ⟨by kernel_rfl, rfl⟩) (by assumption) ?_
  try simp only [Act.put, List.setIfInBounds_toArray, List.set_cons_zero, List.set_cons_succ]
  first | (refine wpAnyH_take (i := 46) (oi := ⟨_, _, _, _, _, _⟩) (v := ?_) rfl (by kernel_rfl) (by kernel_rfl) (by kernel_rfl) (fun _ _ _ h => h) (Or.inl ⟨by rfl, ?_⟩) (by assumption) ?_; rotate_left 1; · (intro w hSw; (try dsimp only at hSw); go_simp; all_goals with_reducible rfl)) | refine wpAnyH_take (i := 46) (oi := ⟨_, _, _, _, _, _⟩) (v := undef) rfl (by kernel_rfl) (by kernel_rfl) (by kernel_rfl) (fun _ _ _ h => h) (Or.inr ⟨by kernel_rfl, rfl⟩) (by assumption) ?_
  try simp only [Act.put, List.setIfInBounds_toArray, List.set_cons_zero, List.set_cons_succ]
  first | (refine wpAnyH_take (i := 47) (oi := ⟨_, _, _, _, _, _⟩) (v := ?_) rfl (by kernel_rfl) (by kernel_rfl) (by kernel_rfl) (fun _ _ _ h => h) (Or.inl ⟨by rfl, ?_⟩) (by assumption) ?_; rotate_left 1; · (intro w hSw; (try dsimp only at hSw); go_simp; all_goals with_reducible rfl)) | refine wpAnyH_take (i := 47) (oi := ⟨_, _, _, _, _, _⟩) (v := undef) rfl (by kernel_rfl) (by kernel_rfl) (by kernel_rfl) (fun _ _ _ h => h) (Or.inr ⟨by kernel_rfl, rfl⟩) (by assumption) ?_
  try simp only [Act.put, List.setIfInBounds_toArray, List.set_cons_zero, List.set_cons_succ]
  refine wpAnyH_ready (rs := [48]) (by kernel_rfl) (by simp) ?_
  refine AllReadyH.cons (o := ⟨_, _, _, _, _, _⟩) rfl (fun Kq hKq => ?_) (AllReadyH.nil)
  go_simp
  clear hHeld
  have P48 := Lib.hid (below_after P34.out (below_one w10 (.cells #[.int .i64 2, .int .i64 1, .int .i64 3, .int .i64 1] 23)) (Nat.le_refl _))
  refine hKq.out _ _ ?_ (fun hHeld => ?_)
  · (try dsimp only); exact HS.out _ P48.out
  clear hKq Kq
  try simp only [Act.put, List.setIfInBounds_toArray, List.set_cons_zero, List.set_cons_succ]
  refine wpAnyH_ready (rs := [49]) (by kernel_rfl) (by simp) ?_
  refine AllReadyH.cons (o := ⟨_, _, _, _, _, _⟩) rfl (fun Kq hKq => ?_) (AllReadyH.nil)
  go_simp
  clear hHeld
  go_at_call 18; (with_reducible refine (refSame_any s _ [(2, 1), (3, 1)] [(2, 1), (3, 1)] _ (YS.out.below P48.out) (ids_two w10 2 1 3 1) (by simp) (by simp)).mono ?_); rintro e w11 ⟨he, hb⟩; obtain rfl : e = .returned (.bool true) := he; have P49 := Lib.hid (below_after P48.out hb (Nat.le_refl _)); clear hb
  refine hKq.out _ _ ?_ (fun hHeld => ?_)
  · (try dsimp only); exact HS.out _ P49.out
  clear hKq Kq
  try simp only [Act.put, List.setIfInBounds_toArray, List.set_cons_zero, List.set_cons_succ]
  (refine wpAnyH_take (i := 50) (oi := ⟨_, _, _, _, _, _⟩) (v := ?_) rfl (by kernel_rfl) (by kernel_rfl) (by kernel_rfl) (fun _ _ _ h => h) (Or.inl ⟨by rfl, ?_⟩) (by assumption) ?_; rotate_left 1; · (intro w hSw; (try dsimp only at hSw); go_simp; all_goals with_reducible rfl))
  try simp only [Act.put, List.setIfInBounds_toArray, List.set_cons_zero, List.set_cons_succ]
  (refine wpAnyH_take (i := 51) (oi := ⟨_, _, _, _, _, _⟩) (v := ?_) rfl (by kernel_rfl) (by kernel_rfl) (by kernel_rfl) (fun _ _ _ h => h) (Or.inl ⟨by rfl, ?_⟩) (by assumption) ?_; rotate_left 1; · (intro w hSw; (try dsimp only at hSw); go_simp; all_goals with_reducible rfl))
  try simp only [Act.put, List.setIfInBounds_toArray, List.set_cons_zero]
  refine wpAnyH_done (by kernel_rfl) ?_ _
  go_wp2_with fail
  go_ret
  exact ⟨rfl, below_after A8.out.below P49.out (Nat.le_refl _)⟩
end Go.Proofs.Ytofanciaacdjfaa
