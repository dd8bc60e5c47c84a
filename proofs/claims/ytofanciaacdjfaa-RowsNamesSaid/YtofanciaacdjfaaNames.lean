/-
  The examples and limits, walked. No statement is proved in this text.
-/
import Derived.Test.YtofanciaacdjfaaAwake
import Derived.Test.YtofanciaacdjfaaMays
import Derived.Test.YtofanciaacdjfaaGets
import Derived.Test.YtofanciaacdjfaaFacts
namespace Go.Proofs.Ytofanciaacdjfaa
open Go Go.RowKit Sets RowSets
abbrev fullR : List Row := [((1, 1), 1099511627776, [])]
def zeros : List Row := List.replicate 65 ((0, 0), 0, [])
theorem rows_two (W : World) (a i n b j m : Int) : RowsAt (W.alloc (.cells #[.int .i64 a, .int .i64 i, .int .i64 n, .slice none 0 0, .int .i64 b, .int .i64 j, .int .i64 m, .slice none 0 0] 26)) (.slice (some ⟨W.heap.size, 0, none⟩) 2 2) [((a, i), n, []), ((b, j), m, [])] :=
  ⟨[((a, i), n, none, 0, 0), ((b, j), m, none, 0, 0)], rcs_lit encW_len W [((a, i), n, none, 0, 0), ((b, j), m, none, 0, 0)] _ 26 rfl, ⟨rfl, rfl, Ids.nil _⟩, ⟨rfl, rfl, Ids.nil _⟩, trivial⟩
theorem zeros_len : ∀ r ∈ zeros, r.2.2.length ≤ 100000 := fun r hr => by
  rw [List.eq_of_mem_replicate hr]
  simp
theorem make_rows (w : World) : (Instr.makeSlice 27 (.int .i64 65) (.int .i64 65)).run Try.prog w = .ok (.slice (some ⟨w.heap.size, 0, none⟩) 65 65) (w.alloc (.cells (madeCells #[.int .i64 0, .int .i64 0, .int .i64 0, .slice none 0 0] (65 * 4)) 26)) := by
  obtain ⟨i, hi, hz, hs, hby⟩ := info_parts infoW
  have := run_make (P := Try.prog) w 27 26 i _ Try.underlying27 hi hz .i64 .i64 65 65 (by omega) (by omega) (by rw [hby]; omega) (by omega)
  rw [hs] at this
  simpa [Value.cells] using this
theorem reads_many {w : World} {q : Raw} {r : Row} (h : Reads w q r) : ∀ n, EachReads w (List.replicate n q) (List.replicate n r)
  | 0 => trivial
  | n + 1 => ⟨h, reads_many h n⟩
theorem zeros_at (w : World) : RowsAt (w.alloc (.cells (madeCells #[.int .i64 0, .int .i64 0, .int .i64 0, .slice none 0 0] (65 * 4)) 26)) (.slice (some ⟨w.heap.size, 0, none⟩) 65 65) zeros := by
  have h1 : (madeCells #[.int .i64 0, .int .i64 0, .int .i64 0, .slice none 0 0] (65 * 4)).toList = flatR encW (List.replicate 65 ((0, 0), 0, none, 0, 0)) := made_flat (r0 := ((0, 0), 0, none, 0, 0)) encW_len (by omega) rfl 65
  have h2 := rcs_lit encW_len w (List.replicate 65 ((0, 0), 0, none, 0, 0)) _ 26 h1
  rw [List.length_replicate] at h2
  exact ⟨_, h2, reads_many (show Reads _ ((0, 0), 0, none, 0, 0) ((0, 0), 0, []) from ⟨rfl, rfl, Ids.nil _⟩) 65⟩
/-- One row's value. -/
def RowV (w : World) (v : Value) (r : Row) : Prop := ∃ B m c, v = .agg #[.int .i64 r.1.1, .int .i64 r.1.2, .int .i64 r.2.1, .slice B m c] ∧ Ids w (.slice B m c) r.2.2
theorem RowV.below {w w' : World} {v : Value} {r : Row} (h : RowV w v r) (hb : Below w.heap.size w w') : RowV w' v r := by
  obtain ⟨B, m, c, h1, h2⟩ := h
  exact ⟨B, m, c, h1, h2.below hb⟩
/-- Rows that may not be. -/
def BadR (w : World) (v : Value) : Prop := ∃ A n c l, v = .slice A n c ∧ RowsAt w v l ∧ mayB l = false ∧ ∀ r ∈ l, r.2.2.length ≤ 100000
theorem BadR.below {w w' : World} {v : Value} (h : BadR w v) (hb : Below w.heap.size w w') : BadR w' v := by
  obtain ⟨A, n, c, l, h1, h2, h3⟩ := h
  exact ⟨A, n, c, l, h1, h2.below hb, h3⟩
/-- The eight rows of the statement. -/
def EightAt (w : World) (v : Value) : Prop := ∃ (g : Nat) (vs : List Value), v = .slice (some ⟨g, 0, none⟩) 8 8 ∧ vs.length = 8 ∧ w.heap[g]? = some (.cells vs.toArray 27 (0, 0)) ∧ ∀ k, k < 8 → ∃ u, vs[k]? = some u ∧ BadR w u
theorem EightAt.below {w w' : World} {v : Value} (h : EightAt w v) (hb : Below w.heap.size w w') : EightAt w' v := by
  obtain ⟨g, vs, h1, h2, h3, h4⟩ := h
  exact ⟨g, vs, h1, h2, (hb.block _ (row_lt h3)).trans h3, fun k hk => (h4 k hk).imp fun u hu => ⟨hu.1, hu.2.below hb⟩⟩
/-- What stands of the world. -/
structure RnG (w : World) (GA GB GF : Nat) (W : World) : Prop where
  a : Box W GA 1 1
  b : Box W GB 2 1
  f : RowsAt W (.slice (some ⟨GF, 0, none⟩) 1 1) fullR
  below : Below w.heap.size w W
theorem RnG.step {w : World} {GA GB GF : Nat} {W W' : World} (h : RnG w GA GB GF W) (hb : Below W.heap.size W W') : RnG w GA GB GF W' := ⟨box_below h.a hb, box_below h.b hb, h.f.below hb, below_after h.below hb (Nat.le_refl _)⟩
theorem act_eta (a : Act) (n : Nat) (h : a.tmps.size = n) : a = ⟨((List.range n).map fun k => a.tmps.getD k undef).toArray, a.defers⟩ := by
  obtain ⟨t, d⟩ := a
  congr 1
  apply Array.ext_getElem?
  intro i
  by_cases hi : i < n
  · have h2 : i < t.size := by rw [show t.size = n from h]; exact hi
    rw [Array.getElem?_eq_getElem h2, Array.getElem?_eq_getElem (by simpa using hi)]
    simp [Array.getD, h2]
  · have h2 : ¬ i < t.size := by rw [show t.size = n from h]; exact hi
    rw [Array.getElem?_eq_none (by omega), Array.getElem?_eq_none (by simpa using hi)]
theorem bad0 : mayB [((1, 1), 0, [])] = false := by kernel_rfl
theorem bad1 : mayB [((1, 1), 1099511627777, [])] = false := by kernel_rfl
theorem bad2 : mayB [((0, 0), 1, [])] = false := by kernel_rfl
theorem bad3 : mayB [((1, 1), 1, [(1, 1)])] = false := by kernel_rfl
theorem bad4 : mayB [((1, 1), 1, [(2, 1), (2, 1)])] = false := by kernel_rfl
theorem bad5 : mayB [((2, 1), 1, []), ((1, 1), 1, [])] = false := by kernel_rfl
theorem bad6 : mayB [((1, 1), 1, []), ((1, 1), 1, [])] = false := by kernel_rfl
theorem bad7 : mayB zeros = false := by kernel_rfl
/-- The slots of the region's operations. -/
def rnDs : List (Option Tmp) := [some 46, some 47, some 48, some 49, some 50, some 51, some 52, some 53, some 54, some 55, some 56, some 57, some 58, some 59, some 60, some 61, some 62, some 63, some 64, some 65, some 66, some 67, some 68, some 69, some 70, some 71, some 72, some 73, some 74, some 75, some 76, some 77, some 78]
/-- What is said of them. -/
def rnF (_ _ : Nat) : Nat → Value → World → Prop := fun i v w => match i with
  | 0 => v = .agg #[.int .i64 1, .int .i64 1]
  | 1 => v = .agg #[.int .i64 1, .int .i64 1, .int .i64 0, .slice none 0 0]
  | 2 => RowsAt w v [((1, 1), 0, [])]
  | 3 => v = .agg #[.int .i64 1, .int .i64 1]
  | 4 => v = .agg #[.int .i64 1, .int .i64 1, .int .i64 1099511627777, .slice none 0 0]
  | 5 => RowsAt w v [((1, 1), 1099511627777, [])]
  | 6 => v = .agg #[.int .i64 0, .int .i64 0, .int .i64 1, .slice none 0 0]
  | 7 => RowsAt w v [((0, 0), 1, [])]
  | 8 => v = .agg #[.int .i64 1, .int .i64 1]
  | 9 => v = .agg #[.int .i64 1, .int .i64 1]
  | 10 => Ids w v [(1, 1)]
  | 11 => RowV w v ((1, 1), 1, [(1, 1)])
  | 12 => RowsAt w v [((1, 1), 1, [(1, 1)])]
  | 13 => v = .agg #[.int .i64 1, .int .i64 1]
  | 14 => v = .agg #[.int .i64 2, .int .i64 1]
  | 15 => v = .agg #[.int .i64 2, .int .i64 1]
  | 16 => Ids w v [(2, 1), (2, 1)]
  | 17 => RowV w v ((1, 1), 1, [(2, 1), (2, 1)])
  | 18 => RowsAt w v [((1, 1), 1, [(2, 1), (2, 1)])]
  | 19 => v = .agg #[.int .i64 2, .int .i64 1]
  | 20 => v = .agg #[.int .i64 2, .int .i64 1, .int .i64 1, .slice none 0 0]
  | 21 => v = .agg #[.int .i64 1, .int .i64 1]
  | 22 => v = .agg #[.int .i64 1, .int .i64 1, .int .i64 1, .slice none 0 0]
  | 23 => RowsAt w v [((2, 1), 1, []), ((1, 1), 1, [])]
  | 24 => v = .agg #[.int .i64 1, .int .i64 1]
  | 25 => v = .agg #[.int .i64 1, .int .i64 1, .int .i64 1, .slice none 0 0]
  | 26 => v = .agg #[.int .i64 1, .int .i64 1]
  | 27 => v = .agg #[.int .i64 1, .int .i64 1, .int .i64 1, .slice none 0 0]
  | 28 => RowsAt w v [((1, 1), 1, []), ((1, 1), 1, [])]
  | 29 => RowsAt w v zeros
  | 30 => EightAt w v
  | 31 => v = .int .i64 8
  | 32 => v = .int .i64 0
  | _ => True
theorem rnF_mono (GA GB : Nat) : ∀ i v w w', rnF GA GB i v w → Below w.heap.size w w' → rnF GA GB i v w' := by
  intro i v w w' h hb
  unfold rnF at h ⊢
  split at h
  all_goals first | exact h | exact h.below hb
set_option maxHeartbeats 16000000 in
set_option maxRecDepth 100000 in
theorem rowsNames_any (w : World) : Calls Try.prog 3 #[] w fun e w' => e = .returned (.bool true) ∧ Below w.heap.size w w' := by
  have S1 : Hid (∀ W v vn, RowsAt W v fullR → Ids W vn [(2, 1)] → Calls Try.prog 8 #[v, .agg #[.int .i64 1, .int .i64 1], vn] W fun e w' => ∃ V, e = .returned (.tuple #[V, .int .i64 40]) ∧ Below W.heap.size W w') := Lib.hid fun W v vn h k => by
    have := setRows_any v vn fullR 1 1 [(2, 1)] W h k (by simp) (by simp) (by simp) (by simp)
    rw [show (setE fullR (1, 1) [(2, 1)]).2 = 40 by kernel_rfl] at this
    exact this.mono fun _ _ ⟨V, h1, _, h3⟩ => ⟨V, h1, h3⟩
  have S2 : Hid (∀ W, Calls Try.prog 8 #[.slice none 0 0, .agg #[.int .i64 0, .int .i64 0], .slice none 0 0] W fun e w' => ∃ V, e = .returned (.tuple #[V, .int .i64 4]) ∧ Below W.heap.size W w') := Lib.hid fun W => by
    have := setRows_any (.slice none 0 0) (.slice none 0 0) [] 0 0 [] W (RowsAt.nil W) (Ids.nil W) (by simp) (by simp) (by simp) (by simp)
    rw [show (setE [] (0, 0) []).2 = 4 by kernel_rfl] at this
    exact this.mono fun _ _ ⟨V, h1, _, h3⟩ => ⟨V, h1, h3⟩
  have S3 : Hid (∀ W vn, Ids W vn [(0, 0)] → Calls Try.prog 8 #[.slice none 0 0, .agg #[.int .i64 1, .int .i64 1], vn] W fun e w' => ∃ V, e = .returned (.tuple #[V, .int .i64 4]) ∧ Below W.heap.size W w') := Lib.hid fun W vn k => by
    have := setRows_any (.slice none 0 0) vn [] 1 1 [(0, 0)] W (RowsAt.nil W) k (by simp) (by simp) (by simp) (by simp)
    rw [show (setE [] (1, 1) [(0, 0)]).2 = 4 by kernel_rfl] at this
    exact this.mono fun _ _ ⟨V, h1, _, h3⟩ => ⟨V, h1, h3⟩
  have S4 : Hid (∀ W vn, Ids W vn [(1, 1)] → Calls Try.prog 8 #[.slice none 0 0, .agg #[.int .i64 1, .int .i64 1], vn] W fun e w' => ∃ A c, e = .returned (.tuple #[.slice A 0 c, .int .i64 0]) ∧ Below W.heap.size W w') := Lib.hid fun W vn k => by
    have := setRows_any (.slice none 0 0) vn [] 1 1 [(1, 1)] W (RowsAt.nil W) k (by simp) (by simp) (by simp) (by simp)
    rw [show setE [] (1, 1) [(1, 1)] = ([], 0) by kernel_rfl] at this
    exact this.mono fun _ _ ⟨V, h1, h2, h3⟩ => by
      obtain ⟨A, c, rfl, _⟩ := h2.shape
      exact ⟨A, c, h1, h3⟩
  have M1 : Hid (∀ W v, RowsAt W v fullR → Calls Try.prog 9 #[v] W fun e w' => e = .returned (.bool true) ∧ Below W.heap.size W w') := Lib.hid fun W v h => by
    have := may_rows v fullR W h (by simp)
    rwa [show mayB fullR = true by kernel_rfl] at this
  have M2 : Hid (∀ W, Calls Try.prog 9 #[.slice none 0 0] W fun e w' => e = .returned (.bool true) ∧ Below W.heap.size W w') := Lib.hid fun W => by
    have := may_rows (.slice none 0 0) [] W (RowsAt.nil W) (by simp)
    rwa [show mayB [] = true by kernel_rfl] at this
  have A0 : Hid (Box (((w.alloc (.cells #[.int .i64 1, .int .i64 1] 23)).alloc (.cells #[.int .i64 2, .int .i64 1] 23)).alloc (.cells #[.int .i64 1, .int .i64 1, .int .i64 1099511627776, .slice none 0 0] 26)) w.heap.size 1 1 ∧ Box (((w.alloc (.cells #[.int .i64 1, .int .i64 1] 23)).alloc (.cells #[.int .i64 2, .int .i64 1] 23)).alloc (.cells #[.int .i64 1, .int .i64 1, .int .i64 1099511627776, .slice none 0 0] 26)) (w.heap.size + 1) 2 1 ∧ RowsAt (((w.alloc (.cells #[.int .i64 1, .int .i64 1] 23)).alloc (.cells #[.int .i64 2, .int .i64 1] 23)).alloc (.cells #[.int .i64 1, .int .i64 1, .int .i64 1099511627776, .slice none 0 0] 26)) (.slice (some ⟨w.heap.size + 1 + 1, 0, none⟩) 1 1) fullR ∧ Below w.heap.size w (((w.alloc (.cells #[.int .i64 1, .int .i64 1] 23)).alloc (.cells #[.int .i64 2, .int .i64 1] 23)).alloc (.cells #[.int .i64 1, .int .i64 1, .int .i64 1099511627776, .slice none 0 0] 26))) := by
    have b1 := below_one w (.cells #[.int .i64 1, .int .i64 1] 23)
    have b2 := below_one (w.alloc (.cells #[.int .i64 1, .int .i64 1] 23)) (.cells #[.int .i64 2, .int .i64 1] 23)
    have b3 := below_one ((w.alloc (.cells #[.int .i64 1, .int .i64 1] 23)).alloc (.cells #[.int .i64 2, .int .i64 1] 23)) (.cells #[.int .i64 1, .int .i64 1, .int .i64 1099511627776, .slice none 0 0] 26)
    refine Lib.hid ⟨box_below (box_below (box_new w 1 1) b2) b3, ?_, ?_, below_after (below_after b1 b2 (Nat.le_refl _)) b3 (Nat.le_refl _)⟩
    · have := box_below (box_new (w.alloc (.cells #[.int .i64 1, .int .i64 1] 23)) 2 1) b3
      simpa using this
    · have := rows_lit (wbox_new ((w.alloc (.cells #[.int .i64 1, .int .i64 1] 23)).alloc (.cells #[.int .i64 2, .int .i64 1] 23)) 1 1 1099511627776 (.slice none 0 0)) (Ids.nil _)
      simpa only [World.size_alloc] using this
  go_enter Try.func3, Try.ntmps3
  go_upto_region 3 with fail
  generalize ((w.alloc (.cells #[.int .i64 1, .int .i64 1] 23)).alloc (.cells #[.int .i64 2, .int .i64 1] 23)).alloc (.cells #[.int .i64 1, .int .i64 1, .int .i64 1099511627776, .slice none 0 0] 26) = w1 at *
  obtain ⟨GA, hA⟩ : ∃ g, g = w.heap.size := ⟨_, rfl⟩
  obtain ⟨GB, hB⟩ : ∃ g, g = w.heap.size + 1 := ⟨_, rfl⟩
  obtain ⟨GF, hF⟩ : ∃ g, g = w.heap.size + 1 + 1 := ⟨_, rfl⟩
  have G1 : Hid (RnG w w.heap.size (w.heap.size + 1) (w.heap.size + 1 + 1) w1) := Lib.hid ⟨A0.out.1, A0.out.2.1, A0.out.2.2.1, A0.out.2.2.2⟩
  rw [← hF, ← hB, ← hA] at G1
  rw [← hF, ← hB, ← hA]
  clear A0 hA hB hF
  obtain ⟨a1, a2⟩ := box_cells G1.out.a
  obtain ⟨b1, b2⟩ := box_cells G1.out.b
  have q1 := Lib.hid (below_one w1 (.cells #[.int .i64 2, .int .i64 1] 23))
  go_wp2_with fail
  (with_reducible refine (S1.out _ _ _ (G1.out.f.below q1.out) (ids_one w1 2 1)).mono ?_)
  rintro e w2 ⟨V1, rfl, hb⟩
  have G2 := Lib.hid ((G1.out.step q1.out).step hb)
  clear a1 a2 b1 b2 hb G1 q1
  obtain ⟨a1, a2⟩ := box_cells G2.out.a
  go_wp2_with fail
  (with_reducible refine (S2.out _).mono ?_)
  rintro e w3 ⟨V2, rfl, hb⟩
  have G3 := Lib.hid (G2.out.step hb)
  clear a1 a2 hb G2
  obtain ⟨a1, a2⟩ := box_cells G3.out.a
  have q1 := Lib.hid (below_one w3 (.cells #[.int .i64 0, .int .i64 0] 23))
  go_wp2_with fail
  (with_reducible refine (S3.out _ _ (ids_one w3 0 0)).mono ?_)
  rintro e w4 ⟨V3, rfl, hb⟩
  have G4 := Lib.hid ((G3.out.step q1.out).step hb)
  clear a1 a2 hb G3 q1
  obtain ⟨a1, a2⟩ := box_cells G4.out.a
  have q1 := Lib.hid (below_one w4 (.cells #[.int .i64 1, .int .i64 1] 23))
  go_wp2_with fail
  (with_reducible refine (S4.out _ _ (ids_one w4 1 1)).mono ?_)
  rintro e w5 ⟨A10, c10, rfl, hb⟩
  have G5 := Lib.hid ((G4.out.step q1.out).step hb)
  clear a1 a2 hb G4 q1
  go_wp2_with fail
  refine wp_region_due (by kernel_rfl) rnDs (rnF GA GB) (RnG w GA GB GF) rfl (by kernel_rfl) (by kernel_rfl) (by kernel_rfl) (rnF_mono GA GB) (G5.out.step (below_drewN (n := 1) (Below.refl _ _))) ?_ ?_
  · clear G5 S1 S2 S3 S4 M1 M2
    refine AllDue.cons (due_met (.inl rfl) fun a w1 hG hold hf K hK => ?_) ?_
    · have f1 : a.tmps.getD 1 undef = .pointer (some ⟨GA, 0, none⟩) := hold 1 (by kernel_rfl)
      obtain ⟨c1, c2⟩ := box_cells hG.a
      clear hf hold
      go_simp
      exact hK _ _ hG (Below.refl _ _) rfl
    refine AllDue.cons (due_met (.inl rfl) fun a w1 hG hold hf K hK => ?_) ?_
    · have f46 : a.tmps.getD 46 undef = .agg #[.int .i64 1, .int .i64 1] := hf 0 46 (by kernel_rfl) rfl
      have q46 := f46
      rw [Array.getD_eq_getD_getElem?] at q46
      clear hf hold
      go_simp
      exact hK _ _ hG (Below.refl _ _) rfl
    refine AllDue.cons (due_met (.inl rfl) fun a w1 hG hold hf K hK => ?_) ?_
    · have f47 : a.tmps.getD 47 undef = .agg #[.int .i64 1, .int .i64 1, .int .i64 0, .slice none 0 0] := hf 1 47 (by kernel_rfl) rfl
      have q47 := f47
      rw [Array.getD_eq_getD_getElem?] at q47
      clear hf hold
      go_simp
      have h2 := below_one w1 (.cells #[.int .i64 1, .int .i64 1, .int .i64 0, .slice none 0 0] 26)
      exact hK _ _ (hG.step h2) h2 (rows_lit (wbox_new w1 1 1 0 (.slice none 0 0)) (Ids.nil _))
    refine AllDue.cons (due_met (.inl rfl) fun a w1 hG hold hf K hK => ?_) ?_
    · have f1 : a.tmps.getD 1 undef = .pointer (some ⟨GA, 0, none⟩) := hold 1 (by kernel_rfl)
      obtain ⟨c1, c2⟩ := box_cells hG.a
      clear hf hold
      go_simp
      exact hK _ _ hG (Below.refl _ _) rfl
    refine AllDue.cons (due_met (.inl rfl) fun a w1 hG hold hf K hK => ?_) ?_
    · have f49 : a.tmps.getD 49 undef = .agg #[.int .i64 1, .int .i64 1] := hf 3 49 (by kernel_rfl) rfl
      have q49 := f49
      rw [Array.getD_eq_getD_getElem?] at q49
      clear hf hold
      go_simp
      exact hK _ _ hG (Below.refl _ _) rfl
    refine AllDue.cons (due_met (.inl rfl) fun a w1 hG hold hf K hK => ?_) ?_
    · have f50 : a.tmps.getD 50 undef = .agg #[.int .i64 1, .int .i64 1, .int .i64 1099511627777, .slice none 0 0] := hf 4 50 (by kernel_rfl) rfl
      have q50 := f50
      rw [Array.getD_eq_getD_getElem?] at q50
      clear hf hold
      go_simp
      have h2 := below_one w1 (.cells #[.int .i64 1, .int .i64 1, .int .i64 1099511627777, .slice none 0 0] 26)
      exact hK _ _ (hG.step h2) h2 (rows_lit (wbox_new w1 1 1 1099511627777 (.slice none 0 0)) (Ids.nil _))
    refine AllDue.cons (due_met (.inl rfl) fun a w1 hG hold hf K hK => ?_) ?_
    · clear hf hold
      go_simp
      exact hK _ _ hG (Below.refl _ _) rfl
    refine AllDue.cons (due_met (.inl rfl) fun a w1 hG hold hf K hK => ?_) ?_
    · have f52 : a.tmps.getD 52 undef = .agg #[.int .i64 0, .int .i64 0, .int .i64 1, .slice none 0 0] := hf 6 52 (by kernel_rfl) rfl
      have q52 := f52
      rw [Array.getD_eq_getD_getElem?] at q52
      clear hf hold
      go_simp
      have h2 := below_one w1 (.cells #[.int .i64 0, .int .i64 0, .int .i64 1, .slice none 0 0] 26)
      exact hK _ _ (hG.step h2) h2 (rows_lit (wbox_new w1 0 0 1 (.slice none 0 0)) (Ids.nil _))
    refine AllDue.cons (due_met (.inl rfl) fun a w1 hG hold hf K hK => ?_) ?_
    · have f1 : a.tmps.getD 1 undef = .pointer (some ⟨GA, 0, none⟩) := hold 1 (by kernel_rfl)
      obtain ⟨c1, c2⟩ := box_cells hG.a
      clear hf hold
      go_simp
      exact hK _ _ hG (Below.refl _ _) rfl
    refine AllDue.cons (due_met (.inl rfl) fun a w1 hG hold hf K hK => ?_) ?_
    · have f1 : a.tmps.getD 1 undef = .pointer (some ⟨GA, 0, none⟩) := hold 1 (by kernel_rfl)
      obtain ⟨c1, c2⟩ := box_cells hG.a
      clear hf hold
      go_simp
      exact hK _ _ hG (Below.refl _ _) rfl
    refine AllDue.cons (due_met (.inl rfl) fun a w1 hG hold hf K hK => ?_) ?_
    · have f55 : a.tmps.getD 55 undef = .agg #[.int .i64 1, .int .i64 1] := hf 9 55 (by kernel_rfl) rfl
      have q55 := f55
      rw [Array.getD_eq_getD_getElem?] at q55
      clear hf hold
      go_simp
      have h2 := below_one w1 (.cells #[.int .i64 1, .int .i64 1] 23)
      exact hK _ _ (hG.step h2) h2 (ids_one w1 1 1)
    refine AllDue.cons (due_met (.inl rfl) fun a w1 hG hold hf K hK => ?_) ?_
    · have f54 : a.tmps.getD 54 undef = .agg #[.int .i64 1, .int .i64 1] := hf 8 54 (by kernel_rfl) rfl
      have q54 := f54
      rw [Array.getD_eq_getD_getElem?] at q54
      have r56 : Ids w1 (a.tmps.getD 56 undef) [(1, 1)] := hf 10 56 (by kernel_rfl) rfl
      obtain ⟨x56, e56⟩ : ∃ x, a.tmps.getD 56 undef = x := ⟨_, rfl⟩
      rw [e56] at r56
      have q56 := e56
      rw [Array.getD_eq_getD_getElem?] at q56
      obtain ⟨A, c, rfl, hz⟩ := id r56
      clear hz
      clear hf hold
      go_simp
      exact hK _ _ hG (Below.refl _ _) ⟨_, _, _, rfl, r56⟩
    refine AllDue.cons (due_met (.inl rfl) fun a w1 hG hold hf K hK => ?_) ?_
    · have r57 : RowV w1 (a.tmps.getD 57 undef) ((1, 1), 1, [(1, 1)]) := hf 11 57 (by kernel_rfl) rfl
      obtain ⟨x57, e57⟩ : ∃ x, a.tmps.getD 57 undef = x := ⟨_, rfl⟩
      rw [e57] at r57
      have q57 := e57
      rw [Array.getD_eq_getD_getElem?] at q57
      obtain ⟨B, m, c, rfl, hn⟩ := r57
      clear hf hold
      go_simp
      have h2 := below_one w1 (.cells #[.int .i64 1, .int .i64 1, .int .i64 1, .slice B m c] 26)
      exact hK _ _ (hG.step h2) h2 (rows_lit (wbox_new w1 1 1 1 (.slice B m c)) (hn.below h2))
    refine AllDue.cons (due_met (.inl rfl) fun a w1 hG hold hf K hK => ?_) ?_
    · have f1 : a.tmps.getD 1 undef = .pointer (some ⟨GA, 0, none⟩) := hold 1 (by kernel_rfl)
      obtain ⟨c1, c2⟩ := box_cells hG.a
      clear hf hold
      go_simp
      exact hK _ _ hG (Below.refl _ _) rfl
    refine AllDue.cons (due_met (.inl rfl) fun a w1 hG hold hf K hK => ?_) ?_
    · have f2 : a.tmps.getD 2 undef = .pointer (some ⟨GB, 0, none⟩) := hold 2 (by kernel_rfl)
      obtain ⟨c1, c2⟩ := box_cells hG.b
      clear hf hold
      go_simp
      exact hK _ _ hG (Below.refl _ _) rfl
    refine AllDue.cons (due_met (.inl rfl) fun a w1 hG hold hf K hK => ?_) ?_
    · have f2 : a.tmps.getD 2 undef = .pointer (some ⟨GB, 0, none⟩) := hold 2 (by kernel_rfl)
      obtain ⟨c1, c2⟩ := box_cells hG.b
      clear hf hold
      go_simp
      exact hK _ _ hG (Below.refl _ _) rfl
    refine AllDue.cons (due_met (.inl rfl) fun a w1 hG hold hf K hK => ?_) ?_
    · have f60 : a.tmps.getD 60 undef = .agg #[.int .i64 2, .int .i64 1] := hf 14 60 (by kernel_rfl) rfl
      have q60 := f60
      rw [Array.getD_eq_getD_getElem?] at q60
      have f61 : a.tmps.getD 61 undef = .agg #[.int .i64 2, .int .i64 1] := hf 15 61 (by kernel_rfl) rfl
      have q61 := f61
      rw [Array.getD_eq_getD_getElem?] at q61
      clear hf hold
      go_simp
      have h2 := below_one w1 (.cells #[.int .i64 2, .int .i64 1, .int .i64 2, .int .i64 1] 23)
      exact hK _ _ (hG.step h2) h2 (ids_two w1 2 1 2 1)
    refine AllDue.cons (due_met (.inl rfl) fun a w1 hG hold hf K hK => ?_) ?_
    · have f59 : a.tmps.getD 59 undef = .agg #[.int .i64 1, .int .i64 1] := hf 13 59 (by kernel_rfl) rfl
      have q59 := f59
      rw [Array.getD_eq_getD_getElem?] at q59
      have r62 : Ids w1 (a.tmps.getD 62 undef) [(2, 1), (2, 1)] := hf 16 62 (by kernel_rfl) rfl
      obtain ⟨x62, e62⟩ : ∃ x, a.tmps.getD 62 undef = x := ⟨_, rfl⟩
      rw [e62] at r62
      have q62 := e62
      rw [Array.getD_eq_getD_getElem?] at q62
      obtain ⟨A, c, rfl, hz⟩ := id r62
      clear hz
      clear hf hold
      go_simp
      exact hK _ _ hG (Below.refl _ _) ⟨_, _, _, rfl, r62⟩
    refine AllDue.cons (due_met (.inl rfl) fun a w1 hG hold hf K hK => ?_) ?_
    · have r63 : RowV w1 (a.tmps.getD 63 undef) ((1, 1), 1, [(2, 1), (2, 1)]) := hf 17 63 (by kernel_rfl) rfl
      obtain ⟨x63, e63⟩ : ∃ x, a.tmps.getD 63 undef = x := ⟨_, rfl⟩
      rw [e63] at r63
      have q63 := e63
      rw [Array.getD_eq_getD_getElem?] at q63
      obtain ⟨B, m, c, rfl, hn⟩ := r63
      clear hf hold
      go_simp
      have h2 := below_one w1 (.cells #[.int .i64 1, .int .i64 1, .int .i64 1, .slice B m c] 26)
      exact hK _ _ (hG.step h2) h2 (rows_lit (wbox_new w1 1 1 1 (.slice B m c)) (hn.below h2))
    refine AllDue.cons (due_met (.inl rfl) fun a w1 hG hold hf K hK => ?_) ?_
    · have f2 : a.tmps.getD 2 undef = .pointer (some ⟨GB, 0, none⟩) := hold 2 (by kernel_rfl)
      obtain ⟨c1, c2⟩ := box_cells hG.b
      clear hf hold
      go_simp
      exact hK _ _ hG (Below.refl _ _) rfl
    refine AllDue.cons (due_met (.inl rfl) fun a w1 hG hold hf K hK => ?_) ?_
    · have f65 : a.tmps.getD 65 undef = .agg #[.int .i64 2, .int .i64 1] := hf 19 65 (by kernel_rfl) rfl
      have q65 := f65
      rw [Array.getD_eq_getD_getElem?] at q65
      clear hf hold
      go_simp
      exact hK _ _ hG (Below.refl _ _) rfl
    refine AllDue.cons (due_met (.inl rfl) fun a w1 hG hold hf K hK => ?_) ?_
    · have f1 : a.tmps.getD 1 undef = .pointer (some ⟨GA, 0, none⟩) := hold 1 (by kernel_rfl)
      obtain ⟨c1, c2⟩ := box_cells hG.a
      clear hf hold
      go_simp
      exact hK _ _ hG (Below.refl _ _) rfl
    refine AllDue.cons (due_met (.inl rfl) fun a w1 hG hold hf K hK => ?_) ?_
    · have f67 : a.tmps.getD 67 undef = .agg #[.int .i64 1, .int .i64 1] := hf 21 67 (by kernel_rfl) rfl
      have q67 := f67
      rw [Array.getD_eq_getD_getElem?] at q67
      clear hf hold
      go_simp
      exact hK _ _ hG (Below.refl _ _) rfl
    refine AllDue.cons (due_met (.inl rfl) fun a w1 hG hold hf K hK => ?_) ?_
    · have f66 : a.tmps.getD 66 undef = .agg #[.int .i64 2, .int .i64 1, .int .i64 1, .slice none 0 0] := hf 20 66 (by kernel_rfl) rfl
      have q66 := f66
      rw [Array.getD_eq_getD_getElem?] at q66
      have f68 : a.tmps.getD 68 undef = .agg #[.int .i64 1, .int .i64 1, .int .i64 1, .slice none 0 0] := hf 22 68 (by kernel_rfl) rfl
      have q68 := f68
      rw [Array.getD_eq_getD_getElem?] at q68
      clear hf hold
      go_simp
      have h2 := below_one w1 (.cells #[.int .i64 2, .int .i64 1, .int .i64 1, .slice none 0 0, .int .i64 1, .int .i64 1, .int .i64 1, .slice none 0 0] 26)
      exact hK _ _ (hG.step h2) h2 (rows_two w1 2 1 1 1 1 1)
    refine AllDue.cons (due_met (.inl rfl) fun a w1 hG hold hf K hK => ?_) ?_
    · have f1 : a.tmps.getD 1 undef = .pointer (some ⟨GA, 0, none⟩) := hold 1 (by kernel_rfl)
      obtain ⟨c1, c2⟩ := box_cells hG.a
      clear hf hold
      go_simp
      exact hK _ _ hG (Below.refl _ _) rfl
    refine AllDue.cons (due_met (.inl rfl) fun a w1 hG hold hf K hK => ?_) ?_
    · have f70 : a.tmps.getD 70 undef = .agg #[.int .i64 1, .int .i64 1] := hf 24 70 (by kernel_rfl) rfl
      have q70 := f70
      rw [Array.getD_eq_getD_getElem?] at q70
      clear hf hold
      go_simp
      exact hK _ _ hG (Below.refl _ _) rfl
    refine AllDue.cons (due_met (.inl rfl) fun a w1 hG hold hf K hK => ?_) ?_
    · have f1 : a.tmps.getD 1 undef = .pointer (some ⟨GA, 0, none⟩) := hold 1 (by kernel_rfl)
      obtain ⟨c1, c2⟩ := box_cells hG.a
      clear hf hold
      go_simp
      exact hK _ _ hG (Below.refl _ _) rfl
    refine AllDue.cons (due_met (.inl rfl) fun a w1 hG hold hf K hK => ?_) ?_
    · have f72 : a.tmps.getD 72 undef = .agg #[.int .i64 1, .int .i64 1] := hf 26 72 (by kernel_rfl) rfl
      have q72 := f72
      rw [Array.getD_eq_getD_getElem?] at q72
      clear hf hold
      go_simp
      exact hK _ _ hG (Below.refl _ _) rfl
    refine AllDue.cons (due_met (.inl rfl) fun a w1 hG hold hf K hK => ?_) ?_
    · have f71 : a.tmps.getD 71 undef = .agg #[.int .i64 1, .int .i64 1, .int .i64 1, .slice none 0 0] := hf 25 71 (by kernel_rfl) rfl
      have q71 := f71
      rw [Array.getD_eq_getD_getElem?] at q71
      have f73 : a.tmps.getD 73 undef = .agg #[.int .i64 1, .int .i64 1, .int .i64 1, .slice none 0 0] := hf 27 73 (by kernel_rfl) rfl
      have q73 := f73
      rw [Array.getD_eq_getD_getElem?] at q73
      clear hf hold
      go_simp
      have h2 := below_one w1 (.cells #[.int .i64 1, .int .i64 1, .int .i64 1, .slice none 0 0, .int .i64 1, .int .i64 1, .int .i64 1, .slice none 0 0] 26)
      exact hK _ _ (hG.step h2) h2 (rows_two w1 1 1 1 1 1 1)
    refine AllDue.cons (due_met (.inl rfl) fun a w1 hG hold hf K hK => ?_) ?_
    · clear hf hold
      go_simp
      rw [make_rows w1]
      have h2 := below_one w1 (.cells (madeCells #[.int .i64 0, .int .i64 0, .int .i64 0, .slice none 0 0] (65 * 4)) 26)
      exact hK _ _ (hG.step h2) h2 (zeros_at w1)
    refine AllDue.cons (due_met (.inl rfl) fun a w1 hG hold hf K hK => ?_) ?_
    · have r48 : RowsAt w1 (a.tmps.getD 48 undef) [((1, 1), 0, [])] := hf 2 48 (by kernel_rfl) rfl
      obtain ⟨x48, e48⟩ : ∃ x, a.tmps.getD 48 undef = x := ⟨_, rfl⟩
      rw [e48] at r48
      have q48 := e48
      rw [Array.getD_eq_getD_getElem?] at q48
      have r51 : RowsAt w1 (a.tmps.getD 51 undef) [((1, 1), 1099511627777, [])] := hf 5 51 (by kernel_rfl) rfl
      obtain ⟨x51, e51⟩ : ∃ x, a.tmps.getD 51 undef = x := ⟨_, rfl⟩
      rw [e51] at r51
      have q51 := e51
      rw [Array.getD_eq_getD_getElem?] at q51
      have r53 : RowsAt w1 (a.tmps.getD 53 undef) [((0, 0), 1, [])] := hf 7 53 (by kernel_rfl) rfl
      obtain ⟨x53, e53⟩ : ∃ x, a.tmps.getD 53 undef = x := ⟨_, rfl⟩
      rw [e53] at r53
      have q53 := e53
      rw [Array.getD_eq_getD_getElem?] at q53
      have r58 : RowsAt w1 (a.tmps.getD 58 undef) [((1, 1), 1, [(1, 1)])] := hf 12 58 (by kernel_rfl) rfl
      obtain ⟨x58, e58⟩ : ∃ x, a.tmps.getD 58 undef = x := ⟨_, rfl⟩
      rw [e58] at r58
      have q58 := e58
      rw [Array.getD_eq_getD_getElem?] at q58
      have r64 : RowsAt w1 (a.tmps.getD 64 undef) [((1, 1), 1, [(2, 1), (2, 1)])] := hf 18 64 (by kernel_rfl) rfl
      obtain ⟨x64, e64⟩ : ∃ x, a.tmps.getD 64 undef = x := ⟨_, rfl⟩
      rw [e64] at r64
      have q64 := e64
      rw [Array.getD_eq_getD_getElem?] at q64
      have r69 : RowsAt w1 (a.tmps.getD 69 undef) [((2, 1), 1, []), ((1, 1), 1, [])] := hf 23 69 (by kernel_rfl) rfl
      obtain ⟨x69, e69⟩ : ∃ x, a.tmps.getD 69 undef = x := ⟨_, rfl⟩
      rw [e69] at r69
      have q69 := e69
      rw [Array.getD_eq_getD_getElem?] at q69
      have r74 : RowsAt w1 (a.tmps.getD 74 undef) [((1, 1), 1, []), ((1, 1), 1, [])] := hf 28 74 (by kernel_rfl) rfl
      obtain ⟨x74, e74⟩ : ∃ x, a.tmps.getD 74 undef = x := ⟨_, rfl⟩
      rw [e74] at r74
      have q74 := e74
      rw [Array.getD_eq_getD_getElem?] at q74
      have r75 : RowsAt w1 (a.tmps.getD 75 undef) zeros := hf 29 75 (by kernel_rfl) rfl
      obtain ⟨x75, e75⟩ : ∃ x, a.tmps.getD 75 undef = x := ⟨_, rfl⟩
      rw [e75] at r75
      have q75 := e75
      rw [Array.getD_eq_getD_getElem?] at q75
      obtain ⟨A0, c0, z0, -⟩ := r48.shape
      have z0 : x48 = .slice A0 1 c0 := z0
      subst z0
      obtain ⟨A1, c1, z1, -⟩ := r51.shape
      have z1 : x51 = .slice A1 1 c1 := z1
      subst z1
      obtain ⟨A2, c2, z2, -⟩ := r53.shape
      have z2 : x53 = .slice A2 1 c2 := z2
      subst z2
      obtain ⟨A3, c3, z3, -⟩ := r58.shape
      have z3 : x58 = .slice A3 1 c3 := z3
      subst z3
      obtain ⟨A4, c4, z4, -⟩ := r64.shape
      have z4 : x64 = .slice A4 1 c4 := z4
      subst z4
      obtain ⟨A5, c5, z5, -⟩ := r69.shape
      have z5 : x69 = .slice A5 2 c5 := z5
      subst z5
      obtain ⟨A6, c6, z6, -⟩ := r74.shape
      have z6 : x74 = .slice A6 2 c6 := z6
      subst z6
      obtain ⟨A7, c7, z7, -⟩ := r75.shape
      have z7 : x75 = .slice A7 65 c7 := z7
      subst z7
      clear hf hold
      go_simp
      have h2 := below_one w1 (.cells #[.slice A0 1 c0, .slice A1 1 c1, .slice A2 1 c2, .slice A3 1 c3, .slice A4 1 c4, .slice A5 2 c5, .slice A6 2 c6, .slice A7 65 c7] 27)
      refine hK _ _ (hG.step h2) h2 ⟨w1.heap.size, [.slice A0 1 c0, .slice A1 1 c1, .slice A2 1 c2, .slice A3 1 c3, .slice A4 1 c4, .slice A5 2 c5, .slice A6 2 c6, .slice A7 65 c7], rfl, rfl, heap_alloc_new w1 _, fun k hk => ?_⟩
      match k, hk with
      | 0, _ => exact ⟨_, rfl, _, _, _, _, rfl, r48.below h2, bad0, by decide⟩
      | 1, _ => exact ⟨_, rfl, _, _, _, _, rfl, r51.below h2, bad1, by decide⟩
      | 2, _ => exact ⟨_, rfl, _, _, _, _, rfl, r53.below h2, bad2, by decide⟩
      | 3, _ => exact ⟨_, rfl, _, _, _, _, rfl, r58.below h2, bad3, by decide⟩
      | 4, _ => exact ⟨_, rfl, _, _, _, _, rfl, r64.below h2, bad4, by decide⟩
      | 5, _ => exact ⟨_, rfl, _, _, _, _, rfl, r69.below h2, bad5, by decide⟩
      | 6, _ => exact ⟨_, rfl, _, _, _, _, rfl, r74.below h2, bad6, by decide⟩
      | 7, _ => exact ⟨_, rfl, _, _, _, _, rfl, r75.below h2, bad7, zeros_len⟩
    refine AllDue.cons (due_met (.inl rfl) fun a w1 hG hold hf K hK => ?_) ?_
    · have r76 : EightAt w1 (a.tmps.getD 76 undef)  := hf 30 76 (by kernel_rfl) rfl
      obtain ⟨x76, e76⟩ : ∃ x, a.tmps.getD 76 undef = x := ⟨_, rfl⟩
      rw [e76] at r76
      have q76 := e76
      rw [Array.getD_eq_getD_getElem?] at q76
      obtain ⟨g, vs, rfl, -⟩ := r76
      clear hf hold
      go_simp
      exact hK _ _ hG (Below.refl _ _) rfl
    refine AllDue.cons (due_met (.inl rfl) fun a w1 hG hold hf K hK => ?_) ?_
    · clear hf hold
      go_simp
      exact hK _ _ hG (Below.refl _ _) rfl
    exact AllDue.nil
  · intro ac w6 hG hd hs hold hf
    have h76 : EightAt w6 (ac.tmps.getD 76 undef) := hf 30 76 (by kernel_rfl)
    obtain ⟨g, vs, h76, hvl, hvb, hbad⟩ := h76
    have e := (act_eta ac 114 hs).trans (show _ = (⟨#[ac.tmps.getD 0 undef, ac.tmps.getD 1 undef, ac.tmps.getD 2 undef, ac.tmps.getD 3 undef, ac.tmps.getD 4 undef, ac.tmps.getD 5 undef, ac.tmps.getD 6 undef, ac.tmps.getD 7 undef, ac.tmps.getD 8 undef, ac.tmps.getD 9 undef, ac.tmps.getD 10 undef, ac.tmps.getD 11 undef, ac.tmps.getD 12 undef, ac.tmps.getD 13 undef, ac.tmps.getD 14 undef, ac.tmps.getD 15 undef, ac.tmps.getD 16 undef, ac.tmps.getD 17 undef, ac.tmps.getD 18 undef, ac.tmps.getD 19 undef, ac.tmps.getD 20 undef, ac.tmps.getD 21 undef, ac.tmps.getD 22 undef, ac.tmps.getD 23 undef, ac.tmps.getD 24 undef, ac.tmps.getD 25 undef, ac.tmps.getD 26 undef, ac.tmps.getD 27 undef, ac.tmps.getD 28 undef, ac.tmps.getD 29 undef, ac.tmps.getD 30 undef, ac.tmps.getD 31 undef, ac.tmps.getD 32 undef, ac.tmps.getD 33 undef, ac.tmps.getD 34 undef, ac.tmps.getD 35 undef, ac.tmps.getD 36 undef, ac.tmps.getD 37 undef, ac.tmps.getD 38 undef, ac.tmps.getD 39 undef, ac.tmps.getD 40 undef, ac.tmps.getD 41 undef, ac.tmps.getD 42 undef, ac.tmps.getD 43 undef, ac.tmps.getD 44 undef, ac.tmps.getD 45 undef, ac.tmps.getD 46 undef, ac.tmps.getD 47 undef, ac.tmps.getD 48 undef, ac.tmps.getD 49 undef, ac.tmps.getD 50 undef, ac.tmps.getD 51 undef, ac.tmps.getD 52 undef, ac.tmps.getD 53 undef, ac.tmps.getD 54 undef, ac.tmps.getD 55 undef, ac.tmps.getD 56 undef, ac.tmps.getD 57 undef, ac.tmps.getD 58 undef, ac.tmps.getD 59 undef, ac.tmps.getD 60 undef, ac.tmps.getD 61 undef, ac.tmps.getD 62 undef, ac.tmps.getD 63 undef, ac.tmps.getD 64 undef, ac.tmps.getD 65 undef, ac.tmps.getD 66 undef, ac.tmps.getD 67 undef, ac.tmps.getD 68 undef, ac.tmps.getD 69 undef, ac.tmps.getD 70 undef, ac.tmps.getD 71 undef, ac.tmps.getD 72 undef, ac.tmps.getD 73 undef, ac.tmps.getD 74 undef, ac.tmps.getD 75 undef, ac.tmps.getD 76 undef, ac.tmps.getD 77 undef, ac.tmps.getD 78 undef, ac.tmps.getD 79 undef, ac.tmps.getD 80 undef, ac.tmps.getD 81 undef, ac.tmps.getD 82 undef, ac.tmps.getD 83 undef, ac.tmps.getD 84 undef, ac.tmps.getD 85 undef, ac.tmps.getD 86 undef, ac.tmps.getD 87 undef, ac.tmps.getD 88 undef, ac.tmps.getD 89 undef, ac.tmps.getD 90 undef, ac.tmps.getD 91 undef, ac.tmps.getD 92 undef, ac.tmps.getD 93 undef, ac.tmps.getD 94 undef, ac.tmps.getD 95 undef, ac.tmps.getD 96 undef, ac.tmps.getD 97 undef, ac.tmps.getD 98 undef, ac.tmps.getD 99 undef, ac.tmps.getD 100 undef, ac.tmps.getD 101 undef, ac.tmps.getD 102 undef, ac.tmps.getD 103 undef, ac.tmps.getD 104 undef, ac.tmps.getD 105 undef, ac.tmps.getD 106 undef, ac.tmps.getD 107 undef, ac.tmps.getD 108 undef, ac.tmps.getD 109 undef, ac.tmps.getD 110 undef, ac.tmps.getD 111 undef, ac.tmps.getD 112 undef, ac.tmps.getD 113 undef], []⟩ : Act) by rw [hd]; rfl)
    have k1 : ac.tmps.getD 1 undef = .pointer (some ⟨GA, 0, none⟩) := hold 1 (by kernel_rfl)
    have k2 : ac.tmps.getD 2 undef = .pointer (some ⟨GB, 0, none⟩) := hold 2 (by kernel_rfl)
    have k3 : ac.tmps.getD 3 undef = .slice (some ⟨GF, 0, none⟩) 1 1 := hold 3 (by kernel_rfl)
    have k5 : ac.tmps.getD 5 undef = .int .i64 40 := hold 5 (by kernel_rfl)
    have k7 : ac.tmps.getD 7 undef = .int .i64 4 := hold 7 (by kernel_rfl)
    have k9 : ac.tmps.getD 9 undef = .int .i64 4 := hold 9 (by kernel_rfl)
    have k10 : ac.tmps.getD 10 undef = .slice A10 0 c10 := hold 10 (by kernel_rfl)
    have k11 : ac.tmps.getD 11 undef = .int .i64 0 := hold 11 (by kernel_rfl)
    have k77 : ac.tmps.getD 77 undef = .int .i64 8 := hf 31 77 (by kernel_rfl)
    have k78 : ac.tmps.getD 78 undef = .int .i64 0 := hf 32 78 (by kernel_rfl)
    rw [k1, k2, k3, k5, k7, k9, k10, k11, k77, k78, h76] at e
    clear hold hf hs hd h76 k1 k2 k3 k5 k7 k9 k10 k11 k77 k78
    generalize ac.tmps.getD 0 undef = u0 at e
    generalize ac.tmps.getD 4 undef = u4 at e
    generalize ac.tmps.getD 6 undef = u6 at e
    generalize ac.tmps.getD 8 undef = u8 at e
    generalize ac.tmps.getD 12 undef = u12 at e
    generalize ac.tmps.getD 13 undef = u13 at e
    generalize ac.tmps.getD 14 undef = u14 at e
    generalize ac.tmps.getD 15 undef = u15 at e
    generalize ac.tmps.getD 16 undef = u16 at e
    generalize ac.tmps.getD 17 undef = u17 at e
    generalize ac.tmps.getD 18 undef = u18 at e
    generalize ac.tmps.getD 19 undef = u19 at e
    generalize ac.tmps.getD 20 undef = u20 at e
    generalize ac.tmps.getD 21 undef = u21 at e
    generalize ac.tmps.getD 22 undef = u22 at e
    generalize ac.tmps.getD 23 undef = u23 at e
    generalize ac.tmps.getD 24 undef = u24 at e
    generalize ac.tmps.getD 25 undef = u25 at e
    generalize ac.tmps.getD 26 undef = u26 at e
    generalize ac.tmps.getD 27 undef = u27 at e
    generalize ac.tmps.getD 28 undef = u28 at e
    generalize ac.tmps.getD 29 undef = u29 at e
    generalize ac.tmps.getD 30 undef = u30 at e
    generalize ac.tmps.getD 31 undef = u31 at e
    generalize ac.tmps.getD 32 undef = u32 at e
    generalize ac.tmps.getD 33 undef = u33 at e
    generalize ac.tmps.getD 34 undef = u34 at e
    generalize ac.tmps.getD 35 undef = u35 at e
    generalize ac.tmps.getD 36 undef = u36 at e
    generalize ac.tmps.getD 37 undef = u37 at e
    generalize ac.tmps.getD 38 undef = u38 at e
    generalize ac.tmps.getD 39 undef = u39 at e
    generalize ac.tmps.getD 40 undef = u40 at e
    generalize ac.tmps.getD 41 undef = u41 at e
    generalize ac.tmps.getD 42 undef = u42 at e
    generalize ac.tmps.getD 43 undef = u43 at e
    generalize ac.tmps.getD 44 undef = u44 at e
    generalize ac.tmps.getD 45 undef = u45 at e
    generalize ac.tmps.getD 46 undef = u46 at e
    generalize ac.tmps.getD 47 undef = u47 at e
    generalize ac.tmps.getD 48 undef = u48 at e
    generalize ac.tmps.getD 49 undef = u49 at e
    generalize ac.tmps.getD 50 undef = u50 at e
    generalize ac.tmps.getD 51 undef = u51 at e
    generalize ac.tmps.getD 52 undef = u52 at e
    generalize ac.tmps.getD 53 undef = u53 at e
    generalize ac.tmps.getD 54 undef = u54 at e
    generalize ac.tmps.getD 55 undef = u55 at e
    generalize ac.tmps.getD 56 undef = u56 at e
    generalize ac.tmps.getD 57 undef = u57 at e
    generalize ac.tmps.getD 58 undef = u58 at e
    generalize ac.tmps.getD 59 undef = u59 at e
    generalize ac.tmps.getD 60 undef = u60 at e
    generalize ac.tmps.getD 61 undef = u61 at e
    generalize ac.tmps.getD 62 undef = u62 at e
    generalize ac.tmps.getD 63 undef = u63 at e
    generalize ac.tmps.getD 64 undef = u64 at e
    generalize ac.tmps.getD 65 undef = u65 at e
    generalize ac.tmps.getD 66 undef = u66 at e
    generalize ac.tmps.getD 67 undef = u67 at e
    generalize ac.tmps.getD 68 undef = u68 at e
    generalize ac.tmps.getD 69 undef = u69 at e
    generalize ac.tmps.getD 70 undef = u70 at e
    generalize ac.tmps.getD 71 undef = u71 at e
    generalize ac.tmps.getD 72 undef = u72 at e
    generalize ac.tmps.getD 73 undef = u73 at e
    generalize ac.tmps.getD 74 undef = u74 at e
    generalize ac.tmps.getD 75 undef = u75 at e
    generalize ac.tmps.getD 79 undef = u79 at e
    generalize ac.tmps.getD 80 undef = u80 at e
    generalize ac.tmps.getD 81 undef = u81 at e
    generalize ac.tmps.getD 82 undef = u82 at e
    generalize ac.tmps.getD 83 undef = u83 at e
    generalize ac.tmps.getD 84 undef = u84 at e
    generalize ac.tmps.getD 85 undef = u85 at e
    generalize ac.tmps.getD 86 undef = u86 at e
    generalize ac.tmps.getD 87 undef = u87 at e
    generalize ac.tmps.getD 88 undef = u88 at e
    generalize ac.tmps.getD 89 undef = u89 at e
    generalize ac.tmps.getD 90 undef = u90 at e
    generalize ac.tmps.getD 91 undef = u91 at e
    generalize ac.tmps.getD 92 undef = u92 at e
    generalize ac.tmps.getD 93 undef = u93 at e
    generalize ac.tmps.getD 94 undef = u94 at e
    generalize ac.tmps.getD 95 undef = u95 at e
    generalize ac.tmps.getD 96 undef = u96 at e
    generalize ac.tmps.getD 97 undef = u97 at e
    generalize ac.tmps.getD 98 undef = u98 at e
    generalize ac.tmps.getD 99 undef = u99 at e
    generalize ac.tmps.getD 100 undef = u100 at e
    generalize ac.tmps.getD 101 undef = u101 at e
    generalize ac.tmps.getD 102 undef = u102 at e
    generalize ac.tmps.getD 103 undef = u103 at e
    generalize ac.tmps.getD 104 undef = u104 at e
    generalize ac.tmps.getD 105 undef = u105 at e
    generalize ac.tmps.getD 106 undef = u106 at e
    generalize ac.tmps.getD 107 undef = u107 at e
    generalize ac.tmps.getD 108 undef = u108 at e
    generalize ac.tmps.getD 109 undef = u109 at e
    generalize ac.tmps.getD 110 undef = u110 at e
    generalize ac.tmps.getD 111 undef = u111 at e
    generalize ac.tmps.getD 112 undef = u112 at e
    generalize ac.tmps.getD 113 undef = u113 at e
    subst e
    have G6 := Lib.hid hG
    have HV := Lib.hid hvb
    have HZ := Lib.hid hbad
    have HL := Lib.hid hvl
    clear hG hvb hbad hvl G5
    go_wp2_with fail
    go_loopw [78] (fun s78 wr => ∃ k : Nat, k ≤ 8 ∧ s78 = .int .i64 k ∧ Hid (Below w6.heap.size w6 wr)) (fun s78 _ => 8 - (intOf s78).toNat)
    case atStart => exact ⟨0, by omega, rfl, Lib.hid (Below.refl _ _)⟩
    case round =>
      obtain ⟨k, hk, rfl, HW⟩ := hrel
      have i3 : (0 : Int) ≤ (k : Int) := by omega
      by_cases hlt : k < 8
      · have hd : decide ((k : Int) < 8) = true := decide_eq_true (by omega)
        have i4 : (k : Int) < 8 := by omega
        obtain ⟨u, hu, A, n, c, l, rfl, hR, hm, hn⟩ := HZ.out k hlt
        have c1 : wr.cell? ⟨g, k, none⟩ = some (.slice A n c) := by
          rw [cell_of_row _ _ k _ _ _ ((HW.out.block _ (row_lt HV.out)).trans HV.out)]
          simpa using hu
        have HM : Hid (Calls Try.prog 9 #[.slice A n c] wr fun e w' => e = .returned (.bool false) ∧ Below wr.heap.size wr w') := Lib.hid (by
          have := may_rows _ l wr (hR.below HW.out) hn
          rwa [hm] at this)
        clear hu hR hm hn
        go_wp2_with fail
        refine (HM.out).mono ?_
        rintro e w7 ⟨rfl, hb⟩
        have B7 := Lib.hid (below_after HW.out hb (Nat.le_refl _))
        clear hb c1 HM HW
        go_wp2_with fail
        go_roundw
        case rel => exact ⟨k + 1, by omega, by go_num, B7⟩
        case measure => simp [intOf]; omega
      · obtain rfl : k = 8 := by omega
        have G7 := Lib.hid (G6.out.step HW.out)
        clear HZ HL HV HW i3 G6
        go_wp2_with fail
        (with_reducible refine (M2.out _).mono ?_)
        rintro e w8 ⟨rfl, hb⟩
        have G8 := Lib.hid (G7.out.step hb)
        clear hb G7
        go_wp2_with fail
        (with_reducible refine (M1.out _ _ G8.out.f).mono ?_)
        rintro e w9 ⟨rfl, hb⟩
        have G9 := Lib.hid (G8.out.step hb)
        clear hb G8
        go_wp2_with fail
        (with_reducible refine (awake_any _).mono ?_)
        rintro e w10 ⟨rfl, hb⟩
        have G10 := Lib.hid (G9.out.step hb)
        clear hb G9
        go_wp2_with fail
        go_ret
        exact ⟨rfl, G10.out.below⟩
end Go.Proofs.Ytofanciaacdjfaa
