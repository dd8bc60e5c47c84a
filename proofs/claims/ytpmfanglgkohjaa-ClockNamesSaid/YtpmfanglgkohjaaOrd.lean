/-
  What the list of ticks is sorted by: IDs first, and of one ID the greater number first. No statement is proved in this text; it holds for every input that its premises let by.
-/
import Derived.Test.YtpmfanglgkohjaaWalksA
import Derived.Test.YtpmfanglgkohjaaFacts
namespace Go.Proofs.Ytpmfanglgkohjaa
open Go.RowKit Sets Clocks
/-- A slice of two numbers. -/
def Pair (w : World) (v : Value) (a b : Int) : Prop := ∃ g, v = .slice (some ⟨g, 0, none⟩) 2 2 ∧ Two w g a b
theorem Pair.below {w w' : World} {v : Value} {a b : Int} (h : Pair w v a b) (hb : Below w.heap.size w w') : Pair w' v a b := by
  obtain ⟨g, hv, ht⟩ := h
  exact ⟨g, hv, (hb.block _ (row_lt ht)).trans ht⟩
theorem pair_lit (w : World) (a b : Int) : Pair (w.alloc (.cells #[.int .i64 a, .int .i64 b] 3)) (.slice (some ⟨w.heap.size, 0, none⟩) 2 2) a b := ⟨_, rfl, heap_alloc_new w _⟩
/-- The slots of the region's operations. -/
def ordDs : List (Option Tmp) := [some 5, some 6, some 7, some 8, some 9, some 10, some 11, some 12, some 13, some 14, some 15, some 16, some 4]
/-- What is said of them. -/
def ordF (a p n b q m : Int) (B : Nat) : Nat → Value → World → Prop := fun i v w => match i with
  | 0 => v = .pointer (some ⟨B, 0, none⟩)
  | 1 => v = .agg #[.int .i64 a, .int .i64 p]
  | 2 => v = .pointer (some ⟨B + 1, 0, none⟩)
  | 3 => v = .agg #[.int .i64 b, .int .i64 q]
  | 4 => v = .int .i64 (cmpZ a p b q)
  | 5 => v = .pointer (some ⟨B + 1, 2, none⟩)
  | 6 => v = .int .i64 m
  | 7 => v = .pointer (some ⟨B, 2, none⟩)
  | 8 => v = .int .i64 n
  | 9 => v = .int .i64 (cmpI m n)
  | 10 => Pair w v (cmpZ a p b q) (cmpI m n)
  | 11 => v = .int .i64 (cmpT ((a, p), n) ((b, q), m))
  | 12 => v = .int .i64 (cmpT ((a, p), n) ((b, q), m))
  | _ => True
theorem ordF_mono (a p n b q m : Int) (B : Nat) : ∀ k v w w', ordF a p n b q m B k v w → Below w.heap.size w w' → ordF a p n b q m B k v w' := by
  intro i v w w' h hb
  unfold ordF at h ⊢
  split at h
  all_goals first | exact h | exact h.below hb
set_option maxHeartbeats 2000000 in
theorem ordT_any (a p n b q m : Int) (w : World) :
    Calls Try.prog 30 #[.agg #[.int .i64 a, .int .i64 p, .int .i64 n], .agg #[.int .i64 b, .int .i64 q, .int .i64 m]] w fun e w' => e = .returned (.int .i64 (cmpT ((a, p), n) ((b, q), m))) ∧ Grew w w' := by
  have HB0 := Lib.hid fun W (h : Grew ((w.alloc (.cells #[.int .i64 a, .int .i64 p, .int .i64 n] 35)).alloc (.cells #[.int .i64 b, .int .i64 q, .int .i64 m] 35)) W) =>
    tbox_cells (tbox_below (tbox_below (tbox_new w a p n) ((Below.refl _ _).alloc (Nat.le_refl _) _)) h.below)
  have HB1 : Hid (∀ W, Grew ((w.alloc (.cells #[.int .i64 a, .int .i64 p, .int .i64 n] 35)).alloc (.cells #[.int .i64 b, .int .i64 q, .int .i64 m] 35)) W → _) := Lib.hid fun W (h : Grew ((w.alloc (.cells #[.int .i64 a, .int .i64 p, .int .i64 n] 35)).alloc (.cells #[.int .i64 b, .int .i64 q, .int .i64 m] 35)) W) =>
    tbox_cells (g := w.heap.size + 1) (tbox_below (by have := tbox_new (w.alloc (.cells #[.int .i64 a, .int .i64 p, .int .i64 n] 35)) b q m; simpa using this) h.below)
  go_enter Try.func30, Try.ntmps30
  go_wp2_with fail
  refine wp_region_due (by kernel_rfl) ordDs (ordF a p n b q m w.heap.size) (Grew ((w.alloc (.cells #[.int .i64 a, .int .i64 p, .int .i64 n] 35)).alloc (.cells #[.int .i64 b, .int .i64 q, .int .i64 m] 35))) rfl (by kernel_rfl) (by kernel_rfl) (by kernel_rfl) (ordF_mono a p n b q m _) (Grew.refl _).drew ?_ ?_
  · skip
    refine AllDue.cons (due_met (.inl rfl) fun act w1 hG hold hf K hK => ?_) ?_
    · have f2 : act.tmps.getD 2 undef = .pointer (some ⟨w.heap.size, 0, none⟩) := hold 2 (by kernel_rfl)
      clear hf hold
      go_simp
      exact hK _ _ hG (Below.refl _ _) rfl
    refine AllDue.cons (due_met (.inl rfl) fun act w1 hG hold hf K hK => ?_) ?_
    · have f5 : act.tmps.getD 5 undef = .pointer (some ⟨w.heap.size, 0, none⟩) := hf 0 5 (by kernel_rfl) rfl
      obtain ⟨c1, c2, c3⟩ := HB0.out _ hG
      clear hf hold
      go_simp
      exact hK _ _ hG (Below.refl _ _) rfl
    refine AllDue.cons (due_met (.inl rfl) fun act w1 hG hold hf K hK => ?_) ?_
    · have f3 : act.tmps.getD 3 undef = .pointer (some ⟨w.heap.size + 1, 0, none⟩) := hold 3 (by kernel_rfl)
      clear hf hold
      go_simp
      exact hK _ _ hG (Below.refl _ _) rfl
    refine AllDue.cons (due_met (.inl rfl) fun act w1 hG hold hf K hK => ?_) ?_
    · have f7 : act.tmps.getD 7 undef = .pointer (some ⟨w.heap.size + 1, 0, none⟩) := hf 2 7 (by kernel_rfl) rfl
      obtain ⟨c1, c2, c3⟩ := HB1.out _ hG
      clear hf hold
      go_simp
      exact hK _ _ hG (Below.refl _ _) rfl
    refine AllDue.cons (due_met (.inl rfl) fun act w1 hG hold hf K hK => ?_) ?_
    · have f6 : act.tmps.getD 6 undef = .agg #[.int .i64 a, .int .i64 p] := hf 1 6 (by kernel_rfl) rfl
      have f8 : act.tmps.getD 8 undef = .agg #[.int .i64 b, .int .i64 q] := hf 3 8 (by kernel_rfl) rfl
      clear hf hold
      go_simp
      go_at_call 32
      refine (compare_grew _ _ _ _ _).mono ?_
      rintro e w' ⟨rfl, h2⟩
      exact hK _ _ (Grew.trans hG h2) h2.below rfl
    refine AllDue.cons (due_met (.inl rfl) fun act w1 hG hold hf K hK => ?_) ?_
    · have f3 : act.tmps.getD 3 undef = .pointer (some ⟨w.heap.size + 1, 0, none⟩) := hold 3 (by kernel_rfl)
      clear hf hold
      go_simp
      exact hK _ _ hG (Below.refl _ _) rfl
    refine AllDue.cons (due_met (.inl rfl) fun act w1 hG hold hf K hK => ?_) ?_
    · have f10 : act.tmps.getD 10 undef = .pointer (some ⟨w.heap.size + 1, 2, none⟩) := hf 5 10 (by kernel_rfl) rfl
      obtain ⟨c1, c2, c3⟩ := HB1.out _ hG
      clear hf hold
      go_simp
      exact hK _ _ hG (Below.refl _ _) rfl
    refine AllDue.cons (due_met (.inl rfl) fun act w1 hG hold hf K hK => ?_) ?_
    · have f2 : act.tmps.getD 2 undef = .pointer (some ⟨w.heap.size, 0, none⟩) := hold 2 (by kernel_rfl)
      clear hf hold
      go_simp
      exact hK _ _ hG (Below.refl _ _) rfl
    refine AllDue.cons (due_met (.inl rfl) fun act w1 hG hold hf K hK => ?_) ?_
    · have f12 : act.tmps.getD 12 undef = .pointer (some ⟨w.heap.size, 2, none⟩) := hf 7 12 (by kernel_rfl) rfl
      obtain ⟨c1, c2, c3⟩ := HB0.out _ hG
      clear hf hold
      go_simp
      exact hK _ _ hG (Below.refl _ _) rfl
    refine AllDue.cons (due_met (.inl rfl) fun act w1 hG hold hf K hK => ?_) ?_
    · have f11 : act.tmps.getD 11 undef = .int .i64 m := hf 6 11 (by kernel_rfl) rfl
      have f13 : act.tmps.getD 13 undef = .int .i64 n := hf 8 13 (by kernel_rfl) rfl
      clear hf hold
      go_simp
      go_at_call 33
      refine (cmpI_any _ _ _).mono ?_
      rintro e w' ⟨rfl, rfl⟩
      exact hK _ _ hG (Below.refl _ _) rfl
    refine AllDue.cons (due_met (.inl rfl) fun act w1 hG hold hf K hK => ?_) ?_
    · have f9 : act.tmps.getD 9 undef = .int .i64 (cmpZ a p b q) := hf 4 9 (by kernel_rfl) rfl
      have f14 : act.tmps.getD 14 undef = .int .i64 (cmpI m n) := hf 9 14 (by kernel_rfl) rfl
      have q9 := f9
      rw [Array.getD_eq_getD_getElem?] at q9
      have q14 := f14
      rw [Array.getD_eq_getD_getElem?] at q14
      clear hf hold
      go_simp
      exact hK _ _ (Grew.alloc hG _) ((Below.refl _ _).alloc (Nat.le_refl _) _) (pair_lit w1 _ _)
    refine AllDue.cons (due_met (.inl rfl) fun act w1 hG hold hf K hK => ?_) ?_
    · have r15 : Pair w1 (act.tmps.getD 15 undef) (cmpZ a p b q) (cmpI m n) := hf 10 15 (by kernel_rfl) rfl
      obtain ⟨x15, e15⟩ : ∃ x, act.tmps.getD 15 undef = x := ⟨_, rfl⟩
      rw [e15] at r15
      have q15 := e15
      rw [Array.getD_eq_getD_getElem?] at q15
      obtain ⟨g, rfl, ht⟩ := r15
      clear hf hold
      go_simp
      go_at_call 31
      refine (or_any g _ _ _ ht).mono ?_
      rintro e w' ⟨rfl, rfl⟩
      exact hK _ _ hG (Below.refl _ _) rfl
    refine AllDue.cons (due_met (.inl rfl) fun act w1 hG hold hf K hK => ?_) ?_
    · have f16 : act.tmps.getD 16 undef = .int .i64 (cmpT ((a, p), n) ((b, q), m)) := hf 11 16 (by kernel_rfl) rfl
      clear hf hold
      go_simp
      exact hK _ _ hG (Below.refl _ _) rfl
    exact AllDue.nil
  · intro act w1 hG hd hs hold hf
    have f4 : act.tmps.getD 4 undef = .int .i64 (cmpT ((a, p), n) ((b, q), m)) := hf 12 4 rfl
    clear hf hold
    go_wp2_with fail
    refine bodyPost_ret (results_tmp rfl _ _ _) hd ?_
    exact ⟨by rw [f4], (grew_two w _ _).trans hG⟩
end Go.Proofs.Ytpmfanglgkohjaa
