/-
  Walks over what is called for each ID of two clocks: that puts down the greater number, and that notes which one is behind; and over Join and Compare. No statement is proved in this text; it holds for every input that its premises let by.
-/
import Derived.Test.YtpmfanglgkohjaaWalksG
namespace Go.Proofs.Ytpmfanglgkohjaa
open Go.RowKit Sets Clocks
theorem max_two (a b : Int) (w : World) : (Builtin.max_ #[3, 3] 3 #[.int .i64 a, .int .i64 b]).run Try.prog w = .ok (.int .i64 (max a b)) w := by
  have h2 : ∀ x y : Int, Builtin.max2 (.int .i64 x) (.int .i64 y) = pure (.int .i64 (max x y)) := by
    intro x y
    show pure (Value.int .i64 (if x < y then y else x)) = _
    by_cases h : x < y
    · rw [if_pos h, show max x y = y by omega]
    · rw [if_neg h, show max x y = x by omega]
  simp [Builtin.max_, h2, List.foldlM, Sem.run_pure]
theorem one_free {w : World} {b : Nat} {v : Value} {T : TypeId} (h : w.heap[b]? = some (.cells #[v] T (0, 0))) : w.cell? ⟨b, 0, none⟩ = some v ∧ w.frozen? ⟨b, 0, none⟩ = false := by
  exact ⟨by simp [World.cell?, h], by simp [World.frozen?, h]⟩
theorem one_set {w : World} {b : Nat} {v : Value} {T : TypeId} (h : w.heap[b]? = some (.cells #[v] T (0, 0))) (u : Value) : (w.setCell ⟨b, 0, none⟩ u).heap[b]? = some (.cells #[u] T (0, 0)) := by
  simp [World.setCell, Array.getElem?_modify, h]
theorem Mid.set {lo hi : Nat} {w w' : World} (h : Mid lo hi w w') {g : Nat} (hg : g < lo) (v : Value) : Mid lo hi w (w'.setCell ⟨g, 0, none⟩ v) :=
  ⟨by rw [World.size_setCell]; exact h.1, fun k h1 h2 => by
    rw [Below.heap_setCell w' ⟨g, 0, none⟩ v k (show k ≠ g by omega)]
    exact h.2 k h1 h2⟩
/-- Both notes of a comparison. -/
def Notes (B : Nat) (w : World) (V : List Visit) : Prop :=
  w.heap[B]? = some (.cells #[.bool (V.any fun e => decide (e.2.1 < e.2.2))] 4 (0, 0)) ∧ w.heap[B + 1]? = some (.cells #[.bool (V.any fun e => decide (e.2.2 < e.2.1))] 4 (0, 0))
theorem Notes.below {B : Nat} {w w' : World} {V : List Visit} (h : Notes B w V) (hb : Below w.heap.size w w') : Notes B w' V :=
  ⟨(hb.block _ (row_lt h.1)).trans h.1, (hb.block _ (row_lt h.2)).trans h.2⟩
set_option maxHeartbeats 2000000 in
theorem note_step (B hi : Nat) (W : World) (V : List Visit) (x y p q : Int) (h : Notes B W V) (h1 : B + 2 ≤ hi) (h2 : hi ≤ W.heap.size) :
    Calls Try.prog 19 #[.agg #[.int .i64 x, .int .i64 y], .int .i64 p, .int .i64 q, .pointer (some ⟨B, 0, none⟩), .pointer (some ⟨B + 1, 0, none⟩)] W fun e w' =>
      e = .returned (.tuple #[]) ∧ Notes B w' (V ++ [((x, y), p, q)]) ∧ Below B W w' ∧ Mid (B + 2) hi W w' := by
  have hb := Lib.hid (show Below W.heap.size W (W.alloc (.cells #[.int .i64 x, .int .i64 y] 28)) from (Below.refl _ _).alloc (Nat.le_refl _) _)
  have N1 := h.below hb.out
  have HM := Lib.hid (mid_below (lo := B + 2) hb.out h2)
  have HB := Lib.hid ((hb.out).mono (show B ≤ W.heap.size by omega))
  have HN : ∀ (b1 b2 : Bool) (w' : World), b1 = ((V.any fun e => decide (e.2.1 < e.2.2)) || decide (p < q)) → b2 = ((V.any fun e => decide (e.2.2 < e.2.1)) || decide (q < p)) →
      w'.heap[B]? = some (.cells #[.bool b1] 4 (0, 0)) → w'.heap[B + 1]? = some (.cells #[.bool b2] 4 (0, 0)) → Notes B w' (V ++ [((x, y), p, q)]) := by
    intro b1 b2 w' e1 e2 k1 k2
    refine ⟨?_, ?_⟩
    · rw [List.any_append, k1, e1]
      simp
    · rw [List.any_append, k2, e2]
      simp
  have HNN := Lib.hid HN
  obtain ⟨m1, m2⟩ := N1
  clear HN h
  generalize (V.any fun e => decide (e.2.1 < e.2.2)) = b1 at *
  generalize (V.any fun e => decide (e.2.2 < e.2.1)) = b2 at *
  have M1 := Lib.hid m1
  have M2 := Lib.hid m2
  obtain ⟨c1, f1⟩ := one_free m1
  obtain ⟨c2, f2⟩ := one_free m2
  clear m1 m2
  have hne : ¬ B = B + 1 := by omega
  cases b1 <;> cases b2
  all_goals
    go_enter Try.func19, Try.ntmps19
    go_wp2_with fail
    go_end0
    refine ⟨rfl, ?_, ?_, ?_⟩
    · refine HNN.out _ _ _ ?_ ?_ (by
        rw [Below.heap_setCell _ _ _ _ (show B ≠ B + 1 by omega)]
        exact one_set M1.out _) (one_set (by
        rw [Below.heap_setCell _ _ _ _ (show B + 1 ≠ B by omega)]
        exact M2.out) _)
      · simp
      · simp
    · exact ((HB.out.setCell (p := ⟨B, 0, none⟩) (Nat.le_refl _) _).setCell (p := ⟨B + 1, 0, none⟩) (Nat.le_succ _) _)
    · exact (HM.out.set (by omega) _).set (by omega) _
theorem note_visits (B : Nat) : Visits 19 #[.pointer (some ⟨B, 0, none⟩), .pointer (some ⟨B + 1, 0, none⟩)] B (B + 2) (fun _ w V => Notes B w V) where
  enters := enters_of Try.func19 (by kernel_rfl) rfl
  kept _ _ _ _ h hb := h.below hb
  step hi W V x y p q h1 h2 h _ := note_step B hi W V x y p q h h1 h2
end Go.Proofs.Ytpmfanglgkohjaa
