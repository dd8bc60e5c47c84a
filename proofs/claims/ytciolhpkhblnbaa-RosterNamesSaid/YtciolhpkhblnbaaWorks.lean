/-
  The first question of each statement: the document's examples. No statement is proved in this text.
-/
import Derived.Test.YtciolhpkhblnbaaMay
import Derived.Test.YtciolhpkhblnbaaFacts
namespace Go.Proofs.Ytciolhpkhblnbaa
open Go Go.RowKit Ros
/-- A literal of members. -/
theorem ms_lit (W : World) (l : List Mm) : Ms (W.alloc (.cells (flatR encM l).toArray 32)) (.slice (some ⟨W.heap.size, 0, none⟩) l.length l.length) l := rcs_lit encM_len W l _ 32 (by simp)
theorem says_yes (v u t : Value) (a b x : Ls) (w : World) (h : LsAt w v a) (k : LsAt w u b) (j : LsAt w t x) (hm : a.1.length + b.1.length ≤ 40000) (hf : a.2.length + b.2.length ≤ 40000) (hl : (joinL a b).1.length ≤ 100000 ∧ (joinL a b).2.length ≤ 100000) (hx : x.1.length ≤ 100000 ∧ x.2.length ≤ 100000) (he : sameL (joinL a b) x = true) :
    Calls Try.prog 10 #[v, u, t] w fun e w' => e = .returned (.bool true) ∧ Below w.heap.size w w' := by
  have := says_any v u t a b x w h k j hm hf hl hx
  rwa [he] at this
theorem next_six (v : Value) (w : World) (h : Ms w v [((1, 1), 3, 3), ((2, 1), 3, 5)]) : Calls Try.prog 18 #[v] w fun e w' => e = .returned (.int .i64 6) ∧ Below w.heap.size w w' := next_any v _ w h (by decide)
/-- What stands of the world in the examples. -/
def WkG (w : World) (X : Nat) (W : World) : Prop := MBox W X 1 1 3 2 ∧ Below w.heap.size w W
theorem WkG.step {w : World} {X : Nat} {W W' : World} (h : WkG w X W) (hb : Below W.heap.size W W') : WkG w X W' := ⟨mbox_below h.1 hb, below_after h.2 hb (Nat.le_refl _)⟩
/-- The slots of the region's operations. -/
def wkDs : List (Option Tmp) := [some 3, some 4, some 5, some 6, some 7, some 8, some 9, some 10, some 11, some 12, some 13, some 14, some 15, some 16, some 17, some 18, some 19, some 20, some 21, some 22, some 23, some 24, some 25, some 26, some 27, some 28, some 29, some 30, some 31, some 32, some 33, some 34, some 35, some 36, some 37, some 38, some 39, some 40, some 41, some 42, some 43, some 44, some 45, some 46, some 47, some 48, some 49, some 50, some 51, some 52, some 53, some 54, some 0]
/-- What is said of them. -/
def wkF : Nat → Value → World → Prop := fun i v w => match i with
  | 0 => v = .agg #[.int .i64 1, .int .i64 1, .int .u8 3, .int .i64 2]
  | 1 => Ms w v [((1, 1), 3, 2)]
  | 2 => LsAt w v ([((1, 1), 3, 2)], [])
  | 3 => v = .agg #[.int .i64 1, .int .i64 1, .int .u8 1, .int .i64 0]
  | 4 => Ms w v [((1, 1), 1, 0)]
  | 5 => LsAt w v ([((1, 1), 1, 0)], [])
  | 6 => v = .agg #[.int .i64 1, .int .i64 1, .int .u8 3, .int .i64 2]
  | 7 => Ms w v [((1, 1), 3, 2)]
  | 8 => LsAt w v ([((1, 1), 3, 2)], [])
  | 9 => v = .bool true
  | 10 => v = .bool true
  | 11 => v = .agg #[.int .i64 1, .int .i64 1, .int .u8 3, .int .i64 2]
  | 12 => Ms w v [((1, 1), 3, 2)]
  | 13 => LsAt w v ([((1, 1), 3, 2)], [])
  | 14 => v = .agg #[.int .i64 1, .int .i64 2, .int .u8 1, .int .i64 0]
  | 15 => Ms w v [((1, 2), 1, 0)]
  | 16 => LsAt w v ([((1, 2), 1, 0)], [])
  | 17 => v = .agg #[.int .i64 1, .int .i64 2, .int .u8 1, .int .i64 0]
  | 18 => Ms w v [((1, 2), 1, 0)]
  | 19 => Ids w v [(1, 1)]
  | 20 => LsAt w v ([((1, 2), 1, 0)], [(1, 1)])
  | 21 => v = .bool true
  | 22 => v = .bool true
  | 23 => v = .bool true
  | 24 => v = .agg #[.int .i64 1, .int .i64 1, .int .u8 6, .int .i64 0]
  | 25 => Ms w v [((1, 1), 6, 0)]
  | 26 => LsAt w v ([((1, 1), 6, 0)], [])
  | 27 => Ids w v [(1, 1)]
  | 28 => LsAt w v ([], [(1, 1)])
  | 29 => Ids w v [(1, 1)]
  | 30 => LsAt w v ([], [(1, 1)])
  | 31 => v = .bool true
  | 32 => v = .bool true
  | 33 => v = .bool true
  | 34 => v = .agg #[.int .i64 2, .int .i64 1, .int .u8 3, .int .i64 4]
  | 35 => Ms w v [((2, 1), 3, 4)]
  | 36 => LsAt w v ([((2, 1), 3, 4)], [])
  | 37 => v = .agg #[.int .i64 2, .int .i64 1, .int .u8 3, .int .i64 3]
  | 38 => Ms w v [((2, 1), 3, 3)]
  | 39 => LsAt w v ([((2, 1), 3, 3)], [])
  | 40 => v = .agg #[.int .i64 2, .int .i64 1, .int .u8 3, .int .i64 3]
  | 41 => Ms w v [((2, 1), 3, 3)]
  | 42 => LsAt w v ([((2, 1), 3, 3)], [])
  | 43 => v = .bool true
  | 44 => v = .bool true
  | 45 => v = .bool true
  | 46 => v = .agg #[.int .i64 1, .int .i64 1, .int .u8 3, .int .i64 3]
  | 47 => v = .agg #[.int .i64 2, .int .i64 1, .int .u8 3, .int .i64 5]
  | 48 => Ms w v [((1, 1), 3, 3), ((2, 1), 3, 5)]
  | 49 => v = .int .i64 6
  | 50 => v = .bool true
  | 51 => v = .bool true
  | 52 => v = .bool true
  | _ => True
theorem wkF_mono : ∀ i v w w', wkF i v w → Below w.heap.size w w' → wkF i v w' := by
  intro i v w w' h hb
  unfold wkF at h ⊢
  split at h
  all_goals first | exact h | exact h.below hb
set_option maxHeartbeats 16000000 in
set_option maxRecDepth 100000 in
theorem works_any (w : World) : Calls Try.prog 9 #[] w fun e w' => e = .returned (.bool true) ∧ Below w.heap.size w w' := by
  go_enter Try.func9, Try.ntmps9
  go_wp2_with fail
  refine (one_any _ _ _ _ _).mono ?_
  rintro e w1 ⟨rfl, hb⟩
  have HB := Lib.hid hb
  have HG := Lib.hid (show WkG w w1.heap.size (w1.alloc (.cells #[.int .i64 1, .int .i64 1, .int .u8 3, .int .i64 2] 32)).drew from ⟨mbox_new w1 1 1 3 2, below_drewN (n := 1) (below_box hb _ (Nat.le_refl _))⟩)
  obtain ⟨c1, c2, c3, c4⟩ := mbox_cells (mbox_new w1 0 0 0 0)
  obtain ⟨f1, f2, f3, f4⟩ := mbox_free (mbox_new w1 0 0 0 0)
  clear hb
  go_wp2_with fail
  clear c1 c2 c3 c4 f1 f2 f3 f4
  obtain ⟨X, hX⟩ : ∃ X, X = w1.heap.size := ⟨_, rfl⟩
  rw [← hX] at HG
  rw [← hX]
  refine wp_region_due (by kernel_rfl) wkDs wkF (WkG w X) rfl (by kernel_rfl) (by kernel_rfl) (by kernel_rfl) wkF_mono HG.out ?_ ?_
  · clear hX HG HB
    refine AllDue.cons (due_met (.inl rfl) fun a w1 hG hold hf K hK => ?_) ?_
    · have f1 : a.tmps.getD 1 undef = .pointer (some ⟨X, 0, none⟩) := hold 1 (by kernel_rfl)
      obtain ⟨c1, c2, c3, c4⟩ := mbox_cells hG.1
      clear hf hold
      go_simp
      exact hK _ _ hG (Below.refl _ _) rfl
    refine AllDue.cons (due_met (.inl rfl) fun a w1 hG hold hf K hK => ?_) ?_
    · have f3 : a.tmps.getD 3 undef = .agg #[.int .i64 1, .int .i64 1, .int .u8 3, .int .i64 2] := hf 0 3 (by kernel_rfl) rfl
      have q3 := f3
      rw [Array.getD_eq_getD_getElem?] at q3
      clear hf hold
      go_simp
      have h2 := below_one w1 (.cells #[.int .i64 1, .int .i64 1, .int .u8 3, .int .i64 2] 32)
      exact hK _ _ (hG.step h2) h2 (ms_lit w1 [((1, 1), 3, 2)])
    refine AllDue.cons (due_met (.inl rfl) fun a w1 hG hold hf K hK => ?_) ?_
    · have r4 : Ms w1 (a.tmps.getD 4 undef) [((1, 1), 3, 2)] := hf 1 4 (by kernel_rfl) rfl
      obtain ⟨x4, e4⟩ : ∃ x, a.tmps.getD 4 undef = x := ⟨_, rfl⟩
      rw [e4] at r4
      have q4 := e4
      rw [Array.getD_eq_getD_getElem?] at q4
      clear hf hold
      go_simp
      go_at_call 11
      refine (of_any _ _ _ r4).mono ?_
      rintro e w' ⟨V, rfl, h1, h2⟩
      exact hK _ _ (hG.step h2) h2 h1
    refine AllDue.cons (due_met (.inl rfl) fun a w1 hG hold hf K hK => ?_) ?_
    · clear hf hold
      go_simp
      go_at_call 12
      refine (one_any _ _ _ _ _).mono ?_
      rintro e w' ⟨rfl, h2⟩
      exact hK _ _ (hG.step h2) h2 rfl
    refine AllDue.cons (due_met (.inl rfl) fun a w1 hG hold hf K hK => ?_) ?_
    · have f6 : a.tmps.getD 6 undef = .agg #[.int .i64 1, .int .i64 1, .int .u8 1, .int .i64 0] := hf 3 6 (by kernel_rfl) rfl
      have q6 := f6
      rw [Array.getD_eq_getD_getElem?] at q6
      clear hf hold
      go_simp
      have h2 := below_one w1 (.cells #[.int .i64 1, .int .i64 1, .int .u8 1, .int .i64 0] 32)
      exact hK _ _ (hG.step h2) h2 (ms_lit w1 [((1, 1), 1, 0)])
    refine AllDue.cons (due_met (.inl rfl) fun a w1 hG hold hf K hK => ?_) ?_
    · have r7 : Ms w1 (a.tmps.getD 7 undef) [((1, 1), 1, 0)] := hf 4 7 (by kernel_rfl) rfl
      obtain ⟨x7, e7⟩ : ∃ x, a.tmps.getD 7 undef = x := ⟨_, rfl⟩
      rw [e7] at r7
      have q7 := e7
      rw [Array.getD_eq_getD_getElem?] at q7
      clear hf hold
      go_simp
      go_at_call 11
      refine (of_any _ _ _ r7).mono ?_
      rintro e w' ⟨V, rfl, h1, h2⟩
      exact hK _ _ (hG.step h2) h2 h1
    refine AllDue.cons (due_met (.inl rfl) fun a w1 hG hold hf K hK => ?_) ?_
    · have f1 : a.tmps.getD 1 undef = .pointer (some ⟨X, 0, none⟩) := hold 1 (by kernel_rfl)
      obtain ⟨c1, c2, c3, c4⟩ := mbox_cells hG.1
      clear hf hold
      go_simp
      exact hK _ _ hG (Below.refl _ _) rfl
    refine AllDue.cons (due_met (.inl rfl) fun a w1 hG hold hf K hK => ?_) ?_
    · have f9 : a.tmps.getD 9 undef = .agg #[.int .i64 1, .int .i64 1, .int .u8 3, .int .i64 2] := hf 6 9 (by kernel_rfl) rfl
      have q9 := f9
      rw [Array.getD_eq_getD_getElem?] at q9
      clear hf hold
      go_simp
      have h2 := below_one w1 (.cells #[.int .i64 1, .int .i64 1, .int .u8 3, .int .i64 2] 32)
      exact hK _ _ (hG.step h2) h2 (ms_lit w1 [((1, 1), 3, 2)])
    refine AllDue.cons (due_met (.inl rfl) fun a w1 hG hold hf K hK => ?_) ?_
    · have r10 : Ms w1 (a.tmps.getD 10 undef) [((1, 1), 3, 2)] := hf 7 10 (by kernel_rfl) rfl
      obtain ⟨x10, e10⟩ : ∃ x, a.tmps.getD 10 undef = x := ⟨_, rfl⟩
      rw [e10] at r10
      have q10 := e10
      rw [Array.getD_eq_getD_getElem?] at q10
      clear hf hold
      go_simp
      go_at_call 11
      refine (of_any _ _ _ r10).mono ?_
      rintro e w' ⟨V, rfl, h1, h2⟩
      exact hK _ _ (hG.step h2) h2 h1
    refine AllDue.cons (due_met (.inl rfl) fun a w1 hG hold hf K hK => ?_) ?_
    · have r5 : LsAt w1 (a.tmps.getD 5 undef) ([((1, 1), 3, 2)], []) := hf 2 5 (by kernel_rfl) rfl
      obtain ⟨x5, e5⟩ : ∃ x, a.tmps.getD 5 undef = x := ⟨_, rfl⟩
      rw [e5] at r5
      have q5 := e5
      rw [Array.getD_eq_getD_getElem?] at q5
      have r8 : LsAt w1 (a.tmps.getD 8 undef) ([((1, 1), 1, 0)], []) := hf 5 8 (by kernel_rfl) rfl
      obtain ⟨x8, e8⟩ : ∃ x, a.tmps.getD 8 undef = x := ⟨_, rfl⟩
      rw [e8] at r8
      have q8 := e8
      rw [Array.getD_eq_getD_getElem?] at q8
      have r11 : LsAt w1 (a.tmps.getD 11 undef) ([((1, 1), 3, 2)], []) := hf 8 11 (by kernel_rfl) rfl
      obtain ⟨x11, e11⟩ : ∃ x, a.tmps.getD 11 undef = x := ⟨_, rfl⟩
      rw [e11] at r11
      have q11 := e11
      rw [Array.getD_eq_getD_getElem?] at q11
      clear hf hold
      go_simp
      go_at_call 10
      refine (says_yes _ _ _ _ _ _ _ r5 r8 r11 (by decide) (by decide) (by decide +kernel) (by decide) (by decide +kernel)).mono ?_
      rintro e w' ⟨rfl, h2⟩
      exact hK _ _ (hG.step h2) h2 rfl
    refine AllDue.cons (due_met (.inl rfl) fun a w1 hG hold hf K hK => ?_) ?_
    · have f12 : a.tmps.getD 12 undef = .bool true := hf 9 12 (by kernel_rfl) rfl
      have q12 := f12
      rw [Array.getD_eq_getD_getElem?] at q12
      clear hf hold
      go_simp
      exact hK _ _ hG (Below.refl _ _) rfl
    refine AllDue.cons (due_met (.inr ⟨10, true, 13, rfl, rfl, by kernel_rfl, fun _ _ h => h⟩) fun a w1 hG hold hf K hK => ?_) ?_
    · have f1 : a.tmps.getD 1 undef = .pointer (some ⟨X, 0, none⟩) := hold 1 (by kernel_rfl)
      obtain ⟨c1, c2, c3, c4⟩ := mbox_cells hG.1
      clear hf hold
      go_simp
      exact hK _ _ hG (Below.refl _ _) rfl
    refine AllDue.cons (due_met (.inr ⟨10, true, 13, rfl, rfl, by kernel_rfl, fun _ _ h => h⟩) fun a w1 hG hold hf K hK => ?_) ?_
    · have f14 : a.tmps.getD 14 undef = .agg #[.int .i64 1, .int .i64 1, .int .u8 3, .int .i64 2] := hf 11 14 (by kernel_rfl) rfl
      have q14 := f14
      rw [Array.getD_eq_getD_getElem?] at q14
      clear hf hold
      go_simp
      have h2 := below_one w1 (.cells #[.int .i64 1, .int .i64 1, .int .u8 3, .int .i64 2] 32)
      exact hK _ _ (hG.step h2) h2 (ms_lit w1 [((1, 1), 3, 2)])
    refine AllDue.cons (due_met (.inr ⟨10, true, 13, rfl, rfl, by kernel_rfl, fun _ _ h => h⟩) fun a w1 hG hold hf K hK => ?_) ?_
    · have r15 : Ms w1 (a.tmps.getD 15 undef) [((1, 1), 3, 2)] := hf 12 15 (by kernel_rfl) rfl
      obtain ⟨x15, e15⟩ : ∃ x, a.tmps.getD 15 undef = x := ⟨_, rfl⟩
      rw [e15] at r15
      have q15 := e15
      rw [Array.getD_eq_getD_getElem?] at q15
      clear hf hold
      go_simp
      go_at_call 11
      refine (of_any _ _ _ r15).mono ?_
      rintro e w' ⟨V, rfl, h1, h2⟩
      exact hK _ _ (hG.step h2) h2 h1
    refine AllDue.cons (due_met (.inr ⟨10, true, 13, rfl, rfl, by kernel_rfl, fun _ _ h => h⟩) fun a w1 hG hold hf K hK => ?_) ?_
    · clear hf hold
      go_simp
      go_at_call 12
      refine (one_any _ _ _ _ _).mono ?_
      rintro e w' ⟨rfl, h2⟩
      exact hK _ _ (hG.step h2) h2 rfl
    refine AllDue.cons (due_met (.inr ⟨10, true, 13, rfl, rfl, by kernel_rfl, fun _ _ h => h⟩) fun a w1 hG hold hf K hK => ?_) ?_
    · have f17 : a.tmps.getD 17 undef = .agg #[.int .i64 1, .int .i64 2, .int .u8 1, .int .i64 0] := hf 14 17 (by kernel_rfl) rfl
      have q17 := f17
      rw [Array.getD_eq_getD_getElem?] at q17
      clear hf hold
      go_simp
      have h2 := below_one w1 (.cells #[.int .i64 1, .int .i64 2, .int .u8 1, .int .i64 0] 32)
      exact hK _ _ (hG.step h2) h2 (ms_lit w1 [((1, 2), 1, 0)])
    refine AllDue.cons (due_met (.inr ⟨10, true, 13, rfl, rfl, by kernel_rfl, fun _ _ h => h⟩) fun a w1 hG hold hf K hK => ?_) ?_
    · have r18 : Ms w1 (a.tmps.getD 18 undef) [((1, 2), 1, 0)] := hf 15 18 (by kernel_rfl) rfl
      obtain ⟨x18, e18⟩ : ∃ x, a.tmps.getD 18 undef = x := ⟨_, rfl⟩
      rw [e18] at r18
      have q18 := e18
      rw [Array.getD_eq_getD_getElem?] at q18
      clear hf hold
      go_simp
      go_at_call 11
      refine (of_any _ _ _ r18).mono ?_
      rintro e w' ⟨V, rfl, h1, h2⟩
      exact hK _ _ (hG.step h2) h2 h1
    refine AllDue.cons (due_met (.inr ⟨10, true, 13, rfl, rfl, by kernel_rfl, fun _ _ h => h⟩) fun a w1 hG hold hf K hK => ?_) ?_
    · clear hf hold
      go_simp
      go_at_call 12
      refine (one_any _ _ _ _ _).mono ?_
      rintro e w' ⟨rfl, h2⟩
      exact hK _ _ (hG.step h2) h2 rfl
    refine AllDue.cons (due_met (.inr ⟨10, true, 13, rfl, rfl, by kernel_rfl, fun _ _ h => h⟩) fun a w1 hG hold hf K hK => ?_) ?_
    · have f20 : a.tmps.getD 20 undef = .agg #[.int .i64 1, .int .i64 2, .int .u8 1, .int .i64 0] := hf 17 20 (by kernel_rfl) rfl
      have q20 := f20
      rw [Array.getD_eq_getD_getElem?] at q20
      clear hf hold
      go_simp
      have h2 := below_one w1 (.cells #[.int .i64 1, .int .i64 2, .int .u8 1, .int .i64 0] 32)
      exact hK _ _ (hG.step h2) h2 (ms_lit w1 [((1, 2), 1, 0)])
    refine AllDue.cons (due_met (.inr ⟨10, true, 13, rfl, rfl, by kernel_rfl, fun _ _ h => h⟩) fun a w1 hG hold hf K hK => ?_) ?_
    · clear hf hold
      go_simp
      go_at_call 13
      refine (low_any _ _ _).mono ?_
      rintro e w' ⟨V, rfl, h1, h2⟩
      exact hK _ _ (hG.step h2) h2 h1
    refine AllDue.cons (due_met (.inr ⟨10, true, 13, rfl, rfl, by kernel_rfl, fun _ _ h => h⟩) fun a w1 hG hold hf K hK => ?_) ?_
    · have r21 : Ms w1 (a.tmps.getD 21 undef) [((1, 2), 1, 0)] := hf 18 21 (by kernel_rfl) rfl
      obtain ⟨x21, e21⟩ : ∃ x, a.tmps.getD 21 undef = x := ⟨_, rfl⟩
      rw [e21] at r21
      have q21 := e21
      rw [Array.getD_eq_getD_getElem?] at q21
      have r22 : Ids w1 (a.tmps.getD 22 undef) [(1, 1)] := hf 19 22 (by kernel_rfl) rfl
      obtain ⟨x22, e22⟩ : ∃ x, a.tmps.getD 22 undef = x := ⟨_, rfl⟩
      rw [e22] at r22
      have q22 := e22
      rw [Array.getD_eq_getD_getElem?] at q22
      obtain ⟨A0, k0, rfl, -⟩ := id r21
      obtain ⟨A1, k1, rfl, -⟩ := id r22
      clear hf hold
      go_simp
      exact hK _ _ hG (Below.refl _ _) (lsAt_of r21 r22)
    refine AllDue.cons (due_met (.inr ⟨10, true, 13, rfl, rfl, by kernel_rfl, fun _ _ h => h⟩) fun a w1 hG hold hf K hK => ?_) ?_
    · have r16 : LsAt w1 (a.tmps.getD 16 undef) ([((1, 1), 3, 2)], []) := hf 13 16 (by kernel_rfl) rfl
      obtain ⟨x16, e16⟩ : ∃ x, a.tmps.getD 16 undef = x := ⟨_, rfl⟩
      rw [e16] at r16
      have q16 := e16
      rw [Array.getD_eq_getD_getElem?] at q16
      have r19 : LsAt w1 (a.tmps.getD 19 undef) ([((1, 2), 1, 0)], []) := hf 16 19 (by kernel_rfl) rfl
      obtain ⟨x19, e19⟩ : ∃ x, a.tmps.getD 19 undef = x := ⟨_, rfl⟩
      rw [e19] at r19
      have q19 := e19
      rw [Array.getD_eq_getD_getElem?] at q19
      have r23 : LsAt w1 (a.tmps.getD 23 undef) ([((1, 2), 1, 0)], [(1, 1)]) := hf 20 23 (by kernel_rfl) rfl
      obtain ⟨x23, e23⟩ : ∃ x, a.tmps.getD 23 undef = x := ⟨_, rfl⟩
      rw [e23] at r23
      have q23 := e23
      rw [Array.getD_eq_getD_getElem?] at q23
      clear hf hold
      go_simp
      go_at_call 10
      refine (says_yes _ _ _ _ _ _ _ r16 r19 r23 (by decide) (by decide) (by decide +kernel) (by decide) (by decide +kernel)).mono ?_
      rintro e w' ⟨rfl, h2⟩
      exact hK _ _ (hG.step h2) h2 rfl
    refine AllDue.cons (due_met (.inl rfl) fun a w1 hG hold hf K hK => ?_) ?_
    · have f13 : a.tmps.getD 13 undef = .bool true := hf 10 13 (by kernel_rfl) rfl
      have q13 := f13
      rw [Array.getD_eq_getD_getElem?] at q13
      have f24 : a.tmps.getD 24 undef = .bool true := hf 21 24 (by kernel_rfl) rfl
      have q24 := f24
      rw [Array.getD_eq_getD_getElem?] at q24
      clear hf hold
      go_simp
      exact hK _ _ hG (Below.refl _ _) rfl
    refine AllDue.cons (due_met (.inl rfl) fun a w1 hG hold hf K hK => ?_) ?_
    · have f25 : a.tmps.getD 25 undef = .bool true := hf 22 25 (by kernel_rfl) rfl
      have q25 := f25
      rw [Array.getD_eq_getD_getElem?] at q25
      clear hf hold
      go_simp
      exact hK _ _ hG (Below.refl _ _) rfl
    refine AllDue.cons (due_met (.inr ⟨23, true, 26, rfl, rfl, by kernel_rfl, fun _ _ h => h⟩) fun a w1 hG hold hf K hK => ?_) ?_
    · clear hf hold
      go_simp
      go_at_call 12
      refine (one_any _ _ _ _ _).mono ?_
      rintro e w' ⟨rfl, h2⟩
      exact hK _ _ (hG.step h2) h2 rfl
    refine AllDue.cons (due_met (.inr ⟨23, true, 26, rfl, rfl, by kernel_rfl, fun _ _ h => h⟩) fun a w1 hG hold hf K hK => ?_) ?_
    · have f27 : a.tmps.getD 27 undef = .agg #[.int .i64 1, .int .i64 1, .int .u8 6, .int .i64 0] := hf 24 27 (by kernel_rfl) rfl
      have q27 := f27
      rw [Array.getD_eq_getD_getElem?] at q27
      clear hf hold
      go_simp
      have h2 := below_one w1 (.cells #[.int .i64 1, .int .i64 1, .int .u8 6, .int .i64 0] 32)
      exact hK _ _ (hG.step h2) h2 (ms_lit w1 [((1, 1), 6, 0)])
    refine AllDue.cons (due_met (.inr ⟨23, true, 26, rfl, rfl, by kernel_rfl, fun _ _ h => h⟩) fun a w1 hG hold hf K hK => ?_) ?_
    · have r28 : Ms w1 (a.tmps.getD 28 undef) [((1, 1), 6, 0)] := hf 25 28 (by kernel_rfl) rfl
      obtain ⟨x28, e28⟩ : ∃ x, a.tmps.getD 28 undef = x := ⟨_, rfl⟩
      rw [e28] at r28
      have q28 := e28
      rw [Array.getD_eq_getD_getElem?] at q28
      clear hf hold
      go_simp
      go_at_call 11
      refine (of_any _ _ _ r28).mono ?_
      rintro e w' ⟨V, rfl, h1, h2⟩
      exact hK _ _ (hG.step h2) h2 h1
    refine AllDue.cons (due_met (.inr ⟨23, true, 26, rfl, rfl, by kernel_rfl, fun _ _ h => h⟩) fun a w1 hG hold hf K hK => ?_) ?_
    · clear hf hold
      go_simp
      go_at_call 13
      refine (low_any _ _ _).mono ?_
      rintro e w' ⟨V, rfl, h1, h2⟩
      exact hK _ _ (hG.step h2) h2 h1
    refine AllDue.cons (due_met (.inr ⟨23, true, 26, rfl, rfl, by kernel_rfl, fun _ _ h => h⟩) fun a w1 hG hold hf K hK => ?_) ?_
    · have r30 : Ids w1 (a.tmps.getD 30 undef) [(1, 1)] := hf 27 30 (by kernel_rfl) rfl
      obtain ⟨x30, e30⟩ : ∃ x, a.tmps.getD 30 undef = x := ⟨_, rfl⟩
      rw [e30] at r30
      have q30 := e30
      rw [Array.getD_eq_getD_getElem?] at q30
      obtain ⟨A1, k1, rfl, -⟩ := id r30
      clear hf hold
      go_simp
      exact hK _ _ hG (Below.refl _ _) (lsAt_of (Rcs.nil _) r30)
    refine AllDue.cons (due_met (.inr ⟨23, true, 26, rfl, rfl, by kernel_rfl, fun _ _ h => h⟩) fun a w1 hG hold hf K hK => ?_) ?_
    · clear hf hold
      go_simp
      go_at_call 13
      refine (low_any _ _ _).mono ?_
      rintro e w' ⟨V, rfl, h1, h2⟩
      exact hK _ _ (hG.step h2) h2 h1
    refine AllDue.cons (due_met (.inr ⟨23, true, 26, rfl, rfl, by kernel_rfl, fun _ _ h => h⟩) fun a w1 hG hold hf K hK => ?_) ?_
    · have r32 : Ids w1 (a.tmps.getD 32 undef) [(1, 1)] := hf 29 32 (by kernel_rfl) rfl
      obtain ⟨x32, e32⟩ : ∃ x, a.tmps.getD 32 undef = x := ⟨_, rfl⟩
      rw [e32] at r32
      have q32 := e32
      rw [Array.getD_eq_getD_getElem?] at q32
      obtain ⟨A1, k1, rfl, -⟩ := id r32
      clear hf hold
      go_simp
      exact hK _ _ hG (Below.refl _ _) (lsAt_of (Rcs.nil _) r32)
    refine AllDue.cons (due_met (.inr ⟨23, true, 26, rfl, rfl, by kernel_rfl, fun _ _ h => h⟩) fun a w1 hG hold hf K hK => ?_) ?_
    · have r29 : LsAt w1 (a.tmps.getD 29 undef) ([((1, 1), 6, 0)], []) := hf 26 29 (by kernel_rfl) rfl
      obtain ⟨x29, e29⟩ : ∃ x, a.tmps.getD 29 undef = x := ⟨_, rfl⟩
      rw [e29] at r29
      have q29 := e29
      rw [Array.getD_eq_getD_getElem?] at q29
      have r31 : LsAt w1 (a.tmps.getD 31 undef) ([], [(1, 1)]) := hf 28 31 (by kernel_rfl) rfl
      obtain ⟨x31, e31⟩ : ∃ x, a.tmps.getD 31 undef = x := ⟨_, rfl⟩
      rw [e31] at r31
      have q31 := e31
      rw [Array.getD_eq_getD_getElem?] at q31
      have r33 : LsAt w1 (a.tmps.getD 33 undef) ([], [(1, 1)]) := hf 30 33 (by kernel_rfl) rfl
      obtain ⟨x33, e33⟩ : ∃ x, a.tmps.getD 33 undef = x := ⟨_, rfl⟩
      rw [e33] at r33
      have q33 := e33
      rw [Array.getD_eq_getD_getElem?] at q33
      clear hf hold
      go_simp
      go_at_call 10
      refine (says_yes _ _ _ _ _ _ _ r29 r31 r33 (by decide) (by decide) (by decide +kernel) (by decide) (by decide +kernel)).mono ?_
      rintro e w' ⟨rfl, h2⟩
      exact hK _ _ (hG.step h2) h2 rfl
    refine AllDue.cons (due_met (.inl rfl) fun a w1 hG hold hf K hK => ?_) ?_
    · have f26 : a.tmps.getD 26 undef = .bool true := hf 23 26 (by kernel_rfl) rfl
      have q26 := f26
      rw [Array.getD_eq_getD_getElem?] at q26
      have f34 : a.tmps.getD 34 undef = .bool true := hf 31 34 (by kernel_rfl) rfl
      have q34 := f34
      rw [Array.getD_eq_getD_getElem?] at q34
      clear hf hold
      go_simp
      exact hK _ _ hG (Below.refl _ _) rfl
    refine AllDue.cons (due_met (.inl rfl) fun a w1 hG hold hf K hK => ?_) ?_
    · have f35 : a.tmps.getD 35 undef = .bool true := hf 32 35 (by kernel_rfl) rfl
      have q35 := f35
      rw [Array.getD_eq_getD_getElem?] at q35
      clear hf hold
      go_simp
      exact hK _ _ hG (Below.refl _ _) rfl
    refine AllDue.cons (due_met (.inr ⟨33, true, 36, rfl, rfl, by kernel_rfl, fun _ _ h => h⟩) fun a w1 hG hold hf K hK => ?_) ?_
    · clear hf hold
      go_simp
      go_at_call 12
      refine (one_any _ _ _ _ _).mono ?_
      rintro e w' ⟨rfl, h2⟩
      exact hK _ _ (hG.step h2) h2 rfl
    refine AllDue.cons (due_met (.inr ⟨33, true, 36, rfl, rfl, by kernel_rfl, fun _ _ h => h⟩) fun a w1 hG hold hf K hK => ?_) ?_
    · have f37 : a.tmps.getD 37 undef = .agg #[.int .i64 2, .int .i64 1, .int .u8 3, .int .i64 4] := hf 34 37 (by kernel_rfl) rfl
      have q37 := f37
      rw [Array.getD_eq_getD_getElem?] at q37
      clear hf hold
      go_simp
      have h2 := below_one w1 (.cells #[.int .i64 2, .int .i64 1, .int .u8 3, .int .i64 4] 32)
      exact hK _ _ (hG.step h2) h2 (ms_lit w1 [((2, 1), 3, 4)])
    refine AllDue.cons (due_met (.inr ⟨33, true, 36, rfl, rfl, by kernel_rfl, fun _ _ h => h⟩) fun a w1 hG hold hf K hK => ?_) ?_
    · have r38 : Ms w1 (a.tmps.getD 38 undef) [((2, 1), 3, 4)] := hf 35 38 (by kernel_rfl) rfl
      obtain ⟨x38, e38⟩ : ∃ x, a.tmps.getD 38 undef = x := ⟨_, rfl⟩
      rw [e38] at r38
      have q38 := e38
      rw [Array.getD_eq_getD_getElem?] at q38
      clear hf hold
      go_simp
      go_at_call 11
      refine (of_any _ _ _ r38).mono ?_
      rintro e w' ⟨V, rfl, h1, h2⟩
      exact hK _ _ (hG.step h2) h2 h1
    refine AllDue.cons (due_met (.inr ⟨33, true, 36, rfl, rfl, by kernel_rfl, fun _ _ h => h⟩) fun a w1 hG hold hf K hK => ?_) ?_
    · clear hf hold
      go_simp
      go_at_call 12
      refine (one_any _ _ _ _ _).mono ?_
      rintro e w' ⟨rfl, h2⟩
      exact hK _ _ (hG.step h2) h2 rfl
    refine AllDue.cons (due_met (.inr ⟨33, true, 36, rfl, rfl, by kernel_rfl, fun _ _ h => h⟩) fun a w1 hG hold hf K hK => ?_) ?_
    · have f40 : a.tmps.getD 40 undef = .agg #[.int .i64 2, .int .i64 1, .int .u8 3, .int .i64 3] := hf 37 40 (by kernel_rfl) rfl
      have q40 := f40
      rw [Array.getD_eq_getD_getElem?] at q40
      clear hf hold
      go_simp
      have h2 := below_one w1 (.cells #[.int .i64 2, .int .i64 1, .int .u8 3, .int .i64 3] 32)
      exact hK _ _ (hG.step h2) h2 (ms_lit w1 [((2, 1), 3, 3)])
    refine AllDue.cons (due_met (.inr ⟨33, true, 36, rfl, rfl, by kernel_rfl, fun _ _ h => h⟩) fun a w1 hG hold hf K hK => ?_) ?_
    · have r41 : Ms w1 (a.tmps.getD 41 undef) [((2, 1), 3, 3)] := hf 38 41 (by kernel_rfl) rfl
      obtain ⟨x41, e41⟩ : ∃ x, a.tmps.getD 41 undef = x := ⟨_, rfl⟩
      rw [e41] at r41
      have q41 := e41
      rw [Array.getD_eq_getD_getElem?] at q41
      clear hf hold
      go_simp
      go_at_call 11
      refine (of_any _ _ _ r41).mono ?_
      rintro e w' ⟨V, rfl, h1, h2⟩
      exact hK _ _ (hG.step h2) h2 h1
    refine AllDue.cons (due_met (.inr ⟨33, true, 36, rfl, rfl, by kernel_rfl, fun _ _ h => h⟩) fun a w1 hG hold hf K hK => ?_) ?_
    · clear hf hold
      go_simp
      go_at_call 12
      refine (one_any _ _ _ _ _).mono ?_
      rintro e w' ⟨rfl, h2⟩
      exact hK _ _ (hG.step h2) h2 rfl
    refine AllDue.cons (due_met (.inr ⟨33, true, 36, rfl, rfl, by kernel_rfl, fun _ _ h => h⟩) fun a w1 hG hold hf K hK => ?_) ?_
    · have f43 : a.tmps.getD 43 undef = .agg #[.int .i64 2, .int .i64 1, .int .u8 3, .int .i64 3] := hf 40 43 (by kernel_rfl) rfl
      have q43 := f43
      rw [Array.getD_eq_getD_getElem?] at q43
      clear hf hold
      go_simp
      have h2 := below_one w1 (.cells #[.int .i64 2, .int .i64 1, .int .u8 3, .int .i64 3] 32)
      exact hK _ _ (hG.step h2) h2 (ms_lit w1 [((2, 1), 3, 3)])
    refine AllDue.cons (due_met (.inr ⟨33, true, 36, rfl, rfl, by kernel_rfl, fun _ _ h => h⟩) fun a w1 hG hold hf K hK => ?_) ?_
    · have r44 : Ms w1 (a.tmps.getD 44 undef) [((2, 1), 3, 3)] := hf 41 44 (by kernel_rfl) rfl
      obtain ⟨x44, e44⟩ : ∃ x, a.tmps.getD 44 undef = x := ⟨_, rfl⟩
      rw [e44] at r44
      have q44 := e44
      rw [Array.getD_eq_getD_getElem?] at q44
      clear hf hold
      go_simp
      go_at_call 11
      refine (of_any _ _ _ r44).mono ?_
      rintro e w' ⟨V, rfl, h1, h2⟩
      exact hK _ _ (hG.step h2) h2 h1
    refine AllDue.cons (due_met (.inr ⟨33, true, 36, rfl, rfl, by kernel_rfl, fun _ _ h => h⟩) fun a w1 hG hold hf K hK => ?_) ?_
    · have r39 : LsAt w1 (a.tmps.getD 39 undef) ([((2, 1), 3, 4)], []) := hf 36 39 (by kernel_rfl) rfl
      obtain ⟨x39, e39⟩ : ∃ x, a.tmps.getD 39 undef = x := ⟨_, rfl⟩
      rw [e39] at r39
      have q39 := e39
      rw [Array.getD_eq_getD_getElem?] at q39
      have r42 : LsAt w1 (a.tmps.getD 42 undef) ([((2, 1), 3, 3)], []) := hf 39 42 (by kernel_rfl) rfl
      obtain ⟨x42, e42⟩ : ∃ x, a.tmps.getD 42 undef = x := ⟨_, rfl⟩
      rw [e42] at r42
      have q42 := e42
      rw [Array.getD_eq_getD_getElem?] at q42
      have r45 : LsAt w1 (a.tmps.getD 45 undef) ([((2, 1), 3, 3)], []) := hf 42 45 (by kernel_rfl) rfl
      obtain ⟨x45, e45⟩ : ∃ x, a.tmps.getD 45 undef = x := ⟨_, rfl⟩
      rw [e45] at r45
      have q45 := e45
      rw [Array.getD_eq_getD_getElem?] at q45
      clear hf hold
      go_simp
      go_at_call 10
      refine (says_yes _ _ _ _ _ _ _ r39 r42 r45 (by decide) (by decide) (by decide +kernel) (by decide) (by decide +kernel)).mono ?_
      rintro e w' ⟨rfl, h2⟩
      exact hK _ _ (hG.step h2) h2 rfl
    refine AllDue.cons (due_met (.inl rfl) fun a w1 hG hold hf K hK => ?_) ?_
    · have f36 : a.tmps.getD 36 undef = .bool true := hf 33 36 (by kernel_rfl) rfl
      have q36 := f36
      rw [Array.getD_eq_getD_getElem?] at q36
      have f46 : a.tmps.getD 46 undef = .bool true := hf 43 46 (by kernel_rfl) rfl
      have q46 := f46
      rw [Array.getD_eq_getD_getElem?] at q46
      clear hf hold
      go_simp
      exact hK _ _ hG (Below.refl _ _) rfl
    refine AllDue.cons (due_met (.inl rfl) fun a w1 hG hold hf K hK => ?_) ?_
    · have f47 : a.tmps.getD 47 undef = .bool true := hf 44 47 (by kernel_rfl) rfl
      have q47 := f47
      rw [Array.getD_eq_getD_getElem?] at q47
      clear hf hold
      go_simp
      exact hK _ _ hG (Below.refl _ _) rfl
    refine AllDue.cons (due_met (.inr ⟨45, true, 48, rfl, rfl, by kernel_rfl, fun _ _ h => h⟩) fun a w1 hG hold hf K hK => ?_) ?_
    · clear hf hold
      go_simp
      go_at_call 12
      refine (one_any _ _ _ _ _).mono ?_
      rintro e w' ⟨rfl, h2⟩
      exact hK _ _ (hG.step h2) h2 rfl
    refine AllDue.cons (due_met (.inr ⟨45, true, 48, rfl, rfl, by kernel_rfl, fun _ _ h => h⟩) fun a w1 hG hold hf K hK => ?_) ?_
    · clear hf hold
      go_simp
      go_at_call 12
      refine (one_any _ _ _ _ _).mono ?_
      rintro e w' ⟨rfl, h2⟩
      exact hK _ _ (hG.step h2) h2 rfl
    refine AllDue.cons (due_met (.inr ⟨45, true, 48, rfl, rfl, by kernel_rfl, fun _ _ h => h⟩) fun a w1 hG hold hf K hK => ?_) ?_
    · have f49 : a.tmps.getD 49 undef = .agg #[.int .i64 1, .int .i64 1, .int .u8 3, .int .i64 3] := hf 46 49 (by kernel_rfl) rfl
      have q49 := f49
      rw [Array.getD_eq_getD_getElem?] at q49
      have f50 : a.tmps.getD 50 undef = .agg #[.int .i64 2, .int .i64 1, .int .u8 3, .int .i64 5] := hf 47 50 (by kernel_rfl) rfl
      have q50 := f50
      rw [Array.getD_eq_getD_getElem?] at q50
      clear hf hold
      go_simp
      have h2 := below_one w1 (.cells #[.int .i64 1, .int .i64 1, .int .u8 3, .int .i64 3, .int .i64 2, .int .i64 1, .int .u8 3, .int .i64 5] 32)
      exact hK _ _ (hG.step h2) h2 (ms_lit w1 [((1, 1), 3, 3), ((2, 1), 3, 5)])
    refine AllDue.cons (due_met (.inr ⟨45, true, 48, rfl, rfl, by kernel_rfl, fun _ _ h => h⟩) fun a w1 hG hold hf K hK => ?_) ?_
    · have r51 : Ms w1 (a.tmps.getD 51 undef) [((1, 1), 3, 3), ((2, 1), 3, 5)] := hf 48 51 (by kernel_rfl) rfl
      obtain ⟨x51, e51⟩ : ∃ x, a.tmps.getD 51 undef = x := ⟨_, rfl⟩
      rw [e51] at r51
      have q51 := e51
      rw [Array.getD_eq_getD_getElem?] at q51
      clear hf hold
      go_simp
      go_at_call 18
      refine (next_six _ _ r51).mono ?_
      rintro e w' ⟨rfl, h2⟩
      exact hK _ _ (hG.step h2) h2 rfl
    refine AllDue.cons (due_met (.inr ⟨45, true, 48, rfl, rfl, by kernel_rfl, fun _ _ h => h⟩) fun a w1 hG hold hf K hK => ?_) ?_
    · have f52 : a.tmps.getD 52 undef = .int .i64 6 := hf 49 52 (by kernel_rfl) rfl
      have q52 := f52
      rw [Array.getD_eq_getD_getElem?] at q52
      clear hf hold
      go_simp
      exact hK _ _ hG (Below.refl _ _) rfl
    refine AllDue.cons (due_met (.inl rfl) fun a w1 hG hold hf K hK => ?_) ?_
    · have f48 : a.tmps.getD 48 undef = .bool true := hf 45 48 (by kernel_rfl) rfl
      have q48 := f48
      rw [Array.getD_eq_getD_getElem?] at q48
      have f53 : a.tmps.getD 53 undef = .bool true := hf 50 53 (by kernel_rfl) rfl
      have q53 := f53
      rw [Array.getD_eq_getD_getElem?] at q53
      clear hf hold
      go_simp
      exact hK _ _ hG (Below.refl _ _) rfl
    refine AllDue.cons (due_met (.inl rfl) fun a w1 hG hold hf K hK => ?_) ?_
    · have f54 : a.tmps.getD 54 undef = .bool true := hf 51 54 (by kernel_rfl) rfl
      have q54 := f54
      rw [Array.getD_eq_getD_getElem?] at q54
      clear hf hold
      go_simp
      exact hK _ _ hG (Below.refl _ _) rfl
    exact AllDue.nil
  · intro a w2 hG hd hs hold hf
    have f0 : a.tmps.getD 0 undef = .bool true := hf 52 0 rfl
    clear hf hold
    go_wp2_with fail
    refine bodyPost_ret (results_tmp rfl _ _ _) hd ?_
    exact ⟨by rw [f0], hG.2⟩
end Go.Proofs.Ytciolhpkhblnbaa
