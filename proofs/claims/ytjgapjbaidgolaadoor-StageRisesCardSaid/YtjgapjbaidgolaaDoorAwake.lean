/-
  The first question of each statement: the document's examples. No statement is proved in this text.
-/
import Derived.Test.YtjgapjbaidgolaaDoorWalksG
namespace Go.Proofs.YtjgapjbaidgolaaDoor
open Go.RowKit
/-- The slots of the region's operations. -/
def awDs : List (Option Tmp) := [some 7, some 8, some 9, some 10, some 11, some 12, some 13, some 14, some 15, some 16, some 17, some 18, some 19, some 20, some 21, some 22, some 23, some 24, some 25, some 26, some 27, some 28, some 29, some 30, some 31, some 32, some 33, some 34, some 35, some 36, some 37, some 38, some 39, some 40, some 0]
/-- What is said of them. -/
def awF : Nat → Value → World → Prop := fun i v w => match i with
  | 0 => v = .int .u8 4
  | 1 => v = .bool true
  | 2 => v = .bool true
  | 3 => v = .int .u8 0
  | 4 => v = .bool true
  | 5 => v = .bool true
  | 6 => v = .bool true
  | 7 => Rd w v [5, 6, 7]
  | 8 => v = .string (txt [5, 6, 7])
  | 9 => Rd w v [5, 6, 7]
  | 10 => v = .string (txt [5, 6, 7])
  | 11 => v = .bool true
  | 12 => v = .bool true
  | 13 => v = .bool true
  | 14 => Ls w v [[7]]
  | 15 => Rd w v [7]
  | 16 => Ls w v [[7]]
  | 17 => v = .bool true
  | 18 => v = .bool true
  | 19 => v = .bool true
  | 20 => Ls w v [[6, 7], [7]]
  | 21 => Rd w v [6, 7]
  | 22 => Rd w v [7]
  | 23 => Ls w v [[6, 7], [7]]
  | 24 => v = .bool true
  | 25 => v = .bool true
  | 26 => v = .bool true
  | 27 => v = .int .i64 0
  | 28 => v = .bool true
  | 29 => v = .bool true
  | 30 => v = .bool true
  | 31 => v = .int .u8 6
  | 32 => v = .bool true
  | 33 => v = .bool true
  | 34 => v = .bool true
  | _ => True
theorem awF_mono : ∀ i v w w', awF i v w → Below w.heap.size w w' → awF i v w' := by
  intro i v w w' h hb
  unfold awF at h ⊢
  split at h
  all_goals first | exact h | exact h.below hb
theorem parse_lit {s : ByteArray} {k : Nat} {e x : Int} (h : prs s = (k, e)) (hx : x = (k : Int)) (w : World) (ht : Tabs w) : Calls Tryd.prog 8 #[.string s] w fun e' w' => e' = .returned (.tuple #[.int .u8 x, .int .i64 e]) ∧ w = w' :=
  (parse_any s w ht).mono fun e' w' ⟨he, hw⟩ => ⟨by rw [he, h, hx], hw⟩
set_option maxHeartbeats 4000000 in
theorem awake_any (w : World) (ht : Tabs w) : Calls Tryd.prog 12 #[] w fun e w' => e = .returned (.bool true) ∧ Below w.heap.size w w' := by
  have HT := Lib.hid fun w' (hb : Below w.heap.size w w') => tabs_below ht hb
  clear ht
  go_enter Tryd.func12, Tryd.ntmps12
  go_wp2_with (go_at_call 8; refine (parse_lit (k := 6) (e := 0) (x := 6) (by kernel_rfl) rfl _ (HT.out _ (Below.refl _ _))).mono ?_; rintro e w' ⟨rfl, rfl⟩)
  refine wp_region_due (by kernel_rfl) awDs awF (Below w.heap.size w) rfl (by kernel_rfl) (by kernel_rfl) (by kernel_rfl) awF_mono (Below.refl _ _).drew ?_ ?_
  · rename_i _ _ hKK
    clear hKK
    refine AllDue.cons (due_met (.inl rfl) fun a w1 hG hold hf K hK => ?_) ?_
    · clear hf hold
      go_simp
      go_at_call 13
      refine (edge_any 3 4 _ (by decide) (by decide) (HT.out _ hG)).mono ?_
      rintro e w' ⟨rfl, rfl⟩
      exact hK _ _ hG (Below.refl _ _) rfl
    refine AllDue.cons (due_met (.inl rfl) fun a w1 hG hold hf K hK => ?_) ?_
    · have f7 : a.tmps.getD 7 undef = .int .u8 4 := hf 0 7 (by kernel_rfl) rfl
      clear hf hold
      go_simp
      exact hK _ _ hG (Below.refl _ _) rfl
    refine AllDue.cons (due_met (.inl rfl) fun a w1 hG hold hf K hK => ?_) ?_
    · have f8 : a.tmps.getD 8 undef = .bool true := hf 1 8 (by kernel_rfl) rfl
      clear hf hold
      go_simp
      exact hK _ _ hG (Below.refl _ _) rfl
    refine AllDue.cons (due_met (.inr ⟨2, true, 9, rfl, rfl, by kernel_rfl, fun _ _ h => h⟩) fun a w1 hG hold hf K hK => ?_) ?_
    · clear hf hold
      go_simp
      go_at_call 13
      refine (edge_any 3 2 _ (by decide) (by decide) (HT.out _ hG)).mono ?_
      rintro e w' ⟨rfl, rfl⟩
      exact hK _ _ hG (Below.refl _ _) rfl
    refine AllDue.cons (due_met (.inr ⟨2, true, 9, rfl, rfl, by kernel_rfl, fun _ _ h => h⟩) fun a w1 hG hold hf K hK => ?_) ?_
    · have f10 : a.tmps.getD 10 undef = .int .u8 0 := hf 3 10 (by kernel_rfl) rfl
      clear hf hold
      go_simp
      exact hK _ _ hG (Below.refl _ _) rfl
    refine AllDue.cons (due_met (.inl rfl) fun a w1 hG hold hf K hK => ?_) ?_
    · have f9 : a.tmps.getD 9 undef = .bool true := hf 2 9 (by kernel_rfl) rfl
      have f11 : a.tmps.getD 11 undef = .bool true := hf 4 11 (by kernel_rfl) rfl
      clear hf hold
      go_simp
      exact hK _ _ hG (Below.refl _ _) rfl
    refine AllDue.cons (due_met (.inl rfl) fun a w1 hG hold hf K hK => ?_) ?_
    · have f12 : a.tmps.getD 12 undef = .bool true := hf 5 12 (by kernel_rfl) rfl
      clear hf hold
      go_simp
      exact hK _ _ hG (Below.refl _ _) rfl
    refine AllDue.cons (due_met (.inr ⟨6, true, 13, rfl, rfl, by kernel_rfl, fun _ _ h => h⟩) fun a w1 hG hold hf K hK => ?_) ?_
    · clear hf hold
      go_simp
      go_at_call 11
      refine (next_any 4 _ (by decide) (HT.out _ hG)).mono ?_
      rintro e w' ⟨A, c, rfl, h1, h2⟩
      exact hK _ _ (hG.trans (h2.mono hG.size)) h2 (rd_owns h1)
    refine AllDue.cons (due_met (.inr ⟨6, true, 13, rfl, rfl, by kernel_rfl, fun _ _ h => h⟩) fun a w1 hG hold hf K hK => ?_) ?_
    · have r14 : Rd w1 (a.tmps.getD 14 undef) [5, 6, 7] := hf 7 14 (by kernel_rfl) rfl
      obtain ⟨x14, e14⟩ : ∃ x, a.tmps.getD 14 undef = x := ⟨_, rfl⟩
      rw [e14] at r14
      have q14 := e14
      rw [Array.getD_eq_getD_getElem?] at q14
      have c14 := r14.conv
      clear hf hold
      go_simp
      exact hK _ _ hG (Below.refl _ _) rfl
    refine AllDue.cons (due_met (.inr ⟨6, true, 13, rfl, rfl, by kernel_rfl, fun _ _ h => h⟩) fun a w1 hG hold hf K hK => ?_) ?_
    · clear hf hold
      go_simp
      exact hK _ _ (hG.alloc hG.size _) ((Below.refl _ _).alloc (Nat.le_refl _) _) (rd_lit w1 [5, 6, 7] _ rfl (by decide))
    refine AllDue.cons (due_met (.inr ⟨6, true, 13, rfl, rfl, by kernel_rfl, fun _ _ h => h⟩) fun a w1 hG hold hf K hK => ?_) ?_
    · have r16 : Rd w1 (a.tmps.getD 16 undef) [5, 6, 7] := hf 9 16 (by kernel_rfl) rfl
      obtain ⟨x16, e16⟩ : ∃ x, a.tmps.getD 16 undef = x := ⟨_, rfl⟩
      rw [e16] at r16
      have q16 := e16
      rw [Array.getD_eq_getD_getElem?] at q16
      have c16 := r16.conv
      clear hf hold
      go_simp
      exact hK _ _ hG (Below.refl _ _) rfl
    refine AllDue.cons (due_met (.inr ⟨6, true, 13, rfl, rfl, by kernel_rfl, fun _ _ h => h⟩) fun a w1 hG hold hf K hK => ?_) ?_
    · have f15 : a.tmps.getD 15 undef = .string (txt [5, 6, 7]) := hf 8 15 (by kernel_rfl) rfl
      have f17 : a.tmps.getD 17 undef = .string (txt [5, 6, 7]) := hf 10 17 (by kernel_rfl) rfl
      clear hf hold
      go_simp
      exact hK _ _ hG (Below.refl _ _) rfl
    refine AllDue.cons (due_met (.inl rfl) fun a w1 hG hold hf K hK => ?_) ?_
    · have f13 : a.tmps.getD 13 undef = .bool true := hf 6 13 (by kernel_rfl) rfl
      have f18 : a.tmps.getD 18 undef = .bool true := hf 11 18 (by kernel_rfl) rfl
      clear hf hold
      go_simp
      exact hK _ _ hG (Below.refl _ _) rfl
    refine AllDue.cons (due_met (.inl rfl) fun a w1 hG hold hf K hK => ?_) ?_
    · have f19 : a.tmps.getD 19 undef = .bool true := hf 12 19 (by kernel_rfl) rfl
      clear hf hold
      go_simp
      exact hK _ _ hG (Below.refl _ _) rfl
    refine AllDue.cons (due_met (.inr ⟨13, true, 20, rfl, rfl, by kernel_rfl, fun _ _ h => h⟩) fun a w1 hG hold hf K hK => ?_) ?_
    · clear hf hold
      go_simp
      go_at_call 14
      refine (ways_any 6 7 _ (by decide) (HT.out _ hG)).mono ?_
      rintro e w' ⟨A, c, vs, rfl, h1, h2, h3, h4⟩
      exact hK _ _ (hG.trans (h4.mono hG.size)) h4 (ls_gives h1 h2 h3)
    refine AllDue.cons (due_met (.inr ⟨13, true, 20, rfl, rfl, by kernel_rfl, fun _ _ h => h⟩) fun a w1 hG hold hf K hK => ?_) ?_
    · clear hf hold
      go_simp
      exact hK _ _ (hG.alloc hG.size _) ((Below.refl _ _).alloc (Nat.le_refl _) _) (rd_lit w1 [7] _ rfl (by decide))
    refine AllDue.cons (due_met (.inr ⟨13, true, 20, rfl, rfl, by kernel_rfl, fun _ _ h => h⟩) fun a w1 hG hold hf K hK => ?_) ?_
    · have r22 : Rd w1 (a.tmps.getD 22 undef) [7] := hf 15 22 (by kernel_rfl) rfl
      obtain ⟨x22, e22⟩ : ∃ x, a.tmps.getD 22 undef = x := ⟨_, rfl⟩
      rw [e22] at r22
      have q22 := e22
      rw [Array.getD_eq_getD_getElem?] at q22
      obtain ⟨A, c, rfl, h22⟩ := r22
      clear hf hold
      go_simp
      exact hK _ _ (hG.alloc hG.size _) ((Below.refl _ _).alloc (Nat.le_refl _) _) (ls_lit w1 [[7]] [_] (each_cons ⟨A, c, rfl, h22⟩ trivial) (by decide))
    refine AllDue.cons (due_met (.inr ⟨13, true, 20, rfl, rfl, by kernel_rfl, fun _ _ h => h⟩) fun a w1 hG hold hf K hK => ?_) ?_
    · have r21 : Ls w1 (a.tmps.getD 21 undef) [[7]] := hf 14 21 (by kernel_rfl) rfl
      obtain ⟨x21, e21⟩ : ∃ x, a.tmps.getD 21 undef = x := ⟨_, rfl⟩
      rw [e21] at r21
      have q21 := e21
      rw [Array.getD_eq_getD_getElem?] at q21
      have r23 : Ls w1 (a.tmps.getD 23 undef) [[7]] := hf 16 23 (by kernel_rfl) rfl
      obtain ⟨x23, e23⟩ : ∃ x, a.tmps.getD 23 undef = x := ⟨_, rfl⟩
      rw [e23] at r23
      have q23 := e23
      rw [Array.getD_eq_getD_getElem?] at q23
      clear hf hold
      go_simp
      go_at_call 19
      refine (same_yes _ _ [[7]] _ r21 r23 (by decide)).mono ?_
      rintro e w' ⟨rfl, h2⟩
      exact hK _ _ (hG.trans (h2.mono hG.size)) h2 rfl
    refine AllDue.cons (due_met (.inl rfl) fun a w1 hG hold hf K hK => ?_) ?_
    · have f20 : a.tmps.getD 20 undef = .bool true := hf 13 20 (by kernel_rfl) rfl
      have f24 : a.tmps.getD 24 undef = .bool true := hf 17 24 (by kernel_rfl) rfl
      clear hf hold
      go_simp
      exact hK _ _ hG (Below.refl _ _) rfl
    refine AllDue.cons (due_met (.inl rfl) fun a w1 hG hold hf K hK => ?_) ?_
    · have f25 : a.tmps.getD 25 undef = .bool true := hf 18 25 (by kernel_rfl) rfl
      clear hf hold
      go_simp
      exact hK _ _ hG (Below.refl _ _) rfl
    refine AllDue.cons (due_met (.inr ⟨19, true, 26, rfl, rfl, by kernel_rfl, fun _ _ h => h⟩) fun a w1 hG hold hf K hK => ?_) ?_
    · clear hf hold
      go_simp
      go_at_call 14
      refine (ways_any 5 7 _ (by decide) (HT.out _ hG)).mono ?_
      rintro e w' ⟨A, c, vs, rfl, h1, h2, h3, h4⟩
      exact hK _ _ (hG.trans (h4.mono hG.size)) h4 (ls_gives h1 h2 h3)
    refine AllDue.cons (due_met (.inr ⟨19, true, 26, rfl, rfl, by kernel_rfl, fun _ _ h => h⟩) fun a w1 hG hold hf K hK => ?_) ?_
    · clear hf hold
      go_simp
      exact hK _ _ (hG.alloc hG.size _) ((Below.refl _ _).alloc (Nat.le_refl _) _) (rd_lit w1 [6, 7] _ rfl (by decide))
    refine AllDue.cons (due_met (.inr ⟨19, true, 26, rfl, rfl, by kernel_rfl, fun _ _ h => h⟩) fun a w1 hG hold hf K hK => ?_) ?_
    · clear hf hold
      go_simp
      exact hK _ _ (hG.alloc hG.size _) ((Below.refl _ _).alloc (Nat.le_refl _) _) (rd_lit w1 [7] _ rfl (by decide))
    refine AllDue.cons (due_met (.inr ⟨19, true, 26, rfl, rfl, by kernel_rfl, fun _ _ h => h⟩) fun a w1 hG hold hf K hK => ?_) ?_
    · have r28 : Rd w1 (a.tmps.getD 28 undef) [6, 7] := hf 21 28 (by kernel_rfl) rfl
      obtain ⟨x28, e28⟩ : ∃ x, a.tmps.getD 28 undef = x := ⟨_, rfl⟩
      rw [e28] at r28
      have q28 := e28
      rw [Array.getD_eq_getD_getElem?] at q28
      have r29 : Rd w1 (a.tmps.getD 29 undef) [7] := hf 22 29 (by kernel_rfl) rfl
      obtain ⟨x29, e29⟩ : ∃ x, a.tmps.getD 29 undef = x := ⟨_, rfl⟩
      rw [e29] at r29
      have q29 := e29
      rw [Array.getD_eq_getD_getElem?] at q29
      obtain ⟨A, c, rfl, h28⟩ := r28
      obtain ⟨A', c', rfl, h29⟩ := r29
      clear hf hold
      go_simp
      exact hK _ _ (hG.alloc hG.size _) ((Below.refl _ _).alloc (Nat.le_refl _) _) (ls_lit w1 [[6, 7], [7]] [_, _] (each_cons ⟨A, c, rfl, h28⟩ (each_cons ⟨A', c', rfl, h29⟩ trivial)) (by decide))
    refine AllDue.cons (due_met (.inr ⟨19, true, 26, rfl, rfl, by kernel_rfl, fun _ _ h => h⟩) fun a w1 hG hold hf K hK => ?_) ?_
    · have r27 : Ls w1 (a.tmps.getD 27 undef) [[6, 7], [7]] := hf 20 27 (by kernel_rfl) rfl
      obtain ⟨x27, e27⟩ : ∃ x, a.tmps.getD 27 undef = x := ⟨_, rfl⟩
      rw [e27] at r27
      have q27 := e27
      rw [Array.getD_eq_getD_getElem?] at q27
      have r30 : Ls w1 (a.tmps.getD 30 undef) [[6, 7], [7]] := hf 23 30 (by kernel_rfl) rfl
      obtain ⟨x30, e30⟩ : ∃ x, a.tmps.getD 30 undef = x := ⟨_, rfl⟩
      rw [e30] at r30
      have q30 := e30
      rw [Array.getD_eq_getD_getElem?] at q30
      clear hf hold
      go_simp
      go_at_call 19
      refine (same_yes _ _ [[6, 7], [7]] _ r27 r30 (by decide)).mono ?_
      rintro e w' ⟨rfl, h2⟩
      exact hK _ _ (hG.trans (h2.mono hG.size)) h2 rfl
    refine AllDue.cons (due_met (.inl rfl) fun a w1 hG hold hf K hK => ?_) ?_
    · have f26 : a.tmps.getD 26 undef = .bool true := hf 19 26 (by kernel_rfl) rfl
      have f31 : a.tmps.getD 31 undef = .bool true := hf 24 31 (by kernel_rfl) rfl
      clear hf hold
      go_simp
      exact hK _ _ hG (Below.refl _ _) rfl
    refine AllDue.cons (due_met (.inl rfl) fun a w1 hG hold hf K hK => ?_) ?_
    · have f32 : a.tmps.getD 32 undef = .bool true := hf 25 32 (by kernel_rfl) rfl
      clear hf hold
      go_simp
      exact hK _ _ hG (Below.refl _ _) rfl
    refine AllDue.cons (due_met (.inr ⟨26, true, 33, rfl, rfl, by kernel_rfl, fun _ _ h => h⟩) fun a w1 hG hold hf K hK => ?_) ?_
    · have f2 : a.tmps.getD 2 undef = .int .i64 0 := hold 2 (by kernel_rfl)
      clear hf hold
      go_simp
      exact hK _ _ hG (Below.refl _ _) rfl
    refine AllDue.cons (due_met (.inr ⟨26, true, 33, rfl, rfl, by kernel_rfl, fun _ _ h => h⟩) fun a w1 hG hold hf K hK => ?_) ?_
    · have f34 : a.tmps.getD 34 undef = .int .i64 0 := hf 27 34 (by kernel_rfl) rfl
      clear hf hold
      go_simp
      exact hK _ _ hG (Below.refl _ _) rfl
    refine AllDue.cons (due_met (.inl rfl) fun a w1 hG hold hf K hK => ?_) ?_
    · have f33 : a.tmps.getD 33 undef = .bool true := hf 26 33 (by kernel_rfl) rfl
      have f35 : a.tmps.getD 35 undef = .bool true := hf 28 35 (by kernel_rfl) rfl
      clear hf hold
      go_simp
      exact hK _ _ hG (Below.refl _ _) rfl
    refine AllDue.cons (due_met (.inl rfl) fun a w1 hG hold hf K hK => ?_) ?_
    · have f36 : a.tmps.getD 36 undef = .bool true := hf 29 36 (by kernel_rfl) rfl
      clear hf hold
      go_simp
      exact hK _ _ hG (Below.refl _ _) rfl
    refine AllDue.cons (due_met (.inr ⟨30, true, 37, rfl, rfl, by kernel_rfl, fun _ _ h => h⟩) fun a w1 hG hold hf K hK => ?_) ?_
    · have f1 : a.tmps.getD 1 undef = .int .u8 6 := hold 1 (by kernel_rfl)
      clear hf hold
      go_simp
      exact hK _ _ hG (Below.refl _ _) rfl
    refine AllDue.cons (due_met (.inr ⟨30, true, 37, rfl, rfl, by kernel_rfl, fun _ _ h => h⟩) fun a w1 hG hold hf K hK => ?_) ?_
    · have f38 : a.tmps.getD 38 undef = .int .u8 6 := hf 31 38 (by kernel_rfl) rfl
      clear hf hold
      go_simp
      exact hK _ _ hG (Below.refl _ _) rfl
    refine AllDue.cons (due_met (.inl rfl) fun a w1 hG hold hf K hK => ?_) ?_
    · have f37 : a.tmps.getD 37 undef = .bool true := hf 30 37 (by kernel_rfl) rfl
      have f39 : a.tmps.getD 39 undef = .bool true := hf 32 39 (by kernel_rfl) rfl
      clear hf hold
      go_simp
      exact hK _ _ hG (Below.refl _ _) rfl
    refine AllDue.cons (due_met (.inl rfl) fun a w1 hG hold hf K hK => ?_) ?_
    · have f40 : a.tmps.getD 40 undef = .bool true := hf 33 40 (by kernel_rfl) rfl
      clear hf hold
      go_simp
      exact hK _ _ hG (Below.refl _ _) rfl
    exact AllDue.nil
  · intro a w1 hG hd hs hold hf
    have f0 : a.tmps.getD 0 undef = .bool true := hf 34 0 rfl
    clear hf hold
    go_wp2_with fail
    refine bodyPost_ret (results_tmp rfl _ _ _) hd ?_
    exact ⟨by rw [f0], hG⟩
end Go.Proofs.YtjgapjbaidgolaaDoor
