/-
  The stage's theorem, walked: Join of any three lists of members and floors. No statement is proved in this text.
-/
import Derived.Test.YtciolhpkhblnbaaLaws
namespace Go.Proofs.Ytciolhpkhblnbaa
open Go Go.RowKit Ros
/-- What stands of the world. -/
structure RwG (w : World) (GA GB GC GX : Nat) (la lb lc : Ls) (W : World) : Prop where
  ha : HoldsL W GA la
  hb : HoldsL W GB lb
  hc : HoldsL W GC lc
  hx : HoldsL W GX (joinL la lb)
  below : Below w.heap.size w W
theorem RwG.step {w : World} {GA GB GC GX : Nat} {la lb lc : Ls} {W W' : World} (h : RwG w GA GB GC GX la lb lc W) (hb : Below W.heap.size W W') : RwG w GA GB GC GX la lb lc W' := ⟨h.ha.below hb, h.hb.below hb, h.hc.below hb, h.hx.below hb, below_after h.below hb (Nat.le_refl _)⟩
/-- The slots of the region's operations. -/
def rw4Ds : List (Option Tmp) := [some 21, some 22, some 23, some 24, some 25, some 26, some 27, some 28, some 29, some 30, some 31, some 32, some 33, some 34, some 35, some 36, some 37, some 38, some 39, some 40, some 41, some 42, some 43, some 44, some 45, some 46, some 47, some 48, some 49, some 50, some 51, some 52, some 53, some 54]
/-- What is said of them. -/
def rw4F (_ _ _ _ : Nat) (la lb lc : Ls) : Nat → Value → World → Prop := fun i v w => match i with
  | 0 => LsAt w v (joinL la lb)
  | 1 => LsAt w v (lb)
  | 2 => LsAt w v (la)
  | 3 => LsAt w v (joinL lb la)
  | 4 => v = .bool true
  | 5 => v = .bool false
  | 6 => v = .bool false
  | 7 => LsAt w v (joinL la lb)
  | 8 => LsAt w v (lc)
  | 9 => LsAt w v (joinL (joinL la lb) lc)
  | 10 => LsAt w v (la)
  | 11 => LsAt w v (lb)
  | 12 => LsAt w v (lc)
  | 13 => LsAt w v (joinL lb lc)
  | 14 => LsAt w v (joinL la (joinL lb lc))
  | 15 => v = .bool true
  | 16 => v = .bool false
  | 17 => v = .bool false
  | 18 => v = .bool false
  | 19 => LsAt w v (joinL la lb)
  | 20 => LsAt w v (la)
  | 21 => LsAt w v (joinL (joinL la lb) la)
  | 22 => LsAt w v (joinL la lb)
  | 23 => v = .bool true
  | 24 => v = .bool false
  | 25 => v = .bool false
  | 26 => v = .bool false
  | 27 => LsAt w v (joinL la lb)
  | 28 => LsAt w v (joinL la lb)
  | 29 => LsAt w v (joinL (joinL la lb) (joinL la lb))
  | 30 => LsAt w v (joinL la lb)
  | 31 => v = .bool true
  | 32 => v = .bool false
  | 33 => v = .bool false
  | _ => True
theorem rw4F_mono (GA GB GC GX : Nat) (la lb lc : Ls) : ∀ i v w w', rw4F GA GB GC GX la lb lc i v w → Below w.heap.size w w' → rw4F GA GB GC GX la lb lc i v w' := by
  intro i v w w' h hb
  unfold rw4F at h ⊢
  split at h
  all_goals first | exact h | exact h.below hb
/-- The slots of the region's operations. -/
def rw6tDs : List (Option Tmp) := [some 55, some 56, some 57, some 58, some 59, some 60, some 61, some 62, some 63, some 64, some 65, some 66, some 67, some 68, some 69, some 70, some 71, some 72, some 73, some 74, some 6]
/-- What is said of them. -/
def rw6tF (GA _ _ _ : Nat) (la _ _ : Ls) : Nat → Value → World → Prop := fun i v w => match i with
  | 0 => v = .pointer (some ⟨GA, 0, none⟩)
  | 1 => Ms w v (la).1
  | 2 => v = .pointer (some ⟨GA, 1, none⟩)
  | 3 => Ids w v (la).2
  | 4 => v = .bool true
  | 5 => v = .bool false
  | 6 => v = .bool false
  | 7 => LsAt w v (la)
  | 8 => LsAt w v (la)
  | 9 => LsAt w v (joinL la la)
  | 10 => LsAt w v (la)
  | 11 => v = .bool true
  | 12 => v = .bool true
  | 13 => LsAt w v (la)
  | 14 => LsAt w v ([], [])
  | 15 => LsAt w v (joinL la ([], []))
  | 16 => LsAt w v (la)
  | 17 => v = .bool true
  | 18 => v = .bool true
  | 19 => v = .bool true
  | 20 => v = .bool true
  | _ => True
theorem rw6tF_mono (GA GB GC GX : Nat) (la lb lc : Ls) : ∀ i v w w', rw6tF GA GB GC GX la lb lc i v w → Below w.heap.size w w' → rw6tF GA GB GC GX la lb lc i v w' := by
  intro i v w w' h hb
  unfold rw6tF at h ⊢
  split at h
  all_goals first | exact h | exact h.below hb
/-- The slots of the region's operations. -/
def rw6fDs : List (Option Tmp) := [some 55, some 56, some 57, some 58, some 59, some 60, some 61, some 62, some 63, some 64, some 65, some 66, some 67, some 68, some 69, some 70, some 71, some 72, some 73, some 74, some 6]
/-- What is said of them. -/
def rw6fF (GA _ _ _ : Nat) (la _ _ : Ls) : Nat → Value → World → Prop := fun i v w => match i with
  | 0 => v = .pointer (some ⟨GA, 0, none⟩)
  | 1 => Ms w v (la).1
  | 2 => v = .pointer (some ⟨GA, 1, none⟩)
  | 3 => Ids w v (la).2
  | 4 => v = .bool false
  | 5 => v = .bool true
  | 6 => v = .bool true
  | 7 => v = undef
  | 8 => v = undef
  | 9 => v = undef
  | 10 => v = undef
  | 11 => v = undef
  | 12 => v = undef
  | 13 => v = undef
  | 14 => v = undef
  | 15 => v = undef
  | 16 => v = undef
  | 17 => v = undef
  | 18 => v = undef
  | 19 => v = .bool true
  | 20 => v = .bool true
  | _ => True
theorem rw6fF_mono (GA GB GC GX : Nat) (la lb lc : Ls) : ∀ i v w w', rw6fF GA GB GC GX la lb lc i v w → Below w.heap.size w w' → rw6fF GA GB GC GX la lb lc i v w' := by
  intro i v w w' h hb
  unfold rw6fF at h ⊢
  split at h
  all_goals first | exact h | exact h.below hb
set_option maxHeartbeats 16000000 in
set_option maxRecDepth 100000 in
theorem rosterRow_any (v0 : Value) (la : Ls) (v1 : Value) (lb : Ls) (v2 : Value) (lc : Ls) (w : World) (h0 : LsAt w v0 la) (h1 : LsAt w v1 lb) (h2 : LsAt w v2 lc) :
    Calls Try.prog 4 #[v0, v1, v2] w fun e w' => e = .returned (.bool true) ∧ Below w.heap.size w w' := by
  obtain ⟨A0, c0, B0, d0, rfl, m0, i0⟩ := h0
  obtain ⟨A1, c1, B1, d1, rfl, m1, i1⟩ := h1
  obtain ⟨A2, c2, B2, d2, rfl, m2, i2⟩ := h2
  have q0 := below_one w (.cells #[.slice A0 la.1.length c0, .slice B0 la.2.length d0] 27)
  have q1 := below_one (w.alloc (.cells #[.slice A0 la.1.length c0, .slice B0 la.2.length d0] 27)) (.cells #[.slice A1 lb.1.length c1, .slice B1 lb.2.length d1] 27)
  have q2 := below_one ((w.alloc (.cells #[.slice A0 la.1.length c0, .slice B0 la.2.length d0] 27)).alloc (.cells #[.slice A1 lb.1.length c1, .slice B1 lb.2.length d1] 27)) (.cells #[.slice A2 lc.1.length c2, .slice B2 lc.2.length d2] 27)
  have Q := below_after (below_after q0 q1 (Nat.le_refl _)) q2 (Nat.le_refl _)
  have HG0 : Hid (HoldsL (((w.alloc (.cells #[.slice A0 la.1.length c0, .slice B0 la.2.length d0] 27)).alloc (.cells #[.slice A1 lb.1.length c1, .slice B1 lb.2.length d1] 27)).alloc (.cells #[.slice A2 lc.1.length c2, .slice B2 lc.2.length d2] 27)) w.heap.size la ∧ HoldsL (((w.alloc (.cells #[.slice A0 la.1.length c0, .slice B0 la.2.length d0] 27)).alloc (.cells #[.slice A1 lb.1.length c1, .slice B1 lb.2.length d1] 27)).alloc (.cells #[.slice A2 lc.1.length c2, .slice B2 lc.2.length d2] 27)) (w.heap.size + 1) lb ∧ HoldsL (((w.alloc (.cells #[.slice A0 la.1.length c0, .slice B0 la.2.length d0] 27)).alloc (.cells #[.slice A1 lb.1.length c1, .slice B1 lb.2.length d1] 27)).alloc (.cells #[.slice A2 lc.1.length c2, .slice B2 lc.2.length d2] 27)) (w.heap.size + 1 + 1) lc ∧ Below w.heap.size w (((w.alloc (.cells #[.slice A0 la.1.length c0, .slice B0 la.2.length d0] 27)).alloc (.cells #[.slice A1 lb.1.length c1, .slice B1 lb.2.length d1] 27)).alloc (.cells #[.slice A2 lc.1.length c2, .slice B2 lc.2.length d2] 27))) := Lib.hid ⟨((holdsL_new m0 i0).below q1).below q2, by simpa using (holdsL_new (m1.below q0) (i1.below q0)).below q2, by simpa using holdsL_new ((m2.below q0).below q1) ((i2.below q0).below q1), Q⟩
  clear q0 q1 q2 Q m0 i0 m1 i1 m2 i2
  go_enter Try.func4, Try.ntmps4
  go_wp2_with fail
  generalize ((w.alloc (.cells #[.slice A0 la.1.length c0, .slice B0 la.2.length d0] 27)).alloc (.cells #[.slice A1 lb.1.length c1, .slice B1 lb.2.length d1] 27)).alloc (.cells #[.slice A2 lc.1.length c2, .slice B2 lc.2.length d2] 27) = w1 at *
  obtain ⟨GA, hGA⟩ : ∃ g, g = w.heap.size := ⟨_, rfl⟩
  obtain ⟨GB, hGB⟩ : ∃ g, g = w.heap.size + 1 := ⟨_, rfl⟩
  obtain ⟨GC, hGC⟩ : ∃ g, g = w.heap.size + 1 + 1 := ⟨_, rfl⟩
  have QB := Lib.hid HG0.out.2.2.2
  rw [← hGC, ← hGB, ← hGA] at HG0
  rw [← hGC, ← hGB, ← hGA]
  have HS : Hid (GA = w.heap.size) := Lib.hid hGA
  clear hGA hGB hGC
  refine (works_any _).mono ?_
  rintro e w2 ⟨rfl, hb⟩
  have G1 := Lib.hid (And.intro (HG0.out.1.below hb) (And.intro (HG0.out.2.1.below hb) (And.intro (HG0.out.2.2.1.below hb) (below_after QB.out hb (Nat.le_refl _)))))
  clear HG0 hb QB
  obtain ⟨⟨A0, c0, B0, d0, x0, -, -⟩, ⟨A1, c1, B1, d1, x1, -, -⟩, ⟨A2, c2, B2, d2, x2, -, -⟩, -⟩ := id G1.out
  obtain ⟨p0, r0⟩ := lbox_cells x0
  obtain ⟨p1, r1⟩ := lbox_cells x1
  obtain ⟨p2, r2⟩ := lbox_cells x2
  clear x0 x1 x2
  have HLg := Lib.hid fun W => large_three W A0 c0 B0 d0 la A1 c1 B1 d1 lb A2 c2 B2 d2 lc
  go_wp2_with fail
  (with_reducible refine (HLg.out _).mono ?_)
  rintro e w3 ⟨rfl, hb⟩
  have G3 := Lib.hid (And.intro (G1.out.1.below hb) (And.intro (G1.out.2.1.below hb) (And.intro (G1.out.2.2.1.below hb) (below_after G1.out.2.2.2 hb (Nat.le_refl _)))))
  clear hb p0 r0 p1 r1 p2 r2 HLg G1
  rcases hbig : bigL la || bigL lb || bigL lc with _ | _
  · rw [Bool.or_eq_false_iff, Bool.or_eq_false_iff] at hbig
    have HA := Lib.hid (lenOk_of hbig.1.1)
    have HB := Lib.hid (lenOk_of hbig.1.2)
    have HC := Lib.hid (lenOk_of hbig.2)
    clear hbig
    obtain ⟨⟨A0', c0', B0', d0', x0, y0, z0⟩, ⟨A1', c1', B1', d1', x1, y1, z1⟩, -, -⟩ := id G3.out
    obtain ⟨p0, r0⟩ := lbox_cells x0
    obtain ⟨p1, r1⟩ := lbox_cells x1
    have L0 := Lib.hid (lsAt_of y0 z0)
    have L1 := Lib.hid (lsAt_of y1 z1)
    clear x0 x1 y0 y1 z0 z1
    go_wp2_with fail
    (with_reducible refine (join_ok _ _ la lb _ L0.out L1.out HA.out HB.out).mono ?_)
    rintro e w4 ⟨V, rfl, hV, hb⟩
    obtain ⟨A3, c3, B3, d3, rfl, m3, i3⟩ := hV
    have q4 := below_one w4 (.cells #[.slice A3 (joinL la lb).1.length c3, .slice B3 (joinL la lb).2.length d3] 27)
    obtain ⟨GX, hGX⟩ : ∃ g, g = w4.heap.size := ⟨_, rfl⟩
    have G4 : Hid (RwG w GA GB GC GX la lb lc (w4.alloc (.cells #[.slice A3 (joinL la lb).1.length c3, .slice B3 (joinL la lb).2.length d3] 27))) := Lib.hid ⟨(G3.out.1.below hb).below q4, (G3.out.2.1.below hb).below q4, (G3.out.2.2.1.below hb).below q4, hGX ▸ holdsL_new m3 i3, below_after (below_after G3.out.2.2.2 hb (Nat.le_refl _)) q4 (Nat.le_refl _)⟩
    obtain ⟨k1, k2⟩ := lbox_cells (lbox_new w4 (.slice none 0 0) (.slice none 0 0))
    obtain ⟨f1, f2⟩ := lbox_free (lbox_new w4 (.slice none 0 0) (.slice none 0 0))
    clear hb p0 r0 p1 r1 L0 L1 m3 i3 q4
    go_wp2_with fail
    clear k1 k2 f1 f2 G3
    rw [← hGX]
    generalize w4.alloc (.cells #[.slice A3 (joinL la lb).1.length c3, .slice B3 (joinL la lb).2.length d3] 27) = w5 at *
    clear hGX HS
    refine wp_region_due (by kernel_rfl) rw4Ds (rw4F GA GB GC GX la lb lc) (RwG w GA GB GC GX la lb lc) rfl (by kernel_rfl) (by kernel_rfl) (by kernel_rfl) (rw4F_mono GA GB GC GX la lb lc) (G4.out.step (below_drewN (n := 1) (Below.refl _ _))) ?_ ?_
    · clear G4
      refine AllDue.cons (due_met (.inl rfl) fun a w1 hG hold hf K hK => ?_) ?_
      · have f7 : a.tmps.getD 7 undef = .pointer (some ⟨GX, 0, none⟩) := hold 7 (by kernel_rfl)
        obtain ⟨A, c, B, d, hb, hm, hi⟩ := hG.hx
        obtain ⟨c1, c2⟩ := lbox_cells hb
        clear hf hold
        go_simp
        exact hK _ _ hG (Below.refl _ _) (lsAt_of hm hi)
      refine AllDue.cons (due_met (.inl rfl) fun a w1 hG hold hf K hK => ?_) ?_
      · have f4 : a.tmps.getD 4 undef = .pointer (some ⟨GB, 0, none⟩) := hold 4 (by kernel_rfl)
        obtain ⟨A, c, B, d, hb, hm, hi⟩ := hG.hb
        obtain ⟨c1, c2⟩ := lbox_cells hb
        clear hf hold
        go_simp
        exact hK _ _ hG (Below.refl _ _) (lsAt_of hm hi)
      refine AllDue.cons (due_met (.inl rfl) fun a w1 hG hold hf K hK => ?_) ?_
      · have f3 : a.tmps.getD 3 undef = .pointer (some ⟨GA, 0, none⟩) := hold 3 (by kernel_rfl)
        obtain ⟨A, c, B, d, hb, hm, hi⟩ := hG.ha
        obtain ⟨c1, c2⟩ := lbox_cells hb
        clear hf hold
        go_simp
        exact hK _ _ hG (Below.refl _ _) (lsAt_of hm hi)
      refine AllDue.cons (due_met (.inl rfl) fun a w1 hG hold hf K hK => ?_) ?_
      · have r22 : LsAt w1 (a.tmps.getD 22 undef) (lb) := hf 1 22 (by kernel_rfl) rfl
        obtain ⟨x22, e22⟩ : ∃ x, a.tmps.getD 22 undef = x := ⟨_, rfl⟩
        rw [e22] at r22
        have q22 := e22
        rw [Array.getD_eq_getD_getElem?] at q22
        have r23 : LsAt w1 (a.tmps.getD 23 undef) (la) := hf 2 23 (by kernel_rfl) rfl
        obtain ⟨x23, e23⟩ : ∃ x, a.tmps.getD 23 undef = x := ⟨_, rfl⟩
        rw [e23] at r23
        have q23 := e23
        rw [Array.getD_eq_getD_getElem?] at q23
        clear hf hold
        go_simp
        go_at_call 22
        refine (join_ok _ _ _ _ _ r22 r23 HB.out HA.out).mono ?_
        rintro e w' ⟨V, rfl, h1, h2⟩
        exact hK _ _ (hG.step h2) h2 h1
      refine AllDue.cons (due_met (.inl rfl) fun a w1 hG hold hf K hK => ?_) ?_
      · have r21 : LsAt w1 (a.tmps.getD 21 undef) (joinL la lb) := hf 0 21 (by kernel_rfl) rfl
        obtain ⟨x21, e21⟩ : ∃ x, a.tmps.getD 21 undef = x := ⟨_, rfl⟩
        rw [e21] at r21
        have q21 := e21
        rw [Array.getD_eq_getD_getElem?] at q21
        have r24 : LsAt w1 (a.tmps.getD 24 undef) (joinL lb la) := hf 3 24 (by kernel_rfl) rfl
        obtain ⟨x24, e24⟩ : ∃ x, a.tmps.getD 24 undef = x := ⟨_, rfl⟩
        rw [e24] at r24
        have q24 := e24
        rw [Array.getD_eq_getD_getElem?] at q24
        clear hf hold
        go_simp
        go_at_call 23
        refine (same_ok _ _ _ _ _ r21 r24 (lenJ _ _) (lenJ _ _) (joinL_comm _ _)).mono ?_
        rintro e w' ⟨rfl, h2⟩
        exact hK _ _ (hG.step h2) h2 rfl
      refine AllDue.cons (due_met (.inl rfl) fun a w1 hG hold hf K hK => ?_) ?_
      · have f25 : a.tmps.getD 25 undef = .bool true := hf 4 25 (by kernel_rfl) rfl
        have q25 := f25
        rw [Array.getD_eq_getD_getElem?] at q25
        clear hf hold
        go_simp
        exact hK _ _ hG (Below.refl _ _) rfl
      refine AllDue.cons (due_met (.inl rfl) fun a w1 hG hold hf K hK => ?_) ?_
      · have f26 : a.tmps.getD 26 undef = .bool false := hf 5 26 (by kernel_rfl) rfl
        have q26 := f26
        rw [Array.getD_eq_getD_getElem?] at q26
        clear hf hold
        go_simp
        exact hK _ _ hG (Below.refl _ _) rfl
      refine AllDue.cons (due_met (.inr ⟨6, false, 27, rfl, rfl, by kernel_rfl, fun _ _ h => h⟩) fun a w1 hG hold hf K hK => ?_) ?_
      · have f7 : a.tmps.getD 7 undef = .pointer (some ⟨GX, 0, none⟩) := hold 7 (by kernel_rfl)
        obtain ⟨A, c, B, d, hb, hm, hi⟩ := hG.hx
        obtain ⟨c1, c2⟩ := lbox_cells hb
        clear hf hold
        go_simp
        exact hK _ _ hG (Below.refl _ _) (lsAt_of hm hi)
      refine AllDue.cons (due_met (.inr ⟨6, false, 27, rfl, rfl, by kernel_rfl, fun _ _ h => h⟩) fun a w1 hG hold hf K hK => ?_) ?_
      · have f5 : a.tmps.getD 5 undef = .pointer (some ⟨GC, 0, none⟩) := hold 5 (by kernel_rfl)
        obtain ⟨A, c, B, d, hb, hm, hi⟩ := hG.hc
        obtain ⟨c1, c2⟩ := lbox_cells hb
        clear hf hold
        go_simp
        exact hK _ _ hG (Below.refl _ _) (lsAt_of hm hi)
      refine AllDue.cons (due_met (.inr ⟨6, false, 27, rfl, rfl, by kernel_rfl, fun _ _ h => h⟩) fun a w1 hG hold hf K hK => ?_) ?_
      · have r28 : LsAt w1 (a.tmps.getD 28 undef) (joinL la lb) := hf 7 28 (by kernel_rfl) rfl
        obtain ⟨x28, e28⟩ : ∃ x, a.tmps.getD 28 undef = x := ⟨_, rfl⟩
        rw [e28] at r28
        have q28 := e28
        rw [Array.getD_eq_getD_getElem?] at q28
        have r29 : LsAt w1 (a.tmps.getD 29 undef) (lc) := hf 8 29 (by kernel_rfl) rfl
        obtain ⟨x29, e29⟩ : ∃ x, a.tmps.getD 29 undef = x := ⟨_, rfl⟩
        rw [e29] at r29
        have q29 := e29
        rw [Array.getD_eq_getD_getElem?] at q29
        clear hf hold
        go_simp
        go_at_call 22
        refine (join_ok _ _ _ _ _ r28 r29 (lenJ _ _) HC.out).mono ?_
        rintro e w' ⟨V, rfl, h1, h2⟩
        exact hK _ _ (hG.step h2) h2 h1
      refine AllDue.cons (due_met (.inr ⟨6, false, 27, rfl, rfl, by kernel_rfl, fun _ _ h => h⟩) fun a w1 hG hold hf K hK => ?_) ?_
      · have f3 : a.tmps.getD 3 undef = .pointer (some ⟨GA, 0, none⟩) := hold 3 (by kernel_rfl)
        obtain ⟨A, c, B, d, hb, hm, hi⟩ := hG.ha
        obtain ⟨c1, c2⟩ := lbox_cells hb
        clear hf hold
        go_simp
        exact hK _ _ hG (Below.refl _ _) (lsAt_of hm hi)
      refine AllDue.cons (due_met (.inr ⟨6, false, 27, rfl, rfl, by kernel_rfl, fun _ _ h => h⟩) fun a w1 hG hold hf K hK => ?_) ?_
      · have f4 : a.tmps.getD 4 undef = .pointer (some ⟨GB, 0, none⟩) := hold 4 (by kernel_rfl)
        obtain ⟨A, c, B, d, hb, hm, hi⟩ := hG.hb
        obtain ⟨c1, c2⟩ := lbox_cells hb
        clear hf hold
        go_simp
        exact hK _ _ hG (Below.refl _ _) (lsAt_of hm hi)
      refine AllDue.cons (due_met (.inr ⟨6, false, 27, rfl, rfl, by kernel_rfl, fun _ _ h => h⟩) fun a w1 hG hold hf K hK => ?_) ?_
      · have f5 : a.tmps.getD 5 undef = .pointer (some ⟨GC, 0, none⟩) := hold 5 (by kernel_rfl)
        obtain ⟨A, c, B, d, hb, hm, hi⟩ := hG.hc
        obtain ⟨c1, c2⟩ := lbox_cells hb
        clear hf hold
        go_simp
        exact hK _ _ hG (Below.refl _ _) (lsAt_of hm hi)
      refine AllDue.cons (due_met (.inr ⟨6, false, 27, rfl, rfl, by kernel_rfl, fun _ _ h => h⟩) fun a w1 hG hold hf K hK => ?_) ?_
      · have r32 : LsAt w1 (a.tmps.getD 32 undef) (lb) := hf 11 32 (by kernel_rfl) rfl
        obtain ⟨x32, e32⟩ : ∃ x, a.tmps.getD 32 undef = x := ⟨_, rfl⟩
        rw [e32] at r32
        have q32 := e32
        rw [Array.getD_eq_getD_getElem?] at q32
        have r33 : LsAt w1 (a.tmps.getD 33 undef) (lc) := hf 12 33 (by kernel_rfl) rfl
        obtain ⟨x33, e33⟩ : ∃ x, a.tmps.getD 33 undef = x := ⟨_, rfl⟩
        rw [e33] at r33
        have q33 := e33
        rw [Array.getD_eq_getD_getElem?] at q33
        clear hf hold
        go_simp
        go_at_call 22
        refine (join_ok _ _ _ _ _ r32 r33 HB.out HC.out).mono ?_
        rintro e w' ⟨V, rfl, h1, h2⟩
        exact hK _ _ (hG.step h2) h2 h1
      refine AllDue.cons (due_met (.inr ⟨6, false, 27, rfl, rfl, by kernel_rfl, fun _ _ h => h⟩) fun a w1 hG hold hf K hK => ?_) ?_
      · have r31 : LsAt w1 (a.tmps.getD 31 undef) (la) := hf 10 31 (by kernel_rfl) rfl
        obtain ⟨x31, e31⟩ : ∃ x, a.tmps.getD 31 undef = x := ⟨_, rfl⟩
        rw [e31] at r31
        have q31 := e31
        rw [Array.getD_eq_getD_getElem?] at q31
        have r34 : LsAt w1 (a.tmps.getD 34 undef) (joinL lb lc) := hf 13 34 (by kernel_rfl) rfl
        obtain ⟨x34, e34⟩ : ∃ x, a.tmps.getD 34 undef = x := ⟨_, rfl⟩
        rw [e34] at r34
        have q34 := e34
        rw [Array.getD_eq_getD_getElem?] at q34
        clear hf hold
        go_simp
        go_at_call 22
        refine (join_ok _ _ _ _ _ r31 r34 HA.out (lenJ _ _)).mono ?_
        rintro e w' ⟨V, rfl, h1, h2⟩
        exact hK _ _ (hG.step h2) h2 h1
      refine AllDue.cons (due_met (.inr ⟨6, false, 27, rfl, rfl, by kernel_rfl, fun _ _ h => h⟩) fun a w1 hG hold hf K hK => ?_) ?_
      · have r30 : LsAt w1 (a.tmps.getD 30 undef) (joinL (joinL la lb) lc) := hf 9 30 (by kernel_rfl) rfl
        obtain ⟨x30, e30⟩ : ∃ x, a.tmps.getD 30 undef = x := ⟨_, rfl⟩
        rw [e30] at r30
        have q30 := e30
        rw [Array.getD_eq_getD_getElem?] at q30
        have r35 : LsAt w1 (a.tmps.getD 35 undef) (joinL la (joinL lb lc)) := hf 14 35 (by kernel_rfl) rfl
        obtain ⟨x35, e35⟩ : ∃ x, a.tmps.getD 35 undef = x := ⟨_, rfl⟩
        rw [e35] at r35
        have q35 := e35
        rw [Array.getD_eq_getD_getElem?] at q35
        clear hf hold
        go_simp
        go_at_call 23
        refine (same_ok _ _ _ _ _ r30 r35 (lenJ _ _) (lenJ _ _) (joinL_assoc _ _ _)).mono ?_
        rintro e w' ⟨rfl, h2⟩
        exact hK _ _ (hG.step h2) h2 rfl
      refine AllDue.cons (due_met (.inr ⟨6, false, 27, rfl, rfl, by kernel_rfl, fun _ _ h => h⟩) fun a w1 hG hold hf K hK => ?_) ?_
      · have f36 : a.tmps.getD 36 undef = .bool true := hf 15 36 (by kernel_rfl) rfl
        have q36 := f36
        rw [Array.getD_eq_getD_getElem?] at q36
        clear hf hold
        go_simp
        exact hK _ _ hG (Below.refl _ _) rfl
      refine AllDue.cons (due_met (.inl rfl) fun a w1 hG hold hf K hK => ?_) ?_
      · have f27 : a.tmps.getD 27 undef = .bool false := hf 6 27 (by kernel_rfl) rfl
        have q27 := f27
        rw [Array.getD_eq_getD_getElem?] at q27
        have f37 : a.tmps.getD 37 undef = .bool false := hf 16 37 (by kernel_rfl) rfl
        have q37 := f37
        rw [Array.getD_eq_getD_getElem?] at q37
        clear hf hold
        go_simp
        exact hK _ _ hG (Below.refl _ _) rfl
      refine AllDue.cons (due_met (.inl rfl) fun a w1 hG hold hf K hK => ?_) ?_
      · have f38 : a.tmps.getD 38 undef = .bool false := hf 17 38 (by kernel_rfl) rfl
        have q38 := f38
        rw [Array.getD_eq_getD_getElem?] at q38
        clear hf hold
        go_simp
        exact hK _ _ hG (Below.refl _ _) rfl
      refine AllDue.cons (due_met (.inr ⟨18, false, 39, rfl, rfl, by kernel_rfl, fun _ _ h => h⟩) fun a w1 hG hold hf K hK => ?_) ?_
      · have f7 : a.tmps.getD 7 undef = .pointer (some ⟨GX, 0, none⟩) := hold 7 (by kernel_rfl)
        obtain ⟨A, c, B, d, hb, hm, hi⟩ := hG.hx
        obtain ⟨c1, c2⟩ := lbox_cells hb
        clear hf hold
        go_simp
        exact hK _ _ hG (Below.refl _ _) (lsAt_of hm hi)
      refine AllDue.cons (due_met (.inr ⟨18, false, 39, rfl, rfl, by kernel_rfl, fun _ _ h => h⟩) fun a w1 hG hold hf K hK => ?_) ?_
      · have f3 : a.tmps.getD 3 undef = .pointer (some ⟨GA, 0, none⟩) := hold 3 (by kernel_rfl)
        obtain ⟨A, c, B, d, hb, hm, hi⟩ := hG.ha
        obtain ⟨c1, c2⟩ := lbox_cells hb
        clear hf hold
        go_simp
        exact hK _ _ hG (Below.refl _ _) (lsAt_of hm hi)
      refine AllDue.cons (due_met (.inr ⟨18, false, 39, rfl, rfl, by kernel_rfl, fun _ _ h => h⟩) fun a w1 hG hold hf K hK => ?_) ?_
      · have r40 : LsAt w1 (a.tmps.getD 40 undef) (joinL la lb) := hf 19 40 (by kernel_rfl) rfl
        obtain ⟨x40, e40⟩ : ∃ x, a.tmps.getD 40 undef = x := ⟨_, rfl⟩
        rw [e40] at r40
        have q40 := e40
        rw [Array.getD_eq_getD_getElem?] at q40
        have r41 : LsAt w1 (a.tmps.getD 41 undef) (la) := hf 20 41 (by kernel_rfl) rfl
        obtain ⟨x41, e41⟩ : ∃ x, a.tmps.getD 41 undef = x := ⟨_, rfl⟩
        rw [e41] at r41
        have q41 := e41
        rw [Array.getD_eq_getD_getElem?] at q41
        clear hf hold
        go_simp
        go_at_call 22
        refine (join_ok _ _ _ _ _ r40 r41 (lenJ _ _) HA.out).mono ?_
        rintro e w' ⟨V, rfl, h1, h2⟩
        exact hK _ _ (hG.step h2) h2 h1
      refine AllDue.cons (due_met (.inr ⟨18, false, 39, rfl, rfl, by kernel_rfl, fun _ _ h => h⟩) fun a w1 hG hold hf K hK => ?_) ?_
      · have f7 : a.tmps.getD 7 undef = .pointer (some ⟨GX, 0, none⟩) := hold 7 (by kernel_rfl)
        obtain ⟨A, c, B, d, hb, hm, hi⟩ := hG.hx
        obtain ⟨c1, c2⟩ := lbox_cells hb
        clear hf hold
        go_simp
        exact hK _ _ hG (Below.refl _ _) (lsAt_of hm hi)
      refine AllDue.cons (due_met (.inr ⟨18, false, 39, rfl, rfl, by kernel_rfl, fun _ _ h => h⟩) fun a w1 hG hold hf K hK => ?_) ?_
      · have r42 : LsAt w1 (a.tmps.getD 42 undef) (joinL (joinL la lb) la) := hf 21 42 (by kernel_rfl) rfl
        obtain ⟨x42, e42⟩ : ∃ x, a.tmps.getD 42 undef = x := ⟨_, rfl⟩
        rw [e42] at r42
        have q42 := e42
        rw [Array.getD_eq_getD_getElem?] at q42
        have r43 : LsAt w1 (a.tmps.getD 43 undef) (joinL la lb) := hf 22 43 (by kernel_rfl) rfl
        obtain ⟨x43, e43⟩ : ∃ x, a.tmps.getD 43 undef = x := ⟨_, rfl⟩
        rw [e43] at r43
        have q43 := e43
        rw [Array.getD_eq_getD_getElem?] at q43
        clear hf hold
        go_simp
        go_at_call 23
        refine (same_ok _ _ _ _ _ r42 r43 (lenJ _ _) (lenJ _ _) (joinL_again _ _)).mono ?_
        rintro e w' ⟨rfl, h2⟩
        exact hK _ _ (hG.step h2) h2 rfl
      refine AllDue.cons (due_met (.inr ⟨18, false, 39, rfl, rfl, by kernel_rfl, fun _ _ h => h⟩) fun a w1 hG hold hf K hK => ?_) ?_
      · have f44 : a.tmps.getD 44 undef = .bool true := hf 23 44 (by kernel_rfl) rfl
        have q44 := f44
        rw [Array.getD_eq_getD_getElem?] at q44
        clear hf hold
        go_simp
        exact hK _ _ hG (Below.refl _ _) rfl
      refine AllDue.cons (due_met (.inl rfl) fun a w1 hG hold hf K hK => ?_) ?_
      · have f39 : a.tmps.getD 39 undef = .bool false := hf 18 39 (by kernel_rfl) rfl
        have q39 := f39
        rw [Array.getD_eq_getD_getElem?] at q39
        have f45 : a.tmps.getD 45 undef = .bool false := hf 24 45 (by kernel_rfl) rfl
        have q45 := f45
        rw [Array.getD_eq_getD_getElem?] at q45
        clear hf hold
        go_simp
        exact hK _ _ hG (Below.refl _ _) rfl
      refine AllDue.cons (due_met (.inl rfl) fun a w1 hG hold hf K hK => ?_) ?_
      · have f46 : a.tmps.getD 46 undef = .bool false := hf 25 46 (by kernel_rfl) rfl
        have q46 := f46
        rw [Array.getD_eq_getD_getElem?] at q46
        clear hf hold
        go_simp
        exact hK _ _ hG (Below.refl _ _) rfl
      refine AllDue.cons (due_met (.inr ⟨26, false, 47, rfl, rfl, by kernel_rfl, fun _ _ h => h⟩) fun a w1 hG hold hf K hK => ?_) ?_
      · have f7 : a.tmps.getD 7 undef = .pointer (some ⟨GX, 0, none⟩) := hold 7 (by kernel_rfl)
        obtain ⟨A, c, B, d, hb, hm, hi⟩ := hG.hx
        obtain ⟨c1, c2⟩ := lbox_cells hb
        clear hf hold
        go_simp
        exact hK _ _ hG (Below.refl _ _) (lsAt_of hm hi)
      refine AllDue.cons (due_met (.inr ⟨26, false, 47, rfl, rfl, by kernel_rfl, fun _ _ h => h⟩) fun a w1 hG hold hf K hK => ?_) ?_
      · have f7 : a.tmps.getD 7 undef = .pointer (some ⟨GX, 0, none⟩) := hold 7 (by kernel_rfl)
        obtain ⟨A, c, B, d, hb, hm, hi⟩ := hG.hx
        obtain ⟨c1, c2⟩ := lbox_cells hb
        clear hf hold
        go_simp
        exact hK _ _ hG (Below.refl _ _) (lsAt_of hm hi)
      refine AllDue.cons (due_met (.inr ⟨26, false, 47, rfl, rfl, by kernel_rfl, fun _ _ h => h⟩) fun a w1 hG hold hf K hK => ?_) ?_
      · have r48 : LsAt w1 (a.tmps.getD 48 undef) (joinL la lb) := hf 27 48 (by kernel_rfl) rfl
        obtain ⟨x48, e48⟩ : ∃ x, a.tmps.getD 48 undef = x := ⟨_, rfl⟩
        rw [e48] at r48
        have q48 := e48
        rw [Array.getD_eq_getD_getElem?] at q48
        have r49 : LsAt w1 (a.tmps.getD 49 undef) (joinL la lb) := hf 28 49 (by kernel_rfl) rfl
        obtain ⟨x49, e49⟩ : ∃ x, a.tmps.getD 49 undef = x := ⟨_, rfl⟩
        rw [e49] at r49
        have q49 := e49
        rw [Array.getD_eq_getD_getElem?] at q49
        clear hf hold
        go_simp
        go_at_call 22
        refine (join_ok _ _ _ _ _ r48 r49 (lenJ _ _) (lenJ _ _)).mono ?_
        rintro e w' ⟨V, rfl, h1, h2⟩
        exact hK _ _ (hG.step h2) h2 h1
      refine AllDue.cons (due_met (.inr ⟨26, false, 47, rfl, rfl, by kernel_rfl, fun _ _ h => h⟩) fun a w1 hG hold hf K hK => ?_) ?_
      · have f7 : a.tmps.getD 7 undef = .pointer (some ⟨GX, 0, none⟩) := hold 7 (by kernel_rfl)
        obtain ⟨A, c, B, d, hb, hm, hi⟩ := hG.hx
        obtain ⟨c1, c2⟩ := lbox_cells hb
        clear hf hold
        go_simp
        exact hK _ _ hG (Below.refl _ _) (lsAt_of hm hi)
      refine AllDue.cons (due_met (.inr ⟨26, false, 47, rfl, rfl, by kernel_rfl, fun _ _ h => h⟩) fun a w1 hG hold hf K hK => ?_) ?_
      · have r50 : LsAt w1 (a.tmps.getD 50 undef) (joinL (joinL la lb) (joinL la lb)) := hf 29 50 (by kernel_rfl) rfl
        obtain ⟨x50, e50⟩ : ∃ x, a.tmps.getD 50 undef = x := ⟨_, rfl⟩
        rw [e50] at r50
        have q50 := e50
        rw [Array.getD_eq_getD_getElem?] at q50
        have r51 : LsAt w1 (a.tmps.getD 51 undef) (joinL la lb) := hf 30 51 (by kernel_rfl) rfl
        obtain ⟨x51, e51⟩ : ∃ x, a.tmps.getD 51 undef = x := ⟨_, rfl⟩
        rw [e51] at r51
        have q51 := e51
        rw [Array.getD_eq_getD_getElem?] at q51
        clear hf hold
        go_simp
        go_at_call 23
        refine (same_ok _ _ _ _ _ r50 r51 (lenJ _ _) (lenJ _ _) (joinL_self _ _)).mono ?_
        rintro e w' ⟨rfl, h2⟩
        exact hK _ _ (hG.step h2) h2 rfl
      refine AllDue.cons (due_met (.inr ⟨26, false, 47, rfl, rfl, by kernel_rfl, fun _ _ h => h⟩) fun a w1 hG hold hf K hK => ?_) ?_
      · have f52 : a.tmps.getD 52 undef = .bool true := hf 31 52 (by kernel_rfl) rfl
        have q52 := f52
        rw [Array.getD_eq_getD_getElem?] at q52
        clear hf hold
        go_simp
        exact hK _ _ hG (Below.refl _ _) rfl
      refine AllDue.cons (due_met (.inl rfl) fun a w1 hG hold hf K hK => ?_) ?_
      · have f47 : a.tmps.getD 47 undef = .bool false := hf 26 47 (by kernel_rfl) rfl
        have q47 := f47
        rw [Array.getD_eq_getD_getElem?] at q47
        have f53 : a.tmps.getD 53 undef = .bool false := hf 32 53 (by kernel_rfl) rfl
        have q53 := f53
        rw [Array.getD_eq_getD_getElem?] at q53
        clear hf hold
        go_simp
        exact hK _ _ hG (Below.refl _ _) rfl
      exact AllDue.nil
    · intro ac w6 hG hd hs hold hf
      have e := (act_eta ac 75 hs).trans (show _ = (⟨#[ac.tmps.getD 0 undef, ac.tmps.getD 1 undef, ac.tmps.getD 2 undef, ac.tmps.getD 3 undef, ac.tmps.getD 4 undef, ac.tmps.getD 5 undef, ac.tmps.getD 6 undef, ac.tmps.getD 7 undef, ac.tmps.getD 8 undef, ac.tmps.getD 9 undef, ac.tmps.getD 10 undef, ac.tmps.getD 11 undef, ac.tmps.getD 12 undef, ac.tmps.getD 13 undef, ac.tmps.getD 14 undef, ac.tmps.getD 15 undef, ac.tmps.getD 16 undef, ac.tmps.getD 17 undef, ac.tmps.getD 18 undef, ac.tmps.getD 19 undef, ac.tmps.getD 20 undef, ac.tmps.getD 21 undef, ac.tmps.getD 22 undef, ac.tmps.getD 23 undef, ac.tmps.getD 24 undef, ac.tmps.getD 25 undef, ac.tmps.getD 26 undef, ac.tmps.getD 27 undef, ac.tmps.getD 28 undef, ac.tmps.getD 29 undef, ac.tmps.getD 30 undef, ac.tmps.getD 31 undef, ac.tmps.getD 32 undef, ac.tmps.getD 33 undef, ac.tmps.getD 34 undef, ac.tmps.getD 35 undef, ac.tmps.getD 36 undef, ac.tmps.getD 37 undef, ac.tmps.getD 38 undef, ac.tmps.getD 39 undef, ac.tmps.getD 40 undef, ac.tmps.getD 41 undef, ac.tmps.getD 42 undef, ac.tmps.getD 43 undef, ac.tmps.getD 44 undef, ac.tmps.getD 45 undef, ac.tmps.getD 46 undef, ac.tmps.getD 47 undef, ac.tmps.getD 48 undef, ac.tmps.getD 49 undef, ac.tmps.getD 50 undef, ac.tmps.getD 51 undef, ac.tmps.getD 52 undef, ac.tmps.getD 53 undef, ac.tmps.getD 54 undef, ac.tmps.getD 55 undef, ac.tmps.getD 56 undef, ac.tmps.getD 57 undef, ac.tmps.getD 58 undef, ac.tmps.getD 59 undef, ac.tmps.getD 60 undef, ac.tmps.getD 61 undef, ac.tmps.getD 62 undef, ac.tmps.getD 63 undef, ac.tmps.getD 64 undef, ac.tmps.getD 65 undef, ac.tmps.getD 66 undef, ac.tmps.getD 67 undef, ac.tmps.getD 68 undef, ac.tmps.getD 69 undef, ac.tmps.getD 70 undef, ac.tmps.getD 71 undef, ac.tmps.getD 72 undef, ac.tmps.getD 73 undef, ac.tmps.getD 74 undef], []⟩ : Act) by rw [hd]; rfl)
      have k3 : ac.tmps.getD 3 undef = .pointer (some ⟨GA, 0, none⟩) := hold 3 (by kernel_rfl)
      have k4 : ac.tmps.getD 4 undef = .pointer (some ⟨GB, 0, none⟩) := hold 4 (by kernel_rfl)
      have k5 : ac.tmps.getD 5 undef = .pointer (some ⟨GC, 0, none⟩) := hold 5 (by kernel_rfl)
      have k7 : ac.tmps.getD 7 undef = .pointer (some ⟨GX, 0, none⟩) := hold 7 (by kernel_rfl)
      have k54 : ac.tmps.getD 54 undef = .bool false := hf 33 54 (by kernel_rfl)
      rw [k3, k4, k5, k7, k54] at e
      clear hold hf hs hd k3 k4 k5 k7 k54
      generalize ac.tmps.getD 0 undef = u0 at e
      generalize ac.tmps.getD 1 undef = u1 at e
      generalize ac.tmps.getD 2 undef = u2 at e
      generalize ac.tmps.getD 6 undef = u6 at e
      generalize ac.tmps.getD 8 undef = u8 at e
      generalize ac.tmps.getD 9 undef = u9 at e
      generalize ac.tmps.getD 10 undef = u10 at e
      generalize ac.tmps.getD 11 undef = u11 at e
      generalize ac.tmps.getD 12 undef = u12 at e
      generalize ac.tmps.getD 13 undef = u13 at e
      generalize ac.tmps.getD 14 undef = u14 at e
      generalize ac.tmps.getD 15 undef = u15 at e
      generalize ac.tmps.getD 16 undef = u16 at e
      generalize ac.tmps.getD 17 undef = u17 at e
      generalize ac.tmps.getD 18 undef = u18 at e
      generalize ac.tmps.getD 19 undef = u19 at e
      generalize ac.tmps.getD 20 undef = u20 at e
      generalize ac.tmps.getD 21 undef = u21 at e
      generalize ac.tmps.getD 22 undef = u22 at e
      generalize ac.tmps.getD 23 undef = u23 at e
      generalize ac.tmps.getD 24 undef = u24 at e
      generalize ac.tmps.getD 25 undef = u25 at e
      generalize ac.tmps.getD 26 undef = u26 at e
      generalize ac.tmps.getD 27 undef = u27 at e
      generalize ac.tmps.getD 28 undef = u28 at e
      generalize ac.tmps.getD 29 undef = u29 at e
      generalize ac.tmps.getD 30 undef = u30 at e
      generalize ac.tmps.getD 31 undef = u31 at e
      generalize ac.tmps.getD 32 undef = u32 at e
      generalize ac.tmps.getD 33 undef = u33 at e
      generalize ac.tmps.getD 34 undef = u34 at e
      generalize ac.tmps.getD 35 undef = u35 at e
      generalize ac.tmps.getD 36 undef = u36 at e
      generalize ac.tmps.getD 37 undef = u37 at e
      generalize ac.tmps.getD 38 undef = u38 at e
      generalize ac.tmps.getD 39 undef = u39 at e
      generalize ac.tmps.getD 40 undef = u40 at e
      generalize ac.tmps.getD 41 undef = u41 at e
      generalize ac.tmps.getD 42 undef = u42 at e
      generalize ac.tmps.getD 43 undef = u43 at e
      generalize ac.tmps.getD 44 undef = u44 at e
      generalize ac.tmps.getD 45 undef = u45 at e
      generalize ac.tmps.getD 46 undef = u46 at e
      generalize ac.tmps.getD 47 undef = u47 at e
      generalize ac.tmps.getD 48 undef = u48 at e
      generalize ac.tmps.getD 49 undef = u49 at e
      generalize ac.tmps.getD 50 undef = u50 at e
      generalize ac.tmps.getD 51 undef = u51 at e
      generalize ac.tmps.getD 52 undef = u52 at e
      generalize ac.tmps.getD 53 undef = u53 at e
      generalize ac.tmps.getD 55 undef = u55 at e
      generalize ac.tmps.getD 56 undef = u56 at e
      generalize ac.tmps.getD 57 undef = u57 at e
      generalize ac.tmps.getD 58 undef = u58 at e
      generalize ac.tmps.getD 59 undef = u59 at e
      generalize ac.tmps.getD 60 undef = u60 at e
      generalize ac.tmps.getD 61 undef = u61 at e
      generalize ac.tmps.getD 62 undef = u62 at e
      generalize ac.tmps.getD 63 undef = u63 at e
      generalize ac.tmps.getD 64 undef = u64 at e
      generalize ac.tmps.getD 65 undef = u65 at e
      generalize ac.tmps.getD 66 undef = u66 at e
      generalize ac.tmps.getD 67 undef = u67 at e
      generalize ac.tmps.getD 68 undef = u68 at e
      generalize ac.tmps.getD 69 undef = u69 at e
      generalize ac.tmps.getD 70 undef = u70 at e
      generalize ac.tmps.getD 71 undef = u71 at e
      generalize ac.tmps.getD 72 undef = u72 at e
      generalize ac.tmps.getD 73 undef = u73 at e
      generalize ac.tmps.getD 74 undef = u74 at e
      subst e
      have G6 := Lib.hid hG
      clear hG G4
      rcases hmay : mayB la.1 la.2 with _ | _
      · have HM := Lib.hid hmay
        clear hmay
        go_wp2_with fail
        refine wp_region_due (by kernel_rfl) rw6fDs (rw6fF GA GB GC GX la lb lc) (RwG w GA GB GC GX la lb lc) rfl (by kernel_rfl) (by kernel_rfl) (by kernel_rfl) (rw6fF_mono GA GB GC GX la lb lc) (G6.out.step (below_drewN (n := 1) (Below.refl _ _))) ?_ ?_
        · clear G6
          refine AllDue.cons (due_met (.inl rfl) fun a w1 hG hold hf K hK => ?_) ?_
          · have f3 : a.tmps.getD 3 undef = .pointer (some ⟨GA, 0, none⟩) := hold 3 (by kernel_rfl)
            clear hf hold
            go_simp
            exact hK _ _ hG (Below.refl _ _) rfl
          refine AllDue.cons (due_met (.inl rfl) fun a w1 hG hold hf K hK => ?_) ?_
          · have f55 : a.tmps.getD 55 undef = .pointer (some ⟨GA, 0, none⟩) := hf 0 55 (by kernel_rfl) rfl
            have q55 := f55
            rw [Array.getD_eq_getD_getElem?] at q55
            obtain ⟨A, c, B, d, hb, hm, hi⟩ := hG.ha
            obtain ⟨c1, c2⟩ := lbox_cells hb
            clear hf hold
            go_simp
            exact hK _ _ hG (Below.refl _ _) hm
          refine AllDue.cons (due_met (.inl rfl) fun a w1 hG hold hf K hK => ?_) ?_
          · have f3 : a.tmps.getD 3 undef = .pointer (some ⟨GA, 0, none⟩) := hold 3 (by kernel_rfl)
            clear hf hold
            go_simp
            exact hK _ _ hG (Below.refl _ _) rfl
          refine AllDue.cons (due_met (.inl rfl) fun a w1 hG hold hf K hK => ?_) ?_
          · have f57 : a.tmps.getD 57 undef = .pointer (some ⟨GA, 1, none⟩) := hf 2 57 (by kernel_rfl) rfl
            have q57 := f57
            rw [Array.getD_eq_getD_getElem?] at q57
            obtain ⟨A, c, B, d, hb, hm, hi⟩ := hG.ha
            obtain ⟨c1, c2⟩ := lbox_cells hb
            clear hf hold
            go_simp
            exact hK _ _ hG (Below.refl _ _) hi
          refine AllDue.cons (due_met (.inl rfl) fun a w1 hG hold hf K hK => ?_) ?_
          · have r56 : Ms w1 (a.tmps.getD 56 undef) (la).1 := hf 1 56 (by kernel_rfl) rfl
            obtain ⟨x56, e56⟩ : ∃ x, a.tmps.getD 56 undef = x := ⟨_, rfl⟩
            rw [e56] at r56
            have q56 := e56
            rw [Array.getD_eq_getD_getElem?] at q56
            have r58 : Ids w1 (a.tmps.getD 58 undef) (la).2 := hf 3 58 (by kernel_rfl) rfl
            obtain ⟨x58, e58⟩ : ∃ x, a.tmps.getD 58 undef = x := ⟨_, rfl⟩
            rw [e58] at r58
            have q58 := e58
            rw [Array.getD_eq_getD_getElem?] at q58
            clear hf hold
            go_simp
            go_at_call 14
            refine (may_ok _ _ _ _ _ r56 r58 HA.out HM.out).mono ?_
            rintro e w' ⟨rfl, h2⟩
            exact hK _ _ (hG.step h2) h2 rfl
          refine AllDue.cons (due_met (.inl rfl) fun a w1 hG hold hf K hK => ?_) ?_
          · have f59 : a.tmps.getD 59 undef = .bool false := hf 4 59 (by kernel_rfl) rfl
            have q59 := f59
            rw [Array.getD_eq_getD_getElem?] at q59
            clear hf hold
            go_simp
            exact hK _ _ hG (Below.refl _ _) rfl
          refine AllDue.cons (due_met (.inl rfl) fun a w1 hG hold hf K hK => ?_) ?_
          · have f60 : a.tmps.getD 60 undef = .bool true := hf 5 60 (by kernel_rfl) rfl
            have q60 := f60
            rw [Array.getD_eq_getD_getElem?] at q60
            clear hf hold
            go_simp
            exact hK _ _ hG (Below.refl _ _) rfl
          refine AllDue.cons (due_not (b := false) (s := 61) rfl rfl (by kernel_rfl) (fun _ _ h => h) (fun _ => rfl)) ?_
          refine AllDue.cons (due_not (b := false) (s := 61) rfl rfl (by kernel_rfl) (fun _ _ h => h) (fun _ => rfl)) ?_
          refine AllDue.cons (due_not (b := false) (s := 61) rfl rfl (by kernel_rfl) (fun _ _ h => h) (fun _ => rfl)) ?_
          refine AllDue.cons (due_not (b := false) (s := 61) rfl rfl (by kernel_rfl) (fun _ _ h => h) (fun _ => rfl)) ?_
          refine AllDue.cons (due_not (b := false) (s := 61) rfl rfl (by kernel_rfl) (fun _ _ h => h) (fun _ => rfl)) ?_
          refine AllDue.cons (due_not (b := false) (s := 61) rfl rfl (by kernel_rfl) (fun _ _ h => h) (fun _ => rfl)) ?_
          refine AllDue.cons (due_undef (b := true) (s := 67) rfl rfl (by kernel_rfl) (fun _ _ h => h) (fun _ => rfl)) ?_
          refine AllDue.cons (due_undef (b := true) (s := 67) rfl rfl (by kernel_rfl) (fun _ _ h => h) (fun _ => rfl)) ?_
          refine AllDue.cons (due_undef (b := true) (s := 67) rfl rfl (by kernel_rfl) (fun _ _ h => h) (fun _ => rfl)) ?_
          refine AllDue.cons (due_undef (b := true) (s := 67) rfl rfl (by kernel_rfl) (fun _ _ h => h) (fun _ => rfl)) ?_
          refine AllDue.cons (due_undef (b := true) (s := 67) rfl rfl (by kernel_rfl) (fun _ _ h => h) (fun _ => rfl)) ?_
          refine AllDue.cons (due_not (b := false) (s := 61) rfl rfl (by kernel_rfl) (fun _ _ h => h) (fun _ => rfl)) ?_
          refine AllDue.cons (due_met (.inl rfl) fun a w1 hG hold hf K hK => ?_) ?_
          · have f61 : a.tmps.getD 61 undef = .bool true := hf 6 61 (by kernel_rfl) rfl
            have q61 := f61
            rw [Array.getD_eq_getD_getElem?] at q61
            have f73 : a.tmps.getD 73 undef = undef := hf 18 73 (by kernel_rfl) rfl
            have q73 := f73
            rw [Array.getD_eq_getD_getElem?] at q73
            clear hf hold
            go_simp
            exact hK _ _ hG (Below.refl _ _) rfl
          refine AllDue.cons (due_met (.inl rfl) fun a w1 hG hold hf K hK => ?_) ?_
          · have f74 : a.tmps.getD 74 undef = .bool true := hf 19 74 (by kernel_rfl) rfl
            have q74 := f74
            rw [Array.getD_eq_getD_getElem?] at q74
            clear hf hold
            go_simp
            exact hK _ _ hG (Below.refl _ _) rfl
          exact AllDue.nil
        · intro ac w7 hG hd hs hold hf
          have f6 : ac.tmps.getD 6 undef = .bool true := hf 20 6 rfl
          clear hf hold
          go_wp2_with fail
          refine bodyPost_ret (results_tmp rfl _ _ _) hd ?_
          exact ⟨by rw [f6], hG.below⟩
      · have HM := Lib.hid hmay
        clear hmay
        go_wp2_with fail
        refine wp_region_due (by kernel_rfl) rw6tDs (rw6tF GA GB GC GX la lb lc) (RwG w GA GB GC GX la lb lc) rfl (by kernel_rfl) (by kernel_rfl) (by kernel_rfl) (rw6tF_mono GA GB GC GX la lb lc) (G6.out.step (below_drewN (n := 1) (Below.refl _ _))) ?_ ?_
        · clear G6
          refine AllDue.cons (due_met (.inl rfl) fun a w1 hG hold hf K hK => ?_) ?_
          · have f3 : a.tmps.getD 3 undef = .pointer (some ⟨GA, 0, none⟩) := hold 3 (by kernel_rfl)
            clear hf hold
            go_simp
            exact hK _ _ hG (Below.refl _ _) rfl
          refine AllDue.cons (due_met (.inl rfl) fun a w1 hG hold hf K hK => ?_) ?_
          · have f55 : a.tmps.getD 55 undef = .pointer (some ⟨GA, 0, none⟩) := hf 0 55 (by kernel_rfl) rfl
            have q55 := f55
            rw [Array.getD_eq_getD_getElem?] at q55
            obtain ⟨A, c, B, d, hb, hm, hi⟩ := hG.ha
            obtain ⟨c1, c2⟩ := lbox_cells hb
            clear hf hold
            go_simp
            exact hK _ _ hG (Below.refl _ _) hm
          refine AllDue.cons (due_met (.inl rfl) fun a w1 hG hold hf K hK => ?_) ?_
          · have f3 : a.tmps.getD 3 undef = .pointer (some ⟨GA, 0, none⟩) := hold 3 (by kernel_rfl)
            clear hf hold
            go_simp
            exact hK _ _ hG (Below.refl _ _) rfl
          refine AllDue.cons (due_met (.inl rfl) fun a w1 hG hold hf K hK => ?_) ?_
          · have f57 : a.tmps.getD 57 undef = .pointer (some ⟨GA, 1, none⟩) := hf 2 57 (by kernel_rfl) rfl
            have q57 := f57
            rw [Array.getD_eq_getD_getElem?] at q57
            obtain ⟨A, c, B, d, hb, hm, hi⟩ := hG.ha
            obtain ⟨c1, c2⟩ := lbox_cells hb
            clear hf hold
            go_simp
            exact hK _ _ hG (Below.refl _ _) hi
          refine AllDue.cons (due_met (.inl rfl) fun a w1 hG hold hf K hK => ?_) ?_
          · have r56 : Ms w1 (a.tmps.getD 56 undef) (la).1 := hf 1 56 (by kernel_rfl) rfl
            obtain ⟨x56, e56⟩ : ∃ x, a.tmps.getD 56 undef = x := ⟨_, rfl⟩
            rw [e56] at r56
            have q56 := e56
            rw [Array.getD_eq_getD_getElem?] at q56
            have r58 : Ids w1 (a.tmps.getD 58 undef) (la).2 := hf 3 58 (by kernel_rfl) rfl
            obtain ⟨x58, e58⟩ : ∃ x, a.tmps.getD 58 undef = x := ⟨_, rfl⟩
            rw [e58] at r58
            have q58 := e58
            rw [Array.getD_eq_getD_getElem?] at q58
            clear hf hold
            go_simp
            go_at_call 14
            refine (may_ok _ _ _ _ _ r56 r58 HA.out HM.out).mono ?_
            rintro e w' ⟨rfl, h2⟩
            exact hK _ _ (hG.step h2) h2 rfl
          refine AllDue.cons (due_met (.inl rfl) fun a w1 hG hold hf K hK => ?_) ?_
          · have f59 : a.tmps.getD 59 undef = .bool true := hf 4 59 (by kernel_rfl) rfl
            have q59 := f59
            rw [Array.getD_eq_getD_getElem?] at q59
            clear hf hold
            go_simp
            exact hK _ _ hG (Below.refl _ _) rfl
          refine AllDue.cons (due_met (.inl rfl) fun a w1 hG hold hf K hK => ?_) ?_
          · have f60 : a.tmps.getD 60 undef = .bool false := hf 5 60 (by kernel_rfl) rfl
            have q60 := f60
            rw [Array.getD_eq_getD_getElem?] at q60
            clear hf hold
            go_simp
            exact hK _ _ hG (Below.refl _ _) rfl
          refine AllDue.cons (due_met (.inr ⟨6, false, 61, rfl, rfl, by kernel_rfl, fun _ _ h => h⟩) fun a w1 hG hold hf K hK => ?_) ?_
          · have f3 : a.tmps.getD 3 undef = .pointer (some ⟨GA, 0, none⟩) := hold 3 (by kernel_rfl)
            obtain ⟨A, c, B, d, hb, hm, hi⟩ := hG.ha
            obtain ⟨c1, c2⟩ := lbox_cells hb
            clear hf hold
            go_simp
            exact hK _ _ hG (Below.refl _ _) (lsAt_of hm hi)
          refine AllDue.cons (due_met (.inr ⟨6, false, 61, rfl, rfl, by kernel_rfl, fun _ _ h => h⟩) fun a w1 hG hold hf K hK => ?_) ?_
          · have f3 : a.tmps.getD 3 undef = .pointer (some ⟨GA, 0, none⟩) := hold 3 (by kernel_rfl)
            obtain ⟨A, c, B, d, hb, hm, hi⟩ := hG.ha
            obtain ⟨c1, c2⟩ := lbox_cells hb
            clear hf hold
            go_simp
            exact hK _ _ hG (Below.refl _ _) (lsAt_of hm hi)
          refine AllDue.cons (due_met (.inr ⟨6, false, 61, rfl, rfl, by kernel_rfl, fun _ _ h => h⟩) fun a w1 hG hold hf K hK => ?_) ?_
          · have r62 : LsAt w1 (a.tmps.getD 62 undef) (la) := hf 7 62 (by kernel_rfl) rfl
            obtain ⟨x62, e62⟩ : ∃ x, a.tmps.getD 62 undef = x := ⟨_, rfl⟩
            rw [e62] at r62
            have q62 := e62
            rw [Array.getD_eq_getD_getElem?] at q62
            have r63 : LsAt w1 (a.tmps.getD 63 undef) (la) := hf 8 63 (by kernel_rfl) rfl
            obtain ⟨x63, e63⟩ : ∃ x, a.tmps.getD 63 undef = x := ⟨_, rfl⟩
            rw [e63] at r63
            have q63 := e63
            rw [Array.getD_eq_getD_getElem?] at q63
            clear hf hold
            go_simp
            go_at_call 22
            refine (join_ok _ _ _ _ _ r62 r63 HA.out HA.out).mono ?_
            rintro e w' ⟨V, rfl, h1, h2⟩
            exact hK _ _ (hG.step h2) h2 h1
          refine AllDue.cons (due_met (.inr ⟨6, false, 61, rfl, rfl, by kernel_rfl, fun _ _ h => h⟩) fun a w1 hG hold hf K hK => ?_) ?_
          · have f3 : a.tmps.getD 3 undef = .pointer (some ⟨GA, 0, none⟩) := hold 3 (by kernel_rfl)
            obtain ⟨A, c, B, d, hb, hm, hi⟩ := hG.ha
            obtain ⟨c1, c2⟩ := lbox_cells hb
            clear hf hold
            go_simp
            exact hK _ _ hG (Below.refl _ _) (lsAt_of hm hi)
          refine AllDue.cons (due_met (.inr ⟨6, false, 61, rfl, rfl, by kernel_rfl, fun _ _ h => h⟩) fun a w1 hG hold hf K hK => ?_) ?_
          · have r64 : LsAt w1 (a.tmps.getD 64 undef) (joinL la la) := hf 9 64 (by kernel_rfl) rfl
            obtain ⟨x64, e64⟩ : ∃ x, a.tmps.getD 64 undef = x := ⟨_, rfl⟩
            rw [e64] at r64
            have q64 := e64
            rw [Array.getD_eq_getD_getElem?] at q64
            have r65 : LsAt w1 (a.tmps.getD 65 undef) (la) := hf 10 65 (by kernel_rfl) rfl
            obtain ⟨x65, e65⟩ : ∃ x, a.tmps.getD 65 undef = x := ⟨_, rfl⟩
            rw [e65] at r65
            have q65 := e65
            rw [Array.getD_eq_getD_getElem?] at q65
            clear hf hold
            go_simp
            go_at_call 23
            refine (same_ok _ _ _ _ _ r64 r65 (lenJ _ _) HA.out (valid_self HM.out)).mono ?_
            rintro e w' ⟨rfl, h2⟩
            exact hK _ _ (hG.step h2) h2 rfl
          refine AllDue.cons (due_met (.inr ⟨6, false, 61, rfl, rfl, by kernel_rfl, fun _ _ h => h⟩) fun a w1 hG hold hf K hK => ?_) ?_
          · have f66 : a.tmps.getD 66 undef = .bool true := hf 11 66 (by kernel_rfl) rfl
            have q66 := f66
            rw [Array.getD_eq_getD_getElem?] at q66
            clear hf hold
            go_simp
            exact hK _ _ hG (Below.refl _ _) rfl
          refine AllDue.cons (due_met (.inr ⟨12, true, 67, rfl, rfl, by kernel_rfl, fun _ _ h => h⟩) fun a w1 hG hold hf K hK => ?_) ?_
          · have f3 : a.tmps.getD 3 undef = .pointer (some ⟨GA, 0, none⟩) := hold 3 (by kernel_rfl)
            obtain ⟨A, c, B, d, hb, hm, hi⟩ := hG.ha
            obtain ⟨c1, c2⟩ := lbox_cells hb
            clear hf hold
            go_simp
            exact hK _ _ hG (Below.refl _ _) (lsAt_of hm hi)
          refine AllDue.cons (due_met (.inr ⟨12, true, 67, rfl, rfl, by kernel_rfl, fun _ _ h => h⟩) fun a w1 hG hold hf K hK => ?_) ?_
          · clear hf hold
            go_simp
            exact hK _ _ hG (Below.refl _ _) (lsAt_of (Rcs.nil _) (Ids.nil _))
          refine AllDue.cons (due_met (.inr ⟨12, true, 67, rfl, rfl, by kernel_rfl, fun _ _ h => h⟩) fun a w1 hG hold hf K hK => ?_) ?_
          · have r68 : LsAt w1 (a.tmps.getD 68 undef) (la) := hf 13 68 (by kernel_rfl) rfl
            obtain ⟨x68, e68⟩ : ∃ x, a.tmps.getD 68 undef = x := ⟨_, rfl⟩
            rw [e68] at r68
            have q68 := e68
            rw [Array.getD_eq_getD_getElem?] at q68
            have r69 : LsAt w1 (a.tmps.getD 69 undef) ([], []) := hf 14 69 (by kernel_rfl) rfl
            obtain ⟨x69, e69⟩ : ∃ x, a.tmps.getD 69 undef = x := ⟨_, rfl⟩
            rw [e69] at r69
            have q69 := e69
            rw [Array.getD_eq_getD_getElem?] at q69
            clear hf hold
            go_simp
            go_at_call 22
            refine (join_ok _ _ _ _ _ r68 r69 HA.out lenE).mono ?_
            rintro e w' ⟨V, rfl, h1, h2⟩
            exact hK _ _ (hG.step h2) h2 h1
          refine AllDue.cons (due_met (.inr ⟨12, true, 67, rfl, rfl, by kernel_rfl, fun _ _ h => h⟩) fun a w1 hG hold hf K hK => ?_) ?_
          · have f3 : a.tmps.getD 3 undef = .pointer (some ⟨GA, 0, none⟩) := hold 3 (by kernel_rfl)
            obtain ⟨A, c, B, d, hb, hm, hi⟩ := hG.ha
            obtain ⟨c1, c2⟩ := lbox_cells hb
            clear hf hold
            go_simp
            exact hK _ _ hG (Below.refl _ _) (lsAt_of hm hi)
          refine AllDue.cons (due_met (.inr ⟨12, true, 67, rfl, rfl, by kernel_rfl, fun _ _ h => h⟩) fun a w1 hG hold hf K hK => ?_) ?_
          · have r70 : LsAt w1 (a.tmps.getD 70 undef) (joinL la ([], [])) := hf 15 70 (by kernel_rfl) rfl
            obtain ⟨x70, e70⟩ : ∃ x, a.tmps.getD 70 undef = x := ⟨_, rfl⟩
            rw [e70] at r70
            have q70 := e70
            rw [Array.getD_eq_getD_getElem?] at q70
            have r71 : LsAt w1 (a.tmps.getD 71 undef) (la) := hf 16 71 (by kernel_rfl) rfl
            obtain ⟨x71, e71⟩ : ∃ x, a.tmps.getD 71 undef = x := ⟨_, rfl⟩
            rw [e71] at r71
            have q71 := e71
            rw [Array.getD_eq_getD_getElem?] at q71
            clear hf hold
            go_simp
            go_at_call 23
            refine (same_ok _ _ _ _ _ r70 r71 (lenJ _ _) HA.out (valid_none HM.out)).mono ?_
            rintro e w' ⟨rfl, h2⟩
            exact hK _ _ (hG.step h2) h2 rfl
          refine AllDue.cons (due_met (.inr ⟨6, false, 61, rfl, rfl, by kernel_rfl, fun _ _ h => h⟩) fun a w1 hG hold hf K hK => ?_) ?_
          · have f67 : a.tmps.getD 67 undef = .bool true := hf 12 67 (by kernel_rfl) rfl
            have q67 := f67
            rw [Array.getD_eq_getD_getElem?] at q67
            have f72 : a.tmps.getD 72 undef = .bool true := hf 17 72 (by kernel_rfl) rfl
            have q72 := f72
            rw [Array.getD_eq_getD_getElem?] at q72
            clear hf hold
            go_simp
            exact hK _ _ hG (Below.refl _ _) rfl
          refine AllDue.cons (due_met (.inl rfl) fun a w1 hG hold hf K hK => ?_) ?_
          · have f61 : a.tmps.getD 61 undef = .bool false := hf 6 61 (by kernel_rfl) rfl
            have q61 := f61
            rw [Array.getD_eq_getD_getElem?] at q61
            have f73 : a.tmps.getD 73 undef = .bool true := hf 18 73 (by kernel_rfl) rfl
            have q73 := f73
            rw [Array.getD_eq_getD_getElem?] at q73
            clear hf hold
            go_simp
            exact hK _ _ hG (Below.refl _ _) rfl
          refine AllDue.cons (due_met (.inl rfl) fun a w1 hG hold hf K hK => ?_) ?_
          · have f74 : a.tmps.getD 74 undef = .bool true := hf 19 74 (by kernel_rfl) rfl
            have q74 := f74
            rw [Array.getD_eq_getD_getElem?] at q74
            clear hf hold
            go_simp
            exact hK _ _ hG (Below.refl _ _) rfl
          exact AllDue.nil
        · intro ac w7 hG hd hs hold hf
          have f6 : ac.tmps.getD 6 undef = .bool true := hf 20 6 rfl
          clear hf hold
          go_wp2_with fail
          refine bodyPost_ret (results_tmp rfl _ _ _) hd ?_
          exact ⟨by rw [f6], hG.below⟩
  · clear hbig
    go_wp2_with fail
    refine (works_any _).mono ?_
    rintro e w4 ⟨rfl, hb⟩
    have B4 := Lib.hid (below_after G3.out.2.2.2 hb (Nat.le_refl _))
    clear hb
    go_wp2_with fail
    go_ret
    exact ⟨rfl, B4.out⟩
end Go.Proofs.Ytciolhpkhblnbaa
