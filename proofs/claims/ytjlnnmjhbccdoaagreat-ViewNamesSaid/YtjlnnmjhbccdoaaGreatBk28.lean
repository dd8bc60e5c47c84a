/-
  Carried over and put together: contracts of this program's functions, and plain facts. No statement is proved in this text.
-/
import Derived.Test.YtjlnnmjhbccdoaaGreatBk27
set_option maxRecDepth 20000
namespace Go.Proofs.YtjlnnmjhbccdoaaGreat
open Go Go.RowKit
/-- Two views, joined. -/
def joinV (V U : Vw) : Vw := ⟨(Ros.joinL (V.m, V.f) (U.m, U.f)).1, (Ros.joinL (V.m, V.f) (U.m, U.f)).2, RowSets.gone (Ros.joinL (V.m, V.f) (U.m, U.f)).2 (RowSets.joinR V.r U.r), Clocks.joinC V.c U.c, seenV V U⟩
theorem fit_small {V : Vw} (h : Fit 400 V) : Small V.r := by
  unfold Small
  exact ⟨Nat.le_trans h.r (by decide), fun r hr => Nat.le_trans (h.n r hr) (by decide)⟩
theorem lenJ_f (a b : Ros.Ls) : (Ros.joinL a b).2.length ≤ 100 := by
  have h := Ros.lenJ a b
  unfold Ros.LenOk at h
  exact h.2
theorem lenJ_m (a b : Ros.Ls) : (Ros.joinL a b).1.length ≤ 100 := by
  have h := Ros.lenJ a b
  unfold Ros.LenOk at h
  exact h.1
/-- What stands of the world. -/
structure JnG (w : World) (a b c d e a' b' c' d' e' sm sf : SL) (V U : Vw) (W : World) : Prop where
  p : VBox W w.heap.size a b c d e
  q : VBox W (w.heap.size + 1) a' b' c' d' e'
  z : ∃ s0 s1 s2 s3 s4 : SL, VBox W (w.heap.size + 1 + 1) s0 s1 s2 s3 s4
  r : RV W a b c d e V
  t : RV W a' b' c' d' e' U
  hm : Ms W (.slice sm.1 sm.2.1 sm.2.2) (Ros.joinL (V.m, V.f) (U.m, U.f)).1
  hf : Ids W (.slice sf.1 sf.2.1 sf.2.2) (Ros.joinL (V.m, V.f) (U.m, U.f)).2
  below : Below w.heap.size w W
theorem JnG.step {w : World} {a b c d e a' b' c' d' e' sm sf : SL} {V U : Vw} {W W' : World} (h : JnG w a b c d e a' b' c' d' e' sm sf V U W) (hb : Below W.heap.size W W') : JnG w a b c d e a' b' c' d' e' sm sf V U W' := by
  obtain ⟨s0, s1, s2, s3, s4, hz⟩ := h.z
  exact ⟨vbox_below h.p hb, vbox_below h.q hb, ⟨s0, s1, s2, s3, s4, vbox_below hz hb⟩, h.r.below hb, h.t.below hb, h.hm.below hb, h.hf.below hb, below_after h.below hb (Nat.le_refl _)⟩
theorem JnG.put {w : World} {a b c d e a' b' c' d' e' sm sf : SL} {V U : Vw} {W : World} (h : JnG w a b c d e a' b' c' d' e' sm sf V U W) {s0 s1 s2 s3 s4 z0 z1 z2 z3 z4 : SL} (hz : VBox W (w.heap.size + 1 + 1) z0 z1 z2 z3 z4) : JnG w a b c d e a' b' c' d' e' sm sf V U (W.setCells (w.heap.size + 1 + 1) 0 [.slice s0.1 s0.2.1 s0.2.2, .slice s1.1 s1.2.1 s1.2.2, .slice s2.1 s2.2.1 s2.2.2, .slice s3.1 s3.2.1 s3.2.2, .slice s4.1 s4.2.1 s4.2.2]) :=
  have hk := kp_set hz [.slice s0.1 s0.2.1 s0.2.2, .slice s1.1 s1.2.1 s1.2.2, .slice s2.1 s2.2.1 s2.2.2, .slice s3.1 s3.2.1 s3.2.2, .slice s4.1 s4.2.1 s4.2.2]
  ⟨vbox_other h.p (by omega) _, vbox_other h.q (by omega) _, ⟨s0, s1, s2, s3, s4, vbox_set hz s0 s1 s2 s3 s4⟩, h.r.kp hk, h.t.kp hk, Ms.kp h.hm hk, Ids.kp h.hf hk, below_setCells h.below (by omega) 0 _⟩
/-- What each operation of the region keeps. -/
def JnR (X : Nat) (J : Vw) (W W' : World) : Prop := Kp W W' ∧ (HoldsV W X J → HoldsV W' X J)
theorem jnR_refl (X : Nat) (J : Vw) (W : World) : JnR X J W W := ⟨kp_refl _, id⟩
theorem jnR_of {X : Nat} {J : Vw} {W W' : World} (hb : Below W.heap.size W W') : JnR X J W W' := ⟨kp_below hb, fun h => h.below hb⟩
/-- The slots of the region's operations. -/
def jnDs : List (Option Tmp) := [some 19, some 20, some 21, some 22, some 23, some 24, some 25, some 26, some 27, some 28, some 29, some 30, some 31, some 32, some 33, some 34, some 35, some 36, none]
/-- What is said of them. -/
def jnF (x y z : Nat) (a b c d e a' b' c' d' e' sm sf : SL) (V U : Vw) : Nat → Value → World → Prop := fun i v w => match i with
  | 0 => v = .slice sm.1 sm.2.1 sm.2.2
  | 1 => v = .slice sf.1 sf.2.1 sf.2.2
  | 2 => v = .pointer (some ⟨x, 2, none⟩)
  | 3 => v = .slice c.1 c.2.1 c.2.2
  | 4 => v = .pointer (some ⟨y, 2, none⟩)
  | 5 => v = .slice c'.1 c'.2.1 c'.2.2
  | 6 => RowsAt w v (RowSets.joinR V.r U.r)
  | 7 => v = .slice sf.1 sf.2.1 sf.2.2
  | 8 => RowsAt w v (RowSets.gone (Ros.joinL (V.m, V.f) (U.m, U.f)).2 (RowSets.joinR V.r U.r))
  | 9 => v = .pointer (some ⟨x, 3, none⟩)
  | 10 => v = .slice d.1 d.2.1 d.2.2
  | 11 => v = .pointer (some ⟨y, 3, none⟩)
  | 12 => v = .slice d'.1 d'.2.1 d'.2.2
  | 13 => Rcs encT 3 w v (Clocks.joinC V.c U.c)
  | 14 => v = .agg #[.slice a.1 a.2.1 a.2.2, .slice b.1 b.2.1 b.2.2, .slice c.1 c.2.1 c.2.2, .slice d.1 d.2.1 d.2.2, .slice e.1 e.2.1 e.2.2]
  | 15 => v = .agg #[.slice a'.1 a'.2.1 a'.2.2, .slice b'.1 b'.2.1 b'.2.2, .slice c'.1 c'.2.1 c'.2.2, .slice d'.1 d'.2.1 d'.2.2, .slice e'.1 e'.2.1 e'.2.2]
  | 16 => Ids w v (seenV V U)
  | 17 => VAt w v (joinV V U)
  | 18 => HoldsV w z (joinV V U)
  | _ => True
theorem jnF_mono (x y z : Nat) (a b c d e a' b' c' d' e' sm sf : SL) (V U : Vw) : ∀ i v w w', jnF x y z a b c d e a' b' c' d' e' sm sf V U i v w → JnR z (joinV V U) w w' → jnF x y z a b c d e a' b' c' d' e' sm sf V U i v w' := by
  intro i v w w' h hb
  unfold jnF at h ⊢
  split at h
  all_goals first | exact h | exact RowsAt.kp h hb.1 | exact Ids.kp h hb.1 | exact ticks_kp h hb.1 | exact VAt.kp h hb.1 | exact hb.2 h
set_option maxHeartbeats 16000000 in
theorem joinV_any (v u : Value) (V U : Vw) (w : World) (h : VAt w v V) (k : VAt w u U) (hV : Fit 400 V) (hU : Fit 400 U) (uV : RowSets.Up V.r) (uU : RowSets.Up U.r) :
    Calls Tryz.prog 12 #[v, u] w fun e w' => ∃ X, e = .returned X ∧ VAt w' X (joinV V U) ∧ Below w.heap.size w w' := by
  obtain ⟨a, b, c, d, e, rfl, hr⟩ := h
  obtain ⟨a', b', c', d', e', rfl, kr⟩ := k
  have q1 := below_one w (.cells #[.slice a.1 a.2.1 a.2.2, .slice b.1 b.2.1 b.2.2, .slice c.1 c.2.1 c.2.2, .slice d.1 d.2.1 d.2.2, .slice e.1 e.2.1 e.2.2] 27)
  have q2 := below_one (w.alloc (.cells #[.slice a.1 a.2.1 a.2.2, .slice b.1 b.2.1 b.2.2, .slice c.1 c.2.1 c.2.2, .slice d.1 d.2.1 d.2.2, .slice e.1 e.2.1 e.2.2] 27)) (.cells #[.slice a'.1 a'.2.1 a'.2.2, .slice b'.1 b'.2.1 b'.2.2, .slice c'.1 c'.2.1 c'.2.2, .slice d'.1 d'.2.1 d'.2.2, .slice e'.1 e'.2.1 e'.2.2] 27)
  have q3 := below_one ((w.alloc (.cells #[.slice a.1 a.2.1 a.2.2, .slice b.1 b.2.1 b.2.2, .slice c.1 c.2.1 c.2.2, .slice d.1 d.2.1 d.2.2, .slice e.1 e.2.1 e.2.2] 27)).alloc (.cells #[.slice a'.1 a'.2.1 a'.2.2, .slice b'.1 b'.2.1 b'.2.2, .slice c'.1 c'.2.1 c'.2.2, .slice d'.1 d'.2.1 d'.2.2, .slice e'.1 e'.2.1 e'.2.2] 27)) (.cells #[.slice none 0 0, .slice none 0 0, .slice none 0 0, .slice none 0 0, .slice none 0 0] 27)
  have Q := below_after (below_after q1 q2 (Nat.le_refl _)) q3 (Nat.le_refl _)
  have X1 := Lib.hid (vbox_below (vbox_below (vbox_new w a b c d e) q2) q3)
  have X2 : Hid (VBox (((w.alloc (.cells #[.slice a.1 a.2.1 a.2.2, .slice b.1 b.2.1 b.2.2, .slice c.1 c.2.1 c.2.2, .slice d.1 d.2.1 d.2.2, .slice e.1 e.2.1 e.2.2] 27)).alloc (.cells #[.slice a'.1 a'.2.1 a'.2.2, .slice b'.1 b'.2.1 b'.2.2, .slice c'.1 c'.2.1 c'.2.2, .slice d'.1 d'.2.1 d'.2.2, .slice e'.1 e'.2.1 e'.2.2] 27)).alloc (.cells #[.slice none 0 0, .slice none 0 0, .slice none 0 0, .slice none 0 0, .slice none 0 0] 27)) (w.heap.size + 1) a' b' c' d' e') := Lib.hid (by simpa using vbox_below (vbox_new (w.alloc (.cells #[.slice a.1 a.2.1 a.2.2, .slice b.1 b.2.1 b.2.2, .slice c.1 c.2.1 c.2.2, .slice d.1 d.2.1 d.2.2, .slice e.1 e.2.1 e.2.2] 27)) a' b' c' d' e') q3)
  have X3 : Hid (VBox (((w.alloc (.cells #[.slice a.1 a.2.1 a.2.2, .slice b.1 b.2.1 b.2.2, .slice c.1 c.2.1 c.2.2, .slice d.1 d.2.1 d.2.2, .slice e.1 e.2.1 e.2.2] 27)).alloc (.cells #[.slice a'.1 a'.2.1 a'.2.2, .slice b'.1 b'.2.1 b'.2.2, .slice c'.1 c'.2.1 c'.2.2, .slice d'.1 d'.2.1 d'.2.2, .slice e'.1 e'.2.1 e'.2.2] 27)).alloc (.cells #[.slice none 0 0, .slice none 0 0, .slice none 0 0, .slice none 0 0, .slice none 0 0] 27)) (w.heap.size + 1 + 1) (none, 0, 0) (none, 0, 0) (none, 0, 0) (none, 0, 0) (none, 0, 0)) := Lib.hid (by
    have := vbox_new ((w.alloc (.cells #[.slice a.1 a.2.1 a.2.2, .slice b.1 b.2.1 b.2.2, .slice c.1 c.2.1 c.2.2, .slice d.1 d.2.1 d.2.2, .slice e.1 e.2.1 e.2.2] 27)).alloc (.cells #[.slice a'.1 a'.2.1 a'.2.2, .slice b'.1 b'.2.1 b'.2.2, .slice c'.1 c'.2.1 c'.2.2, .slice d'.1 d'.2.1 d'.2.2, .slice e'.1 e'.2.1 e'.2.2] 27)) (none, 0, 0) (none, 0, 0) (none, 0, 0) (none, 0, 0) (none, 0, 0)
    simpa only [World.size_alloc] using this)
  have RA := Lib.hid (hr.below Q)
  have RB := Lib.hid (kr.below Q)
  have BQ := Lib.hid Q
  have LV := Lib.hid hV
  have LU := Lib.hid hU
  have UV := Lib.hid uV
  have UU := Lib.hid uU
  clear hr kr q1 q2 q3 Q hV hU uV uU
  obtain ⟨p0, p1, p2, p3, p4⟩ := vbox_cells X1.out
  obtain ⟨t0, t1, t2, t3, t4⟩ := vbox_cells X2.out
  go_enter Tryz.func12, Tryz.ntmps12
  go_wp2_with fail
  (with_reducible refine (join_anyROS _ _ _ _ V.m U.m V.f U.f _ RA.out.m RA.out.f RB.out.m RB.out.f (by have := LV.out.m; have := LU.out.m; omega) (by have := LV.out.f; have := LU.out.f; omega)).mono ?_)
  rintro e1 w1 ⟨Vm, Vf, rfl, hm, hf, hb⟩
  rw [Ros.joinP_is] at hm hf
  obtain ⟨sm, rfl⟩ := sl_rcs hm.reads
  obtain ⟨sf, rfl⟩ := sl_ids (ids_of_owns hf)
  have G1 : Hid (JnG w a b c d e a' b' c' d' e' sm sf V U w1) := Lib.hid ⟨vbox_below X1.out hb, vbox_below X2.out hb, ⟨_, _, _, _, _, vbox_below X3.out hb⟩, RA.out.below hb, RB.out.below hb, hm.reads, ids_of_owns hf, below_after BQ.out hb (Nat.le_refl _)⟩
  clear p0 p1 p2 p3 p4 t0 t1 t2 t3 t4 X1 X2 X3 RA RB BQ hm hf hb
  go_wp2_with fail
  refine wp_region_dueR (R := JnR (w.heap.size + 1 + 1) (joinV V U)) (by kernel_rfl) jnDs (jnF w.heap.size (w.heap.size + 1) (w.heap.size + 1 + 1) a b c d e a' b' c' d' e' sm sf V U) (JnG w a b c d e a' b' c' d' e' sm sf V U) rfl (by kernel_rfl) (by kernel_rfl) (by kernel_rfl) (jnF_mono w.heap.size (w.heap.size + 1) (w.heap.size + 1 + 1) a b c d e a' b' c' d' e' sm sf V U) (G1.out.step (below_drewN (n := 1) (Below.refl _ _))) ?_ ?_
  · clear G1
    refine AllDueR.cons (due_metR (.inl rfl) fun q w1 hG hold hf K hK => ?_) ?_
    · have f5 : q.tmps.getD 5 undef = .slice sm.1 sm.2.1 sm.2.2 := hold 5 (by kernel_rfl)
      clear hf hold
      go_simp
      exact hK _ _ hG (jnR_refl _ _ _) rfl
    refine AllDueR.cons (due_metR (.inl rfl) fun q w1 hG hold hf K hK => ?_) ?_
    · have f6 : q.tmps.getD 6 undef = .slice sf.1 sf.2.1 sf.2.2 := hold 6 (by kernel_rfl)
      clear hf hold
      go_simp
      exact hK _ _ hG (jnR_refl _ _ _) rfl
    refine AllDueR.cons (due_metR (.inl rfl) fun q w1 hG hold hf K hK => ?_) ?_
    · have f2 : q.tmps.getD 2 undef = .pointer (some ⟨w.heap.size, 0, none⟩) := hold 2 (by kernel_rfl)
      clear hf hold
      go_simp
      exact hK _ _ hG (jnR_refl _ _ _) rfl
    refine AllDueR.cons (due_metR (.inl rfl) fun q w1 hG hold hf K hK => ?_) ?_
    · have f21 : q.tmps.getD 21 undef = .pointer (some ⟨w.heap.size, 2, none⟩) := hf 2 21 (by kernel_rfl) rfl
      have q21 := f21
      rw [Array.getD_eq_getD_getElem?] at q21
      obtain ⟨p0, p1, p2, p3, p4⟩ := vbox_cells hG.p
      clear hf hold
      go_simp
      exact hK _ _ hG (jnR_refl _ _ _) rfl
    refine AllDueR.cons (due_metR (.inl rfl) fun q w1 hG hold hf K hK => ?_) ?_
    · have f3 : q.tmps.getD 3 undef = .pointer (some ⟨w.heap.size + 1, 0, none⟩) := hold 3 (by kernel_rfl)
      clear hf hold
      go_simp
      exact hK _ _ hG (jnR_refl _ _ _) rfl
    refine AllDueR.cons (due_metR (.inl rfl) fun q w1 hG hold hf K hK => ?_) ?_
    · have f23 : q.tmps.getD 23 undef = .pointer (some ⟨w.heap.size + 1, 2, none⟩) := hf 4 23 (by kernel_rfl) rfl
      have q23 := f23
      rw [Array.getD_eq_getD_getElem?] at q23
      obtain ⟨p0, p1, p2, p3, p4⟩ := vbox_cells hG.q
      clear hf hold
      go_simp
      exact hK _ _ hG (jnR_refl _ _ _) rfl
    refine AllDueR.cons (due_metR (.inl rfl) fun q w1 hG hold hf K hK => ?_) ?_
    · have f22 : q.tmps.getD 22 undef = .slice c.1 c.2.1 c.2.2 := hf 3 22 (by kernel_rfl) rfl
      have q22 := f22
      rw [Array.getD_eq_getD_getElem?] at q22
      have f24 : q.tmps.getD 24 undef = .slice c'.1 c'.2.1 c'.2.2 := hf 5 24 (by kernel_rfl) rfl
      have q24 := f24
      rw [Array.getD_eq_getD_getElem?] at q24
      clear hf hold
      go_simp
      go_at_call 50
      (with_reducible refine (join_rows _ _ V.r U.r _ hG.r.r hG.t.r UV.out UU.out (fit_small LV.out) (fit_small LU.out)).mono ?_)
      rintro e' w' ⟨X, rfl, h1, h2⟩
      exact hK _ _ (hG.step h2) (jnR_of h2) h1
    refine AllDueR.cons (due_metR (.inl rfl) fun q w1 hG hold hf K hK => ?_) ?_
    · have f6 : q.tmps.getD 6 undef = .slice sf.1 sf.2.1 sf.2.2 := hold 6 (by kernel_rfl)
      clear hf hold
      go_simp
      exact hK _ _ hG (jnR_refl _ _ _) rfl
    refine AllDueR.cons (due_metR (.inl rfl) fun q w1 hG hold hf K hK => ?_) ?_
    · have r25 : RowsAt w1 (q.tmps.getD 25 undef) (RowSets.joinR V.r U.r) := hf 6 25 (by kernel_rfl) rfl
      obtain ⟨x25, e25⟩ : ∃ x, q.tmps.getD 25 undef = x := ⟨_, rfl⟩
      rw [e25] at r25
      have q25 := e25
      rw [Array.getD_eq_getD_getElem?] at q25
      have f26 : q.tmps.getD 26 undef = .slice sf.1 sf.2.1 sf.2.2 := hf 7 26 (by kernel_rfl) rfl
      have q26 := f26
      rw [Array.getD_eq_getD_getElem?] at q26
      clear hf hold
      go_simp
      go_at_call 40
      (with_reducible refine (gone_any _ _ (RowSets.joinR V.r U.r) (Ros.joinL (V.m, V.f) (U.m, U.f)).2 _ r25 hG.hf (Nat.le_trans (RowSets.joinR_len _ _) (by have := LV.out.r; have := LU.out.r; omega)) (nots_joinR (n := 20000) (m := 20000) (fun r hr => Nat.le_trans (LV.out.n r hr) (by decide)) (fun r hr => Nat.le_trans (LU.out.n r hr) (by decide))) (Nat.le_trans (lenJ_f _ _) (by decide))).mono ?_)
      rintro e' w' ⟨X, rfl, h1, h2⟩
      exact hK _ _ (hG.step h2) (jnR_of h2) h1
    refine AllDueR.cons (due_metR (.inl rfl) fun q w1 hG hold hf K hK => ?_) ?_
    · have f2 : q.tmps.getD 2 undef = .pointer (some ⟨w.heap.size, 0, none⟩) := hold 2 (by kernel_rfl)
      clear hf hold
      go_simp
      exact hK _ _ hG (jnR_refl _ _ _) rfl
    refine AllDueR.cons (due_metR (.inl rfl) fun q w1 hG hold hf K hK => ?_) ?_
    · have f28 : q.tmps.getD 28 undef = .pointer (some ⟨w.heap.size, 3, none⟩) := hf 9 28 (by kernel_rfl) rfl
      have q28 := f28
      rw [Array.getD_eq_getD_getElem?] at q28
      obtain ⟨p0, p1, p2, p3, p4⟩ := vbox_cells hG.p
      clear hf hold
      go_simp
      exact hK _ _ hG (jnR_refl _ _ _) rfl
    refine AllDueR.cons (due_metR (.inl rfl) fun q w1 hG hold hf K hK => ?_) ?_
    · have f3 : q.tmps.getD 3 undef = .pointer (some ⟨w.heap.size + 1, 0, none⟩) := hold 3 (by kernel_rfl)
      clear hf hold
      go_simp
      exact hK _ _ hG (jnR_refl _ _ _) rfl
    refine AllDueR.cons (due_metR (.inl rfl) fun q w1 hG hold hf K hK => ?_) ?_
    · have f30 : q.tmps.getD 30 undef = .pointer (some ⟨w.heap.size + 1, 3, none⟩) := hf 11 30 (by kernel_rfl) rfl
      have q30 := f30
      rw [Array.getD_eq_getD_getElem?] at q30
      obtain ⟨p0, p1, p2, p3, p4⟩ := vbox_cells hG.q
      clear hf hold
      go_simp
      exact hK _ _ hG (jnR_refl _ _ _) rfl
    refine AllDueR.cons (due_metR (.inl rfl) fun q w1 hG hold hf K hK => ?_) ?_
    · have f29 : q.tmps.getD 29 undef = .slice d.1 d.2.1 d.2.2 := hf 10 29 (by kernel_rfl) rfl
      have q29 := f29
      rw [Array.getD_eq_getD_getElem?] at q29
      have f31 : q.tmps.getD 31 undef = .slice d'.1 d'.2.1 d'.2.2 := hf 12 31 (by kernel_rfl) rfl
      have q31 := f31
      rw [Array.getD_eq_getD_getElem?] at q31
      clear hf hold
      go_simp
      go_at_call 51
      (with_reducible refine (join_anyCLK _ _ V.c U.c _ hG.r.c hG.t.c (Nat.le_trans LV.out.c (by decide)) (Nat.le_trans LU.out.c (by decide))).mono ?_)
      rintro e' w' ⟨X, rfl, h1, h2⟩
      exact hK _ _ (hG.step h2) (jnR_of h2) h1
    refine AllDueR.cons (due_metR (.inl rfl) fun q w1 hG hold hf K hK => ?_) ?_
    · have f2 : q.tmps.getD 2 undef = .pointer (some ⟨w.heap.size, 0, none⟩) := hold 2 (by kernel_rfl)
      obtain ⟨p0, p1, p2, p3, p4⟩ := vbox_cells hG.p
      clear hf hold
      go_simp
      exact hK _ _ hG (jnR_refl _ _ _) rfl
    refine AllDueR.cons (due_metR (.inl rfl) fun q w1 hG hold hf K hK => ?_) ?_
    · have f3 : q.tmps.getD 3 undef = .pointer (some ⟨w.heap.size + 1, 0, none⟩) := hold 3 (by kernel_rfl)
      obtain ⟨p0, p1, p2, p3, p4⟩ := vbox_cells hG.q
      clear hf hold
      go_simp
      exact hK _ _ hG (jnR_refl _ _ _) rfl
    refine AllDueR.cons (due_metR (.inl rfl) fun q w1 hG hold hf K hK => ?_) ?_
    · have f33 : q.tmps.getD 33 undef = .agg #[.slice a.1 a.2.1 a.2.2, .slice b.1 b.2.1 b.2.2, .slice c.1 c.2.1 c.2.2, .slice d.1 d.2.1 d.2.2, .slice e.1 e.2.1 e.2.2] := hf 14 33 (by kernel_rfl) rfl
      have q33 := f33
      rw [Array.getD_eq_getD_getElem?] at q33
      have f34 : q.tmps.getD 34 undef = .agg #[.slice a'.1 a'.2.1 a'.2.2, .slice b'.1 b'.2.1 b'.2.2, .slice c'.1 c'.2.1 c'.2.2, .slice d'.1 d'.2.1 d'.2.2, .slice e'.1 e'.2.1 e'.2.2] := hf 15 34 (by kernel_rfl) rfl
      have q34 := f34
      rw [Array.getD_eq_getD_getElem?] at q34
      clear hf hold
      go_simp
      go_at_call 52
      (with_reducible refine (seen_any _ _ V U _ hG.r.at_ hG.t.at_ (LV.out.mono (by decide)) (LU.out.mono (by decide))).mono ?_)
      rintro e' w' ⟨X, rfl, h1, h2⟩
      exact hK _ _ (hG.step h2) (jnR_of h2) h1
    refine AllDueR.cons (due_metR (.inl rfl) fun q w1 hG hold hf K hK => ?_) ?_
    · have f19 : q.tmps.getD 19 undef = .slice sm.1 sm.2.1 sm.2.2 := hf 0 19 (by kernel_rfl) rfl
      have q19 := f19
      rw [Array.getD_eq_getD_getElem?] at q19
      have f20 : q.tmps.getD 20 undef = .slice sf.1 sf.2.1 sf.2.2 := hf 1 20 (by kernel_rfl) rfl
      have q20 := f20
      rw [Array.getD_eq_getD_getElem?] at q20
      have r27 : RowsAt w1 (q.tmps.getD 27 undef) (RowSets.gone (Ros.joinL (V.m, V.f) (U.m, U.f)).2 (RowSets.joinR V.r U.r)) := hf 8 27 (by kernel_rfl) rfl
      obtain ⟨x27, e27⟩ : ∃ x, q.tmps.getD 27 undef = x := ⟨_, rfl⟩
      rw [e27] at r27
      have q27 := e27
      rw [Array.getD_eq_getD_getElem?] at q27
      have r32 : Rcs encT 3 w1 (q.tmps.getD 32 undef) (Clocks.joinC V.c U.c) := hf 13 32 (by kernel_rfl) rfl
      obtain ⟨x32, e32⟩ : ∃ x, q.tmps.getD 32 undef = x := ⟨_, rfl⟩
      rw [e32] at r32
      have q32 := e32
      rw [Array.getD_eq_getD_getElem?] at q32
      have r35 : Ids w1 (q.tmps.getD 35 undef) (seenV V U) := hf 16 35 (by kernel_rfl) rfl
      obtain ⟨x35, e35⟩ : ∃ x, q.tmps.getD 35 undef = x := ⟨_, rfl⟩
      rw [e35] at r35
      have q35 := e35
      rw [Array.getD_eq_getD_getElem?] at q35
      obtain ⟨s27, rfl⟩ := sl_rows r27
      obtain ⟨s32, rfl⟩ := sl_rcs r32
      obtain ⟨s35, rfl⟩ := sl_ids r35
      clear hf hold
      go_simp
      exact hK _ _ hG (jnR_refl _ _ _) (vAt_of hG.hm hG.hf r27 r32 r35)
    refine AllDueR.cons (due_metR (.inl rfl) fun q w1 hG hold hf K hK => ?_) ?_
    · have f4 : q.tmps.getD 4 undef = .pointer (some ⟨w.heap.size + 1 + 1, 0, none⟩) := hold 4 (by kernel_rfl)
      have r36 : VAt w1 (q.tmps.getD 36 undef) (joinV V U) := hf 17 36 (by kernel_rfl) rfl
      obtain ⟨x36, e36⟩ : ∃ x, q.tmps.getD 36 undef = x := ⟨_, rfl⟩
      rw [e36] at r36
      have q36 := e36
      rw [Array.getD_eq_getD_getElem?] at q36
      obtain ⟨s0, s1, s2, s3, s4, rfl, hr⟩ := r36
      obtain ⟨z0, z1, z2, z3, z4, hz⟩ := hG.z
      obtain ⟨k0, k1, k2, k3, k4⟩ := vbox_cells hz
      obtain ⟨f0, f1, f2, f3, f5⟩ := vbox_free hz
      clear hf hold
      go_simp
      have hk := kp_set hz [.slice s0.1 s0.2.1 s0.2.2, .slice s1.1 s1.2.1 s1.2.2, .slice s2.1 s2.2.1 s2.2.2, .slice s3.1 s3.2.1 s3.2.2, .slice s4.1 s4.2.1 s4.2.2]
      have hv : HoldsV (w1.setCells (w.heap.size + 1 + 1) 0 [.slice s0.1 s0.2.1 s0.2.2, .slice s1.1 s1.2.1 s1.2.2, .slice s2.1 s2.2.1 s2.2.2, .slice s3.1 s3.2.1 s3.2.2, .slice s4.1 s4.2.1 s4.2.2]) (w.heap.size + 1 + 1) (joinV V U) := ⟨s0, s1, s2, s3, s4, vbox_set hz s0 s1 s2 s3 s4, hr.kp hk⟩
      exact hK undef _ (hG.put hz) ⟨hk, fun _ => hv⟩ hv
    exact AllDueR.nil
  · intro ac w7 hG hd hs hold hf hdone
    obtain ⟨_, hJ⟩ := hdone 18 (by decide) rfl
    have hJ : HoldsV w7 (w.heap.size + 1 + 1) (joinV V U) := hJ
    have k4 : ac.tmps.getD 4 undef = .pointer (some ⟨w.heap.size + 1 + 1, 0, none⟩) := hold 4 (by kernel_rfl)
    have k4' := k4
    rw [Array.getD_eq_getD_getElem?] at k4'
    obtain ⟨s0, s1, s2, s3, s4, hb, hr⟩ := hJ
    obtain ⟨c0, c1, c2, c3, c4⟩ := vbox_cells hb
    clear hf hold hdone G1
    go_wp2_with fail
    refine bodyPost_ret (v := .agg #[.slice s0.1 s0.2.1 s0.2.2, .slice s1.1 s1.2.1 s1.2.2, .slice s2.1 s2.2.1 s2.2.2, .slice s3.1 s3.2.1 s3.2.2, .slice s4.1 s4.2.1 s4.2.2]) (by simp [results, Tryz.results12, go_sem, k4', c0, c1, c2, c3, c4]) hd ?_
    exact ⟨_, rfl, hr.at_, hG.below⟩
end Go.Proofs.YtjlnnmjhbccdoaaGreat
namespace Go.Proofs.YtjlnnmjhbccdoaaGreat
open Go Go.RowKit
theorem seen_len (V U : Vw) : (seenV V U).length ≤ V.s.length + U.s.length := by
  unfold seenV
  split
  · exact join_lenROW _ _
  · split
    · omega
    · split
      · omega
      · simp
theorem fit_join {n : Nat} {V U : Vw} (h : Fit n V) (k : Fit n U) (hn : 50 ≤ n) : Fit (n + n) (joinV V U) where
  m := Nat.le_trans (lenJ_m _ _) (by omega)
  f := Nat.le_trans (lenJ_f _ _) (by omega)
  r := Nat.le_trans (gone_len _ _) (Nat.le_trans (RowSets.joinR_len _ _) (by have := h.r; have := k.r; omega))
  c := Nat.le_trans (Clocks.join_len _ _) (by have := h.c; have := k.c; omega)
  s := Nat.le_trans (seen_len _ _) (by have := h.s; have := k.s; omega)
  n := gone_nots_len (nots_joinR h.n k.n)
/-- What stands of the world: two views in blocks. -/
structure TwG (w : World) (g g' : Nat) (a b c d e a' b' c' d' e' : SL) (V U : Vw) (W : World) : Prop where
  p : VBox W g a b c d e
  q : VBox W g' a' b' c' d' e'
  r : RV W a b c d e V
  t : RV W a' b' c' d' e' U
  below : Below w.heap.size w W
theorem TwG.step {w : World} {g g' : Nat} {a b c d e a' b' c' d' e' : SL} {V U : Vw} {W W' : World} (h : TwG w g g' a b c d e a' b' c' d' e' V U W) (hb : Below W.heap.size W W') : TwG w g g' a b c d e a' b' c' d' e' V U W' := ⟨vbox_below h.p hb, vbox_below h.q hb, h.r.below hb, h.t.below hb, below_after h.below hb (Nat.le_refl _)⟩
/-- Does a view cover another one? -/
def covB (V U : Vw) : Bool := coreB V (joinV V U)
/-- The slots of the region's operations. -/
def cvDs : List (Option Tmp) := [some 5, some 6, some 7, some 8, some 9, some 4]
/-- What is said of them. -/
def cvF (_ _ : Nat) (a b c d e a' b' c' d' e' : SL) (V U : Vw) : Nat → Value → World → Prop := fun i v w => match i with
  | 0 => v = .agg #[.slice a.1 a.2.1 a.2.2, .slice b.1 b.2.1 b.2.2, .slice c.1 c.2.1 c.2.2, .slice d.1 d.2.1 d.2.2, .slice e.1 e.2.1 e.2.2]
  | 1 => v = .agg #[.slice a.1 a.2.1 a.2.2, .slice b.1 b.2.1 b.2.2, .slice c.1 c.2.1 c.2.2, .slice d.1 d.2.1 d.2.2, .slice e.1 e.2.1 e.2.2]
  | 2 => v = .agg #[.slice a'.1 a'.2.1 a'.2.2, .slice b'.1 b'.2.1 b'.2.2, .slice c'.1 c'.2.1 c'.2.2, .slice d'.1 d'.2.1 d'.2.2, .slice e'.1 e'.2.1 e'.2.2]
  | 3 => VAt w v (joinV V U)
  | 4 => v = .bool (covB V U)
  | 5 => v = .bool (covB V U)
  | _ => True
theorem cvF_mono (x y : Nat) (a b c d e a' b' c' d' e' : SL) (V U : Vw) : ∀ i v w w', cvF x y a b c d e a' b' c' d' e' V U i v w → Below w.heap.size w w' → cvF x y a b c d e a' b' c' d' e' V U i v w' := by
  intro i v w w' h hb
  unfold cvF at h ⊢
  split at h
  all_goals first | exact h | exact h.below hb
set_option maxHeartbeats 16000000 in
theorem covers_any (v u : Value) (V U : Vw) (w : World) (h : VAt w v V) (k : VAt w u U) (hV : Fit 400 V) (hU : Fit 400 U) (uV : RowSets.Up V.r) (uU : RowSets.Up U.r) :
    Calls Tryz.prog 26 #[v, u] w fun e w' => e = .returned (.bool (covB V U)) ∧ Below w.heap.size w w' := by
  obtain ⟨a, b, c, d, e, rfl, hr⟩ := h
  obtain ⟨a', b', c', d', e', rfl, kr⟩ := k
  have X1 := Lib.hid (vbox_below (vbox_new w a b c d e) (below_one _ (.cells #[.slice a'.1 a'.2.1 a'.2.2, .slice b'.1 b'.2.1 b'.2.2, .slice c'.1 c'.2.1 c'.2.2, .slice d'.1 d'.2.1 d'.2.2, .slice e'.1 e'.2.1 e'.2.2] 27)))
  have X2 : Hid (VBox ((w.alloc (.cells #[.slice a.1 a.2.1 a.2.2, .slice b.1 b.2.1 b.2.2, .slice c.1 c.2.1 c.2.2, .slice d.1 d.2.1 d.2.2, .slice e.1 e.2.1 e.2.2] 27)).alloc (.cells #[.slice a'.1 a'.2.1 a'.2.2, .slice b'.1 b'.2.1 b'.2.2, .slice c'.1 c'.2.1 c'.2.2, .slice d'.1 d'.2.1 d'.2.2, .slice e'.1 e'.2.1 e'.2.2] 27)) (w.heap.size + 1) a' b' c' d' e') := Lib.hid (by simpa using vbox_new (w.alloc (.cells #[.slice a.1 a.2.1 a.2.2, .slice b.1 b.2.1 b.2.2, .slice c.1 c.2.1 c.2.2, .slice d.1 d.2.1 d.2.2, .slice e.1 e.2.1 e.2.2] 27)) a' b' c' d' e')
  have BB := Lib.hid (below_two w (.cells #[.slice a.1 a.2.1 a.2.2, .slice b.1 b.2.1 b.2.2, .slice c.1 c.2.1 c.2.2, .slice d.1 d.2.1 d.2.2, .slice e.1 e.2.1 e.2.2] 27) (.cells #[.slice a'.1 a'.2.1 a'.2.2, .slice b'.1 b'.2.1 b'.2.2, .slice c'.1 c'.2.1 c'.2.2, .slice d'.1 d'.2.1 d'.2.2, .slice e'.1 e'.2.1 e'.2.2] 27))
  have RA := Lib.hid (hr.below BB.out)
  have RB := Lib.hid (kr.below BB.out)
  clear hr kr
  obtain ⟨p0, p1, p2, p3, p4⟩ := vbox_cells X1.out
  obtain ⟨q0, q1, q2, q3, q4⟩ := vbox_cells X2.out
  have G1 : Hid (TwG w w.heap.size (w.heap.size + 1) a b c d e a' b' c' d' e' V U ((w.alloc (.cells #[.slice a.1 a.2.1 a.2.2, .slice b.1 b.2.1 b.2.2, .slice c.1 c.2.1 c.2.2, .slice d.1 d.2.1 d.2.2, .slice e.1 e.2.1 e.2.2] 27)).alloc (.cells #[.slice a'.1 a'.2.1 a'.2.2, .slice b'.1 b'.2.1 b'.2.2, .slice c'.1 c'.2.1 c'.2.2, .slice d'.1 d'.2.1 d'.2.2, .slice e'.1 e'.2.1 e'.2.2] 27))) := Lib.hid ⟨X1.out, X2.out, RA.out, RB.out, BB.out⟩
  have LV := Lib.hid hV
  have LU := Lib.hid hU
  have UV := Lib.hid uV
  have UU := Lib.hid uU
  clear hV hU uV uU p0 p1 p2 p3 p4 q0 q1 q2 q3 q4 X1 X2 RA RB BB
  go_enter Tryz.func26, Tryz.ntmps26
  go_wp2_with fail
  refine wp_region_due (by kernel_rfl) cvDs (cvF w.heap.size (w.heap.size + 1) a b c d e a' b' c' d' e' V U) (TwG w w.heap.size (w.heap.size + 1) a b c d e a' b' c' d' e' V U) rfl (by kernel_rfl) (by kernel_rfl) (by kernel_rfl) (cvF_mono w.heap.size (w.heap.size + 1) a b c d e a' b' c' d' e' V U) (G1.out.step (below_drewN (n := 1) (Below.refl _ _))) ?_ ?_
  · clear G1
    refine AllDue.cons (due_met (.inl rfl) fun q w1 hG hold hf K hK => ?_) ?_
    · have f2 : q.tmps.getD 2 undef = .pointer (some ⟨w.heap.size, 0, none⟩) := hold 2 (by kernel_rfl)
      obtain ⟨p0, p1, p2, p3, p4⟩ := vbox_cells hG.p
      clear hf hold
      go_simp
      exact hK _ _ hG (Below.refl _ _) rfl
    refine AllDue.cons (due_met (.inl rfl) fun q w1 hG hold hf K hK => ?_) ?_
    · have f2 : q.tmps.getD 2 undef = .pointer (some ⟨w.heap.size, 0, none⟩) := hold 2 (by kernel_rfl)
      obtain ⟨p0, p1, p2, p3, p4⟩ := vbox_cells hG.p
      clear hf hold
      go_simp
      exact hK _ _ hG (Below.refl _ _) rfl
    refine AllDue.cons (due_met (.inl rfl) fun q w1 hG hold hf K hK => ?_) ?_
    · have f3 : q.tmps.getD 3 undef = .pointer (some ⟨w.heap.size + 1, 0, none⟩) := hold 3 (by kernel_rfl)
      obtain ⟨p0, p1, p2, p3, p4⟩ := vbox_cells hG.q
      clear hf hold
      go_simp
      exact hK _ _ hG (Below.refl _ _) rfl
    refine AllDue.cons (due_met (.inl rfl) fun q w1 hG hold hf K hK => ?_) ?_
    · have f6 : q.tmps.getD 6 undef = .agg #[.slice a.1 a.2.1 a.2.2, .slice b.1 b.2.1 b.2.2, .slice c.1 c.2.1 c.2.2, .slice d.1 d.2.1 d.2.2, .slice e.1 e.2.1 e.2.2] := hf 1 6 (by kernel_rfl) rfl
      have q6 := f6
      rw [Array.getD_eq_getD_getElem?] at q6
      have f7 : q.tmps.getD 7 undef = .agg #[.slice a'.1 a'.2.1 a'.2.2, .slice b'.1 b'.2.1 b'.2.2, .slice c'.1 c'.2.1 c'.2.2, .slice d'.1 d'.2.1 d'.2.2, .slice e'.1 e'.2.1 e'.2.2] := hf 2 7 (by kernel_rfl) rfl
      have q7 := f7
      rw [Array.getD_eq_getD_getElem?] at q7
      clear hf hold
      go_simp
      go_at_call 12
      (with_reducible refine (joinV_any _ _ V U _ hG.r.at_ hG.t.at_ LV.out LU.out UV.out UU.out).mono ?_)
      rintro e' w' ⟨X, rfl, h1, h2⟩
      exact hK _ _ (hG.step h2) h2 h1
    refine AllDue.cons (due_met (.inl rfl) fun q w1 hG hold hf K hK => ?_) ?_
    · have f5 : q.tmps.getD 5 undef = .agg #[.slice a.1 a.2.1 a.2.2, .slice b.1 b.2.1 b.2.2, .slice c.1 c.2.1 c.2.2, .slice d.1 d.2.1 d.2.2, .slice e.1 e.2.1 e.2.2] := hf 0 5 (by kernel_rfl) rfl
      have q5 := f5
      rw [Array.getD_eq_getD_getElem?] at q5
      have r8 : VAt w1 (q.tmps.getD 8 undef) (joinV V U) := hf 3 8 (by kernel_rfl) rfl
      obtain ⟨x8, e8⟩ : ∃ x, q.tmps.getD 8 undef = x := ⟨_, rfl⟩
      rw [e8] at r8
      have q8 := e8
      rw [Array.getD_eq_getD_getElem?] at q8
      clear hf hold
      go_simp
      go_at_call 24
      (with_reducible refine (core_any _ _ V (joinV V U) _ hG.r.at_ r8 (LV.out.mono (by decide)) ((fit_join LV.out LU.out (by decide)).mono (by decide))).mono ?_)
      rintro e' w' ⟨rfl, h2⟩
      exact hK _ _ (hG.step h2) h2 rfl
    refine AllDue.cons (due_met (.inl rfl) fun q w1 hG hold hf K hK => ?_) ?_
    · have f9 : q.tmps.getD 9 undef = .bool (covB V U) := hf 4 9 (by kernel_rfl) rfl
      have q9 := f9
      rw [Array.getD_eq_getD_getElem?] at q9
      clear hf hold
      go_simp
      exact hK _ _ hG (Below.refl _ _) rfl
    exact AllDue.nil
  · intro ac w7 hG hd hs hold hf
    have f4 : ac.tmps.getD 4 undef = .bool (covB V U) := hf 5 4 rfl
    clear hf hold
    go_wp2_with fail
    refine bodyPost_ret (results_tmp rfl _ _ _) hd ?_
    exact ⟨by rw [f4], hG.below⟩
theorem at_any (x : Int) (w : World) : Calls Tryz.prog 32 #[.int .i64 x] w fun e w' => e = .returned (.agg #[.int .i64 x, .int .i64 1]) ∧ Below w.heap.size w w' := by
  have BB := Lib.hid (below_one w (.cells #[.int .i64 x, .int .i64 1] 29))
  obtain ⟨c1, c2⟩ := box_cells (box_new w 0 0)
  obtain ⟨f1, f2⟩ := box_free (box_new w 0 0)
  go_enter Tryz.func32, Tryz.ntmps32
  go_wp2_with fail
  refine bodyPost_ret (v := .agg #[.int .i64 x, .int .i64 1]) (by simp [results, Tryz.results32, go_sem]) rfl ?_
  exact ⟨rfl, BB.out⟩
/-- What is answered on whether a view is long. -/
def LongAns (V : Vw) (w : World) (e : Ending) (w' : World) : Prop := ∃ z, e = .returned (.bool z) ∧ (z = false → Fit 70 V) ∧ Below w.heap.size w w'
theorem long_yes {V : Vw} {w w' : World} (hb : Below w.heap.size w w') : LongAns V w (.returned (.bool true)) w' := ⟨true, rfl, (fun h => by cases h), hb⟩
theorem long_no {V : Vw} {w w' : World} (h : Fit 70 V) (hb : Below w.heap.size w w') : LongAns V w (.returned (.bool false)) w' := ⟨false, rfl, (fun _ => h), hb⟩
set_option maxHeartbeats 8000000 in
/-- Is a view more than a statement goes over? Where it is not, its lists are short. -/
theorem longV_any (v : Value) (V : Vw) (w : World) (h : VAt w v V) :
    Calls Tryz.prog 7 #[v] w (LongAns V w) := by
  obtain ⟨a, b, c, d, e, rfl, hr⟩ := h
  have X1 := Lib.hid (vbox_new w a b c d e)
  have BB := Lib.hid (below_one w (.cells #[.slice a.1 a.2.1 a.2.2, .slice b.1 b.2.1 b.2.2, .slice c.1 c.2.1 c.2.2, .slice d.1 d.2.1 d.2.2, .slice e.1 e.2.1 e.2.2] 27))
  have RA := Lib.hid (hr.below BB.out)
  have L0 := rcs_len hr.m
  have L1 := ids_len hr.f
  have L2 := rows_len hr.r
  have L3 := rcs_len hr.c
  have L4 := ids_len hr.s
  have HF : Hid (a.2.1 ≤ 40 → b.2.1 ≤ 40 → c.2.1 ≤ 70 → d.2.1 ≤ 70 → e.2.1 ≤ 70 → (∀ r ∈ V.r, r.2.2.length ≤ 70) → Fit 70 V) := Lib.hid fun h0 h1 h2 h3 h4 h5 => ⟨by omega, by omega, by omega, by omega, by omega, h5⟩
  have HL := Lib.hid L2
  clear hr L0 L1 L2 L3 L4
  obtain ⟨p0, p1, p2, p3, p4⟩ := vbox_cells X1.out
  go_enter Tryz.func7, Tryz.ntmps7
  by_cases h0 : 40 < a.2.1
  · have hd0 : decide ((40 : Int) < (a.2.1 : Int)) = true := by simp; omega
    go_wp2_with fail
    go_ret
    exact long_yes BB.out
  · have hd0 : decide ((40 : Int) < (a.2.1 : Int)) = false := by simp; omega
    by_cases h1 : 40 < b.2.1
    · have hd1 : decide ((40 : Int) < (b.2.1 : Int)) = true := by simp; omega
      go_wp2_with fail
      go_ret
      exact long_yes BB.out
    · have hd1 : decide ((40 : Int) < (b.2.1 : Int)) = false := by simp; omega
      by_cases h2 : 70 < c.2.1
      · have hd2 : decide ((70 : Int) < (c.2.1 : Int)) = true := by simp; omega
        go_wp2_with fail
        go_ret
        exact long_yes BB.out
      · have hd2 : decide ((70 : Int) < (c.2.1 : Int)) = false := by simp; omega
        by_cases h3 : 70 < d.2.1
        · have hd3 : decide ((70 : Int) < (d.2.1 : Int)) = true := by simp; omega
          go_wp2_with fail
          go_ret
          exact long_yes BB.out
        · have hd3 : decide ((70 : Int) < (d.2.1 : Int)) = false := by simp; omega
          by_cases h4 : 70 < e.2.1
          · have hd4 : decide ((70 : Int) < (e.2.1 : Int)) = true := by simp; omega
            go_wp2_with fail
            go_ret
            exact long_yes BB.out
          · have hd4 : decide ((70 : Int) < (e.2.1 : Int)) = false := by simp; omega
            clear p0 p1 p3 p4
            go_wp2_with fail
            go_loop [3] (fun s3 => ∃ k : Nat, k ≤ c.2.1 ∧ s3 = .int .i64 k ∧ Hid (∀ r ∈ V.r.take k, r.2.2.length ≤ 70)) (fun s3 => c.2.1 - (intOf s3).toNat)
            case atStart => exact ⟨0, by omega, rfl, Lib.hid (fun r hr => by simp at hr)⟩
            case round =>
              obtain ⟨k, hkl, rfl, HT⟩ := hrel
              have i3 : (0 : Int) ≤ (k : Int) := by omega
              by_cases hlt : k < c.2.1
              · have hdk : decide ((k : Int) < (c.2.1 : Int)) = true := by simp; omega
                have i4 : (k : Int) < (c.2.1 : Int) := by omega
                have hlt2 : k < V.r.length := by have := HL.out; omega
                obtain ⟨ad, B, x, y, hA, hs, hc⟩ := rows_cells RA.out.r hlt2
                obtain ⟨c1, c2, c3, c4⟩ := hc _ (Below.refl _ _)
                have H0 := Lib.hid fun (h : x ≤ 70) => (show ∀ r ∈ V.r.take (k + 1), r.2.2.length ≤ 70 from fun r hr => by
                  rw [List.take_succ_eq_append_getElem hlt2] at hr
                  rcases List.mem_append.1 hr with hr | hr
                  · exact HT.out r hr
                  · rw [List.mem_singleton.1 hr, ← ids_len hs]; exact h)
                clear hc c1 c2 c3 hs HT
                have p2' := p2.trans (show some (Value.slice c.1 c.2.1 c.2.2) = some (Value.slice (some ad) c.2.1 c.2.2) by rw [hA])
                clear hA p2
                by_cases hm : 70 < x
                · have hd2 : decide ((70 : Int) < (x : Int)) = true := by simp; omega
                  go_wp2_with fail
                  go_ret
                  exact long_yes BB.out
                · have hd2 : decide ((70 : Int) < (x : Int)) = false := by simp; omega
                  have HN := Lib.hid (H0.out (by omega))
                  clear H0
                  go_wp2_with fail
                  go_round
                  case rel => exact ⟨k + 1, by omega, by go_num, HN⟩
                  case measure => simp [intOf]; omega
              · have hdk : decide ((k : Int) < (c.2.1 : Int)) = false := by simp; omega
                have HN := Lib.hid (show ∀ r ∈ V.r, r.2.2.length ≤ 70 from fun r hr => HT.out r (by rw [List.take_of_length_le (by have := HL.out; omega)]; exact hr))
                go_wp2_with fail
                go_ret
                have HZ := HF.out (by omega) (by omega) (by omega) (by omega) (by omega) HN.out
                exact long_no HZ BB.out
end Go.Proofs.YtjlnnmjhbccdoaaGreat
namespace Go.Proofs.YtjlnnmjhbccdoaaGreat
open Go Go.RowKit
theorem cov_parts {V U : Vw} (h : covB V U = true) : Ros.joinL (V.m, V.f) (U.m, U.f) = (V.m, V.f) ∧ Clocks.joinC V.c U.c = V.c := by
  unfold covB coreB at h
  rw [Bool.and_eq_true, Bool.and_eq_true, Bool.and_eq_true] at h
  obtain ⟨h1, h2, _, h4⟩ := h
  have h1 := of_decide_eq_true h1
  have h2 : V.f = (joinV V U).f := by unfold sameB at h2; exact of_decide_eq_true h2
  have h4 := of_decide_eq_true h4
  exact ⟨Prod.ext h1.symm h2.symm, h4.symm⟩
theorem may_parts {V : Vw} (h : mayV V = true) : Ros.mayB V.m V.f = true ∧ mayBROW V.r = true := by
  unfold mayV at h
  rw [Bool.and_eq_true, Bool.and_eq_true] at h
  exact ⟨h.1, h.2.1⟩
theorem may_up {V : Vw} (h : mayV V = true) : RowSets.Up V.r := ((may_iff _).1 (may_parts h).2).2.2
theorem got_is {m : List Ros.Mm} {y : Sets.Id2} {n : Ros.Mm} (h : Ros.getO m y = some n) : n ∈ m ∧ n.1 = y := by
  unfold Ros.getO at h
  have h1 := List.mem_of_find?_eq_some h
  have h2 := List.find?_some h
  unfold Ros.ofId at h2
  exact ⟨h1, by simpa using h2⟩
theorem floor_le {f : List Sets.Id2} {a c : Int} (h0 : 0 ≤ c) (h : ∀ g ∈ f, g.1 = a → g.2 ≤ c) : Ros.floorZ f a ≤ c := by
  induction f with
  | nil => exact h0
  | cons x l ih =>
    rw [Ros.floorZ_cons]
    have h1 := ih fun g hg => h g (List.mem_cons_of_mem _ hg)
    split
    · rename_i e
      have := h x (List.mem_cons_self ..) e
      omega
    · exact h1
/-- What is told of an ID by a view that covers another one, and by that. -/
structure BackFacts (is was gA gB : Bool) (x3 x4 y3 y4 fA fB sA sB : Int) : Prop where
  f1 : was = true → is = false → gA = true
  f2 : was = true → is = true → y3 ≤ x3 ∧ 0 ≤ y4 ∧ (0 < y4 → 0 < x4 ∧ x4 ≤ y4)
  f3 : gB = true → gA = true ∧ is = false
  f4 : fB ≤ fA
  f5 : sB ≤ sA
theorem back_facts {V U : Vw} (hU : mayV U = true) (hc : covB V U = true) (p q : Int) :
    BackFacts (Ros.getO V.m (p, q)).isSome (Ros.getO U.m (p, q)).isSome (Ros.goneB V.f (p, q)) (Ros.goneB U.f (p, q)) ((Ros.getO V.m (p, q)).getD noneM).2.1 ((Ros.getO V.m (p, q)).getD noneM).2.2 ((Ros.getO U.m (p, q)).getD noneM).2.1 ((Ros.getO U.m (p, q)).getD noneM).2.2 (Ros.floorZ V.f p) (Ros.floorZ U.f p) (Clocks.says V.c (p, q)) (Clocks.says U.c (p, q)) := by
  obtain ⟨hJ, hC⟩ := cov_parts hc
  have hv := Ros.valid_of (may_parts hU).1
  have hf : Ros.floorZ U.f p ≤ Ros.floorZ V.f p := floor_le (Ros.floorZ_nn _ _) fun g hg e => by
    have := Ros.never_floor (la := (V.m, V.f)) (lb := (U.m, U.f)) (.inr hg) (hv.fv g hg)
    rw [hJ] at this
    rw [← e]
    exact this
  have hg := Ros.never_got (V.m, V.f) (U.m, U.f) (p, q)
  rw [hJ] at hg
  have hm : ∀ n, Ros.getO U.m (p, q) = some n → ((Ros.getO V.m (p, q) = none ∧ Ros.goneB V.f (p, q) = true) ∨ ∃ z, Ros.getO V.m (p, q) = some z ∧ n.2.1 ≤ z.2.1 ∧ (0 < n.2.2 → 0 < z.2.2 ∧ z.2.2 ≤ n.2.2)) ∧ 0 ≤ n.2.2 := fun n hn => by
    obtain ⟨h1, h2⟩ := got_is hn
    obtain ⟨v1, v2, _⟩ := hv.mv n h1
    unfold Ros.mayNum at v2
    have hs : (1 ≤ n.2.1 ∧ n.2.1 ≤ 7) ∧ 0 ≤ n.2.2 := by
      split at v2
      · have := of_decide_eq_true v2
        omega
      · split at v2
        · have := of_decide_eq_true v2
          omega
        · split at v2
          · have := of_decide_eq_true v2
            omega
          · cases v2
    have hk : Ros.cnt n = true := by
      unfold Ros.cnt
      rw [v1, decide_eq_true hs.1]
      rfl
    have := Ros.never_member (la := (V.m, V.f)) (lb := (U.m, U.f)) (.inr h1) hk
    rw [hJ, h2] at this
    exact ⟨this, hs.2⟩
  refine ⟨fun hw hi => ?_, fun hw hi => ?_, fun hb => ?_, hf, ?_⟩
  · obtain ⟨n, hn⟩ := Option.isSome_iff_exists.1 hw
    rcases (hm n hn).1 with ⟨_, h⟩ | ⟨z, h, _⟩
    · exact h
    · rw [h] at hi; cases hi
  · obtain ⟨n, hn⟩ := Option.isSome_iff_exists.1 hw
    obtain ⟨h, h0⟩ := hm n hn
    rcases h with ⟨h, _⟩ | ⟨z, h, h1, h2⟩
    · rw [h] at hi; cases hi
    · rw [h, hn]
      exact ⟨h1, h0, h2⟩
  · have e1 : q ≤ Ros.floorZ U.f p := by unfold Ros.goneB at hb; exact of_decide_eq_true hb
    have e2 : Ros.goneB V.f (p, q) = true := by unfold Ros.goneB; exact decide_eq_true (Int.le_trans e1 hf)
    refine ⟨e2, ?_⟩
    rcases h : Ros.getO V.m (p, q) with _ | z
    · rfl
    · rw [hg z h] at e2; cases e2
  · have := Clocks.says_join V.c U.c (p, q)
    rw [hC] at this
    omega
end Go.Proofs.YtjlnnmjhbccdoaaGreat
