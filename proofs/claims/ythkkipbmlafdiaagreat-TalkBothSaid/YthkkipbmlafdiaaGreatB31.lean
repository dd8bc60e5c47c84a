/-
  Contracts and plain facts.
-/
import Derived.Test.YthkkipbmlafdiaaGreatOy
import Derived.Test.YthkkipbmlafdiaaGreatB30
set_option maxRecDepth 20000
namespace Go.Proofs.YthkkipbmlafdiaaGreat
section
open Go Go.RowKit
def joinV (V U : Vw) : Vw := ⟨(Ros.joinL (V.m, V.f) (U.m, U.f)).1, (Ros.joinL (V.m, V.f) (U.m, U.f)).2, RowSets.gone (Ros.joinL (V.m, V.f) (U.m, U.f)).2 (RowSets.joinR V.r U.r), Clocks.joinC V.c U.c, seenV V U⟩
theorem fit_small {V : Vw} (h : FitVIE 400 V) : Small V.r := by
 unfold Small;exact ⟨Nat.le_trans h.r (by decide), fun r hr => Nat.le_trans (h.n r hr) (by decide)⟩
theorem lenJ_f (a b : Ros.Ls) : (Ros.joinL a b).2.length ≤ 100 := by
 have h := Ros.lenJ a b;unfold Ros.LenOk at h;exact h.2
theorem lenJ_m (a b : Ros.Ls) : (Ros.joinL a b).1.length ≤ 100 := by
 have h := Ros.lenJ a b;unfold Ros.LenOk at h;exact h.1
structure JnG (w : World) (a b c d e a' b' c' d' e' sm sf : SL) (V U : Vw) (W : World) : Prop where
 p : VBox W w.heap.size a b c d e
 q : VBox W (w.heap.size + 1) a' b' c' d' e'
 z : ∃ s0 s1 s2 s3 s4 : SL, VBox W (w.heap.size + 1 + 1) s0 s1 s2 s3 s4
 r : RV W a b c d e V
 t : RV W a' b' c' d' e' U
 hm : Ms W (.slice sm.1 sm.2.1 sm.2.2) (Ros.joinL (V.m, V.f) (U.m, U.f)).1
 hf : Ids W (.slice sf.1 sf.2.1 sf.2.2) (Ros.joinL (V.m, V.f) (U.m, U.f)).2
 below : Below w.heap.size w W
theorem JnG.step {w : World} {a b c d e a' b' c' d' e' sm sf : SL} {V U : Vw} {W W' : World} (h : JnG w a b c d e a' b' c' d' e' sm sf V U W) (hb : Below W.heap.size W W') : JnG w a b c d e a' b' c' d' e' sm sf V U W' := by
 obtain ⟨s0, s1, s2, s3, s4, hz⟩ := h.z;exact ⟨ab_ h.p hb, ab_ h.q hb, ⟨s0, s1, s2, s3, s4, ab_ hz hb⟩, h.r.below hb, h.t.below hb, h.hm.below hb, h.hf.below hb, ba_ h.below hb⟩
theorem JnG.put {w : World} {a b c d e a' b' c' d' e' sm sf : SL} {V U : Vw} {W : World} (h : JnG w a b c d e a' b' c' d' e' sm sf V U W) {s0 s1 s2 s3 s4 z0 z1 z2 z3 z4 : SL} (hz : VBox W (w.heap.size + 1 + 1) z0 z1 z2 z3 z4) : JnG w a b c d e a' b' c' d' e' sm sf V U (W.setCells (w.heap.size + 1 + 1) 0 [.slice s0.1 s0.2.1 s0.2.2, .slice s1.1 s1.2.1 s1.2.2, .slice s2.1 s2.2.1 s2.2.2, .slice s3.1 s3.2.1 s3.2.2, .slice s4.1 s4.2.1 s4.2.2]) :=
 have hk := kp_set hz [.slice s0.1 s0.2.1 s0.2.2, .slice s1.1 s1.2.1 s1.2.2, .slice s2.1 s2.2.1 s2.2.2, .slice s3.1 s3.2.1 s3.2.2, .slice s4.1 s4.2.1 s4.2.2];⟨vbox_other h.p (by omega) _, vbox_other h.q (by omega) _, ⟨s0, s1, s2, s3, s4, a2_ hz s0 s1 s2 s3 s4⟩, h.r.kp hk, h.t.kp hk, Ms.kp h.hm hk, Ids.kp h.hf hk, below_setCells h.below (by omega) 0 _⟩
def JnR (X : Nat) (J : Vw) (W W' : World) : Prop := Kp W W' ∧ (HoldsV W X J → HoldsV W' X J)
theorem jnR_refl (X : Nat) (J : Vw) (W : World) : JnR X J W W := ⟨kp_refl _, id⟩
theorem jnR_of {X : Nat} {J : Vw} {W W' : World} (hb : Below W.heap.size W W') : JnR X J W W' := ⟨kp_below hb, fun h => h.below hb⟩
def jnDs : List (Option Tmp) := [some 19, some 20, some 21, some 22, some 23, some 24, some 25, some 26, some 27, some 28, some 29, some 30, some 31, some 32, some 33, some 34, some 35, some 36, none]
def jnF (x y z : Nat) (a b c d e a' b' c' d' e' sm sf : SL) (V U : Vw) : Nat → Value → World → Prop := fun i v w => match i with
 | 0 => v = .slice sm.1 sm.2.1 sm.2.2
 | 1 => v = .slice sf.1 sf.2.1 sf.2.2
 | 2 => v = .pointer (some ⟨x, 2, none⟩)
 | 3 => v = .slice c.1 c.2.1 c.2.2
 | 4 => v = .pointer (some ⟨y, 2, none⟩)
 | 5 => v = .slice c'.1 c'.2.1 c'.2.2
 | 6 => RowsAt w v (RowSets.joinR V.r U.r)
 | 7 => v = .slice sf.1 sf.2.1 sf.2.2
 | 8 => RowsAt w v (RowSets.gone (Ros.joinL (V.m, V.f) (U.m, U.f)).2 (RowSets.joinR V.r U.r))
 | 9 => v = .pointer (some ⟨x, 3, none⟩)
 | 10 => v = .slice d.1 d.2.1 d.2.2
 | 11 => v = .pointer (some ⟨y, 3, none⟩)
 | 12 => v = .slice d'.1 d'.2.1 d'.2.2
 | 13 => Rcs encT 3 w v (Clocks.joinC V.c U.c)
 | 14 => v = .agg #[.slice a.1 a.2.1 a.2.2, .slice b.1 b.2.1 b.2.2, .slice c.1 c.2.1 c.2.2, .slice d.1 d.2.1 d.2.2, .slice e.1 e.2.1 e.2.2]
 | 15 => v = .agg #[.slice a'.1 a'.2.1 a'.2.2, .slice b'.1 b'.2.1 b'.2.2, .slice c'.1 c'.2.1 c'.2.2, .slice d'.1 d'.2.1 d'.2.2, .slice e'.1 e'.2.1 e'.2.2]
 | 16 => Ids w v (seenV V U)
 | 17 => VAt w v (joinV V U)
 | 18 => HoldsV w z (joinV V U)
 | _ => True
theorem jnF_mono (x y z : Nat) (a b c d e a' b' c' d' e' sm sf : SL) (V U : Vw) : ∀ i v w w', jnF x y z a b c d e a' b' c' d' e' sm sf V U i v w → JnR z (joinV V U) w w' → jnF x y z a b c d e a' b' c' d' e' sm sf V U i v w' := by
 intro i v w w' h hb;unfold jnF at h ⊢;split at h
 all_goals first | exact h | exact RowsAt.kp h hb.1 | exact Ids.kp h hb.1 | exact ticks_kp h hb.1 | exact VAt.kp h hb.1 | exact hb.2 h
set_option maxHeartbeats 16000000 in
theorem joinV_any (v u : Value) (V U : Vw) (w : World) (h : VAt w v V) (k : VAt w u U) (hV : FitVIE 400 V) (hU : FitVIE 400 U) (uV : RowSets.Up V.r) (uU : RowSets.Up U.r) :
  Calls Tryz.prog 13 #[v, u] w fun e w' => ∃ X, e = .returned X ∧ VAt w' X (joinV V U) ∧ Below w.heap.size w w' := by
 obtain ⟨a, b, c, d, e, rfl, hr⟩ := h;obtain ⟨a', b', c', d', e', rfl, kr⟩ := k;have q1 := ad_ w (.cells #[.slice a.1 a.2.1 a.2.2, .slice b.1 b.2.1 b.2.2, .slice c.1 c.2.1 c.2.2, .slice d.1 d.2.1 d.2.2, .slice e.1 e.2.1 e.2.2] 27);have q2 := ad_ (w.alloc (.cells #[.slice a.1 a.2.1 a.2.2, .slice b.1 b.2.1 b.2.2, .slice c.1 c.2.1 c.2.2, .slice d.1 d.2.1 d.2.2, .slice e.1 e.2.1 e.2.2] 27)) (.cells #[.slice a'.1 a'.2.1 a'.2.2, .slice b'.1 b'.2.1 b'.2.2, .slice c'.1 c'.2.1 c'.2.2, .slice d'.1 d'.2.1 d'.2.2, .slice e'.1 e'.2.1 e'.2.2] 27);have q3 := ad_ ((w.alloc (.cells #[.slice a.1 a.2.1 a.2.2, .slice b.1 b.2.1 b.2.2, .slice c.1 c.2.1 c.2.2, .slice d.1 d.2.1 d.2.2, .slice e.1 e.2.1 e.2.2] 27)).alloc (.cells #[.slice a'.1 a'.2.1 a'.2.2, .slice b'.1 b'.2.1 b'.2.2, .slice c'.1 c'.2.1 c'.2.2, .slice d'.1 d'.2.1 d'.2.2, .slice e'.1 e'.2.1 e'.2.2] 27)) (.cells #[.slice none 0 0, .slice none 0 0, .slice none 0 0, .slice none 0 0, .slice none 0 0] 27);have Q := ah_ (ba_ q1 q2) q3 (Nat.le_refl _);have X1 := hd_ (ab_ (ab_ (ak_ w a b c d e) q2) q3);have X2 : Hid (VBox (((w.alloc (.cells #[.slice a.1 a.2.1 a.2.2, .slice b.1 b.2.1 b.2.2, .slice c.1 c.2.1 c.2.2, .slice d.1 d.2.1 d.2.2, .slice e.1 e.2.1 e.2.2] 27)).alloc (.cells #[.slice a'.1 a'.2.1 a'.2.2, .slice b'.1 b'.2.1 b'.2.2, .slice c'.1 c'.2.1 c'.2.2, .slice d'.1 d'.2.1 d'.2.2, .slice e'.1 e'.2.1 e'.2.2] 27)).alloc (.cells #[.slice none 0 0, .slice none 0 0, .slice none 0 0, .slice none 0 0, .slice none 0 0] 27)) (w.heap.size + 1) a' b' c' d' e') := hd_ (by simpa using ab_ (ak_ (w.alloc (.cells #[.slice a.1 a.2.1 a.2.2, .slice b.1 b.2.1 b.2.2, .slice c.1 c.2.1 c.2.2, .slice d.1 d.2.1 d.2.2, .slice e.1 e.2.1 e.2.2] 27)) a' b' c' d' e') q3)
 have X3 : Hid (VBox (((w.alloc (.cells #[.slice a.1 a.2.1 a.2.2, .slice b.1 b.2.1 b.2.2, .slice c.1 c.2.1 c.2.2, .slice d.1 d.2.1 d.2.2, .slice e.1 e.2.1 e.2.2] 27)).alloc (.cells #[.slice a'.1 a'.2.1 a'.2.2, .slice b'.1 b'.2.1 b'.2.2, .slice c'.1 c'.2.1 c'.2.2, .slice d'.1 d'.2.1 d'.2.2, .slice e'.1 e'.2.1 e'.2.2] 27)).alloc (.cells #[.slice none 0 0, .slice none 0 0, .slice none 0 0, .slice none 0 0, .slice none 0 0] 27)) (w.heap.size + 1 + 1) (none, 0, 0) (none, 0, 0) (none, 0, 0) (none, 0, 0) (none, 0, 0)) := hd_ (by
  have := ak_ ((w.alloc (.cells #[.slice a.1 a.2.1 a.2.2, .slice b.1 b.2.1 b.2.2, .slice c.1 c.2.1 c.2.2, .slice d.1 d.2.1 d.2.2, .slice e.1 e.2.1 e.2.2] 27)).alloc (.cells #[.slice a'.1 a'.2.1 a'.2.2, .slice b'.1 b'.2.1 b'.2.2, .slice c'.1 c'.2.1 c'.2.2, .slice d'.1 d'.2.1 d'.2.2, .slice e'.1 e'.2.1 e'.2.2] 27)) (none, 0, 0) (none, 0, 0) (none, 0, 0) (none, 0, 0) (none, 0, 0)
  simpa only [World.size_alloc] using this)
 have RA := hd_ (hr.below Q);have RB := hd_ (kr.below Q);have BQ := hd_ Q;have LV := hd_ hV;have LU := hd_ hU;have UV := hd_ uV;have UU := hd_ uU;clear hr kr q1 q2 q3 Q hV hU uV uU;obtain ⟨p0, p1, p2, p3, p4⟩ := aa_ X1.out;obtain ⟨t0, t1, t2, t3, t4⟩ := aa_ X2.out;go_enter Tryz.func13, Tryz.ntmps13
 go_wp2_with fail;(with_reducible refine (join_anyROS _ _ _ _ V.m U.m V.f U.f _ RA.out.m RA.out.f RB.out.m RB.out.f (by have := LV.out.m; have := LU.out.m; omega) (by have := LV.out.f; have := LU.out.f; omega)).mono ?_)
 rintro e1 w1 ⟨Vm, Vf, rfl, hm, hf, hb⟩;rw [Ros.joinP_is] at hm hf;obtain ⟨sm, rfl⟩ := sl_rcs hm.reads;obtain ⟨sf, rfl⟩ := sl_ids (ids_of_owns hf);have G1 : Hid (JnG w a b c d e a' b' c' d' e' sm sf V U w1) := hd_ ⟨ab_ X1.out hb, ab_ X2.out hb, ⟨_, _, _, _, _, ab_ X3.out hb⟩, RA.out.below hb, RB.out.below hb, hm.reads, ids_of_owns hf, ba_ BQ.out hb⟩
 clear p0 p1 p2 p3 p4 t0 t1 t2 t3 t4 X1 X2 X3 RA RB BQ hm hf hb;go_wp2_with fail;refine wp_region_dueR (R := JnR (w.heap.size + 1 + 1) (joinV V U)) (by kernel_rfl) jnDs (jnF w.heap.size (w.heap.size + 1) (w.heap.size + 1 + 1) a b c d e a' b' c' d' e' sm sf V U) (JnG w a b c d e a' b' c' d' e' sm sf V U) rfl (by kernel_rfl) (by kernel_rfl) (by kernel_rfl) (jnF_mono w.heap.size (w.heap.size + 1) (w.heap.size + 1 + 1) a b c d e a' b' c' d' e' sm sf V U) (G1.out.step (below_drewN (n := 1) (Below.refl _ _))) ?_ ?_
 ·clear G1
  refine AllDueR.cons (due_metR (.inl rfl) fun q w1 hG hold hf K hK => ?_) ?_
  ·have f5 : q.tmps.getD 5 undef = .slice sm.1 sm.2.1 sm.2.2 := hold 5 (by kernel_rfl)
   clear hf hold;go_simp;exact hK _ _ hG (jnR_refl _ _ _) rfl
  refine AllDueR.cons (due_metR (.inl rfl) fun q w1 hG hold hf K hK => ?_) ?_
  ·have f6 : q.tmps.getD 6 undef = .slice sf.1 sf.2.1 sf.2.2 := hold 6 (by kernel_rfl)
   clear hf hold;go_simp;exact hK _ _ hG (jnR_refl _ _ _) rfl
  refine AllDueR.cons (due_metR (.inl rfl) fun q w1 hG hold hf K hK => ?_) ?_
  ·have f2 : q.tmps.getD 2 undef = .pointer (some ⟨w.heap.size, 0, none⟩) := hold 2 (by kernel_rfl)
   clear hf hold;go_simp;exact hK _ _ hG (jnR_refl _ _ _) rfl
  refine AllDueR.cons (due_metR (.inl rfl) fun q w1 hG hold hf K hK => ?_) ?_
  ·have f21 : q.tmps.getD 21 undef = .pointer (some ⟨w.heap.size, 2, none⟩) := hf 2 21 (by kernel_rfl) rfl
   have q21 := f21;rw [gd_] at q21;obtain ⟨p0, p1, p2, p3, p4⟩ := aa_ hG.p;clear hf hold;go_simp;exact hK _ _ hG (jnR_refl _ _ _) rfl
  refine AllDueR.cons (due_metR (.inl rfl) fun q w1 hG hold hf K hK => ?_) ?_
  ·have f3 : q.tmps.getD 3 undef = .pointer (some ⟨w.heap.size + 1, 0, none⟩) := hold 3 (by kernel_rfl)
   clear hf hold;go_simp;exact hK _ _ hG (jnR_refl _ _ _) rfl
  refine AllDueR.cons (due_metR (.inl rfl) fun q w1 hG hold hf K hK => ?_) ?_
  ·have f23 : q.tmps.getD 23 undef = .pointer (some ⟨w.heap.size + 1, 2, none⟩) := hf 4 23 (by kernel_rfl) rfl
   have q23 := f23;rw [gd_] at q23;obtain ⟨p0, p1, p2, p3, p4⟩ := aa_ hG.q;clear hf hold;go_simp;exact hK _ _ hG (jnR_refl _ _ _) rfl
  refine AllDueR.cons (due_metR (.inl rfl) fun q w1 hG hold hf K hK => ?_) ?_
  ·have f22 : q.tmps.getD 22 undef = .slice c.1 c.2.1 c.2.2 := hf 3 22 (by kernel_rfl) rfl
   have q22 := f22;rw [gd_] at q22;have f24 : q.tmps.getD 24 undef = .slice c'.1 c'.2.1 c'.2.2 := hf 5 24 (by kernel_rfl) rfl
   have q24 := f24;rw [gd_] at q24;clear hf hold;go_simp;go_at_call 58
   with_reducible refine (join_rows _ _ V.r U.r _ hG.r.r hG.t.r UV.out UU.out (fit_small LV.out) (fit_small LU.out)).mono ?_
   rintro e' w' ⟨X, rfl, h1, h2⟩;exact hK _ _ (hG.step h2) (jnR_of h2) h1
  refine AllDueR.cons (due_metR (.inl rfl) fun q w1 hG hold hf K hK => ?_) ?_
  ·have f6 : q.tmps.getD 6 undef = .slice sf.1 sf.2.1 sf.2.2 := hold 6 (by kernel_rfl)
   clear hf hold;go_simp;exact hK _ _ hG (jnR_refl _ _ _) rfl
  refine AllDueR.cons (due_metR (.inl rfl) fun q w1 hG hold hf K hK => ?_) ?_
  ·have r25 : RowsAt w1 (q.tmps.getD 25 undef) (RowSets.joinR V.r U.r) := hf 6 25 (by kernel_rfl) rfl
   obtain ⟨x25, e25⟩ : ∃ x, q.tmps.getD 25 undef = x := ⟨_, rfl⟩;rw [e25] at r25;have q25 := e25;rw [gd_] at q25;have f26 : q.tmps.getD 26 undef = .slice sf.1 sf.2.1 sf.2.2 := hf 7 26 (by kernel_rfl) rfl
   have q26 := f26;rw [gd_] at q26;clear hf hold;go_simp;go_at_call 48
   (with_reducible refine (gone_any _ _ (RowSets.joinR V.r U.r) (Ros.joinL (V.m, V.f) (U.m, U.f)).2 _ r25 hG.hf (Nat.le_trans (RowSets.joinR_len _ _) (by have := LV.out.r; have := LU.out.r; omega)) (nots_joinR (n := 20000) (m := 20000) (fun r hr => Nat.le_trans (LV.out.n r hr) (by decide)) (fun r hr => Nat.le_trans (LU.out.n r hr) (by decide))) (Nat.le_trans (lenJ_f _ _) (by decide))).mono ?_)
   rintro e' w' ⟨X, rfl, h1, h2⟩;exact hK _ _ (hG.step h2) (jnR_of h2) h1
  refine AllDueR.cons (due_metR (.inl rfl) fun q w1 hG hold hf K hK => ?_) ?_
  ·have f2 : q.tmps.getD 2 undef = .pointer (some ⟨w.heap.size, 0, none⟩) := hold 2 (by kernel_rfl)
   clear hf hold;go_simp;exact hK _ _ hG (jnR_refl _ _ _) rfl
  refine AllDueR.cons (due_metR (.inl rfl) fun q w1 hG hold hf K hK => ?_) ?_
  ·have f28 : q.tmps.getD 28 undef = .pointer (some ⟨w.heap.size, 3, none⟩) := hf 9 28 (by kernel_rfl) rfl
   have q28 := f28;rw [gd_] at q28;obtain ⟨p0, p1, p2, p3, p4⟩ := aa_ hG.p;clear hf hold;go_simp;exact hK _ _ hG (jnR_refl _ _ _) rfl
  refine AllDueR.cons (due_metR (.inl rfl) fun q w1 hG hold hf K hK => ?_) ?_
  ·have f3 : q.tmps.getD 3 undef = .pointer (some ⟨w.heap.size + 1, 0, none⟩) := hold 3 (by kernel_rfl)
   clear hf hold;go_simp;exact hK _ _ hG (jnR_refl _ _ _) rfl
  refine AllDueR.cons (due_metR (.inl rfl) fun q w1 hG hold hf K hK => ?_) ?_
  ·have f30 : q.tmps.getD 30 undef = .pointer (some ⟨w.heap.size + 1, 3, none⟩) := hf 11 30 (by kernel_rfl) rfl
   have q30 := f30;rw [gd_] at q30;obtain ⟨p0, p1, p2, p3, p4⟩ := aa_ hG.q;clear hf hold;go_simp;exact hK _ _ hG (jnR_refl _ _ _) rfl
  refine AllDueR.cons (due_metR (.inl rfl) fun q w1 hG hold hf K hK => ?_) ?_
  ·have f29 : q.tmps.getD 29 undef = .slice d.1 d.2.1 d.2.2 := hf 10 29 (by kernel_rfl) rfl
   have q29 := f29;rw [gd_] at q29;have f31 : q.tmps.getD 31 undef = .slice d'.1 d'.2.1 d'.2.2 := hf 12 31 (by kernel_rfl) rfl
   have q31 := f31;rw [gd_] at q31;clear hf hold;go_simp;go_at_call 59
   with_reducible refine (join_anyCLK _ _ V.c U.c _ hG.r.c hG.t.c (Nat.le_trans LV.out.c (by decide)) (Nat.le_trans LU.out.c (by decide))).mono ?_
   rintro e' w' ⟨X, rfl, h1, h2⟩;exact hK _ _ (hG.step h2) (jnR_of h2) h1
  refine AllDueR.cons (due_metR (.inl rfl) fun q w1 hG hold hf K hK => ?_) ?_
  ·have f2 : q.tmps.getD 2 undef = .pointer (some ⟨w.heap.size, 0, none⟩) := hold 2 (by kernel_rfl)
   obtain ⟨p0, p1, p2, p3, p4⟩ := aa_ hG.p;clear hf hold;go_simp;exact hK _ _ hG (jnR_refl _ _ _) rfl
  refine AllDueR.cons (due_metR (.inl rfl) fun q w1 hG hold hf K hK => ?_) ?_
  ·have f3 : q.tmps.getD 3 undef = .pointer (some ⟨w.heap.size + 1, 0, none⟩) := hold 3 (by kernel_rfl)
   obtain ⟨p0, p1, p2, p3, p4⟩ := aa_ hG.q;clear hf hold;go_simp;exact hK _ _ hG (jnR_refl _ _ _) rfl
  refine AllDueR.cons (due_metR (.inl rfl) fun q w1 hG hold hf K hK => ?_) ?_
  ·have f33 : q.tmps.getD 33 undef = .agg #[.slice a.1 a.2.1 a.2.2, .slice b.1 b.2.1 b.2.2, .slice c.1 c.2.1 c.2.2, .slice d.1 d.2.1 d.2.2, .slice e.1 e.2.1 e.2.2] := hf 14 33 (by kernel_rfl) rfl
   have q33 := f33;rw [gd_] at q33;have f34 : q.tmps.getD 34 undef = .agg #[.slice a'.1 a'.2.1 a'.2.2, .slice b'.1 b'.2.1 b'.2.2, .slice c'.1 c'.2.1 c'.2.2, .slice d'.1 d'.2.1 d'.2.2, .slice e'.1 e'.2.1 e'.2.2] := hf 15 34 (by kernel_rfl) rfl
   have q34 := f34;rw [gd_] at q34;clear hf hold;go_simp;go_at_call 60
   with_reducible refine (seen_any _ _ V U _ hG.r.at_ hG.t.at_ (LV.out.mono (by decide)) (LU.out.mono (by decide))).mono ?_
   rintro e' w' ⟨X, rfl, h1, h2⟩;exact hK _ _ (hG.step h2) (jnR_of h2) h1
  refine AllDueR.cons (due_metR (.inl rfl) fun q w1 hG hold hf K hK => ?_) ?_
  ·have f19 : q.tmps.getD 19 undef = .slice sm.1 sm.2.1 sm.2.2 := hf 0 19 (by kernel_rfl) rfl
   have q19 := f19;rw [gd_] at q19;have f20 : q.tmps.getD 20 undef = .slice sf.1 sf.2.1 sf.2.2 := hf 1 20 (by kernel_rfl) rfl
   have q20 := f20;rw [gd_] at q20;have r27 : RowsAt w1 (q.tmps.getD 27 undef) (RowSets.gone (Ros.joinL (V.m, V.f) (U.m, U.f)).2 (RowSets.joinR V.r U.r)) := hf 8 27 (by kernel_rfl) rfl
   obtain ⟨x27, e27⟩ : ∃ x, q.tmps.getD 27 undef = x := ⟨_, rfl⟩;rw [e27] at r27;have q27 := e27;rw [gd_] at q27;have r32 : Rcs encT 3 w1 (q.tmps.getD 32 undef) (Clocks.joinC V.c U.c) := hf 13 32 (by kernel_rfl) rfl
   obtain ⟨x32, e32⟩ : ∃ x, q.tmps.getD 32 undef = x := ⟨_, rfl⟩;rw [e32] at r32;have q32 := e32;rw [gd_] at q32;have r35 : Ids w1 (q.tmps.getD 35 undef) (seenV V U) := hf 16 35 (by kernel_rfl) rfl
   obtain ⟨x35, e35⟩ : ∃ x, q.tmps.getD 35 undef = x := ⟨_, rfl⟩;rw [e35] at r35;have q35 := e35;rw [gd_] at q35;obtain ⟨s27, rfl⟩ := sl_rows r27;obtain ⟨s32, rfl⟩ := sl_rcs r32;obtain ⟨s35, rfl⟩ := sl_ids r35;clear hf hold;go_simp;exact hK _ _ hG (jnR_refl _ _ _) (vAt_of hG.hm hG.hf r27 r32 r35)
  refine AllDueR.cons (due_metR (.inl rfl) fun q w1 hG hold hf K hK => ?_) ?_
  ·have f4 : q.tmps.getD 4 undef = .pointer (some ⟨w.heap.size + 1 + 1, 0, none⟩) := hold 4 (by kernel_rfl)
   have r36 : VAt w1 (q.tmps.getD 36 undef) (joinV V U) := hf 17 36 (by kernel_rfl) rfl
   obtain ⟨x36, e36⟩ : ∃ x, q.tmps.getD 36 undef = x := ⟨_, rfl⟩;rw [e36] at r36;have q36 := e36;rw [gd_] at q36;obtain ⟨s0, s1, s2, s3, s4, rfl, hr⟩ := r36;obtain ⟨z0, z1, z2, z3, z4, hz⟩ := hG.z;obtain ⟨k0, k1, k2, k3, k4⟩ := aa_ hz;obtain ⟨f0, f1, f2, f3, f5⟩ := al_ hz;clear hf hold;go_simp;have hk := kp_set hz [.slice s0.1 s0.2.1 s0.2.2, .slice s1.1 s1.2.1 s1.2.2, .slice s2.1 s2.2.1 s2.2.2, .slice s3.1 s3.2.1 s3.2.2, .slice s4.1 s4.2.1 s4.2.2];have hv : HoldsV (w1.setCells (w.heap.size + 1 + 1) 0 [.slice s0.1 s0.2.1 s0.2.2, .slice s1.1 s1.2.1 s1.2.2, .slice s2.1 s2.2.1 s2.2.2, .slice s3.1 s3.2.1 s3.2.2, .slice s4.1 s4.2.1 s4.2.2]) (w.heap.size + 1 + 1) (joinV V U) := ⟨s0, s1, s2, s3, s4, a2_ hz s0 s1 s2 s3 s4, hr.kp hk⟩
   exact hK undef _ (hG.put hz) ⟨hk, fun _ => hv⟩ hv
  exact AllDueR.nil
 ·intro ac w7 hG hd hs hold hf hdone
  obtain ⟨_, hJ⟩ := hdone 18 (by decide) rfl
  have hJ : HoldsV w7 (w.heap.size + 1 + 1) (joinV V U) := hJ
  have k4 : ac.tmps.getD 4 undef = .pointer (some ⟨w.heap.size + 1 + 1, 0, none⟩) := hold 4 (by kernel_rfl)
  have k4' := k4
  rw [gd_] at k4';obtain ⟨s0, s1, s2, s3, s4, hb, hr⟩ := hJ;obtain ⟨c0, c1, c2, c3, c4⟩ := aa_ hb;clear hf hold hdone G1;go_wp2_with fail;refine bodyPost_ret (v := .agg #[.slice s0.1 s0.2.1 s0.2.2, .slice s1.1 s1.2.1 s1.2.2, .slice s2.1 s2.2.1 s2.2.2, .slice s3.1 s3.2.1 s3.2.2, .slice s4.1 s4.2.1 s4.2.2]) (by simp [results, Tryz.results13, go_sem, k4', c0, c1, c2, c3, c4]) hd ?_
  exact ⟨_, rfl, hr.at_, hG.below⟩
end
section
open Go Go.RowKit
theorem seen_len (V U : Vw) : (seenV V U).length ≤ V.s.length + U.s.length := by
 unfold seenV;split
 ·exact join_lenROW _ _
 ·split
  ·omega
  ·split
   ·omega
   ·simp
theorem fit_join {n : Nat} {V U : Vw} (h : FitVIE n V) (k : FitVIE n U) (hn : 50 ≤ n) : FitVIE (n + n) (joinV V U) where
 m := Nat.le_trans (lenJ_m _ _) (by omega)
 f := Nat.le_trans (lenJ_f _ _) (by omega)
 r := Nat.le_trans (gone_len _ _) (Nat.le_trans (RowSets.joinR_len _ _) (by have := h.r; have := k.r; omega))
 c := Nat.le_trans (Clocks.join_len _ _) (by have := h.c; have := k.c; omega)
 s := Nat.le_trans (seen_len _ _) (by have := h.s; have := k.s; omega)
 n := gone_nots_len (nots_joinR h.n k.n)
structure TwG (w : World) (g g' : Nat) (a b c d e a' b' c' d' e' : SL) (V U : Vw) (W : World) : Prop where
 p : VBox W g a b c d e
 q : VBox W g' a' b' c' d' e'
 r : RV W a b c d e V
 t : RV W a' b' c' d' e' U
 below : Below w.heap.size w W
theorem TwG.step {w : World} {g g' : Nat} {a b c d e a' b' c' d' e' : SL} {V U : Vw} {W W' : World} (h : TwG w g g' a b c d e a' b' c' d' e' V U W) (hb : Below W.heap.size W W') : TwG w g g' a b c d e a' b' c' d' e' V U W' := ⟨ab_ h.p hb, ab_ h.q hb, h.r.below hb, h.t.below hb, ba_ h.below hb⟩
def covB (V U : Vw) : Bool := coreB V (joinV V U)
def cvDs : List (Option Tmp) := [some 5, some 6, some 7, some 8, some 9, some 4]
def cvF (_ _ : Nat) (a b c d e a' b' c' d' e' : SL) (V U : Vw) : Nat → Value → World → Prop := fun i v w => match i with
 | 0 => v = .agg #[.slice a.1 a.2.1 a.2.2, .slice b.1 b.2.1 b.2.2, .slice c.1 c.2.1 c.2.2, .slice d.1 d.2.1 d.2.2, .slice e.1 e.2.1 e.2.2]
 | 1 => v = .agg #[.slice a.1 a.2.1 a.2.2, .slice b.1 b.2.1 b.2.2, .slice c.1 c.2.1 c.2.2, .slice d.1 d.2.1 d.2.2, .slice e.1 e.2.1 e.2.2]
 | 2 => v = .agg #[.slice a'.1 a'.2.1 a'.2.2, .slice b'.1 b'.2.1 b'.2.2, .slice c'.1 c'.2.1 c'.2.2, .slice d'.1 d'.2.1 d'.2.2, .slice e'.1 e'.2.1 e'.2.2]
 | 3 => VAt w v (joinV V U)
 | 4 => v = .bool (covB V U)
 | 5 => v = .bool (covB V U)
 | _ => True
theorem cvF_mono (x y : Nat) (a b c d e a' b' c' d' e' : SL) (V U : Vw) : ∀ i v w w', cvF x y a b c d e a' b' c' d' e' V U i v w → Below w.heap.size w w' → cvF x y a b c d e a' b' c' d' e' V U i v w' := by
 intro i v w w' h hb;unfold cvF at h ⊢;split at h
 all_goals first | exact h | exact h.below hb
set_option maxHeartbeats 16000000 in
theorem covers_any (v u : Value) (V U : Vw) (w : World) (h : VAt w v V) (k : VAt w u U) (hV : FitVIE 400 V) (hU : FitVIE 400 U) (uV : RowSets.Up V.r) (uU : RowSets.Up U.r) :
  Calls Tryz.prog 27 #[v, u] w fun e w' => e = .returned (.bool (covB V U)) ∧ Below w.heap.size w w' := by
 obtain ⟨a, b, c, d, e, rfl, hr⟩ := h;obtain ⟨a', b', c', d', e', rfl, kr⟩ := k;have X1 := hd_ (ab_ (ak_ w a b c d e) (ad_ _ (.cells #[.slice a'.1 a'.2.1 a'.2.2, .slice b'.1 b'.2.1 b'.2.2, .slice c'.1 c'.2.1 c'.2.2, .slice d'.1 d'.2.1 d'.2.2, .slice e'.1 e'.2.1 e'.2.2] 27)));have X2 : Hid (VBox ((w.alloc (.cells #[.slice a.1 a.2.1 a.2.2, .slice b.1 b.2.1 b.2.2, .slice c.1 c.2.1 c.2.2, .slice d.1 d.2.1 d.2.2, .slice e.1 e.2.1 e.2.2] 27)).alloc (.cells #[.slice a'.1 a'.2.1 a'.2.2, .slice b'.1 b'.2.1 b'.2.2, .slice c'.1 c'.2.1 c'.2.2, .slice d'.1 d'.2.1 d'.2.2, .slice e'.1 e'.2.1 e'.2.2] 27)) (w.heap.size + 1) a' b' c' d' e') := hd_ (by simpa using ak_ (w.alloc (.cells #[.slice a.1 a.2.1 a.2.2, .slice b.1 b.2.1 b.2.2, .slice c.1 c.2.1 c.2.2, .slice d.1 d.2.1 d.2.2, .slice e.1 e.2.1 e.2.2] 27)) a' b' c' d' e')
 have BB := hd_ (below_two w (.cells #[.slice a.1 a.2.1 a.2.2, .slice b.1 b.2.1 b.2.2, .slice c.1 c.2.1 c.2.2, .slice d.1 d.2.1 d.2.2, .slice e.1 e.2.1 e.2.2] 27) (.cells #[.slice a'.1 a'.2.1 a'.2.2, .slice b'.1 b'.2.1 b'.2.2, .slice c'.1 c'.2.1 c'.2.2, .slice d'.1 d'.2.1 d'.2.2, .slice e'.1 e'.2.1 e'.2.2] 27));have RA := hd_ (hr.below BB.out);have RB := hd_ (kr.below BB.out);clear hr kr;obtain ⟨p0, p1, p2, p3, p4⟩ := aa_ X1.out;obtain ⟨q0, q1, q2, q3, q4⟩ := aa_ X2.out;have G1 : Hid (TwG w w.heap.size (w.heap.size + 1) a b c d e a' b' c' d' e' V U ((w.alloc (.cells #[.slice a.1 a.2.1 a.2.2, .slice b.1 b.2.1 b.2.2, .slice c.1 c.2.1 c.2.2, .slice d.1 d.2.1 d.2.2, .slice e.1 e.2.1 e.2.2] 27)).alloc (.cells #[.slice a'.1 a'.2.1 a'.2.2, .slice b'.1 b'.2.1 b'.2.2, .slice c'.1 c'.2.1 c'.2.2, .slice d'.1 d'.2.1 d'.2.2, .slice e'.1 e'.2.1 e'.2.2] 27))) := hd_ ⟨X1.out, X2.out, RA.out, RB.out, BB.out⟩
 have LV := hd_ hV;have LU := hd_ hU;have UV := hd_ uV;have UU := hd_ uU;clear hV hU uV uU p0 p1 p2 p3 p4 q0 q1 q2 q3 q4 X1 X2 RA RB BB;go_enter Tryz.func27, Tryz.ntmps27
 go_wp2_with fail;refine wp_region_due (by kernel_rfl) cvDs (cvF w.heap.size (w.heap.size + 1) a b c d e a' b' c' d' e' V U) (TwG w w.heap.size (w.heap.size + 1) a b c d e a' b' c' d' e' V U) rfl (by kernel_rfl) (by kernel_rfl) (by kernel_rfl) (cvF_mono w.heap.size (w.heap.size + 1) a b c d e a' b' c' d' e' V U) (G1.out.step (below_drewN (n := 1) (Below.refl _ _))) ?_ ?_
 ·clear G1
  refine AllDue.cons (aq_ (.inl rfl) fun q w1 hG hold hf K hK => ?_) ?_
  ·have f2 : q.tmps.getD 2 undef = .pointer (some ⟨w.heap.size, 0, none⟩) := hold 2 (by kernel_rfl)
   obtain ⟨p0, p1, p2, p3, p4⟩ := aa_ hG.p;clear hf hold;go_simp;exact hK _ _ hG (Below.refl _ _) rfl
  refine AllDue.cons (aq_ (.inl rfl) fun q w1 hG hold hf K hK => ?_) ?_
  ·have f2 : q.tmps.getD 2 undef = .pointer (some ⟨w.heap.size, 0, none⟩) := hold 2 (by kernel_rfl)
   obtain ⟨p0, p1, p2, p3, p4⟩ := aa_ hG.p;clear hf hold;go_simp;exact hK _ _ hG (Below.refl _ _) rfl
  refine AllDue.cons (aq_ (.inl rfl) fun q w1 hG hold hf K hK => ?_) ?_
  ·have f3 : q.tmps.getD 3 undef = .pointer (some ⟨w.heap.size + 1, 0, none⟩) := hold 3 (by kernel_rfl)
   obtain ⟨p0, p1, p2, p3, p4⟩ := aa_ hG.q;clear hf hold;go_simp;exact hK _ _ hG (Below.refl _ _) rfl
  refine AllDue.cons (aq_ (.inl rfl) fun q w1 hG hold hf K hK => ?_) ?_
  ·have f6 : q.tmps.getD 6 undef = .agg #[.slice a.1 a.2.1 a.2.2, .slice b.1 b.2.1 b.2.2, .slice c.1 c.2.1 c.2.2, .slice d.1 d.2.1 d.2.2, .slice e.1 e.2.1 e.2.2] := hf 1 6 (by kernel_rfl) rfl
   have q6 := f6;rw [gd_] at q6;have f7 : q.tmps.getD 7 undef = .agg #[.slice a'.1 a'.2.1 a'.2.2, .slice b'.1 b'.2.1 b'.2.2, .slice c'.1 c'.2.1 c'.2.2, .slice d'.1 d'.2.1 d'.2.2, .slice e'.1 e'.2.1 e'.2.2] := hf 2 7 (by kernel_rfl) rfl
   have q7 := f7;rw [gd_] at q7;clear hf hold;go_simp;go_at_call 13
   with_reducible refine (joinV_any _ _ V U _ hG.r.at_ hG.t.at_ LV.out LU.out UV.out UU.out).mono ?_
   rintro e' w' ⟨X, rfl, h1, h2⟩;exact hK _ _ (hG.step h2) h2 h1
  refine AllDue.cons (aq_ (.inl rfl) fun q w1 hG hold hf K hK => ?_) ?_
  ·have f5 : q.tmps.getD 5 undef = .agg #[.slice a.1 a.2.1 a.2.2, .slice b.1 b.2.1 b.2.2, .slice c.1 c.2.1 c.2.2, .slice d.1 d.2.1 d.2.2, .slice e.1 e.2.1 e.2.2] := hf 0 5 (by kernel_rfl) rfl
   have q5 := f5;rw [gd_] at q5;have r8 : VAt w1 (q.tmps.getD 8 undef) (joinV V U) := hf 3 8 (by kernel_rfl) rfl
   obtain ⟨x8, e8⟩ : ∃ x, q.tmps.getD 8 undef = x := ⟨_, rfl⟩;rw [e8] at r8;have q8 := e8;rw [gd_] at q8;clear hf hold;go_simp;go_at_call 25
   with_reducible refine (core_any _ _ V (joinV V U) _ hG.r.at_ r8 (LV.out.mono (by decide)) ((fit_join LV.out LU.out (by decide)).mono (by decide))).mono ?_
   rintro e' w' ⟨rfl, h2⟩;exact hK _ _ (hG.step h2) h2 rfl
  refine AllDue.cons (aq_ (.inl rfl) fun q w1 hG hold hf K hK => ?_) ?_
  ·have f9 : q.tmps.getD 9 undef = .bool (covB V U) := hf 4 9 (by kernel_rfl) rfl
   have q9 := f9;rw [gd_] at q9;clear hf hold;go_simp;exact hK _ _ hG (Below.refl _ _) rfl
  exact AllDue.nil
 ·intro ac w7 hG hd hs hold hf
  have f4 : ac.tmps.getD 4 undef = .bool (covB V U) := hf 5 4 rfl
  clear hf hold;go_wp2_with fail;refine bodyPost_ret (results_tmp rfl _ _ _) hd ?_
  exact ⟨by rw [f4], hG.below⟩
end
end Go.Proofs.YthkkipbmlafdiaaGreat
