/-
  Contracts and plain facts.
-/
import Derived.Test.YthkkipbmlafdiaaGreatOz
import Derived.Test.YthkkipbmlafdiaaGreatG31
import Derived.Test.YthkkipbmlafdiaaGreatG41
set_option maxRecDepth 20000
namespace Go.Proofs.YthkkipbmlafdiaaGreat
section
open Go Go.RowKit
def sameV (V U : Vw) : Bool := coreB V U && sameB V.s U.s
set_option maxHeartbeats 4000000 in
theorem sameV_any (v u : Value) (V U : Vw) (w : World) (h : VAt w v V) (k : VAt w u U) (hV : FitVIE 1000 V) (hU : FitVIE 1000 U) :
  Calls Tryz.prog 24 #[v, u] w fun e w' => e = .returned (.bool (sameV V U)) ∧ Below w.heap.size w w' := by
 obtain ⟨a, b, c, d, e, rfl, hr⟩ := h
 obtain ⟨a', b', c', d', e', rfl, kr⟩ := k
 have q1 := below_one w (.cells #[.slice a.1 a.2.1 a.2.2, .slice b.1 b.2.1 b.2.2, .slice c.1 c.2.1 c.2.2, .slice d.1 d.2.1 d.2.2, .slice e.1 e.2.1 e.2.2] 27)
 have q2 := below_one (w.alloc (.cells #[.slice a.1 a.2.1 a.2.2, .slice b.1 b.2.1 b.2.2, .slice c.1 c.2.1 c.2.2, .slice d.1 d.2.1 d.2.2, .slice e.1 e.2.1 e.2.2] 27)) (.cells #[.slice a'.1 a'.2.1 a'.2.2, .slice b'.1 b'.2.1 b'.2.2, .slice c'.1 c'.2.1 c'.2.2, .slice d'.1 d'.2.1 d'.2.2, .slice e'.1 e'.2.1 e'.2.2] 27)
 have Q := (ba_ q1 q2)
 have X1 : Hid (VBox ((w.alloc (.cells #[.slice a.1 a.2.1 a.2.2, .slice b.1 b.2.1 b.2.2, .slice c.1 c.2.1 c.2.2, .slice d.1 d.2.1 d.2.2, .slice e.1 e.2.1 e.2.2] 27)).alloc (.cells #[.slice a'.1 a'.2.1 a'.2.2, .slice b'.1 b'.2.1 b'.2.2, .slice c'.1 c'.2.1 c'.2.2, .slice d'.1 d'.2.1 d'.2.2, .slice e'.1 e'.2.1 e'.2.2] 27)) (w.heap.size) a b c d e) := hd_ (vbox_below (vbox_new w a b c d e) q2)
 have X2 : Hid (VBox ((w.alloc (.cells #[.slice a.1 a.2.1 a.2.2, .slice b.1 b.2.1 b.2.2, .slice c.1 c.2.1 c.2.2, .slice d.1 d.2.1 d.2.2, .slice e.1 e.2.1 e.2.2] 27)).alloc (.cells #[.slice a'.1 a'.2.1 a'.2.2, .slice b'.1 b'.2.1 b'.2.2, .slice c'.1 c'.2.1 c'.2.2, .slice d'.1 d'.2.1 d'.2.2, .slice e'.1 e'.2.1 e'.2.2] 27)) (w.heap.size + 1) a' b' c' d' e') := hd_ (by have h := (vbox_new (w.alloc (.cells #[.slice a.1 a.2.1 a.2.2, .slice b.1 b.2.1 b.2.2, .slice c.1 c.2.1 c.2.2, .slice d.1 d.2.1 d.2.2, .slice e.1 e.2.1 e.2.2] 27)) a' b' c' d' e'); simp only [World.size_alloc] at h; exact h)
 have RA := hd_ (hr.below Q)
 have RB := hd_ (kr.below Q)
 have BQ := hd_ Q
 clear hr kr q1 q2 Q
 obtain ⟨p0, p1, p2, p3, p4⟩ := vbox_cells X1.out
 obtain ⟨t0, t1, t2, t3, t4⟩ := vbox_cells X2.out
 have HE : Hid (sameV V U = (coreB V U && sameB V.s U.s)) := hd_ rfl
 go_enter Tryz.func24, Tryz.ntmps24
 go_wp2_with fail
 (with_reducible refine (core_any _ _ V U _ RA.out.at_ RB.out.at_ hV hU).mono ?_)
 rintro e1 w3 ⟨rfl, hb⟩
 have Y1 := hd_ (vbox_below X1.out hb)
 have Y2 := hd_ (vbox_below X2.out hb)
 have YA := hd_ (RA.out.below hb)
 have YB := hd_ (RB.out.below hb)
 have BR := hd_ (ba_ BQ.out hb)
 clear hb p0 p1 p2 p3 p4 t0 t1 t2 t3 t4 X1 X2 RA RB BQ
 obtain ⟨p0, p1, p2, p3, p4⟩ := vbox_cells Y1.out
 obtain ⟨t0, t1, t2, t3, t4⟩ := vbox_cells Y2.out
 generalize coreB V U = y at *
 cases y
 ·go_wp2_with fail
  go_ret
  exact ⟨by rw [HE.out]; rfl, BR.out⟩
 ·go_wp2_with fail
  (with_reducible refine (equal_any _ _ V.s U.s _ YA.out.s YB.out.s (Nat.le_trans hV.s (by decide))).mono ?_)
  rintro e2 w4 ⟨rfl, hb⟩
  have BS := hd_ (ba_ BR.out hb)
  clear hb
  go_wp2_with fail
  go_ret
  exact ⟨by rw [HE.out]; rfl, BS.out⟩
theorem fit_recv {V U : Vw} {k p q : Int} (h : FitVIE 400 V) (g : FitVIE 400 U) : FitVIE 1000 (recvP k V U p q) := by
 have J := (fit_join h g (by decide)).mono (show 400 + 400 ≤ 900 by decide)
 have P : ∀ l : List Sets.Id2, l.length ≤ 900 → (Sets.join l [(p, q)]).length ≤ 1000 := fun l hl => Nat.le_trans (len_join _ _) (by simp; omega)
 unfold recvP
 split
 ·exact ⟨Nat.le_trans J.m (by decide), Nat.le_trans J.f (by decide), Nat.le_trans J.r (by decide), Nat.le_trans J.c (by decide), P _ J.s, fun r hr => Nat.le_trans (J.n r hr) (by decide)⟩
 ·unfold stP
  split
  ·exact ⟨Nat.le_trans h.m (by decide), Nat.le_trans h.f (by decide), Nat.le_trans h.r (by decide), Nat.le_trans h.c (by decide), P _ (Nat.le_trans (len_join _ _) (by have := h.s; have := g.s; omega)), fun r hr => Nat.le_trans (h.n r hr) (by decide)⟩
  ·exact h.mono (by decide)
def toldP (k : Int) (V U : Vw) (p q : Int) : Vw × Int × Int := if (k = 3 ∨ k = 4) ∧ mayV U = true then (recvP k V U p q, ansP (recvP k V U p q) U, 0) else (V, 0, 4)
set_option maxHeartbeats 8000000 in
theorem told_any (v : Value) (V U : Vw) (p q k f1 f2 t1 t2 n tk b1 b2 : Int) (a' b' c' d' e' : SL) (w : World) (h : VAt w v V) (kr : RV w a' b' c' d' e' U) (hV : FitVIE 400 V) (hU : FitVIE 400 U) (uV : RowSets.Up V.r) :
  Calls Tryz.prog 31 #[v, .agg #[.int .i64 p, .int .i64 q], .agg #[.int .u8 k, .int .i64 f1, .int .i64 f2, .int .i64 t1, .int .i64 t2, .int .i64 n, .int .i64 tk, .int .i64 b1, .int .i64 b2, .slice a'.1 a'.2.1 a'.2.2, .slice b'.1 b'.2.1 b'.2.2, .slice c'.1 c'.2.1 c'.2.2, .slice d'.1 d'.2.1 d'.2.2, .slice e'.1 e'.2.1 e'.2.2]] w fun e w' => ∃ X, e = .returned (.tuple #[X, .int .u8 (toldP k V U p q).2.1, .int .i64 (toldP k V U p q).2.2]) ∧ VAt w' X (toldP k V U p q).1 ∧ Below w.heap.size w w' := by
 obtain ⟨a, b, c, d, e, rfl, hr⟩ := h
 have q1 := below_one w (.cells #[.slice a.1 a.2.1 a.2.2, .slice b.1 b.2.1 b.2.2, .slice c.1 c.2.1 c.2.2, .slice d.1 d.2.1 d.2.2, .slice e.1 e.2.1 e.2.2] 27)
 have q2 := below_one (w.alloc (.cells #[.slice a.1 a.2.1 a.2.2, .slice b.1 b.2.1 b.2.2, .slice c.1 c.2.1 c.2.2, .slice d.1 d.2.1 d.2.2, .slice e.1 e.2.1 e.2.2] 27)) (.cells #[.int .i64 p, .int .i64 q] 29)
 have q3 := below_one ((w.alloc (.cells #[.slice a.1 a.2.1 a.2.2, .slice b.1 b.2.1 b.2.2, .slice c.1 c.2.1 c.2.2, .slice d.1 d.2.1 d.2.2, .slice e.1 e.2.1 e.2.2] 27)).alloc (.cells #[.int .i64 p, .int .i64 q] 29)) (.cells #[.int .u8 k, .int .i64 f1, .int .i64 f2, .int .i64 t1, .int .i64 t2, .int .i64 n, .int .i64 tk, .int .i64 b1, .int .i64 b2, .slice a'.1 a'.2.1 a'.2.2, .slice b'.1 b'.2.1 b'.2.2, .slice c'.1 c'.2.1 c'.2.2, .slice d'.1 d'.2.1 d'.2.2, .slice e'.1 e'.2.1 e'.2.2] 48)
 have q4 := below_one (((w.alloc (.cells #[.slice a.1 a.2.1 a.2.2, .slice b.1 b.2.1 b.2.2, .slice c.1 c.2.1 c.2.2, .slice d.1 d.2.1 d.2.2, .slice e.1 e.2.1 e.2.2] 27)).alloc (.cells #[.int .i64 p, .int .i64 q] 29)).alloc (.cells #[.int .u8 k, .int .i64 f1, .int .i64 f2, .int .i64 t1, .int .i64 t2, .int .i64 n, .int .i64 tk, .int .i64 b1, .int .i64 b2, .slice a'.1 a'.2.1 a'.2.2, .slice b'.1 b'.2.1 b'.2.2, .slice c'.1 c'.2.1 c'.2.2, .slice d'.1 d'.2.1 d'.2.2, .slice e'.1 e'.2.1 e'.2.2] 48)) (.cells #[.slice none 0 0, .slice none 0 0, .slice none 0 0, .slice none 0 0, .slice none 0 0] 27)
 have Q := (below_after (below_after (ba_ q1 q2) q3 (Nat.le_refl _)) q4 (Nat.le_refl _))
 have X1 : Hid (VBox ((((w.alloc (.cells #[.slice a.1 a.2.1 a.2.2, .slice b.1 b.2.1 b.2.2, .slice c.1 c.2.1 c.2.2, .slice d.1 d.2.1 d.2.2, .slice e.1 e.2.1 e.2.2] 27)).alloc (.cells #[.int .i64 p, .int .i64 q] 29)).alloc (.cells #[.int .u8 k, .int .i64 f1, .int .i64 f2, .int .i64 t1, .int .i64 t2, .int .i64 n, .int .i64 tk, .int .i64 b1, .int .i64 b2, .slice a'.1 a'.2.1 a'.2.2, .slice b'.1 b'.2.1 b'.2.2, .slice c'.1 c'.2.1 c'.2.2, .slice d'.1 d'.2.1 d'.2.2, .slice e'.1 e'.2.1 e'.2.2] 48)).alloc (.cells #[.slice none 0 0, .slice none 0 0, .slice none 0 0, .slice none 0 0, .slice none 0 0] 27)) (w.heap.size) a b c d e) := hd_ (vbox_below (vbox_below (vbox_below (vbox_new w a b c d e) q2) q3) q4)
 have X2 : Hid (Box ((((w.alloc (.cells #[.slice a.1 a.2.1 a.2.2, .slice b.1 b.2.1 b.2.2, .slice c.1 c.2.1 c.2.2, .slice d.1 d.2.1 d.2.2, .slice e.1 e.2.1 e.2.2] 27)).alloc (.cells #[.int .i64 p, .int .i64 q] 29)).alloc (.cells #[.int .u8 k, .int .i64 f1, .int .i64 f2, .int .i64 t1, .int .i64 t2, .int .i64 n, .int .i64 tk, .int .i64 b1, .int .i64 b2, .slice a'.1 a'.2.1 a'.2.2, .slice b'.1 b'.2.1 b'.2.2, .slice c'.1 c'.2.1 c'.2.2, .slice d'.1 d'.2.1 d'.2.2, .slice e'.1 e'.2.1 e'.2.2] 48)).alloc (.cells #[.slice none 0 0, .slice none 0 0, .slice none 0 0, .slice none 0 0, .slice none 0 0] 27)) (w.heap.size + 1) p q) := hd_ (by have h := (box_below (box_below (box_new (w.alloc (.cells #[.slice a.1 a.2.1 a.2.2, .slice b.1 b.2.1 b.2.2, .slice c.1 c.2.1 c.2.2, .slice d.1 d.2.1 d.2.2, .slice e.1 e.2.1 e.2.2] 27)) p q) q3) q4); simp only [World.size_alloc] at h; exact h)
 have X3 : Hid (FBx ((((w.alloc (.cells #[.slice a.1 a.2.1 a.2.2, .slice b.1 b.2.1 b.2.2, .slice c.1 c.2.1 c.2.2, .slice d.1 d.2.1 d.2.2, .slice e.1 e.2.1 e.2.2] 27)).alloc (.cells #[.int .i64 p, .int .i64 q] 29)).alloc (.cells #[.int .u8 k, .int .i64 f1, .int .i64 f2, .int .i64 t1, .int .i64 t2, .int .i64 n, .int .i64 tk, .int .i64 b1, .int .i64 b2, .slice a'.1 a'.2.1 a'.2.2, .slice b'.1 b'.2.1 b'.2.2, .slice c'.1 c'.2.1 c'.2.2, .slice d'.1 d'.2.1 d'.2.2, .slice e'.1 e'.2.1 e'.2.2] 48)).alloc (.cells #[.slice none 0 0, .slice none 0 0, .slice none 0 0, .slice none 0 0, .slice none 0 0] 27)) (w.heap.size + 1 + 1) k f1 f2 t1 t2 n tk b1 b2 a' b' c' d' e') := hd_ (by have h := (fbx_below (fbx_new ((w.alloc (.cells #[.slice a.1 a.2.1 a.2.2, .slice b.1 b.2.1 b.2.2, .slice c.1 c.2.1 c.2.2, .slice d.1 d.2.1 d.2.2, .slice e.1 e.2.1 e.2.2] 27)).alloc (.cells #[.int .i64 p, .int .i64 q] 29)) k f1 f2 t1 t2 n tk b1 b2 a' b' c' d' e') q4); simp only [World.size_alloc] at h; exact h)
 have X4 : Hid (VBox ((((w.alloc (.cells #[.slice a.1 a.2.1 a.2.2, .slice b.1 b.2.1 b.2.2, .slice c.1 c.2.1 c.2.2, .slice d.1 d.2.1 d.2.2, .slice e.1 e.2.1 e.2.2] 27)).alloc (.cells #[.int .i64 p, .int .i64 q] 29)).alloc (.cells #[.int .u8 k, .int .i64 f1, .int .i64 f2, .int .i64 t1, .int .i64 t2, .int .i64 n, .int .i64 tk, .int .i64 b1, .int .i64 b2, .slice a'.1 a'.2.1 a'.2.2, .slice b'.1 b'.2.1 b'.2.2, .slice c'.1 c'.2.1 c'.2.2, .slice d'.1 d'.2.1 d'.2.2, .slice e'.1 e'.2.1 e'.2.2] 48)).alloc (.cells #[.slice none 0 0, .slice none 0 0, .slice none 0 0, .slice none 0 0, .slice none 0 0] 27)) (w.heap.size + 1 + 1 + 1) (none, 0, 0) (none, 0, 0) (none, 0, 0) (none, 0, 0) (none, 0, 0)) := hd_ (by have h := (vbox_new (((w.alloc (.cells #[.slice a.1 a.2.1 a.2.2, .slice b.1 b.2.1 b.2.2, .slice c.1 c.2.1 c.2.2, .slice d.1 d.2.1 d.2.2, .slice e.1 e.2.1 e.2.2] 27)).alloc (.cells #[.int .i64 p, .int .i64 q] 29)).alloc (.cells #[.int .u8 k, .int .i64 f1, .int .i64 f2, .int .i64 t1, .int .i64 t2, .int .i64 n, .int .i64 tk, .int .i64 b1, .int .i64 b2, .slice a'.1 a'.2.1 a'.2.2, .slice b'.1 b'.2.1 b'.2.2, .slice c'.1 c'.2.1 c'.2.2, .slice d'.1 d'.2.1 d'.2.2, .slice e'.1 e'.2.1 e'.2.2] 48)) (none, 0, 0) (none, 0, 0) (none, 0, 0) (none, 0, 0) (none, 0, 0)); simp only [World.size_alloc] at h; exact h)
 have RA := hd_ (hr.below Q)
 have RB := hd_ (kr.below Q)
 have BQ := hd_ Q
 have FV := hd_ hV
 have FU := hd_ hU
 have PV := hd_ uV
 clear hr kr q1 q2 q3 q4 Q hV hU uV
 obtain ⟨p0, p1, p2, p3, p4⟩ := vbox_cells X1.out
 obtain ⟨i0, i1⟩ := box_cells X2.out
 obtain ⟨u0, v1, v2, v3, v4, v5, v6, v7, v8, u1, u2, u3, u4, u5⟩ := fbx_cells X3.out
 by_cases hk : k = 3
 ·subst hk
  go_enter Tryz.func31, Tryz.ntmps31
  go_wp2_with fail
  (with_reducible refine (mayV_any _ U _ RB.out.at_ (FU.out.mono (by decide))).mono ?_)
  rintro e1 w5 ⟨rfl, hb⟩
  have X1 := hd_ (vbox_below X1.out hb)
  have X2 := hd_ (box_below X2.out hb)
  have X3 := hd_ (fbx_below X3.out hb)
  have X4 := hd_ (vbox_below X4.out hb)
  have RA := hd_ (RA.out.below hb)
  have RB := hd_ (RB.out.below hb)
  have BQ := hd_ (ba_ BQ.out hb)
  clear hb v1 v2 v3 v4 v5 v6 v7 v8 p0 p1 p2 p3 p4 i0 i1 u0 u1 u2 u3 u4 u5
  obtain ⟨p0, p1, p2, p3, p4⟩ := vbox_cells X1.out
  obtain ⟨i0, i1⟩ := box_cells X2.out
  obtain ⟨u0, v1, v2, v3, v4, v5, v6, v7, v8, u1, u2, u3, u4, u5⟩ := fbx_cells X3.out
  by_cases hm : mayV U = true
  ·have PU := hd_ (okV_of hm).nr.1
   rw [hm]
   have HE : Hid (toldP 3 V U p q = (recvP 3 V U p q, ansP (recvP 3 V U p q) U, 0)) := hd_ (by unfold toldP; rw [if_pos ⟨by decide, hm⟩])
   have FT : Hid (FitVIE 1000 (recvP 3 V U p q)) := hd_ (fit_recv FV.out FU.out)
   clear hm
   go_wp2_with fail
   (with_reducible refine (received_any _ V U p q 3 f1 f2 t1 t2 n tk b1 b2 a' b' c' d' e' _ RA.out.at_ RB.out FV.out FU.out PV.out PU.out).mono ?_)
   rintro e1 w6 ⟨X, rfl, hx, hb⟩
   obtain ⟨s0, s1, s2, s3, s4, rfl, hj⟩ := hx
   have q5 := below_one w6 (.cells #[.slice s0.1 s0.2.1 s0.2.2, .slice s1.1 s1.2.1 s1.2.2, .slice s2.1 s2.2.1 s2.2.2, .slice s3.1 s3.2.1 s3.2.2, .slice s4.1 s4.2.1 s4.2.2] 27)
   have bb := ba_ hb q5
   have Y3 := hd_ (fbx_below X3.out bb)
   have Y4 := hd_ (vbox_below X4.out bb)
   have Y5 := hd_ (vbox_new w6 s0 s1 s2 s3 s4)
   have YR := hd_ (hj.below q5)
   have YU := hd_ (RB.out.below bb)
   have YB := hd_ (ba_ BQ.out bb)
   have LS : Hid (w.heap.size + 1 + 1 + 1 < w6.heap.size) := hd_ (vbox_lt (vbox_below X4.out hb))
   obtain ⟨k0, k1, k2, k3, k4⟩ := vbox_cells (vbox_new w6 (none, 0, 0) (none, 0, 0) (none, 0, 0) (none, 0, 0) (none, 0, 0))
   obtain ⟨f0, f1', f2', f3, f4⟩ := vbox_free (vbox_new w6 (none, 0, 0) (none, 0, 0) (none, 0, 0) (none, 0, 0) (none, 0, 0))
   dsimp only at k0 k1 k2 k3 k4
   clear hb hj q5 bb X1 X2 X3 X4 RA RB BQ p0 p1 p2 p3 p4 i0 i1 u0 u1 u2 u3 u4 u5 v1 v2 v3 v4 v5 v6 v7 v8
   obtain ⟨p0, p1, p2, p3, p4⟩ := vbox_cells Y5.out
   obtain ⟨-, -, -, -, -, -, -, -, -, u1, u2, u3, u4, u5⟩ := fbx_cells Y3.out
   go_upto_region 4 with fail
   clear k0 k1 k2 k3 k4 f0 f1' f2' f3 f4
   generalize hT : recvP 3 V U p q = T at *
   generalize w6.alloc (.cells #[.slice s0.1 s0.2.1 s0.2.2, .slice s1.1 s1.2.1 s1.2.2, .slice s2.1 s2.2.1 s2.2.2, .slice s3.1 s3.2.1 s3.2.2, .slice s4.1 s4.2.1 s4.2.2] 27) = w7 at *
   have S0 : Hid (∀ W, Below w7.heap.size w7 W → ((W.cell? ⟨w6.heap.size, 0, none⟩ = some (.slice s0.1 s0.2.1 s0.2.2) ∧ W.cell? ⟨w6.heap.size, 1, none⟩ = some (.slice s1.1 s1.2.1 s1.2.2) ∧ W.cell? ⟨w6.heap.size, 2, none⟩ = some (.slice s2.1 s2.2.1 s2.2.2) ∧ W.cell? ⟨w6.heap.size, 3, none⟩ = some (.slice s3.1 s3.2.1 s3.2.2) ∧ W.cell? ⟨w6.heap.size, 4, none⟩ = some (.slice s4.1 s4.2.1 s4.2.2)) ∧ W.cell? ⟨w.heap.size + 1 + 1, 9, none⟩ = some (.slice a'.1 a'.2.1 a'.2.2) ∧ W.cell? ⟨w.heap.size + 1 + 1, 10, none⟩ = some (.slice b'.1 b'.2.1 b'.2.2) ∧ W.cell? ⟨w.heap.size + 1 + 1, 11, none⟩ = some (.slice c'.1 c'.2.1 c'.2.2) ∧ W.cell? ⟨w.heap.size + 1 + 1, 12, none⟩ = some (.slice d'.1 d'.2.1 d'.2.2) ∧ W.cell? ⟨w.heap.size + 1 + 1, 13, none⟩ = some (.slice e'.1 e'.2.1 e'.2.2))) := hd_ fun W hb => by
    have key : ∀ (q : Addr) (u : Value), w7.cell? q = some u → W.cell? q = some u := fun q u hu => (hb.cell (World.block_lt_of_cell? w7 _ hu)).trans hu
    exact ⟨⟨key _ _ p0, key _ _ p1, key _ _ p2, key _ _ p3, key _ _ p4⟩, key _ _ u1, key _ _ u2, key _ _ u3, key _ _ u4, key _ _ u5⟩
   clear p0 p1 p2 p3 p4 u1 u2 u3 u4 u5
   have P0 := hd_ (show Below w7.heap.size w7 w7.drew from (Below.refl _ _).drew)
   refine wp_region_held_drew (S := (fun W => (W.cell? ⟨w6.heap.size, 0, none⟩ = some (.slice s0.1 s0.2.1 s0.2.2) ∧ W.cell? ⟨w6.heap.size, 1, none⟩ = some (.slice s1.1 s1.2.1 s1.2.2) ∧ W.cell? ⟨w6.heap.size, 2, none⟩ = some (.slice s2.1 s2.2.1 s2.2.2) ∧ W.cell? ⟨w6.heap.size, 3, none⟩ = some (.slice s3.1 s3.2.1 s3.2.2) ∧ W.cell? ⟨w6.heap.size, 4, none⟩ = some (.slice s4.1 s4.2.1 s4.2.2)) ∧ W.cell? ⟨w.heap.size + 1 + 1, 9, none⟩ = some (.slice a'.1 a'.2.1 a'.2.2) ∧ W.cell? ⟨w.heap.size + 1 + 1, 10, none⟩ = some (.slice b'.1 b'.2.1 b'.2.2) ∧ W.cell? ⟨w.heap.size + 1 + 1, 11, none⟩ = some (.slice c'.1 c'.2.1 c'.2.2) ∧ W.cell? ⟨w.heap.size + 1 + 1, 12, none⟩ = some (.slice d'.1 d'.2.1 d'.2.2) ∧ W.cell? ⟨w.heap.size + 1 + 1, 13, none⟩ = some (.slice e'.1 e'.2.1 e'.2.2))) (by kernel_rfl) ?_ (fun hHeld => ?_)
   ·exact S0.out _ P0.out
   refine ty_ 0 ?_
   try simp only [Act.put, si0, si1, si2]
   refine ty_ 1 ?_
   try simp only [Act.put, si0, si1, si2]
   refine ty_ 2 ?_
   try simp only [Act.put, si0, si1, si2]
   refine ty_ 3 ?_
   try simp only [Act.put, si0, si1, si2]
   refine ar_ [4] ?_
   refine ac_ (fun Kq hKq => ?_) an_
   go_simp
   clear hHeld
   (with_reducible refine (answer_any _ _ T U _ (YR.out.below P0.out).at_ (YU.out.below P0.out).at_ FT.out (FU.out.mono (by decide))).mono ?_); rintro e2 x1 ⟨rfl, hb⟩; have P1 := hd_ (ba_ P0.out hb); clear hb
   refine hKq.out _ _ ?_ (fun hHeld => ?_)
   ·(try dsimp only); exact S0.out _ P1.out
   clear hKq Kq
   try simp only [Act.put, si0, si1, si2]
   refine ar_ [5] ?_
   refine ac_ (fun Kq hKq => ?_) an_
   have K4 := hd_ (vbox_below Y4.out P1.out)
   obtain ⟨r0, r1, r2, r3, r4⟩ := vbox_cells K4.out
   obtain ⟨g0, g1, g2, g3, g4⟩ := vbox_free K4.out
   dsimp only at r0 r1 r2 r3 r4
   go_simp
   clear hHeld
   skip
   refine hKq.out _ _ ?_ (fun hHeld => ?_)
   ·(try dsimp only); obtain ⟨⟨y0, y1, y2, y3, y4⟩, y5, y6, y7, y8, y9⟩ := S0.out _ P1.out; exact ⟨⟨(cell_aparts (vs := [.slice s0.1 s0.2.1 s0.2.2, .slice s1.1 s1.2.1 s1.2.2, .slice s2.1 s2.2.1 s2.2.2, .slice s3.1 s3.2.1 s3.2.2, .slice s4.1 s4.2.1 s4.2.2]) y0 (by have := LS.out; dsimp only; omega)), (cell_aparts (vs := [.slice s0.1 s0.2.1 s0.2.2, .slice s1.1 s1.2.1 s1.2.2, .slice s2.1 s2.2.1 s2.2.2, .slice s3.1 s3.2.1 s3.2.2, .slice s4.1 s4.2.1 s4.2.2]) y1 (by have := LS.out; dsimp only; omega)), (cell_aparts (vs := [.slice s0.1 s0.2.1 s0.2.2, .slice s1.1 s1.2.1 s1.2.2, .slice s2.1 s2.2.1 s2.2.2, .slice s3.1 s3.2.1 s3.2.2, .slice s4.1 s4.2.1 s4.2.2]) y2 (by have := LS.out; dsimp only; omega)), (cell_aparts (vs := [.slice s0.1 s0.2.1 s0.2.2, .slice s1.1 s1.2.1 s1.2.2, .slice s2.1 s2.2.1 s2.2.2, .slice s3.1 s3.2.1 s3.2.2, .slice s4.1 s4.2.1 s4.2.2]) y3 (by have := LS.out; dsimp only; omega)), (cell_aparts (vs := [.slice s0.1 s0.2.1 s0.2.2, .slice s1.1 s1.2.1 s1.2.2, .slice s2.1 s2.2.1 s2.2.2, .slice s3.1 s3.2.1 s3.2.2, .slice s4.1 s4.2.1 s4.2.2]) y4 (by have := LS.out; dsimp only; omega))⟩, (cell_aparts (vs := [.slice s0.1 s0.2.1 s0.2.2, .slice s1.1 s1.2.1 s1.2.2, .slice s2.1 s2.2.1 s2.2.2, .slice s3.1 s3.2.1 s3.2.2, .slice s4.1 s4.2.1 s4.2.2]) y5 (by have := LS.out; dsimp only; omega)), (cell_aparts (vs := [.slice s0.1 s0.2.1 s0.2.2, .slice s1.1 s1.2.1 s1.2.2, .slice s2.1 s2.2.1 s2.2.2, .slice s3.1 s3.2.1 s3.2.2, .slice s4.1 s4.2.1 s4.2.2]) y6 (by have := LS.out; dsimp only; omega)), (cell_aparts (vs := [.slice s0.1 s0.2.1 s0.2.2, .slice s1.1 s1.2.1 s1.2.2, .slice s2.1 s2.2.1 s2.2.2, .slice s3.1 s3.2.1 s3.2.2, .slice s4.1 s4.2.1 s4.2.2]) y7 (by have := LS.out; dsimp only; omega)), (cell_aparts (vs := [.slice s0.1 s0.2.1 s0.2.2, .slice s1.1 s1.2.1 s1.2.2, .slice s2.1 s2.2.1 s2.2.2, .slice s3.1 s3.2.1 s3.2.2, .slice s4.1 s4.2.1 s4.2.2]) y8 (by have := LS.out; dsimp only; omega)), (cell_aparts (vs := [.slice s0.1 s0.2.1 s0.2.2, .slice s1.1 s1.2.1 s1.2.2, .slice s2.1 s2.2.1 s2.2.2, .slice s3.1 s3.2.1 s3.2.2, .slice s4.1 s4.2.1 s4.2.2]) y9 (by have := LS.out; dsimp only; omega))⟩
   clear hKq Kq
   try simp only [Act.put, si0, si1, si2]
   refine ty_ 6 ?_
   try simp only [Act.put, si0, si1, si2]
   refine ty_ 7 ?_
   try simp only [Act.put, si0, si1, si2]
   refine wd_ ?_
   have V4 := hd_ (vbox_below Y4.out P1.out)
   have VR := hd_ (YR.out.below P1.out)
   have VB := hd_ (ba_ YB.out P1.out)
   go_wp2_with fail
   obtain ⟨c0, c1, c2, c3, c4⟩ := vbox_cells (vbox_set V4.out s0 s1 s2 s3 s4)
   refine bodyPost_ret (v := .tuple #[.agg #[.slice s0.1 s0.2.1 s0.2.2, .slice s1.1 s1.2.1 s1.2.2, .slice s2.1 s2.2.1 s2.2.2, .slice s3.1 s3.2.1 s3.2.2, .slice s4.1 s4.2.1 s4.2.2], .int .u8 (ansP T U), .int .i64 0]) (by simp [results, Tryz.results31, go_sem, c0, c1, c2, c3, c4]) rfl ?_
   have hk2 := kp_set V4.out [.slice s0.1 s0.2.1 s0.2.2, .slice s1.1 s1.2.1 s1.2.2, .slice s2.1 s2.2.1 s2.2.2, .slice s3.1 s3.2.1 s3.2.2, .slice s4.1 s4.2.1 s4.2.2]
   exact ⟨_, by rw [HE.out], by rw [HE.out]; exact (VR.out.kp hk2).at_, below_setCells VB.out (by omega) 0 [.slice s0.1 s0.2.1 s0.2.2, .slice s1.1 s1.2.1 s1.2.2, .slice s2.1 s2.2.1 s2.2.2, .slice s3.1 s3.2.1 s3.2.2, .slice s4.1 s4.2.1 s4.2.2]⟩
  ·have HE : Hid (toldP 3 V U p q = (V, 0, 4)) := hd_ (by unfold toldP; rw [if_neg (fun h => hm h.2)])
   have hm : mayV U = false := by simpa using hm
   rw [hm]
   clear hm
   go_wp2_with fail
   (with_reducible refine (copyV_any _ V _ RA.out.at_ (FV.out.mono (by decide))).mono ?_)
   rintro e1 w3 ⟨X, rfl, hx, hb⟩
   obtain ⟨s0, s1, s2, s3, s4, rfl, hj⟩ := hx
   have Y2 := hd_ (vbox_below X4.out hb)
   have YR := hd_ hj
   have YB := hd_ (ba_ BQ.out hb)
   clear hb hj X1 X2 X3 X4 RA RB BQ p0 p1 p2 p3 p4 i0 i1 u0 v1 v2 v3 v4 v5 v6 v7 v8 u1 u2 u3 u4 u5
   obtain ⟨z0, z1, z2, z3, z4⟩ := vbox_cells Y2.out
   obtain ⟨h0, h1, h2, h3, h4⟩ := vbox_free Y2.out
   dsimp only at z0 z1 z2 z3 z4
   go_wp2_with fail
   obtain ⟨c0, c1, c2, c3, c4⟩ := vbox_cells (vbox_set Y2.out s0 s1 s2 s3 s4)
   refine bodyPost_ret (v := .tuple #[.agg #[.slice s0.1 s0.2.1 s0.2.2, .slice s1.1 s1.2.1 s1.2.2, .slice s2.1 s2.2.1 s2.2.2, .slice s3.1 s3.2.1 s3.2.2, .slice s4.1 s4.2.1 s4.2.2], .int .u8 0, .int .i64 4]) (by simp [results, Tryz.results31, go_sem, c0, c1, c2, c3, c4]) rfl ?_
   have hk2 := kp_set Y2.out [.slice s0.1 s0.2.1 s0.2.2, .slice s1.1 s1.2.1 s1.2.2, .slice s2.1 s2.2.1 s2.2.2, .slice s3.1 s3.2.1 s3.2.2, .slice s4.1 s4.2.1 s4.2.2]
   exact ⟨_, by rw [HE.out], by rw [HE.out]; exact (YR.out.kp hk2).at_, below_setCells YB.out (by omega) 0 [.slice s0.1 s0.2.1 s0.2.2, .slice s1.1 s1.2.1 s1.2.2, .slice s2.1 s2.2.1 s2.2.2, .slice s3.1 s3.2.1 s3.2.2, .slice s4.1 s4.2.1 s4.2.2]⟩
 ·by_cases hk4 : k = 4
  ·subst hk4
   clear hk
   go_enter Tryz.func31, Tryz.ntmps31
   go_wp2_with fail
   (with_reducible refine (mayV_any _ U _ RB.out.at_ (FU.out.mono (by decide))).mono ?_)
   rintro e1 w5 ⟨rfl, hb⟩
   have X1 := hd_ (vbox_below X1.out hb)
   have X2 := hd_ (box_below X2.out hb)
   have X3 := hd_ (fbx_below X3.out hb)
   have X4 := hd_ (vbox_below X4.out hb)
   have RA := hd_ (RA.out.below hb)
   have RB := hd_ (RB.out.below hb)
   have BQ := hd_ (ba_ BQ.out hb)
   clear hb v1 v2 v3 v4 v5 v6 v7 v8 p0 p1 p2 p3 p4 i0 i1 u0 u1 u2 u3 u4 u5
   obtain ⟨p0, p1, p2, p3, p4⟩ := vbox_cells X1.out
   obtain ⟨i0, i1⟩ := box_cells X2.out
   obtain ⟨u0, v1, v2, v3, v4, v5, v6, v7, v8, u1, u2, u3, u4, u5⟩ := fbx_cells X3.out
   by_cases hm : mayV U = true
   ·have PU := hd_ (okV_of hm).nr.1
    rw [hm]
    have HE : Hid (toldP 4 V U p q = (recvP 4 V U p q, ansP (recvP 4 V U p q) U, 0)) := hd_ (by unfold toldP; rw [if_pos ⟨by decide, hm⟩])
    have FT : Hid (FitVIE 1000 (recvP 4 V U p q)) := hd_ (fit_recv FV.out FU.out)
    clear hm
    go_wp2_with fail
    (with_reducible refine (received_any _ V U p q 4 f1 f2 t1 t2 n tk b1 b2 a' b' c' d' e' _ RA.out.at_ RB.out FV.out FU.out PV.out PU.out).mono ?_)
    rintro e1 w6 ⟨X, rfl, hx, hb⟩
    obtain ⟨s0, s1, s2, s3, s4, rfl, hj⟩ := hx
    have q5 := below_one w6 (.cells #[.slice s0.1 s0.2.1 s0.2.2, .slice s1.1 s1.2.1 s1.2.2, .slice s2.1 s2.2.1 s2.2.2, .slice s3.1 s3.2.1 s3.2.2, .slice s4.1 s4.2.1 s4.2.2] 27)
    have bb := ba_ hb q5
    have Y3 := hd_ (fbx_below X3.out bb)
    have Y4 := hd_ (vbox_below X4.out bb)
    have Y5 := hd_ (vbox_new w6 s0 s1 s2 s3 s4)
    have YR := hd_ (hj.below q5)
    have YU := hd_ (RB.out.below bb)
    have YB := hd_ (ba_ BQ.out bb)
    have LS : Hid (w.heap.size + 1 + 1 + 1 < w6.heap.size) := hd_ (vbox_lt (vbox_below X4.out hb))
    obtain ⟨k0, k1, k2, k3, k4⟩ := vbox_cells (vbox_new w6 (none, 0, 0) (none, 0, 0) (none, 0, 0) (none, 0, 0) (none, 0, 0))
    obtain ⟨f0, f1', f2', f3, f4⟩ := vbox_free (vbox_new w6 (none, 0, 0) (none, 0, 0) (none, 0, 0) (none, 0, 0) (none, 0, 0))
    dsimp only at k0 k1 k2 k3 k4
    clear hb hj q5 bb X1 X2 X3 X4 RA RB BQ p0 p1 p2 p3 p4 i0 i1 u0 u1 u2 u3 u4 u5 v1 v2 v3 v4 v5 v6 v7 v8
    obtain ⟨p0, p1, p2, p3, p4⟩ := vbox_cells Y5.out
    obtain ⟨-, -, -, -, -, -, -, -, -, u1, u2, u3, u4, u5⟩ := fbx_cells Y3.out
    go_upto_region 4 with fail
    clear k0 k1 k2 k3 k4 f0 f1' f2' f3 f4
    generalize hT : recvP 4 V U p q = T at *
    generalize w6.alloc (.cells #[.slice s0.1 s0.2.1 s0.2.2, .slice s1.1 s1.2.1 s1.2.2, .slice s2.1 s2.2.1 s2.2.2, .slice s3.1 s3.2.1 s3.2.2, .slice s4.1 s4.2.1 s4.2.2] 27) = w7 at *
    have S0 : Hid (∀ W, Below w7.heap.size w7 W → ((W.cell? ⟨w6.heap.size, 0, none⟩ = some (.slice s0.1 s0.2.1 s0.2.2) ∧ W.cell? ⟨w6.heap.size, 1, none⟩ = some (.slice s1.1 s1.2.1 s1.2.2) ∧ W.cell? ⟨w6.heap.size, 2, none⟩ = some (.slice s2.1 s2.2.1 s2.2.2) ∧ W.cell? ⟨w6.heap.size, 3, none⟩ = some (.slice s3.1 s3.2.1 s3.2.2) ∧ W.cell? ⟨w6.heap.size, 4, none⟩ = some (.slice s4.1 s4.2.1 s4.2.2)) ∧ W.cell? ⟨w.heap.size + 1 + 1, 9, none⟩ = some (.slice a'.1 a'.2.1 a'.2.2) ∧ W.cell? ⟨w.heap.size + 1 + 1, 10, none⟩ = some (.slice b'.1 b'.2.1 b'.2.2) ∧ W.cell? ⟨w.heap.size + 1 + 1, 11, none⟩ = some (.slice c'.1 c'.2.1 c'.2.2) ∧ W.cell? ⟨w.heap.size + 1 + 1, 12, none⟩ = some (.slice d'.1 d'.2.1 d'.2.2) ∧ W.cell? ⟨w.heap.size + 1 + 1, 13, none⟩ = some (.slice e'.1 e'.2.1 e'.2.2))) := hd_ fun W hb => by
     have key : ∀ (q : Addr) (u : Value), w7.cell? q = some u → W.cell? q = some u := fun q u hu => (hb.cell (World.block_lt_of_cell? w7 _ hu)).trans hu
     exact ⟨⟨key _ _ p0, key _ _ p1, key _ _ p2, key _ _ p3, key _ _ p4⟩, key _ _ u1, key _ _ u2, key _ _ u3, key _ _ u4, key _ _ u5⟩
    clear p0 p1 p2 p3 p4 u1 u2 u3 u4 u5
    have P0 := hd_ (show Below w7.heap.size w7 w7.drew from (Below.refl _ _).drew)
    refine wp_region_held_drew (S := (fun W => (W.cell? ⟨w6.heap.size, 0, none⟩ = some (.slice s0.1 s0.2.1 s0.2.2) ∧ W.cell? ⟨w6.heap.size, 1, none⟩ = some (.slice s1.1 s1.2.1 s1.2.2) ∧ W.cell? ⟨w6.heap.size, 2, none⟩ = some (.slice s2.1 s2.2.1 s2.2.2) ∧ W.cell? ⟨w6.heap.size, 3, none⟩ = some (.slice s3.1 s3.2.1 s3.2.2) ∧ W.cell? ⟨w6.heap.size, 4, none⟩ = some (.slice s4.1 s4.2.1 s4.2.2)) ∧ W.cell? ⟨w.heap.size + 1 + 1, 9, none⟩ = some (.slice a'.1 a'.2.1 a'.2.2) ∧ W.cell? ⟨w.heap.size + 1 + 1, 10, none⟩ = some (.slice b'.1 b'.2.1 b'.2.2) ∧ W.cell? ⟨w.heap.size + 1 + 1, 11, none⟩ = some (.slice c'.1 c'.2.1 c'.2.2) ∧ W.cell? ⟨w.heap.size + 1 + 1, 12, none⟩ = some (.slice d'.1 d'.2.1 d'.2.2) ∧ W.cell? ⟨w.heap.size + 1 + 1, 13, none⟩ = some (.slice e'.1 e'.2.1 e'.2.2))) (by kernel_rfl) ?_ (fun hHeld => ?_)
    ·exact S0.out _ P0.out
    refine ty_ 0 ?_
    try simp only [Act.put, si0, si1, si2]
    refine ty_ 1 ?_
    try simp only [Act.put, si0, si1, si2]
    refine ty_ 2 ?_
    try simp only [Act.put, si0, si1, si2]
    refine ty_ 3 ?_
    try simp only [Act.put, si0, si1, si2]
    refine ar_ [4] ?_
    refine ac_ (fun Kq hKq => ?_) an_
    go_simp
    clear hHeld
    (with_reducible refine (answer_any _ _ T U _ (YR.out.below P0.out).at_ (YU.out.below P0.out).at_ FT.out (FU.out.mono (by decide))).mono ?_); rintro e2 x1 ⟨rfl, hb⟩; have P1 := hd_ (ba_ P0.out hb); clear hb
    refine hKq.out _ _ ?_ (fun hHeld => ?_)
    ·(try dsimp only); exact S0.out _ P1.out
    clear hKq Kq
    try simp only [Act.put, si0, si1, si2]
    refine ar_ [5] ?_
    refine ac_ (fun Kq hKq => ?_) an_
    have K4 := hd_ (vbox_below Y4.out P1.out)
    obtain ⟨r0, r1, r2, r3, r4⟩ := vbox_cells K4.out
    obtain ⟨g0, g1, g2, g3, g4⟩ := vbox_free K4.out
    dsimp only at r0 r1 r2 r3 r4
    go_simp
    clear hHeld
    skip
    refine hKq.out _ _ ?_ (fun hHeld => ?_)
    ·(try dsimp only); obtain ⟨⟨y0, y1, y2, y3, y4⟩, y5, y6, y7, y8, y9⟩ := S0.out _ P1.out; exact ⟨⟨(cell_aparts (vs := [.slice s0.1 s0.2.1 s0.2.2, .slice s1.1 s1.2.1 s1.2.2, .slice s2.1 s2.2.1 s2.2.2, .slice s3.1 s3.2.1 s3.2.2, .slice s4.1 s4.2.1 s4.2.2]) y0 (by have := LS.out; dsimp only; omega)), (cell_aparts (vs := [.slice s0.1 s0.2.1 s0.2.2, .slice s1.1 s1.2.1 s1.2.2, .slice s2.1 s2.2.1 s2.2.2, .slice s3.1 s3.2.1 s3.2.2, .slice s4.1 s4.2.1 s4.2.2]) y1 (by have := LS.out; dsimp only; omega)), (cell_aparts (vs := [.slice s0.1 s0.2.1 s0.2.2, .slice s1.1 s1.2.1 s1.2.2, .slice s2.1 s2.2.1 s2.2.2, .slice s3.1 s3.2.1 s3.2.2, .slice s4.1 s4.2.1 s4.2.2]) y2 (by have := LS.out; dsimp only; omega)), (cell_aparts (vs := [.slice s0.1 s0.2.1 s0.2.2, .slice s1.1 s1.2.1 s1.2.2, .slice s2.1 s2.2.1 s2.2.2, .slice s3.1 s3.2.1 s3.2.2, .slice s4.1 s4.2.1 s4.2.2]) y3 (by have := LS.out; dsimp only; omega)), (cell_aparts (vs := [.slice s0.1 s0.2.1 s0.2.2, .slice s1.1 s1.2.1 s1.2.2, .slice s2.1 s2.2.1 s2.2.2, .slice s3.1 s3.2.1 s3.2.2, .slice s4.1 s4.2.1 s4.2.2]) y4 (by have := LS.out; dsimp only; omega))⟩, (cell_aparts (vs := [.slice s0.1 s0.2.1 s0.2.2, .slice s1.1 s1.2.1 s1.2.2, .slice s2.1 s2.2.1 s2.2.2, .slice s3.1 s3.2.1 s3.2.2, .slice s4.1 s4.2.1 s4.2.2]) y5 (by have := LS.out; dsimp only; omega)), (cell_aparts (vs := [.slice s0.1 s0.2.1 s0.2.2, .slice s1.1 s1.2.1 s1.2.2, .slice s2.1 s2.2.1 s2.2.2, .slice s3.1 s3.2.1 s3.2.2, .slice s4.1 s4.2.1 s4.2.2]) y6 (by have := LS.out; dsimp only; omega)), (cell_aparts (vs := [.slice s0.1 s0.2.1 s0.2.2, .slice s1.1 s1.2.1 s1.2.2, .slice s2.1 s2.2.1 s2.2.2, .slice s3.1 s3.2.1 s3.2.2, .slice s4.1 s4.2.1 s4.2.2]) y7 (by have := LS.out; dsimp only; omega)), (cell_aparts (vs := [.slice s0.1 s0.2.1 s0.2.2, .slice s1.1 s1.2.1 s1.2.2, .slice s2.1 s2.2.1 s2.2.2, .slice s3.1 s3.2.1 s3.2.2, .slice s4.1 s4.2.1 s4.2.2]) y8 (by have := LS.out; dsimp only; omega)), (cell_aparts (vs := [.slice s0.1 s0.2.1 s0.2.2, .slice s1.1 s1.2.1 s1.2.2, .slice s2.1 s2.2.1 s2.2.2, .slice s3.1 s3.2.1 s3.2.2, .slice s4.1 s4.2.1 s4.2.2]) y9 (by have := LS.out; dsimp only; omega))⟩
    clear hKq Kq
    try simp only [Act.put, si0, si1, si2]
    refine ty_ 6 ?_
    try simp only [Act.put, si0, si1, si2]
    refine ty_ 7 ?_
    try simp only [Act.put, si0, si1, si2]
    refine wd_ ?_
    have V4 := hd_ (vbox_below Y4.out P1.out)
    have VR := hd_ (YR.out.below P1.out)
    have VB := hd_ (ba_ YB.out P1.out)
    go_wp2_with fail
    obtain ⟨c0, c1, c2, c3, c4⟩ := vbox_cells (vbox_set V4.out s0 s1 s2 s3 s4)
    refine bodyPost_ret (v := .tuple #[.agg #[.slice s0.1 s0.2.1 s0.2.2, .slice s1.1 s1.2.1 s1.2.2, .slice s2.1 s2.2.1 s2.2.2, .slice s3.1 s3.2.1 s3.2.2, .slice s4.1 s4.2.1 s4.2.2], .int .u8 (ansP T U), .int .i64 0]) (by simp [results, Tryz.results31, go_sem, c0, c1, c2, c3, c4]) rfl ?_
    have hk2 := kp_set V4.out [.slice s0.1 s0.2.1 s0.2.2, .slice s1.1 s1.2.1 s1.2.2, .slice s2.1 s2.2.1 s2.2.2, .slice s3.1 s3.2.1 s3.2.2, .slice s4.1 s4.2.1 s4.2.2]
    exact ⟨_, by rw [HE.out], by rw [HE.out]; exact (VR.out.kp hk2).at_, below_setCells VB.out (by omega) 0 [.slice s0.1 s0.2.1 s0.2.2, .slice s1.1 s1.2.1 s1.2.2, .slice s2.1 s2.2.1 s2.2.2, .slice s3.1 s3.2.1 s3.2.2, .slice s4.1 s4.2.1 s4.2.2]⟩
   ·have HE : Hid (toldP 4 V U p q = (V, 0, 4)) := hd_ (by unfold toldP; rw [if_neg (fun h => hm h.2)])
    have hm : mayV U = false := by simpa using hm
    rw [hm]
    clear hm
    go_wp2_with fail
    (with_reducible refine (copyV_any _ V _ RA.out.at_ (FV.out.mono (by decide))).mono ?_)
    rintro e1 w3 ⟨X, rfl, hx, hb⟩
    obtain ⟨s0, s1, s2, s3, s4, rfl, hj⟩ := hx
    have Y2 := hd_ (vbox_below X4.out hb)
    have YR := hd_ hj
    have YB := hd_ (ba_ BQ.out hb)
    clear hb hj X1 X2 X3 X4 RA RB BQ p0 p1 p2 p3 p4 i0 i1 u0 v1 v2 v3 v4 v5 v6 v7 v8 u1 u2 u3 u4 u5
    obtain ⟨z0, z1, z2, z3, z4⟩ := vbox_cells Y2.out
    obtain ⟨h0, h1, h2, h3, h4⟩ := vbox_free Y2.out
    dsimp only at z0 z1 z2 z3 z4
    go_wp2_with fail
    obtain ⟨c0, c1, c2, c3, c4⟩ := vbox_cells (vbox_set Y2.out s0 s1 s2 s3 s4)
    refine bodyPost_ret (v := .tuple #[.agg #[.slice s0.1 s0.2.1 s0.2.2, .slice s1.1 s1.2.1 s1.2.2, .slice s2.1 s2.2.1 s2.2.2, .slice s3.1 s3.2.1 s3.2.2, .slice s4.1 s4.2.1 s4.2.2], .int .u8 0, .int .i64 4]) (by simp [results, Tryz.results31, go_sem, c0, c1, c2, c3, c4]) rfl ?_
    have hk2 := kp_set Y2.out [.slice s0.1 s0.2.1 s0.2.2, .slice s1.1 s1.2.1 s1.2.2, .slice s2.1 s2.2.1 s2.2.2, .slice s3.1 s3.2.1 s3.2.2, .slice s4.1 s4.2.1 s4.2.2]
    exact ⟨_, by rw [HE.out], by rw [HE.out]; exact (YR.out.kp hk2).at_, below_setCells YB.out (by omega) 0 [.slice s0.1 s0.2.1 s0.2.2, .slice s1.1 s1.2.1 s1.2.2, .slice s2.1 s2.2.1 s2.2.2, .slice s3.1 s3.2.1 s3.2.2, .slice s4.1 s4.2.1 s4.2.2]⟩
  ·have d3 : (k == 3) = false := by simpa using hk
   have d4 : (k == 4) = false := by simpa using hk4
   have HE : Hid (toldP k V U p q = (V, 0, 4)) := hd_ (by unfold toldP; rw [if_neg (by rintro ⟨h | h, _⟩; exact hk h; exact hk4 h)])
   have hk5 : ¬ 3 = k := fun e => hk e.symm
   have hk6 : ¬ 4 = k := fun e => hk4 e.symm
   go_enter Tryz.func31, Tryz.ntmps31
   go_wp2_with fail
   (with_reducible refine (copyV_any _ V _ RA.out.at_ (FV.out.mono (by decide))).mono ?_)
   rintro e1 w3 ⟨X, rfl, hx, hb⟩
   obtain ⟨s0, s1, s2, s3, s4, rfl, hj⟩ := hx
   have Y2 := hd_ (vbox_below X4.out hb)
   have YR := hd_ hj
   have YB := hd_ (ba_ BQ.out hb)
   clear hb hj X1 X2 X3 X4 RA RB BQ p0 p1 p2 p3 p4 i0 i1 u0 u1 u2 u3 u4 u5
   obtain ⟨z0, z1, z2, z3, z4⟩ := vbox_cells Y2.out
   obtain ⟨h0, h1, h2, h3, h4⟩ := vbox_free Y2.out
   dsimp only at z0 z1 z2 z3 z4
   go_wp2_with fail
   obtain ⟨c0, c1, c2, c3, c4⟩ := vbox_cells (vbox_set Y2.out s0 s1 s2 s3 s4)
   refine bodyPost_ret (v := .tuple #[.agg #[.slice s0.1 s0.2.1 s0.2.2, .slice s1.1 s1.2.1 s1.2.2, .slice s2.1 s2.2.1 s2.2.2, .slice s3.1 s3.2.1 s3.2.2, .slice s4.1 s4.2.1 s4.2.2], .int .u8 0, .int .i64 4]) (by simp [results, Tryz.results31, go_sem, c0, c1, c2, c3, c4]) rfl ?_
   have hk2 := kp_set Y2.out [.slice s0.1 s0.2.1 s0.2.2, .slice s1.1 s1.2.1 s1.2.2, .slice s2.1 s2.2.1 s2.2.2, .slice s3.1 s3.2.1 s3.2.2, .slice s4.1 s4.2.1 s4.2.2]
   exact ⟨_, by rw [HE.out], by rw [HE.out]; exact (YR.out.kp hk2).at_, below_setCells YB.out (by omega) 0 [.slice s0.1 s0.2.1 s0.2.2, .slice s1.1 s1.2.1 s1.2.2, .slice s2.1 s2.2.1 s2.2.2, .slice s3.1 s3.2.1 s3.2.2, .slice s4.1 s4.2.1 s4.2.2]⟩
end
end Go.Proofs.YthkkipbmlafdiaaGreat
