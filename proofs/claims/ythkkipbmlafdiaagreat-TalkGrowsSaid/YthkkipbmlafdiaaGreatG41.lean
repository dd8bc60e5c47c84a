/-
  Contracts and plain facts.
-/
import Derived.Test.YthkkipbmlafdiaaGreatOz
import Derived.Test.YthkkipbmlafdiaaGreatG40
set_option maxRecDepth 20000
namespace Go.Proofs.YthkkipbmlafdiaaGreat
section
open Go Go.RowKit
def stP (V U : Vw) (p q : Int) : Vw := if Clocks.cmp V.c U.c = 1 then { V with s := Sets.join (Sets.join V.s U.s) [(p, q)] } else V
def recvP (k : Int) (V U : Vw) (p q : Int) : Vw := if k = 4 then tellP V U p q else stP V U p q
theorem join_len2 {l m : List Sets.Id2} (hl : l.length ≤ 1000) (hm : m.length ≤ 1000) : (Sets.join l m).length ≤ 40000 := by
 exact Nat.le_trans (len_join l m) (by omega)
theorem cell_aparts {w : World} {g j : Nat} {vs : List Value} {a : Addr} {u : Value} (h : w.cell? a = some u) (hne : a.block ≠ g) : (w.setCells g j vs).cell? a = some u := by
 rw [World.cell?_of_block (heap_setCells _ _ _ _ _ hne)]
 exact h
theorem cell_apart {w : World} {x a : Addr} {v u : Value} (h : w.cell? a = some u) (hne : x.block ≠ a.block) : (w.setCell x v).cell? a = some u := by
 rw [World.cell?_setCell_other _ _ _ _ (fun e => hne (congrArg Addr.block e))]
 exact h
set_option maxHeartbeats 8000000 in
theorem received_any (v : Value) (V U : Vw) (p q k f1 f2 t1 t2 n tk b1 b2 : Int) (a' b' c' d' e' : SL) (w : World) (h : VAt w v V) (kr : RV w a' b' c' d' e' U) (hV : FitVIE 400 V) (hU : FitVIE 400 U) (uV : RowSets.Up V.r) (uU : RowSets.Up U.r) :
  Calls Tryz.prog 87 #[v, .agg #[.int .i64 p, .int .i64 q], .agg #[.int .u8 k, .int .i64 f1, .int .i64 f2, .int .i64 t1, .int .i64 t2, .int .i64 n, .int .i64 tk, .int .i64 b1, .int .i64 b2, .slice a'.1 a'.2.1 a'.2.2, .slice b'.1 b'.2.1 b'.2.2, .slice c'.1 c'.2.1 c'.2.2, .slice d'.1 d'.2.1 d'.2.2, .slice e'.1 e'.2.1 e'.2.2]] w fun e w' => ∃ X, e = .returned X ∧ VAt w' X (recvP k V U p q) ∧ Below w.heap.size w w' := by
 obtain ⟨a, b, c, d, e, rfl, hr⟩ := h
 have q1 := below_one w (.cells #[.slice a.1 a.2.1 a.2.2, .slice b.1 b.2.1 b.2.2, .slice c.1 c.2.1 c.2.2, .slice d.1 d.2.1 d.2.2, .slice e.1 e.2.1 e.2.2] 27)
 have q2 := below_one (w.alloc (.cells #[.slice a.1 a.2.1 a.2.2, .slice b.1 b.2.1 b.2.2, .slice c.1 c.2.1 c.2.2, .slice d.1 d.2.1 d.2.2, .slice e.1 e.2.1 e.2.2] 27)) (.cells #[.int .i64 p, .int .i64 q] 29)
 have q3 := below_one ((w.alloc (.cells #[.slice a.1 a.2.1 a.2.2, .slice b.1 b.2.1 b.2.2, .slice c.1 c.2.1 c.2.2, .slice d.1 d.2.1 d.2.2, .slice e.1 e.2.1 e.2.2] 27)).alloc (.cells #[.int .i64 p, .int .i64 q] 29)) (.cells #[.int .u8 k, .int .i64 f1, .int .i64 f2, .int .i64 t1, .int .i64 t2, .int .i64 n, .int .i64 tk, .int .i64 b1, .int .i64 b2, .slice a'.1 a'.2.1 a'.2.2, .slice b'.1 b'.2.1 b'.2.2, .slice c'.1 c'.2.1 c'.2.2, .slice d'.1 d'.2.1 d'.2.2, .slice e'.1 e'.2.1 e'.2.2] 48)
 have q4 := below_one (((w.alloc (.cells #[.slice a.1 a.2.1 a.2.2, .slice b.1 b.2.1 b.2.2, .slice c.1 c.2.1 c.2.2, .slice d.1 d.2.1 d.2.2, .slice e.1 e.2.1 e.2.2] 27)).alloc (.cells #[.int .i64 p, .int .i64 q] 29)).alloc (.cells #[.int .u8 k, .int .i64 f1, .int .i64 f2, .int .i64 t1, .int .i64 t2, .int .i64 n, .int .i64 tk, .int .i64 b1, .int .i64 b2, .slice a'.1 a'.2.1 a'.2.2, .slice b'.1 b'.2.1 b'.2.2, .slice c'.1 c'.2.1 c'.2.2, .slice d'.1 d'.2.1 d'.2.2, .slice e'.1 e'.2.1 e'.2.2] 48)) (.cells #[.slice none 0 0, .slice none 0 0, .slice none 0 0, .slice none 0 0, .slice none 0 0] 27)
 have Q := (below_after (below_after (ba_ q1 q2) q3 (Nat.le_refl _)) q4 (Nat.le_refl _))
 have X1 : Hid (VBox ((((w.alloc (.cells #[.slice a.1 a.2.1 a.2.2, .slice b.1 b.2.1 b.2.2, .slice c.1 c.2.1 c.2.2, .slice d.1 d.2.1 d.2.2, .slice e.1 e.2.1 e.2.2] 27)).alloc (.cells #[.int .i64 p, .int .i64 q] 29)).alloc (.cells #[.int .u8 k, .int .i64 f1, .int .i64 f2, .int .i64 t1, .int .i64 t2, .int .i64 n, .int .i64 tk, .int .i64 b1, .int .i64 b2, .slice a'.1 a'.2.1 a'.2.2, .slice b'.1 b'.2.1 b'.2.2, .slice c'.1 c'.2.1 c'.2.2, .slice d'.1 d'.2.1 d'.2.2, .slice e'.1 e'.2.1 e'.2.2] 48)).alloc (.cells #[.slice none 0 0, .slice none 0 0, .slice none 0 0, .slice none 0 0, .slice none 0 0] 27)) (w.heap.size) a b c d e) := hd_ (vbox_below (vbox_below (vbox_below (vbox_new w a b c d e) q2) q3) q4)
 have X2 : Hid (Box ((((w.alloc (.cells #[.slice a.1 a.2.1 a.2.2, .slice b.1 b.2.1 b.2.2, .slice c.1 c.2.1 c.2.2, .slice d.1 d.2.1 d.2.2, .slice e.1 e.2.1 e.2.2] 27)).alloc (.cells #[.int .i64 p, .int .i64 q] 29)).alloc (.cells #[.int .u8 k, .int .i64 f1, .int .i64 f2, .int .i64 t1, .int .i64 t2, .int .i64 n, .int .i64 tk, .int .i64 b1, .int .i64 b2, .slice a'.1 a'.2.1 a'.2.2, .slice b'.1 b'.2.1 b'.2.2, .slice c'.1 c'.2.1 c'.2.2, .slice d'.1 d'.2.1 d'.2.2, .slice e'.1 e'.2.1 e'.2.2] 48)).alloc (.cells #[.slice none 0 0, .slice none 0 0, .slice none 0 0, .slice none 0 0, .slice none 0 0] 27)) (w.heap.size + 1) p q) := hd_ (by have h := (box_below (box_below (box_new (w.alloc (.cells #[.slice a.1 a.2.1 a.2.2, .slice b.1 b.2.1 b.2.2, .slice c.1 c.2.1 c.2.2, .slice d.1 d.2.1 d.2.2, .slice e.1 e.2.1 e.2.2] 27)) p q) q3) q4); simp only [World.size_alloc] at h; exact h)
 have X3 : Hid (FBx ((((w.alloc (.cells #[.slice a.1 a.2.1 a.2.2, .slice b.1 b.2.1 b.2.2, .slice c.1 c.2.1 c.2.2, .slice d.1 d.2.1 d.2.2, .slice e.1 e.2.1 e.2.2] 27)).alloc (.cells #[.int .i64 p, .int .i64 q] 29)).alloc (.cells #[.int .u8 k, .int .i64 f1, .int .i64 f2, .int .i64 t1, .int .i64 t2, .int .i64 n, .int .i64 tk, .int .i64 b1, .int .i64 b2, .slice a'.1 a'.2.1 a'.2.2, .slice b'.1 b'.2.1 b'.2.2, .slice c'.1 c'.2.1 c'.2.2, .slice d'.1 d'.2.1 d'.2.2, .slice e'.1 e'.2.1 e'.2.2] 48)).alloc (.cells #[.slice none 0 0, .slice none 0 0, .slice none 0 0, .slice none 0 0, .slice none 0 0] 27)) (w.heap.size + 1 + 1) k f1 f2 t1 t2 n tk b1 b2 a' b' c' d' e') := hd_ (by have h := (fbx_below (fbx_new ((w.alloc (.cells #[.slice a.1 a.2.1 a.2.2, .slice b.1 b.2.1 b.2.2, .slice c.1 c.2.1 c.2.2, .slice d.1 d.2.1 d.2.2, .slice e.1 e.2.1 e.2.2] 27)).alloc (.cells #[.int .i64 p, .int .i64 q] 29)) k f1 f2 t1 t2 n tk b1 b2 a' b' c' d' e') q4); simp only [World.size_alloc] at h; exact h)
 have X4 : Hid (VBox ((((w.alloc (.cells #[.slice a.1 a.2.1 a.2.2, .slice b.1 b.2.1 b.2.2, .slice c.1 c.2.1 c.2.2, .slice d.1 d.2.1 d.2.2, .slice e.1 e.2.1 e.2.2] 27)).alloc (.cells #[.int .i64 p, .int .i64 q] 29)).alloc (.cells #[.int .u8 k, .int .i64 f1, .int .i64 f2, .int .i64 t1, .int .i64 t2, .int .i64 n, .int .i64 tk, .int .i64 b1, .int .i64 b2, .slice a'.1 a'.2.1 a'.2.2, .slice b'.1 b'.2.1 b'.2.2, .slice c'.1 c'.2.1 c'.2.2, .slice d'.1 d'.2.1 d'.2.2, .slice e'.1 e'.2.1 e'.2.2] 48)).alloc (.cells #[.slice none 0 0, .slice none 0 0, .slice none 0 0, .slice none 0 0, .slice none 0 0] 27)) (w.heap.size + 1 + 1 + 1) (none, 0, 0) (none, 0, 0) (none, 0, 0) (none, 0, 0) (none, 0, 0)) := hd_ (by have h := (vbox_new (((w.alloc (.cells #[.slice a.1 a.2.1 a.2.2, .slice b.1 b.2.1 b.2.2, .slice c.1 c.2.1 c.2.2, .slice d.1 d.2.1 d.2.2, .slice e.1 e.2.1 e.2.2] 27)).alloc (.cells #[.int .i64 p, .int .i64 q] 29)).alloc (.cells #[.int .u8 k, .int .i64 f1, .int .i64 f2, .int .i64 t1, .int .i64 t2, .int .i64 n, .int .i64 tk, .int .i64 b1, .int .i64 b2, .slice a'.1 a'.2.1 a'.2.2, .slice b'.1 b'.2.1 b'.2.2, .slice c'.1 c'.2.1 c'.2.2, .slice d'.1 d'.2.1 d'.2.2, .slice e'.1 e'.2.1 e'.2.2] 48)) (none, 0, 0) (none, 0, 0) (none, 0, 0) (none, 0, 0) (none, 0, 0)); simp only [World.size_alloc] at h; exact h)
 have RA := hd_ (hr.below Q)
 have RB := hd_ (kr.below Q)
 have BQ := hd_ Q
 have FV := hd_ hV
 have FU := hd_ hU
 have PV := hd_ uV
 have PU := hd_ uU
 clear hr kr q1 q2 q3 q4 Q hV hU uV uU
 obtain ⟨p0, p1, p2, p3, p4⟩ := vbox_cells X1.out
 obtain ⟨i0, i1⟩ := box_cells X2.out
 obtain ⟨u0, -, -, -, -, -, -, -, -, u1, u2, u3, u4, u5⟩ := fbx_cells X3.out
 by_cases hk : k = 4
 ·subst hk
  go_enter Tryz.func87, Tryz.ntmps87
  go_wp2_with fail
  (with_reducible refine (tell_any _ _ V U p q _ RA.out.at_ RB.out.at_ FV.out FU.out PV.out PU.out).mono ?_)
  rintro e1 w3 ⟨X, rfl, hx, hb⟩
  obtain ⟨s0, s1, s2, s3, s4, rfl, hj⟩ := hx
  have Y2 := hd_ (vbox_below X4.out hb)
  have YR := hd_ hj
  have YB := hd_ (ba_ BQ.out hb)
  clear hb hj X1 X2 X3 X4 RA RB BQ p0 p1 p2 p3 p4 i0 i1 u0 u1 u2 u3 u4 u5
  obtain ⟨z0, z1, z2, z3, z4⟩ := vbox_cells Y2.out
  obtain ⟨h0, h1, h2, h3, h4⟩ := vbox_free Y2.out
  dsimp only at z0 z1 z2 z3 z4
  go_wp2_with fail
  obtain ⟨c0, c1, c2, c3, c4⟩ := vbox_cells (vbox_set Y2.out s0 s1 s2 s3 s4)
  refine bodyPost_ret (v := .agg #[.slice s0.1 s0.2.1 s0.2.2, .slice s1.1 s1.2.1 s1.2.2, .slice s2.1 s2.2.1 s2.2.2, .slice s3.1 s3.2.1 s3.2.2, .slice s4.1 s4.2.1 s4.2.2]) (by simp [results, Tryz.results87, go_sem, c0, c1, c2, c3, c4]) rfl ?_
  have hk2 := kp_set Y2.out [.slice s0.1 s0.2.1 s0.2.2, .slice s1.1 s1.2.1 s1.2.2, .slice s2.1 s2.2.1 s2.2.2, .slice s3.1 s3.2.1 s3.2.2, .slice s4.1 s4.2.1 s4.2.2]
  exact ⟨_, rfl, (YR.out.kp hk2).at_, below_setCells YB.out (by omega) 0 [.slice s0.1 s0.2.1 s0.2.2, .slice s1.1 s1.2.1 s1.2.2, .slice s2.1 s2.2.1 s2.2.2, .slice s3.1 s3.2.1 s3.2.2, .slice s4.1 s4.2.1 s4.2.2]⟩
 ·have d0 : (k == 4) = false := by simpa using hk
  have HE : Hid (recvP k V U p q = stP V U p q) := hd_ (by unfold recvP; rw [if_neg hk])
  have hs : stP V U p q = if Clocks.cmp V.c U.c = 1 then { V with s := Sets.join (Sets.join V.s U.s) [(p, q)] } else V := rfl
  have HS := hd_ hs
  clear hs hk
  go_enter Tryz.func87, Tryz.ntmps87
  go_wp2_with fail
  (with_reducible refine (copyV_any _ V _ RA.out.at_ (FV.out.mono (by decide))).mono ?_)
  rintro e1 w3 ⟨X, rfl, hx, hb⟩
  obtain ⟨s0, s1, s2, s3, s4, rfl, hj⟩ := hx
  have q5 := below_one w3 (.cells #[.slice s0.1 s0.2.1 s0.2.2, .slice s1.1 s1.2.1 s1.2.2, .slice s2.1 s2.2.1 s2.2.2, .slice s3.1 s3.2.1 s3.2.2, .slice s4.1 s4.2.1 s4.2.2] 27)
  have bb := ba_ hb q5
  have Y1 := hd_ (vbox_below X1.out bb)
  have Y2 := hd_ (box_below X2.out bb)
  have Y3 := hd_ (fbx_below X3.out bb)
  have Y4 := hd_ (vbox_below X4.out bb)
  have Y5 := hd_ (vbox_new w3 s0 s1 s2 s3 s4)
  have YR := hd_ (hj.below q5)
  have YA := hd_ (RA.out.below bb)
  have YU := hd_ (RB.out.below bb)
  have YB := hd_ (ba_ BQ.out bb)
  have LS : Hid (w.heap.size + 1 + 1 + 1 < w3.heap.size) := hd_ (vbox_lt (vbox_below X4.out hb))
  obtain ⟨k0, k1, k2, k3, k4⟩ := vbox_cells (vbox_new w3 (none, 0, 0) (none, 0, 0) (none, 0, 0) (none, 0, 0) (none, 0, 0))
  obtain ⟨f0, f1', f2', f3, f4⟩ := vbox_free (vbox_new w3 (none, 0, 0) (none, 0, 0) (none, 0, 0) (none, 0, 0) (none, 0, 0))
  dsimp only at k0 k1 k2 k3 k4
  clear hb hj q5 bb X1 X2 X3 X4 RA RB BQ p0 p1 p2 p3 p4 i0 i1 u0 u1 u2 u3 u4 u5
  obtain ⟨p0, p1, p2, p3, p4⟩ := vbox_cells Y1.out
  obtain ⟨u0, -, -, -, -, -, -, -, -, u1, u2, u3, u4, u5⟩ := fbx_cells Y3.out
  go_wp2_with fail
  clear k0 k1 k2 k3 k4 f0 f1' f2' f3 f4
  (with_reducible refine (compare_clocks _ _ V.c U.c _ YA.out.c YU.out.c (Nat.le_trans FV.out.c (by decide)) (Nat.le_trans FU.out.c (by decide))).mono ?_)
  rintro e1 w4 ⟨rfl, hb⟩
  have Z1 := hd_ (vbox_below Y1.out hb)
  have Z2 := hd_ (box_below Y2.out hb)
  have Z3 := hd_ (fbx_below Y3.out hb)
  have Z4 := hd_ (vbox_below Y4.out hb)
  have Z5 := hd_ (vbox_below Y5.out hb)
  have ZR := hd_ (YR.out.below hb)
  have ZA := hd_ (YA.out.below hb)
  have ZU := hd_ (YU.out.below hb)
  have ZB := hd_ (ba_ YB.out hb)
  have hc := Clocks.cmp_range V.c U.c
  clear hb Y1 Y2 Y3 Y4 Y5 YR YA YU YB p0 p1 p2 p3 p4 u0 u1 u2 u3 u4 u5
  generalize Clocks.cmp V.c U.c = m at *
  by_cases hm : m = 1
  ·subst hm
   obtain ⟨p0, p1, p2, p3, p4⟩ := vbox_cells Z1.out
   obtain ⟨u0, -, -, -, -, -, -, -, -, u1, u2, u3, u4, u5⟩ := fbx_cells Z3.out
   obtain ⟨i0, i1⟩ := box_cells Z2.out
   have S0 : Hid (∀ W, Below w4.heap.size w4 W → (W.cell? ⟨w.heap.size, 4, none⟩ = some (.slice e.1 e.2.1 e.2.2) ∧ W.cell? ⟨w.heap.size + 1 + 1, 13, none⟩ = some (.slice e'.1 e'.2.1 e'.2.2) ∧ W.cell? ⟨w.heap.size + 1, 0, none⟩ = some (.int .i64 p) ∧ W.cell? ⟨w.heap.size + 1, 1, none⟩ = some (.int .i64 q))) := hd_ fun W hb => ⟨(hb.cell (World.block_lt_of_cell? w4 _ p4)).trans p4, (hb.cell (World.block_lt_of_cell? w4 _ u5)).trans u5, (hb.cell (World.block_lt_of_cell? w4 _ i0)).trans i0, (hb.cell (World.block_lt_of_cell? w4 _ i1)).trans i1⟩
   go_upto_region 5 with fail
   have P0 := hd_ (show Below w4.heap.size w4 w4.drew from (Below.refl _ _).drew)
   refine wp_region_held_drew (S := (fun W => W.cell? ⟨w.heap.size, 4, none⟩ = some (.slice e.1 e.2.1 e.2.2) ∧ W.cell? ⟨w.heap.size + 1 + 1, 13, none⟩ = some (.slice e'.1 e'.2.1 e'.2.2) ∧ W.cell? ⟨w.heap.size + 1, 0, none⟩ = some (.int .i64 p) ∧ W.cell? ⟨w.heap.size + 1, 1, none⟩ = some (.int .i64 q))) (by kernel_rfl) ?_ (fun hHeld => ?_)
   ·exact S0.out _ P0.out
   refine ty_ 0 ?_
   try simp only [Act.put, si0, si1, si2]
   refine ty_ 1 ?_
   try simp only [Act.put, si0, si1, si2]
   refine ty_ 2 ?_
   try simp only [Act.put, si0, si1, si2]
   refine ty_ 3 ?_
   try simp only [Act.put, si0, si1, si2]
   refine ty_ 4 ?_
   try simp only [Act.put, si0, si1, si2]
   refine ty_ 6 ?_
   try simp only [Act.put, si0, si1, si2]
   refine ar_ [5] ?_
   refine ac_ (fun Kq hKq => ?_) an_
   go_simp
   clear hHeld
   (with_reducible refine (join_any _ _ V.s U.s _ (ZA.out.s.below P0.out) (ZU.out.s.below P0.out) (Nat.le_trans FV.out.s (by decide)) (Nat.le_trans FU.out.s (by decide))).mono ?_); rintro e2 x1 ⟨X, rfl, hx, hb⟩; obtain ⟨⟨A1, n1, j1⟩, rfl⟩ := sl_ids hx; dsimp only at hx ⊢; have P1 := hd_ (ba_ P0.out hb); have J1 := hd_ hx; clear hx hb
   refine hKq.out _ _ ?_ (fun hHeld => ?_)
   ·(try dsimp only); exact S0.out _ P1.out
   clear hKq Kq
   try simp only [Act.put, si0, si1, si2]
   refine ar_ [7] ?_
   refine ac_ (fun Kq hKq => ?_) an_
   go_simp
   clear hHeld
   (with_reducible refine (putI_any _ (Sets.join V.s U.s) p q _ J1.out (join_len2 (Nat.le_trans FV.out.s (by decide)) (Nat.le_trans FU.out.s (by decide)))).mono ?_); rintro e2 x2 ⟨X, rfl, hx, hb⟩; obtain ⟨⟨A2, n2, j2⟩, rfl⟩ := sl_ids hx; dsimp only at hx ⊢; have P2 := hd_ (ba_ P1.out hb); have J2 := hd_ hx; clear hx hb
   refine hKq.out _ _ ?_ (fun hHeld => ?_)
   ·(try dsimp only); exact S0.out _ P2.out
   clear hKq Kq
   try simp only [Act.put, si0, si1, si2]
   refine ty_ 8 ?_
   try simp only [Act.put, si0, si1, si2]
   refine ar_ [9] ?_
   refine ac_ (fun Kq hKq => ?_) an_
   have K5 := hd_ (vbox_below Z5.out P2.out)
   obtain ⟨r0, r1, r2, r3, r4⟩ := vbox_cells K5.out
   obtain ⟨g0, g1, g2, g3, g4⟩ := vbox_free K5.out
   go_simp
   clear hHeld
   skip
   refine hKq.out _ _ ?_ (fun hHeld => ?_)
   ·(try dsimp only); obtain ⟨y1, y2, y3, y4⟩ := S0.out _ P2.out; exact ⟨cell_apart y1 (by have := LS.out; dsimp only; omega), cell_apart y2 (by have := LS.out; dsimp only; omega), cell_apart y3 (by have := LS.out; dsimp only; omega), cell_apart y4 (by have := LS.out; dsimp only; omega)⟩
   clear hKq Kq
   try simp only [Act.put, si0, si1, si2]
   refine wd_ ?_
   have K4 := hd_ (vbox_below Z4.out P2.out)
   have KR := hd_ (ZR.out.below P2.out)
   have KB := hd_ (ba_ ZB.out P2.out)
   have hk := kp_cell (k := 4) K5.out A2 n2 j2
   have V4 := hd_ (vbox_apart K4.out (x := w3.heap.size) (by have := LS.out; omega) 4 (.slice A2 n2 j2))
   have V7 := hd_ (vbox_seen K5.out A2 n2 j2)
   have VR := hd_ (KR.out.kp hk)
   have VS := hd_ (Ids.kp J2.out hk)
   have VB := hd_ (below_two_set KB.out (show w.heap.size ≤ w3.heap.size by have := LS.out; omega) 4 (.slice A2 n2 j2))
   clear hk hHeld r0 r1 r2 r3 r4 g0 g1 g2 g3 g4 p0 p1 p2 p3 p4 u0 u1 u2 u3 u4 u5 i0 i1
   obtain ⟨t0, t1', t2', t3, t4⟩ := vbox_cells V7.out
   obtain ⟨z0, z1, z2, z3, z4⟩ := vbox_cells V4.out
   obtain ⟨h0, h1, h2, h3, h4⟩ := vbox_free V4.out
   dsimp only at t4 z0 z1 z2 z3 z4
   go_wp2_with fail
   obtain ⟨c0, c1, c2, c3, c4⟩ := vbox_cells (vbox_set V4.out s0 s1 s2 s3 (A2, n2, j2))
   dsimp only at c4
   refine bodyPost_ret (v := .agg #[.slice s0.1 s0.2.1 s0.2.2, .slice s1.1 s1.2.1 s1.2.2, .slice s2.1 s2.2.1 s2.2.2, .slice s3.1 s3.2.1 s3.2.2, .slice A2 n2 j2]) (by simp [results, Tryz.results87, go_sem, c0, c1, c2, c3, c4]) rfl ?_
   have hk2 := kp_set V4.out [.slice s0.1 s0.2.1 s0.2.2, .slice s1.1 s1.2.1 s1.2.2, .slice s2.1 s2.2.1 s2.2.2, .slice s3.1 s3.2.1 s3.2.2, .slice A2 n2 j2]
   exact ⟨_, rfl, by rw [HE.out, HS.out, if_pos trivial]; exact vAt_of (Ms.kp VR.out.m hk2) (Ids.kp VR.out.f hk2) (VR.out.r.kp hk2) (ticks_kp VR.out.c hk2) (Ids.kp VS.out hk2), below_setCells VB.out (by omega) 0 [.slice s0.1 s0.2.1 s0.2.2, .slice s1.1 s1.2.1 s1.2.2, .slice s2.1 s2.2.1 s2.2.2, .slice s3.1 s3.2.1 s3.2.2, .slice A2 n2 j2]⟩
  ·have d1 : ((m : Int) == 1) = false := by simp; omega
   obtain ⟨t0', t1', t2', t3, t4⟩ := vbox_cells Z5.out
   obtain ⟨z0, z1, z2, z3, z4⟩ := vbox_cells Z4.out
   obtain ⟨h0, h1, h2, h3, h4⟩ := vbox_free Z4.out
   dsimp only at z0 z1 z2 z3 z4
   go_wp2_with fail
   obtain ⟨c0, c1, c2, c3, c4⟩ := vbox_cells (vbox_set Z4.out s0 s1 s2 s3 s4)
   refine bodyPost_ret (v := .agg #[.slice s0.1 s0.2.1 s0.2.2, .slice s1.1 s1.2.1 s1.2.2, .slice s2.1 s2.2.1 s2.2.2, .slice s3.1 s3.2.1 s3.2.2, .slice s4.1 s4.2.1 s4.2.2]) (by simp [results, Tryz.results87, go_sem, c0, c1, c2, c3, c4]) rfl ?_
   have hk2 := kp_set Z4.out [.slice s0.1 s0.2.1 s0.2.2, .slice s1.1 s1.2.1 s1.2.2, .slice s2.1 s2.2.1 s2.2.2, .slice s3.1 s3.2.1 s3.2.2, .slice s4.1 s4.2.1 s4.2.2]
   exact ⟨_, rfl, by rw [HE.out, HS.out, if_neg hm]; exact (ZR.out.kp hk2).at_, below_setCells ZB.out (by omega) 0 [.slice s0.1 s0.2.1 s0.2.2, .slice s1.1 s1.2.1 s1.2.2, .slice s2.1 s2.2.1 s2.2.2, .slice s3.1 s3.2.1 s3.2.2, .slice s4.1 s4.2.1 s4.2.2]⟩
end
end Go.Proofs.YthkkipbmlafdiaaGreat
