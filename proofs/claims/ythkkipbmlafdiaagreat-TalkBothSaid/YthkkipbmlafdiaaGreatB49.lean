/-
  Contracts and plain facts.
-/
import Derived.Test.YthkkipbmlafdiaaGreatOy
import Derived.Deep.CutBlock
import Derived.Test.YthkkipbmlafdiaaGreatB44
import Derived.Test.YthkkipbmlafdiaaGreatB48
set_option maxRecDepth 20000
namespace Go.Proofs.YthkkipbmlafdiaaGreat
section
open Go Go.RowKit
set_option maxHeartbeats 32000000 in
set_option maxRecDepth 100000 in
theorem both_any (v0 : Value) (l : List ActT) (who whom : Int) (w : World) (h : ActsT w v0 l) (hw : IsU8 who) (hv : IsU8 whom) :
  Calls Tryz.prog 6 #[v0, .int .u8 who, .int .u8 whom] w fun e w' => e = .returned (.bool true) ∧ Below w.heap.size w w' := by
 have HA := hd_ h;obtain ⟨A, c, rfl, -⟩ := h;obtain ⟨k, hk1, hk2, hk3'⟩ := rem_u8 who 3 hw (by omega)
 obtain ⟨m, hm1, hm2, hm3'⟩ := rem_u8 whom 3 hv (by omega)
 have hk3 : k < 3 := by omega
 have hm3 : m < 3 := by omega
 clear hk3' hm3';by_cases hlen : 40 < l.length
 ·have hd : decide ((40 : Int) < (l.length : Int)) = true := decide_eq_true (by omega)
  go_enter Tryz.func6, Tryz.ntmps6
  go_wp2_with fail;(with_reducible refine (awakeT_any _).mono ?_)
  rintro e1 w1 ⟨rfl, hb⟩;have B1 := hd_ hb;clear hb;go_wp2_with fail;go_ret;exact ⟨rfl, B1.out⟩
 ·have hd : decide ((40 : Int) < (l.length : Int)) = false := decide_eq_false (by omega)
  by_cases hkm : k = m
  ·subst hkm
   go_enter Tryz.func6, Tryz.ntmps6
   go_wp2_with fail;(with_reducible refine (awakeT_any _).mono ?_)
   rintro e1 w1 ⟨rfl, hb⟩;have B1 := hd_ hb;clear hb;go_wp2_with fail;go_ret;exact ⟨rfl, B1.out⟩
  ·have dkm : ((k : Int) == (m : Int)) = false := by simp; omega
   have dkn : ¬ ((k : Int) = (m : Int)) := by omega
   go_enter Tryz.func6, Tryz.ntmps6
   go_wp2_with fail;(with_reducible refine (awakeT_any _).mono ?_)
   rintro e1 w1 ⟨rfl, hb⟩;have B1 := hd_ hb;have HA1 := hd_ (HA.out.kp (kp_below hb));clear hb hd HA;go_wp2_with fail;(with_reducible refine (run_any _ l _ HA1.out (by omega)).mono ?_)
   rintro e1 w2 ⟨a0, b0, c0, d0, e0, a1, b1, c1, d1, e1, a2, b2, c2, d2, e2, Ah, ch, n, chg, now, had, rfl, hR⟩;have HR := hd_ hR;have q3 := ad_ w2 (.cells #[.slice a0.1 a0.2.1 a0.2.2, .slice b0.1 b0.2.1 b0.2.2, .slice c0.1 c0.2.1 c0.2.2, .slice d0.1 d0.2.1 d0.2.2, .slice e0.1 e0.2.1 e0.2.2, .slice a1.1 a1.2.1 a1.2.2, .slice b1.1 b1.2.1 b1.2.2, .slice c1.1 c1.2.1 c1.2.2, .slice d1.1 d1.2.1 d1.2.2, .slice e1.1 e1.2.1 e1.2.2, .slice a2.1 a2.2.1 a2.2.2, .slice b2.1 b2.2.1 b2.2.2, .slice c2.1 c2.2.1 c2.2.2, .slice d2.1 d2.2.1 d2.2.2, .slice e2.1 e2.2.1 e2.2.2] 56);have NW : Hid (NowN (w2.alloc (.cells #[.slice a0.1 a0.2.1 a0.2.2, .slice b0.1 b0.2.1 b0.2.2, .slice c0.1 c0.2.1 c0.2.2, .slice d0.1 d0.2.1 d0.2.2, .slice e0.1 e0.2.1 e0.2.2, .slice a1.1 a1.2.1 a1.2.2, .slice b1.1 b1.2.1 b1.2.2, .slice c1.1 c1.2.1 c1.2.2, .slice d1.1 d1.2.1 d1.2.2, .slice e1.1 e1.2.1 e1.2.2, .slice a2.1 a2.2.1 a2.2.2, .slice b2.1 b2.2.1 b2.2.2, .slice c2.1 c2.2.1 c2.2.2, .slice d2.1 d2.2.1 d2.2.2, .slice e2.1 e2.2.1 e2.2.2] 56)) w2.heap.size 3 now) := hd_ (tbx_now (tbx_new w2 a0 b0 c0 d0 e0 a1 b1 c1 d1 e1 a2 b2 c2 d2 e2) (hR.r0.below q3) (hR.r1.below q3) (hR.r2.below q3))
   have BB := hd_ (ah_ (ba_ B1.out hR.below) q3 (Nat.le_refl _));have LN : Hid (w.heap.size ≤ w2.heap.size) := hd_ (Nat.le_trans B1.out.size hR.below.size)
   clear hR q3 B1 HA1;go_upto_region 6 with fail;obtain ⟨GN, hGN⟩ : ∃ g, g = w2.heap.size := ⟨_, rfl⟩;rw [← hGN] at NW LN ⊢;generalize w2.alloc (.cells #[.slice a0.1 a0.2.1 a0.2.2, .slice b0.1 b0.2.1 b0.2.2, .slice c0.1 c0.2.1 c0.2.2, .slice d0.1 d0.2.1 d0.2.2, .slice e0.1 e0.2.1 e0.2.2, .slice a1.1 a1.2.1 a1.2.2, .slice b1.1 b1.2.1 b1.2.2, .slice c1.1 c1.2.1 c1.2.2, .slice d1.1 d1.2.1 d1.2.2, .slice e1.1 e1.2.1 e1.2.2, .slice a2.1 a2.2.1 a2.2.2, .slice b2.1 b2.2.1 b2.2.2, .slice c2.1 c2.2.1 c2.2.2, .slice d2.1 d2.2.1 d2.2.2, .slice e2.1 e2.2.1 e2.2.2] 56) = w3 at *;clear hGN;have k3 : (0 : Int) ≤ (k : Int) := by omega
   have k4 : (k : Int) < 3 := by omega
   have m3 : (0 : Int) ≤ (m : Int) := by omega
   have m4 : (m : Int) < 3 := by omega
   have w1_ : wrap64 (k : Int) = (k : Int) := wrap_small (by omega) (by omega)
   have w2_ : wrap64 ((k : Int) + 1) = (k : Int) + 1 := wrap_small (by omega) (by omega)
   have w3_ : wrap64 (m : Int) = (m : Int) := wrap_small (by omega) (by omega)
   have w4_ : wrap64 ((m : Int) + 1) = (m : Int) + 1 := wrap_small (by omega) (by omega)
   obtain ⟨p, hp⟩ : ∃ p : Nat → Nat, p = fun j => if j = 0 then k else m := ⟨_, rfl⟩
   have p0 : p 0 = k := by rw [hp]; rfl
   have p1 : p 1 = m := by rw [hp]; rfl
   have hp3 : ∀ j, p j < 3 := fun j => by rw [hp]; dsimp only; split <;> omega
   have hp4 : ∀ j, p j < 4 := fun j => Nat.lt_trans (hp3 j) (by omega)
   clear hp;go_wp2_with fail;(with_reducible refine (at39_any _ _).mono ?_)
   rintro e1 w4 ⟨rfl, hb⟩;have NW := hd_ (NW.out.kept (kp_below hb) (hb.block _ NW.out.lt));have BB := hd_ (ba_ BB.out hb);clear hb;go_wp2_with fail;(with_reducible refine (at39_any _ _).mono ?_)
   rintro e1 w5 ⟨rfl, hb⟩;have q6 := ad_ w5 (.cells #[.int .i64 ((k : Int) + 1), .int .i64 1, .int .i64 ((m : Int) + 1), .int .i64 1] 60);have bb := ba_ hb q6;have NW := hd_ (NW.out.kept (kp_below bb) (bb.block _ NW.out.lt));have BB := hd_ (ba_ BB.out bb)
   have IB : Hid (IBx (w5.alloc (.cells #[.int .i64 ((k : Int) + 1), .int .i64 1, .int .i64 ((m : Int) + 1), .int .i64 1] 60)) w5.heap.size p) := hd_ (by
    have h := ibx_new w5 p;rw [p0, p1] at h;exact h)
   have LI : Hid (w.heap.size ≤ w5.heap.size) := hd_ (by have h1 := NW.out.lt; simp at h1; have h2 := LN.out; omega)
   clear hb q6 bb;go_upto_region 7 with fail;obtain ⟨GI, hGI⟩ : ∃ g, g = w5.heap.size := ⟨_, rfl⟩;rw [← hGI] at IB LI ⊢;generalize w5.alloc (.cells #[.int .i64 ((k : Int) + 1), .int .i64 1, .int .i64 ((m : Int) + 1), .int .i64 1] 60) = w6 at *;clear hGI;obtain ⟨V, hV⟩ : ∃ V : Nat → Vw, V = fun j => if j = 0 then now k else now m := ⟨_, rfl⟩
   have v0_ : V 0 = now k := by rw [hV]; rfl
   have v1_ : V 1 = now m := by rw [hV]; rfl
   clear hV;obtain ⟨a, b, x, d, e, hv0, ⟨n0, n1, n2, n3, n4⟩, -⟩ := NW.out.at_ hk3;obtain ⟨a', b', x', d', e', hv1, ⟨o0, o1, o2, o3, o4⟩, -⟩ := NW.out.at_ hm3;have R0 : Hid (RV w6 a b x d e (V 0)) := hd_ (by rw [v0_]; exact hv0)
   have R1 : Hid (RV w6 a' b' x' d' e' (V 1)) := hd_ (by rw [v1_]; exact hv1)
   have HS : Hid (∀ W, Below w6.heap.size w6 W → ((W.cell? ⟨GN, k * 5, none⟩ = some (.slice a.1 a.2.1 a.2.2) ∧ W.cell? ⟨GN, k * 5 + 1, none⟩ = some (.slice b.1 b.2.1 b.2.2) ∧ W.cell? ⟨GN, k * 5 + 2, none⟩ = some (.slice x.1 x.2.1 x.2.2) ∧ W.cell? ⟨GN, k * 5 + 3, none⟩ = some (.slice d.1 d.2.1 d.2.2) ∧ W.cell? ⟨GN, k * 5 + 4, none⟩ = some (.slice e.1 e.2.1 e.2.2)) ∧ (W.cell? ⟨GN, m * 5, none⟩ = some (.slice a'.1 a'.2.1 a'.2.2) ∧ W.cell? ⟨GN, m * 5 + 1, none⟩ = some (.slice b'.1 b'.2.1 b'.2.2) ∧ W.cell? ⟨GN, m * 5 + 2, none⟩ = some (.slice x'.1 x'.2.1 x'.2.2) ∧ W.cell? ⟨GN, m * 5 + 3, none⟩ = some (.slice d'.1 d'.2.1 d'.2.2) ∧ W.cell? ⟨GN, m * 5 + 4, none⟩ = some (.slice e'.1 e'.2.1 e'.2.2)))) := hd_ fun W hb => by
    have key : ∀ (q : Addr) (u : Value), w6.cell? q = some u → W.cell? q = some u := fun q u hu => (hb.cell (World.block_lt_of_cell? w6 _ hu)).trans hu
    exact ⟨⟨key _ _ n0, key _ _ n1, key _ _ n2, key _ _ n3, key _ _ n4⟩, key _ _ o0, key _ _ o1, key _ _ o2, key _ _ o3, key _ _ o4⟩
   have Pv0 := hd_ (show Below w6.heap.size w6 w6.drew from (Below.refl _ _).drew)
   have HLT := hd_ (ibx_lt IB.out);clear hv0 hv1 n0 n1 n2 n3 n4 o0 o1 o2 o3 o4 NW;go_cut [11] (fun s11 wx => ∃ g, s11 = .pointer (some ⟨g, 0, none⟩) ∧ Hid (w6.heap.size ≤ g) ∧ Hid (NowN wx g 2 V) ∧ Hid (Below w6.heap.size w6 wx))
   case first =>
    refine wp_region_held_drew (S := (fun W => (W.cell? ⟨GN, k * 5, none⟩ = some (.slice a.1 a.2.1 a.2.2) ∧ W.cell? ⟨GN, k * 5 + 1, none⟩ = some (.slice b.1 b.2.1 b.2.2) ∧ W.cell? ⟨GN, k * 5 + 2, none⟩ = some (.slice x.1 x.2.1 x.2.2) ∧ W.cell? ⟨GN, k * 5 + 3, none⟩ = some (.slice d.1 d.2.1 d.2.2) ∧ W.cell? ⟨GN, k * 5 + 4, none⟩ = some (.slice e.1 e.2.1 e.2.2)) ∧ (W.cell? ⟨GN, m * 5, none⟩ = some (.slice a'.1 a'.2.1 a'.2.2) ∧ W.cell? ⟨GN, m * 5 + 1, none⟩ = some (.slice b'.1 b'.2.1 b'.2.2) ∧ W.cell? ⟨GN, m * 5 + 2, none⟩ = some (.slice x'.1 x'.2.1 x'.2.2) ∧ W.cell? ⟨GN, m * 5 + 3, none⟩ = some (.slice d'.1 d'.2.1 d'.2.2) ∧ W.cell? ⟨GN, m * 5 + 4, none⟩ = some (.slice e'.1 e'.2.1 e'.2.2)))) (by kernel_rfl) ?_ (fun hHeld => ?_)
    ·exact HS.out _ Pv0.out
    generalize World.drew w6 = v0 at *;refine ty_ 0 ?_;refine ty_ 1 ?_;refine ty_ 2 ?_;refine ty_ 3 ?_;refine ty_ 4 ?_;refine ty_ 5 ?_;refine ty_ 6 ?_;refine ty_ 7 ?_;refine ty_ 8 ?_;(try simp only [Act.put, si0, si1, si2]);refine a1_ 9 fun Kq hKq => ?_;clear hHeld;refine step_palloc (by rfl) (by rfl) _ ?_; intro gn v1 k1 hb k3_
    have LO_ := hd_ (Nat.le_trans Pv0.out.size k3_);have CB := hd_ k1;clear k1 k3_;have Pv1 := hd_ (ba_ Pv0.out hb);clear hb;refine hKq.out _ _ ?_ (fun hHeld => ?_)
    ·(try dsimp only); exact HS.out _ Pv1.out
    clear hKq Kq;(try simp only [Act.put, si0, si1, si2]);refine a1_ 10 fun Kq hKq => ?_;clear hHeld;refine step_pstore (by rfl) (.tmp 11) (.tmp 64) (by rfl) _ gn a b x d e a' b' x' d' e' V (by rfl) (by rfl) CB.out (R0.out.below Pv1.out) (R1.out.below Pv1.out) ?_; intro v2 k1 k2
    have Pv2 := hd_ (Pv1.out.trans (aj_ k2 LO_.out Pv1.out.size));have NB := hd_ k1;clear k1 k2;refine hKq.out _ _ ?_ (fun hHeld => ?_)
    ·(try dsimp only); exact HS.out _ Pv2.out
    clear hKq Kq;(try simp only [Act.put]);refine wd_ ?_;go_wp2_with fail;go_meet;exact ⟨gn, rfl, LO_, NB, Pv2⟩
   case rest =>
    obtain ⟨GV, rfl, LV, NV, PV⟩ := hcut;rename World => w7;have IB := hd_ (ibx_below IB.out PV.out);have BB := hd_ (ba_ BB.out PV.out);have GI_ : Hid (GI ≠ GV) := hd_ (by have h1 := ibx_lt IB.out; have h2 := LV.out; have h3 := PV.out.size; intro e; have h4 := HLT.out; omega)
    have GW : Hid (w.heap.size ≤ GV) := hd_ (by have h1 := LI.out; have h2 := LV.out; have h4 := HLT.out; omega)
    have hacts : Acts (l.length : Int) n chg now had := HR.out.acts
    have hN : (l.length : Int) ≤ 1000 := by omega
    have GA : Hid (GoodT 1000 (V 0)) := hd_ (by rw [v0_]; exact ⟨hacts.ok (by omega), (hacts.few.1 k (by omega)).mono hN⟩)
    have GB_ : Hid (GoodT 1000 (V 1)) := hd_ (by rw [v1_]; exact ⟨hacts.ok (by omega), (hacts.few.1 m (by omega)).mono hN⟩)
    obtain ⟨J, hJ⟩ : ∃ J, J = joinV (V 0) (V 1) := ⟨_, rfl⟩;obtain ⟨qB, hqB⟩ : ∃ q : Bool, q = (sameV (V 0) (V 1) && (hasB ((p 0 : Nat) + 1, 1) (V 0).s && hasB ((p 1 : Nat) + 1, 1) (V 0).s)) := ⟨_, rfl⟩
    have HE : Hid (Ends J p (qB = true) 5 V 0 3 0) := hd_ (by
     rw [hJ];refine ends_acts hacts hN hp3 (by rw [v0_, p0]) (by rw [v1_, p1]) fun e => ?_
     rw [hqB, Bool.and_eq_true, Bool.and_eq_true] at e;obtain ⟨e1, e2, e3⟩ := e;obtain ⟨s1, s2⟩ := sameV_is e1 GA.out.1 GB_.out.1;exact ⟨s1, s2, has_nid e2, has_nid e3⟩)
    have HJ := hd_ hJ;have HQ := hd_ hqB;have HJF : Hid (FitVIE 1000 J) := hd_ (by rw [hJ]; exact (fit_join (GA.out.fit (n := 60) (by decide)) (GB_.out.fit (n := 60) (by decide)) (by decide)).mono (by decide))
    clear hJ hqB hacts hN HS Pv0 R0 R1 PV HR LV LI LN HLT p0 p1 v0_ v1_;obtain ⟨a, b, x, d, e, hv0, ⟨n0, n1, n2, n3, n4⟩, -⟩ := NV.out.at_ (k := 0) (by decide)
    obtain ⟨a', b', x', d', e', hv1, ⟨o0, o1, o2, o3, o4⟩, -⟩ := NV.out.at_ (k := 1) (by decide)
    have R0 := hd_ hv0;have R1 := hd_ hv1;clear hv0 hv1;change w7.cell? ⟨GV, 0, none⟩ = _ at n0;change w7.cell? ⟨GV, 1, none⟩ = _ at n1;change w7.cell? ⟨GV, 2, none⟩ = _ at n2;change w7.cell? ⟨GV, 3, none⟩ = _ at n3;change w7.cell? ⟨GV, 4, none⟩ = _ at n4;change w7.cell? ⟨GV, 5, none⟩ = _ at o0;change w7.cell? ⟨GV, 6, none⟩ = _ at o1;change w7.cell? ⟨GV, 7, none⟩ = _ at o2;change w7.cell? ⟨GV, 8, none⟩ = _ at o3;change w7.cell? ⟨GV, 9, none⟩ = _ at o4;go_wp2_with fail;(with_reducible refine (joinV_any _ _ (V 0) (V 1) _ R0.out.at_ R1.out.at_ (GA.out.fit (by decide)) (GB_.out.fit (by decide)) GA.out.up GB_.out.up).mono ?_)
    rintro e1 w8 ⟨X, rfl, hx, hb⟩;obtain ⟨j0, j1, j2, j3, j4, rfl, hj⟩ := hx;rw [← HJ.out] at hj;have q9 := ad_ w8 (.cells #[.slice j0.1 j0.2.1 j0.2.2, .slice j1.1 j1.2.1 j1.2.2, .slice j2.1 j2.2.1 j2.2.2, .slice j3.1 j3.2.1 j3.2.2, .slice j4.1 j4.2.1 j4.2.2] 27);have bb := ba_ hb q9;have BG : Hid (BoG w GI GV w8.heap.size p J j0 j1 j2 j3 j4 V (w8.alloc (.cells #[.slice j0.1 j0.2.1 j0.2.2, .slice j1.1 j1.2.1 j1.2.2, .slice j2.1 j2.2.1 j2.2.2, .slice j3.1 j3.2.1 j3.2.2, .slice j4.1 j4.2.1 j4.2.2] 27))) := hd_ ⟨ibx_below IB.out bb, NV.out.kept (kp_below bb) (bb.block _ NV.out.lt), ak_ w8 j0 j1 j2 j3 j4, hj.below q9, GI_.out, by have h1 := NV.out.lt; have h2 := hb.size; omega, GW.out, ba_ BB.out bb⟩
    clear hb q9 bb hj R0 R1 IB NV BB n0 n1 n2 n3 n4 o0 o1 o2 o3 o4 GI_ GW;go_upto_region 9 with fail;obtain ⟨GJ, hGJ⟩ : ∃ g, g = w8.heap.size := ⟨_, rfl⟩;rw [← hGJ] at BG ⊢;generalize w8.alloc (.cells #[.slice j0.1 j0.2.1 j0.2.2, .slice j1.1 j1.2.1 j1.2.2, .slice j2.1 j2.2.1 j2.2.2, .slice j3.1 j3.2.1 j3.2.2, .slice j4.1 j4.2.1 j4.2.2] 27) = w9 at *;clear hGJ;go_cut [13] (fun s13 wx => s13 = .bool qB ∧ Hid (Below w9.heap.size w9 wx))
    case first =>
     obtain ⟨a, b, x, d, e, a', b', x', d', e', R0, R1, ⟨n0, n1, n2, n3, n4, o0, o1, o2, o3, o4⟩, i0, i1, i2, i3⟩ := BG.out.cells;have R0 := hd_ R0;have R1 := hd_ R1;go_wp2_with fail;(with_reducible refine (sameV_any _ _ (V 0) (V 1) _ R0.out.at_ R1.out.at_ (GA.out.fit (by decide)) (GB_.out.fit (by decide))).mono ?_)
     rintro e1 wa ⟨rfl, hb⟩;have PA := hd_ hb;have BG := hd_ (BG.out.step hb);clear hb n0 n1 n2 n3 n4 o0 o1 o2 o3 o4 i0 i1 i2 i3 R0 R1;generalize sameV (V 0) (V 1) = y1 at *;cases y1
     ·go_wp2_with fail
      go_meet;exact ⟨by rw [HQ.out]; rfl, PA⟩
     ·obtain ⟨a, b, x, d, e, a', b', x', d', e', R0, R1, ⟨n0, n1, n2, n3, n4, o0, o1, o2, o3, o4⟩, i0, i1, i2, i3⟩ := BG.out.cells
      have R0 := hd_ R0;have R1 := hd_ R1;go_wp2_with fail;(with_reducible refine (has_any _ (V 0).s ((p 0 : Nat) + 1 : Int) 1 _ R0.out.s (Nat.le_trans (GA.out.fit (n := 13) (by decide)).s (by decide))).mono ?_)
      rintro e1 wb ⟨rfl, hb⟩;have PA := hd_ (ba_ PA.out hb);have BG := hd_ (BG.out.step hb);clear hb n0 n1 n2 n3 n4 o0 o1 o2 o3 o4 i0 i1 i2 i3 R0 R1;generalize hasB ((p 0 : Nat) + 1, 1) (V 0).s = y2 at *;cases y2
      ·go_wp2_with fail
       go_meet;exact ⟨by rw [HQ.out]; rfl, PA⟩
      ·obtain ⟨a, b, x, d, e, a', b', x', d', e', R0, R1, ⟨n0, n1, n2, n3, n4, o0, o1, o2, o3, o4⟩, i0, i1, i2, i3⟩ := BG.out.cells
       have R0 := hd_ R0;have R1 := hd_ R1;go_wp2_with fail;(with_reducible refine (has_any _ (V 0).s ((p 1 : Nat) + 1 : Int) 1 _ R0.out.s (Nat.le_trans (GA.out.fit (n := 13) (by decide)).s (by decide))).mono ?_)
       rintro e1 wc ⟨rfl, hb⟩;have PA := hd_ (ba_ PA.out hb);clear hb n0 n1 n2 n3 n4 o0 o1 o2 o3 o4 i0 i1 i2 i3 R0 R1;go_wp2_with fail;go_meet;exact ⟨by rw [HQ.out]; rfl, PA⟩
    case rest =>
     obtain ⟨rfl, PA⟩ := hcut;rename World => wa;have BG := hd_ (BG.out.step PA.out);clear PA HQ GA GB_ hk1 hk2 hm1 hm2 hk3 hm3 hkm dkm dkn k3 k4 m3 m4 w1_ w2_ w3_ w4_ HJ;go_wp2_with fail;go_loopw [14, 15, 16] (fun s14 s15 s16 wr => ∃ (N s f : Nat) (kd : Int) (V : Nat → Vw), s14 = .int .u8 kd ∧ s15 = .int .i64 s ∧ s16 = .int .i64 f ∧ f < 2 ∧ s ≤ 5 ∧ Hid (Ends J p (qB = true) N V f kd s) ∧ Hid (BoG w GI GV GJ p J j0 j1 j2 j3 j4 V wr)) (fun _ s15 _ _ => 5 - (intOf s15).toNat)
     case atStart => exact ⟨5, 0, 0, 3, V, rfl, rfl, rfl, by omega, by omega, HE, BG⟩
     case round =>
      clear HE BG;obtain ⟨N, s, f, kd, V, rfl, rfl, rfl, hf, hs5, HE, BG⟩ := hrel;by_cases hk0 : kd = 0
      ·subst hk0
       have FN := hd_ HE.out.fin;have GA := hd_ (HE.out.goodAt (j := 0) (by omega))
       have GB_ := hd_ (HE.out.goodAt (j := 1) (by omega))
       have C1 : Hid (coreB (V 0) J = true) := hd_ (same_core FN.out.j0)
       have C2 : Hid (sameV (V 0) (V 1) = true) := hd_ (sameV_of FN.out.same FN.out.seen)
       have C3 : Hid (hasB ((p 1 : Nat) + 1, 1) (V 0).s = true) := hd_ (has_of FN.out.h1)
       have C5 : Hid (qB = true → s = 1) := hd_ FN.out.one
       have C4 : Hid (hasB ((p 0 : Nat) + 1, 1) (V 0).s = true ∨ s < 2) := hd_ (FN.out.h0.imp has_of id)
       clear HE FN;obtain ⟨a, b, x, d, e, a', b', x', d', e', R0, R1, ⟨n0, n1, n2, n3, n4, o0, o1, o2, o3, o4⟩, i0, i1, i2, i3⟩ := BG.out.cells;have R0 := hd_ R0;have R1 := hd_ R1;obtain ⟨y0, y1, y2, y3, y4⟩ := aa_ BG.out.bj;cases qB
       ·go_wp2_with fail
        with_reducible refine (core_any _ _ (V 0) J _ R0.out.at_ BG.out.rj.at_ (GA.out.fit (by decide)) HJF.out).mono ?_
        rw [C1.out];rintro e1 wb ⟨rfl, hb⟩;have BG := hd_ (BG.out.step hb);clear hb y0 y1 y2 y3 y4 n0 n1 n2 n3 n4 o0 o1 o2 o3 o4 i0 i1 i2 i3 R0 R1;obtain ⟨a, b, x, d, e, a', b', x', d', e', R0, R1, ⟨n0, n1, n2, n3, n4, o0, o1, o2, o3, o4⟩, i0, i1, i2, i3⟩ := BG.out.cells;have R0 := hd_ R0;have R1 := hd_ R1;go_wp2_with fail;(with_reducible refine (sameV_any _ _ (V 0) (V 1) _ R0.out.at_ R1.out.at_ (GA.out.fit (by decide)) (GB_.out.fit (by decide))).mono ?_)
        rw [C2.out];rintro e1 wc ⟨rfl, hb⟩;have BG := hd_ (BG.out.step hb);clear hb n0 n1 n2 n3 n4 o0 o1 o2 o3 o4 i0 i1 i2 i3 R0 R1;obtain ⟨a, b, x, d, e, a', b', x', d', e', R0, R1, ⟨n0, n1, n2, n3, n4, o0, o1, o2, o3, o4⟩, i0, i1, i2, i3⟩ := BG.out.cells;have R0 := hd_ R0;have R1 := hd_ R1;go_wp2_with fail;(with_reducible refine (has_any _ (V 0).s ((p 1 : Nat) + 1 : Int) 1 _ R0.out.s (Nat.le_trans (GA.out.fit (n := 13) (by decide)).s (by decide))).mono ?_)
        rw [C3.out];rintro e1 wd ⟨rfl, hb⟩;have BG := hd_ (BG.out.step hb);clear hb n0 n1 n2 n3 n4 o0 o1 o2 o3 o4 i0 i1 i2 i3 R0 R1;obtain ⟨a, b, x, d, e, a', b', x', d', e', R0, R1, ⟨n0, n1, n2, n3, n4, o0, o1, o2, o3, o4⟩, i0, i1, i2, i3⟩ := BG.out.cells;have R0 := hd_ R0;have R1 := hd_ R1;go_wp2_with fail;(with_reducible refine (has_any _ (V 0).s ((p 0 : Nat) + 1 : Int) 1 _ R0.out.s (Nat.le_trans (GA.out.fit (n := 13) (by decide)).s (by decide))).mono ?_)
        rintro e1 we ⟨rfl, hb⟩;have BG := hd_ (BG.out.step hb);clear hb n0 n1 n2 n3 n4 o0 o1 o2 o3 o4 i0 i1 i2 i3 R0 R1;by_cases h9 : hasB ((p 0 : Nat) + 1, 1) (V 0).s = true
        ·rw [h9]
         go_wp2_with fail;go_ret;exact ⟨rfl, BG.out.below⟩
        ·have h2 : s < 2 := C4.out.resolve_left h9
         have h9 : hasB ((p 0 : Nat) + 1, 1) (V 0).s = false := by simpa using h9
         have d2 : decide ((s : Int) < 2) = true := decide_eq_true (by omega)
         rw [h9];go_wp2_with fail;go_ret;exact ⟨rfl, BG.out.below⟩
       ·obtain rfl : s = 1 := C5.out rfl
        go_wp2_with fail;(with_reducible refine (core_any _ _ (V 0) J _ R0.out.at_ BG.out.rj.at_ (GA.out.fit (by decide)) HJF.out).mono ?_)
        rw [C1.out];rintro e1 wb ⟨rfl, hb⟩;have BG := hd_ (BG.out.step hb);clear hb y0 y1 y2 y3 y4 n0 n1 n2 n3 n4 o0 o1 o2 o3 o4 i0 i1 i2 i3 R0 R1;obtain ⟨a, b, x, d, e, a', b', x', d', e', R0, R1, ⟨n0, n1, n2, n3, n4, o0, o1, o2, o3, o4⟩, i0, i1, i2, i3⟩ := BG.out.cells;have R0 := hd_ R0;have R1 := hd_ R1;go_wp2_with fail;(with_reducible refine (sameV_any _ _ (V 0) (V 1) _ R0.out.at_ R1.out.at_ (GA.out.fit (by decide)) (GB_.out.fit (by decide))).mono ?_)
        rw [C2.out];rintro e1 wc ⟨rfl, hb⟩;have BG := hd_ (BG.out.step hb);clear hb n0 n1 n2 n3 n4 o0 o1 o2 o3 o4 i0 i1 i2 i3 R0 R1;obtain ⟨a, b, x, d, e, a', b', x', d', e', R0, R1, ⟨n0, n1, n2, n3, n4, o0, o1, o2, o3, o4⟩, i0, i1, i2, i3⟩ := BG.out.cells;have R0 := hd_ R0;have R1 := hd_ R1;go_wp2_with fail;(with_reducible refine (has_any _ (V 0).s ((p 1 : Nat) + 1 : Int) 1 _ R0.out.s (Nat.le_trans (GA.out.fit (n := 13) (by decide)).s (by decide))).mono ?_)
        rw [C3.out];rintro e1 wd ⟨rfl, hb⟩;have BG := hd_ (BG.out.step hb);clear hb n0 n1 n2 n3 n4 o0 o1 o2 o3 o4 i0 i1 i2 i3 R0 R1;obtain ⟨a, b, x, d, e, a', b', x', d', e', R0, R1, ⟨n0, n1, n2, n3, n4, o0, o1, o2, o3, o4⟩, i0, i1, i2, i3⟩ := BG.out.cells;have R0 := hd_ R0;have R1 := hd_ R1;go_wp2_with fail;(with_reducible refine (has_any _ (V 0).s ((p 0 : Nat) + 1 : Int) 1 _ R0.out.s (Nat.le_trans (GA.out.fit (n := 13) (by decide)).s (by decide))).mono ?_)
        rintro e1 we ⟨rfl, hb⟩;have BG := hd_ (BG.out.step hb);clear hb n0 n1 n2 n3 n4 o0 o1 o2 o3 o4 i0 i1 i2 i3 R0 R1;by_cases h9 : hasB ((p 0 : Nat) + 1, 1) (V 0).s = true
        ·rw [h9]
         go_wp2_with fail;go_ret;exact ⟨rfl, BG.out.below⟩
        ·have h9 : hasB ((p 0 : Nat) + 1, 1) (V 0).s = false := by simpa using h9
         rw [h9];go_wp2_with fail;go_ret;exact ⟨rfl, BG.out.below⟩
      ·have hk0' : ¬ 0 = kd := fun e => hk0 e.symm
       have dk0 : (kd == 0) = false := by simpa using hk0
       obtain ⟨N', rfl, hkd, hs4, hE⟩ := HE.out.next hk0;obtain ⟨g, hg⟩ : ∃ g, g = 1 - f := ⟨_, rfl⟩;rw [← hg] at hE;have hg2 : g < 2 := by omega
       have GF_ := hd_ (HE.out.goodAt hf);have GG_ := hd_ (HE.out.goodAt hg2);have HN := hd_ hE;have f3 : (0 : Int) ≤ (f : Int) := by omega
       have f4 : (f : Int) < 2 := by omega
       have g3 : (0 : Int) ≤ (g : Int) := by omega
       have g4 : (g : Int) < 2 := by omega
       have hf1 : wrap64 (1 - (f : Int)) = (g : Int) := by rw [wrap_small (by omega) (by omega)]; omega
       have hf2 : IntKind.i64.wrap (1 - (f : Int)) = (g : Int) := by rw [i64_small (by omega) (by omega)]; omega
       have hs1 : wrap64 ((s : Int) + 1) = (s : Int) + 1 := wrap_small (by omega) (by omega)
       have d5 : decide ((5 : Int) < (s : Int) + 1) = false := decide_eq_false (by omega)
       clear hE HE hg;obtain ⟨a, b, x, d, e, hvf, ⟨n0, n1, n2, n3, n4⟩, -⟩ := BG.out.nv.at_ hf;obtain ⟨i0, i1⟩ := ibx_at BG.out.ib hf;obtain ⟨i2, i3⟩ := ibx_at BG.out.ib hg2;have RF := hd_ hvf
       have HS : Hid (∀ W, Below wr.heap.size wr W → ((W.cell? ⟨GV, f * 5, none⟩ = some (.slice a.1 a.2.1 a.2.2) ∧ W.cell? ⟨GV, f * 5 + 1, none⟩ = some (.slice b.1 b.2.1 b.2.2) ∧ W.cell? ⟨GV, f * 5 + 2, none⟩ = some (.slice x.1 x.2.1 x.2.2) ∧ W.cell? ⟨GV, f * 5 + 3, none⟩ = some (.slice d.1 d.2.1 d.2.2) ∧ W.cell? ⟨GV, f * 5 + 4, none⟩ = some (.slice e.1 e.2.1 e.2.2)) ∧ (W.cell? ⟨GI, f * 2, none⟩ = some (.int .i64 ((p f : Nat) + 1 : Int)) ∧ W.cell? ⟨GI, f * 2 + 1, none⟩ = some (.int .i64 1)) ∧ (W.cell? ⟨GI, g * 2, none⟩ = some (.int .i64 ((p g : Nat) + 1 : Int)) ∧ W.cell? ⟨GI, g * 2 + 1, none⟩ = some (.int .i64 1)))) := hd_ fun W hb => by
        have key : ∀ (q : Addr) (u : Value), wr.cell? q = some u → W.cell? q = some u := fun q u hu => (hb.cell (World.block_lt_of_cell? wr _ hu)).trans hu
        exact ⟨⟨key _ _ n0, key _ _ n1, key _ _ n2, key _ _ n3, key _ _ n4⟩, ⟨key _ _ i0, key _ _ i1⟩, key _ _ i2, key _ _ i3⟩
       have Pv0 := hd_ (show Below wr.heap.size wr wr.drew from (Below.refl _ _).drew)
       clear hvf n0 n1 n2 n3 n4 i0 i1 i2 i3;go_upto_region 15 with fail;go_cut [17, 18] (fun s17 s18 wx => ∃ gq, ∃ pa pb pc pd pe : SL, s17 = .pointer (some ⟨gq, 0, none⟩) ∧ s18 = .bool true ∧ Hid (FBx wx gq kd ((p f : Nat) + 1 : Int) 1 ((p g : Nat) + 1 : Int) 1 0 0 0 0 pa pb pc pd pe) ∧ Hid (RV wx pa pb pc pd pe (fvw kd (V f))) ∧ Hid (Below wr.heap.size wr wx))
       case first =>
        refine wp_region_held_drew (S := (fun W => (W.cell? ⟨GV, f * 5, none⟩ = some (.slice a.1 a.2.1 a.2.2) ∧ W.cell? ⟨GV, f * 5 + 1, none⟩ = some (.slice b.1 b.2.1 b.2.2) ∧ W.cell? ⟨GV, f * 5 + 2, none⟩ = some (.slice x.1 x.2.1 x.2.2) ∧ W.cell? ⟨GV, f * 5 + 3, none⟩ = some (.slice d.1 d.2.1 d.2.2) ∧ W.cell? ⟨GV, f * 5 + 4, none⟩ = some (.slice e.1 e.2.1 e.2.2)) ∧ (W.cell? ⟨GI, f * 2, none⟩ = some (.int .i64 ((p f : Nat) + 1 : Int)) ∧ W.cell? ⟨GI, f * 2 + 1, none⟩ = some (.int .i64 1)) ∧ (W.cell? ⟨GI, g * 2, none⟩ = some (.int .i64 ((p g : Nat) + 1 : Int)) ∧ W.cell? ⟨GI, g * 2 + 1, none⟩ = some (.int .i64 1)))) (by kernel_rfl) ?_ (fun hHeld => ?_)
        ·exact HS.out _ Pv0.out
        generalize World.drew wr = v0 at *;refine ty_ 0 ?_;refine ty_ 1 ?_;refine ty_ 2 ?_;refine ty_ 3 ?_;refine ty_ 4 ?_;refine ty_ 5 ?_;refine ty_ 6 ?_;refine ty_ 7 ?_;refine ty_ 8 ?_;refine ty_ 9 ?_;refine ty_ 10 ?_;(try simp only [Act.put, si0, si1, si2]);refine ar_ [11, 15] ?_;refine ac_ (fun Kq hKq => ?_) (ac_ (fun Kq hKq => ?_) an_)
        ·go_simp
         clear hHeld;go_at_call 33; (with_reducible refine (frameG_any _ (V f) kd ((p f : Nat) + 1 : Int) 1 ((p g : Nat) + 1 : Int) 1 _ hkd (RV.at_ (RF.out.below Pv0.out)) (GF_.out.fit (by decide)) GF_.out.nz).mono ?_); rintro e1 v1 ⟨pa, pb, pc, pd, pe, rfl, hr, hb⟩
         have NR := hd_ hr;clear hr;have Pv1 := hd_ (ba_ Pv0.out hb);clear hb;refine hKq.out _ _ ?_ (fun hHeld => ?_)
         ·(try dsimp only); exact HS.out _ Pv1.out
         clear hKq Kq;(try simp only [Act.put, si0, si1, si2]);refine ty_ 12 ?_;refine ty_ 13 ?_;refine ty_ 14 ?_;(try simp only [Act.put, si0, si1, si2]);refine a1_ 15 fun Kq hKq => ?_;clear hHeld;refine step_falloc (by rfl) (by rfl) _ ?_; intro gn v2 k1 hb k3_
         have LO_ := hd_ (Nat.le_trans Pv1.out.size k3_);have CB := hd_ k1;clear k1 k3_;have Pv2 := hd_ (ba_ Pv1.out hb);have NR := hd_ (NR.out.below hb);clear hb;refine hKq.out _ _ ?_ (fun hHeld => ?_)
         ·(try dsimp only); exact HS.out _ Pv2.out
         clear hKq Kq;(try simp only [Act.put, si0, si1, si2]);refine a1_ 16 fun Kq hKq => ?_;clear hHeld;refine step_fstore (by rfl) (.tmp 17) (.tmp 108) (by rfl) _ gn kd ((p f : Nat) + 1 : Int) 1 ((p g : Nat) + 1 : Int) 1 0 0 0 0 pa pb pc pd pe (fvw kd (V f)) (by rfl) (by rfl) CB.out NR.out (GF_.out.fvw kd).nz ?_; intro v3 k1 k0 k2
         have Pv3 := hd_ (Pv2.out.trans (aj_ k2 LO_.out Pv2.out.size));have NB := hd_ k1;have NR := hd_ k0;clear k0 k1 k2;refine hKq.out _ _ ?_ (fun hHeld => ?_)
         ·(try dsimp only); exact HS.out _ Pv3.out
         clear hKq Kq;(try simp only [Act.put]);refine ty_ 17 ?_;(try simp only [Act.put, si0, si1, si2]);refine wd_ ?_;go_wp2_with fail;go_meet;exact ⟨gn, pa, pb, pc, pd, pe, rfl, rfl, NB, NR, Pv3⟩
        ·clear hHeld
         refine step_falloc (by rfl) (by rfl) _ ?_; intro gn v1 k1 hb k3_
         have LO_ := hd_ (Nat.le_trans Pv0.out.size k3_);have CB := hd_ k1;clear k1 k3_;have Pv1 := hd_ (ba_ Pv0.out hb);clear hb;refine hKq.out _ _ ?_ (fun hHeld => ?_)
         ·(try dsimp only); exact HS.out _ Pv1.out
         clear hKq Kq;(try simp only [Act.put, si0, si1, si2]);refine a1_ 11 fun Kq hKq => ?_;go_simp;clear hHeld;go_at_call 33; (with_reducible refine (frameG_any _ (V f) kd ((p f : Nat) + 1 : Int) 1 ((p g : Nat) + 1 : Int) 1 _ hkd (RV.at_ (RF.out.below Pv1.out)) (GF_.out.fit (by decide)) GF_.out.nz).mono ?_); rintro e1 v2 ⟨pa, pb, pc, pd, pe, rfl, hr, hb⟩
         have NR := hd_ hr;clear hr;have Pv2 := hd_ (ba_ Pv1.out hb);have CB := hd_ (fbx_below CB.out hb);clear hb;refine hKq.out _ _ ?_ (fun hHeld => ?_)
         ·(try dsimp only); exact HS.out _ Pv2.out
         clear hKq Kq;(try simp only [Act.put, si0, si1, si2]);refine ty_ 12 ?_;refine ty_ 13 ?_;refine ty_ 14 ?_;(try simp only [Act.put, si0, si1, si2]);refine a1_ 16 fun Kq hKq => ?_;clear hHeld;refine step_fstore (by rfl) (.tmp 17) (.tmp 108) (by rfl) _ gn kd ((p f : Nat) + 1 : Int) 1 ((p g : Nat) + 1 : Int) 1 0 0 0 0 pa pb pc pd pe (fvw kd (V f)) (by rfl) (by rfl) CB.out NR.out (GF_.out.fvw kd).nz ?_; intro v3 k1 k0 k2
         have Pv3 := hd_ (Pv2.out.trans (aj_ k2 LO_.out Pv2.out.size));have NB := hd_ k1;have NR := hd_ k0;clear k0 k1 k2;refine hKq.out _ _ ?_ (fun hHeld => ?_)
         ·(try dsimp only); exact HS.out _ Pv3.out
         clear hKq Kq;(try simp only [Act.put]);refine ty_ 17 ?_;(try simp only [Act.put, si0, si1, si2]);refine wd_ ?_;go_wp2_with fail;go_meet;exact ⟨gn, pa, pb, pc, pd, pe, rfl, rfl, NB, NR, Pv3⟩
       case rest =>
        obtain ⟨GF, pa, pb, pc, pd, pe, rfl, rfl, BF, NR, PA⟩ := hcut;rename World => wa;have BG := hd_ (BG.out.step PA.out);clear HS Pv0 RF PA;obtain ⟨a', b', x', d', e', hvg, ⟨n0, n1, n2, n3, n4⟩, -⟩ := BG.out.nv.at_ hg2;obtain ⟨i2, i3⟩ := ibx_at BG.out.ib hg2;obtain ⟨r0, r1, r2, r3, r4, r5, r6, r7, r8, r9, r10, r11, r12, r13⟩ := fbx_cells BF.out;have RG := hd_ hvg
        have HS : Hid (∀ W, Below wa.heap.size wa W → ((W.cell? ⟨GV, g * 5, none⟩ = some (.slice a'.1 a'.2.1 a'.2.2) ∧ W.cell? ⟨GV, g * 5 + 1, none⟩ = some (.slice b'.1 b'.2.1 b'.2.2) ∧ W.cell? ⟨GV, g * 5 + 2, none⟩ = some (.slice x'.1 x'.2.1 x'.2.2) ∧ W.cell? ⟨GV, g * 5 + 3, none⟩ = some (.slice d'.1 d'.2.1 d'.2.2) ∧ W.cell? ⟨GV, g * 5 + 4, none⟩ = some (.slice e'.1 e'.2.1 e'.2.2)) ∧ (W.cell? ⟨GI, g * 2, none⟩ = some (.int .i64 ((p g : Nat) + 1 : Int)) ∧ W.cell? ⟨GI, g * 2 + 1, none⟩ = some (.int .i64 1)) ∧ (W.cell? ⟨GF, 0, none⟩ = some (.int .u8 kd) ∧ W.cell? ⟨GF, 1, none⟩ = some (.int .i64 ((p f : Nat) + 1 : Int)) ∧ W.cell? ⟨GF, 2, none⟩ = some (.int .i64 1) ∧ W.cell? ⟨GF, 3, none⟩ = some (.int .i64 ((p g : Nat) + 1 : Int)) ∧ W.cell? ⟨GF, 4, none⟩ = some (.int .i64 1) ∧ W.cell? ⟨GF, 5, none⟩ = some (.int .i64 0) ∧ W.cell? ⟨GF, 6, none⟩ = some (.int .i64 0) ∧ W.cell? ⟨GF, 7, none⟩ = some (.int .i64 0) ∧ W.cell? ⟨GF, 8, none⟩ = some (.int .i64 0) ∧ W.cell? ⟨GF, 9, none⟩ = some (.slice pa.1 pa.2.1 pa.2.2) ∧ W.cell? ⟨GF, 10, none⟩ = some (.slice pb.1 pb.2.1 pb.2.2) ∧ W.cell? ⟨GF, 11, none⟩ = some (.slice pc.1 pc.2.1 pc.2.2) ∧ W.cell? ⟨GF, 12, none⟩ = some (.slice pd.1 pd.2.1 pd.2.2) ∧ W.cell? ⟨GF, 13, none⟩ = some (.slice pe.1 pe.2.1 pe.2.2)))) := hd_ fun W hb => by
         have key : ∀ (q : Addr) (u : Value), wa.cell? q = some u → W.cell? q = some u := fun q u hu => (hb.cell (World.block_lt_of_cell? wa _ hu)).trans hu
         exact ⟨⟨key _ _ n0, key _ _ n1, key _ _ n2, key _ _ n3, key _ _ n4⟩, ⟨key _ _ i2, key _ _ i3⟩, key _ _ r0, key _ _ r1, key _ _ r2, key _ _ r3, key _ _ r4, key _ _ r5, key _ _ r6, key _ _ r7, key _ _ r8, key _ _ r9, key _ _ r10, key _ _ r11, key _ _ r12, key _ _ r13⟩
        have Pz0 := hd_ (show Below wa.heap.size wa wa.drew from (Below.refl _ _).drew)
        clear hvg n0 n1 n2 n3 n4 i2 i3 r0 r1 r2 r3 r4 r5 r6 r7 r8 r9 r10 r11 r12 r13;go_upto_region 19 with fail;go_cut [19, 20, 21] (fun s19 s20 s21 wx => ∃ gq, s19 = .pointer (some ⟨gq, 0, none⟩) ∧ s20 = .int .u8 (ansV (recvV kd (V g) (V f) (p g)) (V f)) ∧ s21 = .int .i64 0 ∧ Hid (HoldsV wx gq (recvV kd (V g) (V f) (p g))) ∧ Hid (Below wa.heap.size wa wx))
        case first =>
         refine wp_region_held_drew (S := (fun W => (W.cell? ⟨GV, g * 5, none⟩ = some (.slice a'.1 a'.2.1 a'.2.2) ∧ W.cell? ⟨GV, g * 5 + 1, none⟩ = some (.slice b'.1 b'.2.1 b'.2.2) ∧ W.cell? ⟨GV, g * 5 + 2, none⟩ = some (.slice x'.1 x'.2.1 x'.2.2) ∧ W.cell? ⟨GV, g * 5 + 3, none⟩ = some (.slice d'.1 d'.2.1 d'.2.2) ∧ W.cell? ⟨GV, g * 5 + 4, none⟩ = some (.slice e'.1 e'.2.1 e'.2.2)) ∧ (W.cell? ⟨GI, g * 2, none⟩ = some (.int .i64 ((p g : Nat) + 1 : Int)) ∧ W.cell? ⟨GI, g * 2 + 1, none⟩ = some (.int .i64 1)) ∧ (W.cell? ⟨GF, 0, none⟩ = some (.int .u8 kd) ∧ W.cell? ⟨GF, 1, none⟩ = some (.int .i64 ((p f : Nat) + 1 : Int)) ∧ W.cell? ⟨GF, 2, none⟩ = some (.int .i64 1) ∧ W.cell? ⟨GF, 3, none⟩ = some (.int .i64 ((p g : Nat) + 1 : Int)) ∧ W.cell? ⟨GF, 4, none⟩ = some (.int .i64 1) ∧ W.cell? ⟨GF, 5, none⟩ = some (.int .i64 0) ∧ W.cell? ⟨GF, 6, none⟩ = some (.int .i64 0) ∧ W.cell? ⟨GF, 7, none⟩ = some (.int .i64 0) ∧ W.cell? ⟨GF, 8, none⟩ = some (.int .i64 0) ∧ W.cell? ⟨GF, 9, none⟩ = some (.slice pa.1 pa.2.1 pa.2.2) ∧ W.cell? ⟨GF, 10, none⟩ = some (.slice pb.1 pb.2.1 pb.2.2) ∧ W.cell? ⟨GF, 11, none⟩ = some (.slice pc.1 pc.2.1 pc.2.2) ∧ W.cell? ⟨GF, 12, none⟩ = some (.slice pd.1 pd.2.1 pd.2.2) ∧ W.cell? ⟨GF, 13, none⟩ = some (.slice pe.1 pe.2.1 pe.2.2)))) (by kernel_rfl) ?_ (fun hHeld => ?_)
         ·exact HS.out _ Pz0.out
         generalize World.drew wa = z0 at *;refine ty_ 0 ?_;refine ty_ 1 ?_;refine ty_ 2 ?_;refine ty_ 3 ?_;refine ty_ 4 ?_;refine ty_ 5 ?_;refine ty_ 6 ?_;refine ty_ 7 ?_;refine ty_ 8 ?_;(try simp only [Act.put, si0, si1, si2]);refine ar_ [9, 14] ?_;refine ac_ (fun Kq hKq => ?_) (ac_ (fun Kq hKq => ?_) an_)
         ·go_simp
          clear hHeld;go_at_call 31; (with_reducible refine (toldG_any _ (V g) (V f) kd (p g) ((p f : Nat) + 1 : Int) 1 ((p g : Nat) + 1 : Int) 1 0 0 0 0 pa pb pc pd pe _ hkd (hp4 g) (RV.at_ (RG.out.below Pz0.out)) (NR.out.below Pz0.out) GG_.out GF_.out).mono ?_); rintro e1 z1 ⟨na, nb, nc, nd, ne, rfl, hr, hb⟩
          have TR := hd_ hr;clear hr;have Pz1 := hd_ (ba_ Pz0.out hb);clear hb;refine hKq.out _ _ ?_ (fun hHeld => ?_)
          ·(try dsimp only); exact HS.out _ Pz1.out
          clear hKq Kq;(try simp only [Act.put, si0, si1, si2]);refine ty_ 10 ?_;refine ty_ 11 ?_;refine ty_ 12 ?_;refine ty_ 13 ?_;(try simp only [Act.put, si0, si1, si2]);refine a1_ 14 fun Kq hKq => ?_;clear hHeld;refine as_ (by rfl) (by rfl) _ ?_; intro gn z2 k1 hb k3_
          have LO_ := hd_ (Nat.le_trans Pz1.out.size k3_);have CB := hd_ k1;clear k1 k3_;have Pz2 := hd_ (ba_ Pz1.out hb);have TR := hd_ (TR.out.below hb);clear hb;refine hKq.out _ _ ?_ (fun hHeld => ?_)
          ·(try dsimp only); exact HS.out _ Pz2.out
          clear hKq Kq;(try simp only [Act.put, si0, si1, si2]);refine a1_ 15 fun Kq hKq => ?_;clear hHeld;refine au_ (by rfl) (.tmp 19) (.tmp 129) (by rfl) _ gn na nb nc nd ne (recvV kd (V g) (V f) (p g)) (by rfl) (by rfl) CB.out TR.out ?_; intro z3 k1 k2
          have Pz3 := hd_ (Pz2.out.trans (aj_ k2 LO_.out Pz2.out.size));have NB := hd_ k1;clear k1 k2;refine hKq.out _ _ ?_ (fun hHeld => ?_)
          ·(try dsimp only); exact HS.out _ Pz3.out
          clear hKq Kq;(try simp only [Act.put]);refine ty_ 16 ?_;refine ty_ 17 ?_;(try simp only [Act.put, si0, si1, si2]);refine wd_ ?_;go_wp2_with fail;go_meet;exact ⟨gn, rfl, rfl, rfl, NB, Pz3⟩
         ·clear hHeld
          refine as_ (by rfl) (by rfl) _ ?_; intro gn z1 k1 hb k3_
          have LO_ := hd_ (Nat.le_trans Pz0.out.size k3_);have CB := hd_ k1;clear k1 k3_;have Pz1 := hd_ (ba_ Pz0.out hb);clear hb;refine hKq.out _ _ ?_ (fun hHeld => ?_)
          ·(try dsimp only); exact HS.out _ Pz1.out
          clear hKq Kq;(try simp only [Act.put, si0, si1, si2]);refine a1_ 9 fun Kq hKq => ?_;go_simp;clear hHeld;go_at_call 31; (with_reducible refine (toldG_any _ (V g) (V f) kd (p g) ((p f : Nat) + 1 : Int) 1 ((p g : Nat) + 1 : Int) 1 0 0 0 0 pa pb pc pd pe _ hkd (hp4 g) (RV.at_ (RG.out.below Pz1.out)) (NR.out.below Pz1.out) GG_.out GF_.out).mono ?_); rintro e1 z2 ⟨na, nb, nc, nd, ne, rfl, hr, hb⟩
          have TR := hd_ hr;clear hr;have Pz2 := hd_ (ba_ Pz1.out hb);have CB := hd_ (ab_ CB.out hb);clear hb;refine hKq.out _ _ ?_ (fun hHeld => ?_)
          ·(try dsimp only); exact HS.out _ Pz2.out
          clear hKq Kq;(try simp only [Act.put, si0, si1, si2]);refine ty_ 10 ?_;refine ty_ 11 ?_;refine ty_ 12 ?_;refine ty_ 13 ?_;(try simp only [Act.put, si0, si1, si2]);refine a1_ 15 fun Kq hKq => ?_;clear hHeld;refine au_ (by rfl) (.tmp 19) (.tmp 129) (by rfl) _ gn na nb nc nd ne (recvV kd (V g) (V f) (p g)) (by rfl) (by rfl) CB.out TR.out ?_; intro z3 k1 k2
          have Pz3 := hd_ (Pz2.out.trans (aj_ k2 LO_.out Pz2.out.size));have NB := hd_ k1;clear k1 k2;refine hKq.out _ _ ?_ (fun hHeld => ?_)
          ·(try dsimp only); exact HS.out _ Pz3.out
          clear hKq Kq;(try simp only [Act.put]);refine ty_ 16 ?_;refine ty_ 17 ?_;(try simp only [Act.put, si0, si1, si2]);refine wd_ ?_;go_wp2_with fail;go_meet;exact ⟨gn, rfl, rfl, rfl, NB, Pz3⟩
        case rest =>
         obtain ⟨GT, rfl, rfl, rfl, HT, PB⟩ := hcut;rename World => wb;have BG := hd_ (BG.out.step PB.out);have RG := hd_ (RG.out.below PB.out);obtain ⟨t0, t1, t2, t3, t4, hbt, hrt⟩ := HT.out;have BT := hd_ hbt;have RT := hd_ hrt;have GT_ : Hid (GoodT 1000 (recvV kd (V g) (V f) (p g))) := hd_ (GoodT.recv (hp4 g) (by omega) GG_.out GF_.out kd)
         have HCV : Hid (covB (recvV kd (V g) (V f) (p g)) (V g) = true) := hd_ (cov_recv (p g) GG_.out GF_.out kd)
         obtain ⟨a', b', x', d', e', hvg, ⟨n0, n1, n2, n3, n4⟩, -⟩ := BG.out.nv.at_ hg2;have RG := hd_ hvg
         have HS : Hid (∀ W, Below wb.heap.size wb W → ((W.cell? ⟨GT, 0, none⟩ = some (.slice t0.1 t0.2.1 t0.2.2) ∧ W.cell? ⟨GT, 1, none⟩ = some (.slice t1.1 t1.2.1 t1.2.2) ∧ W.cell? ⟨GT, 2, none⟩ = some (.slice t2.1 t2.2.1 t2.2.2) ∧ W.cell? ⟨GT, 3, none⟩ = some (.slice t3.1 t3.2.1 t3.2.2) ∧ W.cell? ⟨GT, 4, none⟩ = some (.slice t4.1 t4.2.1 t4.2.2)) ∧ (W.cell? ⟨GV, g * 5, none⟩ = some (.slice a'.1 a'.2.1 a'.2.2) ∧ W.cell? ⟨GV, g * 5 + 1, none⟩ = some (.slice b'.1 b'.2.1 b'.2.2) ∧ W.cell? ⟨GV, g * 5 + 2, none⟩ = some (.slice x'.1 x'.2.1 x'.2.2) ∧ W.cell? ⟨GV, g * 5 + 3, none⟩ = some (.slice d'.1 d'.2.1 d'.2.2) ∧ W.cell? ⟨GV, g * 5 + 4, none⟩ = some (.slice e'.1 e'.2.1 e'.2.2)))) := hd_ fun W hb => by
          have key : ∀ (q : Addr) (u : Value), wb.cell? q = some u → W.cell? q = some u := fun q u hu => (hb.cell (World.block_lt_of_cell? wb _ hu)).trans hu
          obtain ⟨y0, y1, y2, y3, y4⟩ := aa_ BT.out;exact ⟨⟨key _ _ y0, key _ _ y1, key _ _ y2, key _ _ y3, key _ _ y4⟩, key _ _ n0, key _ _ n1, key _ _ n2, key _ _ n3, key _ _ n4⟩
         have Q0 := hd_ (show Below wb.heap.size wb wb.drew from (Below.refl _ _).drew)
         clear hbt hrt HT hvg n0 n1 n2 n3 n4 PB NR BF Pz0;go_upto_region 20 with fail;go_cut [142] (fun sT wx => sT = .bool false ∧ Hid (Below wb.heap.size wb wx))
         case first =>
          refine wp_region_held_drew (S := (fun W => (W.cell? ⟨GT, 0, none⟩ = some (.slice t0.1 t0.2.1 t0.2.2) ∧ W.cell? ⟨GT, 1, none⟩ = some (.slice t1.1 t1.2.1 t1.2.2) ∧ W.cell? ⟨GT, 2, none⟩ = some (.slice t2.1 t2.2.1 t2.2.2) ∧ W.cell? ⟨GT, 3, none⟩ = some (.slice t3.1 t3.2.1 t3.2.2) ∧ W.cell? ⟨GT, 4, none⟩ = some (.slice t4.1 t4.2.1 t4.2.2)) ∧ (W.cell? ⟨GV, g * 5, none⟩ = some (.slice a'.1 a'.2.1 a'.2.2) ∧ W.cell? ⟨GV, g * 5 + 1, none⟩ = some (.slice b'.1 b'.2.1 b'.2.2) ∧ W.cell? ⟨GV, g * 5 + 2, none⟩ = some (.slice x'.1 x'.2.1 x'.2.2) ∧ W.cell? ⟨GV, g * 5 + 3, none⟩ = some (.slice d'.1 d'.2.1 d'.2.2) ∧ W.cell? ⟨GV, g * 5 + 4, none⟩ = some (.slice e'.1 e'.2.1 e'.2.2)))) (by kernel_rfl) ?_ (fun hHeld => ?_)
          ·exact HS.out _ Q0.out
          refine ty_ 0 ?_;refine ty_ 1 ?_;refine ty_ 2 ?_;try simp only [Act.put, si0, si1, si2]
          first | refine ty_ 3 ?_ | refine tn_ 3 ?_
          try simp only [Act.put, si0, si1, si2]
          first | refine ty_ 4 ?_ | refine tn_ 4 ?_
          try simp only [Act.put, si0, si1, si2]
          first | refine ty_ 5 ?_ | refine tn_ 5 ?_
          try simp only [Act.put, si0, si1, si2]
          first | refine ty_ 6 ?_ | refine tn_ 6 ?_
          try simp only [Act.put, si0, si1, si2]
          first | refine ty_ 7 ?_ | refine tn_ 7 ?_
          (try simp only [Act.put, si0, si1, si2]);refine a1_ 8 fun Kq hKq => ?_;go_simp;clear hHeld;(go_at_call 27; (with_reducible refine (covers_any _ _ (recvV kd (V g) (V f) (p g)) (V g) _ (RT.out.below Q0.out).at_ (RG.out.below Q0.out).at_ (GT_.out.fit (by decide)) (GG_.out.fit (by decide)) GT_.out.up GG_.out.up).mono ?_); rw [HCV.out]; rintro e1 c1 ⟨rfl, hb⟩; have Q1 := hd_ (ba_ Q0.out hb); clear hb)
          refine hKq.out _ _ ?_ (fun hHeld => ?_)
          ·(try dsimp only); exact HS.out _ Q1.out
          clear hKq Kq;try simp only [Act.put, si0, si1, si2]
          first | refine ty_ 9 ?_ | refine tn_ 9 ?_
          (try simp only [Act.put, si0, si1, si2]);refine ty_ 10 ?_;(try simp only [Act.put, si0, si1, si2]);refine wd_ ?_;go_wp2_with fail;go_meet;exact ⟨rfl, Q1⟩
         case rest =>
          obtain ⟨rfl, PC⟩ := hcut;rename World => wc;have BG := hd_ (BG.out.step PC.out);have BT := hd_ (ab_ BT.out PC.out);have RT := hd_ (RT.out.below PC.out);clear HS Q0 RG PC;obtain ⟨x0_, x1_, x2_, x3_, x4_, -, ⟨x0, x1, x2, x3, x4⟩, z0, z1, z2, z3, z4⟩ := BG.out.nv.at_ hg2;obtain ⟨y0, y1, y2, y3, y4⟩ := aa_ BT.out;go_wp2_with fail;go_roundw
          case rel => exact ⟨N', s + 1, g, _, now1 V g (recvV kd (V g) (V f) (p g)), rfl, by go_num, rfl, hg2, by omega, HN, hd_ (BG.out.put hg2 (t := (t0, t1, t2, t3, t4)) RT.out)⟩
          case measure => simp [intOf]; omega
end
end Go.Proofs.YthkkipbmlafdiaaGreat
