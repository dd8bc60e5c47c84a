/-
  Contracts and plain facts.
-/
import Derived.Test.YthkkipbmlafdiaaGreatOy
import Derived.Deep.CutBlock
import Derived.Test.YthkkipbmlafdiaaGreatB43
set_option maxRecDepth 20000
namespace Go.Proofs.YthkkipbmlafdiaaGreat
section
open Go Go.RowKit
structure Ran (w w' : World) (a0 b0 c0 d0 e0 a1 b1 c1 d1 e1 a2 b2 c2 d2 e2 : SL) (Ah : Option Addr) (ch : Nat) (N : Nat) (n : Nat → Nat) (chg : Nat → Nat → Vw) (now : Nat → Vw) (had : List Vw) : Prop where
 acts : Acts (N : Int) n chg now had
 len : had.length = N + 1
 r0 : RV w' a0 b0 c0 d0 e0 (now 0)
 r1 : RV w' a1 b1 c1 d1 e1 (now 1)
 r2 : RV w' a2 b2 c2 d2 e2 (now 2)
 hd : HadAt w' (w.heap.size + 1 + 1) (.slice Ah had.length ch) had
 below : Below w.heap.size w w'
theorem tbx_set {w : World} {g : Nat} {a0 b0 c0 d0 e0 a1 b1 c1 d1 e1 a2 b2 c2 d2 e2 : SL} (h : TBx w g a0 b0 c0 d0 e0 a1 b1 c1 d1 e1 a2 b2 c2 d2 e2) (a0' b0' c0' d0' e0' a1' b1' c1' d1' e1' a2' b2' c2' d2' e2' : SL) : TBx ((((((((((((((((w.setCell ⟨g, 0, none⟩ (.slice a0'.1 a0'.2.1 a0'.2.2)).setCell ⟨g, 1, none⟩ (.slice b0'.1 b0'.2.1 b0'.2.2)).setCell ⟨g, 2, none⟩ (.slice c0'.1 c0'.2.1 c0'.2.2)).setCell ⟨g, 3, none⟩ (.slice d0'.1 d0'.2.1 d0'.2.2)).setCell ⟨g, 4, none⟩ (.slice e0'.1 e0'.2.1 e0'.2.2)).setCell ⟨g, 5, none⟩ (.slice a1'.1 a1'.2.1 a1'.2.2)).setCell ⟨g, 6, none⟩ (.slice b1'.1 b1'.2.1 b1'.2.2)).setCell ⟨g, 7, none⟩ (.slice c1'.1 c1'.2.1 c1'.2.2)).setCell ⟨g, 8, none⟩ (.slice d1'.1 d1'.2.1 d1'.2.2)).setCell ⟨g, 9, none⟩ (.slice e1'.1 e1'.2.1 e1'.2.2)).setCell ⟨g, 10, none⟩ (.slice a2'.1 a2'.2.1 a2'.2.2)).setCell ⟨g, 11, none⟩ (.slice b2'.1 b2'.2.1 b2'.2.2)).setCell ⟨g, 12, none⟩ (.slice c2'.1 c2'.2.1 c2'.2.2)).setCell ⟨g, 13, none⟩ (.slice d2'.1 d2'.2.1 d2'.2.2)).setCell ⟨g, 14, none⟩ (.slice e2'.1 e2'.2.1 e2'.2.2))) g a0' b0' c0' d0' e0' a1' b1' c1' d1' e1' a2' b2' c2' d2' e2' := by
 unfold TBx at *;simp [World.setCell, Array.getElem?_modify, h]
theorem grown_tset (w : World) (g : Nat) (a0' b0' c0' d0' e0' a1' b1' c1' d1' e1' a2' b2' c2' d2' e2' : SL) : w.grownBy ((((((((((((((((w.setCell ⟨g, 0, none⟩ (.slice a0'.1 a0'.2.1 a0'.2.2)).setCell ⟨g, 1, none⟩ (.slice b0'.1 b0'.2.1 b0'.2.2)).setCell ⟨g, 2, none⟩ (.slice c0'.1 c0'.2.1 c0'.2.2)).setCell ⟨g, 3, none⟩ (.slice d0'.1 d0'.2.1 d0'.2.2)).setCell ⟨g, 4, none⟩ (.slice e0'.1 e0'.2.1 e0'.2.2)).setCell ⟨g, 5, none⟩ (.slice a1'.1 a1'.2.1 a1'.2.2)).setCell ⟨g, 6, none⟩ (.slice b1'.1 b1'.2.1 b1'.2.2)).setCell ⟨g, 7, none⟩ (.slice c1'.1 c1'.2.1 c1'.2.2)).setCell ⟨g, 8, none⟩ (.slice d1'.1 d1'.2.1 d1'.2.2)).setCell ⟨g, 9, none⟩ (.slice e1'.1 e1'.2.1 e1'.2.2)).setCell ⟨g, 10, none⟩ (.slice a2'.1 a2'.2.1 a2'.2.2)).setCell ⟨g, 11, none⟩ (.slice b2'.1 b2'.2.1 b2'.2.2)).setCell ⟨g, 12, none⟩ (.slice c2'.1 c2'.2.1 c2'.2.2)).setCell ⟨g, 13, none⟩ (.slice d2'.1 d2'.2.1 d2'.2.2)).setCell ⟨g, 14, none⟩ (.slice e2'.1 e2'.2.1 e2'.2.2))) (some g) := by
 have h := grown_setCells (World.grownBy.refl w (some g)) 0 [.slice a0'.1 a0'.2.1 a0'.2.2, .slice b0'.1 b0'.2.1 b0'.2.2, .slice c0'.1 c0'.2.1 c0'.2.2, .slice d0'.1 d0'.2.1 d0'.2.2, .slice e0'.1 e0'.2.1 e0'.2.2, .slice a1'.1 a1'.2.1 a1'.2.2, .slice b1'.1 b1'.2.1 b1'.2.2, .slice c1'.1 c1'.2.1 c1'.2.2, .slice d1'.1 d1'.2.1 d1'.2.2, .slice e1'.1 e1'.2.1 e1'.2.2, .slice a2'.1 a2'.2.1 a2'.2.2, .slice b2'.1 b2'.2.1 b2'.2.2, .slice c2'.1 c2'.2.1 c2'.2.2, .slice d2'.1 d2'.2.1 d2'.2.2, .slice e2'.1 e2'.2.1 e2'.2.2];simpa only [World.setCells, Nat.zero_add] using h
theorem mbox_no {w : World} {g : Nat} {a i s n : Int} (h : MBox w g a i s n) (v : Int) : MBox (w.setCell ⟨g, 3, none⟩ (.int .i64 v)) g a i s v := by
 unfold MBox at *;simp [World.setCell, Array.getElem?_modify, h]
theorem acG_no {w : World} {B9 g : Nat} {v0 : Value} {l : List ActT} {now : Nat → Vw} {had : List Vw} {vh : Value} {k : Nat} {w0 W : World} (h0 : AcG w B9 v0 l now had vh k w0) (hb : Below w0.heap.size w0 W) (hg : w0.heap.size ≤ g) (v : Value) : AcG w B9 v0 l now had vh k (W.setCell ⟨g, 3, none⟩ v) := h0.step (hb.setCell hg _)
theorem mbox_there {w : World} {g : Nat} {a i s n : Int} (h : MBox w g a i s n) : w.there g 0 4 := by
 unfold MBox at h;intro j hj;rw [Nat.zero_add];refine ⟨?_, by simp [World.frozen?, h]⟩
 rw [cell_of_row _ _ _ _ _ _ h, Array.getElem?_eq_getElem (by simpa using hj)]
 rfl
theorem step_malloc {ops : Array Oper} {o : Oper} {A : Act} {K : Act → World → Prop} {Q : Exit → Act → World → Prop} {E : Prop} (hgd : o.guard = none) (ho : o.op = .alloc 31) (W : World)
  (h : ∀ g W', MBox W' g 0 0 0 0 → Below W.heap.size W W' → W.heap.size ≤ g → K (A.put o.dst (.pointer (some ⟨g, 0, none⟩))) W') :
  if Region.wanted o (yielded ops A.tmps) = true then Oper.wp Tryz.prog o A W K Q else E := by
 have hw : Region.wanted o (yielded ops A.tmps) = true := by simp [Region.wanted, hgd]
 rw [if_pos hw];have hr : (Instr.alloc 31 true (.tuple #[])).run Tryz.prog W = .ok (.pointer (some ⟨W.heap.size, 0, none⟩)) (W.alloc (.cells #[.int .i64 0, .int .i64 0, .int .u8 0, .int .i64 0] 31)) := by kernel_rfl
 unfold Oper.wp execOp;simp only [ho, Sem.run_bind, Sem.run_pure, Result.andThen_ok, hr];exact h _ _ (mbox_new W 0 0 0 0) (ad_ W _) (Nat.le_refl _)
theorem step_mstore {ops : Array Oper} {o : Oper} {A : Act} {K : Act → World → Prop} {Q : Exit → Act → World → Prop} {E : Prop} (hgd : o.guard = none) (x y : Operand) (ho : o.op = .store 31 x y) (W : World) (g : Nat) (a i s n : Int)
  (hx : A.eval x = .pointer (some ⟨g, 0, none⟩)) (hy : A.eval y = .agg #[.int .i64 a, .int .i64 i, .int .u8 s, .int .i64 n]) (hb : MBox W g 0 0 0 0)
  (h : ∀ W', MBox W' g a i s n → W.grownBy W' (some g) → K (A.put o.dst undef) W') :
  if Region.wanted o (yielded ops A.tmps) = true then Oper.wp Tryz.prog o A W K Q else E := by
 have hw : Region.wanted o (yielded ops A.tmps) = true := by simp [Region.wanted, hgd]
 rw [if_pos hw];have hs := run_storeAt_mid (P := Tryz.prog) W g 0 31 #[.int .i64 a, .int .i64 i, .int .u8 s, .int .i64 n] (mbox_there hb) (by kernel_rfl) (by simp [Value.oneCell'])
 unfold Oper.wp execOp;simp only [ho, hx, hy, Sem.run_bind, Sem.run_pure, Result.andThen_ok, hs];exact h _ (mbox_set hb a i s n) (grown_setCells (World.grownBy.refl _ _) 0 [.int .i64 a, .int .i64 i, .int .u8 s, .int .i64 n])
theorem oneR_push {w : World} {v0 : Value} {l : List ActT} {now : Nat → Vw} {had : List Vw} {vh v' : Value} {W W' : World} (h : OneR w v0 l now had vh W) {hs : List V5} {t : V5} {T : Vw} (ht : RVt W t T) (h0 : OwnsR encV 5 27 W (w.heap.size + 1 + 1) vh hs) (h00 : ∀ g, vh.ownBlock = some g → NoInt W g) (hl : hs.length = had.length) (hr : ∀ k (h : k < hs.length) (h' : k < had.length), RVt W hs[k] had[k])
  (h1 : OwnsR encV 5 27 W' (w.heap.size + 1 + 1) v' (hs ++ [t])) (h2 : W.grownBy W' vh.ownBlock) (h3 : ∀ g, v'.ownBlock = some g → NoInt W' g) (h4 : ∀ g, vh.ownBlock = some g → w.heap.size + 1 + 1 ≤ g) : OneR w v0 l now (had ++ [T]) v' W' :=
 ⟨h.one.push ht h0 h00 hl hr h1 h2 h3, (h2.block _ (tbx_lt h.res) (fun e => by have := h4 _ e.symm; omega)).trans h.res⟩
set_option maxHeartbeats 32000000 in
set_option maxRecDepth 100000 in
theorem run_any (v0 : Value) (l : List ActT) (w : World) (h : ActsT w v0 l) (hl : l.length ≤ 40) :
  Calls Tryz.prog 38 #[v0] w fun e w' => ∃ (a0 b0 c0 d0 e0 a1 b1 c1 d1 e1 a2 b2 c2 d2 e2 : SL) (Ah : Option Addr) (ch : Nat) (n : Nat → Nat) (chg : Nat → Nat → Vw) (now : Nat → Vw) (had : List Vw), e = .returned (.tuple #[.agg #[.slice a0.1 a0.2.1 a0.2.2, .slice b0.1 b0.2.1 b0.2.2, .slice c0.1 c0.2.1 c0.2.2, .slice d0.1 d0.2.1 d0.2.2, .slice e0.1 e0.2.1 e0.2.2, .slice a1.1 a1.2.1 a1.2.2, .slice b1.1 b1.2.1 b1.2.2, .slice c1.1 c1.2.1 c1.2.2, .slice d1.1 d1.2.1 d1.2.2, .slice e1.1 e1.2.1 e1.2.2, .slice a2.1 a2.2.1 a2.2.2, .slice b2.1 b2.2.1 b2.2.2, .slice c2.1 c2.2.1 c2.2.2, .slice d2.1 d2.2.1 d2.2.2, .slice e2.1 e2.2.1 e2.2.2], .slice Ah had.length ch, .bool true]) ∧ Ran w w' a0 b0 c0 d0 e0 a1 b1 c1 d1 e1 a2 b2 c2 d2 e2 Ah ch l.length n chg now had := by
 have HA := hd_ h;obtain ⟨A, c, rfl, -⟩ := h;have HR0 := hd_ (oneR_start HA.out);go_enter Tryz.func38, Tryz.ntmps38
 go_wp2_with fail;go_loopw [6, 7] (fun s6 s7 wr => ∃ i : Nat, ∃ n chg now had Ah ch, i ≤ l.length ∧ s6 = .slice Ah had.length ch ∧ s7 = .int .i64 i ∧ Hid (Acts i n chg now had) ∧ Hid (had.length = i + 1) ∧ Hid (OneR w (.slice A l.length c) l now had (.slice Ah had.length ch) wr)) (fun _ s7 _ => l.length - (intOf s7).toNat)
 case atStart => exact ⟨0, _, _, _, _, _, _, by omega, rfl, rfl, hd_ Acts.start, hd_ rfl, HR0⟩
 case round =>
  obtain ⟨i, n, chg, now, had, Ah, ch, hil, rfl, rfl, HC, HL, HW⟩ := hrel;have i3 : (0 : Int) ≤ (i : Int) := by omega
  clear HR0;by_cases hlt : i < l.length
  ·have hdk : decide ((i : Int) < (l.length : Int)) = true := decide_eq_true (by omega)
   have i4 : (i : Int) < (l.length : Int) := by omega
   obtain ⟨A', c', e, hh⟩ := HW.out.one.acts;injection e with e1 e2 e3
   subst e1 e3;clear e2;obtain ⟨ad, rfl, c0, c1, c2, c3, c4, u0, u1, u2, u3⟩ := hh i hlt;clear hh;obtain ⟨k, hk1, hk2, hk3'⟩ := rem_u8 l[i].who 3 u0 (by omega)
   have hk3 : k < 3 := by omega
   have hk : k < 4 := by omega
   have k3 : (0 : Int) ≤ (k : Int) := by omega
   have k4 : (k : Int) < 3 := by omega
   have w1_ : wrap64 (k : Int) = (k : Int) := wrap_small (by omega) (by omega)
   have w2_ : wrap64 ((k : Int) + 1) = (k : Int) + 1 := wrap_small (by omega) (by omega)
   clear hk3';go_wp2_with fail;(with_reducible refine (at39_any _ _).mono ?_)
   rintro e1 w2 ⟨rfl, hb⟩;have q7 := ad_ w2 (.cells #[.int .i64 ((k : Int) + 1), .int .i64 1] 29);have G2 := hd_ ((HW.out.step hb).step q7);have B9 := hd_ (ao_ w2 ((k : Int) + 1) 1);have L9 := hd_ (show w.heap.size + 1 < w2.heap.size from Nat.lt_of_lt_of_le HW.out.one.nb.lt hb.size)
   obtain ⟨o1, o2⟩ := ae_ (ao_ w2 0 0);obtain ⟨o3, o4⟩ := box_free (ao_ w2 0 0);clear hb q7 c0 c1 c2 c3 c4 u0 u1 u2 u3;go_upto_region 8 with fail;clear o1 o2 o3 o4;obtain ⟨GB, hGB⟩ : ∃ g, g = w2.heap.size := ⟨_, rfl⟩;rw [← hGB] at B9 L9;rw [← hGB];generalize w2.alloc (.cells #[.int .i64 ((k : Int) + 1), .int .i64 1] 29) = w3 at *;clear hGB;have G3 : Hid (AcG w GB (.slice (some ad) l.length c) l now had (.slice Ah had.length ch) k w3) := hd_ ⟨G2.out, B9.out, L9.out⟩
   clear G2 B9 L9 HW;obtain ⟨c0, c1, c2, c3, c4, -, v1, v2, v3⟩ := G3.out.one.one.acts.at_ hlt;go_upto_block 2 with fail
   go_cut [10] (fun s10 wx => ∃ T, s10 = .int .i64 0 ∧ Hid (Next i now had k T) ∧ Hid (AcG w GB (.slice (some ad) l.length c) l (now1 now k T) had (.slice Ah had.length ch) k wx))
   case first =>
    obtain ⟨n0_, n1_, n2_, n3_, n4_, hnv, -⟩ := G3.out.one.one.nb.at_ hk3;have HNV := hd_ hnv;clear hnv HNV n0_ n1_ n2_ n3_ n4_;by_cases hK : l[i].kind = 0
    ·have hK0 : (l[i].kind == 0) = true := by simpa using hK
     obtain ⟨p, p1, p2, -⟩ := rem_u8 l[i].m 5 v2 (by omega)
     obtain ⟨r, r1, r2, -⟩ := rem_u8 l[i].s 7 v3 (by omega)
     have HY : Hid (IntKind.i64.wrap (1 + IntKind.i64.wrap ((p : Nat) : Int)) = (p : Int) + 1) := hd_ (by rw [i64_small (n := (p : Int)) (by omega) (by omega), i64_small (by omega) (by omega)]; omega)
     have HS : Hid (∀ w', Below w3.heap.size w3 w' → (fun w' => w'.cell? ⟨(ad.add (i * 5)).block, (ad.add (i * 5)).off + 2, none⟩ = some (.int .u8 l[i].m) ∧ w'.cell? ⟨(ad.add (i * 5)).block, (ad.add (i * 5)).off + 3, none⟩ = some (.int .u8 l[i].s)) w') := hd_ fun w' hb => ⟨(hb.cell (World.block_lt_of_cell? w3 _ c2)).trans c2, (hb.cell (World.block_lt_of_cell? w3 _ c3)).trans c3⟩
     have e3 : IntKind.u8.wrap (1 + (r : Int)) = (r : Int) + 1 := by rw [u8_small (by omega) (by omega)]; omega
     have Pm0 := hd_ (show Below w3.heap.size w3 w3.drew from (Below.refl _ _).drew)
     clear c0 c1 c4 hK;go_upto_region 12 with fail;clear c2 c3;go_cut [11] (fun s11 wx => ∃ g, s11 = .pointer (some ⟨g, 0, none⟩) ∧ Hid (w3.heap.size ≤ g) ∧ Hid (Below w3.heap.size w3 wx) ∧ Hid (MBox wx g ((p : Int) + 1) 1 ((r : Int) + 1) 0))
     case first =>
      refine wp_region_held_drew (S := (fun w' => w'.cell? ⟨(ad.add (i * 5)).block, (ad.add (i * 5)).off + 2, none⟩ = some (.int .u8 l[i].m) ∧ w'.cell? ⟨(ad.add (i * 5)).block, (ad.add (i * 5)).off + 3, none⟩ = some (.int .u8 l[i].s))) (by kernel_rfl) ?_ (fun hHeld => ?_)
      ·exact HS.out _ Pm0.out
      generalize World.drew w3 = m0 at *;refine ty_ 0 ?_;refine ty_ 1 ?_;refine ty_ 2 ?_;refine ty_ 3 ?_;refine ty_ 4 ?_;refine ty_ 5 ?_;refine ty_ 6 ?_;refine ty_ 7 ?_;refine ty_ 9 ?_;refine ty_ 10 ?_;refine ty_ 11 ?_;refine ty_ 12 ?_;refine ty_ 13 ?_;refine ty_ 14 ?_;refine ty_ 15 ?_;(try simp only [Act.put, si0, si1, si2]);refine ar_ [8, 17] ?_;refine ac_ (fun Kq hKq => ?_) (ac_ (fun Kq hKq => ?_) an_)
      ·go_simp
       clear hHeld;rw [HY.out]; go_at_call 39; (with_reducible refine (at39_any _ _).mono ?_); rintro e m1 ⟨rfl, hb⟩
       have Pm1 := hd_ (ba_ Pm0.out hb);clear hb;refine hKq.out _ _ ?_ (fun hHeld => ?_)
       ·(try dsimp only); exact HS.out _ Pm1.out
       clear hKq Kq;(try simp only [Act.put, si0, si1, si2]);refine ty_ 16 ?_;(try simp only [Act.put, si0, si1, si2]);refine a1_ 17 fun Kq hKq => ?_;clear hHeld;refine step_malloc (by rfl) (by rfl) _ ?_; intro gm m2 k1 hb k3
       have LO := hd_ (Nat.le_trans Pm1.out.size k3);have CB := hd_ k1;clear k1 k3;have Pm2 := hd_ (ba_ Pm1.out hb);clear hb;refine hKq.out _ _ ?_ (fun hHeld => ?_)
       ·(try dsimp only); exact HS.out _ Pm2.out
       clear hKq Kq;(try simp only [Act.put, si0, si1, si2]);refine a1_ 18 fun Kq hKq => ?_;clear hHeld;refine step_mstore (by rfl) (.tmp 11) (.tmp 74) (by rfl) _ gm ((p : Int) + 1) 1 ((r : Int) + 1) 0 (by rfl) (by rfl) CB.out ?_; intro m3 k1 k2
       have Pm3 := hd_ (Pm2.out.trans (aj_ k2 LO.out Pm2.out.size));have M5 := hd_ k1;clear k1 k2;refine hKq.out _ _ ?_ (fun hHeld => ?_)
       ·(try dsimp only); exact HS.out _ Pm3.out
       clear hKq Kq;(try simp only [Act.put]);refine wd_ ?_;go_wp2_with fail;go_meet;exact ⟨gm, rfl, LO, Pm3, M5⟩
      ·clear hHeld
       refine step_malloc (by rfl) (by rfl) _ ?_; intro gm m1 k1 hb k3
       have LO := hd_ (Nat.le_trans Pm0.out.size k3);have CB := hd_ k1;clear k1 k3;have Pm1 := hd_ (ba_ Pm0.out hb);clear hb;refine hKq.out _ _ ?_ (fun hHeld => ?_)
       ·(try dsimp only); exact HS.out _ Pm1.out
       clear hKq Kq;(try simp only [Act.put, si0, si1, si2]);refine a1_ 8 fun Kq hKq => ?_;go_simp;clear hHeld;rw [HY.out]; go_at_call 39; (with_reducible refine (at39_any _ _).mono ?_); rintro e m2 ⟨rfl, hb⟩
       have Pm2 := hd_ (ba_ Pm1.out hb);have CB := hd_ (mbox_below CB.out hb);clear hb;refine hKq.out _ _ ?_ (fun hHeld => ?_)
       ·(try dsimp only); exact HS.out _ Pm2.out
       clear hKq Kq;(try simp only [Act.put, si0, si1, si2]);refine ty_ 16 ?_;(try simp only [Act.put, si0, si1, si2]);refine a1_ 18 fun Kq hKq => ?_;clear hHeld;refine step_mstore (by rfl) (.tmp 11) (.tmp 74) (by rfl) _ gm ((p : Int) + 1) 1 ((r : Int) + 1) 0 (by rfl) (by rfl) CB.out ?_; intro m3 k1 k2
       have Pm3 := hd_ (Pm2.out.trans (aj_ k2 LO.out Pm2.out.size));have M5 := hd_ k1;clear k1 k2;refine hKq.out _ _ ?_ (fun hHeld => ?_)
       ·(try dsimp only); exact HS.out _ Pm3.out
       clear hKq Kq;(try simp only [Act.put]);refine wd_ ?_;go_wp2_with fail;go_meet;exact ⟨gm, rfl, LO, Pm3, M5⟩
     case rest =>
      obtain ⟨GM, rfl, LM, B5, M5⟩ := hcut;rename World => w5;clear HS hK0 p1 r1 Pm0 e3 HY;obtain ⟨y1, y2, y3, y4⟩ := aw_ M5.out;obtain ⟨z1, z2, z3, z4⟩ := mbox_free M5.out;obtain ⟨c0, c1, c2, c3, c4, -⟩ := (G3.out.step B5.out).one.one.acts.at_ hlt;clear c0 c1 c3 c4;go_upto_if 77 with fail
      go_cut [] (fun wx => ∃ no : Int, ((r : Int) + 1 < 3 → no = 0) ∧ (3 ≤ (r : Int) + 1 → 1 ≤ no ∧ no ≤ 256) ∧ Hid (AcG w GB (.slice (some ad) l.length c) l now had (.slice Ah had.length ch) k wx) ∧ Hid (MBox wx GM ((p : Int) + 1) 1 ((r : Int) + 1) no) ∧ Hid (w3.heap.size ≤ wx.heap.size))
      case first =>
       by_cases h3 : 3 ≤ (r : Int) + 1
       ·have d1 : decide (3 ≤ (r : Int) + 1) = true := decide_eq_true h3
        have d2 : decide ((r : Int) + 1 ≥ 3) = true := decide_eq_true h3
        obtain ⟨m0, m1⟩ := v2;obtain ⟨y, hy⟩ : ∃ y : Int, y = l[i].m := ⟨_, rfl⟩;rw [← hy] at m0 m1 c2;have wy : wrap64 (1 + wrap64 y) = y + 1 := by rw [wrap_small (n := y) (by omega) (by omega), wrap_small (by omega) (by omega)]; omega
        clear hy;go_wp2_with fail;go_meet;exact ⟨1 + y, fun h => absurd h (Int.not_lt.2 h3), fun _ => by omega, hd_ (acG_no G3.out B5.out LM.out _), hd_ (mbox_no M5.out _), hd_ (by simp [World.setCell]; exact B5.out.size)⟩
       ·have d1 : decide (3 ≤ (r : Int) + 1) = false := decide_eq_false h3
        have d2 : decide ((r : Int) + 1 ≥ 3) = false := decide_eq_false h3
        go_wp2_with fail;go_meet;exact ⟨0, fun _ => rfl, fun h => absurd h (Int.not_le.2 h3), hd_ (G3.out.step B5.out), M5, hd_ B5.out.size⟩
      case rest =>
       obtain ⟨no, HY1, HY2, G5, M5, LZ⟩ := hcut;clear y1 y2 y3 y4 z1 z2 z3 z4 c2;clear B5;rename World => w6;have LG : Hid (w.heap.size + 1 < GM) := hd_ (by have h1 := LM.out; have h2 := G3.out.n9; have h3 := box_lt G3.out.id; omega)
       obtain ⟨b1, b2⟩ := ae_ G5.out.id;obtain ⟨y1, y2, y3, y4⟩ := aw_ M5.out
       have HS : Hid (∀ w' : World, (∀ j, j < w6.heap.size → j ≠ w.heap.size + 1 → w'.heap[j]? = w6.heap[j]?) → (fun w' => (w'.cell? ⟨GB, 0, none⟩ = some (.int .i64 ((k : Int) + 1)) ∧ w'.cell? ⟨GB, 1, none⟩ = some (.int .i64 1)) ∧ (w'.cell? ⟨GM, 0, none⟩ = some (.int .i64 ((p : Int) + 1)) ∧ w'.cell? ⟨GM, 1, none⟩ = some (.int .i64 1) ∧ w'.cell? ⟨GM, 2, none⟩ = some (.int .u8 ((r : Int) + 1)) ∧ w'.cell? ⟨GM, 3, none⟩ = some (.int .i64 no))) w') := hd_ fun w' hh => by
        have key : ∀ (q : Addr) (u : Value), w6.cell? q = some u → q.block ≠ w.heap.size + 1 → w'.cell? q = some u := fun q u hu hne => (World.cell?_of_block (hh _ (World.block_lt_of_cell? w6 _ hu) hne)).trans hu
        have n1 : GB ≠ w.heap.size + 1 := by have := G5.out.n9; omega
        have n2 : GM ≠ w.heap.size + 1 := by have := LG.out; omega
        exact ⟨⟨key _ _ b1 n1, key _ _ b2 n1⟩, key _ _ y1 n2, key _ _ y2 n2, key _ _ y3 n2, key _ _ y4 n2⟩
       obtain ⟨T, hT, HN0⟩ := put_next HC.out (by omega) (by omega) hk (x := (((p : Int) + 1, 1), (r : Int) + 1, no)) (mem_ok p2) (mem_ok2 r2 HY1 HY2)
       have HT0 : Hid (changedV (now k) (putU (now k) ((k : Int) + 1, 1) (((p : Int) + 1, 1), (r : Int) + 1, no)).1 (putU (now k) ((k : Int) + 1, 1) (((p : Int) + 1, 1), (r : Int) + 1, no)).2 ((k : Int) + 1, 1) = (T, 0)) := hd_ hT
       have HN := hd_ HN0;have HF := hd_ ((HC.out.fit hk).mono (show 13 ≤ 1000 by omega))
       have P0 := hd_ (show Below w6.heap.size w6 w6.drew from (Below.refl _ _).drew)
       clear hT HN0 b1 b2 y1 y2 y3 y4;go_upto_region 15 with fail;refine wp_region_held_drew (S := fun w' => (w'.cell? ⟨GB, 0, none⟩ = some (.int .i64 ((k : Int) + 1)) ∧ w'.cell? ⟨GB, 1, none⟩ = some (.int .i64 1)) ∧ (w'.cell? ⟨GM, 0, none⟩ = some (.int .i64 ((p : Int) + 1)) ∧ w'.cell? ⟨GM, 1, none⟩ = some (.int .i64 1) ∧ w'.cell? ⟨GM, 2, none⟩ = some (.int .u8 ((r : Int) + 1)) ∧ w'.cell? ⟨GM, 3, none⟩ = some (.int .i64 no))) (by kernel_rfl) ?_ (fun hHeld => ?_)
       ·exact HS.out _ (fun j hj _ => P0.out.block j hj)
       refine ty_ 0 ?_;refine ty_ 1 ?_;refine ty_ 2 ?_;refine ty_ 4 ?_;refine ty_ 5 ?_;(try simp only [Act.put, si0, si1, si2]);refine a1_ 3 fun Kq hKq => ?_;obtain ⟨n0_, n1_, n2_, n3_, n4_, hv, ⟨n0, n1, n2, n3, n4⟩, -⟩ := (G5.out.step P0.out).one.one.nb.at_ hk3;have NV := hd_ hv; clear hv
       go_simp;clear hHeld;skip
       refine hKq.out _ _ ?_ (fun hHeld => ?_)
       ·(try dsimp only); exact HS.out _ (fun j hj _ => P0.out.block j hj)
       clear hKq Kq;(try simp only [Act.put, si0, si1, si2]);refine a1_ 6 fun Kq hKq => ?_;go_simp;clear hHeld;(go_at_call 15; (with_reducible refine (put_any _ (now k) ((k : Int) + 1) 1 ((p : Int) + 1) 1 ((r : Int) + 1) no _ NV.out.at_ HF.out).mono ?_)); rw [HT0.out]; dsimp only; rintro e1 w7 ⟨X, rfl, hx, hb⟩; obtain ⟨t0, t1, t2, t3, t4, rfl, hr7⟩ := hx; have P1 := hd_ (ba_ P0.out hb); have HT : Hid (RVt w7 (t0, t1, t2, t3, t4) T) := hd_ hr7; have G7 := hd_ (G5.out.step P1.out); clear hb hr7
       refine hKq.out _ _ ?_ (fun hHeld => ?_)
       ·(try dsimp only); exact HS.out _ (fun j hj _ => P1.out.block j hj)
       clear hKq Kq;(try simp only [Act.put, si0, si1, si2]);refine ty_ 7 ?_;refine ty_ 8 ?_;refine ty_ 9 ?_;refine ty_ 10 ?_;(try simp only [Act.put, si0, si1, si2]);refine a1_ 11 fun Kq hKq => ?_;obtain ⟨x0_, x1_, x2_, x3_, x4_, -, ⟨x0, x1, x2, x3, x4⟩, y0, y1, y2, y3, y4⟩ := G7.out.one.one.nb.at_ hk3;go_simp;clear hHeld;skip
       refine hKq.out _ _ ?_ (fun hHeld => ?_)
       ·(try dsimp only); exact HS.out _ (fun j hj hne => (heap_setCells (w.heap.size + 1) (encV (t0, t1, t2, t3, t4)) (k * 5) w7 j hne).trans (P1.out.block j hj))
       clear hKq Kq;(try simp only [Act.put, si0, si1, si2]);refine ty_ 12 ?_;(try simp only [Act.put, si0, si1, si2]);refine wd_ ?_;go_wp2_with fail;go_meet;exact ⟨T, rfl, HN, hd_ (G7.out.put hk3 (t := (t0, t1, t2, t3, t4)) HT.out)⟩
    ·by_cases hK1 : l[i].kind = 1
     ·have hK0 : (l[i].kind == 0) = false := by simpa using hK
      have hK2 : (l[i].kind == 1) = true := by simpa using hK1
      obtain ⟨p, p1, p2, -⟩ := rem_u8 l[i].m 5 v2 (by omega)
      have HY : Hid (IntKind.i64.wrap (1 + IntKind.i64.wrap ((p : Nat) : Int)) = (p : Int) + 1) := hd_ (by rw [i64_small (n := (p : Int)) (by omega) (by omega), i64_small (by omega) (by omega)]; omega)
      obtain ⟨_, _, _, hno, _⟩ := G3.out.one.one.nb;have ha6 : (ad.add (i * 5)).block ≠ w.heap.size + 1 := fun e => hno _ e _ _ c0
      obtain ⟨b1, b2⟩ := ae_ G3.out.id
      have HS : Hid (∀ w' : World, (∀ j, j < w3.heap.size → j ≠ w.heap.size + 1 → w'.heap[j]? = w3.heap[j]?) → (fun w' => (w'.cell? ⟨GB, 0, none⟩ = some (.int .i64 ((k : Int) + 1)) ∧ w'.cell? ⟨GB, 1, none⟩ = some (.int .i64 1)) ∧ w'.cell? ⟨(ad.add (i * 5)).block, (ad.add (i * 5)).off + 2, none⟩ = some (.int .u8 l[i].m)) w') := hd_ fun w' hh => by
       have key : ∀ (q : Addr) (u : Value), w3.cell? q = some u → q.block ≠ w.heap.size + 1 → w'.cell? q = some u := fun q u hu hne => (World.cell?_of_block (hh _ (World.block_lt_of_cell? w3 _ hu) hne)).trans hu
       have n1 : GB ≠ w.heap.size + 1 := by have := G3.out.n9; omega
       exact ⟨⟨key _ _ b1 n1, key _ _ b2 n1⟩, key _ _ c2 ha6⟩
      have hin : ∀ x ∈ [((p : Int) + 1, (1 : Int))], InB x := fun x hx => by rw [List.mem_singleton.1 hx]; exact mem_ok p2
      obtain ⟨T, hT, HN0⟩ := row_next HC.out (by omega) (by omega) hk (not := [((p : Int) + 1, 1)]) hin
      have HT0 : Hid (changedV (now k) (rowU (now k) ((k : Int) + 1, 1) [((p : Int) + 1, 1)]).1 (rowU (now k) ((k : Int) + 1, 1) [((p : Int) + 1, 1)]).2 ((k : Int) + 1, 1) = (T, 0)) := hd_ hT
      have HN := hd_ HN0;have HF := hd_ ((HC.out.fit hk).mono (show 13 ≤ 1000 by omega))
      have HU : Hid (FitVIE 1000 (rowU (now k) ((k : Int) + 1, 1) [((p : Int) + 1, 1)]).1) := hd_ (fit_rowU hk (HC.out.few.1 k hk) (HC.out.ok hk) (by omega) hin (by simp))
      have HV := hd_ (show ∀ r ∈ (now k).r, -9223372036854775808 ≤ r.2.1 from fun r hr => by have := ((HC.out.few.1 k hk).r r hr).2.1; omega)
      have P0 := hd_ (show Below w3.heap.size w3 w3.drew from (Below.refl _ _).drew)
      clear hT HN0 hin hno b1 b2 ha6 c0 c1 c2 c3 c4 hK hK1;go_upto_region 17 with fail;refine wp_region_held_drew (S := (fun w' => (w'.cell? ⟨GB, 0, none⟩ = some (.int .i64 ((k : Int) + 1)) ∧ w'.cell? ⟨GB, 1, none⟩ = some (.int .i64 1)) ∧ w'.cell? ⟨(ad.add (i * 5)).block, (ad.add (i * 5)).off + 2, none⟩ = some (.int .u8 l[i].m))) (by kernel_rfl) ?_ (fun hHeld => ?_)
      ·exact HS.out _ (fun j hj _ => P0.out.block j hj)
      refine ty_ 0 ?_;refine ty_ 1 ?_;refine ty_ 2 ?_;refine ty_ 4 ?_;refine ty_ 5 ?_;refine ty_ 6 ?_;refine ty_ 7 ?_;refine ty_ 8 ?_;refine ty_ 9 ?_;refine ty_ 10 ?_;refine ty_ 11 ?_;refine ty_ 12 ?_;(try simp only [Act.put, si0, si1, si2]);refine ar_ [3, 13] ?_;refine ac_ (fun Kq hKq => ?_) (ac_ (fun Kq hKq => ?_) an_)
      ·obtain ⟨n0_, n1_, n2_, n3_, n4_, hv, ⟨n0, n1, n2, n3, n4⟩, -⟩ := (G3.out.step P0.out).one.one.nb.at_ hk3
       have NV := hd_ hv;clear hv;go_simp;clear hHeld;refine hKq.out _ _ ?_ (fun hHeld => ?_)
       ·(try dsimp only); exact HS.out _ (fun j hj _ => P0.out.block j hj)
       clear hKq Kq;(try simp only [Act.put, si0, si1, si2]);refine a1_ 13 fun Kq hKq => ?_;go_simp;clear hHeld;rw [HY.out];(go_at_call 39; (with_reducible refine (at39_any _ _).mono ?_))
       rintro e1 w5 ⟨rfl, hb⟩;have P1 := hd_ (ba_ P0.out hb); have NV := hd_ (NV.out.below hb)
       clear hb;refine hKq.out _ _ ?_ (fun hHeld => ?_)
       ·(try dsimp only); exact HS.out _ (fun j hj _ => P1.out.block j hj)
       clear hKq Kq;(try simp only [Act.put, si0, si1, si2]);refine a1_ 14 fun Kq hKq => ?_;go_simp;clear hHeld;have hb := ad_ w5 (.cells #[.int .i64 ((p : Int) + 1), .int .i64 1] 29); have P2 := hd_ (ba_ P1.out hb); have HI5 : Hid (Ids (w5.alloc (.cells #[.int .i64 ((p : Int) + 1), .int .i64 1] 29)) (.slice (some ⟨w5.heap.size, 0, none⟩) 1 1) [((p : Int) + 1, 1)]) := hd_ (ids_lit w5 [((p : Int) + 1, 1)]); have NV := hd_ (NV.out.below hb); clear hb
       refine hKq.out _ _ ?_ (fun hHeld => ?_)
       ·(try dsimp only); exact HS.out _ (fun j hj _ => P2.out.block j hj)
       clear hKq Kq;(try simp only [Act.put, si0, si1, si2]);refine a1_ 15 fun Kq hKq => ?_;go_simp;clear hHeld;(go_at_call 17; (with_reducible refine (row_any _ (now k) ((k : Int) + 1) 1 (some ⟨w5.heap.size, 0, none⟩, 1, 1) [((p : Int) + 1, 1)] _ NV.out.at_ HF.out HI5.out HV.out (by simp) HU.out).mono ?_))
       rw [HT0.out];dsimp only;rintro e1 w7 ⟨X, rfl, hx, hb⟩;obtain ⟨t0, t1, t2, t3, t4, rfl, hr7⟩ := hx;have P3 := hd_ (ba_ P2.out hb);have HT : Hid (RVt w7 (t0, t1, t2, t3, t4) T) := hd_ hr7
       have G7 := hd_ (G3.out.step P3.out);clear hb hr7;refine hKq.out _ _ ?_ (fun hHeld => ?_)
       ·(try dsimp only); exact HS.out _ (fun j hj _ => P3.out.block j hj)
       clear hKq Kq;(try simp only [Act.put, si0, si1, si2]);refine ty_ 16 ?_;refine ty_ 17 ?_;refine ty_ 18 ?_;refine ty_ 19 ?_;(try simp only [Act.put, si0, si1, si2]);refine a1_ 20 fun Kq hKq => ?_;obtain ⟨x0_, x1_, x2_, x3_, x4_, -, ⟨x0, x1, x2, x3, x4⟩, y0, y1, y2, y3, y4⟩ := G7.out.one.one.nb.at_ hk3;go_simp;clear hHeld;refine hKq.out _ _ ?_ (fun hHeld => ?_)
       ·(try dsimp only); exact HS.out _ (fun j hj hne => (heap_setCells (w.heap.size + 1) (encV (t0, t1, t2, t3, t4)) (k * 5) w7 j hne).trans (P3.out.block j hj))
       clear hKq Kq;(try simp only [Act.put, si0, si1, si2]);refine ty_ 21 ?_;(try simp only [Act.put, si0, si1, si2]);refine wd_ ?_;go_wp2_with fail;go_meet;exact ⟨T, rfl, HN, hd_ (G7.out.put hk3 (t := (t0, t1, t2, t3, t4)) HT.out)⟩
      ·go_simp
       clear hHeld;rw [HY.out];(go_at_call 39; (with_reducible refine (at39_any _ _).mono ?_))
       rintro e1 w5 ⟨rfl, hb⟩;have P1 := hd_ (ba_ P0.out hb);clear hb;refine hKq.out _ _ ?_ (fun hHeld => ?_)
       ·(try dsimp only); exact HS.out _ (fun j hj _ => P1.out.block j hj)
       clear hKq Kq;(try simp only [Act.put, si0, si1, si2]);refine ar_ [3, 14] ?_;refine ac_ (fun Kq hKq => ?_) (ac_ (fun Kq hKq => ?_) an_)
       ·obtain ⟨n0_, n1_, n2_, n3_, n4_, hv, ⟨n0, n1, n2, n3, n4⟩, -⟩ := (G3.out.step P1.out).one.one.nb.at_ hk3
        have NV := hd_ hv;clear hv;go_simp;clear hHeld;refine hKq.out _ _ ?_ (fun hHeld => ?_)
        ·(try dsimp only); exact HS.out _ (fun j hj _ => P1.out.block j hj)
        clear hKq Kq;(try simp only [Act.put, si0, si1, si2]);refine a1_ 14 fun Kq hKq => ?_;go_simp;clear hHeld;have hb := ad_ w5 (.cells #[.int .i64 ((p : Int) + 1), .int .i64 1] 29); have P2 := hd_ (ba_ P1.out hb); have HI5 : Hid (Ids (w5.alloc (.cells #[.int .i64 ((p : Int) + 1), .int .i64 1] 29)) (.slice (some ⟨w5.heap.size, 0, none⟩) 1 1) [((p : Int) + 1, 1)]) := hd_ (ids_lit w5 [((p : Int) + 1, 1)]); have NV := hd_ (NV.out.below hb); clear hb
        refine hKq.out _ _ ?_ (fun hHeld => ?_)
        ·(try dsimp only); exact HS.out _ (fun j hj _ => P2.out.block j hj)
        clear hKq Kq;(try simp only [Act.put, si0, si1, si2]);refine a1_ 15 fun Kq hKq => ?_;go_simp;clear hHeld;(go_at_call 17; (with_reducible refine (row_any _ (now k) ((k : Int) + 1) 1 (some ⟨w5.heap.size, 0, none⟩, 1, 1) [((p : Int) + 1, 1)] _ NV.out.at_ HF.out HI5.out HV.out (by simp) HU.out).mono ?_))
        rw [HT0.out];dsimp only;rintro e1 w7 ⟨X, rfl, hx, hb⟩;obtain ⟨t0, t1, t2, t3, t4, rfl, hr7⟩ := hx;have P3 := hd_ (ba_ P2.out hb);have HT : Hid (RVt w7 (t0, t1, t2, t3, t4) T) := hd_ hr7
        have G7 := hd_ (G3.out.step P3.out);clear hb hr7;refine hKq.out _ _ ?_ (fun hHeld => ?_)
        ·(try dsimp only); exact HS.out _ (fun j hj _ => P3.out.block j hj)
        clear hKq Kq;(try simp only [Act.put, si0, si1, si2]);refine ty_ 16 ?_;refine ty_ 17 ?_;refine ty_ 18 ?_;refine ty_ 19 ?_;(try simp only [Act.put, si0, si1, si2]);refine a1_ 20 fun Kq hKq => ?_;obtain ⟨x0_, x1_, x2_, x3_, x4_, -, ⟨x0, x1, x2, x3, x4⟩, y0, y1, y2, y3, y4⟩ := G7.out.one.one.nb.at_ hk3;go_simp;clear hHeld;refine hKq.out _ _ ?_ (fun hHeld => ?_)
        ·(try dsimp only); exact HS.out _ (fun j hj hne => (heap_setCells (w.heap.size + 1) (encV (t0, t1, t2, t3, t4)) (k * 5) w7 j hne).trans (P3.out.block j hj))
        clear hKq Kq;(try simp only [Act.put, si0, si1, si2]);refine ty_ 21 ?_;(try simp only [Act.put, si0, si1, si2]);refine wd_ ?_;go_wp2_with fail;go_meet;exact ⟨T, rfl, HN, hd_ (G7.out.put hk3 (t := (t0, t1, t2, t3, t4)) HT.out)⟩
       ·go_simp
        clear hHeld;have hb := ad_ w5 (.cells #[.int .i64 ((p : Int) + 1), .int .i64 1] 29); have P2 := hd_ (ba_ P1.out hb); have HI5 : Hid (Ids (w5.alloc (.cells #[.int .i64 ((p : Int) + 1), .int .i64 1] 29)) (.slice (some ⟨w5.heap.size, 0, none⟩) 1 1) [((p : Int) + 1, 1)]) := hd_ (ids_lit w5 [((p : Int) + 1, 1)]); clear hb
        refine hKq.out _ _ ?_ (fun hHeld => ?_)
        ·(try dsimp only); exact HS.out _ (fun j hj _ => P2.out.block j hj)
        clear hKq Kq;(try simp only [Act.put, si0, si1, si2]);refine a1_ 3 fun Kq hKq => ?_;obtain ⟨n0_, n1_, n2_, n3_, n4_, hv, ⟨n0, n1, n2, n3, n4⟩, -⟩ := (G3.out.step P2.out).one.one.nb.at_ hk3;have NV := hd_ hv;clear hv;go_simp;clear hHeld;refine hKq.out _ _ ?_ (fun hHeld => ?_)
        ·(try dsimp only); exact HS.out _ (fun j hj _ => P2.out.block j hj)
        clear hKq Kq;(try simp only [Act.put, si0, si1, si2]);refine a1_ 15 fun Kq hKq => ?_;go_simp;clear hHeld;(go_at_call 17; (with_reducible refine (row_any _ (now k) ((k : Int) + 1) 1 (some ⟨w5.heap.size, 0, none⟩, 1, 1) [((p : Int) + 1, 1)] _ NV.out.at_ HF.out HI5.out HV.out (by simp) HU.out).mono ?_))
        rw [HT0.out];dsimp only;rintro e1 w7 ⟨X, rfl, hx, hb⟩;obtain ⟨t0, t1, t2, t3, t4, rfl, hr7⟩ := hx;have P3 := hd_ (ba_ P2.out hb);have HT : Hid (RVt w7 (t0, t1, t2, t3, t4) T) := hd_ hr7
        have G7 := hd_ (G3.out.step P3.out);clear hb hr7;refine hKq.out _ _ ?_ (fun hHeld => ?_)
        ·(try dsimp only); exact HS.out _ (fun j hj _ => P3.out.block j hj)
        clear hKq Kq;(try simp only [Act.put, si0, si1, si2]);refine ty_ 16 ?_;refine ty_ 17 ?_;refine ty_ 18 ?_;refine ty_ 19 ?_;(try simp only [Act.put, si0, si1, si2]);refine a1_ 20 fun Kq hKq => ?_;obtain ⟨x0_, x1_, x2_, x3_, x4_, -, ⟨x0, x1, x2, x3, x4⟩, y0, y1, y2, y3, y4⟩ := G7.out.one.one.nb.at_ hk3;go_simp;clear hHeld;refine hKq.out _ _ ?_ (fun hHeld => ?_)
        ·(try dsimp only); exact HS.out _ (fun j hj hne => (heap_setCells (w.heap.size + 1) (encV (t0, t1, t2, t3, t4)) (k * 5) w7 j hne).trans (P3.out.block j hj))
        clear hKq Kq;(try simp only [Act.put, si0, si1, si2]);refine ty_ 21 ?_;(try simp only [Act.put, si0, si1, si2]);refine wd_ ?_;go_wp2_with fail;go_meet;exact ⟨T, rfl, HN, hd_ (G7.out.put hk3 (t := (t0, t1, t2, t3, t4)) HT.out)⟩
     ·have hK0 : (l[i].kind == 0) = false := by simpa using hK
      have hK2 : (l[i].kind == 1) = false := by simpa using hK1
      obtain ⟨j, jl, hj⟩ := num_cut l[i].view had.length (by have := HL.out; omega) (by have := HL.out; omega)
      obtain ⟨_, _, _, hno, _⟩ := G3.out.one.one.nb;have ha6 : (ad.add (i * 5)).block ≠ w.heap.size + 1 := fun e => hno _ e _ _ c0
      obtain ⟨ah, hae, hab, h0, h1, h2, h3, h4, hvh, g0, g1, g2, g3, g4⟩ := G3.out.one.one.hb.at_ jl;obtain rfl := hae;obtain ⟨b1, b2⟩ := ae_ G3.out.id;have HB1 : ∀ q : Addr, q.block = ah.block → q.block ≠ w.heap.size + 1 := fun q hq => by rw [hq]; omega
      have HS : Hid (∀ w' : World, (∀ j, j < w3.heap.size → j ≠ w.heap.size + 1 → w'.heap[j]? = w3.heap[j]?) → (fun w' => (w'.cell? ⟨GB, 0, none⟩ = some (.int .i64 ((k : Int) + 1)) ∧ w'.cell? ⟨GB, 1, none⟩ = some (.int .i64 1)) ∧ w'.cell? ⟨(ad.add (i * 5)).block, (ad.add (i * 5)).off + 4, none⟩ = some (.int .i64 l[i].view) ∧ (w'.cell? (ah.add (j * 5)) = some (.slice h0.1 h0.2.1 h0.2.2) ∧ w'.cell? ⟨(ah.add (j * 5)).block, (ah.add (j * 5)).off + 1, none⟩ = some (.slice h1.1 h1.2.1 h1.2.2) ∧ w'.cell? ⟨(ah.add (j * 5)).block, (ah.add (j * 5)).off + 2, none⟩ = some (.slice h2.1 h2.2.1 h2.2.2) ∧ w'.cell? ⟨(ah.add (j * 5)).block, (ah.add (j * 5)).off + 3, none⟩ = some (.slice h3.1 h3.2.1 h3.2.2) ∧ w'.cell? ⟨(ah.add (j * 5)).block, (ah.add (j * 5)).off + 4, none⟩ = some (.slice h4.1 h4.2.1 h4.2.2))) w') := hd_ fun w' hh => by
       have key : ∀ (q : Addr) (u : Value), w3.cell? q = some u → q.block ≠ w.heap.size + 1 → w'.cell? q = some u := fun q u hu hne => (World.cell?_of_block (hh _ (World.block_lt_of_cell? w3 _ hu) hne)).trans hu
       have n1 : GB ≠ w.heap.size + 1 := by have := G3.out.n9; omega
       exact ⟨⟨key _ _ b1 n1, key _ _ b2 n1⟩, key _ _ c4 ha6, key _ _ g0 (HB1 _ (addr_block _ _)), key _ _ g1 (HB1 _ (addr_block _ _)), key _ _ g2 (HB1 _ (addr_block _ _)), key _ _ g3 (HB1 _ (addr_block _ _)), key _ _ g4 (HB1 _ (addr_block _ _))⟩
      have HH := hd_ hvh;have hm := List.getElem_mem jl;have F1 := hd_ ((HC.out.fit hk).mono (show 13 ≤ 400 by omega))
      have F2 := hd_ ((HC.out.fitH hm).mono (show 13 ≤ 400 by omega))
      have U1 := hd_ (HC.out.ok hk).nr.1;have U2 := hd_ (HC.out.okH hm).nr.1;have HN := hd_ (HC.out.tell (by omega) hk hm)
      have HLn := hd_ (show had.length ≤ 1000 by have := HL.out; omega)
      have j3 : (0 : Int) ≤ (j : Int) := by omega
      have j4 : (j : Int) < (had.length : Int) := by omega
      have j5 : IntKind.u64.wrap (had.length : Int) = (had.length : Int) := u64_small (by omega) (by have := HLn.out; omega)
      have j7 : (had.length : Int) ≠ 0 := by omega
      have j6 : ((had.length : Int) == 0) = false := by simpa using j7
      have j8 : ¬ had = [] := fun e => by rw [e] at jl; exact Nat.not_lt_zero _ jl
      have hj2 : IntKind.i64.wrap ((IntKind.u64.wrap l[i].view).tmod (had.length : Int)) = (j : Int) := by
       rw [IntKind.wrap_i64];unfold wrap64 at hj;exact hj
      have P0 := hd_ (show Below w3.heap.size w3 w3.drew from (Below.refl _ _).drew)
      clear j7 hj hno c0 c1 c2 c3 c4 hK hK1 hm hvh b1 b2 g0 g1 g2 g3 g4 HB1 ha6 hab;go_upto_region 10 with fail;refine wp_region_held_drew (S := fun w' => (w'.cell? ⟨GB, 0, none⟩ = some (.int .i64 ((k : Int) + 1)) ∧ w'.cell? ⟨GB, 1, none⟩ = some (.int .i64 1)) ∧ w'.cell? ⟨(ad.add (i * 5)).block, (ad.add (i * 5)).off + 4, none⟩ = some (.int .i64 l[i].view) ∧ (w'.cell? (ah.add (j * 5)) = some (.slice h0.1 h0.2.1 h0.2.2) ∧ w'.cell? ⟨(ah.add (j * 5)).block, (ah.add (j * 5)).off + 1, none⟩ = some (.slice h1.1 h1.2.1 h1.2.2) ∧ w'.cell? ⟨(ah.add (j * 5)).block, (ah.add (j * 5)).off + 2, none⟩ = some (.slice h2.1 h2.2.1 h2.2.2) ∧ w'.cell? ⟨(ah.add (j * 5)).block, (ah.add (j * 5)).off + 3, none⟩ = some (.slice h3.1 h3.2.1 h3.2.2) ∧ w'.cell? ⟨(ah.add (j * 5)).block, (ah.add (j * 5)).off + 4, none⟩ = some (.slice h4.1 h4.2.1 h4.2.2))) (by kernel_rfl) ?_ (fun hHeld => ?_)
      ·exact HS.out _ (fun j hj _ => P0.out.block j hj)
      refine ty_ 0 ?_;refine ty_ 1 ?_;refine ty_ 2 ?_;refine ty_ 4 ?_;refine ty_ 5 ?_;refine ty_ 6 ?_;refine ty_ 7 ?_;refine ty_ 8 ?_;refine ty_ 9 ?_;refine ty_ 10 ?_;refine ty_ 11 ?_;refine ty_ 12 ?_;refine ty_ 13 ?_;refine ty_ 14 ?_;refine ty_ 15 ?_;refine ty_ 16 ?_;refine ty_ 17 ?_;refine ty_ 18 ?_;(try simp only [Act.put, si0, si1, si2]);refine a1_ 3 fun Kq hKq => ?_;obtain ⟨n0_, n1_, n2_, n3_, n4_, hv, ⟨n0, n1, n2, n3, n4⟩, -⟩ := (G3.out.step P0.out).one.one.nb.at_ hk3;have NV := hd_ hv; clear hv
      go_simp;clear hHeld;skip
      refine hKq.out _ _ ?_ (fun hHeld => ?_)
      ·(try dsimp only); exact HS.out _ (fun j hj _ => P0.out.block j hj)
      clear hKq Kq;(try simp only [Act.put, si0, si1, si2]);refine a1_ 19 fun Kq hKq => ?_;go_simp;clear hHeld;(go_at_call 14; (with_reducible refine (tell_any _ _ (now k) had[j] ((k : Int) + 1) 1 _ NV.out.at_ (HH.out.below P0.out).at_ F1.out F2.out U1.out U2.out).mono ?_)); rintro e1 w7 ⟨X, rfl, hx, hb⟩; obtain ⟨t0, t1, t2, t3, t4, rfl, hr7⟩ := hx; have P1 := hd_ (ba_ P0.out hb); have HT : Hid (RVt w7 (t0, t1, t2, t3, t4) (tellP (now k) had[j] ((k : Int) + 1) 1)) := hd_ hr7; have G7 := hd_ (G3.out.step P1.out); clear hb hr7
      refine hKq.out _ _ ?_ (fun hHeld => ?_)
      ·(try dsimp only); exact HS.out _ (fun j hj _ => P1.out.block j hj)
      clear hKq Kq;(try simp only [Act.put, si0, si1, si2]);refine ty_ 20 ?_;(try simp only [Act.put, si0, si1, si2]);refine a1_ 21 fun Kq hKq => ?_;obtain ⟨x0_, x1_, x2_, x3_, x4_, -, ⟨x0, x1, x2, x3, x4⟩, y0, y1, y2, y3, y4⟩ := G7.out.one.one.nb.at_ hk3;go_simp;clear hHeld;skip
      refine hKq.out _ _ ?_ (fun hHeld => ?_)
      ·(try dsimp only); exact HS.out _ (fun j hj hne => (heap_setCells (w.heap.size + 1) (encV (t0, t1, t2, t3, t4)) (k * 5) w7 j hne).trans (P1.out.block j hj))
      clear hKq Kq;(try simp only [Act.put, si0, si1, si2]);refine wd_ ?_;go_wp2_with fail;go_meet;exact ⟨tellV (now k) had[j] k, rfl, HN, hd_ (by have h := G7.out.put hk3 (t := (t0, t1, t2, t3, t4)) HT.out; rw [tellP_is] at h; exact h)⟩
   case rest =>
    obtain ⟨T, rfl, HN, HG⟩ := hcut;rename World => w5;obtain ⟨hcv, n', chg', hA⟩ := HN.out;have eT : now1 now k T k = T := now1_at _ _ _
    have HA2 := hd_ hA;have FT : Hid (FitVIE 13 T) := hd_ (by have h := hA.fit hk; rw [eT] at h; exact h)
    have F0 := hd_ (FT.out.mono (show 13 ≤ 1000 by omega))
    obtain ⟨h0, h1, h2, h3, h4, hvh, ⟨n0, n1, n2, n3, n4⟩, -⟩ := HG.out.one.one.nb.at_ hk3;rw [now1_at] at hvh;have HH := hd_ hvh;clear hcv hA eT hvh c0 c1 c2 c3 c4 v1 v2 v3 HN;go_wp2_with fail;(with_reducible refine (refCopy_any _ T _ HH.out.at_ F0.out).mono ?_)
    rintro e1 w7 ⟨X, rfl, hx, hb⟩;obtain ⟨t0, t1, t2, t3, t4, rfl, hr7⟩ := hx;have q8 := ad_ w7 (.cells #[.slice t0.1 t0.2.1 t0.2.2, .slice t1.1 t1.2.1 t1.2.2, .slice t2.1 t2.2.1 t2.2.2, .slice t3.1 t3.2.1 t3.2.2, .slice t4.1 t4.2.1 t4.2.2] 27);have G8 := hd_ ((HG.out.one.step hb).step q8);have HT : Hid (RVt (w7.alloc (.cells #[.slice t0.1 t0.2.1 t0.2.2, .slice t1.1 t1.2.1 t1.2.2, .slice t2.1 t2.2.1 t2.2.2, .slice t3.1 t3.2.1 t3.2.2, .slice t4.1 t4.2.1 t4.2.2] 27)) (t0, t1, t2, t3, t4) T) := hd_ (RV.below hr7 q8)
    have HX := hd_ (heap_alloc_new w7 (.cells #[.slice t0.1 t0.2.1 t0.2.2, .slice t1.1 t1.2.1 t1.2.2, .slice t2.1 t2.2.1 t2.2.2, .slice t3.1 t3.2.1 t3.2.2, .slice t4.1 t4.2.1 t4.2.2] 27));have HL0 := hd_ (show had.length ≤ 1000 by have := HL.out; omega)
    clear hb hr7 q8 n0 n1 n2 n3 n4;obtain ⟨hs, ho, hno, hhl, hhr⟩ := G8.out.one.hb;have HO := hd_ ho;have HNO := hd_ hno;have HHL := hd_ hhl;have HHR := hd_ hhr;have HS1 := hd_ G8.out.one.s1;have HL1 := hd_ (show hs.length ≤ 1000 by have := HL0.out; omega)
    have HRG : Hid (∀ g, (Value.slice Ah had.length ch).ownBlock = some g → w.heap.size + 1 + 1 ≤ g) := hd_ fun g e => (World.ownsRow.lt ho g e).1
    clear ho hno hhl hhr
    go_wp2_with first
     | (at_builtin; refine wpList_push_view rfl (.tmp 123) (.tmp 128) rfl _ (w.heap.size + 1 + 1) _ hs (t0, t1, t2, t3, t4) w7.heap.size rfl rfl HO.out HNO.out HX.out HL1.out HS1.out ?_; intro v' w9 k1 k2 k3; have GP := hd_ (oneR_push G8.out HT.out HO.out HNO.out HHL.out HHR.out k1 k2 k3 HRG.out); clear k1 k2 k3; obtain ⟨Ag, cg, hsh⟩ := GP.out.one.hb.shape; subst hsh)
    have HLn : Hid ((had ++ [T]).length = i + 1 + 1) := hd_ (by simp [HL.out])
    clear HT HX HO HNO HHL HHR HS1 HL1 G8 HH HG HRG;go_roundw
    case rel => exact ⟨i + 1, n', chg', now1 now k T, had ++ [T], Ag, cg, by omega, by rw [List.length_append]; rfl, by go_num, by rw [Int.natCast_succ]; exact HA2, HLn, GP⟩
    case measure => simp [intOf]; omega
  ·have hdk : decide ((i : Int) < (l.length : Int)) = false := decide_eq_false (by omega)
   have hie : i = l.length := by omega
   obtain ⟨a0, b0, c0, d0, e0, a1, b1, c1, d1, e1, a2, b2, c2, d2, e2, HR_0, HR_1, HR_2, ce0, ce1, ce2, ce3, ce4, ce5, ce6, ce7, ce8, ce9, ce10, ce11, ce12, ce13, ce14⟩ := HW.out.one.nb.three;obtain ⟨ze0, ze1, ze2, ze3, ze4, ze5, ze6, ze7, ze8, ze9, ze10, ze11, ze12, ze13, ze14⟩ := tbx_cells HW.out.res;obtain ⟨zf0, zf1, zf2, zf3, zf4, zf5, zf6, zf7, zf8, zf9, zf10, zf11, zf12, zf13, zf14⟩ := tbx_free HW.out.res;dsimp only at ze0 ze1 ze2 ze3 ze4 ze5 ze6 ze7 ze8 ze9 ze10 ze11 ze12 ze13 ze14;go_wp2_with fail;obtain ⟨xe0, xe1, xe2, xe3, xe4, xe5, xe6, xe7, xe8, xe9, xe10, xe11, xe12, xe13, xe14⟩ := tbx_cells (tbx_set HW.out.res a0 b0 c0 d0 e0 a1 b1 c1 d1 e1 a2 b2 c2 d2 e2);have GR := grown_tset wr w.heap.size a0 b0 c0 d0 e0 a1 b1 c1 d1 e1 a2 b2 c2 d2 e2;have KR := kp_noInt GR fun g e => by obtain rfl := Option.some.inj e; exact tbx_noInt HW.out.res
   refine bodyPost_ret (v := .tuple #[.agg #[.slice a0.1 a0.2.1 a0.2.2, .slice b0.1 b0.2.1 b0.2.2, .slice c0.1 c0.2.1 c0.2.2, .slice d0.1 d0.2.1 d0.2.2, .slice e0.1 e0.2.1 e0.2.2, .slice a1.1 a1.2.1 a1.2.2, .slice b1.1 b1.2.1 b1.2.2, .slice c1.1 c1.2.1 c1.2.2, .slice d1.1 d1.2.1 d1.2.2, .slice e1.1 e1.2.1 e1.2.2, .slice a2.1 a2.2.1 a2.2.2, .slice b2.1 b2.2.1 b2.2.2, .slice c2.1 c2.2.1 c2.2.2, .slice d2.1 d2.2.1 d2.2.2, .slice e2.1 e2.2.1 e2.2.2], .slice Ah had.length ch, .bool true]) (by simp [results, Tryz.results38, go_sem, xe0, xe1, xe2, xe3, xe4, xe5, xe6, xe7, xe8, xe9, xe10, xe11, xe12, xe13, xe14]) rfl ?_
   refine ⟨a0, b0, c0, d0, e0, a1, b1, c1, d1, e1, a2, b2, c2, d2, e2, Ah, ch, n, chg, now, had, rfl, ?_⟩
   exact ⟨by rw [← hie]; exact HC.out, by rw [← hie]; exact HL.out, HR_0.kp KR, HR_1.kp KR, HR_2.kp KR, HW.out.one.hb.kept KR GR (fun g e => by obtain rfl := Option.some.inj e; omega), HW.out.one.below.trans (aj_ GR (Nat.le_refl _) HW.out.one.below.size)⟩
end
end Go.Proofs.YthkkipbmlafdiaaGreat
