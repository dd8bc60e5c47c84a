/-
  Contracts and plain facts.
-/
import Derived.Test.YthkkipbmlafdiaaGreatOz
import Derived.Deep.CutBlock
import Derived.Test.YthkkipbmlafdiaaGreatG44
import Derived.Test.YthkkipbmlafdiaaGreatG45
import Derived.Test.YthkkipbmlafdiaaGreatG46
set_option maxRecDepth 20000
namespace Go.Proofs.YthkkipbmlafdiaaGreat
section
open Go Go.RowKit
set_option maxHeartbeats 32000000 in
set_option maxRecDepth 100000 in
theorem grows_any (v0 : Value) (l : List ActT) (who which : Int) (g : Bool) (w : World) (h : ActsT w v0 l) (hw : IsU8 who) :
  Calls Tryz.prog 7 #[v0, .int .u8 who, .int .i64 which, .bool g] w fun e w' => e = .returned (.bool true) ∧ Below w.heap.size w w' := by
 have HA := hd_ h
 obtain ⟨A, c, rfl, -⟩ := h
 by_cases hlen : 40 < l.length
 ·have hd : decide ((40 : Int) < (l.length : Int)) = true := decide_eq_true (by omega)
  go_enter Tryz.func7, Tryz.ntmps7
  go_wp2_with fail
  (with_reducible refine (awakeT_any _).mono ?_)
  rintro e1 w1 ⟨rfl, hb⟩
  have B1 := hd_ hb
  clear hb
  go_wp2_with fail
  go_ret
  exact ⟨rfl, B1.out⟩
 ·have hd : decide ((40 : Int) < (l.length : Int)) = false := decide_eq_false (by omega)
  go_enter Tryz.func7, Tryz.ntmps7
  go_wp2_with fail
  (with_reducible refine (awakeT_any _).mono ?_)
  rintro e1 w1 ⟨rfl, hb⟩
  have B1 := hd_ hb
  have HA1 := hd_ (HA.out.kp (kp_below hb))
  clear hb hd HA
  go_wp2_with fail
  (with_reducible refine (run_any _ l _ HA1.out (by omega)).mono ?_)
  rintro e1 w2 ⟨a0, b0, c0, d0, e0, a1, b1, c1, d1, e1, a2, b2, c2, d2, e2, Ah, ch, n, chg, now, had, rfl, hR⟩
  have HR := hd_ hR
  have q3 := below_one w2 (.cells #[.slice a0.1 a0.2.1 a0.2.2, .slice b0.1 b0.2.1 b0.2.2, .slice c0.1 c0.2.1 c0.2.2, .slice d0.1 d0.2.1 d0.2.2, .slice e0.1 e0.2.1 e0.2.2, .slice a1.1 a1.2.1 a1.2.2, .slice b1.1 b1.2.1 b1.2.2, .slice c1.1 c1.2.1 c1.2.2, .slice d1.1 d1.2.1 d1.2.2, .slice e1.1 e1.2.1 e1.2.2, .slice a2.1 a2.2.1 a2.2.2, .slice b2.1 b2.2.1 b2.2.2, .slice c2.1 c2.2.1 c2.2.2, .slice d2.1 d2.2.1 d2.2.2, .slice e2.1 e2.2.1 e2.2.2] 56)
  have NW : Hid (NowN (w2.alloc (.cells #[.slice a0.1 a0.2.1 a0.2.2, .slice b0.1 b0.2.1 b0.2.2, .slice c0.1 c0.2.1 c0.2.2, .slice d0.1 d0.2.1 d0.2.2, .slice e0.1 e0.2.1 e0.2.2, .slice a1.1 a1.2.1 a1.2.2, .slice b1.1 b1.2.1 b1.2.2, .slice c1.1 c1.2.1 c1.2.2, .slice d1.1 d1.2.1 d1.2.2, .slice e1.1 e1.2.1 e1.2.2, .slice a2.1 a2.2.1 a2.2.2, .slice b2.1 b2.2.1 b2.2.2, .slice c2.1 c2.2.1 c2.2.2, .slice d2.1 d2.2.1 d2.2.2, .slice e2.1 e2.2.1 e2.2.2] 56)) w2.heap.size 3 now) := hd_ (tbx_now (tbx_new w2 a0 b0 c0 d0 e0 a1 b1 c1 d1 e1 a2 b2 c2 d2 e2) (hR.r0.below q3) (hR.r1.below q3) (hR.r2.below q3))
  have HD := hd_ (hR.hd.below q3)
  have BB := hd_ (below_after (ba_ B1.out hR.below) q3 (Nat.le_refl _))
  clear hR q3 B1 HA1
  go_upto_region 6 with fail
  obtain ⟨GN, hGN⟩ : ∃ g, g = w2.heap.size := ⟨_, rfl⟩
  rw [← hGN] at NW ⊢
  generalize w2.alloc (.cells #[.slice a0.1 a0.2.1 a0.2.2, .slice b0.1 b0.2.1 b0.2.2, .slice c0.1 c0.2.1 c0.2.2, .slice d0.1 d0.2.1 d0.2.2, .slice e0.1 e0.2.1 e0.2.2, .slice a1.1 a1.2.1 a1.2.2, .slice b1.1 b1.2.1 b1.2.2, .slice c1.1 c1.2.1 c1.2.2, .slice d1.1 d1.2.1 d1.2.2, .slice e1.1 e1.2.1 e1.2.2, .slice a2.1 a2.2.1 a2.2.2, .slice b2.1 b2.2.1 b2.2.2, .slice c2.1 c2.2.1 c2.2.2, .slice d2.1 d2.2.1 d2.2.2, .slice e2.1 e2.2.1 e2.2.2] 56) = w3 at *
  clear hGN
  obtain ⟨k, hk1, hk2, hk3'⟩ := rem_u8 who 3 hw (by omega)
  have hk3 : k < 3 := by omega
  have hk : k < 4 := by omega
  have k3 : (0 : Int) ≤ (k : Int) := by omega
  have k4 : (k : Int) < 3 := by omega
  have w1_ : wrap64 (k : Int) = (k : Int) := wrap_small (by omega) (by omega)
  have w2_ : wrap64 ((k : Int) + 1) = (k : Int) + 1 := wrap_small (by omega) (by omega)
  have HYK : Hid (IntKind.i64.wrap (IntKind.i64.wrap ((k : Nat) : Int) + 1) = (k : Int) + 1) := hd_ (by rw [i64_small (n := (k : Int)) (by omega) (by omega), i64_small (by omega) (by omega)])
  clear hk3'
  obtain ⟨a, b, x, d, e, hv, ⟨n0, n1, n2, n3, n4⟩, -⟩ := NW.out.at_ hk3
  have q4 := below_one w3 (.cells #[.slice a.1 a.2.1 a.2.2, .slice b.1 b.2.1 b.2.2, .slice x.1 x.2.1 x.2.2, .slice d.1 d.2.1 d.2.2, .slice e.1 e.2.1 e.2.2] 27)
  have BV := hd_ (vbox_new w3 a b x d e)
  have RV_ : Hid (RV (w3.alloc (.cells #[.slice a.1 a.2.1 a.2.2, .slice b.1 b.2.1 b.2.2, .slice x.1 x.2.1 x.2.2, .slice d.1 d.2.1 d.2.2, .slice e.1 e.2.1 e.2.2] 27)) a b x d e (now k)) := hd_ (hv.below q4)
  have HD := hd_ (HD.out.below q4)
  have BB := hd_ (ba_ BB.out q4)
  clear hv q4 NW
  go_upto_region 7 with fail
  obtain ⟨GV, hGV⟩ : ∃ g, g = w3.heap.size := ⟨_, rfl⟩
  rw [← hGV] at BV ⊢
  generalize w3.alloc (.cells #[.slice a.1 a.2.1 a.2.2, .slice b.1 b.2.1 b.2.2, .slice x.1 x.2.1 x.2.2, .slice d.1 d.2.1 d.2.2, .slice e.1 e.2.1 e.2.2] 27) = w4 at *
  clear hGV n0 n1 n2 n3 n4
  have HL := hd_ HR.out.len
  obtain ⟨j, jl, hj⟩ := num_cut which had.length (by have := HL.out; omega) (by have := HL.out; omega)
  obtain ⟨ah, hae, hab, h0, h1, h2, h3, h4, hvh, g0, g1, g2, g3, g4⟩ := HD.out.at_ jl
  obtain rfl := hae
  have hm := List.getElem_mem jl
  have HLn := hd_ (show had.length ≤ 1000 by have := HL.out; omega)
  have GV_ : Hid (GoodT 1000 (now k)) := hd_ ⟨HR.out.acts.ok hk, (HR.out.acts.few.1 k hk).mono (by omega)⟩
  have GO_ : Hid (GoodT 1000 had[j]) := hd_ ⟨HR.out.acts.okH hm, (HR.out.acts.few.2 _ hm).mono (by omega)⟩
  have j3 : (0 : Int) ≤ (j : Int) := by omega
  have j4 : (j : Int) < (had.length : Int) := by omega
  have j5 : IntKind.u64.wrap (had.length : Int) = (had.length : Int) := u64_small (by omega) (by have := HLn.out; omega)
  have j7 : (had.length : Int) ≠ 0 := by omega
  have j6 : ((had.length : Int) == 0) = false := by simpa using j7
  have j8 : ¬ had = [] := fun e => by rw [e] at jl; exact Nat.not_lt_zero _ jl
  have hj2 : IntKind.i64.wrap ((IntKind.u64.wrap which).tmod (had.length : Int)) = (j : Int) := by
   rw [IntKind.wrap_i64]
   unfold wrap64 at hj
   exact hj
  have q5 := below_one w4 (.cells #[.slice h0.1 h0.2.1 h0.2.2, .slice h1.1 h1.2.1 h1.2.2, .slice h2.1 h2.2.1 h2.2.2, .slice h3.1 h3.2.1 h3.2.2, .slice h4.1 h4.2.1 h4.2.2] 27)
  have BO := hd_ (vbox_new w4 h0 h1 h2 h3 h4)
  have BV := hd_ (vbox_below BV.out q5)
  have RV_ := hd_ (RV_.out.below q5)
  have RO_ : Hid (RV (w4.alloc (.cells #[.slice h0.1 h0.2.1 h0.2.2, .slice h1.1 h1.2.1 h1.2.2, .slice h2.1 h2.2.1 h2.2.2, .slice h3.1 h3.2.1 h3.2.2, .slice h4.1 h4.2.1 h4.2.2] 27)) h0 h1 h2 h3 h4 had[j]) := hd_ (hvh.below q5)
  have BB := hd_ (ba_ BB.out q5)
  clear j7 hm hvh q5 HD HR HL hab
  go_upto_region 8 with fail
  clear g0 g1 g2 g3 g4 hj hj2 j5 j6 j8
  obtain ⟨GO, hGO⟩ : ∃ g, g = w4.heap.size := ⟨_, rfl⟩
  rw [← hGO] at BO ⊢
  generalize w4.alloc (.cells #[.slice h0.1 h0.2.1 h0.2.2, .slice h1.1 h1.2.1 h1.2.2, .slice h2.1 h2.2.1 h2.2.2, .slice h3.1 h3.2.1 h3.2.2, .slice h4.1 h4.2.1 h4.2.2] 27) = w5 at *
  clear hGO
  obtain ⟨y0, y1, y2, y3, y4⟩ := vbox_cells BO.out
  go_wp2_with fail
  (with_reducible refine (part_any _ had[j] _ RO_.out.at_ (GO_.out.fit (by decide))).mono ?_)
  rintro e1 w6 ⟨X, rfl, hx, hb⟩
  obtain ⟨pa, pb, pc, pd, pe, rfl, hp⟩ := hx
  have HP := hd_ hp
  have BV := hd_ (vbox_below BV.out hb)
  have BO := hd_ (vbox_below BO.out hb)
  have RV_ := hd_ (RV_.out.below hb)
  have RO_ := hd_ (RO_.out.below hb)
  have BB := hd_ (ba_ BB.out hb)
  clear hp hb y0 y1 y2 y3 y4
  cases g
  ·have GT_ : Hid (GoodT 1000 (recvV 3 (now k) had[j] k)) := hd_ (GoodT.recv hk (by omega) GV_.out GO_.out 3)
   have HCV : Hid (covB (recvV 3 (now k) had[j] k) (now k) = true) := hd_ (cov_recv k GV_.out GO_.out 3)
   have HCR : Hid (coreB (recvV 3 (now k) had[j] k) (now k) = true) := hd_ (same_core (st_same _ _ _))
   have HHAS : Hid (Clocks.cmp (now k).c had[j].c = 1 → hasB ((k : Int) + 1, 1) (recvV 3 (now k) had[j] k).s = true) := hd_ fun e => by
    show hasB _ (stV (now k) had[j] k).s = true
    unfold stV
    rw [if_pos e]
    exact has_put _
   have HSM : Hid (¬ Clocks.cmp (now k).c had[j].c = 1 → sameV (recvV 3 (now k) had[j] k) (now k) = true) := hd_ fun e => by
    show sameV (stV (now k) had[j] k) (now k) = true
    rw [st_other e]
    exact sameV_self _
   have q7 := below_one w6 (.cells #[.int .u8 3, .int .i64 0, .int .i64 0, .int .i64 0, .int .i64 0, .int .i64 0, .int .i64 0, .int .i64 0, .int .i64 0, .slice pa.1 pa.2.1 pa.2.2, .slice pb.1 pb.2.1 pb.2.2, .slice pc.1 pc.2.1 pc.2.2, .slice pd.1 pd.2.1 pd.2.2, .slice pe.1 pe.2.1 pe.2.2] 48)
   have BF := hd_ (fbx_new w6 3 0 0 0 0 0 0 0 0 pa pb pc pd pe)
   have BV := hd_ (vbox_below BV.out q7)
   have BO := hd_ (vbox_below BO.out q7)
   have RV_ := hd_ (RV_.out.below q7)
   have RO_ := hd_ (RO_.out.below q7)
   have RF : Hid (RV (w6.alloc (.cells #[.int .u8 3, .int .i64 0, .int .i64 0, .int .i64 0, .int .i64 0, .int .i64 0, .int .i64 0, .int .i64 0, .int .i64 0, .slice pa.1 pa.2.1 pa.2.2, .slice pb.1 pb.2.1 pb.2.2, .slice pc.1 pc.2.1 pc.2.2, .slice pd.1 pd.2.1 pd.2.2, .slice pe.1 pe.2.1 pe.2.2] 48)) pa pb pc pd pe (fvw 3 had[j])) := hd_ (HP.out.below q7)
   have BB := hd_ (ba_ BB.out q7)
   clear q7 HP
   go_upto_region 11 with fail
   obtain ⟨GF, hGF⟩ : ∃ g, g = w6.heap.size := ⟨_, rfl⟩
   rw [← hGF] at BF ⊢
   generalize w6.alloc (.cells #[.int .u8 3, .int .i64 0, .int .i64 0, .int .i64 0, .int .i64 0, .int .i64 0, .int .i64 0, .int .i64 0, .int .i64 0, .slice pa.1 pa.2.1 pa.2.2, .slice pb.1 pb.2.1 pb.2.2, .slice pc.1 pc.2.1 pc.2.2, .slice pd.1 pd.2.1 pd.2.2, .slice pe.1 pe.2.1 pe.2.2] 48) = w8 at *
   clear hGF
   have HS : Hid (∀ W, Below w8.heap.size w8 W → ((W.cell? ⟨GV, 0, none⟩ = some (.slice a.1 a.2.1 a.2.2) ∧ W.cell? ⟨GV, 1, none⟩ = some (.slice b.1 b.2.1 b.2.2) ∧ W.cell? ⟨GV, 2, none⟩ = some (.slice x.1 x.2.1 x.2.2) ∧ W.cell? ⟨GV, 3, none⟩ = some (.slice d.1 d.2.1 d.2.2) ∧ W.cell? ⟨GV, 4, none⟩ = some (.slice e.1 e.2.1 e.2.2)) ∧ (W.cell? ⟨GF, 0, none⟩ = some (.int .u8 3) ∧ W.cell? ⟨GF, 1, none⟩ = some (.int .i64 0) ∧ W.cell? ⟨GF, 2, none⟩ = some (.int .i64 0) ∧ W.cell? ⟨GF, 3, none⟩ = some (.int .i64 0) ∧ W.cell? ⟨GF, 4, none⟩ = some (.int .i64 0) ∧ W.cell? ⟨GF, 5, none⟩ = some (.int .i64 0) ∧ W.cell? ⟨GF, 6, none⟩ = some (.int .i64 0) ∧ W.cell? ⟨GF, 7, none⟩ = some (.int .i64 0) ∧ W.cell? ⟨GF, 8, none⟩ = some (.int .i64 0) ∧ W.cell? ⟨GF, 9, none⟩ = some (.slice pa.1 pa.2.1 pa.2.2) ∧ W.cell? ⟨GF, 10, none⟩ = some (.slice pb.1 pb.2.1 pb.2.2) ∧ W.cell? ⟨GF, 11, none⟩ = some (.slice pc.1 pc.2.1 pc.2.2) ∧ W.cell? ⟨GF, 12, none⟩ = some (.slice pd.1 pd.2.1 pd.2.2) ∧ W.cell? ⟨GF, 13, none⟩ = some (.slice pe.1 pe.2.1 pe.2.2)))) := hd_ fun W hb => by
    have key : ∀ (q : Addr) (u : Value), w8.cell? q = some u → W.cell? q = some u := fun q u hu => (hb.cell (World.block_lt_of_cell? w8 _ hu)).trans hu
    obtain ⟨y0, y1, y2, y3, y4⟩ := vbox_cells BV.out
    obtain ⟨r0, r1, r2, r3, r4, r5, r6, r7, r8, r9, r10, r11, r12, r13⟩ := fbx_cells BF.out
    exact ⟨⟨key _ _ y0, key _ _ y1, key _ _ y2, key _ _ y3, key _ _ y4⟩, key _ _ r0, key _ _ r1, key _ _ r2, key _ _ r3, key _ _ r4, key _ _ r5, key _ _ r6, key _ _ r7, key _ _ r8, key _ _ r9, key _ _ r10, key _ _ r11, key _ _ r12, key _ _ r13⟩
   have Pz0 := hd_ (show Below w8.heap.size w8 w8.drew from (Below.refl _ _).drew)
   go_cut [15, 16, 17] (fun s15 s16 s17 wx => ∃ g, ∃ A : Int, s15 = .pointer (some ⟨g, 0, none⟩) ∧ s16 = .int .u8 A ∧ (A = 0 ∨ A = 3 ∨ A = 4) ∧ s17 = .int .i64 0 ∧ Hid (HoldsV wx g (recvV 3 (now k) had[j] k)) ∧ Hid (Below w8.heap.size w8 wx))
   case first =>
    refine wp_region_held_drew (S := (fun W => (W.cell? ⟨GV, 0, none⟩ = some (.slice a.1 a.2.1 a.2.2) ∧ W.cell? ⟨GV, 1, none⟩ = some (.slice b.1 b.2.1 b.2.2) ∧ W.cell? ⟨GV, 2, none⟩ = some (.slice x.1 x.2.1 x.2.2) ∧ W.cell? ⟨GV, 3, none⟩ = some (.slice d.1 d.2.1 d.2.2) ∧ W.cell? ⟨GV, 4, none⟩ = some (.slice e.1 e.2.1 e.2.2)) ∧ (W.cell? ⟨GF, 0, none⟩ = some (.int .u8 3) ∧ W.cell? ⟨GF, 1, none⟩ = some (.int .i64 0) ∧ W.cell? ⟨GF, 2, none⟩ = some (.int .i64 0) ∧ W.cell? ⟨GF, 3, none⟩ = some (.int .i64 0) ∧ W.cell? ⟨GF, 4, none⟩ = some (.int .i64 0) ∧ W.cell? ⟨GF, 5, none⟩ = some (.int .i64 0) ∧ W.cell? ⟨GF, 6, none⟩ = some (.int .i64 0) ∧ W.cell? ⟨GF, 7, none⟩ = some (.int .i64 0) ∧ W.cell? ⟨GF, 8, none⟩ = some (.int .i64 0) ∧ W.cell? ⟨GF, 9, none⟩ = some (.slice pa.1 pa.2.1 pa.2.2) ∧ W.cell? ⟨GF, 10, none⟩ = some (.slice pb.1 pb.2.1 pb.2.2) ∧ W.cell? ⟨GF, 11, none⟩ = some (.slice pc.1 pc.2.1 pc.2.2) ∧ W.cell? ⟨GF, 12, none⟩ = some (.slice pd.1 pd.2.1 pd.2.2) ∧ W.cell? ⟨GF, 13, none⟩ = some (.slice pe.1 pe.2.1 pe.2.2)))) (by kernel_rfl) ?_ (fun hHeld => ?_)
    ·exact HS.out _ Pz0.out
    generalize World.drew w8 = z0 at *
    refine ty_ 0 ?_
    try simp only [Act.put, si0, si1, si2]
    refine ty_ 1 ?_
    try simp only [Act.put, si0, si1, si2]
    refine ty_ 2 ?_
    try simp only [Act.put, si0, si1, si2]
    refine ty_ 3 ?_
    try simp only [Act.put, si0, si1, si2]
    refine ty_ 4 ?_
    try simp only [Act.put, si0, si1, si2]
    refine ty_ 6 ?_
    try simp only [Act.put, si0, si1, si2]
    refine ar_ [5, 12] ?_
    refine ac_ (fun Kq hKq => ?_) (ac_ (fun Kq hKq => ?_) an_)
    ·go_simp
     clear hHeld
     rw [HYK.out]; go_at_call 39; (with_reducible refine (at39_any _ _).mono ?_); rintro e1 z1 ⟨rfl, hb⟩
     have Pz1 := hd_ (ba_ Pz0.out hb)
     clear hb
     refine hKq.out _ _ ?_ (fun hHeld => ?_)
     ·(try dsimp only); exact HS.out _ Pz1.out
     clear hKq Kq
     try simp only [Act.put, si0, si1, si2]
     refine ar_ [7, 12] ?_
     refine ac_ (fun Kq hKq => ?_) (ac_ (fun Kq hKq => ?_) an_)
     ·go_simp
      clear hHeld
      go_at_call 31; (with_reducible refine (toldG_any _ (now k) had[j] 3 k 0 0 0 0 0 0 0 0 pa pb pc pd pe _ (by decide) hk (RV.at_ (RV_.out.below Pz1.out)) (RF.out.below Pz1.out) GV_.out GO_.out).mono ?_); rintro e1 z2 ⟨na, nb, nc, nd, ne, rfl, hr, hb⟩
      have NR := hd_ hr
      clear hr
      have Pz2 := hd_ (ba_ Pz1.out hb)
      clear hb
      refine hKq.out _ _ ?_ (fun hHeld => ?_)
      ·(try dsimp only); exact HS.out _ Pz2.out
      clear hKq Kq
      try simp only [Act.put, si0, si1, si2]
      refine ty_ 8 ?_
      try simp only [Act.put, si0, si1, si2]
      refine ty_ 9 ?_
      try simp only [Act.put, si0, si1, si2]
      refine ty_ 10 ?_
      try simp only [Act.put, si0, si1, si2]
      refine ty_ 11 ?_
      try simp only [Act.put, si0, si1, si2]
      refine ar_ [12] ?_
      refine ac_ (fun Kq hKq => ?_) an_
      clear hHeld
      refine step_valloc (by rfl) (by rfl) _ ?_; intro gn z3 k1 hb k3_
      have LO_ := hd_ (Nat.le_trans Pz2.out.size k3_)
      have CB := hd_ k1
      clear k1 k3_
      have Pz3 := hd_ (ba_ Pz2.out hb)
      have NR := hd_ (NR.out.below hb)
      clear hb
      refine hKq.out _ _ ?_ (fun hHeld => ?_)
      ·(try dsimp only); exact HS.out _ Pz3.out
      clear hKq Kq
      try simp only [Act.put, si0, si1, si2]
      refine ar_ [13] ?_
      refine ac_ (fun Kq hKq => ?_) an_
      clear hHeld
      refine step_vstore (by rfl) (.tmp 15) (.tmp 64) (by rfl) _ gn na nb nc nd ne (recvV 3 (now k) had[j] k) (by rfl) (by rfl) CB.out NR.out ?_; intro z4 k1 k2
      have Pz4 := hd_ (Pz3.out.trans (below_grown k2 LO_.out Pz3.out.size))
      have NB := hd_ k1
      clear k1 k2
      refine hKq.out _ _ ?_ (fun hHeld => ?_)
      ·(try dsimp only); exact HS.out _ Pz4.out
      clear hKq Kq
      try simp only [Act.put]
      refine ty_ 14 ?_
      try simp only [Act.put, si0, si1, si2]
      refine ty_ 15 ?_
      try simp only [Act.put, si0, si1, si2]
      refine wd_ ?_
      go_wp2_with fail
      go_meet
      exact ⟨gn, _, rfl, rfl, ans_range _ _, rfl, NB, Pz4⟩
     ·clear hHeld
      refine step_valloc (by rfl) (by rfl) _ ?_; intro gn z2 k1 hb k3_
      have LO_ := hd_ (Nat.le_trans Pz1.out.size k3_)
      have CB := hd_ k1
      clear k1 k3_
      have Pz2 := hd_ (ba_ Pz1.out hb)
      clear hb
      refine hKq.out _ _ ?_ (fun hHeld => ?_)
      ·(try dsimp only); exact HS.out _ Pz2.out
      clear hKq Kq
      try simp only [Act.put, si0, si1, si2]
      refine ar_ [7] ?_
      refine ac_ (fun Kq hKq => ?_) an_
      go_simp
      clear hHeld
      go_at_call 31; (with_reducible refine (toldG_any _ (now k) had[j] 3 k 0 0 0 0 0 0 0 0 pa pb pc pd pe _ (by decide) hk (RV.at_ (RV_.out.below Pz2.out)) (RF.out.below Pz2.out) GV_.out GO_.out).mono ?_); rintro e1 z3 ⟨na, nb, nc, nd, ne, rfl, hr, hb⟩
      have NR := hd_ hr
      clear hr
      have Pz3 := hd_ (ba_ Pz2.out hb)
      have CB := hd_ (vbox_below CB.out hb)
      clear hb
      refine hKq.out _ _ ?_ (fun hHeld => ?_)
      ·(try dsimp only); exact HS.out _ Pz3.out
      clear hKq Kq
      try simp only [Act.put, si0, si1, si2]
      refine ty_ 8 ?_
      try simp only [Act.put, si0, si1, si2]
      refine ty_ 9 ?_
      try simp only [Act.put, si0, si1, si2]
      refine ty_ 10 ?_
      try simp only [Act.put, si0, si1, si2]
      refine ty_ 11 ?_
      try simp only [Act.put, si0, si1, si2]
      refine ar_ [13] ?_
      refine ac_ (fun Kq hKq => ?_) an_
      clear hHeld
      refine step_vstore (by rfl) (.tmp 15) (.tmp 64) (by rfl) _ gn na nb nc nd ne (recvV 3 (now k) had[j] k) (by rfl) (by rfl) CB.out NR.out ?_; intro z4 k1 k2
      have Pz4 := hd_ (Pz3.out.trans (below_grown k2 LO_.out Pz3.out.size))
      have NB := hd_ k1
      clear k1 k2
      refine hKq.out _ _ ?_ (fun hHeld => ?_)
      ·(try dsimp only); exact HS.out _ Pz4.out
      clear hKq Kq
      try simp only [Act.put]
      refine ty_ 14 ?_
      try simp only [Act.put, si0, si1, si2]
      refine ty_ 15 ?_
      try simp only [Act.put, si0, si1, si2]
      refine wd_ ?_
      go_wp2_with fail
      go_meet
      exact ⟨gn, _, rfl, rfl, ans_range _ _, rfl, NB, Pz4⟩
    ·clear hHeld
     refine step_valloc (by rfl) (by rfl) _ ?_; intro gn z1 k1 hb k3_
     have LO_ := hd_ (Nat.le_trans Pz0.out.size k3_)
     have CB := hd_ k1
     clear k1 k3_
     have Pz1 := hd_ (ba_ Pz0.out hb)
     clear hb
     refine hKq.out _ _ ?_ (fun hHeld => ?_)
     ·(try dsimp only); exact HS.out _ Pz1.out
     clear hKq Kq
     try simp only [Act.put, si0, si1, si2]
     refine ar_ [5] ?_
     refine ac_ (fun Kq hKq => ?_) an_
     go_simp
     clear hHeld
     rw [HYK.out]; go_at_call 39; (with_reducible refine (at39_any _ _).mono ?_); rintro e1 z2 ⟨rfl, hb⟩
     have Pz2 := hd_ (ba_ Pz1.out hb)
     have CB := hd_ (vbox_below CB.out hb)
     clear hb
     refine hKq.out _ _ ?_ (fun hHeld => ?_)
     ·(try dsimp only); exact HS.out _ Pz2.out
     clear hKq Kq
     try simp only [Act.put, si0, si1, si2]
     refine ar_ [7] ?_
     refine ac_ (fun Kq hKq => ?_) an_
     go_simp
     clear hHeld
     go_at_call 31; (with_reducible refine (toldG_any _ (now k) had[j] 3 k 0 0 0 0 0 0 0 0 pa pb pc pd pe _ (by decide) hk (RV.at_ (RV_.out.below Pz2.out)) (RF.out.below Pz2.out) GV_.out GO_.out).mono ?_); rintro e1 z3 ⟨na, nb, nc, nd, ne, rfl, hr, hb⟩
     have NR := hd_ hr
     clear hr
     have Pz3 := hd_ (ba_ Pz2.out hb)
     have CB := hd_ (vbox_below CB.out hb)
     clear hb
     refine hKq.out _ _ ?_ (fun hHeld => ?_)
     ·(try dsimp only); exact HS.out _ Pz3.out
     clear hKq Kq
     try simp only [Act.put, si0, si1, si2]
     refine ty_ 8 ?_
     try simp only [Act.put, si0, si1, si2]
     refine ty_ 9 ?_
     try simp only [Act.put, si0, si1, si2]
     refine ty_ 10 ?_
     try simp only [Act.put, si0, si1, si2]
     refine ty_ 11 ?_
     try simp only [Act.put, si0, si1, si2]
     refine ar_ [13] ?_
     refine ac_ (fun Kq hKq => ?_) an_
     clear hHeld
     refine step_vstore (by rfl) (.tmp 15) (.tmp 64) (by rfl) _ gn na nb nc nd ne (recvV 3 (now k) had[j] k) (by rfl) (by rfl) CB.out NR.out ?_; intro z4 k1 k2
     have Pz4 := hd_ (Pz3.out.trans (below_grown k2 LO_.out Pz3.out.size))
     have NB := hd_ k1
     clear k1 k2
     refine hKq.out _ _ ?_ (fun hHeld => ?_)
     ·(try dsimp only); exact HS.out _ Pz4.out
     clear hKq Kq
     try simp only [Act.put]
     refine ty_ 14 ?_
     try simp only [Act.put, si0, si1, si2]
     refine ty_ 15 ?_
     try simp only [Act.put, si0, si1, si2]
     refine wd_ ?_
     go_wp2_with fail
     go_meet
     exact ⟨gn, _, rfl, rfl, ans_range _ _, rfl, NB, Pz4⟩
   case rest =>
    obtain ⟨GT, A, rfl, rfl, hA, rfl, HT, P9⟩ := hcut
    rename World => w9
    obtain ⟨t0, t1, t2, t3, t4, hbt, hrt⟩ := HT.out
    have BT := hd_ hbt
    have RT := hd_ hrt
    have BV9 := hd_ (vbox_below BV.out P9.out)
    have BO9 := hd_ (vbox_below BO.out P9.out)
    have RV9 := hd_ (RV_.out.below P9.out)
    have RO9 := hd_ (RO_.out.below P9.out)
    have BB9 := hd_ (ba_ BB.out P9.out)
    clear hbt hrt HT HS Pz0 P9 BV BO RV_ RO_ RF BF BB
    go_upto_region 12 with fail
    go_cut [86] (fun sT wx => sT = .bool false ∧ Hid (Below w9.heap.size w9 wx))
    case first =>
     obtain ⟨y0, y1, y2, y3, y4⟩ := vbox_cells BT.out
     obtain ⟨r0, r1, r2, r3, r4⟩ := vbox_cells BV9.out
     rcases hA with rfl | rfl | rfl
     all_goals
      go_wp2_with fail
      (with_reducible refine (covers_any _ _ (recvV 3 (now k) had[j] k) (now k) _ RT.out.at_ RV9.out.at_ (GT_.out.fit (by decide)) (GV_.out.fit (by decide)) GT_.out.up GV_.out.up).mono ?_)
      rw [HCV.out]
      rintro e1 wa ⟨rfl, hb⟩
      have PA := hd_ hb
      clear hb
      go_wp2_with fail
      go_meet
      exact ⟨rfl, PA⟩
    case rest =>
     obtain ⟨rfl, PA⟩ := hcut
     rename World => wa
     have BT := hd_ (vbox_below BT.out PA.out)
     have BV := hd_ (vbox_below BV9.out PA.out)
     have BO := hd_ (vbox_below BO9.out PA.out)
     have RT := hd_ (RT.out.below PA.out)
     have RV_ := hd_ (RV9.out.below PA.out)
     have RO_ := hd_ (RO9.out.below PA.out)
     have BB := hd_ (ba_ BB9.out PA.out)
     clear PA BV9 BO9 RV9 RO9 BB9
     obtain ⟨y0, y1, y2, y3, y4⟩ := vbox_cells BV.out
     obtain ⟨r0, r1, r2, r3, r4⟩ := vbox_cells BO.out
     go_wp2_with fail
     (with_reducible refine (compare_clocks _ _ (now k).c had[j].c _ RV_.out.c RO_.out.c (Nat.le_trans (GV_.out.fit (n := 13) (by decide)).c (by decide)) (Nat.le_trans (GO_.out.fit (n := 13) (by decide)).c (by decide))).mono ?_)
     rintro e1 wb ⟨rfl, hb⟩
     have BT := hd_ (vbox_below BT.out hb)
     have BV := hd_ (vbox_below BV.out hb)
     have RT := hd_ (RT.out.below hb)
     have RV_ := hd_ (RV_.out.below hb)
     have BB := hd_ (ba_ BB.out hb)
     clear hb y0 y1 y2 y3 y4 r0 r1 r2 r3 r4 BO RO_
     generalize hm' : Clocks.cmp (now k).c had[j].c = m at *
     by_cases hm : m = 1
     ·have d1 : ((m : Int) == 1) = true := by subst hm; rfl
      go_upto_region 17 with fail
      have HS : Hid (∀ W, Below wb.heap.size wb W → ((W.cell? ⟨GT, 0, none⟩ = some (.slice t0.1 t0.2.1 t0.2.2) ∧ W.cell? ⟨GT, 1, none⟩ = some (.slice t1.1 t1.2.1 t1.2.2) ∧ W.cell? ⟨GT, 2, none⟩ = some (.slice t2.1 t2.2.1 t2.2.2) ∧ W.cell? ⟨GT, 3, none⟩ = some (.slice t3.1 t3.2.1 t3.2.2) ∧ W.cell? ⟨GT, 4, none⟩ = some (.slice t4.1 t4.2.1 t4.2.2)) ∧ (W.cell? ⟨GV, 0, none⟩ = some (.slice a.1 a.2.1 a.2.2) ∧ W.cell? ⟨GV, 1, none⟩ = some (.slice b.1 b.2.1 b.2.2) ∧ W.cell? ⟨GV, 2, none⟩ = some (.slice x.1 x.2.1 x.2.2) ∧ W.cell? ⟨GV, 3, none⟩ = some (.slice d.1 d.2.1 d.2.2) ∧ W.cell? ⟨GV, 4, none⟩ = some (.slice e.1 e.2.1 e.2.2)))) := hd_ fun W hb => by
       have key : ∀ (q : Addr) (u : Value), wb.cell? q = some u → W.cell? q = some u := fun q u hu => (hb.cell (World.block_lt_of_cell? wb _ hu)).trans hu
       obtain ⟨y0, y1, y2, y3, y4⟩ := vbox_cells BT.out
       obtain ⟨r0, r1, r2, r3, r4⟩ := vbox_cells BV.out
       exact ⟨⟨key _ _ y0, key _ _ y1, key _ _ y2, key _ _ y3, key _ _ y4⟩, key _ _ r0, key _ _ r1, key _ _ r2, key _ _ r3, key _ _ r4⟩
      have Q0 := hd_ (show Below wb.heap.size wb wb.drew from (Below.refl _ _).drew)
      refine wp_region_held_drew (S := fun W => (W.cell? ⟨GT, 0, none⟩ = some (.slice t0.1 t0.2.1 t0.2.2) ∧ W.cell? ⟨GT, 1, none⟩ = some (.slice t1.1 t1.2.1 t1.2.2) ∧ W.cell? ⟨GT, 2, none⟩ = some (.slice t2.1 t2.2.1 t2.2.2) ∧ W.cell? ⟨GT, 3, none⟩ = some (.slice t3.1 t3.2.1 t3.2.2) ∧ W.cell? ⟨GT, 4, none⟩ = some (.slice t4.1 t4.2.1 t4.2.2)) ∧ (W.cell? ⟨GV, 0, none⟩ = some (.slice a.1 a.2.1 a.2.2) ∧ W.cell? ⟨GV, 1, none⟩ = some (.slice b.1 b.2.1 b.2.2) ∧ W.cell? ⟨GV, 2, none⟩ = some (.slice x.1 x.2.1 x.2.2) ∧ W.cell? ⟨GV, 3, none⟩ = some (.slice d.1 d.2.1 d.2.2) ∧ W.cell? ⟨GV, 4, none⟩ = some (.slice e.1 e.2.1 e.2.2))) (by kernel_rfl) ?_ (fun hHeld => ?_)
      ·exact HS.out _ Q0.out
      refine ty_ 0 ?_
      try simp only [Act.put, si0, si1, si2]
      refine ty_ 1 ?_
      try simp only [Act.put, si0, si1, si2]
      refine ar_ [2] ?_
      refine ac_ (fun Kq hKq => ?_) an_
      go_simp
      clear hHeld
      (go_at_call 25; (with_reducible refine (core_any _ _ (recvV 3 (now k) had[j] k) (now k) _ (RT.out.below Q0.out).at_ (RV_.out.below Q0.out).at_ (GT_.out.fit (by decide)) (GV_.out.fit (by decide))).mono ?_); rw [HCR.out]; rintro e1 c1 ⟨rfl, hb⟩; have Q1 := hd_ (ba_ Q0.out hb); clear hb)
      refine hKq.out _ _ ?_ (fun hHeld => ?_)
      ·(try dsimp only); exact HS.out _ Q1.out
      clear hKq Kq
      try simp only [Act.put, si0, si1, si2]
      refine ty_ 3 ?_
      try simp only [Act.put, si0, si1, si2]
      first | refine ty_ 4 ?_ | refine tn_ 4 ?_
      try simp only [Act.put, si0, si1, si2]
      first | refine ty_ 5 ?_ | refine tn_ 5 ?_
      try simp only [Act.put, si0, si1, si2]
      refine tn_ 6 ?_
      try simp only [Act.put, si0, si1, si2]
      refine tn_ 7 ?_
      try simp only [Act.put, si0, si1, si2]
      refine tn_ 8 ?_
      try simp only [Act.put, si0, si1, si2]
      first | refine ty_ 9 ?_ | refine tn_ 9 ?_
      try simp only [Act.put, si0, si1, si2]
      refine ty_ 10 ?_
      try simp only [Act.put, si0, si1, si2]
      refine ty_ 11 ?_
      try simp only [Act.put, si0, si1, si2]
      first | refine ty_ 12 ?_ | refine tn_ 12 ?_
      try simp only [Act.put, si0, si1, si2]
      first | refine ty_ 13 ?_ | refine tn_ 13 ?_
      try simp only [Act.put, si0, si1, si2]
      first | refine ty_ 14 ?_ | refine tn_ 14 ?_
      try simp only [Act.put, si0, si1, si2]
      first | refine ty_ 15 ?_ | refine tn_ 15 ?_
      try simp only [Act.put, si0, si1, si2]
      first | refine ty_ 16 ?_ | refine tn_ 16 ?_
      try simp only [Act.put, si0, si1, si2]
      first | refine ty_ 17 ?_ | refine tn_ 17 ?_
      try simp only [Act.put, si0, si1, si2]
      first | refine ty_ 18 ?_ | refine tn_ 18 ?_
      try simp only [Act.put, si0, si1, si2]
      first | refine ty_ 19 ?_ | refine tn_ 19 ?_
      try simp only [Act.put, si0, si1, si2]
      first | refine ty_ 20 ?_ | refine tn_ 20 ?_
      try simp only [Act.put, si0, si1, si2]
      refine ar_ [21] ?_
      refine ac_ (fun Kq hKq => ?_) an_
      go_simp
      clear hHeld
      (rw [HYK.out]; go_at_call 39; (with_reducible refine (at39_any _ _).mono ?_); rintro e1 c2 ⟨rfl, hb⟩; have Q2 := hd_ (ba_ Q1.out hb); clear hb)
      refine hKq.out _ _ ?_ (fun hHeld => ?_)
      ·(try dsimp only); exact HS.out _ Q2.out
      clear hKq Kq
      try simp only [Act.put, si0, si1, si2]
      refine ar_ [22] ?_
      refine ac_ (fun Kq hKq => ?_) an_
      go_simp
      clear hHeld
      (go_at_call 40; (with_reducible refine (has_any _ (recvV 3 (now k) had[j] k).s ((k : Int) + 1) 1 _ (RT.out.below Q2.out).s (Nat.le_trans (GT_.out.fit (n := 13) (by decide)).s (by decide))).mono ?_); rw [HHAS.out hm]; rintro e1 c3 ⟨rfl, hb⟩; have Q3 := hd_ (ba_ Q2.out hb); clear hb)
      refine hKq.out _ _ ?_ (fun hHeld => ?_)
      ·(try dsimp only); exact HS.out _ Q3.out
      clear hKq Kq
      try simp only [Act.put, si0, si1, si2]
      first | refine ty_ 23 ?_ | refine tn_ 23 ?_
      try simp only [Act.put, si0, si1, si2]
      refine ty_ 24 ?_
      try simp only [Act.put, si0, si1, si2]
      refine ty_ 25 ?_
      try simp only [Act.put, si0, si1, si2]
      refine wd_ ?_
      go_wp2_with fail
      go_ret
      exact ⟨rfl, ba_ BB.out Q3.out⟩
     ·have d1 : ((m : Int) == 1) = false := by simp; omega
      go_upto_region 17 with fail
      have HS : Hid (∀ W, Below wb.heap.size wb W → ((W.cell? ⟨GT, 0, none⟩ = some (.slice t0.1 t0.2.1 t0.2.2) ∧ W.cell? ⟨GT, 1, none⟩ = some (.slice t1.1 t1.2.1 t1.2.2) ∧ W.cell? ⟨GT, 2, none⟩ = some (.slice t2.1 t2.2.1 t2.2.2) ∧ W.cell? ⟨GT, 3, none⟩ = some (.slice t3.1 t3.2.1 t3.2.2) ∧ W.cell? ⟨GT, 4, none⟩ = some (.slice t4.1 t4.2.1 t4.2.2)) ∧ (W.cell? ⟨GV, 0, none⟩ = some (.slice a.1 a.2.1 a.2.2) ∧ W.cell? ⟨GV, 1, none⟩ = some (.slice b.1 b.2.1 b.2.2) ∧ W.cell? ⟨GV, 2, none⟩ = some (.slice x.1 x.2.1 x.2.2) ∧ W.cell? ⟨GV, 3, none⟩ = some (.slice d.1 d.2.1 d.2.2) ∧ W.cell? ⟨GV, 4, none⟩ = some (.slice e.1 e.2.1 e.2.2)))) := hd_ fun W hb => by
       have key : ∀ (q : Addr) (u : Value), wb.cell? q = some u → W.cell? q = some u := fun q u hu => (hb.cell (World.block_lt_of_cell? wb _ hu)).trans hu
       obtain ⟨y0, y1, y2, y3, y4⟩ := vbox_cells BT.out
       obtain ⟨r0, r1, r2, r3, r4⟩ := vbox_cells BV.out
       exact ⟨⟨key _ _ y0, key _ _ y1, key _ _ y2, key _ _ y3, key _ _ y4⟩, key _ _ r0, key _ _ r1, key _ _ r2, key _ _ r3, key _ _ r4⟩
      have Q0 := hd_ (show Below wb.heap.size wb wb.drew from (Below.refl _ _).drew)
      refine wp_region_held_drew (S := fun W => (W.cell? ⟨GT, 0, none⟩ = some (.slice t0.1 t0.2.1 t0.2.2) ∧ W.cell? ⟨GT, 1, none⟩ = some (.slice t1.1 t1.2.1 t1.2.2) ∧ W.cell? ⟨GT, 2, none⟩ = some (.slice t2.1 t2.2.1 t2.2.2) ∧ W.cell? ⟨GT, 3, none⟩ = some (.slice t3.1 t3.2.1 t3.2.2) ∧ W.cell? ⟨GT, 4, none⟩ = some (.slice t4.1 t4.2.1 t4.2.2)) ∧ (W.cell? ⟨GV, 0, none⟩ = some (.slice a.1 a.2.1 a.2.2) ∧ W.cell? ⟨GV, 1, none⟩ = some (.slice b.1 b.2.1 b.2.2) ∧ W.cell? ⟨GV, 2, none⟩ = some (.slice x.1 x.2.1 x.2.2) ∧ W.cell? ⟨GV, 3, none⟩ = some (.slice d.1 d.2.1 d.2.2) ∧ W.cell? ⟨GV, 4, none⟩ = some (.slice e.1 e.2.1 e.2.2))) (by kernel_rfl) ?_ (fun hHeld => ?_)
      ·exact HS.out _ Q0.out
      refine ty_ 0 ?_
      try simp only [Act.put, si0, si1, si2]
      refine ty_ 1 ?_
      try simp only [Act.put, si0, si1, si2]
      refine ar_ [2] ?_
      refine ac_ (fun Kq hKq => ?_) an_
      go_simp
      clear hHeld
      (go_at_call 25; (with_reducible refine (core_any _ _ (recvV 3 (now k) had[j] k) (now k) _ (RT.out.below Q0.out).at_ (RV_.out.below Q0.out).at_ (GT_.out.fit (by decide)) (GV_.out.fit (by decide))).mono ?_); rw [HCR.out]; rintro e1 c1 ⟨rfl, hb⟩; have Q1 := hd_ (ba_ Q0.out hb); clear hb)
      refine hKq.out _ _ ?_ (fun hHeld => ?_)
      ·(try dsimp only); exact HS.out _ Q1.out
      clear hKq Kq
      try simp only [Act.put, si0, si1, si2]
      refine ty_ 3 ?_
      try simp only [Act.put, si0, si1, si2]
      first | refine ty_ 4 ?_ | refine tn_ 4 ?_
      try simp only [Act.put, si0, si1, si2]
      first | refine ty_ 5 ?_ | refine tn_ 5 ?_
      try simp only [Act.put, si0, si1, si2]
      first | refine ty_ 6 ?_ | refine tn_ 6 ?_
      try simp only [Act.put, si0, si1, si2]
      first | refine ty_ 7 ?_ | refine tn_ 7 ?_
      try simp only [Act.put, si0, si1, si2]
      refine ar_ [8] ?_
      refine ac_ (fun Kq hKq => ?_) an_
      go_simp
      clear hHeld
      (go_at_call 24; (with_reducible refine (sameV_any _ _ (recvV 3 (now k) had[j] k) (now k) _ (RT.out.below Q1.out).at_ (RV_.out.below Q1.out).at_ (GT_.out.fit (by decide)) (GV_.out.fit (by decide))).mono ?_); rw [HSM.out hm]; rintro e1 c2 ⟨rfl, hb⟩; have Q2 := hd_ (ba_ Q1.out hb); clear hb)
      refine hKq.out _ _ ?_ (fun hHeld => ?_)
      ·(try dsimp only); exact HS.out _ Q2.out
      clear hKq Kq
      try simp only [Act.put, si0, si1, si2]
      first | refine ty_ 9 ?_ | refine tn_ 9 ?_
      try simp only [Act.put, si0, si1, si2]
      refine ty_ 10 ?_
      try simp only [Act.put, si0, si1, si2]
      refine ty_ 11 ?_
      try simp only [Act.put, si0, si1, si2]
      first | refine ty_ 12 ?_ | refine tn_ 12 ?_
      try simp only [Act.put, si0, si1, si2]
      first | refine ty_ 13 ?_ | refine tn_ 13 ?_
      try simp only [Act.put, si0, si1, si2]
      first | refine ty_ 14 ?_ | refine tn_ 14 ?_
      try simp only [Act.put, si0, si1, si2]
      refine tn_ 15 ?_
      try simp only [Act.put, si0, si1, si2]
      refine tn_ 16 ?_
      try simp only [Act.put, si0, si1, si2]
      refine tn_ 17 ?_
      try simp only [Act.put, si0, si1, si2]
      refine tn_ 18 ?_
      try simp only [Act.put, si0, si1, si2]
      refine tn_ 19 ?_
      try simp only [Act.put, si0, si1, si2]
      refine tn_ 20 ?_
      try simp only [Act.put, si0, si1, si2]
      refine tn_ 21 ?_
      try simp only [Act.put, si0, si1, si2]
      refine tn_ 22 ?_
      try simp only [Act.put, si0, si1, si2]
      first | refine ty_ 23 ?_ | refine tn_ 23 ?_
      try simp only [Act.put, si0, si1, si2]
      refine ty_ 24 ?_
      try simp only [Act.put, si0, si1, si2]
      refine ty_ 25 ?_
      try simp only [Act.put, si0, si1, si2]
      refine wd_ ?_
      go_wp2_with fail
      go_ret
      exact ⟨rfl, ba_ BB.out Q2.out⟩
  ·have GT_ : Hid (GoodT 1000 (recvV 4 (now k) had[j] k)) := hd_ (GoodT.recv hk (by omega) GV_.out GO_.out 4)
   have HCV : Hid (covB (recvV 4 (now k) had[j] k) (now k) = true) := hd_ (cov_recv k GV_.out GO_.out 4)
   have HCO : Hid (covB (recvV 4 (now k) had[j] k) had[j] = true) := hd_ (cov_told k GV_.out GO_.out)
   have HHAS : Hid (hasB ((k : Int) + 1, 1) (recvV 4 (now k) had[j] k).s = true) := hd_ (has_put _)
   have RO6 := RO_
   have q7 := below_one w6 (.cells #[.int .u8 4, .int .i64 0, .int .i64 0, .int .i64 0, .int .i64 0, .int .i64 0, .int .i64 0, .int .i64 0, .int .i64 0, .slice h0.1 h0.2.1 h0.2.2, .slice h1.1 h1.2.1 h1.2.2, .slice h2.1 h2.2.1 h2.2.2, .slice h3.1 h3.2.1 h3.2.2, .slice h4.1 h4.2.1 h4.2.2] 48)
   have BF := hd_ (fbx_new w6 4 0 0 0 0 0 0 0 0 h0 h1 h2 h3 h4)
   have BV := hd_ (vbox_below BV.out q7)
   have BOX := BO
   have BO := hd_ (vbox_below BO.out q7)
   have RV_ := hd_ (RV_.out.below q7)
   have RO_ := hd_ (RO_.out.below q7)
   have RF : Hid (RV (w6.alloc (.cells #[.int .u8 4, .int .i64 0, .int .i64 0, .int .i64 0, .int .i64 0, .int .i64 0, .int .i64 0, .int .i64 0, .int .i64 0, .slice h0.1 h0.2.1 h0.2.2, .slice h1.1 h1.2.1 h1.2.2, .slice h2.1 h2.2.1 h2.2.2, .slice h3.1 h3.2.1 h3.2.2, .slice h4.1 h4.2.1 h4.2.2] 48)) h0 h1 h2 h3 h4 (fvw 4 had[j])) := hd_ ((show RV w6 h0 h1 h2 h3 h4 (fvw 4 had[j]) from RO6.out).below q7)
   have BB := hd_ (ba_ BB.out q7)
   have q8 := below_one w6 (.cells #[.int .u8 3, .int .i64 0, .int .i64 0, .int .i64 0, .int .i64 0, .int .i64 0, .int .i64 0, .int .i64 0, .int .i64 0, .slice pa.1 pa.2.1 pa.2.2, .slice pb.1 pb.2.1 pb.2.2, .slice pc.1 pc.2.1 pc.2.2, .slice pd.1 pd.2.1 pd.2.2, .slice pe.1 pe.2.1 pe.2.2] 48)
   obtain ⟨y0, y1, y2, y3, y4⟩ := vbox_cells (vbox_below BOX.out q8)
   obtain ⟨r0, r1, r2, r3, r4, r5, r6, r7, r8, r9, r10, r11, r12, r13⟩ := fbx_cells (fbx_new w6 3 0 0 0 0 0 0 0 0 pa pb pc pd pe)
   obtain ⟨f0, f1, f2, f3, f4, f5, f6, f7, f8, f9, f10, f11, f12, f13⟩ := fbx_free (fbx_new w6 3 0 0 0 0 0 0 0 0 pa pb pc pd pe)
   clear q7 q8 HP BOX
   go_upto_region 11 with fail
   clear y0 y1 y2 y3 y4 r0 r1 r2 r3 r4 r5 r6 r7 r8 r9 r10 r11 r12 r13 f0 f1 f2 f3 f4 f5 f6 f7 f8 f9 f10 f11 f12 f13
   obtain ⟨GF, hGF⟩ : ∃ g, g = w6.heap.size := ⟨_, rfl⟩
   rw [← hGF] at BF ⊢
   generalize w6.alloc (.cells #[.int .u8 4, .int .i64 0, .int .i64 0, .int .i64 0, .int .i64 0, .int .i64 0, .int .i64 0, .int .i64 0, .int .i64 0, .slice h0.1 h0.2.1 h0.2.2, .slice h1.1 h1.2.1 h1.2.2, .slice h2.1 h2.2.1 h2.2.2, .slice h3.1 h3.2.1 h3.2.2, .slice h4.1 h4.2.1 h4.2.2] 48) = w8 at *
   clear hGF
   have HS : Hid (∀ W, Below w8.heap.size w8 W → ((W.cell? ⟨GV, 0, none⟩ = some (.slice a.1 a.2.1 a.2.2) ∧ W.cell? ⟨GV, 1, none⟩ = some (.slice b.1 b.2.1 b.2.2) ∧ W.cell? ⟨GV, 2, none⟩ = some (.slice x.1 x.2.1 x.2.2) ∧ W.cell? ⟨GV, 3, none⟩ = some (.slice d.1 d.2.1 d.2.2) ∧ W.cell? ⟨GV, 4, none⟩ = some (.slice e.1 e.2.1 e.2.2)) ∧ (W.cell? ⟨GF, 0, none⟩ = some (.int .u8 4) ∧ W.cell? ⟨GF, 1, none⟩ = some (.int .i64 0) ∧ W.cell? ⟨GF, 2, none⟩ = some (.int .i64 0) ∧ W.cell? ⟨GF, 3, none⟩ = some (.int .i64 0) ∧ W.cell? ⟨GF, 4, none⟩ = some (.int .i64 0) ∧ W.cell? ⟨GF, 5, none⟩ = some (.int .i64 0) ∧ W.cell? ⟨GF, 6, none⟩ = some (.int .i64 0) ∧ W.cell? ⟨GF, 7, none⟩ = some (.int .i64 0) ∧ W.cell? ⟨GF, 8, none⟩ = some (.int .i64 0) ∧ W.cell? ⟨GF, 9, none⟩ = some (.slice h0.1 h0.2.1 h0.2.2) ∧ W.cell? ⟨GF, 10, none⟩ = some (.slice h1.1 h1.2.1 h1.2.2) ∧ W.cell? ⟨GF, 11, none⟩ = some (.slice h2.1 h2.2.1 h2.2.2) ∧ W.cell? ⟨GF, 12, none⟩ = some (.slice h3.1 h3.2.1 h3.2.2) ∧ W.cell? ⟨GF, 13, none⟩ = some (.slice h4.1 h4.2.1 h4.2.2)))) := hd_ fun W hb => by
    have key : ∀ (q : Addr) (u : Value), w8.cell? q = some u → W.cell? q = some u := fun q u hu => (hb.cell (World.block_lt_of_cell? w8 _ hu)).trans hu
    obtain ⟨y0, y1, y2, y3, y4⟩ := vbox_cells BV.out
    obtain ⟨r0, r1, r2, r3, r4, r5, r6, r7, r8, r9, r10, r11, r12, r13⟩ := fbx_cells BF.out
    exact ⟨⟨key _ _ y0, key _ _ y1, key _ _ y2, key _ _ y3, key _ _ y4⟩, key _ _ r0, key _ _ r1, key _ _ r2, key _ _ r3, key _ _ r4, key _ _ r5, key _ _ r6, key _ _ r7, key _ _ r8, key _ _ r9, key _ _ r10, key _ _ r11, key _ _ r12, key _ _ r13⟩
   have Pz0 := hd_ (show Below w8.heap.size w8 w8.drew from (Below.refl _ _).drew)
   go_cut [15, 16, 17] (fun s15 s16 s17 wx => ∃ g, ∃ A : Int, s15 = .pointer (some ⟨g, 0, none⟩) ∧ s16 = .int .u8 A ∧ (A = 0 ∨ A = 3 ∨ A = 4) ∧ s17 = .int .i64 0 ∧ Hid (HoldsV wx g (recvV 4 (now k) had[j] k)) ∧ Hid (Below w8.heap.size w8 wx))
   case first =>
    refine wp_region_held_drew (S := (fun W => (W.cell? ⟨GV, 0, none⟩ = some (.slice a.1 a.2.1 a.2.2) ∧ W.cell? ⟨GV, 1, none⟩ = some (.slice b.1 b.2.1 b.2.2) ∧ W.cell? ⟨GV, 2, none⟩ = some (.slice x.1 x.2.1 x.2.2) ∧ W.cell? ⟨GV, 3, none⟩ = some (.slice d.1 d.2.1 d.2.2) ∧ W.cell? ⟨GV, 4, none⟩ = some (.slice e.1 e.2.1 e.2.2)) ∧ (W.cell? ⟨GF, 0, none⟩ = some (.int .u8 4) ∧ W.cell? ⟨GF, 1, none⟩ = some (.int .i64 0) ∧ W.cell? ⟨GF, 2, none⟩ = some (.int .i64 0) ∧ W.cell? ⟨GF, 3, none⟩ = some (.int .i64 0) ∧ W.cell? ⟨GF, 4, none⟩ = some (.int .i64 0) ∧ W.cell? ⟨GF, 5, none⟩ = some (.int .i64 0) ∧ W.cell? ⟨GF, 6, none⟩ = some (.int .i64 0) ∧ W.cell? ⟨GF, 7, none⟩ = some (.int .i64 0) ∧ W.cell? ⟨GF, 8, none⟩ = some (.int .i64 0) ∧ W.cell? ⟨GF, 9, none⟩ = some (.slice h0.1 h0.2.1 h0.2.2) ∧ W.cell? ⟨GF, 10, none⟩ = some (.slice h1.1 h1.2.1 h1.2.2) ∧ W.cell? ⟨GF, 11, none⟩ = some (.slice h2.1 h2.2.1 h2.2.2) ∧ W.cell? ⟨GF, 12, none⟩ = some (.slice h3.1 h3.2.1 h3.2.2) ∧ W.cell? ⟨GF, 13, none⟩ = some (.slice h4.1 h4.2.1 h4.2.2)))) (by kernel_rfl) ?_ (fun hHeld => ?_)
    ·exact HS.out _ Pz0.out
    generalize World.drew w8 = z0 at *
    refine ty_ 0 ?_
    try simp only [Act.put, si0, si1, si2]
    refine ty_ 1 ?_
    try simp only [Act.put, si0, si1, si2]
    refine ty_ 2 ?_
    try simp only [Act.put, si0, si1, si2]
    refine ty_ 3 ?_
    try simp only [Act.put, si0, si1, si2]
    refine ty_ 4 ?_
    try simp only [Act.put, si0, si1, si2]
    refine ty_ 6 ?_
    try simp only [Act.put, si0, si1, si2]
    refine ar_ [5, 12] ?_
    refine ac_ (fun Kq hKq => ?_) (ac_ (fun Kq hKq => ?_) an_)
    ·go_simp
     clear hHeld
     rw [HYK.out]; go_at_call 39; (with_reducible refine (at39_any _ _).mono ?_); rintro e1 z1 ⟨rfl, hb⟩
     have Pz1 := hd_ (ba_ Pz0.out hb)
     clear hb
     refine hKq.out _ _ ?_ (fun hHeld => ?_)
     ·(try dsimp only); exact HS.out _ Pz1.out
     clear hKq Kq
     try simp only [Act.put, si0, si1, si2]
     refine ar_ [7, 12] ?_
     refine ac_ (fun Kq hKq => ?_) (ac_ (fun Kq hKq => ?_) an_)
     ·go_simp
      clear hHeld
      go_at_call 31; (with_reducible refine (toldG_any _ (now k) had[j] 4 k 0 0 0 0 0 0 0 0 h0 h1 h2 h3 h4 _ (by decide) hk (RV.at_ (RV_.out.below Pz1.out)) (RF.out.below Pz1.out) GV_.out GO_.out).mono ?_); rintro e1 z2 ⟨na, nb, nc, nd, ne, rfl, hr, hb⟩
      have NR := hd_ hr
      clear hr
      have Pz2 := hd_ (ba_ Pz1.out hb)
      clear hb
      refine hKq.out _ _ ?_ (fun hHeld => ?_)
      ·(try dsimp only); exact HS.out _ Pz2.out
      clear hKq Kq
      try simp only [Act.put, si0, si1, si2]
      refine ty_ 8 ?_
      try simp only [Act.put, si0, si1, si2]
      refine ty_ 9 ?_
      try simp only [Act.put, si0, si1, si2]
      refine ty_ 10 ?_
      try simp only [Act.put, si0, si1, si2]
      refine ty_ 11 ?_
      try simp only [Act.put, si0, si1, si2]
      refine ar_ [12] ?_
      refine ac_ (fun Kq hKq => ?_) an_
      clear hHeld
      refine step_valloc (by rfl) (by rfl) _ ?_; intro gn z3 k1 hb k3_
      have LO_ := hd_ (Nat.le_trans Pz2.out.size k3_)
      have CB := hd_ k1
      clear k1 k3_
      have Pz3 := hd_ (ba_ Pz2.out hb)
      have NR := hd_ (NR.out.below hb)
      clear hb
      refine hKq.out _ _ ?_ (fun hHeld => ?_)
      ·(try dsimp only); exact HS.out _ Pz3.out
      clear hKq Kq
      try simp only [Act.put, si0, si1, si2]
      refine ar_ [13] ?_
      refine ac_ (fun Kq hKq => ?_) an_
      clear hHeld
      refine step_vstore (by rfl) (.tmp 15) (.tmp 64) (by rfl) _ gn na nb nc nd ne (recvV 4 (now k) had[j] k) (by rfl) (by rfl) CB.out NR.out ?_; intro z4 k1 k2
      have Pz4 := hd_ (Pz3.out.trans (below_grown k2 LO_.out Pz3.out.size))
      have NB := hd_ k1
      clear k1 k2
      refine hKq.out _ _ ?_ (fun hHeld => ?_)
      ·(try dsimp only); exact HS.out _ Pz4.out
      clear hKq Kq
      try simp only [Act.put]
      refine ty_ 14 ?_
      try simp only [Act.put, si0, si1, si2]
      refine ty_ 15 ?_
      try simp only [Act.put, si0, si1, si2]
      refine wd_ ?_
      go_wp2_with fail
      go_meet
      exact ⟨gn, _, rfl, rfl, ans_range _ _, rfl, NB, Pz4⟩
     ·clear hHeld
      refine step_valloc (by rfl) (by rfl) _ ?_; intro gn z2 k1 hb k3_
      have LO_ := hd_ (Nat.le_trans Pz1.out.size k3_)
      have CB := hd_ k1
      clear k1 k3_
      have Pz2 := hd_ (ba_ Pz1.out hb)
      clear hb
      refine hKq.out _ _ ?_ (fun hHeld => ?_)
      ·(try dsimp only); exact HS.out _ Pz2.out
      clear hKq Kq
      try simp only [Act.put, si0, si1, si2]
      refine ar_ [7] ?_
      refine ac_ (fun Kq hKq => ?_) an_
      go_simp
      clear hHeld
      go_at_call 31; (with_reducible refine (toldG_any _ (now k) had[j] 4 k 0 0 0 0 0 0 0 0 h0 h1 h2 h3 h4 _ (by decide) hk (RV.at_ (RV_.out.below Pz2.out)) (RF.out.below Pz2.out) GV_.out GO_.out).mono ?_); rintro e1 z3 ⟨na, nb, nc, nd, ne, rfl, hr, hb⟩
      have NR := hd_ hr
      clear hr
      have Pz3 := hd_ (ba_ Pz2.out hb)
      have CB := hd_ (vbox_below CB.out hb)
      clear hb
      refine hKq.out _ _ ?_ (fun hHeld => ?_)
      ·(try dsimp only); exact HS.out _ Pz3.out
      clear hKq Kq
      try simp only [Act.put, si0, si1, si2]
      refine ty_ 8 ?_
      try simp only [Act.put, si0, si1, si2]
      refine ty_ 9 ?_
      try simp only [Act.put, si0, si1, si2]
      refine ty_ 10 ?_
      try simp only [Act.put, si0, si1, si2]
      refine ty_ 11 ?_
      try simp only [Act.put, si0, si1, si2]
      refine ar_ [13] ?_
      refine ac_ (fun Kq hKq => ?_) an_
      clear hHeld
      refine step_vstore (by rfl) (.tmp 15) (.tmp 64) (by rfl) _ gn na nb nc nd ne (recvV 4 (now k) had[j] k) (by rfl) (by rfl) CB.out NR.out ?_; intro z4 k1 k2
      have Pz4 := hd_ (Pz3.out.trans (below_grown k2 LO_.out Pz3.out.size))
      have NB := hd_ k1
      clear k1 k2
      refine hKq.out _ _ ?_ (fun hHeld => ?_)
      ·(try dsimp only); exact HS.out _ Pz4.out
      clear hKq Kq
      try simp only [Act.put]
      refine ty_ 14 ?_
      try simp only [Act.put, si0, si1, si2]
      refine ty_ 15 ?_
      try simp only [Act.put, si0, si1, si2]
      refine wd_ ?_
      go_wp2_with fail
      go_meet
      exact ⟨gn, _, rfl, rfl, ans_range _ _, rfl, NB, Pz4⟩
    ·clear hHeld
     refine step_valloc (by rfl) (by rfl) _ ?_; intro gn z1 k1 hb k3_
     have LO_ := hd_ (Nat.le_trans Pz0.out.size k3_)
     have CB := hd_ k1
     clear k1 k3_
     have Pz1 := hd_ (ba_ Pz0.out hb)
     clear hb
     refine hKq.out _ _ ?_ (fun hHeld => ?_)
     ·(try dsimp only); exact HS.out _ Pz1.out
     clear hKq Kq
     try simp only [Act.put, si0, si1, si2]
     refine ar_ [5] ?_
     refine ac_ (fun Kq hKq => ?_) an_
     go_simp
     clear hHeld
     rw [HYK.out]; go_at_call 39; (with_reducible refine (at39_any _ _).mono ?_); rintro e1 z2 ⟨rfl, hb⟩
     have Pz2 := hd_ (ba_ Pz1.out hb)
     have CB := hd_ (vbox_below CB.out hb)
     clear hb
     refine hKq.out _ _ ?_ (fun hHeld => ?_)
     ·(try dsimp only); exact HS.out _ Pz2.out
     clear hKq Kq
     try simp only [Act.put, si0, si1, si2]
     refine ar_ [7] ?_
     refine ac_ (fun Kq hKq => ?_) an_
     go_simp
     clear hHeld
     go_at_call 31; (with_reducible refine (toldG_any _ (now k) had[j] 4 k 0 0 0 0 0 0 0 0 h0 h1 h2 h3 h4 _ (by decide) hk (RV.at_ (RV_.out.below Pz2.out)) (RF.out.below Pz2.out) GV_.out GO_.out).mono ?_); rintro e1 z3 ⟨na, nb, nc, nd, ne, rfl, hr, hb⟩
     have NR := hd_ hr
     clear hr
     have Pz3 := hd_ (ba_ Pz2.out hb)
     have CB := hd_ (vbox_below CB.out hb)
     clear hb
     refine hKq.out _ _ ?_ (fun hHeld => ?_)
     ·(try dsimp only); exact HS.out _ Pz3.out
     clear hKq Kq
     try simp only [Act.put, si0, si1, si2]
     refine ty_ 8 ?_
     try simp only [Act.put, si0, si1, si2]
     refine ty_ 9 ?_
     try simp only [Act.put, si0, si1, si2]
     refine ty_ 10 ?_
     try simp only [Act.put, si0, si1, si2]
     refine ty_ 11 ?_
     try simp only [Act.put, si0, si1, si2]
     refine ar_ [13] ?_
     refine ac_ (fun Kq hKq => ?_) an_
     clear hHeld
     refine step_vstore (by rfl) (.tmp 15) (.tmp 64) (by rfl) _ gn na nb nc nd ne (recvV 4 (now k) had[j] k) (by rfl) (by rfl) CB.out NR.out ?_; intro z4 k1 k2
     have Pz4 := hd_ (Pz3.out.trans (below_grown k2 LO_.out Pz3.out.size))
     have NB := hd_ k1
     clear k1 k2
     refine hKq.out _ _ ?_ (fun hHeld => ?_)
     ·(try dsimp only); exact HS.out _ Pz4.out
     clear hKq Kq
     try simp only [Act.put]
     refine ty_ 14 ?_
     try simp only [Act.put, si0, si1, si2]
     refine ty_ 15 ?_
     try simp only [Act.put, si0, si1, si2]
     refine wd_ ?_
     go_wp2_with fail
     go_meet
     exact ⟨gn, _, rfl, rfl, ans_range _ _, rfl, NB, Pz4⟩
   case rest =>
    obtain ⟨GT, A, rfl, rfl, hA, rfl, HT, P9⟩ := hcut
    rename World => w9
    obtain ⟨t0, t1, t2, t3, t4, hbt, hrt⟩ := HT.out
    have BT := hd_ hbt
    have RT := hd_ hrt
    have BV9 := hd_ (vbox_below BV.out P9.out)
    have BO9 := hd_ (vbox_below BO.out P9.out)
    have RV9 := hd_ (RV_.out.below P9.out)
    have RO9 := hd_ (RO_.out.below P9.out)
    have BB9 := hd_ (ba_ BB.out P9.out)
    clear hbt hrt HT HS Pz0 P9 BV BO RV_ RO_ RF BF BB
    go_upto_region 12 with fail
    go_cut [86] (fun sT wx => sT = .bool false ∧ Hid (Below w9.heap.size w9 wx))
    case first =>
     obtain ⟨y0, y1, y2, y3, y4⟩ := vbox_cells BT.out
     obtain ⟨r0, r1, r2, r3, r4⟩ := vbox_cells BV9.out
     rcases hA with rfl | rfl | rfl
     all_goals
      go_wp2_with fail
      (with_reducible refine (covers_any _ _ (recvV 4 (now k) had[j] k) (now k) _ RT.out.at_ RV9.out.at_ (GT_.out.fit (by decide)) (GV_.out.fit (by decide)) GT_.out.up GV_.out.up).mono ?_)
      rw [HCV.out]
      rintro e1 wa ⟨rfl, hb⟩
      have PA := hd_ hb
      clear hb
      go_wp2_with fail
      go_meet
      exact ⟨rfl, PA⟩
    case rest =>
     obtain ⟨rfl, PA⟩ := hcut
     rename World => wa
     have BT := hd_ (vbox_below BT.out PA.out)
     have BV := hd_ (vbox_below BV9.out PA.out)
     have BO := hd_ (vbox_below BO9.out PA.out)
     have RT := hd_ (RT.out.below PA.out)
     have RV_ := hd_ (RV9.out.below PA.out)
     have RO_ := hd_ (RO9.out.below PA.out)
     have BB := hd_ (ba_ BB9.out PA.out)
     clear PA BV9 BO9 RV9 RO9 BB9
     go_upto_region 15 with fail
     have HS : Hid (∀ W, Below wa.heap.size wa W → ((W.cell? ⟨GT, 0, none⟩ = some (.slice t0.1 t0.2.1 t0.2.2) ∧ W.cell? ⟨GT, 1, none⟩ = some (.slice t1.1 t1.2.1 t1.2.2) ∧ W.cell? ⟨GT, 2, none⟩ = some (.slice t2.1 t2.2.1 t2.2.2) ∧ W.cell? ⟨GT, 3, none⟩ = some (.slice t3.1 t3.2.1 t3.2.2) ∧ W.cell? ⟨GT, 4, none⟩ = some (.slice t4.1 t4.2.1 t4.2.2)) ∧ (W.cell? ⟨GO, 0, none⟩ = some (.slice h0.1 h0.2.1 h0.2.2) ∧ W.cell? ⟨GO, 1, none⟩ = some (.slice h1.1 h1.2.1 h1.2.2) ∧ W.cell? ⟨GO, 2, none⟩ = some (.slice h2.1 h2.2.1 h2.2.2) ∧ W.cell? ⟨GO, 3, none⟩ = some (.slice h3.1 h3.2.1 h3.2.2) ∧ W.cell? ⟨GO, 4, none⟩ = some (.slice h4.1 h4.2.1 h4.2.2)))) := hd_ fun W hb => by
      have key : ∀ (q : Addr) (u : Value), wa.cell? q = some u → W.cell? q = some u := fun q u hu => (hb.cell (World.block_lt_of_cell? wa _ hu)).trans hu
      obtain ⟨y0, y1, y2, y3, y4⟩ := vbox_cells BT.out
      obtain ⟨r0, r1, r2, r3, r4⟩ := vbox_cells BO.out
      exact ⟨⟨key _ _ y0, key _ _ y1, key _ _ y2, key _ _ y3, key _ _ y4⟩, key _ _ r0, key _ _ r1, key _ _ r2, key _ _ r3, key _ _ r4⟩
     have Q0 := hd_ (show Below wa.heap.size wa wa.drew from (Below.refl _ _).drew)
     refine wp_region_held_drew (S := fun W => (W.cell? ⟨GT, 0, none⟩ = some (.slice t0.1 t0.2.1 t0.2.2) ∧ W.cell? ⟨GT, 1, none⟩ = some (.slice t1.1 t1.2.1 t1.2.2) ∧ W.cell? ⟨GT, 2, none⟩ = some (.slice t2.1 t2.2.1 t2.2.2) ∧ W.cell? ⟨GT, 3, none⟩ = some (.slice t3.1 t3.2.1 t3.2.2) ∧ W.cell? ⟨GT, 4, none⟩ = some (.slice t4.1 t4.2.1 t4.2.2)) ∧ (W.cell? ⟨GO, 0, none⟩ = some (.slice h0.1 h0.2.1 h0.2.2) ∧ W.cell? ⟨GO, 1, none⟩ = some (.slice h1.1 h1.2.1 h1.2.2) ∧ W.cell? ⟨GO, 2, none⟩ = some (.slice h2.1 h2.2.1 h2.2.2) ∧ W.cell? ⟨GO, 3, none⟩ = some (.slice h3.1 h3.2.1 h3.2.2) ∧ W.cell? ⟨GO, 4, none⟩ = some (.slice h4.1 h4.2.1 h4.2.2))) (by kernel_rfl) ?_ (fun hHeld => ?_)
     ·exact HS.out _ Q0.out
     refine ty_ 0 ?_
     try simp only [Act.put, si0, si1, si2]
     refine ty_ 1 ?_
     try simp only [Act.put, si0, si1, si2]
     refine ar_ [2] ?_
     refine ac_ (fun Kq hKq => ?_) an_
     go_simp
     clear hHeld
     (go_at_call 27; (with_reducible refine (covers_any _ _ (recvV 4 (now k) had[j] k) had[j] _ (RT.out.below Q0.out).at_ (RO_.out.below Q0.out).at_ (GT_.out.fit (by decide)) (GO_.out.fit (by decide)) GT_.out.up GO_.out.up).mono ?_); rw [HCO.out]; rintro e1 c1 ⟨rfl, hb⟩; have Q1 := hd_ (ba_ Q0.out hb); clear hb)
     refine hKq.out _ _ ?_ (fun hHeld => ?_)
     ·(try dsimp only); exact HS.out _ Q1.out
     clear hKq Kq
     try simp only [Act.put, si0, si1, si2]
     refine ty_ 3 ?_
     try simp only [Act.put, si0, si1, si2]
     first | refine ty_ 4 ?_ | refine tn_ 4 ?_
     try simp only [Act.put, si0, si1, si2]
     first | refine ty_ 5 ?_ | refine tn_ 5 ?_
     try simp only [Act.put, si0, si1, si2]
     first | refine ty_ 6 ?_ | refine tn_ 6 ?_
     try simp only [Act.put, si0, si1, si2]
     first | refine ty_ 7 ?_ | refine tn_ 7 ?_
     try simp only [Act.put, si0, si1, si2]
     first | refine ty_ 8 ?_ | refine tn_ 8 ?_
     try simp only [Act.put, si0, si1, si2]
     first | refine ty_ 9 ?_ | refine tn_ 9 ?_
     try simp only [Act.put, si0, si1, si2]
     refine ar_ [10] ?_
     refine ac_ (fun Kq hKq => ?_) an_
     go_simp
     clear hHeld
     (rw [HYK.out]; go_at_call 39; (with_reducible refine (at39_any _ _).mono ?_); rintro e1 c2 ⟨rfl, hb⟩; have Q2 := hd_ (ba_ Q1.out hb); clear hb)
     refine hKq.out _ _ ?_ (fun hHeld => ?_)
     ·(try dsimp only); exact HS.out _ Q2.out
     clear hKq Kq
     try simp only [Act.put, si0, si1, si2]
     refine ar_ [11] ?_
     refine ac_ (fun Kq hKq => ?_) an_
     go_simp
     clear hHeld
     (go_at_call 40; (with_reducible refine (has_any _ (recvV 4 (now k) had[j] k).s ((k : Int) + 1) 1 _ (RT.out.below Q2.out).s (Nat.le_trans (GT_.out.fit (n := 13) (by decide)).s (by decide))).mono ?_); rw [HHAS.out]; rintro e1 c3 ⟨rfl, hb⟩; have Q3 := hd_ (ba_ Q2.out hb); clear hb)
     refine hKq.out _ _ ?_ (fun hHeld => ?_)
     ·(try dsimp only); exact HS.out _ Q3.out
     clear hKq Kq
     try simp only [Act.put, si0, si1, si2]
     refine ty_ 12 ?_
     try simp only [Act.put, si0, si1, si2]
     refine ty_ 13 ?_
     try simp only [Act.put, si0, si1, si2]
     refine wd_ ?_
     go_wp2_with fail
     go_ret
     exact ⟨rfl, ba_ BB.out Q3.out⟩
end
end Go.Proofs.YthkkipbmlafdiaaGreat
