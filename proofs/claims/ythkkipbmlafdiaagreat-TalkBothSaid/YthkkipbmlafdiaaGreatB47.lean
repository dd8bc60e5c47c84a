/-
  Contracts and plain facts.
-/
import Derived.Test.YthkkipbmlafdiaaGreatOy
import Derived.Test.YthkkipbmlafdiaaGreatB32
import Derived.Test.YthkkipbmlafdiaaGreatB36
import Derived.Test.YthkkipbmlafdiaaGreatB42
set_option maxRecDepth 20000
namespace Go.Proofs.YthkkipbmlafdiaaGreat
section
open Go Go.RowKit
theorem vbox_there {w : World} {g : Nat} {a b c d e : SL} (h : VBox w g a b c d e) : w.there g 0 5 := by
 unfold VBox at h;intro j hj;rw [Nat.zero_add];refine ⟨?_, by simp [World.frozen?, h]⟩
 rw [cell_of_row _ _ _ _ _ _ h, Array.getElem?_eq_getElem (by simpa using hj)]
 rfl
theorem as_ {ops : Array Oper} {o : Oper} {A : Act} {K : Act → World → Prop} {Q : Exit → Act → World → Prop} {E : Prop} (hgd : o.guard = none) (ho : o.op = .alloc 27) (W : World)
  (h : ∀ g W', VBox W' g (none, 0, 0) (none, 0, 0) (none, 0, 0) (none, 0, 0) (none, 0, 0) → Below W.heap.size W W' → W.heap.size ≤ g → K (A.put o.dst (.pointer (some ⟨g, 0, none⟩))) W') :
  if Region.wanted o (yielded ops A.tmps) = true then Oper.wp Tryz.prog o A W K Q else E := by
 have hw : Region.wanted o (yielded ops A.tmps) = true := by simp [Region.wanted, hgd]
 rw [if_pos hw];have hr : (Instr.alloc 27 true (.tuple #[])).run Tryz.prog W = .ok (.pointer (some ⟨W.heap.size, 0, none⟩)) (W.alloc (.cells #[.slice none 0 0, .slice none 0 0, .slice none 0 0, .slice none 0 0, .slice none 0 0] 27)) := by kernel_rfl
 unfold Oper.wp execOp;simp only [ho, Sem.run_bind, Sem.run_pure, Result.andThen_ok, hr];exact h _ _ (ak_ W (none, 0, 0) (none, 0, 0) (none, 0, 0) (none, 0, 0) (none, 0, 0)) (ad_ W _) (Nat.le_refl _)
theorem au_ {ops : Array Oper} {o : Oper} {A : Act} {K : Act → World → Prop} {Q : Exit → Act → World → Prop} {E : Prop} (hgd : o.guard = none) (x y : Operand) (ho : o.op = .store 27 x y) (W : World) (g : Nat) (a b c d e : SL) (V : Vw)
  (hx : A.eval x = .pointer (some ⟨g, 0, none⟩)) (hy : A.eval y = .agg #[.slice a.1 a.2.1 a.2.2, .slice b.1 b.2.1 b.2.2, .slice c.1 c.2.1 c.2.2, .slice d.1 d.2.1 d.2.2, .slice e.1 e.2.1 e.2.2]) (hb : VBox W g (none, 0, 0) (none, 0, 0) (none, 0, 0) (none, 0, 0) (none, 0, 0)) (hr : RV W a b c d e V)
  (h : ∀ W', HoldsV W' g V → W.grownBy W' (some g) → K (A.put o.dst undef) W') :
  if Region.wanted o (yielded ops A.tmps) = true then Oper.wp Tryz.prog o A W K Q else E := by
 have hw : Region.wanted o (yielded ops A.tmps) = true := by simp [Region.wanted, hgd]
 rw [if_pos hw];have hs := run_storeAt_mid (P := Tryz.prog) W g 0 27 #[.slice a.1 a.2.1 a.2.2, .slice b.1 b.2.1 b.2.2, .slice c.1 c.2.1 c.2.2, .slice d.1 d.2.1 d.2.2, .slice e.1 e.2.1 e.2.2] (vbox_there hb) (by kernel_rfl) (by simp [Value.oneCell'])
 unfold Oper.wp execOp;simp only [ho, hx, hy, Sem.run_bind, Sem.run_pure, Result.andThen_ok, hs];exact h _ ⟨a, b, c, d, e, a2_ hb a b c d e, hr.kp (ky_set hb _).kp⟩ (grown_setCells (World.grownBy.refl _ _) 0 [.slice a.1 a.2.1 a.2.2, .slice b.1 b.2.1 b.2.2, .slice c.1 c.2.1 c.2.2, .slice d.1 d.2.1 d.2.2, .slice e.1 e.2.1 e.2.2])
structure Bv (w W : World) (L : List (Nat × Vw)) : Prop where
 all : ∀ p ∈ L, HoldsV W p.1 p.2
 below : Below w.heap.size w W
theorem Bv.keep {w W W' : World} {L : List (Nat × Vw)} (h : Bv w W L) (hb : Below W.heap.size W W') : Bv w W' L := ⟨fun p hp => (h.all p hp).below hb, ba_ h.below hb⟩
theorem Bv.more {w W : World} {L : List (Nat × Vw)} {g : Nat} {V : Vw} (h : Bv w W L) (k : HoldsV W g V) : Bv w W ((g, V) :: L) := ⟨fun p hp => by
 rcases List.mem_cons.1 hp with rfl | hp
 ·exact k
 ·exact h.all p hp, h.below⟩
theorem Bv.has {w W : World} {L : List (Nat × Vw)} {g : Nat} {V : Vw} (h : Bv w W L) (k : (g, V) ∈ L) : HoldsV W g V := h.all _ k
def z1 : Sets.Id2 := (1, 1)
def z2 : Sets.Id2 := (2, 1)
def z3 : Sets.Id2 := (3, 1)
def putR (V : Vw) (z : Sets.Id2) (x : Ros.Mm) : Vw × Int := changedV V (putU V z x).1 (putU V z x).2 z
def exA : Vw := (putR emV z1 (z1, 3, 1)).1
def exB : Vw := (putR exA z1 (z2, 1, 0)).1
def exC : Vw := (putR exA z2 (z3, 1, 0)).1
theorem ex_errs : (putR emV z1 (z1, 3, 1)).2 = 0 ∧ (putR exA z1 (z2, 1, 0)).2 = 0 ∧ (putR exA z2 (z3, 1, 0)).2 = 0 := ⟨by kernel_rfl, by kernel_rfl, by kernel_rfl⟩
theorem ex_a : exA = ⟨[(z1, 3, 1)], [], [], [(z1, 1)], [z1]⟩ := by kernel_rfl
theorem ex_b : exB = ⟨[(z1, 3, 1), (z2, 1, 0)], [], [], [(z1, 2)], [z1]⟩ := by kernel_rfl
theorem ex_c : exC = ⟨[(z1, 3, 1), (z3, 1, 0)], [], [], [(z1, 1), (z2, 1)], [z2]⟩ := by kernel_rfl
theorem fit_a : FitVIE 100 exA := by rw [ex_a]; exact ⟨by decide, by decide, by decide, by decide, by decide, fun r hr => by cases hr⟩
theorem fit_b : FitVIE 100 exB := by rw [ex_b]; exact ⟨by decide, by decide, by decide, by decide, by decide, fun r hr => by cases hr⟩
theorem fit_c : FitVIE 100 exC := by rw [ex_c]; exact ⟨by decide, by decide, by decide, by decide, by decide, fun r hr => by cases hr⟩
theorem up_b : RowSets.Up exB.r := by rw [ex_b]; exact List.Pairwise.nil
theorem told_bb : (toldP 3 exB (partV exB) 2 1).2 = (3, 0) := by kernel_rfl
theorem told_ba : (toldP 3 exB (partV exA) 2 1).2 = (4, 0) := by kernel_rfl
theorem told_bc : (toldP 4 exB exC 2 1).2 = (4, 0) := by kernel_rfl
theorem fitM (V : Vw) (h : FitVIE 100 V) : FitVIE 1000 V := h.mono (by decide)
theorem fit4 (V : Vw) (h : FitVIE 100 V) : FitVIE 400 V := h.mono (by decide)
theorem p_a (v : Value) (w : World) (h : VAt w v emV) : Calls Tryz.prog 15 #[v, .agg #[.int .i64 1, .int .i64 1], .agg #[.int .i64 1, .int .i64 1, .int .u8 3, .int .i64 1]] w fun e w' => ∃ a b c d e2 : SL, e = .returned (.tuple #[.agg #[.slice a.1 a.2.1 a.2.2, .slice b.1 b.2.1 b.2.2, .slice c.1 c.2.1 c.2.2, .slice d.1 d.2.1 d.2.2, .slice e2.1 e2.2.1 e2.2.2], .int .i64 0]) ∧ RV w' a b c d e2 exA ∧ Below w.heap.size w w' :=
 (put_any v emV 1 1 1 1 3 1 w h em_fit).mono fun e w' ⟨X, h1, ⟨a, b, c, d, e2, hX, hr⟩, hb⟩ => ⟨a, b, c, d, e2, by rw [h1, hX]; exact congrArg (fun z => Ending.returned (.tuple #[_, .int .i64 z])) ex_errs.1, hr, hb⟩
theorem p_b (v : Value) (w : World) (h : VAt w v exA) : Calls Tryz.prog 15 #[v, .agg #[.int .i64 1, .int .i64 1], .agg #[.int .i64 2, .int .i64 1, .int .u8 1, .int .i64 0]] w fun e w' => ∃ a b c d e2 : SL, e = .returned (.tuple #[.agg #[.slice a.1 a.2.1 a.2.2, .slice b.1 b.2.1 b.2.2, .slice c.1 c.2.1 c.2.2, .slice d.1 d.2.1 d.2.2, .slice e2.1 e2.2.1 e2.2.2], .int .i64 0]) ∧ RV w' a b c d e2 exB ∧ Below w.heap.size w w' :=
 (put_any v exA 1 1 2 1 1 0 w h (fitM _ fit_a)).mono fun e w' ⟨X, h1, ⟨a, b, c, d, e2, hX, hr⟩, hb⟩ => ⟨a, b, c, d, e2, by rw [h1, hX]; exact congrArg (fun z => Ending.returned (.tuple #[_, .int .i64 z])) ex_errs.2.1, hr, hb⟩
theorem p_c (v : Value) (w : World) (h : VAt w v exA) : Calls Tryz.prog 15 #[v, .agg #[.int .i64 2, .int .i64 1], .agg #[.int .i64 3, .int .i64 1, .int .u8 1, .int .i64 0]] w fun e w' => ∃ a b c d e2 : SL, e = .returned (.tuple #[.agg #[.slice a.1 a.2.1 a.2.2, .slice b.1 b.2.1 b.2.2, .slice c.1 c.2.1 c.2.2, .slice d.1 d.2.1 d.2.2, .slice e2.1 e2.2.1 e2.2.2], .int .i64 0]) ∧ RV w' a b c d e2 exC ∧ Below w.heap.size w w' :=
 (put_any v exA 2 1 3 1 1 0 w h (fitM _ fit_a)).mono fun e w' ⟨X, h1, ⟨a, b, c, d, e2, hX, hr⟩, hb⟩ => ⟨a, b, c, d, e2, by rw [h1, hX]; exact congrArg (fun z => Ending.returned (.tuple #[_, .int .i64 z])) ex_errs.2.2, hr, hb⟩
theorem t_bb (v : Value) (pa pb pc pd pe : SL) (w : World) (h : VAt w v exB) (kr : RV w pa pb pc pd pe (partV exB)) : Calls Tryz.prog 31 #[v, .agg #[.int .i64 2, .int .i64 1], .agg #[.int .u8 3, .int .i64 0, .int .i64 0, .int .i64 0, .int .i64 0, .int .i64 0, .int .i64 0, .int .i64 0, .int .i64 0, .slice pa.1 pa.2.1 pa.2.2, .slice pb.1 pb.2.1 pb.2.2, .slice pc.1 pc.2.1 pc.2.2, .slice pd.1 pd.2.1 pd.2.2, .slice pe.1 pe.2.1 pe.2.2]] w fun e w' => ∃ a b c d e2 : SL, e = .returned (.tuple #[.agg #[.slice a.1 a.2.1 a.2.2, .slice b.1 b.2.1 b.2.2, .slice c.1 c.2.1 c.2.2, .slice d.1 d.2.1 d.2.2, .slice e2.1 e2.2.1 e2.2.2], .int .u8 3, .int .i64 0]) ∧ RV w' a b c d e2 (toldP 3 exB (partV exB) 2 1).1 ∧ Below w.heap.size w w' :=
 (told_any v exB (partV exB) 2 1 3 0 0 0 0 0 0 0 0 pa pb pc pd pe w h kr (fit4 _ fit_b) (fit_part (fit4 _ fit_b)) up_b).mono fun e w' ⟨X, h1, ⟨a, b, c, d, e2, hX, hr⟩, hb⟩ => ⟨a, b, c, d, e2, by rw [h1, hX, told_bb], hr, hb⟩
theorem t_ba (v : Value) (pa pb pc pd pe : SL) (w : World) (h : VAt w v exB) (kr : RV w pa pb pc pd pe (partV exA)) : Calls Tryz.prog 31 #[v, .agg #[.int .i64 2, .int .i64 1], .agg #[.int .u8 3, .int .i64 0, .int .i64 0, .int .i64 0, .int .i64 0, .int .i64 0, .int .i64 0, .int .i64 0, .int .i64 0, .slice pa.1 pa.2.1 pa.2.2, .slice pb.1 pb.2.1 pb.2.2, .slice pc.1 pc.2.1 pc.2.2, .slice pd.1 pd.2.1 pd.2.2, .slice pe.1 pe.2.1 pe.2.2]] w fun e w' => ∃ a b c d e2 : SL, e = .returned (.tuple #[.agg #[.slice a.1 a.2.1 a.2.2, .slice b.1 b.2.1 b.2.2, .slice c.1 c.2.1 c.2.2, .slice d.1 d.2.1 d.2.2, .slice e2.1 e2.2.1 e2.2.2], .int .u8 4, .int .i64 0]) ∧ RV w' a b c d e2 (toldP 3 exB (partV exA) 2 1).1 ∧ Below w.heap.size w w' :=
 (told_any v exB (partV exA) 2 1 3 0 0 0 0 0 0 0 0 pa pb pc pd pe w h kr (fit4 _ fit_b) (fit_part (fit4 _ fit_a)) up_b).mono fun e w' ⟨X, h1, ⟨a, b, c, d, e2, hX, hr⟩, hb⟩ => ⟨a, b, c, d, e2, by rw [h1, hX, told_ba], hr, hb⟩
theorem t_bc (v : Value) (pa pb pc pd pe : SL) (w : World) (h : VAt w v exB) (kr : RV w pa pb pc pd pe (exC)) : Calls Tryz.prog 31 #[v, .agg #[.int .i64 2, .int .i64 1], .agg #[.int .u8 4, .int .i64 0, .int .i64 0, .int .i64 0, .int .i64 0, .int .i64 0, .int .i64 0, .int .i64 0, .int .i64 0, .slice pa.1 pa.2.1 pa.2.2, .slice pb.1 pb.2.1 pb.2.2, .slice pc.1 pc.2.1 pc.2.2, .slice pd.1 pd.2.1 pd.2.2, .slice pe.1 pe.2.1 pe.2.2]] w fun e w' => ∃ a b c d e2 : SL, e = .returned (.tuple #[.agg #[.slice a.1 a.2.1 a.2.2, .slice b.1 b.2.1 b.2.2, .slice c.1 c.2.1 c.2.2, .slice d.1 d.2.1 d.2.2, .slice e2.1 e2.2.1 e2.2.2], .int .u8 4, .int .i64 0]) ∧ RV w' a b c d e2 (toldP 4 exB (exC) 2 1).1 ∧ Below w.heap.size w w' :=
 (told_any v exB (exC) 2 1 4 0 0 0 0 0 0 0 0 pa pb pc pd pe w h kr (fit4 _ fit_b) (fit4 _ fit_c) up_b).mono fun e w' ⟨X, h1, ⟨a, b, c, d, e2, hX, hr⟩, hb⟩ => ⟨a, b, c, d, e2, by rw [h1, hX, told_bc], hr, hb⟩
set_option maxHeartbeats 16000000 in
theorem awakeT_any (w : World) : Calls Tryz.prog 30 #[] w fun e w' => e = .returned (.bool true) ∧ Below w.heap.size w w' := by
 go_enter Tryz.func30, Tryz.ntmps30
 go_wp2_with fail;(with_reducible refine (at39_any _ _).mono ?_)
 rintro e w1 ⟨rfl, hb⟩;have B1 := hd_ hb;clear hb;go_wp2_with fail;(with_reducible refine (at39_any _ _).mono ?_)
 rintro e w2 ⟨rfl, hb⟩;have B2 := hd_ (ba_ B1.out hb);clear hb B1;go_wp2_with fail;refine (p_a _ _ (em_at _)).mono ?_
 rintro e w3 ⟨a1, b1, c1, d1, e1, rfl, hr, hb⟩;have B3 := hd_ (ba_ B2.out hb);have R3 := hd_ hr;clear hb hr B2;go_upto_region 2 with fail
 have BV : Hid (Bv w (w3.alloc (.cells #[.slice a1.1 a1.2.1 a1.2.2, .slice b1.1 b1.2.1 b1.2.2, .slice c1.1 c1.2.1 c1.2.2, .slice d1.1 d1.2.1 d1.2.2, .slice e1.1 e1.2.1 e1.2.2] 27)) [(w3.heap.size, exA)]) := hd_ ⟨fun p hp => by
  rw [List.mem_singleton.1 hp];exact ⟨a1, b1, c1, d1, e1, ak_ w3 a1 b1 c1 d1 e1, R3.out.below (ad_ w3 _)⟩, ah_ B3.out (ad_ w3 _) (Nat.le_refl _)⟩
 generalize World.alloc w3 (.cells #[.slice a1.1 a1.2.1 a1.2.2, .slice b1.1 b1.2.1 b1.2.2, .slice c1.1 c1.2.1 c1.2.2, .slice d1.1 d1.2.1 d1.2.2, .slice e1.1 e1.2.1 e1.2.2] 27) = w4 at *;generalize w3.heap.size = g1 at *;clear B3 R3;go_cut [3, 4] (fun s3 s4 wx => ∃ g, s3 = .pointer (some ⟨g, 0, none⟩) ∧ s4 = .int .i64 0 ∧ Hid (Bv w wx ((g, exB) :: [(g1, exA)])))
 case first =>
  obtain ⟨a1, b1, c1, d1, e1, hv1, hr1⟩ := BV.out.has (g := g1) (V := exA) (by simp)
  have HS := hd_ fun w' (hb : Below w4.heap.size w4 w') => aa_ (ab_ hv1 hb)
  have R1 := hd_ hr1;clear hv1 hr1;generalize hWW : w4 = Wp at *;clear hWW;have Pp0 := hd_ (show Below Wp.heap.size Wp Wp.drew from (Below.refl _ _).drew)
  refine wp_region_held_drew (S := (fun w' => (w'.cell? ⟨g1, 0, none⟩ = some (.slice a1.1 a1.2.1 a1.2.2) ∧ w'.cell? ⟨g1, 1, none⟩ = some (.slice b1.1 b1.2.1 b1.2.2) ∧ w'.cell? ⟨g1, 2, none⟩ = some (.slice c1.1 c1.2.1 c1.2.2) ∧ w'.cell? ⟨g1, 3, none⟩ = some (.slice d1.1 d1.2.1 d1.2.2) ∧ w'.cell? ⟨g1, 4, none⟩ = some (.slice e1.1 e1.2.1 e1.2.2)))) (by kernel_rfl) ?_ (fun hHeld => ?_)
  ·exact HS.out _ Pp0.out
  generalize World.drew Wp = p0 at *;refine ty_ 0 ?_;(try simp only [Act.put, si0, si1, si2]);refine ar_ [1, 8] ?_;refine ac_ (fun Kq hKq => ?_) (ac_ (fun Kq hKq => ?_) an_)
  ·go_simp
   clear hHeld;go_at_call 39; (with_reducible refine (at39_any _ _).mono ?_); rintro e p1 ⟨rfl, hb⟩
   have Pp1 := hd_ (ba_ Pp0.out hb);clear hb;refine hKq.out _ _ ?_ (fun hHeld => ?_)
   ·(try dsimp only); exact HS.out _ Pp1.out
   clear hKq Kq;(try simp only [Act.put, si0, si1, si2]);refine ar_ [2, 8] ?_;refine ac_ (fun Kq hKq => ?_) (ac_ (fun Kq hKq => ?_) an_)
   ·go_simp
    clear hHeld;go_at_call 39; (with_reducible refine (at39_any _ _).mono ?_); rintro e p2 ⟨rfl, hb⟩
    have Pp2 := hd_ (ba_ Pp1.out hb);clear hb;refine hKq.out _ _ ?_ (fun hHeld => ?_)
    ·(try dsimp only); exact HS.out _ Pp2.out
    clear hKq Kq;(try simp only [Act.put, si0, si1, si2]);refine ty_ 3 ?_;(try simp only [Act.put, si0, si1, si2]);refine ar_ [4, 8] ?_;refine ac_ (fun Kq hKq => ?_) (ac_ (fun Kq hKq => ?_) an_)
    ·go_simp
     clear hHeld;go_at_call 15; (with_reducible refine (p_b _ _ (RV.at_ (R1.out.below Pp2.out))).mono ?_); rintro e p3 ⟨na, nb, nc, nd, ne, rfl, hr, hb⟩
     have NR := hd_ hr;clear hr;have Pp3 := hd_ (ba_ Pp2.out hb);clear hb;refine hKq.out _ _ ?_ (fun hHeld => ?_)
     ·(try dsimp only); exact HS.out _ Pp3.out
     clear hKq Kq;(try simp only [Act.put, si0, si1, si2]);refine ty_ 5 ?_;refine ty_ 6 ?_;refine ty_ 7 ?_;(try simp only [Act.put, si0, si1, si2]);refine a1_ 8 fun Kq hKq => ?_;clear hHeld;refine as_ (by rfl) (by rfl) _ ?_; intro gn p4 k1 hb k3
     have LO := hd_ (Nat.le_trans Pp3.out.size k3);have CB := hd_ k1;clear k1 k3;have Pp4 := hd_ (ba_ Pp3.out hb);have NR := hd_ (NR.out.below hb);clear hb;refine hKq.out _ _ ?_ (fun hHeld => ?_)
     ·(try dsimp only); exact HS.out _ Pp4.out
     clear hKq Kq;(try simp only [Act.put, si0, si1, si2]);refine a1_ 9 fun Kq hKq => ?_;clear hHeld;refine au_ (by rfl) (.tmp 3) (.tmp 30) (by rfl) _ gn na nb nc nd ne exB (by rfl) (by rfl) CB.out NR.out ?_; intro p5 k1 k2
     have Pp5 := hd_ (Pp4.out.trans (aj_ k2 LO.out Pp4.out.size));have NB := hd_ k1;clear k1 k2;refine hKq.out _ _ ?_ (fun hHeld => ?_)
     ·(try dsimp only); exact HS.out _ Pp5.out
     clear hKq Kq;(try simp only [Act.put]);refine ty_ 10 ?_;(try simp only [Act.put, si0, si1, si2]);refine wd_ ?_;go_wp2_with fail;go_meet;exact ⟨gn, rfl, rfl, hd_ ((BV.out.keep Pp5.out).more NB.out)⟩
    ·clear hHeld
     refine as_ (by rfl) (by rfl) _ ?_; intro gn p3 k1 hb k3
     have LO := hd_ (Nat.le_trans Pp2.out.size k3);have CB := hd_ k1;clear k1 k3;have Pp3 := hd_ (ba_ Pp2.out hb);clear hb;refine hKq.out _ _ ?_ (fun hHeld => ?_)
     ·(try dsimp only); exact HS.out _ Pp3.out
     clear hKq Kq;(try simp only [Act.put, si0, si1, si2]);refine a1_ 4 fun Kq hKq => ?_;go_simp;clear hHeld;go_at_call 15; (with_reducible refine (p_b _ _ (RV.at_ (R1.out.below Pp3.out))).mono ?_); rintro e p4 ⟨na, nb, nc, nd, ne, rfl, hr, hb⟩
     have NR := hd_ hr;clear hr;have Pp4 := hd_ (ba_ Pp3.out hb);have CB := hd_ (ab_ CB.out hb);clear hb;refine hKq.out _ _ ?_ (fun hHeld => ?_)
     ·(try dsimp only); exact HS.out _ Pp4.out
     clear hKq Kq;(try simp only [Act.put, si0, si1, si2]);refine ty_ 5 ?_;refine ty_ 6 ?_;refine ty_ 7 ?_;(try simp only [Act.put, si0, si1, si2]);refine a1_ 9 fun Kq hKq => ?_;clear hHeld;refine au_ (by rfl) (.tmp 3) (.tmp 30) (by rfl) _ gn na nb nc nd ne exB (by rfl) (by rfl) CB.out NR.out ?_; intro p5 k1 k2
     have Pp5 := hd_ (Pp4.out.trans (aj_ k2 LO.out Pp4.out.size));have NB := hd_ k1;clear k1 k2;refine hKq.out _ _ ?_ (fun hHeld => ?_)
     ·(try dsimp only); exact HS.out _ Pp5.out
     clear hKq Kq;(try simp only [Act.put]);refine ty_ 10 ?_;(try simp only [Act.put, si0, si1, si2]);refine wd_ ?_;go_wp2_with fail;go_meet;exact ⟨gn, rfl, rfl, hd_ ((BV.out.keep Pp5.out).more NB.out)⟩
   ·clear hHeld
    refine as_ (by rfl) (by rfl) _ ?_; intro gn p2 k1 hb k3
    have LO := hd_ (Nat.le_trans Pp1.out.size k3);have CB := hd_ k1;clear k1 k3;have Pp2 := hd_ (ba_ Pp1.out hb);clear hb;refine hKq.out _ _ ?_ (fun hHeld => ?_)
    ·(try dsimp only); exact HS.out _ Pp2.out
    clear hKq Kq;(try simp only [Act.put, si0, si1, si2]);refine a1_ 2 fun Kq hKq => ?_;go_simp;clear hHeld;go_at_call 39; (with_reducible refine (at39_any _ _).mono ?_); rintro e p3 ⟨rfl, hb⟩
    have Pp3 := hd_ (ba_ Pp2.out hb);have CB := hd_ (ab_ CB.out hb);clear hb;refine hKq.out _ _ ?_ (fun hHeld => ?_)
    ·(try dsimp only); exact HS.out _ Pp3.out
    clear hKq Kq;(try simp only [Act.put, si0, si1, si2]);refine ty_ 3 ?_;(try simp only [Act.put, si0, si1, si2]);refine a1_ 4 fun Kq hKq => ?_;go_simp;clear hHeld;go_at_call 15; (with_reducible refine (p_b _ _ (RV.at_ (R1.out.below Pp3.out))).mono ?_); rintro e p4 ⟨na, nb, nc, nd, ne, rfl, hr, hb⟩
    have NR := hd_ hr;clear hr;have Pp4 := hd_ (ba_ Pp3.out hb);have CB := hd_ (ab_ CB.out hb);clear hb;refine hKq.out _ _ ?_ (fun hHeld => ?_)
    ·(try dsimp only); exact HS.out _ Pp4.out
    clear hKq Kq;(try simp only [Act.put, si0, si1, si2]);refine ty_ 5 ?_;refine ty_ 6 ?_;refine ty_ 7 ?_;(try simp only [Act.put, si0, si1, si2]);refine a1_ 9 fun Kq hKq => ?_;clear hHeld;refine au_ (by rfl) (.tmp 3) (.tmp 30) (by rfl) _ gn na nb nc nd ne exB (by rfl) (by rfl) CB.out NR.out ?_; intro p5 k1 k2
    have Pp5 := hd_ (Pp4.out.trans (aj_ k2 LO.out Pp4.out.size));have NB := hd_ k1;clear k1 k2;refine hKq.out _ _ ?_ (fun hHeld => ?_)
    ·(try dsimp only); exact HS.out _ Pp5.out
    clear hKq Kq;(try simp only [Act.put]);refine ty_ 10 ?_;(try simp only [Act.put, si0, si1, si2]);refine wd_ ?_;go_wp2_with fail;go_meet;exact ⟨gn, rfl, rfl, hd_ ((BV.out.keep Pp5.out).more NB.out)⟩
  ·clear hHeld
   refine as_ (by rfl) (by rfl) _ ?_; intro gn p1 k1 hb k3
   have LO := hd_ (Nat.le_trans Pp0.out.size k3);have CB := hd_ k1;clear k1 k3;have Pp1 := hd_ (ba_ Pp0.out hb);clear hb;refine hKq.out _ _ ?_ (fun hHeld => ?_)
   ·(try dsimp only); exact HS.out _ Pp1.out
   clear hKq Kq;(try simp only [Act.put, si0, si1, si2]);refine a1_ 1 fun Kq hKq => ?_;go_simp;clear hHeld;go_at_call 39; (with_reducible refine (at39_any _ _).mono ?_); rintro e p2 ⟨rfl, hb⟩
   have Pp2 := hd_ (ba_ Pp1.out hb);have CB := hd_ (ab_ CB.out hb);clear hb;refine hKq.out _ _ ?_ (fun hHeld => ?_)
   ·(try dsimp only); exact HS.out _ Pp2.out
   clear hKq Kq;(try simp only [Act.put, si0, si1, si2]);refine a1_ 2 fun Kq hKq => ?_;go_simp;clear hHeld;go_at_call 39; (with_reducible refine (at39_any _ _).mono ?_); rintro e p3 ⟨rfl, hb⟩
   have Pp3 := hd_ (ba_ Pp2.out hb);have CB := hd_ (ab_ CB.out hb);clear hb;refine hKq.out _ _ ?_ (fun hHeld => ?_)
   ·(try dsimp only); exact HS.out _ Pp3.out
   clear hKq Kq;(try simp only [Act.put, si0, si1, si2]);refine ty_ 3 ?_;(try simp only [Act.put, si0, si1, si2]);refine a1_ 4 fun Kq hKq => ?_;go_simp;clear hHeld;go_at_call 15; (with_reducible refine (p_b _ _ (RV.at_ (R1.out.below Pp3.out))).mono ?_); rintro e p4 ⟨na, nb, nc, nd, ne, rfl, hr, hb⟩
   have NR := hd_ hr;clear hr;have Pp4 := hd_ (ba_ Pp3.out hb);have CB := hd_ (ab_ CB.out hb);clear hb;refine hKq.out _ _ ?_ (fun hHeld => ?_)
   ·(try dsimp only); exact HS.out _ Pp4.out
   clear hKq Kq;(try simp only [Act.put, si0, si1, si2]);refine ty_ 5 ?_;refine ty_ 6 ?_;refine ty_ 7 ?_;(try simp only [Act.put, si0, si1, si2]);refine a1_ 9 fun Kq hKq => ?_;clear hHeld;refine au_ (by rfl) (.tmp 3) (.tmp 30) (by rfl) _ gn na nb nc nd ne exB (by rfl) (by rfl) CB.out NR.out ?_; intro p5 k1 k2
   have Pp5 := hd_ (Pp4.out.trans (aj_ k2 LO.out Pp4.out.size));have NB := hd_ k1;clear k1 k2;refine hKq.out _ _ ?_ (fun hHeld => ?_)
   ·(try dsimp only); exact HS.out _ Pp5.out
   clear hKq Kq;(try simp only [Act.put]);refine ty_ 10 ?_;(try simp only [Act.put, si0, si1, si2]);refine wd_ ?_;go_wp2_with fail;go_meet;exact ⟨gn, rfl, rfl, hd_ ((BV.out.keep Pp5.out).more NB.out)⟩
 case rest =>
  obtain ⟨g3, rfl, rfl, BV⟩ := hcut;rename World => w5;go_upto_region 3 with fail;go_cut [5, 6] (fun s5 s6 wx => ∃ g, s5 = .pointer (some ⟨g, 0, none⟩) ∧ s6 = .int .i64 0 ∧ Hid (Bv w wx ((g, exC) :: ((g3, exB) :: [(g1, exA)]))))
  case first =>
   obtain ⟨a1, b1, c1, d1, e1, hv1, hr1⟩ := BV.out.has (g := g1) (V := exA) (by simp)
   have HS := hd_ fun w' (hb : Below w5.heap.size w5 w') => aa_ (ab_ hv1 hb)
   have R1 := hd_ hr1;clear hv1 hr1;generalize hWW : w5 = Wq at *;clear hWW;have Pq0 := hd_ (show Below Wq.heap.size Wq Wq.drew from (Below.refl _ _).drew)
   refine wp_region_held_drew (S := (fun w' => (w'.cell? ⟨g1, 0, none⟩ = some (.slice a1.1 a1.2.1 a1.2.2) ∧ w'.cell? ⟨g1, 1, none⟩ = some (.slice b1.1 b1.2.1 b1.2.2) ∧ w'.cell? ⟨g1, 2, none⟩ = some (.slice c1.1 c1.2.1 c1.2.2) ∧ w'.cell? ⟨g1, 3, none⟩ = some (.slice d1.1 d1.2.1 d1.2.2) ∧ w'.cell? ⟨g1, 4, none⟩ = some (.slice e1.1 e1.2.1 e1.2.2)))) (by kernel_rfl) ?_ (fun hHeld => ?_)
   ·exact HS.out _ Pq0.out
   generalize World.drew Wq = q0 at *;refine ty_ 0 ?_;(try simp only [Act.put, si0, si1, si2]);refine ar_ [1, 8] ?_;refine ac_ (fun Kq hKq => ?_) (ac_ (fun Kq hKq => ?_) an_)
   ·go_simp
    clear hHeld;go_at_call 39; (with_reducible refine (at39_any _ _).mono ?_); rintro e q1 ⟨rfl, hb⟩
    have Pq1 := hd_ (ba_ Pq0.out hb);clear hb;refine hKq.out _ _ ?_ (fun hHeld => ?_)
    ·(try dsimp only); exact HS.out _ Pq1.out
    clear hKq Kq;(try simp only [Act.put, si0, si1, si2]);refine ar_ [2, 8] ?_;refine ac_ (fun Kq hKq => ?_) (ac_ (fun Kq hKq => ?_) an_)
    ·go_simp
     clear hHeld;go_at_call 39; (with_reducible refine (at39_any _ _).mono ?_); rintro e q2 ⟨rfl, hb⟩
     have Pq2 := hd_ (ba_ Pq1.out hb);clear hb;refine hKq.out _ _ ?_ (fun hHeld => ?_)
     ·(try dsimp only); exact HS.out _ Pq2.out
     clear hKq Kq;(try simp only [Act.put, si0, si1, si2]);refine ty_ 3 ?_;(try simp only [Act.put, si0, si1, si2]);refine ar_ [4, 8] ?_;refine ac_ (fun Kq hKq => ?_) (ac_ (fun Kq hKq => ?_) an_)
     ·go_simp
      clear hHeld;go_at_call 15; (with_reducible refine (p_c _ _ (RV.at_ (R1.out.below Pq2.out))).mono ?_); rintro e q3 ⟨na, nb, nc, nd, ne, rfl, hr, hb⟩
      have NR := hd_ hr;clear hr;have Pq3 := hd_ (ba_ Pq2.out hb);clear hb;refine hKq.out _ _ ?_ (fun hHeld => ?_)
      ·(try dsimp only); exact HS.out _ Pq3.out
      clear hKq Kq;(try simp only [Act.put, si0, si1, si2]);refine ty_ 5 ?_;refine ty_ 6 ?_;refine ty_ 7 ?_;(try simp only [Act.put, si0, si1, si2]);refine a1_ 8 fun Kq hKq => ?_;clear hHeld;refine as_ (by rfl) (by rfl) _ ?_; intro gn q4 k1 hb k3
      have LO := hd_ (Nat.le_trans Pq3.out.size k3);have CB := hd_ k1;clear k1 k3;have Pq4 := hd_ (ba_ Pq3.out hb);have NR := hd_ (NR.out.below hb);clear hb;refine hKq.out _ _ ?_ (fun hHeld => ?_)
      ·(try dsimp only); exact HS.out _ Pq4.out
      clear hKq Kq;(try simp only [Act.put, si0, si1, si2]);refine a1_ 9 fun Kq hKq => ?_;clear hHeld;refine au_ (by rfl) (.tmp 5) (.tmp 38) (by rfl) _ gn na nb nc nd ne exC (by rfl) (by rfl) CB.out NR.out ?_; intro q5 k1 k2
      have Pq5 := hd_ (Pq4.out.trans (aj_ k2 LO.out Pq4.out.size));have NB := hd_ k1;clear k1 k2;refine hKq.out _ _ ?_ (fun hHeld => ?_)
      ·(try dsimp only); exact HS.out _ Pq5.out
      clear hKq Kq;(try simp only [Act.put]);refine ty_ 10 ?_;(try simp only [Act.put, si0, si1, si2]);refine wd_ ?_;go_wp2_with fail;go_meet;exact ⟨gn, rfl, rfl, hd_ ((BV.out.keep Pq5.out).more NB.out)⟩
     ·clear hHeld
      refine as_ (by rfl) (by rfl) _ ?_; intro gn q3 k1 hb k3
      have LO := hd_ (Nat.le_trans Pq2.out.size k3);have CB := hd_ k1;clear k1 k3;have Pq3 := hd_ (ba_ Pq2.out hb);clear hb;refine hKq.out _ _ ?_ (fun hHeld => ?_)
      ·(try dsimp only); exact HS.out _ Pq3.out
      clear hKq Kq;(try simp only [Act.put, si0, si1, si2]);refine a1_ 4 fun Kq hKq => ?_;go_simp;clear hHeld;go_at_call 15; (with_reducible refine (p_c _ _ (RV.at_ (R1.out.below Pq3.out))).mono ?_); rintro e q4 ⟨na, nb, nc, nd, ne, rfl, hr, hb⟩
      have NR := hd_ hr;clear hr;have Pq4 := hd_ (ba_ Pq3.out hb);have CB := hd_ (ab_ CB.out hb);clear hb;refine hKq.out _ _ ?_ (fun hHeld => ?_)
      ·(try dsimp only); exact HS.out _ Pq4.out
      clear hKq Kq;(try simp only [Act.put, si0, si1, si2]);refine ty_ 5 ?_;refine ty_ 6 ?_;refine ty_ 7 ?_;(try simp only [Act.put, si0, si1, si2]);refine a1_ 9 fun Kq hKq => ?_;clear hHeld;refine au_ (by rfl) (.tmp 5) (.tmp 38) (by rfl) _ gn na nb nc nd ne exC (by rfl) (by rfl) CB.out NR.out ?_; intro q5 k1 k2
      have Pq5 := hd_ (Pq4.out.trans (aj_ k2 LO.out Pq4.out.size));have NB := hd_ k1;clear k1 k2;refine hKq.out _ _ ?_ (fun hHeld => ?_)
      ·(try dsimp only); exact HS.out _ Pq5.out
      clear hKq Kq;(try simp only [Act.put]);refine ty_ 10 ?_;(try simp only [Act.put, si0, si1, si2]);refine wd_ ?_;go_wp2_with fail;go_meet;exact ⟨gn, rfl, rfl, hd_ ((BV.out.keep Pq5.out).more NB.out)⟩
    ·clear hHeld
     refine as_ (by rfl) (by rfl) _ ?_; intro gn q2 k1 hb k3
     have LO := hd_ (Nat.le_trans Pq1.out.size k3);have CB := hd_ k1;clear k1 k3;have Pq2 := hd_ (ba_ Pq1.out hb);clear hb;refine hKq.out _ _ ?_ (fun hHeld => ?_)
     ·(try dsimp only); exact HS.out _ Pq2.out
     clear hKq Kq;(try simp only [Act.put, si0, si1, si2]);refine a1_ 2 fun Kq hKq => ?_;go_simp;clear hHeld;go_at_call 39; (with_reducible refine (at39_any _ _).mono ?_); rintro e q3 ⟨rfl, hb⟩
     have Pq3 := hd_ (ba_ Pq2.out hb);have CB := hd_ (ab_ CB.out hb);clear hb;refine hKq.out _ _ ?_ (fun hHeld => ?_)
     ·(try dsimp only); exact HS.out _ Pq3.out
     clear hKq Kq;(try simp only [Act.put, si0, si1, si2]);refine ty_ 3 ?_;(try simp only [Act.put, si0, si1, si2]);refine a1_ 4 fun Kq hKq => ?_;go_simp;clear hHeld;go_at_call 15; (with_reducible refine (p_c _ _ (RV.at_ (R1.out.below Pq3.out))).mono ?_); rintro e q4 ⟨na, nb, nc, nd, ne, rfl, hr, hb⟩
     have NR := hd_ hr;clear hr;have Pq4 := hd_ (ba_ Pq3.out hb);have CB := hd_ (ab_ CB.out hb);clear hb;refine hKq.out _ _ ?_ (fun hHeld => ?_)
     ·(try dsimp only); exact HS.out _ Pq4.out
     clear hKq Kq;(try simp only [Act.put, si0, si1, si2]);refine ty_ 5 ?_;refine ty_ 6 ?_;refine ty_ 7 ?_;(try simp only [Act.put, si0, si1, si2]);refine a1_ 9 fun Kq hKq => ?_;clear hHeld;refine au_ (by rfl) (.tmp 5) (.tmp 38) (by rfl) _ gn na nb nc nd ne exC (by rfl) (by rfl) CB.out NR.out ?_; intro q5 k1 k2
     have Pq5 := hd_ (Pq4.out.trans (aj_ k2 LO.out Pq4.out.size));have NB := hd_ k1;clear k1 k2;refine hKq.out _ _ ?_ (fun hHeld => ?_)
     ·(try dsimp only); exact HS.out _ Pq5.out
     clear hKq Kq;(try simp only [Act.put]);refine ty_ 10 ?_;(try simp only [Act.put, si0, si1, si2]);refine wd_ ?_;go_wp2_with fail;go_meet;exact ⟨gn, rfl, rfl, hd_ ((BV.out.keep Pq5.out).more NB.out)⟩
   ·clear hHeld
    refine as_ (by rfl) (by rfl) _ ?_; intro gn q1 k1 hb k3
    have LO := hd_ (Nat.le_trans Pq0.out.size k3);have CB := hd_ k1;clear k1 k3;have Pq1 := hd_ (ba_ Pq0.out hb);clear hb;refine hKq.out _ _ ?_ (fun hHeld => ?_)
    ·(try dsimp only); exact HS.out _ Pq1.out
    clear hKq Kq;(try simp only [Act.put, si0, si1, si2]);refine a1_ 1 fun Kq hKq => ?_;go_simp;clear hHeld;go_at_call 39; (with_reducible refine (at39_any _ _).mono ?_); rintro e q2 ⟨rfl, hb⟩
    have Pq2 := hd_ (ba_ Pq1.out hb);have CB := hd_ (ab_ CB.out hb);clear hb;refine hKq.out _ _ ?_ (fun hHeld => ?_)
    ·(try dsimp only); exact HS.out _ Pq2.out
    clear hKq Kq;(try simp only [Act.put, si0, si1, si2]);refine a1_ 2 fun Kq hKq => ?_;go_simp;clear hHeld;go_at_call 39; (with_reducible refine (at39_any _ _).mono ?_); rintro e q3 ⟨rfl, hb⟩
    have Pq3 := hd_ (ba_ Pq2.out hb);have CB := hd_ (ab_ CB.out hb);clear hb;refine hKq.out _ _ ?_ (fun hHeld => ?_)
    ·(try dsimp only); exact HS.out _ Pq3.out
    clear hKq Kq;(try simp only [Act.put, si0, si1, si2]);refine ty_ 3 ?_;(try simp only [Act.put, si0, si1, si2]);refine a1_ 4 fun Kq hKq => ?_;go_simp;clear hHeld;go_at_call 15; (with_reducible refine (p_c _ _ (RV.at_ (R1.out.below Pq3.out))).mono ?_); rintro e q4 ⟨na, nb, nc, nd, ne, rfl, hr, hb⟩
    have NR := hd_ hr;clear hr;have Pq4 := hd_ (ba_ Pq3.out hb);have CB := hd_ (ab_ CB.out hb);clear hb;refine hKq.out _ _ ?_ (fun hHeld => ?_)
    ·(try dsimp only); exact HS.out _ Pq4.out
    clear hKq Kq;(try simp only [Act.put, si0, si1, si2]);refine ty_ 5 ?_;refine ty_ 6 ?_;refine ty_ 7 ?_;(try simp only [Act.put, si0, si1, si2]);refine a1_ 9 fun Kq hKq => ?_;clear hHeld;refine au_ (by rfl) (.tmp 5) (.tmp 38) (by rfl) _ gn na nb nc nd ne exC (by rfl) (by rfl) CB.out NR.out ?_; intro q5 k1 k2
    have Pq5 := hd_ (Pq4.out.trans (aj_ k2 LO.out Pq4.out.size));have NB := hd_ k1;clear k1 k2;refine hKq.out _ _ ?_ (fun hHeld => ?_)
    ·(try dsimp only); exact HS.out _ Pq5.out
    clear hKq Kq;(try simp only [Act.put]);refine ty_ 10 ?_;(try simp only [Act.put, si0, si1, si2]);refine wd_ ?_;go_wp2_with fail;go_meet;exact ⟨gn, rfl, rfl, hd_ ((BV.out.keep Pq5.out).more NB.out)⟩
  case rest =>
   obtain ⟨g5, rfl, rfl, BV⟩ := hcut;rename World => w6;go_upto_region 4 with fail;go_cut [8, 9] (fun s8 s9 wx => s8 = .int .u8 3 ∧ s9 = .int .i64 0 ∧ Hid (Bv w wx ((g5, exC) :: ((g3, exB) :: [(g1, exA)]))))
   case first =>
    obtain ⟨a3, b3, c3, d3, e3, hv3, hr3⟩ := BV.out.has (g := g3) (V := exB) (by simp)
    have HS := hd_ fun w' (hb : Below w6.heap.size w6 w') => aa_ (ab_ hv3 hb)
    have R3 := hd_ hr3;clear hv3 hr3;generalize hWW : w6 = Wr at *;clear hWW;have Pr0 := hd_ (show Below Wr.heap.size Wr Wr.drew from (Below.refl _ _).drew)
    refine wp_region_held_drew (S := (fun w' => (w'.cell? ⟨g3, 0, none⟩ = some (.slice a3.1 a3.2.1 a3.2.2) ∧ w'.cell? ⟨g3, 1, none⟩ = some (.slice b3.1 b3.2.1 b3.2.2) ∧ w'.cell? ⟨g3, 2, none⟩ = some (.slice c3.1 c3.2.1 c3.2.2) ∧ w'.cell? ⟨g3, 3, none⟩ = some (.slice d3.1 d3.2.1 d3.2.2) ∧ w'.cell? ⟨g3, 4, none⟩ = some (.slice e3.1 e3.2.1 e3.2.2)))) (by kernel_rfl) ?_ (fun hHeld => ?_)
    ·exact HS.out _ Pr0.out
    generalize World.drew Wr = r0 at *;refine ty_ 0 ?_;refine ty_ 2 ?_;(try simp only [Act.put, si0, si1, si2]);refine ar_ [1, 10] ?_;refine ac_ (fun Kq hKq => ?_) (ac_ (fun Kq hKq => ?_) an_)
    ·go_simp
     clear hHeld;go_at_call 39; (with_reducible refine (at39_any _ _).mono ?_); rintro e r1 ⟨rfl, hb⟩
     have Pr1 := hd_ (ba_ Pr0.out hb);clear hb;refine hKq.out _ _ ?_ (fun hHeld => ?_)
     ·(try dsimp only); exact HS.out _ Pr1.out
     clear hKq Kq;(try simp only [Act.put, si0, si1, si2]);refine ar_ [3, 10] ?_;refine ac_ (fun Kq hKq => ?_) (ac_ (fun Kq hKq => ?_) an_)
     ·go_simp
      clear hHeld;go_at_call 35; (with_reducible refine (part_any _ exB _ (RV.at_ (R3.out.below Pr1.out)) (fitM _ fit_b)).mono ?_); rintro e r2 ⟨X, rfl, hx, hb⟩; obtain ⟨pa, pb, pc, pd, pe, rfl, hr⟩ := hx
      have PR := hd_ hr;clear hr;have Pr2 := hd_ (ba_ Pr1.out hb);clear hb;refine hKq.out _ _ ?_ (fun hHeld => ?_)
      ·(try dsimp only); exact HS.out _ Pr2.out
      clear hKq Kq;(try simp only [Act.put, si0, si1, si2]);refine ty_ 4 ?_;(try simp only [Act.put, si0, si1, si2]);refine ar_ [5, 10] ?_;refine ac_ (fun Kq hKq => ?_) (ac_ (fun Kq hKq => ?_) an_)
      ·go_simp
       clear hHeld;go_at_call 31; (with_reducible refine (t_bb _ pa pb pc pd pe _ (RV.at_ (R3.out.below Pr2.out)) (PR.out)).mono ?_); rintro e r3 ⟨na, nb, nc, nd, ne, rfl, hr, hb⟩
       have NR := hd_ hr;clear hr;have Pr3 := hd_ (ba_ Pr2.out hb);have PR := hd_ (PR.out.below hb);clear hb;refine hKq.out _ _ ?_ (fun hHeld => ?_)
       ·(try dsimp only); exact HS.out _ Pr3.out
       clear hKq Kq;(try simp only [Act.put, si0, si1, si2]);refine ty_ 6 ?_;refine ty_ 7 ?_;refine ty_ 8 ?_;refine ty_ 9 ?_;(try simp only [Act.put, si0, si1, si2]);refine a1_ 10 fun Kq hKq => ?_;clear hHeld;refine as_ (by rfl) (by rfl) _ ?_; intro gn r4 k1 hb k3
       have LO := hd_ (Nat.le_trans Pr3.out.size k3);have CB := hd_ k1;clear k1 k3;have Pr4 := hd_ (ba_ Pr3.out hb);have NR := hd_ (NR.out.below hb);clear hb;refine hKq.out _ _ ?_ (fun hHeld => ?_)
       ·(try dsimp only); exact HS.out _ Pr4.out
       clear hKq Kq;(try simp only [Act.put, si0, si1, si2]);refine a1_ 11 fun Kq hKq => ?_;clear hHeld;refine au_ (by rfl) (.tmp 7) (.tmp 47) (by rfl) _ gn na nb nc nd ne (toldP 3 exB (partV exB) 2 1).1 (by rfl) (by rfl) CB.out NR.out ?_; intro r5 k1 k2
       have Pr5 := hd_ (Pr4.out.trans (aj_ k2 LO.out Pr4.out.size));have NB := hd_ k1;clear k1 k2;refine hKq.out _ _ ?_ (fun hHeld => ?_)
       ·(try dsimp only); exact HS.out _ Pr5.out
       clear hKq Kq;(try simp only [Act.put]);refine ty_ 12 ?_;refine ty_ 13 ?_;(try simp only [Act.put, si0, si1, si2]);refine wd_ ?_;go_wp2_with fail;go_meet;exact ⟨rfl, rfl, hd_ (BV.out.keep Pr5.out)⟩
      ·clear hHeld
       refine as_ (by rfl) (by rfl) _ ?_; intro gn r3 k1 hb k3
       have LO := hd_ (Nat.le_trans Pr2.out.size k3);have CB := hd_ k1;clear k1 k3;have Pr3 := hd_ (ba_ Pr2.out hb);have PR := hd_ (PR.out.below hb);clear hb;refine hKq.out _ _ ?_ (fun hHeld => ?_)
       ·(try dsimp only); exact HS.out _ Pr3.out
       clear hKq Kq;(try simp only [Act.put, si0, si1, si2]);refine a1_ 5 fun Kq hKq => ?_;go_simp;clear hHeld;go_at_call 31; (with_reducible refine (t_bb _ pa pb pc pd pe _ (RV.at_ (R3.out.below Pr3.out)) (PR.out)).mono ?_); rintro e r4 ⟨na, nb, nc, nd, ne, rfl, hr, hb⟩
       have NR := hd_ hr;clear hr;have Pr4 := hd_ (ba_ Pr3.out hb);have CB := hd_ (ab_ CB.out hb);have PR := hd_ (PR.out.below hb);clear hb;refine hKq.out _ _ ?_ (fun hHeld => ?_)
       ·(try dsimp only); exact HS.out _ Pr4.out
       clear hKq Kq;(try simp only [Act.put, si0, si1, si2]);refine ty_ 6 ?_;refine ty_ 7 ?_;refine ty_ 8 ?_;refine ty_ 9 ?_;(try simp only [Act.put, si0, si1, si2]);refine a1_ 11 fun Kq hKq => ?_;clear hHeld;refine au_ (by rfl) (.tmp 7) (.tmp 47) (by rfl) _ gn na nb nc nd ne (toldP 3 exB (partV exB) 2 1).1 (by rfl) (by rfl) CB.out NR.out ?_; intro r5 k1 k2
       have Pr5 := hd_ (Pr4.out.trans (aj_ k2 LO.out Pr4.out.size));have NB := hd_ k1;clear k1 k2;refine hKq.out _ _ ?_ (fun hHeld => ?_)
       ·(try dsimp only); exact HS.out _ Pr5.out
       clear hKq Kq;(try simp only [Act.put]);refine ty_ 12 ?_;refine ty_ 13 ?_;(try simp only [Act.put, si0, si1, si2]);refine wd_ ?_;go_wp2_with fail;go_meet;exact ⟨rfl, rfl, hd_ (BV.out.keep Pr5.out)⟩
     ·clear hHeld
      refine as_ (by rfl) (by rfl) _ ?_; intro gn r2 k1 hb k3
      have LO := hd_ (Nat.le_trans Pr1.out.size k3);have CB := hd_ k1;clear k1 k3;have Pr2 := hd_ (ba_ Pr1.out hb);clear hb;refine hKq.out _ _ ?_ (fun hHeld => ?_)
      ·(try dsimp only); exact HS.out _ Pr2.out
      clear hKq Kq;(try simp only [Act.put, si0, si1, si2]);refine a1_ 3 fun Kq hKq => ?_;go_simp;clear hHeld;go_at_call 35; (with_reducible refine (part_any _ exB _ (RV.at_ (R3.out.below Pr2.out)) (fitM _ fit_b)).mono ?_); rintro e r3 ⟨X, rfl, hx, hb⟩; obtain ⟨pa, pb, pc, pd, pe, rfl, hr⟩ := hx
      have PR := hd_ hr;clear hr;have Pr3 := hd_ (ba_ Pr2.out hb);have CB := hd_ (ab_ CB.out hb);clear hb;refine hKq.out _ _ ?_ (fun hHeld => ?_)
      ·(try dsimp only); exact HS.out _ Pr3.out
      clear hKq Kq;(try simp only [Act.put, si0, si1, si2]);refine ty_ 4 ?_;(try simp only [Act.put, si0, si1, si2]);refine a1_ 5 fun Kq hKq => ?_;go_simp;clear hHeld;go_at_call 31; (with_reducible refine (t_bb _ pa pb pc pd pe _ (RV.at_ (R3.out.below Pr3.out)) (PR.out)).mono ?_); rintro e r4 ⟨na, nb, nc, nd, ne, rfl, hr, hb⟩
      have NR := hd_ hr;clear hr;have Pr4 := hd_ (ba_ Pr3.out hb);have CB := hd_ (ab_ CB.out hb);have PR := hd_ (PR.out.below hb);clear hb;refine hKq.out _ _ ?_ (fun hHeld => ?_)
      ·(try dsimp only); exact HS.out _ Pr4.out
      clear hKq Kq;(try simp only [Act.put, si0, si1, si2]);refine ty_ 6 ?_;refine ty_ 7 ?_;refine ty_ 8 ?_;refine ty_ 9 ?_;(try simp only [Act.put, si0, si1, si2]);refine a1_ 11 fun Kq hKq => ?_;clear hHeld;refine au_ (by rfl) (.tmp 7) (.tmp 47) (by rfl) _ gn na nb nc nd ne (toldP 3 exB (partV exB) 2 1).1 (by rfl) (by rfl) CB.out NR.out ?_; intro r5 k1 k2
      have Pr5 := hd_ (Pr4.out.trans (aj_ k2 LO.out Pr4.out.size));have NB := hd_ k1;clear k1 k2;refine hKq.out _ _ ?_ (fun hHeld => ?_)
      ·(try dsimp only); exact HS.out _ Pr5.out
      clear hKq Kq;(try simp only [Act.put]);refine ty_ 12 ?_;refine ty_ 13 ?_;(try simp only [Act.put, si0, si1, si2]);refine wd_ ?_;go_wp2_with fail;go_meet;exact ⟨rfl, rfl, hd_ (BV.out.keep Pr5.out)⟩
    ·clear hHeld
     refine as_ (by rfl) (by rfl) _ ?_; intro gn r1 k1 hb k3
     have LO := hd_ (Nat.le_trans Pr0.out.size k3);have CB := hd_ k1;clear k1 k3;have Pr1 := hd_ (ba_ Pr0.out hb);clear hb;refine hKq.out _ _ ?_ (fun hHeld => ?_)
     ·(try dsimp only); exact HS.out _ Pr1.out
     clear hKq Kq;(try simp only [Act.put, si0, si1, si2]);refine a1_ 1 fun Kq hKq => ?_;go_simp;clear hHeld;go_at_call 39; (with_reducible refine (at39_any _ _).mono ?_); rintro e r2 ⟨rfl, hb⟩
     have Pr2 := hd_ (ba_ Pr1.out hb);have CB := hd_ (ab_ CB.out hb);clear hb;refine hKq.out _ _ ?_ (fun hHeld => ?_)
     ·(try dsimp only); exact HS.out _ Pr2.out
     clear hKq Kq;(try simp only [Act.put, si0, si1, si2]);refine a1_ 3 fun Kq hKq => ?_;go_simp;clear hHeld;go_at_call 35; (with_reducible refine (part_any _ exB _ (RV.at_ (R3.out.below Pr2.out)) (fitM _ fit_b)).mono ?_); rintro e r3 ⟨X, rfl, hx, hb⟩; obtain ⟨pa, pb, pc, pd, pe, rfl, hr⟩ := hx
     have PR := hd_ hr;clear hr;have Pr3 := hd_ (ba_ Pr2.out hb);have CB := hd_ (ab_ CB.out hb);clear hb;refine hKq.out _ _ ?_ (fun hHeld => ?_)
     ·(try dsimp only); exact HS.out _ Pr3.out
     clear hKq Kq;(try simp only [Act.put, si0, si1, si2]);refine ty_ 4 ?_;(try simp only [Act.put, si0, si1, si2]);refine a1_ 5 fun Kq hKq => ?_;go_simp;clear hHeld;go_at_call 31; (with_reducible refine (t_bb _ pa pb pc pd pe _ (RV.at_ (R3.out.below Pr3.out)) (PR.out)).mono ?_); rintro e r4 ⟨na, nb, nc, nd, ne, rfl, hr, hb⟩
     have NR := hd_ hr;clear hr;have Pr4 := hd_ (ba_ Pr3.out hb);have CB := hd_ (ab_ CB.out hb);have PR := hd_ (PR.out.below hb);clear hb;refine hKq.out _ _ ?_ (fun hHeld => ?_)
     ·(try dsimp only); exact HS.out _ Pr4.out
     clear hKq Kq;(try simp only [Act.put, si0, si1, si2]);refine ty_ 6 ?_;refine ty_ 7 ?_;refine ty_ 8 ?_;refine ty_ 9 ?_;(try simp only [Act.put, si0, si1, si2]);refine a1_ 11 fun Kq hKq => ?_;clear hHeld;refine au_ (by rfl) (.tmp 7) (.tmp 47) (by rfl) _ gn na nb nc nd ne (toldP 3 exB (partV exB) 2 1).1 (by rfl) (by rfl) CB.out NR.out ?_; intro r5 k1 k2
     have Pr5 := hd_ (Pr4.out.trans (aj_ k2 LO.out Pr4.out.size));have NB := hd_ k1;clear k1 k2;refine hKq.out _ _ ?_ (fun hHeld => ?_)
     ·(try dsimp only); exact HS.out _ Pr5.out
     clear hKq Kq;(try simp only [Act.put]);refine ty_ 12 ?_;refine ty_ 13 ?_;(try simp only [Act.put, si0, si1, si2]);refine wd_ ?_;go_wp2_with fail;go_meet;exact ⟨rfl, rfl, hd_ (BV.out.keep Pr5.out)⟩
   case rest =>
    obtain ⟨rfl, rfl, BV⟩ := hcut;rename World => w7;go_upto_region 5 with fail;go_cut [11, 12] (fun s11 s12 wx => s11 = .int .u8 4 ∧ s12 = .int .i64 0 ∧ Hid (Bv w wx ((g5, exC) :: ((g3, exB) :: [(g1, exA)]))))
    case first =>
     obtain ⟨a3, b3, c3, d3, e3, hv3, hr3⟩ := BV.out.has (g := g3) (V := exB) (by simp)
     obtain ⟨a1, b1, c1, d1, e1, hv1, hr1⟩ := BV.out.has (g := g1) (V := exA) (by simp)
     have HS := hd_ fun w' (hb : Below w7.heap.size w7 w') => And.intro (aa_ (ab_ hv3 hb)) (aa_ (ab_ hv1 hb))
     have R3 := hd_ hr3;have R1 := hd_ hr1;clear hv3 hr3 hv1 hr1;generalize hWW : w7 = Ws at *;clear hWW;have Ps0 := hd_ (show Below Ws.heap.size Ws Ws.drew from (Below.refl _ _).drew)
     refine wp_region_held_drew (S := (fun w' => (w'.cell? ⟨g3, 0, none⟩ = some (.slice a3.1 a3.2.1 a3.2.2) ∧ w'.cell? ⟨g3, 1, none⟩ = some (.slice b3.1 b3.2.1 b3.2.2) ∧ w'.cell? ⟨g3, 2, none⟩ = some (.slice c3.1 c3.2.1 c3.2.2) ∧ w'.cell? ⟨g3, 3, none⟩ = some (.slice d3.1 d3.2.1 d3.2.2) ∧ w'.cell? ⟨g3, 4, none⟩ = some (.slice e3.1 e3.2.1 e3.2.2)) ∧ (w'.cell? ⟨g1, 0, none⟩ = some (.slice a1.1 a1.2.1 a1.2.2) ∧ w'.cell? ⟨g1, 1, none⟩ = some (.slice b1.1 b1.2.1 b1.2.2) ∧ w'.cell? ⟨g1, 2, none⟩ = some (.slice c1.1 c1.2.1 c1.2.2) ∧ w'.cell? ⟨g1, 3, none⟩ = some (.slice d1.1 d1.2.1 d1.2.2) ∧ w'.cell? ⟨g1, 4, none⟩ = some (.slice e1.1 e1.2.1 e1.2.2)))) (by kernel_rfl) ?_ (fun hHeld => ?_)
     ·exact HS.out _ Ps0.out
     generalize World.drew Ws = s0 at *;refine ty_ 0 ?_;refine ty_ 2 ?_;(try simp only [Act.put, si0, si1, si2]);refine ar_ [1, 10] ?_;refine ac_ (fun Kq hKq => ?_) (ac_ (fun Kq hKq => ?_) an_)
     ·go_simp
      clear hHeld;go_at_call 39; (with_reducible refine (at39_any _ _).mono ?_); rintro e s1 ⟨rfl, hb⟩
      have Ps1 := hd_ (ba_ Ps0.out hb);clear hb;refine hKq.out _ _ ?_ (fun hHeld => ?_)
      ·(try dsimp only); exact HS.out _ Ps1.out
      clear hKq Kq;(try simp only [Act.put, si0, si1, si2]);refine ar_ [3, 10] ?_;refine ac_ (fun Kq hKq => ?_) (ac_ (fun Kq hKq => ?_) an_)
      ·go_simp
       clear hHeld;go_at_call 35; (with_reducible refine (part_any _ exA _ (RV.at_ (R1.out.below Ps1.out)) (fitM _ fit_a)).mono ?_); rintro e s2 ⟨X, rfl, hx, hb⟩; obtain ⟨pa, pb, pc, pd, pe, rfl, hr⟩ := hx
       have PR := hd_ hr;clear hr;have Ps2 := hd_ (ba_ Ps1.out hb);clear hb;refine hKq.out _ _ ?_ (fun hHeld => ?_)
       ·(try dsimp only); exact HS.out _ Ps2.out
       clear hKq Kq;(try simp only [Act.put, si0, si1, si2]);refine ty_ 4 ?_;(try simp only [Act.put, si0, si1, si2]);refine ar_ [5, 10] ?_;refine ac_ (fun Kq hKq => ?_) (ac_ (fun Kq hKq => ?_) an_)
       ·go_simp
        clear hHeld;go_at_call 31; (with_reducible refine (t_ba _ pa pb pc pd pe _ (RV.at_ (R3.out.below Ps2.out)) (PR.out)).mono ?_); rintro e s3 ⟨na, nb, nc, nd, ne, rfl, hr, hb⟩
        have NR := hd_ hr;clear hr;have Ps3 := hd_ (ba_ Ps2.out hb);have PR := hd_ (PR.out.below hb);clear hb;refine hKq.out _ _ ?_ (fun hHeld => ?_)
        ·(try dsimp only); exact HS.out _ Ps3.out
        clear hKq Kq;(try simp only [Act.put, si0, si1, si2]);refine ty_ 6 ?_;refine ty_ 7 ?_;refine ty_ 8 ?_;refine ty_ 9 ?_;(try simp only [Act.put, si0, si1, si2]);refine a1_ 10 fun Kq hKq => ?_;clear hHeld;refine as_ (by rfl) (by rfl) _ ?_; intro gn s4 k1 hb k3
        have LO := hd_ (Nat.le_trans Ps3.out.size k3);have CB := hd_ k1;clear k1 k3;have Ps4 := hd_ (ba_ Ps3.out hb);have NR := hd_ (NR.out.below hb);clear hb;refine hKq.out _ _ ?_ (fun hHeld => ?_)
        ·(try dsimp only); exact HS.out _ Ps4.out
        clear hKq Kq;(try simp only [Act.put, si0, si1, si2]);refine a1_ 11 fun Kq hKq => ?_;clear hHeld;refine au_ (by rfl) (.tmp 10) (.tmp 57) (by rfl) _ gn na nb nc nd ne (toldP 3 exB (partV exA) 2 1).1 (by rfl) (by rfl) CB.out NR.out ?_; intro s5 k1 k2
        have Ps5 := hd_ (Ps4.out.trans (aj_ k2 LO.out Ps4.out.size));have NB := hd_ k1;clear k1 k2;refine hKq.out _ _ ?_ (fun hHeld => ?_)
        ·(try dsimp only); exact HS.out _ Ps5.out
        clear hKq Kq;(try simp only [Act.put]);refine ty_ 12 ?_;refine ty_ 13 ?_;(try simp only [Act.put, si0, si1, si2]);refine wd_ ?_;go_wp2_with fail;go_meet;exact ⟨rfl, rfl, hd_ (BV.out.keep Ps5.out)⟩
       ·clear hHeld
        refine as_ (by rfl) (by rfl) _ ?_; intro gn s3 k1 hb k3
        have LO := hd_ (Nat.le_trans Ps2.out.size k3);have CB := hd_ k1;clear k1 k3;have Ps3 := hd_ (ba_ Ps2.out hb);have PR := hd_ (PR.out.below hb);clear hb;refine hKq.out _ _ ?_ (fun hHeld => ?_)
        ·(try dsimp only); exact HS.out _ Ps3.out
        clear hKq Kq;(try simp only [Act.put, si0, si1, si2]);refine a1_ 5 fun Kq hKq => ?_;go_simp;clear hHeld;go_at_call 31; (with_reducible refine (t_ba _ pa pb pc pd pe _ (RV.at_ (R3.out.below Ps3.out)) (PR.out)).mono ?_); rintro e s4 ⟨na, nb, nc, nd, ne, rfl, hr, hb⟩
        have NR := hd_ hr;clear hr;have Ps4 := hd_ (ba_ Ps3.out hb);have CB := hd_ (ab_ CB.out hb);have PR := hd_ (PR.out.below hb);clear hb;refine hKq.out _ _ ?_ (fun hHeld => ?_)
        ·(try dsimp only); exact HS.out _ Ps4.out
        clear hKq Kq;(try simp only [Act.put, si0, si1, si2]);refine ty_ 6 ?_;refine ty_ 7 ?_;refine ty_ 8 ?_;refine ty_ 9 ?_;(try simp only [Act.put, si0, si1, si2]);refine a1_ 11 fun Kq hKq => ?_;clear hHeld;refine au_ (by rfl) (.tmp 10) (.tmp 57) (by rfl) _ gn na nb nc nd ne (toldP 3 exB (partV exA) 2 1).1 (by rfl) (by rfl) CB.out NR.out ?_; intro s5 k1 k2
        have Ps5 := hd_ (Ps4.out.trans (aj_ k2 LO.out Ps4.out.size));have NB := hd_ k1;clear k1 k2;refine hKq.out _ _ ?_ (fun hHeld => ?_)
        ·(try dsimp only); exact HS.out _ Ps5.out
        clear hKq Kq;(try simp only [Act.put]);refine ty_ 12 ?_;refine ty_ 13 ?_;(try simp only [Act.put, si0, si1, si2]);refine wd_ ?_;go_wp2_with fail;go_meet;exact ⟨rfl, rfl, hd_ (BV.out.keep Ps5.out)⟩
      ·clear hHeld
       refine as_ (by rfl) (by rfl) _ ?_; intro gn s2 k1 hb k3
       have LO := hd_ (Nat.le_trans Ps1.out.size k3);have CB := hd_ k1;clear k1 k3;have Ps2 := hd_ (ba_ Ps1.out hb);clear hb;refine hKq.out _ _ ?_ (fun hHeld => ?_)
       ·(try dsimp only); exact HS.out _ Ps2.out
       clear hKq Kq;(try simp only [Act.put, si0, si1, si2]);refine a1_ 3 fun Kq hKq => ?_;go_simp;clear hHeld;go_at_call 35; (with_reducible refine (part_any _ exA _ (RV.at_ (R1.out.below Ps2.out)) (fitM _ fit_a)).mono ?_); rintro e s3 ⟨X, rfl, hx, hb⟩; obtain ⟨pa, pb, pc, pd, pe, rfl, hr⟩ := hx
       have PR := hd_ hr;clear hr;have Ps3 := hd_ (ba_ Ps2.out hb);have CB := hd_ (ab_ CB.out hb);clear hb;refine hKq.out _ _ ?_ (fun hHeld => ?_)
       ·(try dsimp only); exact HS.out _ Ps3.out
       clear hKq Kq;(try simp only [Act.put, si0, si1, si2]);refine ty_ 4 ?_;(try simp only [Act.put, si0, si1, si2]);refine a1_ 5 fun Kq hKq => ?_;go_simp;clear hHeld;go_at_call 31; (with_reducible refine (t_ba _ pa pb pc pd pe _ (RV.at_ (R3.out.below Ps3.out)) (PR.out)).mono ?_); rintro e s4 ⟨na, nb, nc, nd, ne, rfl, hr, hb⟩
       have NR := hd_ hr;clear hr;have Ps4 := hd_ (ba_ Ps3.out hb);have CB := hd_ (ab_ CB.out hb);have PR := hd_ (PR.out.below hb);clear hb;refine hKq.out _ _ ?_ (fun hHeld => ?_)
       ·(try dsimp only); exact HS.out _ Ps4.out
       clear hKq Kq;(try simp only [Act.put, si0, si1, si2]);refine ty_ 6 ?_;refine ty_ 7 ?_;refine ty_ 8 ?_;refine ty_ 9 ?_;(try simp only [Act.put, si0, si1, si2]);refine a1_ 11 fun Kq hKq => ?_;clear hHeld;refine au_ (by rfl) (.tmp 10) (.tmp 57) (by rfl) _ gn na nb nc nd ne (toldP 3 exB (partV exA) 2 1).1 (by rfl) (by rfl) CB.out NR.out ?_; intro s5 k1 k2
       have Ps5 := hd_ (Ps4.out.trans (aj_ k2 LO.out Ps4.out.size));have NB := hd_ k1;clear k1 k2;refine hKq.out _ _ ?_ (fun hHeld => ?_)
       ·(try dsimp only); exact HS.out _ Ps5.out
       clear hKq Kq;(try simp only [Act.put]);refine ty_ 12 ?_;refine ty_ 13 ?_;(try simp only [Act.put, si0, si1, si2]);refine wd_ ?_;go_wp2_with fail;go_meet;exact ⟨rfl, rfl, hd_ (BV.out.keep Ps5.out)⟩
     ·clear hHeld
      refine as_ (by rfl) (by rfl) _ ?_; intro gn s1 k1 hb k3
      have LO := hd_ (Nat.le_trans Ps0.out.size k3);have CB := hd_ k1;clear k1 k3;have Ps1 := hd_ (ba_ Ps0.out hb);clear hb;refine hKq.out _ _ ?_ (fun hHeld => ?_)
      ·(try dsimp only); exact HS.out _ Ps1.out
      clear hKq Kq;(try simp only [Act.put, si0, si1, si2]);refine a1_ 1 fun Kq hKq => ?_;go_simp;clear hHeld;go_at_call 39; (with_reducible refine (at39_any _ _).mono ?_); rintro e s2 ⟨rfl, hb⟩
      have Ps2 := hd_ (ba_ Ps1.out hb);have CB := hd_ (ab_ CB.out hb);clear hb;refine hKq.out _ _ ?_ (fun hHeld => ?_)
      ·(try dsimp only); exact HS.out _ Ps2.out
      clear hKq Kq;(try simp only [Act.put, si0, si1, si2]);refine a1_ 3 fun Kq hKq => ?_;go_simp;clear hHeld;go_at_call 35; (with_reducible refine (part_any _ exA _ (RV.at_ (R1.out.below Ps2.out)) (fitM _ fit_a)).mono ?_); rintro e s3 ⟨X, rfl, hx, hb⟩; obtain ⟨pa, pb, pc, pd, pe, rfl, hr⟩ := hx
      have PR := hd_ hr;clear hr;have Ps3 := hd_ (ba_ Ps2.out hb);have CB := hd_ (ab_ CB.out hb);clear hb;refine hKq.out _ _ ?_ (fun hHeld => ?_)
      ·(try dsimp only); exact HS.out _ Ps3.out
      clear hKq Kq;(try simp only [Act.put, si0, si1, si2]);refine ty_ 4 ?_;(try simp only [Act.put, si0, si1, si2]);refine a1_ 5 fun Kq hKq => ?_;go_simp;clear hHeld;go_at_call 31; (with_reducible refine (t_ba _ pa pb pc pd pe _ (RV.at_ (R3.out.below Ps3.out)) (PR.out)).mono ?_); rintro e s4 ⟨na, nb, nc, nd, ne, rfl, hr, hb⟩
      have NR := hd_ hr;clear hr;have Ps4 := hd_ (ba_ Ps3.out hb);have CB := hd_ (ab_ CB.out hb);have PR := hd_ (PR.out.below hb);clear hb;refine hKq.out _ _ ?_ (fun hHeld => ?_)
      ·(try dsimp only); exact HS.out _ Ps4.out
      clear hKq Kq;(try simp only [Act.put, si0, si1, si2]);refine ty_ 6 ?_;refine ty_ 7 ?_;refine ty_ 8 ?_;refine ty_ 9 ?_;(try simp only [Act.put, si0, si1, si2]);refine a1_ 11 fun Kq hKq => ?_;clear hHeld;refine au_ (by rfl) (.tmp 10) (.tmp 57) (by rfl) _ gn na nb nc nd ne (toldP 3 exB (partV exA) 2 1).1 (by rfl) (by rfl) CB.out NR.out ?_; intro s5 k1 k2
      have Ps5 := hd_ (Ps4.out.trans (aj_ k2 LO.out Ps4.out.size));have NB := hd_ k1;clear k1 k2;refine hKq.out _ _ ?_ (fun hHeld => ?_)
      ·(try dsimp only); exact HS.out _ Ps5.out
      clear hKq Kq;(try simp only [Act.put]);refine ty_ 12 ?_;refine ty_ 13 ?_;(try simp only [Act.put, si0, si1, si2]);refine wd_ ?_;go_wp2_with fail;go_meet;exact ⟨rfl, rfl, hd_ (BV.out.keep Ps5.out)⟩
    case rest =>
     obtain ⟨rfl, rfl, BV⟩ := hcut;rename World => w8;go_upto_region 6 with fail;go_cut [14, 15] (fun s14 s15 wx => s14 = .int .u8 4 ∧ s15 = .int .i64 0 ∧ Hid (Bv w wx ((g5, exC) :: ((g3, exB) :: [(g1, exA)]))))
     case first =>
      obtain ⟨a3, b3, c3, d3, e3, hv3, hr3⟩ := BV.out.has (g := g3) (V := exB) (by simp)
      obtain ⟨a5, b5, c5, d5, e5, hv5, hr5⟩ := BV.out.has (g := g5) (V := exC) (by simp)
      have HS := hd_ fun w' (hb : Below w8.heap.size w8 w') => And.intro (aa_ (ab_ hv3 hb)) (aa_ (ab_ hv5 hb))
      have R3 := hd_ hr3;have R5 := hd_ hr5;clear hv3 hr3 hv5 hr5;generalize hWW : w8 = Wt at *;clear hWW;have Pt0 := hd_ (show Below Wt.heap.size Wt Wt.drew from (Below.refl _ _).drew)
      refine wp_region_held_drew (S := (fun w' => (w'.cell? ⟨g3, 0, none⟩ = some (.slice a3.1 a3.2.1 a3.2.2) ∧ w'.cell? ⟨g3, 1, none⟩ = some (.slice b3.1 b3.2.1 b3.2.2) ∧ w'.cell? ⟨g3, 2, none⟩ = some (.slice c3.1 c3.2.1 c3.2.2) ∧ w'.cell? ⟨g3, 3, none⟩ = some (.slice d3.1 d3.2.1 d3.2.2) ∧ w'.cell? ⟨g3, 4, none⟩ = some (.slice e3.1 e3.2.1 e3.2.2)) ∧ (w'.cell? ⟨g5, 0, none⟩ = some (.slice a5.1 a5.2.1 a5.2.2) ∧ w'.cell? ⟨g5, 1, none⟩ = some (.slice b5.1 b5.2.1 b5.2.2) ∧ w'.cell? ⟨g5, 2, none⟩ = some (.slice c5.1 c5.2.1 c5.2.2) ∧ w'.cell? ⟨g5, 3, none⟩ = some (.slice d5.1 d5.2.1 d5.2.2) ∧ w'.cell? ⟨g5, 4, none⟩ = some (.slice e5.1 e5.2.1 e5.2.2)))) (by kernel_rfl) ?_ (fun hHeld => ?_)
      ·exact HS.out _ Pt0.out
      generalize World.drew Wt = t0 at *;refine ty_ 0 ?_;refine ty_ 2 ?_;refine ty_ 3 ?_;(try simp only [Act.put, si0, si1, si2]);refine ar_ [1, 9] ?_;refine ac_ (fun Kq hKq => ?_) (ac_ (fun Kq hKq => ?_) an_)
      ·go_simp
       clear hHeld;go_at_call 39; (with_reducible refine (at39_any _ _).mono ?_); rintro e t1 ⟨rfl, hb⟩
       have Pt1 := hd_ (ba_ Pt0.out hb);clear hb;refine hKq.out _ _ ?_ (fun hHeld => ?_)
       ·(try dsimp only); exact HS.out _ Pt1.out
       clear hKq Kq;(try simp only [Act.put, si0, si1, si2]);refine ar_ [4, 9] ?_;refine ac_ (fun Kq hKq => ?_) (ac_ (fun Kq hKq => ?_) an_)
       ·go_simp
        clear hHeld;go_at_call 31; (with_reducible refine (t_bc _ a5 b5 c5 d5 e5 _ (RV.at_ (R3.out.below Pt1.out)) (R5.out.below Pt1.out)).mono ?_); rintro e t2 ⟨na, nb, nc, nd, ne, rfl, hr, hb⟩
        have NR := hd_ hr;clear hr;have Pt2 := hd_ (ba_ Pt1.out hb);clear hb;refine hKq.out _ _ ?_ (fun hHeld => ?_)
        ·(try dsimp only); exact HS.out _ Pt2.out
        clear hKq Kq;(try simp only [Act.put, si0, si1, si2]);refine ty_ 5 ?_;refine ty_ 6 ?_;refine ty_ 7 ?_;refine ty_ 8 ?_;(try simp only [Act.put, si0, si1, si2]);refine a1_ 9 fun Kq hKq => ?_;clear hHeld;refine as_ (by rfl) (by rfl) _ ?_; intro gn t3 k1 hb k3
        have LO := hd_ (Nat.le_trans Pt2.out.size k3);have CB := hd_ k1;clear k1 k3;have Pt3 := hd_ (ba_ Pt2.out hb);have NR := hd_ (NR.out.below hb);clear hb;refine hKq.out _ _ ?_ (fun hHeld => ?_)
        ·(try dsimp only); exact HS.out _ Pt3.out
        clear hKq Kq;(try simp only [Act.put, si0, si1, si2]);refine a1_ 10 fun Kq hKq => ?_;clear hHeld;refine au_ (by rfl) (.tmp 13) (.tmp 66) (by rfl) _ gn na nb nc nd ne (toldP 4 exB exC 2 1).1 (by rfl) (by rfl) CB.out NR.out ?_; intro t4 k1 k2
        have Pt4 := hd_ (Pt3.out.trans (aj_ k2 LO.out Pt3.out.size));have NB := hd_ k1;clear k1 k2;refine hKq.out _ _ ?_ (fun hHeld => ?_)
        ·(try dsimp only); exact HS.out _ Pt4.out
        clear hKq Kq;(try simp only [Act.put]);refine ty_ 11 ?_;refine ty_ 12 ?_;(try simp only [Act.put, si0, si1, si2]);refine wd_ ?_;go_wp2_with fail;go_meet;exact ⟨rfl, rfl, hd_ (BV.out.keep Pt4.out)⟩
       ·clear hHeld
        refine as_ (by rfl) (by rfl) _ ?_; intro gn t2 k1 hb k3
        have LO := hd_ (Nat.le_trans Pt1.out.size k3);have CB := hd_ k1;clear k1 k3;have Pt2 := hd_ (ba_ Pt1.out hb);clear hb;refine hKq.out _ _ ?_ (fun hHeld => ?_)
        ·(try dsimp only); exact HS.out _ Pt2.out
        clear hKq Kq;(try simp only [Act.put, si0, si1, si2]);refine a1_ 4 fun Kq hKq => ?_;go_simp;clear hHeld;go_at_call 31; (with_reducible refine (t_bc _ a5 b5 c5 d5 e5 _ (RV.at_ (R3.out.below Pt2.out)) (R5.out.below Pt2.out)).mono ?_); rintro e t3 ⟨na, nb, nc, nd, ne, rfl, hr, hb⟩
        have NR := hd_ hr;clear hr;have Pt3 := hd_ (ba_ Pt2.out hb);have CB := hd_ (ab_ CB.out hb);clear hb;refine hKq.out _ _ ?_ (fun hHeld => ?_)
        ·(try dsimp only); exact HS.out _ Pt3.out
        clear hKq Kq;(try simp only [Act.put, si0, si1, si2]);refine ty_ 5 ?_;refine ty_ 6 ?_;refine ty_ 7 ?_;refine ty_ 8 ?_;(try simp only [Act.put, si0, si1, si2]);refine a1_ 10 fun Kq hKq => ?_;clear hHeld;refine au_ (by rfl) (.tmp 13) (.tmp 66) (by rfl) _ gn na nb nc nd ne (toldP 4 exB exC 2 1).1 (by rfl) (by rfl) CB.out NR.out ?_; intro t4 k1 k2
        have Pt4 := hd_ (Pt3.out.trans (aj_ k2 LO.out Pt3.out.size));have NB := hd_ k1;clear k1 k2;refine hKq.out _ _ ?_ (fun hHeld => ?_)
        ·(try dsimp only); exact HS.out _ Pt4.out
        clear hKq Kq;(try simp only [Act.put]);refine ty_ 11 ?_;refine ty_ 12 ?_;(try simp only [Act.put, si0, si1, si2]);refine wd_ ?_;go_wp2_with fail;go_meet;exact ⟨rfl, rfl, hd_ (BV.out.keep Pt4.out)⟩
      ·clear hHeld
       refine as_ (by rfl) (by rfl) _ ?_; intro gn t1 k1 hb k3
       have LO := hd_ (Nat.le_trans Pt0.out.size k3);have CB := hd_ k1;clear k1 k3;have Pt1 := hd_ (ba_ Pt0.out hb);clear hb;refine hKq.out _ _ ?_ (fun hHeld => ?_)
       ·(try dsimp only); exact HS.out _ Pt1.out
       clear hKq Kq;(try simp only [Act.put, si0, si1, si2]);refine a1_ 1 fun Kq hKq => ?_;go_simp;clear hHeld;go_at_call 39; (with_reducible refine (at39_any _ _).mono ?_); rintro e t2 ⟨rfl, hb⟩
       have Pt2 := hd_ (ba_ Pt1.out hb);have CB := hd_ (ab_ CB.out hb);clear hb;refine hKq.out _ _ ?_ (fun hHeld => ?_)
       ·(try dsimp only); exact HS.out _ Pt2.out
       clear hKq Kq;(try simp only [Act.put, si0, si1, si2]);refine a1_ 4 fun Kq hKq => ?_;go_simp;clear hHeld;go_at_call 31; (with_reducible refine (t_bc _ a5 b5 c5 d5 e5 _ (RV.at_ (R3.out.below Pt2.out)) (R5.out.below Pt2.out)).mono ?_); rintro e t3 ⟨na, nb, nc, nd, ne, rfl, hr, hb⟩
       have NR := hd_ hr;clear hr;have Pt3 := hd_ (ba_ Pt2.out hb);have CB := hd_ (ab_ CB.out hb);clear hb;refine hKq.out _ _ ?_ (fun hHeld => ?_)
       ·(try dsimp only); exact HS.out _ Pt3.out
       clear hKq Kq;(try simp only [Act.put, si0, si1, si2]);refine ty_ 5 ?_;refine ty_ 6 ?_;refine ty_ 7 ?_;refine ty_ 8 ?_;(try simp only [Act.put, si0, si1, si2]);refine a1_ 10 fun Kq hKq => ?_;clear hHeld;refine au_ (by rfl) (.tmp 13) (.tmp 66) (by rfl) _ gn na nb nc nd ne (toldP 4 exB exC 2 1).1 (by rfl) (by rfl) CB.out NR.out ?_; intro t4 k1 k2
       have Pt4 := hd_ (Pt3.out.trans (aj_ k2 LO.out Pt3.out.size));have NB := hd_ k1;clear k1 k2;refine hKq.out _ _ ?_ (fun hHeld => ?_)
       ·(try dsimp only); exact HS.out _ Pt4.out
       clear hKq Kq;(try simp only [Act.put]);refine ty_ 11 ?_;refine ty_ 12 ?_;(try simp only [Act.put, si0, si1, si2]);refine wd_ ?_;go_wp2_with fail;go_meet;exact ⟨rfl, rfl, hd_ (BV.out.keep Pt4.out)⟩
     case rest =>
      obtain ⟨rfl, rfl, BV⟩ := hcut;rename World => w9;go_wp2_with fail;go_ret;exact ⟨rfl, BV.out.below⟩
end
end Go.Proofs.YthkkipbmlafdiaaGreat
