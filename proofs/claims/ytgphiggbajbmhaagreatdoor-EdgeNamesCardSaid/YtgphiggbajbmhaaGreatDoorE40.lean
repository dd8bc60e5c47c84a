/-
  Carried over and put together: contracts of this program's functions, and plain facts. No statement is proved in this text.
-/
import Derived.Test.YtgphiggbajbmhaaGreatDoorOz
import Derived.Test.YtgphiggbajbmhaaGreatDoorE25
import Derived.Test.YtgphiggbajbmhaaGreatDoorE39
set_option maxRecDepth 20000
namespace Go.Proofs.YtgphiggbajbmhaaGreatDoor
open Go Go.RowKit
theorem at26_any (x : Int) (w : World) : Calls Tryz.prog 26 #[.int .i64 x] w fun e w' => e = .returned (.agg #[.int .i64 x, .int .i64 1]) ∧ Below w.heap.size w w' := by
 have HX := Lib.hid (box_new w x 1)
 have HB := Lib.hid (below_one w (.cells #[.int .i64 x, .int .i64 1] 32))
 obtain ⟨q0, q1⟩ := box_cells (box_new w x 1)
 go_enter Tryz.func26, Tryz.ntmps26
 go_wp2_with fail
 refine bodyPost_ret (v := .agg #[.int .i64 x, .int .i64 1]) (by simp [results, Tryz.results26, go_sem, q0, q1]) rfl ?_
 exact ⟨rfl, HB.out⟩
theorem vbox_there {w : World} {g : Nat} {a b c d e : SL} (h : VBox w g a b c d e) : w.there g 0 5 := by
 unfold VBox at h
 intro j hj
 rw [Nat.zero_add]
 refine ⟨?_, by simp [World.frozen?, h]⟩
 rw [cell_of_row _ _ _ _ _ _ h, Array.getElem?_eq_getElem (by simpa using hj)]
 rfl
theorem step_valloc {ops : Array Oper} {o : Oper} {A : Act} {K : Act → World → Prop} {Q : Exit → Act → World → Prop} {E : Prop} (hgd : o.guard = none) (ho : o.op = .alloc 27) (W : World)
  (h : ∀ g W', VBox W' g (none, 0, 0) (none, 0, 0) (none, 0, 0) (none, 0, 0) (none, 0, 0) → Below W.heap.size W W' → W.heap.size ≤ g → K (A.put o.dst (.pointer (some ⟨g, 0, none⟩))) W') :
  if Region.wanted o (yielded ops A.tmps) = true then Oper.wp Tryz.prog o A W K Q else E := by
 have hw : Region.wanted o (yielded ops A.tmps) = true := by simp [Region.wanted, hgd]
 rw [if_pos hw]
 have hr : (Instr.alloc 27 true (.tuple #[])).run Tryz.prog W = .ok (.pointer (some ⟨W.heap.size, 0, none⟩)) (W.alloc (.cells #[.slice none 0 0, .slice none 0 0, .slice none 0 0, .slice none 0 0, .slice none 0 0] 27)) := by kernel_rfl
 unfold Oper.wp execOp
 simp only [ho, Sem.run_bind, Sem.run_pure, Result.andThen_ok, hr]
 exact h _ _ (vbox_new W (none, 0, 0) (none, 0, 0) (none, 0, 0) (none, 0, 0) (none, 0, 0)) (below_one W _) (Nat.le_refl _)
theorem step_vstore {ops : Array Oper} {o : Oper} {A : Act} {K : Act → World → Prop} {Q : Exit → Act → World → Prop} {E : Prop} (hgd : o.guard = none) (x y : Operand) (ho : o.op = .store 27 x y) (W : World) (g : Nat) (a b c d e : SL) (V : Vw)
  (hx : A.eval x = .pointer (some ⟨g, 0, none⟩)) (hy : A.eval y = .agg #[.slice a.1 a.2.1 a.2.2, .slice b.1 b.2.1 b.2.2, .slice c.1 c.2.1 c.2.2, .slice d.1 d.2.1 d.2.2, .slice e.1 e.2.1 e.2.2]) (hb : VBox W g (none, 0, 0) (none, 0, 0) (none, 0, 0) (none, 0, 0) (none, 0, 0)) (hr : RV W a b c d e V)
  (h : ∀ W', HoldsV W' g V → W.grownBy W' (some g) → K (A.put o.dst undef) W') :
  if Region.wanted o (yielded ops A.tmps) = true then Oper.wp Tryz.prog o A W K Q else E := by
 have hw : Region.wanted o (yielded ops A.tmps) = true := by simp [Region.wanted, hgd]
 rw [if_pos hw]
 have hs := run_storeAt_mid (P := Tryz.prog) W g 0 27 #[.slice a.1 a.2.1 a.2.2, .slice b.1 b.2.1 b.2.2, .slice c.1 c.2.1 c.2.2, .slice d.1 d.2.1 d.2.2, .slice e.1 e.2.1 e.2.2] (vbox_there hb) (by kernel_rfl) (by simp [Value.oneCell'])
 unfold Oper.wp execOp
 simp only [ho, hx, hy, Sem.run_bind, Sem.run_pure, Result.andThen_ok, hs]
 exact h _ ⟨a, b, c, d, e, vbox_set hb a b c d e, hr.kp (ky_set hb _).kp⟩ (grown_setCells (World.grownBy.refl _ _) 0 [.slice a.1 a.2.1 a.2.2, .slice b.1 b.2.1 b.2.2, .slice c.1 c.2.1 c.2.2, .slice d.1 d.2.1 d.2.2, .slice e.1 e.2.1 e.2.2])
structure Bv (w W : World) (L : List (Nat × Vw)) : Prop where
 all : ∀ p ∈ L, HoldsV W p.1 p.2
 below : Below w.heap.size w W
theorem Bv.keep {w W W' : World} {L : List (Nat × Vw)} (h : Bv w W L) (hb : Below W.heap.size W W') : Bv w W' L := ⟨fun p hp => (h.all p hp).below hb, below_after h.below hb (Nat.le_refl _)⟩
theorem Bv.more {w W : World} {L : List (Nat × Vw)} {g : Nat} {V : Vw} (h : Bv w W L) (k : HoldsV W g V) : Bv w W ((g, V) :: L) := ⟨fun p hp => by
 rcases List.mem_cons.1 hp with rfl | hp
 ·exact k
 ·exact h.all p hp, h.below⟩
theorem Bv.has {w W : World} {L : List (Nat × Vw)} {g : Nat} {V : Vw} (h : Bv w W L) (k : (g, V) ∈ L) : HoldsV W g V := h.all _ k
theorem fitM (V : Vw) (h : FitVIE 100 V) : FitVIE 1000 V := h.mono (by decide)
theorem p_one (v : Value) (w : World) (h : VAt w v emV) : Calls Tryz.prog 10 #[v, .agg #[.int .i64 1, .int .i64 1], .agg #[.int .i64 1, .int .i64 1, .int .u8 3, .int .i64 1]] w fun e w' => ∃ a b c d e2 : SL, e = .returned (.tuple #[.agg #[.slice a.1 a.2.1 a.2.2, .slice b.1 b.2.1 b.2.2, .slice c.1 c.2.1 c.2.2, .slice d.1 d.2.1 d.2.2, .slice e2.1 e2.2.1 e2.2.2], .int .i64 0]) ∧ RV w' a b c d e2 exOne ∧ Below w.heap.size w w' :=
 (put_any v emV 1 1 1 1 3 1 w h em_fit).mono fun e w' ⟨X, h1, ⟨a, b, c, d, e2, hX, hr⟩, hb⟩ => ⟨a, b, c, d, e2, by rw [h1, hX]; exact congrArg (fun z => Ending.returned (.tuple #[_, .int .i64 z])) ex_errs.1, hr, hb⟩
theorem p_two (v : Value) (w : World) (h : VAt w v exOne) : Calls Tryz.prog 10 #[v, .agg #[.int .i64 1, .int .i64 1], .agg #[.int .i64 2, .int .i64 1, .int .u8 1, .int .i64 0]] w fun e w' => ∃ a b c d e2 : SL, e = .returned (.tuple #[.agg #[.slice a.1 a.2.1 a.2.2, .slice b.1 b.2.1 b.2.2, .slice c.1 c.2.1 c.2.2, .slice d.1 d.2.1 d.2.2, .slice e2.1 e2.2.1 e2.2.2], .int .i64 0]) ∧ RV w' a b c d e2 exTwo ∧ Below w.heap.size w w' :=
 (put_any v exOne 1 1 2 1 1 0 w h (fitM _ fit_one)).mono fun e w' ⟨X, h1, ⟨a, b, c, d, e2, hX, hr⟩, hb⟩ => ⟨a, b, c, d, e2, by rw [h1, hX]; exact congrArg (fun z => Ending.returned (.tuple #[_, .int .i64 z])) ex_errs.2.1, hr, hb⟩
theorem p_up (v : Value) (w : World) (h : VAt w v exTwo) : Calls Tryz.prog 10 #[v, .agg #[.int .i64 1, .int .i64 1], .agg #[.int .i64 2, .int .i64 1, .int .u8 3, .int .i64 2]] w fun e w' => ∃ a b c d e2 : SL, e = .returned (.tuple #[.agg #[.slice a.1 a.2.1 a.2.2, .slice b.1 b.2.1 b.2.2, .slice c.1 c.2.1 c.2.2, .slice d.1 d.2.1 d.2.2, .slice e2.1 e2.2.1 e2.2.2], .int .i64 0]) ∧ RV w' a b c d e2 exUp ∧ Below w.heap.size w w' :=
 (put_any v exTwo 1 1 2 1 3 2 w h (fitM _ fit_two)).mono fun e w' ⟨X, h1, ⟨a, b, c, d, e2, hX, hr⟩, hb⟩ => ⟨a, b, c, d, e2, by rw [h1, hX]; exact congrArg (fun z => Ending.returned (.tuple #[_, .int .i64 z])) ex_errs.2.2.1, hr, hb⟩
theorem p_far (v : Value) (w : World) (h : VAt w v exTwo) : Calls Tryz.prog 10 #[v, .agg #[.int .i64 1, .int .i64 1], .agg #[.int .i64 2, .int .i64 1, .int .u8 3, .int .i64 3]] w fun e w' => ∃ a b c d e2 : SL, e = .returned (.tuple #[.agg #[.slice a.1 a.2.1 a.2.2, .slice b.1 b.2.1 b.2.2, .slice c.1 c.2.1 c.2.2, .slice d.1 d.2.1 d.2.2, .slice e2.1 e2.2.1 e2.2.2], .int .i64 0]) ∧ RV w' a b c d e2 exFar ∧ Below w.heap.size w w' :=
 (put_any v exTwo 1 1 2 1 3 3 w h (fitM _ fit_two)).mono fun e w' ⟨X, h1, ⟨a, b, c, d, e2, hX, hr⟩, hb⟩ => ⟨a, b, c, d, e2, by rw [h1, hX]; exact congrArg (fun z => Ending.returned (.tuple #[_, .int .i64 z])) ex_errs.2.2.2, hr, hb⟩
theorem t_seen (v u : Value) (w : World) (h : VAt w v exTwo) (k : VAt w u exTwo) : Calls Tryz.prog 27 #[v, u, .agg #[.int .i64 2, .int .i64 1]] w fun e w' => ∃ a b c d e2 : SL, e = .returned (.agg #[.slice a.1 a.2.1 a.2.2, .slice b.1 b.2.1 b.2.2, .slice c.1 c.2.1 c.2.2, .slice d.1 d.2.1 d.2.2, .slice e2.1 e2.2.1 e2.2.2]) ∧ RV w' a b c d e2 exSeen ∧ Below w.heap.size w w' :=
 (tell_any v u exTwo exTwo 2 1 w h k (fit_two.mono (by decide)) (fit_two.mono (by decide)) (by rw [show exTwo.r = [] by kernel_rfl]; exact List.Pairwise.nil) (by rw [show exTwo.r = [] by kernel_rfl]; exact List.Pairwise.nil)).mono fun e w' ⟨X, h1, ⟨a, b, c, d, e2, hX, hr⟩, hb⟩ => ⟨a, b, c, d, e2, by rw [h1, hX], hr, hb⟩
theorem em_rv (w : World) : RV w (none, 0, 0) (none, 0, 0) (none, 0, 0) (none, 0, 0) (none, 0, 0) emV := ⟨Rcs.nil _, Ids.nil _, RowsAt.nil _, Rcs.nil _, Ids.nil _⟩
set_option maxHeartbeats 16000000 in
theorem awake_any (w : World) (htab : TabE w) (hrk : Tabs w) : Calls Tryz.prog 8 #[] w fun e w' => e = .returned (.bool true) ∧ Below w.heap.size w w' := by
 have HE := Lib.hid htab
 have HR := Lib.hid hrk
 clear htab hrk
 go_enter Tryz.func8, Tryz.ntmps8
 go_wp2_with fail
 (with_reducible refine (at26_any _ _).mono ?_)
 rintro e w1 ⟨rfl, hb⟩
 have B1 := Lib.hid hb
 clear hb
 go_wp2_with fail
 (with_reducible refine (at26_any _ _).mono ?_)
 rintro e w2 ⟨rfl, hb⟩
 have B2 := Lib.hid (below_after B1.out hb (Nat.le_refl _))
 clear hb B1
 go_wp2_with fail
 refine (p_one _ _ (em_at _)).mono ?_
 rintro e w3 ⟨a1, b1, c1, d1, e1, rfl, hr, hb⟩
 have B3 := Lib.hid (below_after B2.out hb (Nat.le_refl _))
 have R3 := Lib.hid hr
 clear hb hr B2
 go_upto_region 2 with fail
 have BV : Hid (Bv w (w3.alloc (.cells #[.slice a1.1 a1.2.1 a1.2.2, .slice b1.1 b1.2.1 b1.2.2, .slice c1.1 c1.2.1 c1.2.2, .slice d1.1 d1.2.1 d1.2.2, .slice e1.1 e1.2.1 e1.2.2] 27)) [(w3.heap.size, exOne)]) := Lib.hid ⟨fun p hp => by
  rw [List.mem_singleton.1 hp]
  exact ⟨a1, b1, c1, d1, e1, vbox_new w3 a1 b1 c1 d1 e1, R3.out.below (below_one w3 _)⟩, below_after B3.out (below_one w3 _) (Nat.le_refl _)⟩
 generalize World.alloc w3 (.cells #[.slice a1.1 a1.2.1 a1.2.2, .slice b1.1 b1.2.1 b1.2.2, .slice c1.1 c1.2.1 c1.2.2, .slice d1.1 d1.2.1 d1.2.2, .slice e1.1 e1.2.1 e1.2.2] 27) = w4 at *
 generalize w3.heap.size = g1 at *
 clear B3 R3
 go_cut [3, 4] (fun s3 s4 wx => ∃ g, s3 = .pointer (some ⟨g, 0, none⟩) ∧ s4 = .int .i64 0 ∧ Hid (Bv w wx ((g, exTwo) :: [(g1, exOne)])))
 case first =>
  obtain ⟨a1, b1, c1, d1, e1, hv, hr⟩ := BV.out.has (g := g1) (V := exOne) (by simp)
  have HS := Lib.hid fun w' (hb : Below w4.heap.size w4 w') => vbox_cells (vbox_below hv hb)
  have RS := Lib.hid hr
  clear hv hr
  generalize hWW : w4 = Wp at *
  clear hWW
  have Pp0 := Lib.hid (show Below Wp.heap.size Wp Wp.drew from (Below.refl _ _).drew)
  refine wp_region_held_drew (S := (fun w' => w'.cell? ⟨g1, 0, none⟩ = some (.slice a1.1 a1.2.1 a1.2.2) ∧ w'.cell? ⟨g1, 1, none⟩ = some (.slice b1.1 b1.2.1 b1.2.2) ∧ w'.cell? ⟨g1, 2, none⟩ = some (.slice c1.1 c1.2.1 c1.2.2) ∧ w'.cell? ⟨g1, 3, none⟩ = some (.slice d1.1 d1.2.1 d1.2.2) ∧ w'.cell? ⟨g1, 4, none⟩ = some (.slice e1.1 e1.2.1 e1.2.2))) (by kernel_rfl) ?_ (fun hHeld => ?_)
  ·exact HS.out _ Pp0.out
  generalize World.drew Wp = p0 at *
  (refine tk_ (i := 0) (oi := ⟨_, _, _, _, _, _⟩) (v := ?_) rfl (Or.inl ⟨by rfl, ?_⟩) ?_; rotate_left 1; · (intro w hSw; (try dsimp only at hSw); go_simp; all_goals with_reducible rfl))
  try simp only [Act.put, si0, si1, si2]
  refine wpAnyH_ready (rs := [1, 8]) (by kernel_rfl) (by simp) ?_
  refine AllReadyH.cons (o := ⟨_, _, _, _, _, _⟩) rfl (fun Kq hKq => ?_) (AllReadyH.cons (o := ⟨_, _, _, _, _, _⟩) rfl (fun Kq hKq => ?_) (AllReadyH.nil))
  ·go_simp
   clear hHeld
   go_at_call 26; (with_reducible refine (at26_any _ _).mono ?_); rintro e p1 ⟨rfl, hb⟩
   have Pp1 := Lib.hid (below_after Pp0.out hb (Nat.le_refl _))
   clear hb
   refine hKq.out _ _ ?_ (fun hHeld => ?_)
   ·(try dsimp only); exact HS.out _ Pp1.out
   clear hKq Kq
   try simp only [Act.put, si0, si1, si2]
   refine wpAnyH_ready (rs := [2, 8]) (by kernel_rfl) (by simp) ?_
   refine AllReadyH.cons (o := ⟨_, _, _, _, _, _⟩) rfl (fun Kq hKq => ?_) (AllReadyH.cons (o := ⟨_, _, _, _, _, _⟩) rfl (fun Kq hKq => ?_) (AllReadyH.nil))
   ·go_simp
    clear hHeld
    go_at_call 26; (with_reducible refine (at26_any _ _).mono ?_); rintro e p2 ⟨rfl, hb⟩
    have Pp2 := Lib.hid (below_after Pp1.out hb (Nat.le_refl _))
    clear hb
    refine hKq.out _ _ ?_ (fun hHeld => ?_)
    ·(try dsimp only); exact HS.out _ Pp2.out
    clear hKq Kq
    try simp only [Act.put, si0, si1, si2]
    (refine tk_ (i := 3) (oi := ⟨_, _, _, _, _, _⟩) (v := ?_) rfl (Or.inl ⟨by rfl, ?_⟩) ?_; rotate_left 1; · (intro w hSw; (try dsimp only at hSw); go_simp; all_goals with_reducible rfl))
    try simp only [Act.put, si0, si1, si2]
    refine wpAnyH_ready (rs := [4, 8]) (by kernel_rfl) (by simp) ?_
    refine AllReadyH.cons (o := ⟨_, _, _, _, _, _⟩) rfl (fun Kq hKq => ?_) (AllReadyH.cons (o := ⟨_, _, _, _, _, _⟩) rfl (fun Kq hKq => ?_) (AllReadyH.nil))
    ·go_simp
     clear hHeld
     go_at_call 10; (with_reducible refine (p_two _ _ (RV.at_ (RS.out.below Pp2.out))).mono ?_); rintro e p3 ⟨na, nb, nc, nd, ne, rfl, hr, hb⟩
     have NR := Lib.hid hr
     clear hr
     have Pp3 := Lib.hid (below_after Pp2.out hb (Nat.le_refl _))
     clear hb
     refine hKq.out _ _ ?_ (fun hHeld => ?_)
     ·(try dsimp only); exact HS.out _ Pp3.out
     clear hKq Kq
     try simp only [Act.put, si0, si1, si2]
     (refine tk_ (i := 5) (oi := ⟨_, _, _, _, _, _⟩) (v := ?_) rfl (Or.inl ⟨by rfl, ?_⟩) ?_; rotate_left 1; · (intro w hSw; (try dsimp only at hSw); go_simp; all_goals with_reducible rfl))
     try simp only [Act.put, si0, si1, si2]
     (refine tk_ (i := 6) (oi := ⟨_, _, _, _, _, _⟩) (v := ?_) rfl (Or.inl ⟨by rfl, ?_⟩) ?_; rotate_left 1; · (intro w hSw; (try dsimp only at hSw); go_simp; all_goals with_reducible rfl))
     try simp only [Act.put, si0, si1, si2]
     (refine tk_ (i := 7) (oi := ⟨_, _, _, _, _, _⟩) (v := ?_) rfl (Or.inl ⟨by rfl, ?_⟩) ?_; rotate_left 1; · (intro w hSw; (try dsimp only at hSw); go_simp; all_goals with_reducible rfl))
     try simp only [Act.put, si0, si1, si2]
     refine wpAnyH_ready (rs := [8]) (by kernel_rfl) (by simp) ?_
     refine AllReadyH.cons (o := ⟨_, _, _, _, _, _⟩) rfl (fun Kq hKq => ?_) (AllReadyH.nil)
     clear hHeld
     refine step_valloc (by rfl) (by rfl) _ ?_; intro gn p4 k1 hb k3
     have LO := Lib.hid (Nat.le_trans Pp3.out.size k3)
     have CB := Lib.hid k1
     clear k1 k3
     have Pp4 := Lib.hid (below_after Pp3.out hb (Nat.le_refl _))
     have NR := Lib.hid (NR.out.below hb)
     clear hb
     refine hKq.out _ _ ?_ (fun hHeld => ?_)
     ·(try dsimp only); exact HS.out _ Pp4.out
     clear hKq Kq
     try simp only [Act.put, si0, si1, si2]
     refine wpAnyH_ready (rs := [9]) (by kernel_rfl) (by simp) ?_
     refine AllReadyH.cons (o := ⟨_, _, _, _, _, _⟩) rfl (fun Kq hKq => ?_) (AllReadyH.nil)
     clear hHeld
     refine step_vstore (by rfl) (.tmp 3) (.tmp 24) (by rfl) _ gn na nb nc nd ne exTwo (by rfl) (by rfl) CB.out NR.out ?_; intro p5 k1 k2
     have Pp5 := Lib.hid (Pp4.out.trans (below_grown k2 LO.out Pp4.out.size))
     have NB := Lib.hid k1
     clear k1 k2
     refine hKq.out _ _ ?_ (fun hHeld => ?_)
     ·(try dsimp only); exact HS.out _ Pp5.out
     clear hKq Kq
     try simp only [Act.put]
     (refine tk_ (i := 10) (oi := ⟨_, _, _, _, _, _⟩) (v := ?_) rfl (Or.inl ⟨by rfl, ?_⟩) ?_; rotate_left 1; · (intro w hSw; (try dsimp only at hSw); go_simp; all_goals with_reducible rfl))
     try simp only [Act.put, si0, si1, si2]
     refine wpAnyH_done (by kernel_rfl) ?_ _
     go_wp2_with fail
     go_meet
     exact ⟨gn, rfl, rfl, Lib.hid ((BV.out.keep Pp5.out).more NB.out)⟩
    ·clear hHeld
     refine step_valloc (by rfl) (by rfl) _ ?_; intro gn p3 k1 hb k3
     have LO := Lib.hid (Nat.le_trans Pp2.out.size k3)
     have CB := Lib.hid k1
     clear k1 k3
     have Pp3 := Lib.hid (below_after Pp2.out hb (Nat.le_refl _))
     clear hb
     refine hKq.out _ _ ?_ (fun hHeld => ?_)
     ·(try dsimp only); exact HS.out _ Pp3.out
     clear hKq Kq
     try simp only [Act.put, si0, si1, si2]
     refine wpAnyH_ready (rs := [4]) (by kernel_rfl) (by simp) ?_
     refine AllReadyH.cons (o := ⟨_, _, _, _, _, _⟩) rfl (fun Kq hKq => ?_) (AllReadyH.nil)
     go_simp
     clear hHeld
     go_at_call 10; (with_reducible refine (p_two _ _ (RV.at_ (RS.out.below Pp3.out))).mono ?_); rintro e p4 ⟨na, nb, nc, nd, ne, rfl, hr, hb⟩
     have NR := Lib.hid hr
     clear hr
     have Pp4 := Lib.hid (below_after Pp3.out hb (Nat.le_refl _))
     have CB := Lib.hid (vbox_below CB.out hb)
     clear hb
     refine hKq.out _ _ ?_ (fun hHeld => ?_)
     ·(try dsimp only); exact HS.out _ Pp4.out
     clear hKq Kq
     try simp only [Act.put, si0, si1, si2]
     (refine tk_ (i := 5) (oi := ⟨_, _, _, _, _, _⟩) (v := ?_) rfl (Or.inl ⟨by rfl, ?_⟩) ?_; rotate_left 1; · (intro w hSw; (try dsimp only at hSw); go_simp; all_goals with_reducible rfl))
     try simp only [Act.put, si0, si1, si2]
     (refine tk_ (i := 6) (oi := ⟨_, _, _, _, _, _⟩) (v := ?_) rfl (Or.inl ⟨by rfl, ?_⟩) ?_; rotate_left 1; · (intro w hSw; (try dsimp only at hSw); go_simp; all_goals with_reducible rfl))
     try simp only [Act.put, si0, si1, si2]
     (refine tk_ (i := 7) (oi := ⟨_, _, _, _, _, _⟩) (v := ?_) rfl (Or.inl ⟨by rfl, ?_⟩) ?_; rotate_left 1; · (intro w hSw; (try dsimp only at hSw); go_simp; all_goals with_reducible rfl))
     try simp only [Act.put, si0, si1, si2]
     refine wpAnyH_ready (rs := [9]) (by kernel_rfl) (by simp) ?_
     refine AllReadyH.cons (o := ⟨_, _, _, _, _, _⟩) rfl (fun Kq hKq => ?_) (AllReadyH.nil)
     clear hHeld
     refine step_vstore (by rfl) (.tmp 3) (.tmp 24) (by rfl) _ gn na nb nc nd ne exTwo (by rfl) (by rfl) CB.out NR.out ?_; intro p5 k1 k2
     have Pp5 := Lib.hid (Pp4.out.trans (below_grown k2 LO.out Pp4.out.size))
     have NB := Lib.hid k1
     clear k1 k2
     refine hKq.out _ _ ?_ (fun hHeld => ?_)
     ·(try dsimp only); exact HS.out _ Pp5.out
     clear hKq Kq
     try simp only [Act.put]
     (refine tk_ (i := 10) (oi := ⟨_, _, _, _, _, _⟩) (v := ?_) rfl (Or.inl ⟨by rfl, ?_⟩) ?_; rotate_left 1; · (intro w hSw; (try dsimp only at hSw); go_simp; all_goals with_reducible rfl))
     try simp only [Act.put, si0, si1, si2]
     refine wpAnyH_done (by kernel_rfl) ?_ _
     go_wp2_with fail
     go_meet
     exact ⟨gn, rfl, rfl, Lib.hid ((BV.out.keep Pp5.out).more NB.out)⟩
   ·clear hHeld
    refine step_valloc (by rfl) (by rfl) _ ?_; intro gn p2 k1 hb k3
    have LO := Lib.hid (Nat.le_trans Pp1.out.size k3)
    have CB := Lib.hid k1
    clear k1 k3
    have Pp2 := Lib.hid (below_after Pp1.out hb (Nat.le_refl _))
    clear hb
    refine hKq.out _ _ ?_ (fun hHeld => ?_)
    ·(try dsimp only); exact HS.out _ Pp2.out
    clear hKq Kq
    try simp only [Act.put, si0, si1, si2]
    refine wpAnyH_ready (rs := [2]) (by kernel_rfl) (by simp) ?_
    refine AllReadyH.cons (o := ⟨_, _, _, _, _, _⟩) rfl (fun Kq hKq => ?_) (AllReadyH.nil)
    go_simp
    clear hHeld
    go_at_call 26; (with_reducible refine (at26_any _ _).mono ?_); rintro e p3 ⟨rfl, hb⟩
    have Pp3 := Lib.hid (below_after Pp2.out hb (Nat.le_refl _))
    have CB := Lib.hid (vbox_below CB.out hb)
    clear hb
    refine hKq.out _ _ ?_ (fun hHeld => ?_)
    ·(try dsimp only); exact HS.out _ Pp3.out
    clear hKq Kq
    try simp only [Act.put, si0, si1, si2]
    (refine tk_ (i := 3) (oi := ⟨_, _, _, _, _, _⟩) (v := ?_) rfl (Or.inl ⟨by rfl, ?_⟩) ?_; rotate_left 1; · (intro w hSw; (try dsimp only at hSw); go_simp; all_goals with_reducible rfl))
    try simp only [Act.put, si0, si1, si2]
    refine wpAnyH_ready (rs := [4]) (by kernel_rfl) (by simp) ?_
    refine AllReadyH.cons (o := ⟨_, _, _, _, _, _⟩) rfl (fun Kq hKq => ?_) (AllReadyH.nil)
    go_simp
    clear hHeld
    go_at_call 10; (with_reducible refine (p_two _ _ (RV.at_ (RS.out.below Pp3.out))).mono ?_); rintro e p4 ⟨na, nb, nc, nd, ne, rfl, hr, hb⟩
    have NR := Lib.hid hr
    clear hr
    have Pp4 := Lib.hid (below_after Pp3.out hb (Nat.le_refl _))
    have CB := Lib.hid (vbox_below CB.out hb)
    clear hb
    refine hKq.out _ _ ?_ (fun hHeld => ?_)
    ·(try dsimp only); exact HS.out _ Pp4.out
    clear hKq Kq
    try simp only [Act.put, si0, si1, si2]
    (refine tk_ (i := 5) (oi := ⟨_, _, _, _, _, _⟩) (v := ?_) rfl (Or.inl ⟨by rfl, ?_⟩) ?_; rotate_left 1; · (intro w hSw; (try dsimp only at hSw); go_simp; all_goals with_reducible rfl))
    try simp only [Act.put, si0, si1, si2]
    (refine tk_ (i := 6) (oi := ⟨_, _, _, _, _, _⟩) (v := ?_) rfl (Or.inl ⟨by rfl, ?_⟩) ?_; rotate_left 1; · (intro w hSw; (try dsimp only at hSw); go_simp; all_goals with_reducible rfl))
    try simp only [Act.put, si0, si1, si2]
    (refine tk_ (i := 7) (oi := ⟨_, _, _, _, _, _⟩) (v := ?_) rfl (Or.inl ⟨by rfl, ?_⟩) ?_; rotate_left 1; · (intro w hSw; (try dsimp only at hSw); go_simp; all_goals with_reducible rfl))
    try simp only [Act.put, si0, si1, si2]
    refine wpAnyH_ready (rs := [9]) (by kernel_rfl) (by simp) ?_
    refine AllReadyH.cons (o := ⟨_, _, _, _, _, _⟩) rfl (fun Kq hKq => ?_) (AllReadyH.nil)
    clear hHeld
    refine step_vstore (by rfl) (.tmp 3) (.tmp 24) (by rfl) _ gn na nb nc nd ne exTwo (by rfl) (by rfl) CB.out NR.out ?_; intro p5 k1 k2
    have Pp5 := Lib.hid (Pp4.out.trans (below_grown k2 LO.out Pp4.out.size))
    have NB := Lib.hid k1
    clear k1 k2
    refine hKq.out _ _ ?_ (fun hHeld => ?_)
    ·(try dsimp only); exact HS.out _ Pp5.out
    clear hKq Kq
    try simp only [Act.put]
    (refine tk_ (i := 10) (oi := ⟨_, _, _, _, _, _⟩) (v := ?_) rfl (Or.inl ⟨by rfl, ?_⟩) ?_; rotate_left 1; · (intro w hSw; (try dsimp only at hSw); go_simp; all_goals with_reducible rfl))
    try simp only [Act.put, si0, si1, si2]
    refine wpAnyH_done (by kernel_rfl) ?_ _
    go_wp2_with fail
    go_meet
    exact ⟨gn, rfl, rfl, Lib.hid ((BV.out.keep Pp5.out).more NB.out)⟩
  ·clear hHeld
   refine step_valloc (by rfl) (by rfl) _ ?_; intro gn p1 k1 hb k3
   have LO := Lib.hid (Nat.le_trans Pp0.out.size k3)
   have CB := Lib.hid k1
   clear k1 k3
   have Pp1 := Lib.hid (below_after Pp0.out hb (Nat.le_refl _))
   clear hb
   refine hKq.out _ _ ?_ (fun hHeld => ?_)
   ·(try dsimp only); exact HS.out _ Pp1.out
   clear hKq Kq
   try simp only [Act.put, si0, si1, si2]
   refine wpAnyH_ready (rs := [1]) (by kernel_rfl) (by simp) ?_
   refine AllReadyH.cons (o := ⟨_, _, _, _, _, _⟩) rfl (fun Kq hKq => ?_) (AllReadyH.nil)
   go_simp
   clear hHeld
   go_at_call 26; (with_reducible refine (at26_any _ _).mono ?_); rintro e p2 ⟨rfl, hb⟩
   have Pp2 := Lib.hid (below_after Pp1.out hb (Nat.le_refl _))
   have CB := Lib.hid (vbox_below CB.out hb)
   clear hb
   refine hKq.out _ _ ?_ (fun hHeld => ?_)
   ·(try dsimp only); exact HS.out _ Pp2.out
   clear hKq Kq
   try simp only [Act.put, si0, si1, si2]
   refine wpAnyH_ready (rs := [2]) (by kernel_rfl) (by simp) ?_
   refine AllReadyH.cons (o := ⟨_, _, _, _, _, _⟩) rfl (fun Kq hKq => ?_) (AllReadyH.nil)
   go_simp
   clear hHeld
   go_at_call 26; (with_reducible refine (at26_any _ _).mono ?_); rintro e p3 ⟨rfl, hb⟩
   have Pp3 := Lib.hid (below_after Pp2.out hb (Nat.le_refl _))
   have CB := Lib.hid (vbox_below CB.out hb)
   clear hb
   refine hKq.out _ _ ?_ (fun hHeld => ?_)
   ·(try dsimp only); exact HS.out _ Pp3.out
   clear hKq Kq
   try simp only [Act.put, si0, si1, si2]
   (refine tk_ (i := 3) (oi := ⟨_, _, _, _, _, _⟩) (v := ?_) rfl (Or.inl ⟨by rfl, ?_⟩) ?_; rotate_left 1; · (intro w hSw; (try dsimp only at hSw); go_simp; all_goals with_reducible rfl))
   try simp only [Act.put, si0, si1, si2]
   refine wpAnyH_ready (rs := [4]) (by kernel_rfl) (by simp) ?_
   refine AllReadyH.cons (o := ⟨_, _, _, _, _, _⟩) rfl (fun Kq hKq => ?_) (AllReadyH.nil)
   go_simp
   clear hHeld
   go_at_call 10; (with_reducible refine (p_two _ _ (RV.at_ (RS.out.below Pp3.out))).mono ?_); rintro e p4 ⟨na, nb, nc, nd, ne, rfl, hr, hb⟩
   have NR := Lib.hid hr
   clear hr
   have Pp4 := Lib.hid (below_after Pp3.out hb (Nat.le_refl _))
   have CB := Lib.hid (vbox_below CB.out hb)
   clear hb
   refine hKq.out _ _ ?_ (fun hHeld => ?_)
   ·(try dsimp only); exact HS.out _ Pp4.out
   clear hKq Kq
   try simp only [Act.put, si0, si1, si2]
   (refine tk_ (i := 5) (oi := ⟨_, _, _, _, _, _⟩) (v := ?_) rfl (Or.inl ⟨by rfl, ?_⟩) ?_; rotate_left 1; · (intro w hSw; (try dsimp only at hSw); go_simp; all_goals with_reducible rfl))
   try simp only [Act.put, si0, si1, si2]
   (refine tk_ (i := 6) (oi := ⟨_, _, _, _, _, _⟩) (v := ?_) rfl (Or.inl ⟨by rfl, ?_⟩) ?_; rotate_left 1; · (intro w hSw; (try dsimp only at hSw); go_simp; all_goals with_reducible rfl))
   try simp only [Act.put, si0, si1, si2]
   (refine tk_ (i := 7) (oi := ⟨_, _, _, _, _, _⟩) (v := ?_) rfl (Or.inl ⟨by rfl, ?_⟩) ?_; rotate_left 1; · (intro w hSw; (try dsimp only at hSw); go_simp; all_goals with_reducible rfl))
   try simp only [Act.put, si0, si1, si2]
   refine wpAnyH_ready (rs := [9]) (by kernel_rfl) (by simp) ?_
   refine AllReadyH.cons (o := ⟨_, _, _, _, _, _⟩) rfl (fun Kq hKq => ?_) (AllReadyH.nil)
   clear hHeld
   refine step_vstore (by rfl) (.tmp 3) (.tmp 24) (by rfl) _ gn na nb nc nd ne exTwo (by rfl) (by rfl) CB.out NR.out ?_; intro p5 k1 k2
   have Pp5 := Lib.hid (Pp4.out.trans (below_grown k2 LO.out Pp4.out.size))
   have NB := Lib.hid k1
   clear k1 k2
   refine hKq.out _ _ ?_ (fun hHeld => ?_)
   ·(try dsimp only); exact HS.out _ Pp5.out
   clear hKq Kq
   try simp only [Act.put]
   (refine tk_ (i := 10) (oi := ⟨_, _, _, _, _, _⟩) (v := ?_) rfl (Or.inl ⟨by rfl, ?_⟩) ?_; rotate_left 1; · (intro w hSw; (try dsimp only at hSw); go_simp; all_goals with_reducible rfl))
   try simp only [Act.put, si0, si1, si2]
   refine wpAnyH_done (by kernel_rfl) ?_ _
   go_wp2_with fail
   go_meet
   exact ⟨gn, rfl, rfl, Lib.hid ((BV.out.keep Pp5.out).more NB.out)⟩
 case rest =>
  obtain ⟨g3, rfl, rfl, BV⟩ := hcut
  rename World => w5
  go_upto_region 3 with fail
  go_cut [5, 6] (fun s5 s6 wx => ∃ g, s5 = .pointer (some ⟨g, 0, none⟩) ∧ s6 = .int .i64 0 ∧ Hid (Bv w wx ((g, exUp) :: ((g3, exTwo) :: [(g1, exOne)]))))
  case first =>
   obtain ⟨a3, b3, c3, d3, e3, hv, hr⟩ := BV.out.has (g := g3) (V := exTwo) (by simp)
   have HS := Lib.hid fun w' (hb : Below w5.heap.size w5 w') => vbox_cells (vbox_below hv hb)
   have RS := Lib.hid hr
   clear hv hr
   generalize hWW : w5 = Wq at *
   clear hWW
   have Pq0 := Lib.hid (show Below Wq.heap.size Wq Wq.drew from (Below.refl _ _).drew)
   refine wp_region_held_drew (S := (fun w' => w'.cell? ⟨g3, 0, none⟩ = some (.slice a3.1 a3.2.1 a3.2.2) ∧ w'.cell? ⟨g3, 1, none⟩ = some (.slice b3.1 b3.2.1 b3.2.2) ∧ w'.cell? ⟨g3, 2, none⟩ = some (.slice c3.1 c3.2.1 c3.2.2) ∧ w'.cell? ⟨g3, 3, none⟩ = some (.slice d3.1 d3.2.1 d3.2.2) ∧ w'.cell? ⟨g3, 4, none⟩ = some (.slice e3.1 e3.2.1 e3.2.2))) (by kernel_rfl) ?_ (fun hHeld => ?_)
   ·exact HS.out _ Pq0.out
   generalize World.drew Wq = q0 at *
   (refine tk_ (i := 0) (oi := ⟨_, _, _, _, _, _⟩) (v := ?_) rfl (Or.inl ⟨by rfl, ?_⟩) ?_; rotate_left 1; · (intro w hSw; (try dsimp only at hSw); go_simp; all_goals with_reducible rfl))
   try simp only [Act.put, si0, si1, si2]
   refine wpAnyH_ready (rs := [1, 8]) (by kernel_rfl) (by simp) ?_
   refine AllReadyH.cons (o := ⟨_, _, _, _, _, _⟩) rfl (fun Kq hKq => ?_) (AllReadyH.cons (o := ⟨_, _, _, _, _, _⟩) rfl (fun Kq hKq => ?_) (AllReadyH.nil))
   ·go_simp
    clear hHeld
    go_at_call 26; (with_reducible refine (at26_any _ _).mono ?_); rintro e q1 ⟨rfl, hb⟩
    have Pq1 := Lib.hid (below_after Pq0.out hb (Nat.le_refl _))
    clear hb
    refine hKq.out _ _ ?_ (fun hHeld => ?_)
    ·(try dsimp only); exact HS.out _ Pq1.out
    clear hKq Kq
    try simp only [Act.put, si0, si1, si2]
    refine wpAnyH_ready (rs := [2, 8]) (by kernel_rfl) (by simp) ?_
    refine AllReadyH.cons (o := ⟨_, _, _, _, _, _⟩) rfl (fun Kq hKq => ?_) (AllReadyH.cons (o := ⟨_, _, _, _, _, _⟩) rfl (fun Kq hKq => ?_) (AllReadyH.nil))
    ·go_simp
     clear hHeld
     go_at_call 26; (with_reducible refine (at26_any _ _).mono ?_); rintro e q2 ⟨rfl, hb⟩
     have Pq2 := Lib.hid (below_after Pq1.out hb (Nat.le_refl _))
     clear hb
     refine hKq.out _ _ ?_ (fun hHeld => ?_)
     ·(try dsimp only); exact HS.out _ Pq2.out
     clear hKq Kq
     try simp only [Act.put, si0, si1, si2]
     (refine tk_ (i := 3) (oi := ⟨_, _, _, _, _, _⟩) (v := ?_) rfl (Or.inl ⟨by rfl, ?_⟩) ?_; rotate_left 1; · (intro w hSw; (try dsimp only at hSw); go_simp; all_goals with_reducible rfl))
     try simp only [Act.put, si0, si1, si2]
     refine wpAnyH_ready (rs := [4, 8]) (by kernel_rfl) (by simp) ?_
     refine AllReadyH.cons (o := ⟨_, _, _, _, _, _⟩) rfl (fun Kq hKq => ?_) (AllReadyH.cons (o := ⟨_, _, _, _, _, _⟩) rfl (fun Kq hKq => ?_) (AllReadyH.nil))
     ·go_simp
      clear hHeld
      go_at_call 10; (with_reducible refine (p_up _ _ (RV.at_ (RS.out.below Pq2.out))).mono ?_); rintro e q3 ⟨na, nb, nc, nd, ne, rfl, hr, hb⟩
      have NR := Lib.hid hr
      clear hr
      have Pq3 := Lib.hid (below_after Pq2.out hb (Nat.le_refl _))
      clear hb
      refine hKq.out _ _ ?_ (fun hHeld => ?_)
      ·(try dsimp only); exact HS.out _ Pq3.out
      clear hKq Kq
      try simp only [Act.put, si0, si1, si2]
      (refine tk_ (i := 5) (oi := ⟨_, _, _, _, _, _⟩) (v := ?_) rfl (Or.inl ⟨by rfl, ?_⟩) ?_; rotate_left 1; · (intro w hSw; (try dsimp only at hSw); go_simp; all_goals with_reducible rfl))
      try simp only [Act.put, si0, si1, si2]
      (refine tk_ (i := 6) (oi := ⟨_, _, _, _, _, _⟩) (v := ?_) rfl (Or.inl ⟨by rfl, ?_⟩) ?_; rotate_left 1; · (intro w hSw; (try dsimp only at hSw); go_simp; all_goals with_reducible rfl))
      try simp only [Act.put, si0, si1, si2]
      (refine tk_ (i := 7) (oi := ⟨_, _, _, _, _, _⟩) (v := ?_) rfl (Or.inl ⟨by rfl, ?_⟩) ?_; rotate_left 1; · (intro w hSw; (try dsimp only at hSw); go_simp; all_goals with_reducible rfl))
      try simp only [Act.put, si0, si1, si2]
      refine wpAnyH_ready (rs := [8]) (by kernel_rfl) (by simp) ?_
      refine AllReadyH.cons (o := ⟨_, _, _, _, _, _⟩) rfl (fun Kq hKq => ?_) (AllReadyH.nil)
      clear hHeld
      refine step_valloc (by rfl) (by rfl) _ ?_; intro gn q4 k1 hb k3
      have LO := Lib.hid (Nat.le_trans Pq3.out.size k3)
      have CB := Lib.hid k1
      clear k1 k3
      have Pq4 := Lib.hid (below_after Pq3.out hb (Nat.le_refl _))
      have NR := Lib.hid (NR.out.below hb)
      clear hb
      refine hKq.out _ _ ?_ (fun hHeld => ?_)
      ·(try dsimp only); exact HS.out _ Pq4.out
      clear hKq Kq
      try simp only [Act.put, si0, si1, si2]
      refine wpAnyH_ready (rs := [9]) (by kernel_rfl) (by simp) ?_
      refine AllReadyH.cons (o := ⟨_, _, _, _, _, _⟩) rfl (fun Kq hKq => ?_) (AllReadyH.nil)
      clear hHeld
      refine step_vstore (by rfl) (.tmp 5) (.tmp 32) (by rfl) _ gn na nb nc nd ne exUp (by rfl) (by rfl) CB.out NR.out ?_; intro q5 k1 k2
      have Pq5 := Lib.hid (Pq4.out.trans (below_grown k2 LO.out Pq4.out.size))
      have NB := Lib.hid k1
      clear k1 k2
      refine hKq.out _ _ ?_ (fun hHeld => ?_)
      ·(try dsimp only); exact HS.out _ Pq5.out
      clear hKq Kq
      try simp only [Act.put]
      (refine tk_ (i := 10) (oi := ⟨_, _, _, _, _, _⟩) (v := ?_) rfl (Or.inl ⟨by rfl, ?_⟩) ?_; rotate_left 1; · (intro w hSw; (try dsimp only at hSw); go_simp; all_goals with_reducible rfl))
      try simp only [Act.put, si0, si1, si2]
      refine wpAnyH_done (by kernel_rfl) ?_ _
      go_wp2_with fail
      go_meet
      exact ⟨gn, rfl, rfl, Lib.hid ((BV.out.keep Pq5.out).more NB.out)⟩
     ·clear hHeld
      refine step_valloc (by rfl) (by rfl) _ ?_; intro gn q3 k1 hb k3
      have LO := Lib.hid (Nat.le_trans Pq2.out.size k3)
      have CB := Lib.hid k1
      clear k1 k3
      have Pq3 := Lib.hid (below_after Pq2.out hb (Nat.le_refl _))
      clear hb
      refine hKq.out _ _ ?_ (fun hHeld => ?_)
      ·(try dsimp only); exact HS.out _ Pq3.out
      clear hKq Kq
      try simp only [Act.put, si0, si1, si2]
      refine wpAnyH_ready (rs := [4]) (by kernel_rfl) (by simp) ?_
      refine AllReadyH.cons (o := ⟨_, _, _, _, _, _⟩) rfl (fun Kq hKq => ?_) (AllReadyH.nil)
      go_simp
      clear hHeld
      go_at_call 10; (with_reducible refine (p_up _ _ (RV.at_ (RS.out.below Pq3.out))).mono ?_); rintro e q4 ⟨na, nb, nc, nd, ne, rfl, hr, hb⟩
      have NR := Lib.hid hr
      clear hr
      have Pq4 := Lib.hid (below_after Pq3.out hb (Nat.le_refl _))
      have CB := Lib.hid (vbox_below CB.out hb)
      clear hb
      refine hKq.out _ _ ?_ (fun hHeld => ?_)
      ·(try dsimp only); exact HS.out _ Pq4.out
      clear hKq Kq
      try simp only [Act.put, si0, si1, si2]
      (refine tk_ (i := 5) (oi := ⟨_, _, _, _, _, _⟩) (v := ?_) rfl (Or.inl ⟨by rfl, ?_⟩) ?_; rotate_left 1; · (intro w hSw; (try dsimp only at hSw); go_simp; all_goals with_reducible rfl))
      try simp only [Act.put, si0, si1, si2]
      (refine tk_ (i := 6) (oi := ⟨_, _, _, _, _, _⟩) (v := ?_) rfl (Or.inl ⟨by rfl, ?_⟩) ?_; rotate_left 1; · (intro w hSw; (try dsimp only at hSw); go_simp; all_goals with_reducible rfl))
      try simp only [Act.put, si0, si1, si2]
      (refine tk_ (i := 7) (oi := ⟨_, _, _, _, _, _⟩) (v := ?_) rfl (Or.inl ⟨by rfl, ?_⟩) ?_; rotate_left 1; · (intro w hSw; (try dsimp only at hSw); go_simp; all_goals with_reducible rfl))
      try simp only [Act.put, si0, si1, si2]
      refine wpAnyH_ready (rs := [9]) (by kernel_rfl) (by simp) ?_
      refine AllReadyH.cons (o := ⟨_, _, _, _, _, _⟩) rfl (fun Kq hKq => ?_) (AllReadyH.nil)
      clear hHeld
      refine step_vstore (by rfl) (.tmp 5) (.tmp 32) (by rfl) _ gn na nb nc nd ne exUp (by rfl) (by rfl) CB.out NR.out ?_; intro q5 k1 k2
      have Pq5 := Lib.hid (Pq4.out.trans (below_grown k2 LO.out Pq4.out.size))
      have NB := Lib.hid k1
      clear k1 k2
      refine hKq.out _ _ ?_ (fun hHeld => ?_)
      ·(try dsimp only); exact HS.out _ Pq5.out
      clear hKq Kq
      try simp only [Act.put]
      (refine tk_ (i := 10) (oi := ⟨_, _, _, _, _, _⟩) (v := ?_) rfl (Or.inl ⟨by rfl, ?_⟩) ?_; rotate_left 1; · (intro w hSw; (try dsimp only at hSw); go_simp; all_goals with_reducible rfl))
      try simp only [Act.put, si0, si1, si2]
      refine wpAnyH_done (by kernel_rfl) ?_ _
      go_wp2_with fail
      go_meet
      exact ⟨gn, rfl, rfl, Lib.hid ((BV.out.keep Pq5.out).more NB.out)⟩
    ·clear hHeld
     refine step_valloc (by rfl) (by rfl) _ ?_; intro gn q2 k1 hb k3
     have LO := Lib.hid (Nat.le_trans Pq1.out.size k3)
     have CB := Lib.hid k1
     clear k1 k3
     have Pq2 := Lib.hid (below_after Pq1.out hb (Nat.le_refl _))
     clear hb
     refine hKq.out _ _ ?_ (fun hHeld => ?_)
     ·(try dsimp only); exact HS.out _ Pq2.out
     clear hKq Kq
     try simp only [Act.put, si0, si1, si2]
     refine wpAnyH_ready (rs := [2]) (by kernel_rfl) (by simp) ?_
     refine AllReadyH.cons (o := ⟨_, _, _, _, _, _⟩) rfl (fun Kq hKq => ?_) (AllReadyH.nil)
     go_simp
     clear hHeld
     go_at_call 26; (with_reducible refine (at26_any _ _).mono ?_); rintro e q3 ⟨rfl, hb⟩
     have Pq3 := Lib.hid (below_after Pq2.out hb (Nat.le_refl _))
     have CB := Lib.hid (vbox_below CB.out hb)
     clear hb
     refine hKq.out _ _ ?_ (fun hHeld => ?_)
     ·(try dsimp only); exact HS.out _ Pq3.out
     clear hKq Kq
     try simp only [Act.put, si0, si1, si2]
     (refine tk_ (i := 3) (oi := ⟨_, _, _, _, _, _⟩) (v := ?_) rfl (Or.inl ⟨by rfl, ?_⟩) ?_; rotate_left 1; · (intro w hSw; (try dsimp only at hSw); go_simp; all_goals with_reducible rfl))
     try simp only [Act.put, si0, si1, si2]
     refine wpAnyH_ready (rs := [4]) (by kernel_rfl) (by simp) ?_
     refine AllReadyH.cons (o := ⟨_, _, _, _, _, _⟩) rfl (fun Kq hKq => ?_) (AllReadyH.nil)
     go_simp
     clear hHeld
     go_at_call 10; (with_reducible refine (p_up _ _ (RV.at_ (RS.out.below Pq3.out))).mono ?_); rintro e q4 ⟨na, nb, nc, nd, ne, rfl, hr, hb⟩
     have NR := Lib.hid hr
     clear hr
     have Pq4 := Lib.hid (below_after Pq3.out hb (Nat.le_refl _))
     have CB := Lib.hid (vbox_below CB.out hb)
     clear hb
     refine hKq.out _ _ ?_ (fun hHeld => ?_)
     ·(try dsimp only); exact HS.out _ Pq4.out
     clear hKq Kq
     try simp only [Act.put, si0, si1, si2]
     (refine tk_ (i := 5) (oi := ⟨_, _, _, _, _, _⟩) (v := ?_) rfl (Or.inl ⟨by rfl, ?_⟩) ?_; rotate_left 1; · (intro w hSw; (try dsimp only at hSw); go_simp; all_goals with_reducible rfl))
     try simp only [Act.put, si0, si1, si2]
     (refine tk_ (i := 6) (oi := ⟨_, _, _, _, _, _⟩) (v := ?_) rfl (Or.inl ⟨by rfl, ?_⟩) ?_; rotate_left 1; · (intro w hSw; (try dsimp only at hSw); go_simp; all_goals with_reducible rfl))
     try simp only [Act.put, si0, si1, si2]
     (refine tk_ (i := 7) (oi := ⟨_, _, _, _, _, _⟩) (v := ?_) rfl (Or.inl ⟨by rfl, ?_⟩) ?_; rotate_left 1; · (intro w hSw; (try dsimp only at hSw); go_simp; all_goals with_reducible rfl))
     try simp only [Act.put, si0, si1, si2]
     refine wpAnyH_ready (rs := [9]) (by kernel_rfl) (by simp) ?_
     refine AllReadyH.cons (o := ⟨_, _, _, _, _, _⟩) rfl (fun Kq hKq => ?_) (AllReadyH.nil)
     clear hHeld
     refine step_vstore (by rfl) (.tmp 5) (.tmp 32) (by rfl) _ gn na nb nc nd ne exUp (by rfl) (by rfl) CB.out NR.out ?_; intro q5 k1 k2
     have Pq5 := Lib.hid (Pq4.out.trans (below_grown k2 LO.out Pq4.out.size))
     have NB := Lib.hid k1
     clear k1 k2
     refine hKq.out _ _ ?_ (fun hHeld => ?_)
     ·(try dsimp only); exact HS.out _ Pq5.out
     clear hKq Kq
     try simp only [Act.put]
     (refine tk_ (i := 10) (oi := ⟨_, _, _, _, _, _⟩) (v := ?_) rfl (Or.inl ⟨by rfl, ?_⟩) ?_; rotate_left 1; · (intro w hSw; (try dsimp only at hSw); go_simp; all_goals with_reducible rfl))
     try simp only [Act.put, si0, si1, si2]
     refine wpAnyH_done (by kernel_rfl) ?_ _
     go_wp2_with fail
     go_meet
     exact ⟨gn, rfl, rfl, Lib.hid ((BV.out.keep Pq5.out).more NB.out)⟩
   ·clear hHeld
    refine step_valloc (by rfl) (by rfl) _ ?_; intro gn q1 k1 hb k3
    have LO := Lib.hid (Nat.le_trans Pq0.out.size k3)
    have CB := Lib.hid k1
    clear k1 k3
    have Pq1 := Lib.hid (below_after Pq0.out hb (Nat.le_refl _))
    clear hb
    refine hKq.out _ _ ?_ (fun hHeld => ?_)
    ·(try dsimp only); exact HS.out _ Pq1.out
    clear hKq Kq
    try simp only [Act.put, si0, si1, si2]
    refine wpAnyH_ready (rs := [1]) (by kernel_rfl) (by simp) ?_
    refine AllReadyH.cons (o := ⟨_, _, _, _, _, _⟩) rfl (fun Kq hKq => ?_) (AllReadyH.nil)
    go_simp
    clear hHeld
    go_at_call 26; (with_reducible refine (at26_any _ _).mono ?_); rintro e q2 ⟨rfl, hb⟩
    have Pq2 := Lib.hid (below_after Pq1.out hb (Nat.le_refl _))
    have CB := Lib.hid (vbox_below CB.out hb)
    clear hb
    refine hKq.out _ _ ?_ (fun hHeld => ?_)
    ·(try dsimp only); exact HS.out _ Pq2.out
    clear hKq Kq
    try simp only [Act.put, si0, si1, si2]
    refine wpAnyH_ready (rs := [2]) (by kernel_rfl) (by simp) ?_
    refine AllReadyH.cons (o := ⟨_, _, _, _, _, _⟩) rfl (fun Kq hKq => ?_) (AllReadyH.nil)
    go_simp
    clear hHeld
    go_at_call 26; (with_reducible refine (at26_any _ _).mono ?_); rintro e q3 ⟨rfl, hb⟩
    have Pq3 := Lib.hid (below_after Pq2.out hb (Nat.le_refl _))
    have CB := Lib.hid (vbox_below CB.out hb)
    clear hb
    refine hKq.out _ _ ?_ (fun hHeld => ?_)
    ·(try dsimp only); exact HS.out _ Pq3.out
    clear hKq Kq
    try simp only [Act.put, si0, si1, si2]
    (refine tk_ (i := 3) (oi := ⟨_, _, _, _, _, _⟩) (v := ?_) rfl (Or.inl ⟨by rfl, ?_⟩) ?_; rotate_left 1; · (intro w hSw; (try dsimp only at hSw); go_simp; all_goals with_reducible rfl))
    try simp only [Act.put, si0, si1, si2]
    refine wpAnyH_ready (rs := [4]) (by kernel_rfl) (by simp) ?_
    refine AllReadyH.cons (o := ⟨_, _, _, _, _, _⟩) rfl (fun Kq hKq => ?_) (AllReadyH.nil)
    go_simp
    clear hHeld
    go_at_call 10; (with_reducible refine (p_up _ _ (RV.at_ (RS.out.below Pq3.out))).mono ?_); rintro e q4 ⟨na, nb, nc, nd, ne, rfl, hr, hb⟩
    have NR := Lib.hid hr
    clear hr
    have Pq4 := Lib.hid (below_after Pq3.out hb (Nat.le_refl _))
    have CB := Lib.hid (vbox_below CB.out hb)
    clear hb
    refine hKq.out _ _ ?_ (fun hHeld => ?_)
    ·(try dsimp only); exact HS.out _ Pq4.out
    clear hKq Kq
    try simp only [Act.put, si0, si1, si2]
    (refine tk_ (i := 5) (oi := ⟨_, _, _, _, _, _⟩) (v := ?_) rfl (Or.inl ⟨by rfl, ?_⟩) ?_; rotate_left 1; · (intro w hSw; (try dsimp only at hSw); go_simp; all_goals with_reducible rfl))
    try simp only [Act.put, si0, si1, si2]
    (refine tk_ (i := 6) (oi := ⟨_, _, _, _, _, _⟩) (v := ?_) rfl (Or.inl ⟨by rfl, ?_⟩) ?_; rotate_left 1; · (intro w hSw; (try dsimp only at hSw); go_simp; all_goals with_reducible rfl))
    try simp only [Act.put, si0, si1, si2]
    (refine tk_ (i := 7) (oi := ⟨_, _, _, _, _, _⟩) (v := ?_) rfl (Or.inl ⟨by rfl, ?_⟩) ?_; rotate_left 1; · (intro w hSw; (try dsimp only at hSw); go_simp; all_goals with_reducible rfl))
    try simp only [Act.put, si0, si1, si2]
    refine wpAnyH_ready (rs := [9]) (by kernel_rfl) (by simp) ?_
    refine AllReadyH.cons (o := ⟨_, _, _, _, _, _⟩) rfl (fun Kq hKq => ?_) (AllReadyH.nil)
    clear hHeld
    refine step_vstore (by rfl) (.tmp 5) (.tmp 32) (by rfl) _ gn na nb nc nd ne exUp (by rfl) (by rfl) CB.out NR.out ?_; intro q5 k1 k2
    have Pq5 := Lib.hid (Pq4.out.trans (below_grown k2 LO.out Pq4.out.size))
    have NB := Lib.hid k1
    clear k1 k2
    refine hKq.out _ _ ?_ (fun hHeld => ?_)
    ·(try dsimp only); exact HS.out _ Pq5.out
    clear hKq Kq
    try simp only [Act.put]
    (refine tk_ (i := 10) (oi := ⟨_, _, _, _, _, _⟩) (v := ?_) rfl (Or.inl ⟨by rfl, ?_⟩) ?_; rotate_left 1; · (intro w hSw; (try dsimp only at hSw); go_simp; all_goals with_reducible rfl))
    try simp only [Act.put, si0, si1, si2]
    refine wpAnyH_done (by kernel_rfl) ?_ _
    go_wp2_with fail
    go_meet
    exact ⟨gn, rfl, rfl, Lib.hid ((BV.out.keep Pq5.out).more NB.out)⟩
  case rest =>
   obtain ⟨g5, rfl, rfl, BV⟩ := hcut
   rename World => w6
   go_upto_region 4 with fail
   go_cut [7, 8] (fun s7 s8 wx => ∃ g, s7 = .pointer (some ⟨g, 0, none⟩) ∧ s8 = .int .i64 0 ∧ Hid (Bv w wx ((g, exFar) :: ((g5, exUp) :: ((g3, exTwo) :: [(g1, exOne)])))))
   case first =>
    obtain ⟨a3, b3, c3, d3, e3, hv, hr⟩ := BV.out.has (g := g3) (V := exTwo) (by simp)
    have HS := Lib.hid fun w' (hb : Below w6.heap.size w6 w') => vbox_cells (vbox_below hv hb)
    have RS := Lib.hid hr
    clear hv hr
    generalize hWW : w6 = Wr at *
    clear hWW
    have Pr0 := Lib.hid (show Below Wr.heap.size Wr Wr.drew from (Below.refl _ _).drew)
    refine wp_region_held_drew (S := (fun w' => w'.cell? ⟨g3, 0, none⟩ = some (.slice a3.1 a3.2.1 a3.2.2) ∧ w'.cell? ⟨g3, 1, none⟩ = some (.slice b3.1 b3.2.1 b3.2.2) ∧ w'.cell? ⟨g3, 2, none⟩ = some (.slice c3.1 c3.2.1 c3.2.2) ∧ w'.cell? ⟨g3, 3, none⟩ = some (.slice d3.1 d3.2.1 d3.2.2) ∧ w'.cell? ⟨g3, 4, none⟩ = some (.slice e3.1 e3.2.1 e3.2.2))) (by kernel_rfl) ?_ (fun hHeld => ?_)
    ·exact HS.out _ Pr0.out
    generalize World.drew Wr = r0 at *
    (refine tk_ (i := 0) (oi := ⟨_, _, _, _, _, _⟩) (v := ?_) rfl (Or.inl ⟨by rfl, ?_⟩) ?_; rotate_left 1; · (intro w hSw; (try dsimp only at hSw); go_simp; all_goals with_reducible rfl))
    try simp only [Act.put, si0, si1, si2]
    refine wpAnyH_ready (rs := [1, 8]) (by kernel_rfl) (by simp) ?_
    refine AllReadyH.cons (o := ⟨_, _, _, _, _, _⟩) rfl (fun Kq hKq => ?_) (AllReadyH.cons (o := ⟨_, _, _, _, _, _⟩) rfl (fun Kq hKq => ?_) (AllReadyH.nil))
    ·go_simp
     clear hHeld
     go_at_call 26; (with_reducible refine (at26_any _ _).mono ?_); rintro e r1 ⟨rfl, hb⟩
     have Pr1 := Lib.hid (below_after Pr0.out hb (Nat.le_refl _))
     clear hb
     refine hKq.out _ _ ?_ (fun hHeld => ?_)
     ·(try dsimp only); exact HS.out _ Pr1.out
     clear hKq Kq
     try simp only [Act.put, si0, si1, si2]
     refine wpAnyH_ready (rs := [2, 8]) (by kernel_rfl) (by simp) ?_
     refine AllReadyH.cons (o := ⟨_, _, _, _, _, _⟩) rfl (fun Kq hKq => ?_) (AllReadyH.cons (o := ⟨_, _, _, _, _, _⟩) rfl (fun Kq hKq => ?_) (AllReadyH.nil))
     ·go_simp
      clear hHeld
      go_at_call 26; (with_reducible refine (at26_any _ _).mono ?_); rintro e r2 ⟨rfl, hb⟩
      have Pr2 := Lib.hid (below_after Pr1.out hb (Nat.le_refl _))
      clear hb
      refine hKq.out _ _ ?_ (fun hHeld => ?_)
      ·(try dsimp only); exact HS.out _ Pr2.out
      clear hKq Kq
      try simp only [Act.put, si0, si1, si2]
      (refine tk_ (i := 3) (oi := ⟨_, _, _, _, _, _⟩) (v := ?_) rfl (Or.inl ⟨by rfl, ?_⟩) ?_; rotate_left 1; · (intro w hSw; (try dsimp only at hSw); go_simp; all_goals with_reducible rfl))
      try simp only [Act.put, si0, si1, si2]
      refine wpAnyH_ready (rs := [4, 8]) (by kernel_rfl) (by simp) ?_
      refine AllReadyH.cons (o := ⟨_, _, _, _, _, _⟩) rfl (fun Kq hKq => ?_) (AllReadyH.cons (o := ⟨_, _, _, _, _, _⟩) rfl (fun Kq hKq => ?_) (AllReadyH.nil))
      ·go_simp
       clear hHeld
       go_at_call 10; (with_reducible refine (p_far _ _ (RV.at_ (RS.out.below Pr2.out))).mono ?_); rintro e r3 ⟨na, nb, nc, nd, ne, rfl, hr, hb⟩
       have NR := Lib.hid hr
       clear hr
       have Pr3 := Lib.hid (below_after Pr2.out hb (Nat.le_refl _))
       clear hb
       refine hKq.out _ _ ?_ (fun hHeld => ?_)
       ·(try dsimp only); exact HS.out _ Pr3.out
       clear hKq Kq
       try simp only [Act.put, si0, si1, si2]
       (refine tk_ (i := 5) (oi := ⟨_, _, _, _, _, _⟩) (v := ?_) rfl (Or.inl ⟨by rfl, ?_⟩) ?_; rotate_left 1; · (intro w hSw; (try dsimp only at hSw); go_simp; all_goals with_reducible rfl))
       try simp only [Act.put, si0, si1, si2]
       (refine tk_ (i := 6) (oi := ⟨_, _, _, _, _, _⟩) (v := ?_) rfl (Or.inl ⟨by rfl, ?_⟩) ?_; rotate_left 1; · (intro w hSw; (try dsimp only at hSw); go_simp; all_goals with_reducible rfl))
       try simp only [Act.put, si0, si1, si2]
       (refine tk_ (i := 7) (oi := ⟨_, _, _, _, _, _⟩) (v := ?_) rfl (Or.inl ⟨by rfl, ?_⟩) ?_; rotate_left 1; · (intro w hSw; (try dsimp only at hSw); go_simp; all_goals with_reducible rfl))
       try simp only [Act.put, si0, si1, si2]
       refine wpAnyH_ready (rs := [8]) (by kernel_rfl) (by simp) ?_
       refine AllReadyH.cons (o := ⟨_, _, _, _, _, _⟩) rfl (fun Kq hKq => ?_) (AllReadyH.nil)
       clear hHeld
       refine step_valloc (by rfl) (by rfl) _ ?_; intro gn r4 k1 hb k3
       have LO := Lib.hid (Nat.le_trans Pr3.out.size k3)
       have CB := Lib.hid k1
       clear k1 k3
       have Pr4 := Lib.hid (below_after Pr3.out hb (Nat.le_refl _))
       have NR := Lib.hid (NR.out.below hb)
       clear hb
       refine hKq.out _ _ ?_ (fun hHeld => ?_)
       ·(try dsimp only); exact HS.out _ Pr4.out
       clear hKq Kq
       try simp only [Act.put, si0, si1, si2]
       refine wpAnyH_ready (rs := [9]) (by kernel_rfl) (by simp) ?_
       refine AllReadyH.cons (o := ⟨_, _, _, _, _, _⟩) rfl (fun Kq hKq => ?_) (AllReadyH.nil)
       clear hHeld
       refine step_vstore (by rfl) (.tmp 7) (.tmp 40) (by rfl) _ gn na nb nc nd ne exFar (by rfl) (by rfl) CB.out NR.out ?_; intro r5 k1 k2
       have Pr5 := Lib.hid (Pr4.out.trans (below_grown k2 LO.out Pr4.out.size))
       have NB := Lib.hid k1
       clear k1 k2
       refine hKq.out _ _ ?_ (fun hHeld => ?_)
       ·(try dsimp only); exact HS.out _ Pr5.out
       clear hKq Kq
       try simp only [Act.put]
       (refine tk_ (i := 10) (oi := ⟨_, _, _, _, _, _⟩) (v := ?_) rfl (Or.inl ⟨by rfl, ?_⟩) ?_; rotate_left 1; · (intro w hSw; (try dsimp only at hSw); go_simp; all_goals with_reducible rfl))
       try simp only [Act.put, si0, si1, si2]
       refine wpAnyH_done (by kernel_rfl) ?_ _
       go_wp2_with fail
       go_meet
       exact ⟨gn, rfl, rfl, Lib.hid ((BV.out.keep Pr5.out).more NB.out)⟩
      ·clear hHeld
       refine step_valloc (by rfl) (by rfl) _ ?_; intro gn r3 k1 hb k3
       have LO := Lib.hid (Nat.le_trans Pr2.out.size k3)
       have CB := Lib.hid k1
       clear k1 k3
       have Pr3 := Lib.hid (below_after Pr2.out hb (Nat.le_refl _))
       clear hb
       refine hKq.out _ _ ?_ (fun hHeld => ?_)
       ·(try dsimp only); exact HS.out _ Pr3.out
       clear hKq Kq
       try simp only [Act.put, si0, si1, si2]
       refine wpAnyH_ready (rs := [4]) (by kernel_rfl) (by simp) ?_
       refine AllReadyH.cons (o := ⟨_, _, _, _, _, _⟩) rfl (fun Kq hKq => ?_) (AllReadyH.nil)
       go_simp
       clear hHeld
       go_at_call 10; (with_reducible refine (p_far _ _ (RV.at_ (RS.out.below Pr3.out))).mono ?_); rintro e r4 ⟨na, nb, nc, nd, ne, rfl, hr, hb⟩
       have NR := Lib.hid hr
       clear hr
       have Pr4 := Lib.hid (below_after Pr3.out hb (Nat.le_refl _))
       have CB := Lib.hid (vbox_below CB.out hb)
       clear hb
       refine hKq.out _ _ ?_ (fun hHeld => ?_)
       ·(try dsimp only); exact HS.out _ Pr4.out
       clear hKq Kq
       try simp only [Act.put, si0, si1, si2]
       (refine tk_ (i := 5) (oi := ⟨_, _, _, _, _, _⟩) (v := ?_) rfl (Or.inl ⟨by rfl, ?_⟩) ?_; rotate_left 1; · (intro w hSw; (try dsimp only at hSw); go_simp; all_goals with_reducible rfl))
       try simp only [Act.put, si0, si1, si2]
       (refine tk_ (i := 6) (oi := ⟨_, _, _, _, _, _⟩) (v := ?_) rfl (Or.inl ⟨by rfl, ?_⟩) ?_; rotate_left 1; · (intro w hSw; (try dsimp only at hSw); go_simp; all_goals with_reducible rfl))
       try simp only [Act.put, si0, si1, si2]
       (refine tk_ (i := 7) (oi := ⟨_, _, _, _, _, _⟩) (v := ?_) rfl (Or.inl ⟨by rfl, ?_⟩) ?_; rotate_left 1; · (intro w hSw; (try dsimp only at hSw); go_simp; all_goals with_reducible rfl))
       try simp only [Act.put, si0, si1, si2]
       refine wpAnyH_ready (rs := [9]) (by kernel_rfl) (by simp) ?_
       refine AllReadyH.cons (o := ⟨_, _, _, _, _, _⟩) rfl (fun Kq hKq => ?_) (AllReadyH.nil)
       clear hHeld
       refine step_vstore (by rfl) (.tmp 7) (.tmp 40) (by rfl) _ gn na nb nc nd ne exFar (by rfl) (by rfl) CB.out NR.out ?_; intro r5 k1 k2
       have Pr5 := Lib.hid (Pr4.out.trans (below_grown k2 LO.out Pr4.out.size))
       have NB := Lib.hid k1
       clear k1 k2
       refine hKq.out _ _ ?_ (fun hHeld => ?_)
       ·(try dsimp only); exact HS.out _ Pr5.out
       clear hKq Kq
       try simp only [Act.put]
       (refine tk_ (i := 10) (oi := ⟨_, _, _, _, _, _⟩) (v := ?_) rfl (Or.inl ⟨by rfl, ?_⟩) ?_; rotate_left 1; · (intro w hSw; (try dsimp only at hSw); go_simp; all_goals with_reducible rfl))
       try simp only [Act.put, si0, si1, si2]
       refine wpAnyH_done (by kernel_rfl) ?_ _
       go_wp2_with fail
       go_meet
       exact ⟨gn, rfl, rfl, Lib.hid ((BV.out.keep Pr5.out).more NB.out)⟩
     ·clear hHeld
      refine step_valloc (by rfl) (by rfl) _ ?_; intro gn r2 k1 hb k3
      have LO := Lib.hid (Nat.le_trans Pr1.out.size k3)
      have CB := Lib.hid k1
      clear k1 k3
      have Pr2 := Lib.hid (below_after Pr1.out hb (Nat.le_refl _))
      clear hb
      refine hKq.out _ _ ?_ (fun hHeld => ?_)
      ·(try dsimp only); exact HS.out _ Pr2.out
      clear hKq Kq
      try simp only [Act.put, si0, si1, si2]
      refine wpAnyH_ready (rs := [2]) (by kernel_rfl) (by simp) ?_
      refine AllReadyH.cons (o := ⟨_, _, _, _, _, _⟩) rfl (fun Kq hKq => ?_) (AllReadyH.nil)
      go_simp
      clear hHeld
      go_at_call 26; (with_reducible refine (at26_any _ _).mono ?_); rintro e r3 ⟨rfl, hb⟩
      have Pr3 := Lib.hid (below_after Pr2.out hb (Nat.le_refl _))
      have CB := Lib.hid (vbox_below CB.out hb)
      clear hb
      refine hKq.out _ _ ?_ (fun hHeld => ?_)
      ·(try dsimp only); exact HS.out _ Pr3.out
      clear hKq Kq
      try simp only [Act.put, si0, si1, si2]
      (refine tk_ (i := 3) (oi := ⟨_, _, _, _, _, _⟩) (v := ?_) rfl (Or.inl ⟨by rfl, ?_⟩) ?_; rotate_left 1; · (intro w hSw; (try dsimp only at hSw); go_simp; all_goals with_reducible rfl))
      try simp only [Act.put, si0, si1, si2]
      refine wpAnyH_ready (rs := [4]) (by kernel_rfl) (by simp) ?_
      refine AllReadyH.cons (o := ⟨_, _, _, _, _, _⟩) rfl (fun Kq hKq => ?_) (AllReadyH.nil)
      go_simp
      clear hHeld
      go_at_call 10; (with_reducible refine (p_far _ _ (RV.at_ (RS.out.below Pr3.out))).mono ?_); rintro e r4 ⟨na, nb, nc, nd, ne, rfl, hr, hb⟩
      have NR := Lib.hid hr
      clear hr
      have Pr4 := Lib.hid (below_after Pr3.out hb (Nat.le_refl _))
      have CB := Lib.hid (vbox_below CB.out hb)
      clear hb
      refine hKq.out _ _ ?_ (fun hHeld => ?_)
      ·(try dsimp only); exact HS.out _ Pr4.out
      clear hKq Kq
      try simp only [Act.put, si0, si1, si2]
      (refine tk_ (i := 5) (oi := ⟨_, _, _, _, _, _⟩) (v := ?_) rfl (Or.inl ⟨by rfl, ?_⟩) ?_; rotate_left 1; · (intro w hSw; (try dsimp only at hSw); go_simp; all_goals with_reducible rfl))
      try simp only [Act.put, si0, si1, si2]
      (refine tk_ (i := 6) (oi := ⟨_, _, _, _, _, _⟩) (v := ?_) rfl (Or.inl ⟨by rfl, ?_⟩) ?_; rotate_left 1; · (intro w hSw; (try dsimp only at hSw); go_simp; all_goals with_reducible rfl))
      try simp only [Act.put, si0, si1, si2]
      (refine tk_ (i := 7) (oi := ⟨_, _, _, _, _, _⟩) (v := ?_) rfl (Or.inl ⟨by rfl, ?_⟩) ?_; rotate_left 1; · (intro w hSw; (try dsimp only at hSw); go_simp; all_goals with_reducible rfl))
      try simp only [Act.put, si0, si1, si2]
      refine wpAnyH_ready (rs := [9]) (by kernel_rfl) (by simp) ?_
      refine AllReadyH.cons (o := ⟨_, _, _, _, _, _⟩) rfl (fun Kq hKq => ?_) (AllReadyH.nil)
      clear hHeld
      refine step_vstore (by rfl) (.tmp 7) (.tmp 40) (by rfl) _ gn na nb nc nd ne exFar (by rfl) (by rfl) CB.out NR.out ?_; intro r5 k1 k2
      have Pr5 := Lib.hid (Pr4.out.trans (below_grown k2 LO.out Pr4.out.size))
      have NB := Lib.hid k1
      clear k1 k2
      refine hKq.out _ _ ?_ (fun hHeld => ?_)
      ·(try dsimp only); exact HS.out _ Pr5.out
      clear hKq Kq
      try simp only [Act.put]
      (refine tk_ (i := 10) (oi := ⟨_, _, _, _, _, _⟩) (v := ?_) rfl (Or.inl ⟨by rfl, ?_⟩) ?_; rotate_left 1; · (intro w hSw; (try dsimp only at hSw); go_simp; all_goals with_reducible rfl))
      try simp only [Act.put, si0, si1, si2]
      refine wpAnyH_done (by kernel_rfl) ?_ _
      go_wp2_with fail
      go_meet
      exact ⟨gn, rfl, rfl, Lib.hid ((BV.out.keep Pr5.out).more NB.out)⟩
    ·clear hHeld
     refine step_valloc (by rfl) (by rfl) _ ?_; intro gn r1 k1 hb k3
     have LO := Lib.hid (Nat.le_trans Pr0.out.size k3)
     have CB := Lib.hid k1
     clear k1 k3
     have Pr1 := Lib.hid (below_after Pr0.out hb (Nat.le_refl _))
     clear hb
     refine hKq.out _ _ ?_ (fun hHeld => ?_)
     ·(try dsimp only); exact HS.out _ Pr1.out
     clear hKq Kq
     try simp only [Act.put, si0, si1, si2]
     refine wpAnyH_ready (rs := [1]) (by kernel_rfl) (by simp) ?_
     refine AllReadyH.cons (o := ⟨_, _, _, _, _, _⟩) rfl (fun Kq hKq => ?_) (AllReadyH.nil)
     go_simp
     clear hHeld
     go_at_call 26; (with_reducible refine (at26_any _ _).mono ?_); rintro e r2 ⟨rfl, hb⟩
     have Pr2 := Lib.hid (below_after Pr1.out hb (Nat.le_refl _))
     have CB := Lib.hid (vbox_below CB.out hb)
     clear hb
     refine hKq.out _ _ ?_ (fun hHeld => ?_)
     ·(try dsimp only); exact HS.out _ Pr2.out
     clear hKq Kq
     try simp only [Act.put, si0, si1, si2]
     refine wpAnyH_ready (rs := [2]) (by kernel_rfl) (by simp) ?_
     refine AllReadyH.cons (o := ⟨_, _, _, _, _, _⟩) rfl (fun Kq hKq => ?_) (AllReadyH.nil)
     go_simp
     clear hHeld
     go_at_call 26; (with_reducible refine (at26_any _ _).mono ?_); rintro e r3 ⟨rfl, hb⟩
     have Pr3 := Lib.hid (below_after Pr2.out hb (Nat.le_refl _))
     have CB := Lib.hid (vbox_below CB.out hb)
     clear hb
     refine hKq.out _ _ ?_ (fun hHeld => ?_)
     ·(try dsimp only); exact HS.out _ Pr3.out
     clear hKq Kq
     try simp only [Act.put, si0, si1, si2]
     (refine tk_ (i := 3) (oi := ⟨_, _, _, _, _, _⟩) (v := ?_) rfl (Or.inl ⟨by rfl, ?_⟩) ?_; rotate_left 1; · (intro w hSw; (try dsimp only at hSw); go_simp; all_goals with_reducible rfl))
     try simp only [Act.put, si0, si1, si2]
     refine wpAnyH_ready (rs := [4]) (by kernel_rfl) (by simp) ?_
     refine AllReadyH.cons (o := ⟨_, _, _, _, _, _⟩) rfl (fun Kq hKq => ?_) (AllReadyH.nil)
     go_simp
     clear hHeld
     go_at_call 10; (with_reducible refine (p_far _ _ (RV.at_ (RS.out.below Pr3.out))).mono ?_); rintro e r4 ⟨na, nb, nc, nd, ne, rfl, hr, hb⟩
     have NR := Lib.hid hr
     clear hr
     have Pr4 := Lib.hid (below_after Pr3.out hb (Nat.le_refl _))
     have CB := Lib.hid (vbox_below CB.out hb)
     clear hb
     refine hKq.out _ _ ?_ (fun hHeld => ?_)
     ·(try dsimp only); exact HS.out _ Pr4.out
     clear hKq Kq
     try simp only [Act.put, si0, si1, si2]
     (refine tk_ (i := 5) (oi := ⟨_, _, _, _, _, _⟩) (v := ?_) rfl (Or.inl ⟨by rfl, ?_⟩) ?_; rotate_left 1; · (intro w hSw; (try dsimp only at hSw); go_simp; all_goals with_reducible rfl))
     try simp only [Act.put, si0, si1, si2]
     (refine tk_ (i := 6) (oi := ⟨_, _, _, _, _, _⟩) (v := ?_) rfl (Or.inl ⟨by rfl, ?_⟩) ?_; rotate_left 1; · (intro w hSw; (try dsimp only at hSw); go_simp; all_goals with_reducible rfl))
     try simp only [Act.put, si0, si1, si2]
     (refine tk_ (i := 7) (oi := ⟨_, _, _, _, _, _⟩) (v := ?_) rfl (Or.inl ⟨by rfl, ?_⟩) ?_; rotate_left 1; · (intro w hSw; (try dsimp only at hSw); go_simp; all_goals with_reducible rfl))
     try simp only [Act.put, si0, si1, si2]
     refine wpAnyH_ready (rs := [9]) (by kernel_rfl) (by simp) ?_
     refine AllReadyH.cons (o := ⟨_, _, _, _, _, _⟩) rfl (fun Kq hKq => ?_) (AllReadyH.nil)
     clear hHeld
     refine step_vstore (by rfl) (.tmp 7) (.tmp 40) (by rfl) _ gn na nb nc nd ne exFar (by rfl) (by rfl) CB.out NR.out ?_; intro r5 k1 k2
     have Pr5 := Lib.hid (Pr4.out.trans (below_grown k2 LO.out Pr4.out.size))
     have NB := Lib.hid k1
     clear k1 k2
     refine hKq.out _ _ ?_ (fun hHeld => ?_)
     ·(try dsimp only); exact HS.out _ Pr5.out
     clear hKq Kq
     try simp only [Act.put]
     (refine tk_ (i := 10) (oi := ⟨_, _, _, _, _, _⟩) (v := ?_) rfl (Or.inl ⟨by rfl, ?_⟩) ?_; rotate_left 1; · (intro w hSw; (try dsimp only at hSw); go_simp; all_goals with_reducible rfl))
     try simp only [Act.put, si0, si1, si2]
     refine wpAnyH_done (by kernel_rfl) ?_ _
     go_wp2_with fail
     go_meet
     exact ⟨gn, rfl, rfl, Lib.hid ((BV.out.keep Pr5.out).more NB.out)⟩
   case rest =>
    obtain ⟨g7, rfl, rfl, BV⟩ := hcut
    rename World => w7
    go_upto_region 5 with fail
    go_cut [9] (fun s9 wx => ∃ g, s9 = .pointer (some ⟨g, 0, none⟩) ∧ Hid (Bv w wx ((g, exSeen) :: ((g7, exFar) :: ((g5, exUp) :: ((g3, exTwo) :: [(g1, exOne)]))))))
    case first =>
     obtain ⟨a3, b3, c3, d3, e3, hv, hr⟩ := BV.out.has (g := g3) (V := exTwo) (by simp)
     have HS := Lib.hid fun w' (hb : Below w7.heap.size w7 w') => vbox_cells (vbox_below hv hb)
     have RS := Lib.hid hr
     clear hv hr
     generalize hWW : w7 = Ws at *
     clear hWW
     have Ps0 := Lib.hid (show Below Ws.heap.size Ws Ws.drew from (Below.refl _ _).drew)
     refine wp_region_held_drew (S := (fun w' => w'.cell? ⟨g3, 0, none⟩ = some (.slice a3.1 a3.2.1 a3.2.2) ∧ w'.cell? ⟨g3, 1, none⟩ = some (.slice b3.1 b3.2.1 b3.2.2) ∧ w'.cell? ⟨g3, 2, none⟩ = some (.slice c3.1 c3.2.1 c3.2.2) ∧ w'.cell? ⟨g3, 3, none⟩ = some (.slice d3.1 d3.2.1 d3.2.2) ∧ w'.cell? ⟨g3, 4, none⟩ = some (.slice e3.1 e3.2.1 e3.2.2))) (by kernel_rfl) ?_ (fun hHeld => ?_)
     ·exact HS.out _ Ps0.out
     generalize World.drew Ws = s0 at *
     (refine tk_ (i := 0) (oi := ⟨_, _, _, _, _, _⟩) (v := ?_) rfl (Or.inl ⟨by rfl, ?_⟩) ?_; rotate_left 1; · (intro w hSw; (try dsimp only at hSw); go_simp; all_goals with_reducible rfl))
     try simp only [Act.put, si0, si1, si2]
     (refine tk_ (i := 1) (oi := ⟨_, _, _, _, _, _⟩) (v := ?_) rfl (Or.inl ⟨by rfl, ?_⟩) ?_; rotate_left 1; · (intro w hSw; (try dsimp only at hSw); go_simp; all_goals with_reducible rfl))
     try simp only [Act.put, si0, si1, si2]
     refine wpAnyH_ready (rs := [2, 4]) (by kernel_rfl) (by simp) ?_
     refine AllReadyH.cons (o := ⟨_, _, _, _, _, _⟩) rfl (fun Kq hKq => ?_) (AllReadyH.cons (o := ⟨_, _, _, _, _, _⟩) rfl (fun Kq hKq => ?_) (AllReadyH.nil))
     ·go_simp
      clear hHeld
      go_at_call 26; (with_reducible refine (at26_any _ _).mono ?_); rintro e s1 ⟨rfl, hb⟩
      have Ps1 := Lib.hid (below_after Ps0.out hb (Nat.le_refl _))
      clear hb
      refine hKq.out _ _ ?_ (fun hHeld => ?_)
      ·(try dsimp only); exact HS.out _ Ps1.out
      clear hKq Kq
      try simp only [Act.put, si0, si1, si2]
      refine wpAnyH_ready (rs := [3, 4]) (by kernel_rfl) (by simp) ?_
      refine AllReadyH.cons (o := ⟨_, _, _, _, _, _⟩) rfl (fun Kq hKq => ?_) (AllReadyH.cons (o := ⟨_, _, _, _, _, _⟩) rfl (fun Kq hKq => ?_) (AllReadyH.nil))
      ·go_simp
       clear hHeld
       go_at_call 27; (with_reducible refine (t_seen _ _ _ (RV.at_ (RS.out.below Ps1.out)) (RV.at_ (RS.out.below Ps1.out))).mono ?_); rintro e s2 ⟨na, nb, nc, nd, ne, rfl, hr, hb⟩
       have NR := Lib.hid hr
       clear hr
       have Ps2 := Lib.hid (below_after Ps1.out hb (Nat.le_refl _))
       clear hb
       refine hKq.out _ _ ?_ (fun hHeld => ?_)
       ·(try dsimp only); exact HS.out _ Ps2.out
       clear hKq Kq
       try simp only [Act.put, si0, si1, si2]
       refine wpAnyH_ready (rs := [4]) (by kernel_rfl) (by simp) ?_
       refine AllReadyH.cons (o := ⟨_, _, _, _, _, _⟩) rfl (fun Kq hKq => ?_) (AllReadyH.nil)
       clear hHeld
       refine step_valloc (by rfl) (by rfl) _ ?_; intro gn s3 k1 hb k3
       have LO := Lib.hid (Nat.le_trans Ps2.out.size k3)
       have CB := Lib.hid k1
       clear k1 k3
       have Ps3 := Lib.hid (below_after Ps2.out hb (Nat.le_refl _))
       have NR := Lib.hid (NR.out.below hb)
       clear hb
       refine hKq.out _ _ ?_ (fun hHeld => ?_)
       ·(try dsimp only); exact HS.out _ Ps3.out
       clear hKq Kq
       try simp only [Act.put, si0, si1, si2]
       refine wpAnyH_ready (rs := [5]) (by kernel_rfl) (by simp) ?_
       refine AllReadyH.cons (o := ⟨_, _, _, _, _, _⟩) rfl (fun Kq hKq => ?_) (AllReadyH.nil)
       clear hHeld
       refine step_vstore (by rfl) (.tmp 9) (.tmp 45) (by rfl) _ gn na nb nc nd ne exSeen (by rfl) (by rfl) CB.out NR.out ?_; intro s4 k1 k2
       have Ps4 := Lib.hid (Ps3.out.trans (below_grown k2 LO.out Ps3.out.size))
       have NB := Lib.hid k1
       clear k1 k2
       refine hKq.out _ _ ?_ (fun hHeld => ?_)
       ·(try dsimp only); exact HS.out _ Ps4.out
       clear hKq Kq
       try simp only [Act.put]
       refine wpAnyH_done (by kernel_rfl) ?_ _
       go_wp2_with fail
       go_meet
       exact ⟨gn, rfl, Lib.hid ((BV.out.keep Ps4.out).more NB.out)⟩
      ·clear hHeld
       refine step_valloc (by rfl) (by rfl) _ ?_; intro gn s2 k1 hb k3
       have LO := Lib.hid (Nat.le_trans Ps1.out.size k3)
       have CB := Lib.hid k1
       clear k1 k3
       have Ps2 := Lib.hid (below_after Ps1.out hb (Nat.le_refl _))
       clear hb
       refine hKq.out _ _ ?_ (fun hHeld => ?_)
       ·(try dsimp only); exact HS.out _ Ps2.out
       clear hKq Kq
       try simp only [Act.put, si0, si1, si2]
       refine wpAnyH_ready (rs := [3]) (by kernel_rfl) (by simp) ?_
       refine AllReadyH.cons (o := ⟨_, _, _, _, _, _⟩) rfl (fun Kq hKq => ?_) (AllReadyH.nil)
       go_simp
       clear hHeld
       go_at_call 27; (with_reducible refine (t_seen _ _ _ (RV.at_ (RS.out.below Ps2.out)) (RV.at_ (RS.out.below Ps2.out))).mono ?_); rintro e s3 ⟨na, nb, nc, nd, ne, rfl, hr, hb⟩
       have NR := Lib.hid hr
       clear hr
       have Ps3 := Lib.hid (below_after Ps2.out hb (Nat.le_refl _))
       have CB := Lib.hid (vbox_below CB.out hb)
       clear hb
       refine hKq.out _ _ ?_ (fun hHeld => ?_)
       ·(try dsimp only); exact HS.out _ Ps3.out
       clear hKq Kq
       try simp only [Act.put, si0, si1, si2]
       refine wpAnyH_ready (rs := [5]) (by kernel_rfl) (by simp) ?_
       refine AllReadyH.cons (o := ⟨_, _, _, _, _, _⟩) rfl (fun Kq hKq => ?_) (AllReadyH.nil)
       clear hHeld
       refine step_vstore (by rfl) (.tmp 9) (.tmp 45) (by rfl) _ gn na nb nc nd ne exSeen (by rfl) (by rfl) CB.out NR.out ?_; intro s4 k1 k2
       have Ps4 := Lib.hid (Ps3.out.trans (below_grown k2 LO.out Ps3.out.size))
       have NB := Lib.hid k1
       clear k1 k2
       refine hKq.out _ _ ?_ (fun hHeld => ?_)
       ·(try dsimp only); exact HS.out _ Ps4.out
       clear hKq Kq
       try simp only [Act.put]
       refine wpAnyH_done (by kernel_rfl) ?_ _
       go_wp2_with fail
       go_meet
       exact ⟨gn, rfl, Lib.hid ((BV.out.keep Ps4.out).more NB.out)⟩
     ·clear hHeld
      refine step_valloc (by rfl) (by rfl) _ ?_; intro gn s1 k1 hb k3
      have LO := Lib.hid (Nat.le_trans Ps0.out.size k3)
      have CB := Lib.hid k1
      clear k1 k3
      have Ps1 := Lib.hid (below_after Ps0.out hb (Nat.le_refl _))
      clear hb
      refine hKq.out _ _ ?_ (fun hHeld => ?_)
      ·(try dsimp only); exact HS.out _ Ps1.out
      clear hKq Kq
      try simp only [Act.put, si0, si1, si2]
      refine wpAnyH_ready (rs := [2]) (by kernel_rfl) (by simp) ?_
      refine AllReadyH.cons (o := ⟨_, _, _, _, _, _⟩) rfl (fun Kq hKq => ?_) (AllReadyH.nil)
      go_simp
      clear hHeld
      go_at_call 26; (with_reducible refine (at26_any _ _).mono ?_); rintro e s2 ⟨rfl, hb⟩
      have Ps2 := Lib.hid (below_after Ps1.out hb (Nat.le_refl _))
      have CB := Lib.hid (vbox_below CB.out hb)
      clear hb
      refine hKq.out _ _ ?_ (fun hHeld => ?_)
      ·(try dsimp only); exact HS.out _ Ps2.out
      clear hKq Kq
      try simp only [Act.put, si0, si1, si2]
      refine wpAnyH_ready (rs := [3]) (by kernel_rfl) (by simp) ?_
      refine AllReadyH.cons (o := ⟨_, _, _, _, _, _⟩) rfl (fun Kq hKq => ?_) (AllReadyH.nil)
      go_simp
      clear hHeld
      go_at_call 27; (with_reducible refine (t_seen _ _ _ (RV.at_ (RS.out.below Ps2.out)) (RV.at_ (RS.out.below Ps2.out))).mono ?_); rintro e s3 ⟨na, nb, nc, nd, ne, rfl, hr, hb⟩
      have NR := Lib.hid hr
      clear hr
      have Ps3 := Lib.hid (below_after Ps2.out hb (Nat.le_refl _))
      have CB := Lib.hid (vbox_below CB.out hb)
      clear hb
      refine hKq.out _ _ ?_ (fun hHeld => ?_)
      ·(try dsimp only); exact HS.out _ Ps3.out
      clear hKq Kq
      try simp only [Act.put, si0, si1, si2]
      refine wpAnyH_ready (rs := [5]) (by kernel_rfl) (by simp) ?_
      refine AllReadyH.cons (o := ⟨_, _, _, _, _, _⟩) rfl (fun Kq hKq => ?_) (AllReadyH.nil)
      clear hHeld
      refine step_vstore (by rfl) (.tmp 9) (.tmp 45) (by rfl) _ gn na nb nc nd ne exSeen (by rfl) (by rfl) CB.out NR.out ?_; intro s4 k1 k2
      have Ps4 := Lib.hid (Ps3.out.trans (below_grown k2 LO.out Ps3.out.size))
      have NB := Lib.hid k1
      clear k1 k2
      refine hKq.out _ _ ?_ (fun hHeld => ?_)
      ·(try dsimp only); exact HS.out _ Ps4.out
      clear hKq Kq
      try simp only [Act.put]
      refine wpAnyH_done (by kernel_rfl) ?_ _
      go_wp2_with fail
      go_meet
      exact ⟨gn, rfl, Lib.hid ((BV.out.keep Ps4.out).more NB.out)⟩
    case rest =>
     obtain ⟨g9, rfl, BV⟩ := hcut
     rename World => w8
     obtain ⟨a1, b1, c1, d1, e1, hv1, hr1⟩ := BV.out.has (g := g1) (V := exOne) (by simp)
     obtain ⟨a3, b3, c3, d3, e3, hv3, hr3⟩ := BV.out.has (g := g3) (V := exTwo) (by simp)
     obtain ⟨a5, b5, c5, d5, e5, hv5, hr5⟩ := BV.out.has (g := g5) (V := exUp) (by simp)
     obtain ⟨a7, b7, c7, d7, e7, hv7, hr7⟩ := BV.out.has (g := g7) (V := exFar) (by simp)
     obtain ⟨a9, b9, c9, d9, e9, hv9, hr9⟩ := BV.out.has (g := g9) (V := exSeen) (by simp)
     have HS := Lib.hid fun w' (hb : Below w8.heap.size w8 w') => And.intro (vbox_cells (vbox_below hv1 hb)) (And.intro (vbox_cells (vbox_below hv3 hb)) (And.intro (vbox_cells (vbox_below hv5 hb)) (And.intro (vbox_cells (vbox_below hv7 hb)) (vbox_cells (vbox_below hv9 hb)))))
     have R1 := Lib.hid fun w' (hb : Below w8.heap.size w8 w') => hr1.below hb
     have R3 := Lib.hid fun w' (hb : Below w8.heap.size w8 w') => hr3.below hb
     have R5 := Lib.hid fun w' (hb : Below w8.heap.size w8 w') => hr5.below hb
     have R7 := Lib.hid fun w' (hb : Below w8.heap.size w8 w') => hr7.below hb
     have R9 := Lib.hid fun w' (hb : Below w8.heap.size w8 w') => hr9.below hb
     have H3 := Lib.hid fun w' (hb : Below w8.heap.size w8 w') => (show HoldsV w' g3 exTwo from ⟨a3, b3, c3, d3, e3, vbox_below hv3 hb, hr3.below hb⟩)
     have TE := Lib.hid fun w' (hb : Below w8.heap.size w8 w') => HE.out.below (below_after BV.out.below hb (Nat.le_refl _))
     have TR := Lib.hid fun w' (hb : Below w8.heap.size w8 w') => HR.out.below (below_after BV.out.below hb (Nat.le_refl _))
     have BB := Lib.hid BV.out.below
     clear hv1 hr1 hv3 hr3 hv5 hr5 hv7 hr7 hv9 hr9 BV HE HR
     have P0 := Lib.hid (show Below w8.heap.size w8 w8.drew from (Below.refl _ _).drew)
     go_wp2_with fail
     refine wp_region_held_drew (S := (fun w' => (w'.cell? ⟨g1, 0, none⟩ = some (.slice a1.1 a1.2.1 a1.2.2) ∧ w'.cell? ⟨g1, 1, none⟩ = some (.slice b1.1 b1.2.1 b1.2.2) ∧ w'.cell? ⟨g1, 2, none⟩ = some (.slice c1.1 c1.2.1 c1.2.2) ∧ w'.cell? ⟨g1, 3, none⟩ = some (.slice d1.1 d1.2.1 d1.2.2) ∧ w'.cell? ⟨g1, 4, none⟩ = some (.slice e1.1 e1.2.1 e1.2.2)) ∧ (w'.cell? ⟨g3, 0, none⟩ = some (.slice a3.1 a3.2.1 a3.2.2) ∧ w'.cell? ⟨g3, 1, none⟩ = some (.slice b3.1 b3.2.1 b3.2.2) ∧ w'.cell? ⟨g3, 2, none⟩ = some (.slice c3.1 c3.2.1 c3.2.2) ∧ w'.cell? ⟨g3, 3, none⟩ = some (.slice d3.1 d3.2.1 d3.2.2) ∧ w'.cell? ⟨g3, 4, none⟩ = some (.slice e3.1 e3.2.1 e3.2.2)) ∧ (w'.cell? ⟨g5, 0, none⟩ = some (.slice a5.1 a5.2.1 a5.2.2) ∧ w'.cell? ⟨g5, 1, none⟩ = some (.slice b5.1 b5.2.1 b5.2.2) ∧ w'.cell? ⟨g5, 2, none⟩ = some (.slice c5.1 c5.2.1 c5.2.2) ∧ w'.cell? ⟨g5, 3, none⟩ = some (.slice d5.1 d5.2.1 d5.2.2) ∧ w'.cell? ⟨g5, 4, none⟩ = some (.slice e5.1 e5.2.1 e5.2.2)) ∧ (w'.cell? ⟨g7, 0, none⟩ = some (.slice a7.1 a7.2.1 a7.2.2) ∧ w'.cell? ⟨g7, 1, none⟩ = some (.slice b7.1 b7.2.1 b7.2.2) ∧ w'.cell? ⟨g7, 2, none⟩ = some (.slice c7.1 c7.2.1 c7.2.2) ∧ w'.cell? ⟨g7, 3, none⟩ = some (.slice d7.1 d7.2.1 d7.2.2) ∧ w'.cell? ⟨g7, 4, none⟩ = some (.slice e7.1 e7.2.1 e7.2.2)) ∧ (w'.cell? ⟨g9, 0, none⟩ = some (.slice a9.1 a9.2.1 a9.2.2) ∧ w'.cell? ⟨g9, 1, none⟩ = some (.slice b9.1 b9.2.1 b9.2.2) ∧ w'.cell? ⟨g9, 2, none⟩ = some (.slice c9.1 c9.2.1 c9.2.2) ∧ w'.cell? ⟨g9, 3, none⟩ = some (.slice d9.1 d9.2.1 d9.2.2) ∧ w'.cell? ⟨g9, 4, none⟩ = some (.slice e9.1 e9.2.1 e9.2.2)))) (by kernel_rfl) ?_ (fun hHeld => ?_)
     ·exact HS.out _ P0.out
     (refine tk_ (i := 0) (oi := ⟨_, _, _, _, _, _⟩) (v := ?_) rfl (Or.inl ⟨by rfl, ?_⟩) ?_; rotate_left 1; · (intro w hSw; (try dsimp only at hSw); go_simp; all_goals with_reducible rfl))
     try simp only [Act.put, si0, si1, si2]
     (refine tk_ (i := 1) (oi := ⟨_, _, _, _, _, _⟩) (v := ?_) rfl (Or.inl ⟨by rfl, ?_⟩) ?_; rotate_left 1; · (intro w hSw; (try dsimp only at hSw); go_simp; all_goals with_reducible rfl))
     try simp only [Act.put, si0, si1, si2]
     (refine tk_ (i := 2) (oi := ⟨_, _, _, _, _, _⟩) (v := ?_) rfl (Or.inl ⟨by rfl, ?_⟩) ?_; rotate_left 1; · (intro w hSw; (try dsimp only at hSw); go_simp; all_goals with_reducible rfl))
     try simp only [Act.put, si0, si1, si2]
     first | (refine tk_ (i := 3) (oi := ⟨_, _, _, _, _, _⟩) (v := ?_) rfl (Or.inl ⟨by rfl, ?_⟩) ?_; rotate_left 1; · (intro w hSw; (try dsimp only at hSw); go_simp; all_goals with_reducible rfl)) | refine tk_ (i := 3) (oi := ⟨_, _, _, _, _, _⟩) (v := undef) rfl (Or.inr ⟨by kernel_rfl, rfl⟩) ?_
     try simp only [Act.put, si0, si1, si2]
     first | (refine tk_ (i := 4) (oi := ⟨_, _, _, _, _, _⟩) (v := ?_) rfl (Or.inl ⟨by rfl, ?_⟩) ?_; rotate_left 1; · (intro w hSw; (try dsimp only at hSw); go_simp; all_goals with_reducible rfl)) | refine tk_ (i := 4) (oi := ⟨_, _, _, _, _, _⟩) (v := undef) rfl (Or.inr ⟨by kernel_rfl, rfl⟩) ?_
     try simp only [Act.put, si0, si1, si2]
     (refine tk_ (i := 5) (oi := ⟨_, _, _, _, _, _⟩) (v := ?_) rfl (Or.inl ⟨by rfl, ?_⟩) ?_; rotate_left 1; · (intro w hSw; (try dsimp only at hSw); go_simp; all_goals with_reducible rfl))
     try simp only [Act.put, si0, si1, si2]
     (refine tk_ (i := 6) (oi := ⟨_, _, _, _, _, _⟩) (v := ?_) rfl (Or.inl ⟨by rfl, ?_⟩) ?_; rotate_left 1; · (intro w hSw; (try dsimp only at hSw); go_simp; all_goals with_reducible rfl))
     try simp only [Act.put, si0, si1, si2]
     first | (refine tk_ (i := 7) (oi := ⟨_, _, _, _, _, _⟩) (v := ?_) rfl (Or.inl ⟨by rfl, ?_⟩) ?_; rotate_left 1; · (intro w hSw; (try dsimp only at hSw); go_simp; all_goals with_reducible rfl)) | refine tk_ (i := 7) (oi := ⟨_, _, _, _, _, _⟩) (v := undef) rfl (Or.inr ⟨by kernel_rfl, rfl⟩) ?_
     try simp only [Act.put, si0, si1, si2]
     first | (refine tk_ (i := 8) (oi := ⟨_, _, _, _, _, _⟩) (v := ?_) rfl (Or.inl ⟨by rfl, ?_⟩) ?_; rotate_left 1; · (intro w hSw; (try dsimp only at hSw); go_simp; all_goals with_reducible rfl)) | refine tk_ (i := 8) (oi := ⟨_, _, _, _, _, _⟩) (v := undef) rfl (Or.inr ⟨by kernel_rfl, rfl⟩) ?_
     try simp only [Act.put, si0, si1, si2]
     (refine tk_ (i := 9) (oi := ⟨_, _, _, _, _, _⟩) (v := ?_) rfl (Or.inl ⟨by rfl, ?_⟩) ?_; rotate_left 1; · (intro w hSw; (try dsimp only at hSw); go_simp; all_goals with_reducible rfl))
     try simp only [Act.put, si0, si1, si2]
     (refine tk_ (i := 10) (oi := ⟨_, _, _, _, _, _⟩) (v := ?_) rfl (Or.inl ⟨by rfl, ?_⟩) ?_; rotate_left 1; · (intro w hSw; (try dsimp only at hSw); go_simp; all_goals with_reducible rfl))
     try simp only [Act.put, si0, si1, si2]
     first | (refine tk_ (i := 11) (oi := ⟨_, _, _, _, _, _⟩) (v := ?_) rfl (Or.inl ⟨by rfl, ?_⟩) ?_; rotate_left 1; · (intro w hSw; (try dsimp only at hSw); go_simp; all_goals with_reducible rfl)) | refine tk_ (i := 11) (oi := ⟨_, _, _, _, _, _⟩) (v := undef) rfl (Or.inr ⟨by kernel_rfl, rfl⟩) ?_
     try simp only [Act.put, si0, si1, si2]
     first | (refine tk_ (i := 12) (oi := ⟨_, _, _, _, _, _⟩) (v := ?_) rfl (Or.inl ⟨by rfl, ?_⟩) ?_; rotate_left 1; · (intro w hSw; (try dsimp only at hSw); go_simp; all_goals with_reducible rfl)) | refine tk_ (i := 12) (oi := ⟨_, _, _, _, _, _⟩) (v := undef) rfl (Or.inr ⟨by kernel_rfl, rfl⟩) ?_
     try simp only [Act.put, si0, si1, si2]
     (refine tk_ (i := 13) (oi := ⟨_, _, _, _, _, _⟩) (v := ?_) rfl (Or.inl ⟨by rfl, ?_⟩) ?_; rotate_left 1; · (intro w hSw; (try dsimp only at hSw); go_simp; all_goals with_reducible rfl))
     try simp only [Act.put, si0, si1, si2]
     (refine tk_ (i := 14) (oi := ⟨_, _, _, _, _, _⟩) (v := ?_) rfl (Or.inl ⟨by rfl, ?_⟩) ?_; rotate_left 1; · (intro w hSw; (try dsimp only at hSw); go_simp; all_goals with_reducible rfl))
     try simp only [Act.put, si0, si1, si2]
     first | (refine tk_ (i := 16) (oi := ⟨_, _, _, _, _, _⟩) (v := ?_) rfl (Or.inl ⟨by rfl, ?_⟩) ?_; rotate_left 1; · (intro w hSw; (try dsimp only at hSw); go_simp; all_goals with_reducible rfl)) | refine tk_ (i := 16) (oi := ⟨_, _, _, _, _, _⟩) (v := undef) rfl (Or.inr ⟨by kernel_rfl, rfl⟩) ?_
     try simp only [Act.put, si0, si1, si2]
     first | (refine tk_ (i := 17) (oi := ⟨_, _, _, _, _, _⟩) (v := ?_) rfl (Or.inl ⟨by rfl, ?_⟩) ?_; rotate_left 1; · (intro w hSw; (try dsimp only at hSw); go_simp; all_goals with_reducible rfl)) | refine tk_ (i := 17) (oi := ⟨_, _, _, _, _, _⟩) (v := undef) rfl (Or.inr ⟨by kernel_rfl, rfl⟩) ?_
     try simp only [Act.put, si0, si1, si2]
     refine wpAnyH_ready (rs := [15]) (by kernel_rfl) (by simp) ?_
     refine AllReadyH.cons (o := ⟨_, _, _, _, _, _⟩) rfl (fun Kq hKq => ?_) AllReadyH.nil
     go_simp
     clear hHeld
     (go_at_call 26; (with_reducible refine (at26_any _ _).mono ?_); rintro e v1 ⟨rfl, hb⟩; have P1 := Lib.hid (below_after P0.out hb (Nat.le_refl _)); clear hb)
     refine hKq.out _ _ ?_ (fun hHeld => ?_)
     ·(try dsimp only); exact HS.out _ P1.out
     clear hKq Kq
     try simp only [Act.put, si0, si1, si2]
     refine wpAnyH_ready (rs := [18]) (by kernel_rfl) (by simp) ?_
     refine AllReadyH.cons (o := ⟨_, _, _, _, _, _⟩) rfl (fun Kq hKq => ?_) AllReadyH.nil
     go_simp
     clear hHeld
     (go_at_call 7; (with_reducible refine (kd_one (none, 0, 0) (none, 0, 0) (none, 0, 0) (none, 0, 0) (none, 0, 0) _ _ _ _ _ _ (em_rv _) (R1.out _ P1.out) (TE.out _ P1.out) (TR.out _ P1.out)).mono ?_); rintro e v2 ⟨rfl, hb⟩; have P2 := Lib.hid (below_after P1.out hb (Nat.le_refl _)); clear hb)
     refine hKq.out _ _ ?_ (fun hHeld => ?_)
     ·(try dsimp only); exact HS.out _ P2.out
     clear hKq Kq
     try simp only [Act.put, si0, si1, si2]
     first | (refine tk_ (i := 19) (oi := ⟨_, _, _, _, _, _⟩) (v := ?_) rfl (Or.inl ⟨by rfl, ?_⟩) ?_; rotate_left 1; · (intro w hSw; (try dsimp only at hSw); go_simp; all_goals with_reducible rfl)) | refine tk_ (i := 19) (oi := ⟨_, _, _, _, _, _⟩) (v := undef) rfl (Or.inr ⟨by kernel_rfl, rfl⟩) ?_
     try simp only [Act.put, si0, si1, si2]
     (refine tk_ (i := 20) (oi := ⟨_, _, _, _, _, _⟩) (v := ?_) rfl (Or.inl ⟨by rfl, ?_⟩) ?_; rotate_left 1; · (intro w hSw; (try dsimp only at hSw); go_simp; all_goals with_reducible rfl))
     try simp only [Act.put, si0, si1, si2]
     (refine tk_ (i := 21) (oi := ⟨_, _, _, _, _, _⟩) (v := ?_) rfl (Or.inl ⟨by rfl, ?_⟩) ?_; rotate_left 1; · (intro w hSw; (try dsimp only at hSw); go_simp; all_goals with_reducible rfl))
     try simp only [Act.put, si0, si1, si2]
     first | (refine tk_ (i := 23) (oi := ⟨_, _, _, _, _, _⟩) (v := ?_) rfl (Or.inl ⟨by rfl, ?_⟩) ?_; rotate_left 1; · (intro w hSw; (try dsimp only at hSw); go_simp; all_goals with_reducible rfl)) | refine tk_ (i := 23) (oi := ⟨_, _, _, _, _, _⟩) (v := undef) rfl (Or.inr ⟨by kernel_rfl, rfl⟩) ?_
     try simp only [Act.put, si0, si1, si2]
     first | (refine tk_ (i := 24) (oi := ⟨_, _, _, _, _, _⟩) (v := ?_) rfl (Or.inl ⟨by rfl, ?_⟩) ?_; rotate_left 1; · (intro w hSw; (try dsimp only at hSw); go_simp; all_goals with_reducible rfl)) | refine tk_ (i := 24) (oi := ⟨_, _, _, _, _, _⟩) (v := undef) rfl (Or.inr ⟨by kernel_rfl, rfl⟩) ?_
     try simp only [Act.put, si0, si1, si2]
     refine wpAnyH_ready (rs := [22]) (by kernel_rfl) (by simp) ?_
     refine AllReadyH.cons (o := ⟨_, _, _, _, _, _⟩) rfl (fun Kq hKq => ?_) AllReadyH.nil
     go_simp
     clear hHeld
     (go_at_call 26; (with_reducible refine (at26_any _ _).mono ?_); rintro e v3 ⟨rfl, hb⟩; have P3 := Lib.hid (below_after P2.out hb (Nat.le_refl _)); clear hb)
     refine hKq.out _ _ ?_ (fun hHeld => ?_)
     ·(try dsimp only); exact HS.out _ P3.out
     clear hKq Kq
     try simp only [Act.put, si0, si1, si2]
     refine wpAnyH_ready (rs := [25]) (by kernel_rfl) (by simp) ?_
     refine AllReadyH.cons (o := ⟨_, _, _, _, _, _⟩) rfl (fun Kq hKq => ?_) AllReadyH.nil
     go_simp
     clear hHeld
     (go_at_call 7; (with_reducible refine (kd_two _ _ _ _ _ _ _ _ _ _ _ (R1.out _ P3.out) (R3.out _ P3.out) (TE.out _ P3.out) (TR.out _ P3.out)).mono ?_); rintro e v4 ⟨rfl, hb⟩; have P4 := Lib.hid (below_after P3.out hb (Nat.le_refl _)); clear hb)
     refine hKq.out _ _ ?_ (fun hHeld => ?_)
     ·(try dsimp only); exact HS.out _ P4.out
     clear hKq Kq
     try simp only [Act.put, si0, si1, si2]
     first | (refine tk_ (i := 26) (oi := ⟨_, _, _, _, _, _⟩) (v := ?_) rfl (Or.inl ⟨by rfl, ?_⟩) ?_; rotate_left 1; · (intro w hSw; (try dsimp only at hSw); go_simp; all_goals with_reducible rfl)) | refine tk_ (i := 26) (oi := ⟨_, _, _, _, _, _⟩) (v := undef) rfl (Or.inr ⟨by kernel_rfl, rfl⟩) ?_
     try simp only [Act.put, si0, si1, si2]
     (refine tk_ (i := 27) (oi := ⟨_, _, _, _, _, _⟩) (v := ?_) rfl (Or.inl ⟨by rfl, ?_⟩) ?_; rotate_left 1; · (intro w hSw; (try dsimp only at hSw); go_simp; all_goals with_reducible rfl))
     try simp only [Act.put, si0, si1, si2]
     (refine tk_ (i := 28) (oi := ⟨_, _, _, _, _, _⟩) (v := ?_) rfl (Or.inl ⟨by rfl, ?_⟩) ?_; rotate_left 1; · (intro w hSw; (try dsimp only at hSw); go_simp; all_goals with_reducible rfl))
     try simp only [Act.put, si0, si1, si2]
     first | (refine tk_ (i := 30) (oi := ⟨_, _, _, _, _, _⟩) (v := ?_) rfl (Or.inl ⟨by rfl, ?_⟩) ?_; rotate_left 1; · (intro w hSw; (try dsimp only at hSw); go_simp; all_goals with_reducible rfl)) | refine tk_ (i := 30) (oi := ⟨_, _, _, _, _, _⟩) (v := undef) rfl (Or.inr ⟨by kernel_rfl, rfl⟩) ?_
     try simp only [Act.put, si0, si1, si2]
     first | (refine tk_ (i := 31) (oi := ⟨_, _, _, _, _, _⟩) (v := ?_) rfl (Or.inl ⟨by rfl, ?_⟩) ?_; rotate_left 1; · (intro w hSw; (try dsimp only at hSw); go_simp; all_goals with_reducible rfl)) | refine tk_ (i := 31) (oi := ⟨_, _, _, _, _, _⟩) (v := undef) rfl (Or.inr ⟨by kernel_rfl, rfl⟩) ?_
     try simp only [Act.put, si0, si1, si2]
     refine wpAnyH_ready (rs := [29]) (by kernel_rfl) (by simp) ?_
     refine AllReadyH.cons (o := ⟨_, _, _, _, _, _⟩) rfl (fun Kq hKq => ?_) AllReadyH.nil
     go_simp
     clear hHeld
     (go_at_call 26; (with_reducible refine (at26_any _ _).mono ?_); rintro e v5 ⟨rfl, hb⟩; have P5 := Lib.hid (below_after P4.out hb (Nat.le_refl _)); clear hb)
     refine hKq.out _ _ ?_ (fun hHeld => ?_)
     ·(try dsimp only); exact HS.out _ P5.out
     clear hKq Kq
     try simp only [Act.put, si0, si1, si2]
     refine wpAnyH_ready (rs := [32]) (by kernel_rfl) (by simp) ?_
     refine AllReadyH.cons (o := ⟨_, _, _, _, _, _⟩) rfl (fun Kq hKq => ?_) AllReadyH.nil
     go_simp
     clear hHeld
     (go_at_call 7; (with_reducible refine (kd_heard _ _ _ _ _ _ _ _ _ _ _ g3 (H3.out _ P5.out) (R3.out _ P5.out) (R9.out _ P5.out) (TE.out _ P5.out) (TR.out _ P5.out)).mono ?_); rintro e v6 ⟨rfl, hb⟩; have P6 := Lib.hid (below_after P5.out hb (Nat.le_refl _)); clear hb)
     refine hKq.out _ _ ?_ (fun hHeld => ?_)
     ·(try dsimp only); exact HS.out _ P6.out
     clear hKq Kq
     try simp only [Act.put, si0, si1, si2]
     first | (refine tk_ (i := 33) (oi := ⟨_, _, _, _, _, _⟩) (v := ?_) rfl (Or.inl ⟨by rfl, ?_⟩) ?_; rotate_left 1; · (intro w hSw; (try dsimp only at hSw); go_simp; all_goals with_reducible rfl)) | refine tk_ (i := 33) (oi := ⟨_, _, _, _, _, _⟩) (v := undef) rfl (Or.inr ⟨by kernel_rfl, rfl⟩) ?_
     try simp only [Act.put, si0, si1, si2]
     (refine tk_ (i := 34) (oi := ⟨_, _, _, _, _, _⟩) (v := ?_) rfl (Or.inl ⟨by rfl, ?_⟩) ?_; rotate_left 1; · (intro w hSw; (try dsimp only at hSw); go_simp; all_goals with_reducible rfl))
     try simp only [Act.put, si0, si1, si2]
     (refine tk_ (i := 35) (oi := ⟨_, _, _, _, _, _⟩) (v := ?_) rfl (Or.inl ⟨by rfl, ?_⟩) ?_; rotate_left 1; · (intro w hSw; (try dsimp only at hSw); go_simp; all_goals with_reducible rfl))
     try simp only [Act.put, si0, si1, si2]
     first | (refine tk_ (i := 37) (oi := ⟨_, _, _, _, _, _⟩) (v := ?_) rfl (Or.inl ⟨by rfl, ?_⟩) ?_; rotate_left 1; · (intro w hSw; (try dsimp only at hSw); go_simp; all_goals with_reducible rfl)) | refine tk_ (i := 37) (oi := ⟨_, _, _, _, _, _⟩) (v := undef) rfl (Or.inr ⟨by kernel_rfl, rfl⟩) ?_
     try simp only [Act.put, si0, si1, si2]
     first | (refine tk_ (i := 38) (oi := ⟨_, _, _, _, _, _⟩) (v := ?_) rfl (Or.inl ⟨by rfl, ?_⟩) ?_; rotate_left 1; · (intro w hSw; (try dsimp only at hSw); go_simp; all_goals with_reducible rfl)) | refine tk_ (i := 38) (oi := ⟨_, _, _, _, _, _⟩) (v := undef) rfl (Or.inr ⟨by kernel_rfl, rfl⟩) ?_
     try simp only [Act.put, si0, si1, si2]
     refine wpAnyH_ready (rs := [36]) (by kernel_rfl) (by simp) ?_
     refine AllReadyH.cons (o := ⟨_, _, _, _, _, _⟩) rfl (fun Kq hKq => ?_) AllReadyH.nil
     go_simp
     clear hHeld
     (go_at_call 26; (with_reducible refine (at26_any _ _).mono ?_); rintro e v7 ⟨rfl, hb⟩; have P7 := Lib.hid (below_after P6.out hb (Nat.le_refl _)); clear hb)
     refine hKq.out _ _ ?_ (fun hHeld => ?_)
     ·(try dsimp only); exact HS.out _ P7.out
     clear hKq Kq
     try simp only [Act.put, si0, si1, si2]
     refine wpAnyH_ready (rs := [39]) (by kernel_rfl) (by simp) ?_
     refine AllReadyH.cons (o := ⟨_, _, _, _, _, _⟩) rfl (fun Kq hKq => ?_) AllReadyH.nil
     go_simp
     clear hHeld
     (go_at_call 7; (with_reducible refine (kd_seen _ _ _ _ _ _ _ _ _ _ _ (R3.out _ P7.out) (R9.out _ P7.out) (TE.out _ P7.out) (TR.out _ P7.out)).mono ?_); rintro e v8 ⟨rfl, hb⟩; have P8 := Lib.hid (below_after P7.out hb (Nat.le_refl _)); clear hb)
     refine hKq.out _ _ ?_ (fun hHeld => ?_)
     ·(try dsimp only); exact HS.out _ P8.out
     clear hKq Kq
     try simp only [Act.put, si0, si1, si2]
     first | (refine tk_ (i := 40) (oi := ⟨_, _, _, _, _, _⟩) (v := ?_) rfl (Or.inl ⟨by rfl, ?_⟩) ?_; rotate_left 1; · (intro w hSw; (try dsimp only at hSw); go_simp; all_goals with_reducible rfl)) | refine tk_ (i := 40) (oi := ⟨_, _, _, _, _, _⟩) (v := undef) rfl (Or.inr ⟨by kernel_rfl, rfl⟩) ?_
     try simp only [Act.put, si0, si1, si2]
     (refine tk_ (i := 41) (oi := ⟨_, _, _, _, _, _⟩) (v := ?_) rfl (Or.inl ⟨by rfl, ?_⟩) ?_; rotate_left 1; · (intro w hSw; (try dsimp only at hSw); go_simp; all_goals with_reducible rfl))
     try simp only [Act.put, si0, si1, si2]
     (refine tk_ (i := 42) (oi := ⟨_, _, _, _, _, _⟩) (v := ?_) rfl (Or.inl ⟨by rfl, ?_⟩) ?_; rotate_left 1; · (intro w hSw; (try dsimp only at hSw); go_simp; all_goals with_reducible rfl))
     try simp only [Act.put, si0, si1, si2]
     first | (refine tk_ (i := 44) (oi := ⟨_, _, _, _, _, _⟩) (v := ?_) rfl (Or.inl ⟨by rfl, ?_⟩) ?_; rotate_left 1; · (intro w hSw; (try dsimp only at hSw); go_simp; all_goals with_reducible rfl)) | refine tk_ (i := 44) (oi := ⟨_, _, _, _, _, _⟩) (v := undef) rfl (Or.inr ⟨by kernel_rfl, rfl⟩) ?_
     try simp only [Act.put, si0, si1, si2]
     first | (refine tk_ (i := 45) (oi := ⟨_, _, _, _, _, _⟩) (v := ?_) rfl (Or.inl ⟨by rfl, ?_⟩) ?_; rotate_left 1; · (intro w hSw; (try dsimp only at hSw); go_simp; all_goals with_reducible rfl)) | refine tk_ (i := 45) (oi := ⟨_, _, _, _, _, _⟩) (v := undef) rfl (Or.inr ⟨by kernel_rfl, rfl⟩) ?_
     try simp only [Act.put, si0, si1, si2]
     refine wpAnyH_ready (rs := [43]) (by kernel_rfl) (by simp) ?_
     refine AllReadyH.cons (o := ⟨_, _, _, _, _, _⟩) rfl (fun Kq hKq => ?_) AllReadyH.nil
     go_simp
     clear hHeld
     (go_at_call 26; (with_reducible refine (at26_any _ _).mono ?_); rintro e v9 ⟨rfl, hb⟩; have P9 := Lib.hid (below_after P8.out hb (Nat.le_refl _)); clear hb)
     refine hKq.out _ _ ?_ (fun hHeld => ?_)
     ·(try dsimp only); exact HS.out _ P9.out
     clear hKq Kq
     try simp only [Act.put, si0, si1, si2]
     refine wpAnyH_ready (rs := [46]) (by kernel_rfl) (by simp) ?_
     refine AllReadyH.cons (o := ⟨_, _, _, _, _, _⟩) rfl (fun Kq hKq => ?_) AllReadyH.nil
     go_simp
     clear hHeld
     (go_at_call 7; (with_reducible refine (kd_up _ _ _ _ _ _ _ _ _ _ _ (R3.out _ P9.out) (R5.out _ P9.out) (TE.out _ P9.out) (TR.out _ P9.out)).mono ?_); rintro e v10 ⟨rfl, hb⟩; have P10 := Lib.hid (below_after P9.out hb (Nat.le_refl _)); clear hb)
     refine hKq.out _ _ ?_ (fun hHeld => ?_)
     ·(try dsimp only); exact HS.out _ P10.out
     clear hKq Kq
     try simp only [Act.put, si0, si1, si2]
     first | (refine tk_ (i := 47) (oi := ⟨_, _, _, _, _, _⟩) (v := ?_) rfl (Or.inl ⟨by rfl, ?_⟩) ?_; rotate_left 1; · (intro w hSw; (try dsimp only at hSw); go_simp; all_goals with_reducible rfl)) | refine tk_ (i := 47) (oi := ⟨_, _, _, _, _, _⟩) (v := undef) rfl (Or.inr ⟨by kernel_rfl, rfl⟩) ?_
     try simp only [Act.put, si0, si1, si2]
     (refine tk_ (i := 48) (oi := ⟨_, _, _, _, _, _⟩) (v := ?_) rfl (Or.inl ⟨by rfl, ?_⟩) ?_; rotate_left 1; · (intro w hSw; (try dsimp only at hSw); go_simp; all_goals with_reducible rfl))
     try simp only [Act.put, si0, si1, si2]
     (refine tk_ (i := 49) (oi := ⟨_, _, _, _, _, _⟩) (v := ?_) rfl (Or.inl ⟨by rfl, ?_⟩) ?_; rotate_left 1; · (intro w hSw; (try dsimp only at hSw); go_simp; all_goals with_reducible rfl))
     try simp only [Act.put, si0, si1, si2]
     first | (refine tk_ (i := 51) (oi := ⟨_, _, _, _, _, _⟩) (v := ?_) rfl (Or.inl ⟨by rfl, ?_⟩) ?_; rotate_left 1; · (intro w hSw; (try dsimp only at hSw); go_simp; all_goals with_reducible rfl)) | refine tk_ (i := 51) (oi := ⟨_, _, _, _, _, _⟩) (v := undef) rfl (Or.inr ⟨by kernel_rfl, rfl⟩) ?_
     try simp only [Act.put, si0, si1, si2]
     first | (refine tk_ (i := 52) (oi := ⟨_, _, _, _, _, _⟩) (v := ?_) rfl (Or.inl ⟨by rfl, ?_⟩) ?_; rotate_left 1; · (intro w hSw; (try dsimp only at hSw); go_simp; all_goals with_reducible rfl)) | refine tk_ (i := 52) (oi := ⟨_, _, _, _, _, _⟩) (v := undef) rfl (Or.inr ⟨by kernel_rfl, rfl⟩) ?_
     try simp only [Act.put, si0, si1, si2]
     refine wpAnyH_ready (rs := [50]) (by kernel_rfl) (by simp) ?_
     refine AllReadyH.cons (o := ⟨_, _, _, _, _, _⟩) rfl (fun Kq hKq => ?_) AllReadyH.nil
     go_simp
     clear hHeld
     (go_at_call 26; (with_reducible refine (at26_any _ _).mono ?_); rintro e v11 ⟨rfl, hb⟩; have P11 := Lib.hid (below_after P10.out hb (Nat.le_refl _)); clear hb)
     refine hKq.out _ _ ?_ (fun hHeld => ?_)
     ·(try dsimp only); exact HS.out _ P11.out
     clear hKq Kq
     try simp only [Act.put, si0, si1, si2]
     refine wpAnyH_ready (rs := [53]) (by kernel_rfl) (by simp) ?_
     refine AllReadyH.cons (o := ⟨_, _, _, _, _, _⟩) rfl (fun Kq hKq => ?_) AllReadyH.nil
     go_simp
     clear hHeld
     (go_at_call 7; (with_reducible refine (kd_far _ _ _ _ _ _ _ _ _ _ _ (R3.out _ P11.out) (R7.out _ P11.out) (TE.out _ P11.out) (TR.out _ P11.out)).mono ?_); rintro e v12 ⟨rfl, hb⟩; have P12 := Lib.hid (below_after P11.out hb (Nat.le_refl _)); clear hb)
     refine hKq.out _ _ ?_ (fun hHeld => ?_)
     ·(try dsimp only); exact HS.out _ P12.out
     clear hKq Kq
     try simp only [Act.put, si0, si1, si2]
     first | (refine tk_ (i := 54) (oi := ⟨_, _, _, _, _, _⟩) (v := ?_) rfl (Or.inl ⟨by rfl, ?_⟩) ?_; rotate_left 1; · (intro w hSw; (try dsimp only at hSw); go_simp; all_goals with_reducible rfl)) | refine tk_ (i := 54) (oi := ⟨_, _, _, _, _, _⟩) (v := undef) rfl (Or.inr ⟨by kernel_rfl, rfl⟩) ?_
     try simp only [Act.put, si0, si1, si2]
     (refine tk_ (i := 55) (oi := ⟨_, _, _, _, _, _⟩) (v := ?_) rfl (Or.inl ⟨by rfl, ?_⟩) ?_; rotate_left 1; · (intro w hSw; (try dsimp only at hSw); go_simp; all_goals with_reducible rfl))
     try simp only [Act.put, si0, si1, si2]
     (refine tk_ (i := 56) (oi := ⟨_, _, _, _, _, _⟩) (v := ?_) rfl (Or.inl ⟨by rfl, ?_⟩) ?_; rotate_left 1; · (intro w hSw; (try dsimp only at hSw); go_simp; all_goals with_reducible rfl))
     try simp only [Act.put, si0, si1]
     refine wpAnyH_done (by kernel_rfl) ?_ _
     go_wp2_with fail
     go_ret
     exact ⟨rfl, below_after BB.out P12.out (Nat.le_refl _)⟩
end Go.Proofs.YtgphiggbajbmhaaGreatDoor
