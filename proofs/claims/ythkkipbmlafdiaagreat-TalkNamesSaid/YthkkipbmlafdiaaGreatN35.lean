/-
  Carried over and put together: contracts of this program's functions, and plain facts. No statement is proved in this text.
-/
import Derived.Test.YthkkipbmlafdiaaGreatN31
set_option maxRecDepth 20000
namespace Go.Proofs.YthkkipbmlafdiaaGreat
open Go Go.RowKit
theorem vbox_clock {w : World} {g : Nat} {a b x d e : SL} (h : VBox w g a b x d e) (A : Option Addr) (n c : Nat) : VBox (w.setCell ⟨g, 3, none⟩ (.slice A n c)) g a b x (A, n, c) e := by
 unfold VBox at *
 simp [World.setCell, Array.getElem?_modify, h]
structure AsksC (K : Nat) (caps : Array Value) (V U : Vw) (n : Int) (S : World → Prop) : Prop where
 enters : ∀ args W, (callFunc K args).run Tryz.prog W = .ok (.enter K args) W
 kept : ∀ W W', S W → Below W.heap.size W W' → S W'
 call : ∀ v W, S W → VAt W v V → Calls Tryz.prog K (#[v] ++ caps) W fun e w' => ∃ X, e = .returned (.tuple #[X, .int .i64 n]) ∧ VAt w' X U ∧ Below W.heap.size W w'
def goneU (U : Vw) : Vw := ⟨U.m, U.f, RowSets.gone U.f U.r, U.c, U.s⟩
theorem fit_gone {k : Nat} {U : Vw} (h : FitVIE k U) : FitVIE k (goneU U) := ⟨h.m, h.f, Nat.le_trans (gone_len _ _) h.r, h.c, h.s, gone_nots_len h.n⟩
def changedV (V U : Vw) (n : Int) (z : Sets.Id2) : Vw × Int :=
 if n ≠ 0 then (V, n) else if coreB V (goneU U) = true then (V, 0) else if (upR V.c z).2 ≠ 0 then (V, (upR V.c z).2) else (⟨U.m, U.f, RowSets.gone U.f U.r, (upR V.c z).1, [z]⟩, 0)
set_option maxHeartbeats 8000000 in
theorem changed_any {K : Nat} {caps : Array Value} {V U : Vw} {n : Int} {S : World → Prop} (hP : AsksC K caps V U n S) (v : Value) (p q : Int) (w : World) (hS : S w) (h : VAt w v V) (fV : FitVIE 1000 V) (fU : FitVIE 1000 U) :
  Calls Tryz.prog 62 #[v, .agg #[.int .i64 p, .int .i64 q], .func (.func K) #[] caps] w fun e w' => ∃ X, e = .returned (.tuple #[X, .int .i64 (changedV V U n (p, q)).2]) ∧ VAt w' X (changedV V U n (p, q)).1 ∧ Below w.heap.size w w' := by
 obtain ⟨a, b, c, d, e, rfl, hr⟩ := h
 have hK := hP.enters
 have HP := Lib.hid hP
 have LV := Lib.hid fV
 have LU := Lib.hid fU
 have q1 := below_one w (.cells #[.slice a.1 a.2.1 a.2.2, .slice b.1 b.2.1 b.2.2, .slice c.1 c.2.1 c.2.2, .slice d.1 d.2.1 d.2.2, .slice e.1 e.2.1 e.2.2] 27)
 have q2 := below_one (w.alloc (.cells #[.slice a.1 a.2.1 a.2.2, .slice b.1 b.2.1 b.2.2, .slice c.1 c.2.1 c.2.2, .slice d.1 d.2.1 d.2.2, .slice e.1 e.2.1 e.2.2] 27)) (.cells #[.int .i64 p, .int .i64 q] 29)
 have q3 := below_one ((w.alloc (.cells #[.slice a.1 a.2.1 a.2.2, .slice b.1 b.2.1 b.2.2, .slice c.1 c.2.1 c.2.2, .slice d.1 d.2.1 d.2.2, .slice e.1 e.2.1 e.2.2] 27)).alloc (.cells #[.int .i64 p, .int .i64 q] 29)) (.cells #[.slice none 0 0, .slice none 0 0, .slice none 0 0, .slice none 0 0, .slice none 0 0] 27)
 have Q := below_after (below_after q1 q2 (Nat.le_refl _)) q3 (Nat.le_refl _)
 have X3 := Lib.hid (vbox_below (vbox_below (vbox_new w a b c d e) q2) q3)
 have X4 : Hid (Box (((w.alloc (.cells #[.slice a.1 a.2.1 a.2.2, .slice b.1 b.2.1 b.2.2, .slice c.1 c.2.1 c.2.2, .slice d.1 d.2.1 d.2.2, .slice e.1 e.2.1 e.2.2] 27)).alloc (.cells #[.int .i64 p, .int .i64 q] 29)).alloc (.cells #[.slice none 0 0, .slice none 0 0, .slice none 0 0, .slice none 0 0, .slice none 0 0] 27)) (w.heap.size + 1) p q) := Lib.hid (by simpa using box_below (box_new (w.alloc (.cells #[.slice a.1 a.2.1 a.2.2, .slice b.1 b.2.1 b.2.2, .slice c.1 c.2.1 c.2.2, .slice d.1 d.2.1 d.2.2, .slice e.1 e.2.1 e.2.2] 27)) p q) q3)
 have X6 : Hid (VBox (((w.alloc (.cells #[.slice a.1 a.2.1 a.2.2, .slice b.1 b.2.1 b.2.2, .slice c.1 c.2.1 c.2.2, .slice d.1 d.2.1 d.2.2, .slice e.1 e.2.1 e.2.2] 27)).alloc (.cells #[.int .i64 p, .int .i64 q] 29)).alloc (.cells #[.slice none 0 0, .slice none 0 0, .slice none 0 0, .slice none 0 0, .slice none 0 0] 27)) (w.heap.size + 1 + 1) (none, 0, 0) (none, 0, 0) (none, 0, 0) (none, 0, 0) (none, 0, 0)) := Lib.hid (by have h := vbox_new ((w.alloc (.cells #[.slice a.1 a.2.1 a.2.2, .slice b.1 b.2.1 b.2.2, .slice c.1 c.2.1 c.2.2, .slice d.1 d.2.1 d.2.2, .slice e.1 e.2.1 e.2.2] 27)).alloc (.cells #[.int .i64 p, .int .i64 q] 29)) (none, 0, 0) (none, 0, 0) (none, 0, 0) (none, 0, 0) (none, 0, 0); simp only [World.size_alloc] at h; exact h)
 have XR := Lib.hid (hr.below Q)
 have XB := Lib.hid Q
 have SS := Lib.hid (hP.kept _ _ hS Q)
 clear q1 q2 q3 Q hr fV fU hP hS
 obtain ⟨p0, p1, p2, p3, p4⟩ := vbox_cells X3.out
 go_enter Tryz.func62, Tryz.ntmps62
 go_wp2_with fail
 (with_reducible refine (copyV_any _ V _ XR.out.at_ LV.out).mono ?_)
 rintro e1 w3 ⟨X, rfl, hx, hb⟩
 have Y3 := Lib.hid (vbox_below X3.out hb)
 have Y4 := Lib.hid (box_below X4.out hb)
 have Y6 := Lib.hid (vbox_below X6.out hb)
 have YR := Lib.hid (XR.out.below hb)
 have YB := Lib.hid (below_after XB.out hb (Nat.le_refl _))
 have YS := Lib.hid (HP.out.kept _ _ SS.out hb)
 have YX := Lib.hid hx
 clear hb hx p0 p1 p2 p3 p4 X3 X4 X6 XR XB SS
 go_wp2_with fail
 (with_reducible refine (HP.out.call _ _ YS.out YX.out).mono ?_)
 rintro e2 w4 ⟨X', rfl, hx, hb⟩
 obtain ⟨s0, s1, s2, s3, s4, rfl, hr⟩ := hx
 have q8 := below_one w4 (.cells #[.slice s0.1 s0.2.1 s0.2.2, .slice s1.1 s1.2.1 s1.2.2, .slice s2.1 s2.2.1 s2.2.2, .slice s3.1 s3.2.1 s3.2.2, .slice s4.1 s4.2.1 s4.2.2] 27)
 have Z3 := Lib.hid (vbox_below (vbox_below Y3.out hb) q8)
 have Z4 := Lib.hid (box_below (box_below Y4.out hb) q8)
 have Z6 := Lib.hid (vbox_below (vbox_below Y6.out hb) q8)
 have Z8 : Hid (VBox (w4.alloc (.cells #[.slice s0.1 s0.2.1 s0.2.2, .slice s1.1 s1.2.1 s1.2.2, .slice s2.1 s2.2.1 s2.2.2, .slice s3.1 s3.2.1 s3.2.2, .slice s4.1 s4.2.1 s4.2.2] 27)) w4.heap.size s0 s1 s2 s3 s4) := Lib.hid (vbox_new w4 s0 s1 s2 s3 s4)
 have ZB := Lib.hid (below_after (below_after YB.out hb (Nat.le_refl _)) q8 (Nat.le_refl _))
 have ZR := Lib.hid ((YR.out.below hb).below q8)
 have ZU := Lib.hid (hr.below q8)
 have L8 : Hid (w.heap.size + 1 + 1 < w4.heap.size) := Lib.hid (Nat.lt_of_lt_of_le (vbox_lt Y6.out) hb.size)
 clear hb hr q8 Y3 Y4 Y6 YB YR YS YX
 obtain ⟨k0, k1, k2, k3, k4⟩ := vbox_cells (vbox_new w4 (none, 0, 0) (none, 0, 0) (none, 0, 0) (none, 0, 0) (none, 0, 0))
 obtain ⟨f0, f1, f2, f3, f4⟩ := vbox_free (vbox_new w4 (none, 0, 0) (none, 0, 0) (none, 0, 0) (none, 0, 0) (none, 0, 0))
 dsimp only at k0 k1 k2 k3 k4
 obtain ⟨p0, p1, p2, p3, p4⟩ := vbox_cells Z3.out
 obtain ⟨r0, r1, r2, r3, r4⟩ := vbox_cells Z8.out
 by_cases hn : n = 0
 ·subst hn
  go_wp2_with fail
  clear k0 k1 k2 k3 k4 f0 f1 f2 f3 f4
  (with_reducible refine (gone_any _ _ U.r U.f _ ZU.out.r ZU.out.f LU.out.r (fun r hr => Nat.le_trans (LU.out.n r hr) (by decide)) (Nat.le_trans LU.out.f (by decide))).mono ?_)
  rintro e3 w5 ⟨V2, rfl, hr, hb⟩
  obtain ⟨⟨A2, n2, c2⟩, rfl⟩ := sl_rows hr
  dsimp only at hr
  have V3 := Lib.hid (vbox_below Z3.out hb)
  have V4 := Lib.hid (box_below Z4.out hb)
  have V6 := Lib.hid (vbox_below Z6.out hb)
  have V8 := Lib.hid (vbox_below Z8.out hb)
  have VB := Lib.hid (below_after ZB.out hb (Nat.le_refl _))
  have VR := Lib.hid (ZR.out.below hb)
  have VU := Lib.hid (ZU.out.below hb)
  have VW := Lib.hid hr
  clear hb hr p0 p1 p2 p3 p4 r0 r1 r2 r3 r4 Z3 Z4 Z6 Z8 ZB ZR ZU
  obtain ⟨r0, r1, r2, r3, r4⟩ := vbox_cells V8.out
  obtain ⟨g0, g1, g2, g3, g4⟩ := vbox_free V8.out
  have hk := kp_cell (k := 2) V8.out A2 n2 c2
  have U3 := Lib.hid (vbox_apart V3.out (x := w4.heap.size) (by have := L8.out; omega) 2 (.slice A2 n2 c2))
  have U4 : Hid (Box _ (w.heap.size + 1) p q) := Lib.hid ((heap_setCell (x := w4.heap.size) (i := 2) (v := .slice A2 n2 c2) (by have := L8.out; omega)).trans V4.out)
  have U6 := Lib.hid (vbox_apart V6.out (x := w4.heap.size) (by have := L8.out; omega) 2 (.slice A2 n2 c2))
  have U8 := Lib.hid (vbox_rows V8.out A2 n2 c2)
  have UB := Lib.hid (below_two_set VB.out (show w.heap.size ≤ w4.heap.size by have := L8.out; omega) 2 (.slice A2 n2 c2))
  have UR := Lib.hid (VR.out.kp hk)
  have UU := Lib.hid (show RV _ s0 s1 (A2, n2, c2) s3 s4 (goneU U) from ⟨(VU.out.kp hk).m, (VU.out.kp hk).f, VW.out.kp hk, (VU.out.kp hk).c, (VU.out.kp hk).s⟩)
  clear hk
  obtain ⟨p0, p1, p2, p3, p4⟩ := vbox_cells U3.out
  obtain ⟨t0, t1, t2, t3, t4⟩ := vbox_cells U8.out
  dsimp only at t2
  go_wp2_with fail
  clear r0 r1 r2 r3 r4 g0 g1 g2 g3 g4 V3 V4 V6 V8 VB VR VU VW
  (with_reducible refine (core_any _ _ V (goneU U) _ UR.out.at_ UU.out.at_ LV.out (fit_gone LU.out)).mono ?_)
  rintro e4 w6 ⟨rfl, hb⟩
  have T3 := Lib.hid (vbox_below U3.out hb)
  have T4 := Lib.hid (box_below U4.out hb)
  have T6 := Lib.hid (vbox_below U6.out hb)
  have T8 := Lib.hid (vbox_below U8.out hb)
  have TB := Lib.hid (below_after UB.out hb (Nat.le_refl _))
  have TR := Lib.hid (UR.out.below hb)
  have TU := Lib.hid (UU.out.below hb)
  clear hb p0 p1 p2 p3 p4 t0 t1 t2 t3 t4 U3 U4 U6 U8 UB UR UU
  obtain ⟨p0, p1, p2, p3, p4⟩ := vbox_cells T3.out
  obtain ⟨b1, b2⟩ := box_cells T4.out
  rcases hz : coreB V (goneU U) with _ | _
  ·have H1 : Hid (coreB V (goneU U) = true → False) := Lib.hid (by rw [hz]; decide)
   clear hz
   go_wp2_with fail
   (with_reducible refine (up_any _ V.c p q _ TR.out.c (Nat.le_trans LV.out.c (by decide))).mono ?_)
   rintro e5 w7 ⟨V5, rfl, hr, hb⟩
   obtain ⟨⟨A5, n5, c5⟩, rfl⟩ := sl_rcs hr
   dsimp only at hr
   have M3 := Lib.hid (vbox_below T3.out hb)
   have M4 := Lib.hid (box_below T4.out hb)
   have M6 := Lib.hid (vbox_below T6.out hb)
   have M8 := Lib.hid (vbox_below T8.out hb)
   have MB := Lib.hid (below_after TB.out hb (Nat.le_refl _))
   have MR := Lib.hid (TR.out.below hb)
   have MU := Lib.hid (TU.out.below hb)
   have MC := Lib.hid hr
   clear hb hr p0 p1 p2 p3 p4 b1 b2 T3 T4 T6 T8 TB TR TU
   obtain ⟨r0, r1, r2, r3, r4⟩ := vbox_cells M8.out
   obtain ⟨g0, g1, g2, g3, g4⟩ := vbox_free M8.out
   have hk := kp_cell (k := 3) M8.out A5 n5 c5
   have N3 := Lib.hid (vbox_apart M3.out (x := w4.heap.size) (by have := L8.out; omega) 3 (.slice A5 n5 c5))
   have N4 : Hid (Box _ (w.heap.size + 1) p q) := Lib.hid ((heap_setCell (x := w4.heap.size) (i := 3) (v := .slice A5 n5 c5) (by have := L8.out; omega)).trans M4.out)
   have N6 := Lib.hid (vbox_apart M6.out (x := w4.heap.size) (by have := L8.out; omega) 3 (.slice A5 n5 c5))
   have N8 := Lib.hid (vbox_clock M8.out A5 n5 c5)
   have NB := Lib.hid (below_two_set MB.out (show w.heap.size ≤ w4.heap.size by have := L8.out; omega) 3 (.slice A5 n5 c5))
   have NR := Lib.hid (MR.out.kp hk)
   have NU := Lib.hid (MU.out.kp hk)
   have NC := Lib.hid (ticks_kp MC.out hk)
   have HE : Hid (changedV V U 0 (p, q) = if (upR V.c (p, q)).2 ≠ 0 then (V, (upR V.c (p, q)).2) else (⟨U.m, U.f, RowSets.gone U.f U.r, (upR V.c (p, q)).1, [(p, q)]⟩, 0)) := Lib.hid (by
    unfold changedV
    rw [if_neg (fun h => h rfl), if_neg (fun h => H1.out h)])
   clear hk M3 M4 M6 MR MB MU MC H1
   obtain ⟨p0, p1, p2, p3, p4⟩ := vbox_cells N3.out
   obtain ⟨b1, b2⟩ := box_cells N4.out
   generalize upR V.c (p, q) = R at *
   obtain ⟨cc, ee⟩ := R
   dsimp only at HE NC
   dsimp only
   by_cases he : ee = 0
   ·subst he
    have HE2 : Hid (changedV V U 0 (p, q) = (⟨U.m, U.f, RowSets.gone U.f U.r, cc, [(p, q)]⟩, 0)) := Lib.hid (by rw [HE.out, if_neg (fun h => h rfl)])
    clear HE
    have q5 := below_one (w7.setCell ⟨w4.heap.size, 3, none⟩ (.slice A5 n5 c5)) (.cells #[.int .i64 p, .int .i64 q] 29)
    have E8 := Lib.hid (vbox_below N8.out q5)
    have E6 := Lib.hid (vbox_below N6.out q5)
    have EB := Lib.hid (below_after NB.out q5 (Nat.le_refl _))
    have EU := Lib.hid (NU.out.below q5)
    have EC := Lib.hid (Rcs.below NC.out q5)
    have EI : Hid (Ids ((w7.setCell ⟨w4.heap.size, 3, none⟩ (.slice A5 n5 c5)).alloc (.cells #[.int .i64 p, .int .i64 q] 29)) (.slice (some ⟨w7.heap.size, 0, none⟩) 1 1) [(p, q)]) := Lib.hid (by have h := ids_lit (w7.setCell ⟨w4.heap.size, 3, none⟩ (.slice A5 n5 c5)) [(p, q)]; simp only [World.size_setCell] at h; exact h)
    have hk := kp_cell (k := 4) E8.out (some ⟨w7.heap.size, 0, none⟩) 1 1
    have D8 := Lib.hid (vbox_seen E8.out (some ⟨w7.heap.size, 0, none⟩) 1 1)
    have D6 := Lib.hid (vbox_apart E6.out (x := w4.heap.size) (by have := L8.out; omega) 4 (.slice (some ⟨w7.heap.size, 0, none⟩) 1 1))
    have DB := Lib.hid (below_two_set EB.out (show w.heap.size ≤ w4.heap.size by have := L8.out; omega) 4 (.slice (some ⟨w7.heap.size, 0, none⟩) 1 1))
    have DU := Lib.hid (EU.out.kp hk)
    have DC := Lib.hid (ticks_kp EC.out hk)
    have DI := Lib.hid (Ids.kp EI.out hk)
    clear q5 hk NR NU NC NB EU EC EI EB
    obtain ⟨t0, t1, t2, t3, t4⟩ := vbox_cells E8.out
    obtain ⟨h0, h1, h2, h3, h4⟩ := vbox_free E8.out
    obtain ⟨y0, y1, y2, y3, y4⟩ := vbox_cells D8.out
    obtain ⟨z0, z1, z2, z3, z4⟩ := vbox_cells D6.out
    obtain ⟨f0, f1, f2, f3, f4⟩ := vbox_free D6.out
    dsimp only at t2 t3 y2 y3 y4 z0 z1 z2 z3 z4
    clear p0 p1 p2 p3 p4
    go_wp2_with fail
    have KK := Lib.hid (kp_set D6.out [.slice s0.1 s0.2.1 s0.2.2, .slice s1.1 s1.2.1 s1.2.2, .slice A2 n2 c2, .slice A5 n5 c5, .slice (some ⟨w7.heap.size, 0, none⟩) 1 1])
    have HB := Lib.hid (below_setCells DB.out (show w.heap.size ≤ w.heap.size + 1 + 1 by omega) 0 [.slice s0.1 s0.2.1 s0.2.2, .slice s1.1 s1.2.1 s1.2.2, .slice A2 n2 c2, .slice A5 n5 c5, .slice (some ⟨w7.heap.size, 0, none⟩) 1 1])
    obtain ⟨c0, c1, c2', c3, c4⟩ := vbox_cells (vbox_set D6.out s0 s1 (A2, n2, c2) (A5, n5, c5) (some ⟨w7.heap.size, 0, none⟩, 1, 1))
    dsimp only at c2' c3 c4
    refine bodyPost_ret (v := .tuple #[.agg #[.slice s0.1 s0.2.1 s0.2.2, .slice s1.1 s1.2.1 s1.2.2, .slice A2 n2 c2, .slice A5 n5 c5, .slice (some ⟨w7.heap.size, 0, none⟩) 1 1], .int .i64 0]) (by simp [results, Tryz.results62, go_sem, c0, c1, c2', c3, c4]) rfl ?_
    rw [HE2.out]
    exact ⟨_, rfl, ⟨s0, s1, (A2, n2, c2), (A5, n5, c5), (some ⟨w7.heap.size, 0, none⟩, 1, 1), rfl, Ms.kp DU.out.m KK.out, Ids.kp DU.out.f KK.out, RowsAt.kp DU.out.r KK.out, ticks_kp DC.out KK.out, Ids.kp DI.out KK.out⟩, HB.out⟩
   ·have hne : (ee != 0) = true := by simpa using he
    have HE2 : Hid (changedV V U 0 (p, q) = (V, ee)) := Lib.hid (by rw [HE.out, if_pos he])
    clear HE he
    go_wp2_with fail
    clear r0 r1 r2 r3 r4 g0 g1 g2 g3 g4 b1 b2
    (with_reducible refine (copyV_any _ V _ NR.out.at_ LV.out).mono ?_)
    rintro e9 w9 ⟨X9, rfl, hx, hb⟩
    obtain ⟨t0, t1, t2, t3, t4, rfl, hr9⟩ := hx
    have J6 := Lib.hid (vbox_below N6.out hb)
    have JB := Lib.hid (below_after NB.out hb (Nat.le_refl _))
    have JR := Lib.hid hr9
    clear hb hr9 p0 p1 p2 p3 p4
    obtain ⟨z0, z1, z2, z3, z4⟩ := vbox_cells J6.out
    obtain ⟨f0, f1, f2, f3, f4⟩ := vbox_free J6.out
    dsimp only at z0 z1 z2 z3 z4
    go_wp2_with fail
    have HV := Lib.hid (JR.out.kp (kp_set J6.out [.slice t0.1 t0.2.1 t0.2.2, .slice t1.1 t1.2.1 t1.2.2, .slice t2.1 t2.2.1 t2.2.2, .slice t3.1 t3.2.1 t3.2.2, .slice t4.1 t4.2.1 t4.2.2]))
    have HB := Lib.hid (below_setCells JB.out (show w.heap.size ≤ w.heap.size + 1 + 1 by omega) 0 [.slice t0.1 t0.2.1 t0.2.2, .slice t1.1 t1.2.1 t1.2.2, .slice t2.1 t2.2.1 t2.2.2, .slice t3.1 t3.2.1 t3.2.2, .slice t4.1 t4.2.1 t4.2.2])
    obtain ⟨c0, c1, c2, c3, c4⟩ := vbox_cells (vbox_set J6.out t0 t1 t2 t3 t4)
    refine bodyPost_ret (v := .tuple #[.agg #[.slice t0.1 t0.2.1 t0.2.2, .slice t1.1 t1.2.1 t1.2.2, .slice t2.1 t2.2.1 t2.2.2, .slice t3.1 t3.2.1 t3.2.2, .slice t4.1 t4.2.1 t4.2.2], .int .i64 ee]) (by simp [results, Tryz.results62, go_sem, c0, c1, c2, c3, c4]) rfl ?_
    rw [HE2.out]
    exact ⟨_, rfl, ⟨t0, t1, t2, t3, t4, rfl, HV.out⟩, HB.out⟩
  ·have HE : Hid (changedV V U 0 (p, q) = (V, 0)) := Lib.hid (by
    unfold changedV
    rw [if_neg (fun h => h rfl), if_pos hz])
   clear hz
   go_wp2_with fail
   (with_reducible refine (copyV_any _ V _ TR.out.at_ LV.out).mono ?_)
   rintro e9 w9 ⟨X9, rfl, hx, hb⟩
   obtain ⟨t0, t1, t2, t3, t4, rfl, hr9⟩ := hx
   have J6 := Lib.hid (vbox_below T6.out hb)
   have JB := Lib.hid (below_after TB.out hb (Nat.le_refl _))
   have JR := Lib.hid hr9
   clear hb hr9 p0 p1 p2 p3 p4
   obtain ⟨z0, z1, z2, z3, z4⟩ := vbox_cells J6.out
   obtain ⟨f0, f1, f2, f3, f4⟩ := vbox_free J6.out
   dsimp only at z0 z1 z2 z3 z4
   go_wp2_with fail
   have HV := Lib.hid (JR.out.kp (kp_set J6.out [.slice t0.1 t0.2.1 t0.2.2, .slice t1.1 t1.2.1 t1.2.2, .slice t2.1 t2.2.1 t2.2.2, .slice t3.1 t3.2.1 t3.2.2, .slice t4.1 t4.2.1 t4.2.2]))
   have HB := Lib.hid (below_setCells JB.out (show w.heap.size ≤ w.heap.size + 1 + 1 by omega) 0 [.slice t0.1 t0.2.1 t0.2.2, .slice t1.1 t1.2.1 t1.2.2, .slice t2.1 t2.2.1 t2.2.2, .slice t3.1 t3.2.1 t3.2.2, .slice t4.1 t4.2.1 t4.2.2])
   obtain ⟨c0, c1, c2, c3, c4⟩ := vbox_cells (vbox_set J6.out t0 t1 t2 t3 t4)
   refine bodyPost_ret (v := .tuple #[.agg #[.slice t0.1 t0.2.1 t0.2.2, .slice t1.1 t1.2.1 t1.2.2, .slice t2.1 t2.2.1 t2.2.2, .slice t3.1 t3.2.1 t3.2.2, .slice t4.1 t4.2.1 t4.2.2], .int .i64 0]) (by simp [results, Tryz.results62, go_sem, c0, c1, c2, c3, c4]) rfl ?_
   rw [HE.out]
   exact ⟨_, rfl, ⟨t0, t1, t2, t3, t4, rfl, HV.out⟩, HB.out⟩
 ·have hne : (n != 0) = true := by simpa using hn
  have HE : Hid (changedV V U n (p, q) = (V, n)) := Lib.hid (by unfold changedV; rw [if_pos hn])
  clear hn
  go_wp2_with fail
  clear k0 k1 k2 k3 k4 f0 f1 f2 f3 f4 r0 r1 r2 r3 r4
  (with_reducible refine (copyV_any _ V _ ZR.out.at_ LV.out).mono ?_)
  rintro e9 w9 ⟨X9, rfl, hx, hb⟩
  obtain ⟨t0, t1, t2, t3, t4, rfl, hr9⟩ := hx
  have J6 := Lib.hid (vbox_below Z6.out hb)
  have JB := Lib.hid (below_after ZB.out hb (Nat.le_refl _))
  have JR := Lib.hid hr9
  clear hb hr9 p0 p1 p2 p3 p4
  obtain ⟨z0, z1, z2, z3, z4⟩ := vbox_cells J6.out
  obtain ⟨f0, f1, f2, f3, f4⟩ := vbox_free J6.out
  dsimp only at z0 z1 z2 z3 z4
  go_wp2_with fail
  have HV := Lib.hid (JR.out.kp (kp_set J6.out [.slice t0.1 t0.2.1 t0.2.2, .slice t1.1 t1.2.1 t1.2.2, .slice t2.1 t2.2.1 t2.2.2, .slice t3.1 t3.2.1 t3.2.2, .slice t4.1 t4.2.1 t4.2.2]))
  have HB := Lib.hid (below_setCells JB.out (show w.heap.size ≤ w.heap.size + 1 + 1 by omega) 0 [.slice t0.1 t0.2.1 t0.2.2, .slice t1.1 t1.2.1 t1.2.2, .slice t2.1 t2.2.1 t2.2.2, .slice t3.1 t3.2.1 t3.2.2, .slice t4.1 t4.2.1 t4.2.2])
  obtain ⟨c0, c1, c2, c3, c4⟩ := vbox_cells (vbox_set J6.out t0 t1 t2 t3 t4)
  refine bodyPost_ret (v := .tuple #[.agg #[.slice t0.1 t0.2.1 t0.2.2, .slice t1.1 t1.2.1 t1.2.2, .slice t2.1 t2.2.1 t2.2.2, .slice t3.1 t3.2.1 t3.2.2, .slice t4.1 t4.2.1 t4.2.2], .int .i64 n]) (by simp [results, Tryz.results62, go_sem, c0, c1, c2, c3, c4]) rfl ?_
  rw [HE.out]
  exact ⟨_, rfl, ⟨t0, t1, t2, t3, t4, rfl, HV.out⟩, HB.out⟩
end Go.Proofs.YthkkipbmlafdiaaGreat
namespace Go.Proofs.YthkkipbmlafdiaaGreat
open Go Go.RowKit
set_option maxHeartbeats 2000000 in
theorem setM_any (vm vf : Value) (m : List Ros.Mm) (f : List Sets.Id2) (a i s n : Int) (w : World) (h1 : Ms w vm m) (h2 : Ids w vf f) (hm : m.length ≤ 30000) (hf : f.length ≤ 30000) :
  Calls Tryz.prog 66 #[vm, vf, .agg #[.int .i64 a, .int .i64 i, .int .u8 s, .int .i64 n]] w fun e w' => ∃ V U, e = .returned (.tuple #[V, U]) ∧ Ms w' V (Ros.joinL (m, f) ([((a, i), s, n)], [])).1 ∧ Ids w' U (Ros.joinL (m, f) ([((a, i), s, n)], [])).2 ∧ Below w.heap.size w w' := by
 have q0 := below_one w (.cells #[.int .i64 a, .int .i64 i, .int .u8 s, .int .i64 n] 31)
 have q1 := below_one (w.alloc (.cells #[.int .i64 a, .int .i64 i, .int .u8 s, .int .i64 n] 31)) (.cells #[.int .i64 a, .int .i64 i, .int .u8 s, .int .i64 n] 31)
 have BB := Lib.hid (below_after q0 q1 (Nat.le_refl _))
 have H1 := Lib.hid ((h1.below q0).below q1)
 have H2 := Lib.hid ((h2.below q0).below q1)
 have HL : Hid (Ms ((w.alloc (.cells #[.int .i64 a, .int .i64 i, .int .u8 s, .int .i64 n] 31)).alloc (.cells #[.int .i64 a, .int .i64 i, .int .u8 s, .int .i64 n] 31)) (.slice (some ⟨w.heap.size + 1, 0, none⟩) 1 1) [((a, i), s, n)]) := Lib.hid (by have h := ms_lit (w.alloc (.cells #[.int .i64 a, .int .i64 i, .int .u8 s, .int .i64 n] 31)) [((a, i), s, n)]; simp only [World.size_alloc] at h; exact h)
 obtain ⟨x1, x2, x3, x4⟩ := mbox_cells (mbox_new w a i s n)
 have HM := Lib.hid (show m.length + [((a, i), s, n)].length ≤ 40000 by simp; omega)
 have HF := Lib.hid (show f.length + ([] : List Sets.Id2).length ≤ 40000 by simp; omega)
 clear q0 q1 h1 h2
 go_enter Tryz.func66, Tryz.ntmps66
 go_wp2_with fail
 (with_reducible refine (join_anyROS _ _ _ _ m [((a, i), s, n)] f [] _ H1.out H2.out HL.out (Ids.nil _) HM.out HF.out).mono ?_)
 rintro e w1 ⟨V, U, rfl, hV, hU, hb⟩
 rw [Ros.joinP_is] at hV hU
 have HV := Lib.hid hV.reads
 have HU := Lib.hid (ids_of_owns hU)
 have B1 := Lib.hid (below_after BB.out hb (Nat.le_refl _))
 clear hV hU hb
 go_wp2_with fail
 refine bodyPost_ret (v := .tuple #[V, U]) (by simp [results, Tryz.results66, go_sem]) rfl ?_
 exact ⟨_, _, rfl, HV.out, HU.out, B1.out⟩
def stB (s : Int) : Bool := decide (1 ≤ s) && decide (s ≤ 7)
theorem stageMay_any (s : Int) (w : World) : Calls Tryz.prog 65 #[.int .u8 s] w fun e w' => e = .returned (.bool (stB s)) ∧ Below w.heap.size w w' := by
 have HE : Hid (stB s = (decide (1 ≤ s) && decide (s ≤ 7))) := Lib.hid rfl
 generalize stB s = z at *
 rcases h1 : decide (1 ≤ s) with _ | _
 ·rw [h1, Bool.false_and] at HE
  go_enter Tryz.func65, Tryz.ntmps65
  go_wp2_with fail
  go_ret
  exact ⟨ret_bool HE.out.symm, Below.refl _ _⟩
 ·rw [h1, Bool.true_and] at HE
  go_enter Tryz.func65, Tryz.ntmps65
  go_wp2_with fail
  go_ret
  exact ⟨ret_bool HE.out.symm, Below.refl _ _⟩
def putU (V : Vw) (z : Sets.Id2) (m : Ros.Mm) : Vw × Int :=
 if (vidROW z.1 z.2 && (vidROW m.1.1 m.1.2 && stB m.2.1)) = true then (⟨(Ros.joinL (V.m, V.f) ([m], [])).1, (Ros.joinL (V.m, V.f) ([m], [])).2, V.r, V.c, V.s⟩, 0) else (V, 4)
theorem vbox_mem {w : World} {g : Nat} {a b x d e : SL} (h : VBox w g a b x d e) (A : Option Addr) (n c : Nat) : VBox (w.setCell ⟨g, 0, none⟩ (.slice A n c)) g (A, n, c) b x d e := by
 unfold VBox at *
 simp [World.setCell, Array.getElem?_modify, h]
theorem vbox_flo {w : World} {g : Nat} {a b x d e : SL} (h : VBox w g a b x d e) (A : Option Addr) (n c : Nat) : VBox (w.setCell ⟨g, 1, none⟩ (.slice A n c)) g a (A, n, c) x d e := by
 unfold VBox at *
 simp [World.setCell, Array.getElem?_modify, h]
structure ClG (w : World) (a b c d e : SL) (V : Vw) (S : World → Prop) (W : World) : Prop where
 x : VBox W w.heap.size a b c d e
 z : VBox W (w.heap.size + 1) (none, 0, 0) (none, 0, 0) (none, 0, 0) (none, 0, 0) (none, 0, 0)
 r : RV W a b c d e V
 s : S W
 below : Below w.heap.size w W
theorem ClG.step {w : World} {a b c d e : SL} {V : Vw} {S : World → Prop} {W W' : World} (h : ClG w a b c d e V S W) (hS : ∀ W W', S W → Below W.heap.size W W' → S W') (hb : Below W.heap.size W W') : ClG w a b c d e V S W' := ⟨vbox_below h.x hb, vbox_below h.z hb, h.r.below hb, hS _ _ h.s hb, below_after h.below hb (Nat.le_refl _)⟩
theorem clG_start (w : World) {a b c d e : SL} {V : Vw} {S : World → Prop} (hr : RV w a b c d e V) (hs : S w) (hS : ∀ W W', S W → Below W.heap.size W W' → S W') : ClG w a b c d e V S ((w.alloc (.cells #[.slice a.1 a.2.1 a.2.2, .slice b.1 b.2.1 b.2.2, .slice c.1 c.2.1 c.2.2, .slice d.1 d.2.1 d.2.2, .slice e.1 e.2.1 e.2.2] 27)).alloc (.cells #[.slice none 0 0, .slice none 0 0, .slice none 0 0, .slice none 0 0, .slice none 0 0] 27)) := by
 have q1 := below_one w (.cells #[.slice a.1 a.2.1 a.2.2, .slice b.1 b.2.1 b.2.2, .slice c.1 c.2.1 c.2.2, .slice d.1 d.2.1 d.2.2, .slice e.1 e.2.1 e.2.2] 27)
 have q2 := below_one (w.alloc (.cells #[.slice a.1 a.2.1 a.2.2, .slice b.1 b.2.1 b.2.2, .slice c.1 c.2.1 c.2.2, .slice d.1 d.2.1 d.2.2, .slice e.1 e.2.1 e.2.2] 27)) (.cells #[.slice none 0 0, .slice none 0 0, .slice none 0 0, .slice none 0 0, .slice none 0 0] 27)
 refine ⟨vbox_below (vbox_new w a b c d e) q2, ?_, hr.below (below_after q1 q2 (Nat.le_refl _)), hS _ _ hs (below_after q1 q2 (Nat.le_refl _)), below_after q1 q2 (Nat.le_refl _)⟩
 have h := vbox_new (w.alloc (.cells #[.slice a.1 a.2.1 a.2.2, .slice b.1 b.2.1 b.2.2, .slice c.1 c.2.1 c.2.2, .slice d.1 d.2.1 d.2.2, .slice e.1 e.2.1 e.2.2] 27)) (none, 0, 0) (none, 0, 0) (none, 0, 0) (none, 0, 0) (none, 0, 0)
 simp only [World.size_alloc] at h
 exact h
def PutS (g1 g2 : Nat) (p q x i s n : Int) (W : World) : Prop := Box W g1 p q ∧ MBox W g2 x i s n
theorem putS_kept {g1 g2 : Nat} {p q x i s n : Int} : ∀ W W', PutS g1 g2 p q x i s n W → Below W.heap.size W W' → PutS g1 g2 p q x i s n W' := fun _ _ h hb => ⟨box_below h.1 hb, mbox_below h.2 hb⟩
set_option maxHeartbeats 8000000 in
theorem putC_any (v : Value) (V : Vw) (g1 g2 : Nat) (p q x i s n : Int) (w : World) (hS : PutS g1 g2 p q x i s n w) (h : VAt w v V) (fV : FitVIE 1000 V) :
  Calls Tryz.prog 63 #[v, .pointer (some ⟨g1, 0, none⟩), .pointer (some ⟨g2, 0, none⟩)] w fun e w' => ∃ X, e = .returned (.tuple #[X, .int .i64 (putU V (p, q) ((x, i), s, n)).2]) ∧ VAt w' X (putU V (p, q) ((x, i), s, n)).1 ∧ Below w.heap.size w w' := by
 obtain ⟨a, b, c, d, e, rfl, hr⟩ := h
 have G0 := Lib.hid (clG_start w hr hS putS_kept)
 have LV := Lib.hid fV
 have HE : Hid (putU V (p, q) ((x, i), s, n) = if (vidROW p q && (vidROW x i && stB s)) = true then (⟨(Ros.joinL (V.m, V.f) ([((x, i), s, n)], [])).1, (Ros.joinL (V.m, V.f) ([((x, i), s, n)], [])).2, V.r, V.c, V.s⟩, 0) else (V, 4)) := Lib.hid rfl
 have HC1 := Lib.hid fun W => may_any p q W
 have HC2 := Lib.hid fun W => may_any x i W
 have HC3 := Lib.hid fun W => stageMay_any s W
 clear hr hS fV
 obtain ⟨p0, p1, p2, p3, p4⟩ := vbox_cells G0.out.x
 obtain ⟨b1, b2⟩ := box_cells G0.out.s.1
 obtain ⟨m1, m2, m3, m4⟩ := mbox_cells G0.out.s.2
 go_enter Tryz.func63, Tryz.ntmps63
 go_wp2_with fail
 (with_reducible refine (HC1.out _).mono ?_)
 generalize vidROW p q = y1 at *
 rintro e1 w3 ⟨rfl, hb⟩
 have G1 := Lib.hid (G0.out.step putS_kept hb)
 clear hb p0 p1 p2 p3 p4 b1 b2 m1 m2 m3 m4
 obtain ⟨p0, p1, p2, p3, p4⟩ := vbox_cells G1.out.x
 obtain ⟨b1, b2⟩ := box_cells G1.out.s.1
 obtain ⟨m1, m2, m3, m4⟩ := mbox_cells G1.out.s.2
 cases y1
 ·rw [Bool.false_and, if_neg (by decide)] at HE
  obtain ⟨z0, z1, z2, z3, z4⟩ := vbox_cells G1.out.z
  obtain ⟨f0, f1, f2, f3, f4⟩ := vbox_free G1.out.z
  dsimp only at z0 z1 z2 z3 z4
  go_wp2_with fail
  have HV := Lib.hid (G1.out.r.kp (kp_set G1.out.z [.slice a.1 a.2.1 a.2.2, .slice b.1 b.2.1 b.2.2, .slice c.1 c.2.1 c.2.2, .slice d.1 d.2.1 d.2.2, .slice e.1 e.2.1 e.2.2]))
  have HB := Lib.hid (below_setCells G1.out.below (show w.heap.size ≤ w.heap.size + 1 by omega) 0 [.slice a.1 a.2.1 a.2.2, .slice b.1 b.2.1 b.2.2, .slice c.1 c.2.1 c.2.2, .slice d.1 d.2.1 d.2.2, .slice e.1 e.2.1 e.2.2])
  obtain ⟨c0, c1, c2, c3, c4⟩ := vbox_cells (vbox_set G1.out.z a b c d e)
  refine bodyPost_ret (v := .tuple #[.agg #[.slice a.1 a.2.1 a.2.2, .slice b.1 b.2.1 b.2.2, .slice c.1 c.2.1 c.2.2, .slice d.1 d.2.1 d.2.2, .slice e.1 e.2.1 e.2.2], .int .i64 4]) (by simp [results, Tryz.results63, go_sem, c0, c1, c2, c3, c4]) rfl ?_
  rw [HE.out]
  exact ⟨_, rfl, ⟨a, b, c, d, e, rfl, HV.out⟩, HB.out⟩
 ·rw [Bool.true_and] at HE
  go_wp2_with fail
  (with_reducible refine (HC2.out _).mono ?_)
  generalize vidROW x i = y2 at *
  rintro e1 w4 ⟨rfl, hb⟩
  have G2 := Lib.hid (G1.out.step putS_kept hb)
  clear hb p0 p1 p2 p3 p4 b1 b2 m1 m2 m3 m4
  obtain ⟨p0, p1, p2, p3, p4⟩ := vbox_cells G2.out.x
  obtain ⟨b1, b2⟩ := box_cells G2.out.s.1
  obtain ⟨m1, m2, m3, m4⟩ := mbox_cells G2.out.s.2
  cases y2
  ·rw [Bool.false_and, if_neg (by decide)] at HE
   obtain ⟨z0, z1, z2, z3, z4⟩ := vbox_cells G2.out.z
   obtain ⟨f0, f1, f2, f3, f4⟩ := vbox_free G2.out.z
   dsimp only at z0 z1 z2 z3 z4
   go_wp2_with fail
   have HV := Lib.hid (G2.out.r.kp (kp_set G2.out.z [.slice a.1 a.2.1 a.2.2, .slice b.1 b.2.1 b.2.2, .slice c.1 c.2.1 c.2.2, .slice d.1 d.2.1 d.2.2, .slice e.1 e.2.1 e.2.2]))
   have HB := Lib.hid (below_setCells G2.out.below (show w.heap.size ≤ w.heap.size + 1 by omega) 0 [.slice a.1 a.2.1 a.2.2, .slice b.1 b.2.1 b.2.2, .slice c.1 c.2.1 c.2.2, .slice d.1 d.2.1 d.2.2, .slice e.1 e.2.1 e.2.2])
   obtain ⟨c0, c1, c2, c3, c4⟩ := vbox_cells (vbox_set G2.out.z a b c d e)
   refine bodyPost_ret (v := .tuple #[.agg #[.slice a.1 a.2.1 a.2.2, .slice b.1 b.2.1 b.2.2, .slice c.1 c.2.1 c.2.2, .slice d.1 d.2.1 d.2.2, .slice e.1 e.2.1 e.2.2], .int .i64 4]) (by simp [results, Tryz.results63, go_sem, c0, c1, c2, c3, c4]) rfl ?_
   rw [HE.out]
   exact ⟨_, rfl, ⟨a, b, c, d, e, rfl, HV.out⟩, HB.out⟩
  ·rw [Bool.true_and] at HE
   go_wp2_with fail
   (with_reducible refine (HC3.out _).mono ?_)
   generalize stB s = y3 at *
   rintro e1 w5 ⟨rfl, hb⟩
   have G3 := Lib.hid (G2.out.step putS_kept hb)
   clear hb p0 p1 p2 p3 p4 b1 b2 m1 m2 m3 m4
   obtain ⟨p0, p1, p2, p3, p4⟩ := vbox_cells G3.out.x
   obtain ⟨b1, b2⟩ := box_cells G3.out.s.1
   obtain ⟨m1, m2, m3, m4⟩ := mbox_cells G3.out.s.2
   cases y3
   ·rw [if_neg (by decide)] at HE
    obtain ⟨z0, z1, z2, z3, z4⟩ := vbox_cells G3.out.z
    obtain ⟨f0, f1, f2, f3, f4⟩ := vbox_free G3.out.z
    dsimp only at z0 z1 z2 z3 z4
    go_wp2_with fail
    have HV := Lib.hid (G3.out.r.kp (kp_set G3.out.z [.slice a.1 a.2.1 a.2.2, .slice b.1 b.2.1 b.2.2, .slice c.1 c.2.1 c.2.2, .slice d.1 d.2.1 d.2.2, .slice e.1 e.2.1 e.2.2]))
    have HB := Lib.hid (below_setCells G3.out.below (show w.heap.size ≤ w.heap.size + 1 by omega) 0 [.slice a.1 a.2.1 a.2.2, .slice b.1 b.2.1 b.2.2, .slice c.1 c.2.1 c.2.2, .slice d.1 d.2.1 d.2.2, .slice e.1 e.2.1 e.2.2])
    obtain ⟨c0, c1, c2, c3, c4⟩ := vbox_cells (vbox_set G3.out.z a b c d e)
    refine bodyPost_ret (v := .tuple #[.agg #[.slice a.1 a.2.1 a.2.2, .slice b.1 b.2.1 b.2.2, .slice c.1 c.2.1 c.2.2, .slice d.1 d.2.1 d.2.2, .slice e.1 e.2.1 e.2.2], .int .i64 4]) (by simp [results, Tryz.results63, go_sem, c0, c1, c2, c3, c4]) rfl ?_
    rw [HE.out]
    exact ⟨_, rfl, ⟨a, b, c, d, e, rfl, HV.out⟩, HB.out⟩
   ·rw [if_pos rfl] at HE
    go_wp2_with fail
    (with_reducible refine (setM_any _ _ V.m V.f x i s n _ G3.out.r.m G3.out.r.f (Nat.le_trans LV.out.m (by decide)) (Nat.le_trans LV.out.f (by decide))).mono ?_)
    rintro e1 w6 ⟨Y1, Y2, rfl, hm, hf, hb⟩
    obtain ⟨⟨A1, n1, d1⟩, rfl⟩ := sl_rcs hm
    obtain ⟨⟨A2, n2, d2⟩, rfl⟩ := sl_ids hf
    dsimp only at hm hf
    have G4 := Lib.hid (G3.out.step putS_kept hb)
    have HM := Lib.hid hm
    have HF := Lib.hid hf
    clear hm hf G0 G1 G2 G3
    clear hb p0 p1 p2 p3 p4 b1 b2 m1 m2 m3 m4
    have X1 := Lib.hid (vbox_mem G4.out.x A1 n1 d1)
    have K1 := Lib.hid (kp_cell (k := 0) G4.out.x A1 n1 d1)
    have X2 := Lib.hid (vbox_flo X1.out A2 n2 d2)
    have K2 := Lib.hid (kp_cell (k := 1) X1.out A2 n2 d2)
    have Z2 := Lib.hid (vbox_apart (vbox_apart G4.out.z (x := w.heap.size) (by omega) 0 (.slice A1 n1 d1)) (x := w.heap.size) (by omega) 1 (.slice A2 n2 d2))
    have B2 := Lib.hid (below_two_set (below_two_set G4.out.below (Nat.le_refl _) 0 (.slice A1 n1 d1)) (Nat.le_refl _) 1 (.slice A2 n2 d2))
    have R2 := Lib.hid ((G4.out.r.kp K1.out).kp K2.out)
    have M2 := Lib.hid (Ms.kp (Ms.kp HM.out K1.out) K2.out)
    have F2 := Lib.hid (Ids.kp (Ids.kp HF.out K1.out) K2.out)
    obtain ⟨p0, p1, p2, p3, p4⟩ := vbox_cells G4.out.x
    obtain ⟨f0, f1, f2, f3, f4⟩ := vbox_free G4.out.x
    obtain ⟨h0, h1, h2, h3, h4⟩ := vbox_free X1.out
    obtain ⟨q0, q1, q2, q3, q4⟩ := vbox_cells X1.out
    obtain ⟨t0, t1, t2, t3, t4⟩ := vbox_cells X2.out
    dsimp only at q0 t0 t1
    obtain ⟨z0, z1, z2, z3, z4⟩ := vbox_cells Z2.out
    obtain ⟨k0, k1, k2, k3, k4⟩ := vbox_free Z2.out
    dsimp only at z0 z1 z2 z3 z4
    go_wp2_with fail
    have KK := Lib.hid (kp_set Z2.out [.slice A1 n1 d1, .slice A2 n2 d2, .slice c.1 c.2.1 c.2.2, .slice d.1 d.2.1 d.2.2, .slice e.1 e.2.1 e.2.2])
    have HB := Lib.hid (below_setCells B2.out (show w.heap.size ≤ w.heap.size + 1 by omega) 0 [.slice A1 n1 d1, .slice A2 n2 d2, .slice c.1 c.2.1 c.2.2, .slice d.1 d.2.1 d.2.2, .slice e.1 e.2.1 e.2.2])
    obtain ⟨c0, c1, c2, c3, c4⟩ := vbox_cells (vbox_set Z2.out (A1, n1, d1) (A2, n2, d2) c d e)
    dsimp only at c0 c1
    refine bodyPost_ret (v := .tuple #[.agg #[.slice A1 n1 d1, .slice A2 n2 d2, .slice c.1 c.2.1 c.2.2, .slice d.1 d.2.1 d.2.2, .slice e.1 e.2.1 e.2.2], .int .i64 0]) (by simp [results, Tryz.results63, go_sem, c0, c1, c2, c3, c4]) rfl ?_
    rw [HE.out]
    exact ⟨_, rfl, ⟨(A1, n1, d1), (A2, n2, d2), c, d, e, rfl, Ms.kp M2.out KK.out, Ids.kp F2.out KK.out, R2.out.r.kp KK.out, ticks_kp R2.out.c KK.out, Ids.kp R2.out.s KK.out⟩, HB.out⟩
theorem asksP (V : Vw) (g1 g2 : Nat) (p q x i s n : Int) (fV : FitVIE 1000 V) : AsksC 63 #[.pointer (some ⟨g1, 0, none⟩), .pointer (some ⟨g2, 0, none⟩)] V (putU V (p, q) ((x, i), s, n)).1 (putU V (p, q) ((x, i), s, n)).2 (PutS g1 g2 p q x i s n) where
 enters := fun args W => enters_fn Tryz.func63 (by kernel_rfl) rfl args W
 kept := putS_kept
 call v W hS h := putC_any v V g1 g2 p q x i s n W hS h fV
theorem fit_join1 {V : Vw} (h : FitVIE 1000 V) (l : Ros.Ls) (r : List RowSets.Row) (hr : r.length ≤ 1000) (hn : ∀ x ∈ r, x.2.2.length ≤ 1000) : FitVIE 1000 ⟨(Ros.joinL (V.m, V.f) l).1, (Ros.joinL (V.m, V.f) l).2, r, V.c, V.s⟩ := ⟨Nat.le_trans (lenJ_m _ _) (by decide), Nat.le_trans (lenJ_f _ _) (by decide), hr, h.c, h.s, hn⟩
theorem fit_putU {V : Vw} (h : FitVIE 1000 V) (z : Sets.Id2) (m : Ros.Mm) : FitVIE 1000 (putU V z m).1 := by
 unfold putU
 split
 ·exact fit_join1 h _ _ h.r h.n
 ·exact h
set_option maxHeartbeats 8000000 in
theorem put_any (v : Value) (V : Vw) (p q : Int) (x i s n : Int) (w : World) (h : VAt w v V) (fV : FitVIE 1000 V)  :
  Calls Tryz.prog 15 #[v, .agg #[.int .i64 p, .int .i64 q], .agg #[.int .i64 x, .int .i64 i, .int .u8 s, .int .i64 n]] w fun e w' => ∃ X, e = .returned (.tuple #[X, .int .i64 (changedV V (putU V (p, q) ((x, i), s, n)).1 (putU V (p, q) ((x, i), s, n)).2 (p, q)).2]) ∧ VAt w' X (changedV V (putU V (p, q) ((x, i), s, n)).1 (putU V (p, q) ((x, i), s, n)).2 (p, q)).1 ∧ Below w.heap.size w w' := by
 obtain ⟨a, b, c, d, e, rfl, hr⟩ := h
 have q1 := below_one w (.cells #[.slice a.1 a.2.1 a.2.2, .slice b.1 b.2.1 b.2.2, .slice c.1 c.2.1 c.2.2, .slice d.1 d.2.1 d.2.2, .slice e.1 e.2.1 e.2.2] 27)
 have q2 := below_one (w.alloc (.cells #[.slice a.1 a.2.1 a.2.2, .slice b.1 b.2.1 b.2.2, .slice c.1 c.2.1 c.2.2, .slice d.1 d.2.1 d.2.2, .slice e.1 e.2.1 e.2.2] 27)) (.cells #[.int .i64 p, .int .i64 q] 29)
 have q3 := below_one ((w.alloc (.cells #[.slice a.1 a.2.1 a.2.2, .slice b.1 b.2.1 b.2.2, .slice c.1 c.2.1 c.2.2, .slice d.1 d.2.1 d.2.2, .slice e.1 e.2.1 e.2.2] 27)).alloc (.cells #[.int .i64 p, .int .i64 q] 29)) (.cells #[.int .i64 x, .int .i64 i, .int .u8 s, .int .i64 n] 31)
 have q4 := below_one (((w.alloc (.cells #[.slice a.1 a.2.1 a.2.2, .slice b.1 b.2.1 b.2.2, .slice c.1 c.2.1 c.2.2, .slice d.1 d.2.1 d.2.2, .slice e.1 e.2.1 e.2.2] 27)).alloc (.cells #[.int .i64 p, .int .i64 q] 29)).alloc (.cells #[.int .i64 x, .int .i64 i, .int .u8 s, .int .i64 n] 31)) (.cells #[.slice none 0 0, .slice none 0 0, .slice none 0 0, .slice none 0 0, .slice none 0 0] 27)
 have Q := below_after (below_after (below_after q1 q2 (Nat.le_refl _)) q3 (Nat.le_refl _)) q4 (Nat.le_refl _)
 have X3 := Lib.hid (vbox_below (vbox_below (vbox_below (vbox_new w a b c d e) q2) q3) q4)
 have B4 : Hid (Box ((((w.alloc (.cells #[.slice a.1 a.2.1 a.2.2, .slice b.1 b.2.1 b.2.2, .slice c.1 c.2.1 c.2.2, .slice d.1 d.2.1 d.2.2, .slice e.1 e.2.1 e.2.2] 27)).alloc (.cells #[.int .i64 p, .int .i64 q] 29)).alloc (.cells #[.int .i64 x, .int .i64 i, .int .u8 s, .int .i64 n] 31)).alloc (.cells #[.slice none 0 0, .slice none 0 0, .slice none 0 0, .slice none 0 0, .slice none 0 0] 27)) (w.heap.size + 1) p q) := Lib.hid (by simpa using box_below (box_below (box_new (w.alloc (.cells #[.slice a.1 a.2.1 a.2.2, .slice b.1 b.2.1 b.2.2, .slice c.1 c.2.1 c.2.2, .slice d.1 d.2.1 d.2.2, .slice e.1 e.2.1 e.2.2] 27)) p q) q3) q4)
 have M5 : Hid (MBox ((((w.alloc (.cells #[.slice a.1 a.2.1 a.2.2, .slice b.1 b.2.1 b.2.2, .slice c.1 c.2.1 c.2.2, .slice d.1 d.2.1 d.2.2, .slice e.1 e.2.1 e.2.2] 27)).alloc (.cells #[.int .i64 p, .int .i64 q] 29)).alloc (.cells #[.int .i64 x, .int .i64 i, .int .u8 s, .int .i64 n] 31)).alloc (.cells #[.slice none 0 0, .slice none 0 0, .slice none 0 0, .slice none 0 0, .slice none 0 0] 27)) (w.heap.size + 1 + 1) x i s n) := Lib.hid (by simpa using mbox_below (mbox_new ((w.alloc (.cells #[.slice a.1 a.2.1 a.2.2, .slice b.1 b.2.1 b.2.2, .slice c.1 c.2.1 c.2.2, .slice d.1 d.2.1 d.2.2, .slice e.1 e.2.1 e.2.2] 27)).alloc (.cells #[.int .i64 p, .int .i64 q] 29)) x i s n) q4)
 have X6 : Hid (VBox ((((w.alloc (.cells #[.slice a.1 a.2.1 a.2.2, .slice b.1 b.2.1 b.2.2, .slice c.1 c.2.1 c.2.2, .slice d.1 d.2.1 d.2.2, .slice e.1 e.2.1 e.2.2] 27)).alloc (.cells #[.int .i64 p, .int .i64 q] 29)).alloc (.cells #[.int .i64 x, .int .i64 i, .int .u8 s, .int .i64 n] 31)).alloc (.cells #[.slice none 0 0, .slice none 0 0, .slice none 0 0, .slice none 0 0, .slice none 0 0] 27)) (w.heap.size + 1 + 1 + 1) (none, 0, 0) (none, 0, 0) (none, 0, 0) (none, 0, 0) (none, 0, 0)) := Lib.hid (by have h := vbox_new (((w.alloc (.cells #[.slice a.1 a.2.1 a.2.2, .slice b.1 b.2.1 b.2.2, .slice c.1 c.2.1 c.2.2, .slice d.1 d.2.1 d.2.2, .slice e.1 e.2.1 e.2.2] 27)).alloc (.cells #[.int .i64 p, .int .i64 q] 29)).alloc (.cells #[.int .i64 x, .int .i64 i, .int .u8 s, .int .i64 n] 31)) (none, 0, 0) (none, 0, 0) (none, 0, 0) (none, 0, 0) (none, 0, 0); simp only [World.size_alloc] at h; exact h)
 have XR := Lib.hid (hr.below Q)
 have XB := Lib.hid Q
 have LV := Lib.hid fV
 have LU := Lib.hid (fit_putU fV (p, q) ((x, i), s, n))
 have SS : Hid (PutS (w.heap.size + 1) (w.heap.size + 1 + 1) p q x i s n ((((w.alloc (.cells #[.slice a.1 a.2.1 a.2.2, .slice b.1 b.2.1 b.2.2, .slice c.1 c.2.1 c.2.2, .slice d.1 d.2.1 d.2.2, .slice e.1 e.2.1 e.2.2] 27)).alloc (.cells #[.int .i64 p, .int .i64 q] 29)).alloc (.cells #[.int .i64 x, .int .i64 i, .int .u8 s, .int .i64 n] 31)).alloc (.cells #[.slice none 0 0, .slice none 0 0, .slice none 0 0, .slice none 0 0, .slice none 0 0] 27))) := Lib.hid ⟨B4.out, M5.out⟩
 clear q1 q2 q3 q4 Q hr fV
 obtain ⟨p0, p1, p2, p3, p4⟩ := vbox_cells X3.out
 obtain ⟨b1, b2⟩ := box_cells B4.out
 have HA := Lib.hid (asksP V (w.heap.size + 1) (w.heap.size + 1 + 1) p q x i s n LV.out)
 go_enter Tryz.func15, Tryz.ntmps15
 go_wp2_with fail
 (with_reducible refine (changed_any HA.out _ p q _ SS.out XR.out.at_ LV.out LU.out).mono ?_)
 rintro e1 w9 ⟨X, rfl, hx, hb⟩
 rcases hC : changedV V (putU V (p, q) ((x, i), s, n)).1 (putU V (p, q) ((x, i), s, n)).2 (p, q) with ⟨T, ee⟩
 rw [hC] at hx
 have HE := Lib.hid hC
 clear hC
 dsimp only at hx
 have HG : Hid ((changedV V (putU V (p, q) ((x, i), s, n)).1 (putU V (p, q) ((x, i), s, n)).2 (p, q)).2 = ee) := Lib.hid (by rw [HE.out])
 generalize (changedV V (putU V (p, q) ((x, i), s, n)).1 (putU V (p, q) ((x, i), s, n)).2 (p, q)).2 = e2 at HG ⊢
 obtain rfl := HG.out
 obtain ⟨t0, t1, t2, t3, t4, rfl, hr9⟩ := hx
 have J6 := Lib.hid (vbox_below X6.out hb)
 have JB := Lib.hid (below_after XB.out hb (Nat.le_refl _))
 have JR := Lib.hid hr9
 clear hb hr9 p0 p1 p2 p3 p4 b1 b2
 obtain ⟨z0, z1, z2, z3, z4⟩ := vbox_cells J6.out
 obtain ⟨f0, f1, f2, f3, f4⟩ := vbox_free J6.out
 dsimp only at z0 z1 z2 z3 z4
 go_wp2_with fail
 have HV := Lib.hid (JR.out.kp (kp_set J6.out [.slice t0.1 t0.2.1 t0.2.2, .slice t1.1 t1.2.1 t1.2.2, .slice t2.1 t2.2.1 t2.2.2, .slice t3.1 t3.2.1 t3.2.2, .slice t4.1 t4.2.1 t4.2.2]))
 have HB := Lib.hid (below_setCells JB.out (show w.heap.size ≤ w.heap.size + 1 + 1 + 1 by omega) 0 [.slice t0.1 t0.2.1 t0.2.2, .slice t1.1 t1.2.1 t1.2.2, .slice t2.1 t2.2.1 t2.2.2, .slice t3.1 t3.2.1 t3.2.2, .slice t4.1 t4.2.1 t4.2.2])
 obtain ⟨c0, c1, c2, c3, c4⟩ := vbox_cells (vbox_set J6.out t0 t1 t2 t3 t4)
 refine bodyPost_ret (v := .tuple #[.agg #[.slice t0.1 t0.2.1 t0.2.2, .slice t1.1 t1.2.1 t1.2.2, .slice t2.1 t2.2.1 t2.2.2, .slice t3.1 t3.2.1 t3.2.2, .slice t4.1 t4.2.1 t4.2.2], .int .i64 e2]) (by simp [results, Tryz.results15, go_sem, c0, c1, c2, c3, c4]) rfl ?_
 rw [HE.out]
 exact ⟨_, rfl, ⟨t0, t1, t2, t3, t4, rfl, HV.out⟩, HB.out⟩
end Go.Proofs.YthkkipbmlafdiaaGreat
