/-
  Contracts and plain facts.
-/
import Derived.Test.YthkkipbmlafdiaaGreatOz
import Derived.Test.YthkkipbmlafdiaaGreatG34
set_option maxRecDepth 20000
namespace Go.Proofs.YthkkipbmlafdiaaGreat
section
open Go Go.RowKit
theorem vbox_clock {w : World} {g : Nat} {a b x d e : SL} (h : VBox w g a b x d e) (A : Option Addr) (n c : Nat) : VBox (w.setCell ⟨g, 3, none⟩ (.slice A n c)) g a b x (A, n, c) e := by
 unfold VBox at *
 simp [World.setCell, Array.getElem?_modify, h]
structure AsksC (K : Nat) (caps : Array Value) (V U : Vw) (n : Int) (S : World → Prop) : Prop where
 enters : ∀ args W, (callFunc K args).run Tryz.prog W = .ok (.enter K args) W
 kept : ∀ W W', S W → Below W.heap.size W W' → S W'
 call : ∀ v W, S W → VAt W v V → Calls Tryz.prog K (#[v] ++ caps) W fun e w' => ∃ X, e = .returned (.tuple #[X, .int .i64 n]) ∧ VAt w' X U ∧ Below W.heap.size W w'
def goneU (U : Vw) : Vw := ⟨U.m, U.f, RowSets.gone U.f U.r, U.c, U.s⟩
theorem fit_gone {k : Nat} {U : Vw} (h : FitVIE k U) : FitVIE k (goneU U) := ⟨h.m, h.f, Nat.le_trans (gone_len _ _) h.r, h.c, h.s, gone_nots_len h.n⟩
def changedV (V U : Vw) (n : Int) (z : Sets.Id2) : Vw × Int :=
 if n ≠ 0 then (V, n) else if coreB V (goneU U) = true then (V, 0) else if (upR V.c z).2 ≠ 0 then (V, (upR V.c z).2) else (⟨U.m, U.f, RowSets.gone U.f U.r, (upR V.c z).1, [z]⟩, 0)
set_option maxHeartbeats 8000000 in
theorem changed_any {K : Nat} {caps : Array Value} {V U : Vw} {n : Int} {S : World → Prop} (hP : AsksC K caps V U n S) (v : Value) (p q : Int) (w : World) (hS : S w) (h : VAt w v V) (fV : FitVIE 1000 V) (fU : FitVIE 1000 U) :
  Calls Tryz.prog 62 #[v, .agg #[.int .i64 p, .int .i64 q], .func (.func K) #[] caps] w fun e w' => ∃ X, e = .returned (.tuple #[X, .int .i64 (changedV V U n (p, q)).2]) ∧ VAt w' X (changedV V U n (p, q)).1 ∧ Below w.heap.size w w' := by
 obtain ⟨a, b, c, d, e, rfl, hr⟩ := h
 have hK := hP.enters
 have HP := hd_ hP
 have LV := hd_ fV
 have LU := hd_ fU
 have q1 := below_one w (.cells #[.slice a.1 a.2.1 a.2.2, .slice b.1 b.2.1 b.2.2, .slice c.1 c.2.1 c.2.2, .slice d.1 d.2.1 d.2.2, .slice e.1 e.2.1 e.2.2] 27)
 have q2 := below_one (w.alloc (.cells #[.slice a.1 a.2.1 a.2.2, .slice b.1 b.2.1 b.2.2, .slice c.1 c.2.1 c.2.2, .slice d.1 d.2.1 d.2.2, .slice e.1 e.2.1 e.2.2] 27)) (.cells #[.int .i64 p, .int .i64 q] 29)
 have q3 := below_one ((w.alloc (.cells #[.slice a.1 a.2.1 a.2.2, .slice b.1 b.2.1 b.2.2, .slice c.1 c.2.1 c.2.2, .slice d.1 d.2.1 d.2.2, .slice e.1 e.2.1 e.2.2] 27)).alloc (.cells #[.int .i64 p, .int .i64 q] 29)) (.cells #[.slice none 0 0, .slice none 0 0, .slice none 0 0, .slice none 0 0, .slice none 0 0] 27)
 have Q := below_after (ba_ q1 q2) q3 (Nat.le_refl _)
 have X3 := hd_ (vbox_below (vbox_below (vbox_new w a b c d e) q2) q3)
 have X4 : Hid (Box (((w.alloc (.cells #[.slice a.1 a.2.1 a.2.2, .slice b.1 b.2.1 b.2.2, .slice c.1 c.2.1 c.2.2, .slice d.1 d.2.1 d.2.2, .slice e.1 e.2.1 e.2.2] 27)).alloc (.cells #[.int .i64 p, .int .i64 q] 29)).alloc (.cells #[.slice none 0 0, .slice none 0 0, .slice none 0 0, .slice none 0 0, .slice none 0 0] 27)) (w.heap.size + 1) p q) := hd_ (by simpa using box_below (box_new (w.alloc (.cells #[.slice a.1 a.2.1 a.2.2, .slice b.1 b.2.1 b.2.2, .slice c.1 c.2.1 c.2.2, .slice d.1 d.2.1 d.2.2, .slice e.1 e.2.1 e.2.2] 27)) p q) q3)
 have X6 : Hid (VBox (((w.alloc (.cells #[.slice a.1 a.2.1 a.2.2, .slice b.1 b.2.1 b.2.2, .slice c.1 c.2.1 c.2.2, .slice d.1 d.2.1 d.2.2, .slice e.1 e.2.1 e.2.2] 27)).alloc (.cells #[.int .i64 p, .int .i64 q] 29)).alloc (.cells #[.slice none 0 0, .slice none 0 0, .slice none 0 0, .slice none 0 0, .slice none 0 0] 27)) (w.heap.size + 1 + 1) (none, 0, 0) (none, 0, 0) (none, 0, 0) (none, 0, 0) (none, 0, 0)) := hd_ (by have h := vbox_new ((w.alloc (.cells #[.slice a.1 a.2.1 a.2.2, .slice b.1 b.2.1 b.2.2, .slice c.1 c.2.1 c.2.2, .slice d.1 d.2.1 d.2.2, .slice e.1 e.2.1 e.2.2] 27)).alloc (.cells #[.int .i64 p, .int .i64 q] 29)) (none, 0, 0) (none, 0, 0) (none, 0, 0) (none, 0, 0) (none, 0, 0); simp only [World.size_alloc] at h; exact h)
 have XR := hd_ (hr.below Q)
 have XB := hd_ Q
 have SS := hd_ (hP.kept _ _ hS Q)
 clear q1 q2 q3 Q hr fV fU hP hS
 obtain ⟨p0, p1, p2, p3, p4⟩ := vbox_cells X3.out
 go_enter Tryz.func62, Tryz.ntmps62
 go_wp2_with fail
 (with_reducible refine (copyV_any _ V _ XR.out.at_ LV.out).mono ?_)
 rintro e1 w3 ⟨X, rfl, hx, hb⟩
 have Y3 := hd_ (vbox_below X3.out hb)
 have Y4 := hd_ (box_below X4.out hb)
 have Y6 := hd_ (vbox_below X6.out hb)
 have YR := hd_ (XR.out.below hb)
 have YB := hd_ (ba_ XB.out hb)
 have YS := hd_ (HP.out.kept _ _ SS.out hb)
 have YX := hd_ hx
 clear hb hx p0 p1 p2 p3 p4 X3 X4 X6 XR XB SS
 go_wp2_with fail
 (with_reducible refine (HP.out.call _ _ YS.out YX.out).mono ?_)
 rintro e2 w4 ⟨X', rfl, hx, hb⟩
 obtain ⟨s0, s1, s2, s3, s4, rfl, hr⟩ := hx
 have q8 := below_one w4 (.cells #[.slice s0.1 s0.2.1 s0.2.2, .slice s1.1 s1.2.1 s1.2.2, .slice s2.1 s2.2.1 s2.2.2, .slice s3.1 s3.2.1 s3.2.2, .slice s4.1 s4.2.1 s4.2.2] 27)
 have Z3 := hd_ (vbox_below (vbox_below Y3.out hb) q8)
 have Z4 := hd_ (box_below (box_below Y4.out hb) q8)
 have Z6 := hd_ (vbox_below (vbox_below Y6.out hb) q8)
 have Z8 : Hid (VBox (w4.alloc (.cells #[.slice s0.1 s0.2.1 s0.2.2, .slice s1.1 s1.2.1 s1.2.2, .slice s2.1 s2.2.1 s2.2.2, .slice s3.1 s3.2.1 s3.2.2, .slice s4.1 s4.2.1 s4.2.2] 27)) w4.heap.size s0 s1 s2 s3 s4) := hd_ (vbox_new w4 s0 s1 s2 s3 s4)
 have ZB := hd_ (below_after (ba_ YB.out hb) q8 (Nat.le_refl _))
 have ZR := hd_ ((YR.out.below hb).below q8)
 have ZU := hd_ (hr.below q8)
 have L8 : Hid (w.heap.size + 1 + 1 < w4.heap.size) := hd_ (Nat.lt_of_lt_of_le (vbox_lt Y6.out) hb.size)
 clear hb hr q8 Y3 Y4 Y6 YB YR YS YX
 obtain ⟨k0, k1, k2, k3, k4⟩ := vbox_cells (vbox_new w4 (none, 0, 0) (none, 0, 0) (none, 0, 0) (none, 0, 0) (none, 0, 0))
 obtain ⟨f0, f1, f2, f3, f4⟩ := vbox_free (vbox_new w4 (none, 0, 0) (none, 0, 0) (none, 0, 0) (none, 0, 0) (none, 0, 0))
 dsimp only at k0 k1 k2 k3 k4
 obtain ⟨p0, p1, p2, p3, p4⟩ := vbox_cells Z3.out
 obtain ⟨r0, r1, r2, r3, r4⟩ := vbox_cells Z8.out
 by_cases hn : n = 0
 ·subst hn
  go_wp2_with fail
  clear k0 k1 k2 k3 k4 f0 f1 f2 f3 f4
  (with_reducible refine (gone_any _ _ U.r U.f _ ZU.out.r ZU.out.f LU.out.r (fun r hr => Nat.le_trans (LU.out.n r hr) (by decide)) (Nat.le_trans LU.out.f (by decide))).mono ?_)
  rintro e3 w5 ⟨V2, rfl, hr, hb⟩
  obtain ⟨⟨A2, n2, c2⟩, rfl⟩ := sl_rows hr
  dsimp only at hr
  have V3 := hd_ (vbox_below Z3.out hb)
  have V4 := hd_ (box_below Z4.out hb)
  have V6 := hd_ (vbox_below Z6.out hb)
  have V8 := hd_ (vbox_below Z8.out hb)
  have VB := hd_ (ba_ ZB.out hb)
  have VR := hd_ (ZR.out.below hb)
  have VU := hd_ (ZU.out.below hb)
  have VW := hd_ hr
  clear hb hr p0 p1 p2 p3 p4 r0 r1 r2 r3 r4 Z3 Z4 Z6 Z8 ZB ZR ZU
  obtain ⟨r0, r1, r2, r3, r4⟩ := vbox_cells V8.out
  obtain ⟨g0, g1, g2, g3, g4⟩ := vbox_free V8.out
  have hk := kp_cell (k := 2) V8.out A2 n2 c2
  have U3 := hd_ (vbox_apart V3.out (x := w4.heap.size) (by have := L8.out; omega) 2 (.slice A2 n2 c2))
  have U4 : Hid (Box _ (w.heap.size + 1) p q) := hd_ ((heap_setCell (x := w4.heap.size) (i := 2) (v := .slice A2 n2 c2) (by have := L8.out; omega)).trans V4.out)
  have U6 := hd_ (vbox_apart V6.out (x := w4.heap.size) (by have := L8.out; omega) 2 (.slice A2 n2 c2))
  have U8 := hd_ (vbox_rows V8.out A2 n2 c2)
  have UB := hd_ (below_two_set VB.out (show w.heap.size ≤ w4.heap.size by have := L8.out; omega) 2 (.slice A2 n2 c2))
  have UR := hd_ (VR.out.kp hk)
  have UU := hd_ (show RV _ s0 s1 (A2, n2, c2) s3 s4 (goneU U) from ⟨(VU.out.kp hk).m, (VU.out.kp hk).f, VW.out.kp hk, (VU.out.kp hk).c, (VU.out.kp hk).s⟩)
  clear hk
  obtain ⟨p0, p1, p2, p3, p4⟩ := vbox_cells U3.out
  obtain ⟨t0, t1, t2, t3, t4⟩ := vbox_cells U8.out
  dsimp only at t2
  go_wp2_with fail
  clear r0 r1 r2 r3 r4 g0 g1 g2 g3 g4 V3 V4 V6 V8 VB VR VU VW
  (with_reducible refine (core_any _ _ V (goneU U) _ UR.out.at_ UU.out.at_ LV.out (fit_gone LU.out)).mono ?_)
  rintro e4 w6 ⟨rfl, hb⟩
  have T3 := hd_ (vbox_below U3.out hb)
  have T4 := hd_ (box_below U4.out hb)
  have T6 := hd_ (vbox_below U6.out hb)
  have T8 := hd_ (vbox_below U8.out hb)
  have TB := hd_ (ba_ UB.out hb)
  have TR := hd_ (UR.out.below hb)
  have TU := hd_ (UU.out.below hb)
  clear hb p0 p1 p2 p3 p4 t0 t1 t2 t3 t4 U3 U4 U6 U8 UB UR UU
  obtain ⟨p0, p1, p2, p3, p4⟩ := vbox_cells T3.out
  obtain ⟨b1, b2⟩ := box_cells T4.out
  rcases hz : coreB V (goneU U) with _ | _
  ·have H1 : Hid (coreB V (goneU U) = true → False) := hd_ (by rw [hz]; decide)
   clear hz
   go_wp2_with fail
   (with_reducible refine (up_any _ V.c p q _ TR.out.c (Nat.le_trans LV.out.c (by decide))).mono ?_)
   rintro e5 w7 ⟨V5, rfl, hr, hb⟩
   obtain ⟨⟨A5, n5, c5⟩, rfl⟩ := sl_rcs hr
   dsimp only at hr
   have M3 := hd_ (vbox_below T3.out hb)
   have M4 := hd_ (box_below T4.out hb)
   have M6 := hd_ (vbox_below T6.out hb)
   have M8 := hd_ (vbox_below T8.out hb)
   have MB := hd_ (ba_ TB.out hb)
   have MR := hd_ (TR.out.below hb)
   have MU := hd_ (TU.out.below hb)
   have MC := hd_ hr
   clear hb hr p0 p1 p2 p3 p4 b1 b2 T3 T4 T6 T8 TB TR TU
   obtain ⟨r0, r1, r2, r3, r4⟩ := vbox_cells M8.out
   obtain ⟨g0, g1, g2, g3, g4⟩ := vbox_free M8.out
   have hk := kp_cell (k := 3) M8.out A5 n5 c5
   have N3 := hd_ (vbox_apart M3.out (x := w4.heap.size) (by have := L8.out; omega) 3 (.slice A5 n5 c5))
   have N4 : Hid (Box _ (w.heap.size + 1) p q) := hd_ ((heap_setCell (x := w4.heap.size) (i := 3) (v := .slice A5 n5 c5) (by have := L8.out; omega)).trans M4.out)
   have N6 := hd_ (vbox_apart M6.out (x := w4.heap.size) (by have := L8.out; omega) 3 (.slice A5 n5 c5))
   have N8 := hd_ (vbox_clock M8.out A5 n5 c5)
   have NB := hd_ (below_two_set MB.out (show w.heap.size ≤ w4.heap.size by have := L8.out; omega) 3 (.slice A5 n5 c5))
   have NR := hd_ (MR.out.kp hk)
   have NU := hd_ (MU.out.kp hk)
   have NC := hd_ (ticks_kp MC.out hk)
   have HE : Hid (changedV V U 0 (p, q) = if (upR V.c (p, q)).2 ≠ 0 then (V, (upR V.c (p, q)).2) else (⟨U.m, U.f, RowSets.gone U.f U.r, (upR V.c (p, q)).1, [(p, q)]⟩, 0)) := hd_ (by
    unfold changedV
    rw [if_neg (fun h => h rfl), if_neg (fun h => H1.out h)])
   clear hk M3 M4 M6 MR MB MU MC H1
   obtain ⟨p0, p1, p2, p3, p4⟩ := vbox_cells N3.out
   obtain ⟨b1, b2⟩ := box_cells N4.out
   generalize upR V.c (p, q) = R at *
   obtain ⟨cc, ee⟩ := R
   dsimp only at HE NC
   dsimp only
   by_cases he : ee = 0
   ·subst he
    have HE2 : Hid (changedV V U 0 (p, q) = (⟨U.m, U.f, RowSets.gone U.f U.r, cc, [(p, q)]⟩, 0)) := hd_ (by rw [HE.out, if_neg (fun h => h rfl)])
    clear HE
    have q5 := below_one (w7.setCell ⟨w4.heap.size, 3, none⟩ (.slice A5 n5 c5)) (.cells #[.int .i64 p, .int .i64 q] 29)
    have E8 := hd_ (vbox_below N8.out q5)
    have E6 := hd_ (vbox_below N6.out q5)
    have EB := hd_ (ba_ NB.out q5)
    have EU := hd_ (NU.out.below q5)
    have EC := hd_ (Rcs.below NC.out q5)
    have EI : Hid (Ids ((w7.setCell ⟨w4.heap.size, 3, none⟩ (.slice A5 n5 c5)).alloc (.cells #[.int .i64 p, .int .i64 q] 29)) (.slice (some ⟨w7.heap.size, 0, none⟩) 1 1) [(p, q)]) := hd_ (by have h := ids_lit (w7.setCell ⟨w4.heap.size, 3, none⟩ (.slice A5 n5 c5)) [(p, q)]; simp only [World.size_setCell] at h; exact h)
    have hk := kp_cell (k := 4) E8.out (some ⟨w7.heap.size, 0, none⟩) 1 1
    have D8 := hd_ (vbox_seen E8.out (some ⟨w7.heap.size, 0, none⟩) 1 1)
    have D6 := hd_ (vbox_apart E6.out (x := w4.heap.size) (by have := L8.out; omega) 4 (.slice (some ⟨w7.heap.size, 0, none⟩) 1 1))
    have DB := hd_ (below_two_set EB.out (show w.heap.size ≤ w4.heap.size by have := L8.out; omega) 4 (.slice (some ⟨w7.heap.size, 0, none⟩) 1 1))
    have DU := hd_ (EU.out.kp hk)
    have DC := hd_ (ticks_kp EC.out hk)
    have DI := hd_ (Ids.kp EI.out hk)
    clear q5 hk NR NU NC NB EU EC EI EB
    obtain ⟨t0, t1, t2, t3, t4⟩ := vbox_cells E8.out
    obtain ⟨h0, h1, h2, h3, h4⟩ := vbox_free E8.out
    obtain ⟨y0, y1, y2, y3, y4⟩ := vbox_cells D8.out
    obtain ⟨z0, z1, z2, z3, z4⟩ := vbox_cells D6.out
    obtain ⟨f0, f1, f2, f3, f4⟩ := vbox_free D6.out
    dsimp only at t2 t3 y2 y3 y4 z0 z1 z2 z3 z4
    clear p0 p1 p2 p3 p4
    go_wp2_with fail
    have KK := hd_ (kp_set D6.out [.slice s0.1 s0.2.1 s0.2.2, .slice s1.1 s1.2.1 s1.2.2, .slice A2 n2 c2, .slice A5 n5 c5, .slice (some ⟨w7.heap.size, 0, none⟩) 1 1])
    have HB := hd_ (below_setCells DB.out (show w.heap.size ≤ w.heap.size + 1 + 1 by omega) 0 [.slice s0.1 s0.2.1 s0.2.2, .slice s1.1 s1.2.1 s1.2.2, .slice A2 n2 c2, .slice A5 n5 c5, .slice (some ⟨w7.heap.size, 0, none⟩) 1 1])
    obtain ⟨c0, c1, c2', c3, c4⟩ := vbox_cells (vbox_set D6.out s0 s1 (A2, n2, c2) (A5, n5, c5) (some ⟨w7.heap.size, 0, none⟩, 1, 1))
    dsimp only at c2' c3 c4
    refine bodyPost_ret (v := .tuple #[.agg #[.slice s0.1 s0.2.1 s0.2.2, .slice s1.1 s1.2.1 s1.2.2, .slice A2 n2 c2, .slice A5 n5 c5, .slice (some ⟨w7.heap.size, 0, none⟩) 1 1], .int .i64 0]) (by simp [results, Tryz.results62, go_sem, c0, c1, c2', c3, c4]) rfl ?_
    rw [HE2.out]
    exact ⟨_, rfl, ⟨s0, s1, (A2, n2, c2), (A5, n5, c5), (some ⟨w7.heap.size, 0, none⟩, 1, 1), rfl, Ms.kp DU.out.m KK.out, Ids.kp DU.out.f KK.out, RowsAt.kp DU.out.r KK.out, ticks_kp DC.out KK.out, Ids.kp DI.out KK.out⟩, HB.out⟩
   ·have hne : (ee != 0) = true := by simpa using he
    have HE2 : Hid (changedV V U 0 (p, q) = (V, ee)) := hd_ (by rw [HE.out, if_pos he])
    clear HE he
    go_wp2_with fail
    clear r0 r1 r2 r3 r4 g0 g1 g2 g3 g4 b1 b2
    (with_reducible refine (copyV_any _ V _ NR.out.at_ LV.out).mono ?_)
    rintro e9 w9 ⟨X9, rfl, hx, hb⟩
    obtain ⟨t0, t1, t2, t3, t4, rfl, hr9⟩ := hx
    have J6 := hd_ (vbox_below N6.out hb)
    have JB := hd_ (ba_ NB.out hb)
    have JR := hd_ hr9
    clear hb hr9 p0 p1 p2 p3 p4
    obtain ⟨z0, z1, z2, z3, z4⟩ := vbox_cells J6.out
    obtain ⟨f0, f1, f2, f3, f4⟩ := vbox_free J6.out
    dsimp only at z0 z1 z2 z3 z4
    go_wp2_with fail
    have HV := hd_ (JR.out.kp (kp_set J6.out [.slice t0.1 t0.2.1 t0.2.2, .slice t1.1 t1.2.1 t1.2.2, .slice t2.1 t2.2.1 t2.2.2, .slice t3.1 t3.2.1 t3.2.2, .slice t4.1 t4.2.1 t4.2.2]))
    have HB := hd_ (below_setCells JB.out (show w.heap.size ≤ w.heap.size + 1 + 1 by omega) 0 [.slice t0.1 t0.2.1 t0.2.2, .slice t1.1 t1.2.1 t1.2.2, .slice t2.1 t2.2.1 t2.2.2, .slice t3.1 t3.2.1 t3.2.2, .slice t4.1 t4.2.1 t4.2.2])
    obtain ⟨c0, c1, c2, c3, c4⟩ := vbox_cells (vbox_set J6.out t0 t1 t2 t3 t4)
    refine bodyPost_ret (v := .tuple #[.agg #[.slice t0.1 t0.2.1 t0.2.2, .slice t1.1 t1.2.1 t1.2.2, .slice t2.1 t2.2.1 t2.2.2, .slice t3.1 t3.2.1 t3.2.2, .slice t4.1 t4.2.1 t4.2.2], .int .i64 ee]) (by simp [results, Tryz.results62, go_sem, c0, c1, c2, c3, c4]) rfl ?_
    rw [HE2.out]
    exact ⟨_, rfl, ⟨t0, t1, t2, t3, t4, rfl, HV.out⟩, HB.out⟩
  ·have HE : Hid (changedV V U 0 (p, q) = (V, 0)) := hd_ (by
    unfold changedV
    rw [if_neg (fun h => h rfl), if_pos hz])
   clear hz
   go_wp2_with fail
   (with_reducible refine (copyV_any _ V _ TR.out.at_ LV.out).mono ?_)
   rintro e9 w9 ⟨X9, rfl, hx, hb⟩
   obtain ⟨t0, t1, t2, t3, t4, rfl, hr9⟩ := hx
   have J6 := hd_ (vbox_below T6.out hb)
   have JB := hd_ (ba_ TB.out hb)
   have JR := hd_ hr9
   clear hb hr9 p0 p1 p2 p3 p4
   obtain ⟨z0, z1, z2, z3, z4⟩ := vbox_cells J6.out
   obtain ⟨f0, f1, f2, f3, f4⟩ := vbox_free J6.out
   dsimp only at z0 z1 z2 z3 z4
   go_wp2_with fail
   have HV := hd_ (JR.out.kp (kp_set J6.out [.slice t0.1 t0.2.1 t0.2.2, .slice t1.1 t1.2.1 t1.2.2, .slice t2.1 t2.2.1 t2.2.2, .slice t3.1 t3.2.1 t3.2.2, .slice t4.1 t4.2.1 t4.2.2]))
   have HB := hd_ (below_setCells JB.out (show w.heap.size ≤ w.heap.size + 1 + 1 by omega) 0 [.slice t0.1 t0.2.1 t0.2.2, .slice t1.1 t1.2.1 t1.2.2, .slice t2.1 t2.2.1 t2.2.2, .slice t3.1 t3.2.1 t3.2.2, .slice t4.1 t4.2.1 t4.2.2])
   obtain ⟨c0, c1, c2, c3, c4⟩ := vbox_cells (vbox_set J6.out t0 t1 t2 t3 t4)
   refine bodyPost_ret (v := .tuple #[.agg #[.slice t0.1 t0.2.1 t0.2.2, .slice t1.1 t1.2.1 t1.2.2, .slice t2.1 t2.2.1 t2.2.2, .slice t3.1 t3.2.1 t3.2.2, .slice t4.1 t4.2.1 t4.2.2], .int .i64 0]) (by simp [results, Tryz.results62, go_sem, c0, c1, c2, c3, c4]) rfl ?_
   rw [HE.out]
   exact ⟨_, rfl, ⟨t0, t1, t2, t3, t4, rfl, HV.out⟩, HB.out⟩
 ·have hne : (n != 0) = true := by simpa using hn
  have HE : Hid (changedV V U n (p, q) = (V, n)) := hd_ (by unfold changedV; rw [if_pos hn])
  clear hn
  go_wp2_with fail
  clear k0 k1 k2 k3 k4 f0 f1 f2 f3 f4 r0 r1 r2 r3 r4
  (with_reducible refine (copyV_any _ V _ ZR.out.at_ LV.out).mono ?_)
  rintro e9 w9 ⟨X9, rfl, hx, hb⟩
  obtain ⟨t0, t1, t2, t3, t4, rfl, hr9⟩ := hx
  have J6 := hd_ (vbox_below Z6.out hb)
  have JB := hd_ (ba_ ZB.out hb)
  have JR := hd_ hr9
  clear hb hr9 p0 p1 p2 p3 p4
  obtain ⟨z0, z1, z2, z3, z4⟩ := vbox_cells J6.out
  obtain ⟨f0, f1, f2, f3, f4⟩ := vbox_free J6.out
  dsimp only at z0 z1 z2 z3 z4
  go_wp2_with fail
  have HV := hd_ (JR.out.kp (kp_set J6.out [.slice t0.1 t0.2.1 t0.2.2, .slice t1.1 t1.2.1 t1.2.2, .slice t2.1 t2.2.1 t2.2.2, .slice t3.1 t3.2.1 t3.2.2, .slice t4.1 t4.2.1 t4.2.2]))
  have HB := hd_ (below_setCells JB.out (show w.heap.size ≤ w.heap.size + 1 + 1 by omega) 0 [.slice t0.1 t0.2.1 t0.2.2, .slice t1.1 t1.2.1 t1.2.2, .slice t2.1 t2.2.1 t2.2.2, .slice t3.1 t3.2.1 t3.2.2, .slice t4.1 t4.2.1 t4.2.2])
  obtain ⟨c0, c1, c2, c3, c4⟩ := vbox_cells (vbox_set J6.out t0 t1 t2 t3 t4)
  refine bodyPost_ret (v := .tuple #[.agg #[.slice t0.1 t0.2.1 t0.2.2, .slice t1.1 t1.2.1 t1.2.2, .slice t2.1 t2.2.1 t2.2.2, .slice t3.1 t3.2.1 t3.2.2, .slice t4.1 t4.2.1 t4.2.2], .int .i64 n]) (by simp [results, Tryz.results62, go_sem, c0, c1, c2, c3, c4]) rfl ?_
  rw [HE.out]
  exact ⟨_, rfl, ⟨t0, t1, t2, t3, t4, rfl, HV.out⟩, HB.out⟩
end
end Go.Proofs.YthkkipbmlafdiaaGreat
