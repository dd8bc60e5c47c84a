/-
  Contracts and plain facts.
-/
import Derived.Test.YthkkipbmlafdiaaGreatOz
import Derived.Test.YthkkipbmlafdiaaGreatG35
set_option maxRecDepth 20000
namespace Go.Proofs.YthkkipbmlafdiaaGreat
section
open Go Go.RowKit
set_option maxHeartbeats 2000000 in
theorem setM_any (vm vf : Value) (m : List Ros.Mm) (f : List Sets.Id2) (a i s n : Int) (w : World) (h1 : Ms w vm m) (h2 : Ids w vf f) (hm : m.length ≤ 30000) (hf : f.length ≤ 30000) :
  Calls Tryz.prog 66 #[vm, vf, .agg #[.int .i64 a, .int .i64 i, .int .u8 s, .int .i64 n]] w fun e w' => ∃ V U, e = .returned (.tuple #[V, U]) ∧ Ms w' V (Ros.joinL (m, f) ([((a, i), s, n)], [])).1 ∧ Ids w' U (Ros.joinL (m, f) ([((a, i), s, n)], [])).2 ∧ Below w.heap.size w w' := by
 have q0 := below_one w (.cells #[.int .i64 a, .int .i64 i, .int .u8 s, .int .i64 n] 31)
 have q1 := below_one (w.alloc (.cells #[.int .i64 a, .int .i64 i, .int .u8 s, .int .i64 n] 31)) (.cells #[.int .i64 a, .int .i64 i, .int .u8 s, .int .i64 n] 31)
 have BB := hd_ (ba_ q0 q1)
 have H1 := hd_ ((h1.below q0).below q1)
 have H2 := hd_ ((h2.below q0).below q1)
 have HL : Hid (Ms ((w.alloc (.cells #[.int .i64 a, .int .i64 i, .int .u8 s, .int .i64 n] 31)).alloc (.cells #[.int .i64 a, .int .i64 i, .int .u8 s, .int .i64 n] 31)) (.slice (some ⟨w.heap.size + 1, 0, none⟩) 1 1) [((a, i), s, n)]) := hd_ (by have h := ms_lit (w.alloc (.cells #[.int .i64 a, .int .i64 i, .int .u8 s, .int .i64 n] 31)) [((a, i), s, n)]; simp only [World.size_alloc] at h; exact h)
 obtain ⟨x1, x2, x3, x4⟩ := mbox_cells (mbox_new w a i s n)
 have HM := hd_ (show m.length + [((a, i), s, n)].length ≤ 40000 by simp; omega)
 have HF := hd_ (show f.length + ([] : List Sets.Id2).length ≤ 40000 by simp; omega)
 clear q0 q1 h1 h2
 go_enter Tryz.func66, Tryz.ntmps66
 go_wp2_with fail
 (with_reducible refine (join_anyROS _ _ _ _ m [((a, i), s, n)] f [] _ H1.out H2.out HL.out (Ids.nil _) HM.out HF.out).mono ?_)
 rintro e w1 ⟨V, U, rfl, hV, hU, hb⟩
 rw [Ros.joinP_is] at hV hU
 have HV := hd_ hV.reads
 have HU := hd_ (ids_of_owns hU)
 have B1 := hd_ (ba_ BB.out hb)
 clear hV hU hb
 go_wp2_with fail
 refine bodyPost_ret (v := .tuple #[V, U]) (by simp [results, Tryz.results66, go_sem]) rfl ?_
 exact ⟨_, _, rfl, HV.out, HU.out, B1.out⟩
def stB (s : Int) : Bool := decide (1 ≤ s) && decide (s ≤ 7)
theorem stageMay_any (s : Int) (w : World) : Calls Tryz.prog 65 #[.int .u8 s] w fun e w' => e = .returned (.bool (stB s)) ∧ Below w.heap.size w w' := by
 have HE : Hid (stB s = (decide (1 ≤ s) && decide (s ≤ 7))) := hd_ rfl
 generalize stB s = z at *
 rcases h1 : decide (1 ≤ s) with _ | _
 ·rw [h1, Bool.false_and] at HE
  go_enter Tryz.func65, Tryz.ntmps65
  go_wp2_with fail
  go_ret
  exact ⟨ret_bool HE.out.symm, Below.refl _ _⟩
 ·rw [h1, Bool.true_and] at HE
  go_enter Tryz.func65, Tryz.ntmps65
  go_wp2_with fail
  go_ret
  exact ⟨ret_bool HE.out.symm, Below.refl _ _⟩
def putU (V : Vw) (z : Sets.Id2) (m : Ros.Mm) : Vw × Int :=
 if (vidROW z.1 z.2 && (vidROW m.1.1 m.1.2 && stB m.2.1)) = true then (⟨(Ros.joinL (V.m, V.f) ([m], [])).1, (Ros.joinL (V.m, V.f) ([m], [])).2, V.r, V.c, V.s⟩, 0) else (V, 4)
theorem vbox_mem {w : World} {g : Nat} {a b x d e : SL} (h : VBox w g a b x d e) (A : Option Addr) (n c : Nat) : VBox (w.setCell ⟨g, 0, none⟩ (.slice A n c)) g (A, n, c) b x d e := by
 unfold VBox at *
 simp [World.setCell, Array.getElem?_modify, h]
theorem vbox_flo {w : World} {g : Nat} {a b x d e : SL} (h : VBox w g a b x d e) (A : Option Addr) (n c : Nat) : VBox (w.setCell ⟨g, 1, none⟩ (.slice A n c)) g a (A, n, c) x d e := by
 unfold VBox at *
 simp [World.setCell, Array.getElem?_modify, h]
structure ClG (w : World) (a b c d e : SL) (V : Vw) (S : World → Prop) (W : World) : Prop where
 x : VBox W w.heap.size a b c d e
 z : VBox W (w.heap.size + 1) (none, 0, 0) (none, 0, 0) (none, 0, 0) (none, 0, 0) (none, 0, 0)
 r : RV W a b c d e V
 s : S W
 below : Below w.heap.size w W
theorem ClG.step {w : World} {a b c d e : SL} {V : Vw} {S : World → Prop} {W W' : World} (h : ClG w a b c d e V S W) (hS : ∀ W W', S W → Below W.heap.size W W' → S W') (hb : Below W.heap.size W W') : ClG w a b c d e V S W' := ⟨vbox_below h.x hb, vbox_below h.z hb, h.r.below hb, hS _ _ h.s hb, ba_ h.below hb⟩
theorem clG_start (w : World) {a b c d e : SL} {V : Vw} {S : World → Prop} (hr : RV w a b c d e V) (hs : S w) (hS : ∀ W W', S W → Below W.heap.size W W' → S W') : ClG w a b c d e V S ((w.alloc (.cells #[.slice a.1 a.2.1 a.2.2, .slice b.1 b.2.1 b.2.2, .slice c.1 c.2.1 c.2.2, .slice d.1 d.2.1 d.2.2, .slice e.1 e.2.1 e.2.2] 27)).alloc (.cells #[.slice none 0 0, .slice none 0 0, .slice none 0 0, .slice none 0 0, .slice none 0 0] 27)) := by
 have q1 := below_one w (.cells #[.slice a.1 a.2.1 a.2.2, .slice b.1 b.2.1 b.2.2, .slice c.1 c.2.1 c.2.2, .slice d.1 d.2.1 d.2.2, .slice e.1 e.2.1 e.2.2] 27)
 have q2 := below_one (w.alloc (.cells #[.slice a.1 a.2.1 a.2.2, .slice b.1 b.2.1 b.2.2, .slice c.1 c.2.1 c.2.2, .slice d.1 d.2.1 d.2.2, .slice e.1 e.2.1 e.2.2] 27)) (.cells #[.slice none 0 0, .slice none 0 0, .slice none 0 0, .slice none 0 0, .slice none 0 0] 27)
 refine ⟨vbox_below (vbox_new w a b c d e) q2, ?_, hr.below (ba_ q1 q2), hS _ _ hs (ba_ q1 q2), ba_ q1 q2⟩
 have h := vbox_new (w.alloc (.cells #[.slice a.1 a.2.1 a.2.2, .slice b.1 b.2.1 b.2.2, .slice c.1 c.2.1 c.2.2, .slice d.1 d.2.1 d.2.2, .slice e.1 e.2.1 e.2.2] 27)) (none, 0, 0) (none, 0, 0) (none, 0, 0) (none, 0, 0) (none, 0, 0)
 simp only [World.size_alloc] at h
 exact h
def PutS (g1 g2 : Nat) (p q x i s n : Int) (W : World) : Prop := Box W g1 p q ∧ MBox W g2 x i s n
theorem putS_kept {g1 g2 : Nat} {p q x i s n : Int} : ∀ W W', PutS g1 g2 p q x i s n W → Below W.heap.size W W' → PutS g1 g2 p q x i s n W' := fun _ _ h hb => ⟨box_below h.1 hb, mbox_below h.2 hb⟩
set_option maxHeartbeats 8000000 in
theorem putC_any (v : Value) (V : Vw) (g1 g2 : Nat) (p q x i s n : Int) (w : World) (hS : PutS g1 g2 p q x i s n w) (h : VAt w v V) (fV : FitVIE 1000 V) :
  Calls Tryz.prog 63 #[v, .pointer (some ⟨g1, 0, none⟩), .pointer (some ⟨g2, 0, none⟩)] w fun e w' => ∃ X, e = .returned (.tuple #[X, .int .i64 (putU V (p, q) ((x, i), s, n)).2]) ∧ VAt w' X (putU V (p, q) ((x, i), s, n)).1 ∧ Below w.heap.size w w' := by
 obtain ⟨a, b, c, d, e, rfl, hr⟩ := h
 have G0 := hd_ (clG_start w hr hS putS_kept)
 have LV := hd_ fV
 have HE : Hid (putU V (p, q) ((x, i), s, n) = if (vidROW p q && (vidROW x i && stB s)) = true then (⟨(Ros.joinL (V.m, V.f) ([((x, i), s, n)], [])).1, (Ros.joinL (V.m, V.f) ([((x, i), s, n)], [])).2, V.r, V.c, V.s⟩, 0) else (V, 4)) := hd_ rfl
 have HC1 := hd_ fun W => may_any p q W
 have HC2 := hd_ fun W => may_any x i W
 have HC3 := hd_ fun W => stageMay_any s W
 clear hr hS fV
 obtain ⟨p0, p1, p2, p3, p4⟩ := vbox_cells G0.out.x
 obtain ⟨b1, b2⟩ := box_cells G0.out.s.1
 obtain ⟨m1, m2, m3, m4⟩ := mbox_cells G0.out.s.2
 go_enter Tryz.func63, Tryz.ntmps63
 go_wp2_with fail
 (with_reducible refine (HC1.out _).mono ?_)
 generalize vidROW p q = y1 at *
 rintro e1 w3 ⟨rfl, hb⟩
 have G1 := hd_ (G0.out.step putS_kept hb)
 clear hb p0 p1 p2 p3 p4 b1 b2 m1 m2 m3 m4
 obtain ⟨p0, p1, p2, p3, p4⟩ := vbox_cells G1.out.x
 obtain ⟨b1, b2⟩ := box_cells G1.out.s.1
 obtain ⟨m1, m2, m3, m4⟩ := mbox_cells G1.out.s.2
 cases y1
 ·rw [Bool.false_and, if_neg (by decide)] at HE
  obtain ⟨z0, z1, z2, z3, z4⟩ := vbox_cells G1.out.z
  obtain ⟨f0, f1, f2, f3, f4⟩ := vbox_free G1.out.z
  dsimp only at z0 z1 z2 z3 z4
  go_wp2_with fail
  have HV := hd_ (G1.out.r.kp (kp_set G1.out.z [.slice a.1 a.2.1 a.2.2, .slice b.1 b.2.1 b.2.2, .slice c.1 c.2.1 c.2.2, .slice d.1 d.2.1 d.2.2, .slice e.1 e.2.1 e.2.2]))
  have HB := hd_ (below_setCells G1.out.below (show w.heap.size ≤ w.heap.size + 1 by omega) 0 [.slice a.1 a.2.1 a.2.2, .slice b.1 b.2.1 b.2.2, .slice c.1 c.2.1 c.2.2, .slice d.1 d.2.1 d.2.2, .slice e.1 e.2.1 e.2.2])
  obtain ⟨c0, c1, c2, c3, c4⟩ := vbox_cells (vbox_set G1.out.z a b c d e)
  refine bodyPost_ret (v := .tuple #[.agg #[.slice a.1 a.2.1 a.2.2, .slice b.1 b.2.1 b.2.2, .slice c.1 c.2.1 c.2.2, .slice d.1 d.2.1 d.2.2, .slice e.1 e.2.1 e.2.2], .int .i64 4]) (by simp [results, Tryz.results63, go_sem, c0, c1, c2, c3, c4]) rfl ?_
  rw [HE.out]
  exact ⟨_, rfl, ⟨a, b, c, d, e, rfl, HV.out⟩, HB.out⟩
 ·rw [Bool.true_and] at HE
  go_wp2_with fail
  (with_reducible refine (HC2.out _).mono ?_)
  generalize vidROW x i = y2 at *
  rintro e1 w4 ⟨rfl, hb⟩
  have G2 := hd_ (G1.out.step putS_kept hb)
  clear hb p0 p1 p2 p3 p4 b1 b2 m1 m2 m3 m4
  obtain ⟨p0, p1, p2, p3, p4⟩ := vbox_cells G2.out.x
  obtain ⟨b1, b2⟩ := box_cells G2.out.s.1
  obtain ⟨m1, m2, m3, m4⟩ := mbox_cells G2.out.s.2
  cases y2
  ·rw [Bool.false_and, if_neg (by decide)] at HE
   obtain ⟨z0, z1, z2, z3, z4⟩ := vbox_cells G2.out.z
   obtain ⟨f0, f1, f2, f3, f4⟩ := vbox_free G2.out.z
   dsimp only at z0 z1 z2 z3 z4
   go_wp2_with fail
   have HV := hd_ (G2.out.r.kp (kp_set G2.out.z [.slice a.1 a.2.1 a.2.2, .slice b.1 b.2.1 b.2.2, .slice c.1 c.2.1 c.2.2, .slice d.1 d.2.1 d.2.2, .slice e.1 e.2.1 e.2.2]))
   have HB := hd_ (below_setCells G2.out.below (show w.heap.size ≤ w.heap.size + 1 by omega) 0 [.slice a.1 a.2.1 a.2.2, .slice b.1 b.2.1 b.2.2, .slice c.1 c.2.1 c.2.2, .slice d.1 d.2.1 d.2.2, .slice e.1 e.2.1 e.2.2])
   obtain ⟨c0, c1, c2, c3, c4⟩ := vbox_cells (vbox_set G2.out.z a b c d e)
   refine bodyPost_ret (v := .tuple #[.agg #[.slice a.1 a.2.1 a.2.2, .slice b.1 b.2.1 b.2.2, .slice c.1 c.2.1 c.2.2, .slice d.1 d.2.1 d.2.2, .slice e.1 e.2.1 e.2.2], .int .i64 4]) (by simp [results, Tryz.results63, go_sem, c0, c1, c2, c3, c4]) rfl ?_
   rw [HE.out]
   exact ⟨_, rfl, ⟨a, b, c, d, e, rfl, HV.out⟩, HB.out⟩
  ·rw [Bool.true_and] at HE
   go_wp2_with fail
   (with_reducible refine (HC3.out _).mono ?_)
   generalize stB s = y3 at *
   rintro e1 w5 ⟨rfl, hb⟩
   have G3 := hd_ (G2.out.step putS_kept hb)
   clear hb p0 p1 p2 p3 p4 b1 b2 m1 m2 m3 m4
   obtain ⟨p0, p1, p2, p3, p4⟩ := vbox_cells G3.out.x
   obtain ⟨b1, b2⟩ := box_cells G3.out.s.1
   obtain ⟨m1, m2, m3, m4⟩ := mbox_cells G3.out.s.2
   cases y3
   ·rw [if_neg (by decide)] at HE
    obtain ⟨z0, z1, z2, z3, z4⟩ := vbox_cells G3.out.z
    obtain ⟨f0, f1, f2, f3, f4⟩ := vbox_free G3.out.z
    dsimp only at z0 z1 z2 z3 z4
    go_wp2_with fail
    have HV := hd_ (G3.out.r.kp (kp_set G3.out.z [.slice a.1 a.2.1 a.2.2, .slice b.1 b.2.1 b.2.2, .slice c.1 c.2.1 c.2.2, .slice d.1 d.2.1 d.2.2, .slice e.1 e.2.1 e.2.2]))
    have HB := hd_ (below_setCells G3.out.below (show w.heap.size ≤ w.heap.size + 1 by omega) 0 [.slice a.1 a.2.1 a.2.2, .slice b.1 b.2.1 b.2.2, .slice c.1 c.2.1 c.2.2, .slice d.1 d.2.1 d.2.2, .slice e.1 e.2.1 e.2.2])
    obtain ⟨c0, c1, c2, c3, c4⟩ := vbox_cells (vbox_set G3.out.z a b c d e)
    refine bodyPost_ret (v := .tuple #[.agg #[.slice a.1 a.2.1 a.2.2, .slice b.1 b.2.1 b.2.2, .slice c.1 c.2.1 c.2.2, .slice d.1 d.2.1 d.2.2, .slice e.1 e.2.1 e.2.2], .int .i64 4]) (by simp [results, Tryz.results63, go_sem, c0, c1, c2, c3, c4]) rfl ?_
    rw [HE.out]
    exact ⟨_, rfl, ⟨a, b, c, d, e, rfl, HV.out⟩, HB.out⟩
   ·rw [if_pos rfl] at HE
    go_wp2_with fail
    (with_reducible refine (setM_any _ _ V.m V.f x i s n _ G3.out.r.m G3.out.r.f (Nat.le_trans LV.out.m (by decide)) (Nat.le_trans LV.out.f (by decide))).mono ?_)
    rintro e1 w6 ⟨Y1, Y2, rfl, hm, hf, hb⟩
    obtain ⟨⟨A1, n1, d1⟩, rfl⟩ := sl_rcs hm
    obtain ⟨⟨A2, n2, d2⟩, rfl⟩ := sl_ids hf
    dsimp only at hm hf
    have G4 := hd_ (G3.out.step putS_kept hb)
    have HM := hd_ hm
    have HF := hd_ hf
    clear hm hf G0 G1 G2 G3
    clear hb p0 p1 p2 p3 p4 b1 b2 m1 m2 m3 m4
    have X1 := hd_ (vbox_mem G4.out.x A1 n1 d1)
    have K1 := hd_ (kp_cell (k := 0) G4.out.x A1 n1 d1)
    have X2 := hd_ (vbox_flo X1.out A2 n2 d2)
    have K2 := hd_ (kp_cell (k := 1) X1.out A2 n2 d2)
    have Z2 := hd_ (vbox_apart (vbox_apart G4.out.z (x := w.heap.size) (by omega) 0 (.slice A1 n1 d1)) (x := w.heap.size) (by omega) 1 (.slice A2 n2 d2))
    have B2 := hd_ (below_two_set (below_two_set G4.out.below (Nat.le_refl _) 0 (.slice A1 n1 d1)) (Nat.le_refl _) 1 (.slice A2 n2 d2))
    have R2 := hd_ ((G4.out.r.kp K1.out).kp K2.out)
    have M2 := hd_ (Ms.kp (Ms.kp HM.out K1.out) K2.out)
    have F2 := hd_ (Ids.kp (Ids.kp HF.out K1.out) K2.out)
    obtain ⟨p0, p1, p2, p3, p4⟩ := vbox_cells G4.out.x
    obtain ⟨f0, f1, f2, f3, f4⟩ := vbox_free G4.out.x
    obtain ⟨h0, h1, h2, h3, h4⟩ := vbox_free X1.out
    obtain ⟨q0, q1, q2, q3, q4⟩ := vbox_cells X1.out
    obtain ⟨t0, t1, t2, t3, t4⟩ := vbox_cells X2.out
    dsimp only at q0 t0 t1
    obtain ⟨z0, z1, z2, z3, z4⟩ := vbox_cells Z2.out
    obtain ⟨k0, k1, k2, k3, k4⟩ := vbox_free Z2.out
    dsimp only at z0 z1 z2 z3 z4
    go_wp2_with fail
    have KK := hd_ (kp_set Z2.out [.slice A1 n1 d1, .slice A2 n2 d2, .slice c.1 c.2.1 c.2.2, .slice d.1 d.2.1 d.2.2, .slice e.1 e.2.1 e.2.2])
    have HB := hd_ (below_setCells B2.out (show w.heap.size ≤ w.heap.size + 1 by omega) 0 [.slice A1 n1 d1, .slice A2 n2 d2, .slice c.1 c.2.1 c.2.2, .slice d.1 d.2.1 d.2.2, .slice e.1 e.2.1 e.2.2])
    obtain ⟨c0, c1, c2, c3, c4⟩ := vbox_cells (vbox_set Z2.out (A1, n1, d1) (A2, n2, d2) c d e)
    dsimp only at c0 c1
    refine bodyPost_ret (v := .tuple #[.agg #[.slice A1 n1 d1, .slice A2 n2 d2, .slice c.1 c.2.1 c.2.2, .slice d.1 d.2.1 d.2.2, .slice e.1 e.2.1 e.2.2], .int .i64 0]) (by simp [results, Tryz.results63, go_sem, c0, c1, c2, c3, c4]) rfl ?_
    rw [HE.out]
    exact ⟨_, rfl, ⟨(A1, n1, d1), (A2, n2, d2), c, d, e, rfl, Ms.kp M2.out KK.out, Ids.kp F2.out KK.out, R2.out.r.kp KK.out, ticks_kp R2.out.c KK.out, Ids.kp R2.out.s KK.out⟩, HB.out⟩
theorem asksP (V : Vw) (g1 g2 : Nat) (p q x i s n : Int) (fV : FitVIE 1000 V) : AsksC 63 #[.pointer (some ⟨g1, 0, none⟩), .pointer (some ⟨g2, 0, none⟩)] V (putU V (p, q) ((x, i), s, n)).1 (putU V (p, q) ((x, i), s, n)).2 (PutS g1 g2 p q x i s n) where
 enters := fun args W => enters_fn Tryz.func63 (by kernel_rfl) rfl args W
 kept := putS_kept
 call v W hS h := putC_any v V g1 g2 p q x i s n W hS h fV
def rowU (V : Vw) (z : Sets.Id2) (not : List Sets.Id2) : Vw × Int := (⟨V.m, V.f, (setE V.r z not).1, V.c, V.s⟩, (setE V.r z not).2)
def RowS (g1 g2 : Nat) (p q : Int) (vn : Value) (not : List Sets.Id2) (W : World) : Prop := Box W g1 p q ∧ One W g2 23 vn ∧ Ids W vn not
theorem rowS_kept {g1 g2 : Nat} {p q : Int} {vn : Value} {not : List Sets.Id2} : ∀ W W', RowS g1 g2 p q vn not W → Below W.heap.size W W' → RowS g1 g2 p q vn not W' := fun _ _ h hb => ⟨box_below h.1 hb, one_below h.2.1 hb, h.2.2.below hb⟩
set_option maxHeartbeats 8000000 in
theorem rowC_any (v vn : Value) (V : Vw) (g1 g2 : Nat) (p q : Int) (not : List Sets.Id2) (w : World) (hS : RowS g1 g2 p q vn not w) (h : VAt w v V) (fV : FitVIE 1000 V) (hver : ∀ r ∈ V.r, -9223372036854775808 ≤ r.2.1) (hnot : not.length ≤ 40000) :
  Calls Tryz.prog 69 #[v, .pointer (some ⟨g1, 0, none⟩), .pointer (some ⟨g2, 0, none⟩)] w fun e w' => ∃ X, e = .returned (.tuple #[X, .int .i64 (rowU V (p, q) not).2]) ∧ VAt w' X (rowU V (p, q) not).1 ∧ Below w.heap.size w w' := by
 obtain ⟨a, b, c, d, e, rfl, hr⟩ := h
 have G0 := hd_ (clG_start w hr hS rowS_kept)
 have LV := hd_ fV
 have LW := hd_ hver
 clear hr hS fV hver
 obtain ⟨p0, p1, p2, p3, p4⟩ := vbox_cells G0.out.x
 obtain ⟨b1, b2⟩ := box_cells G0.out.s.1
 have o1 := one_cell G0.out.s.2.1
 have hN0 := hd_ (show Ids _ vn not from G0.out.s.2.2)
 go_enter Tryz.func69, Tryz.ntmps69
 go_wp2_with fail
 (with_reducible refine (setRows_any _ _ V.r p q not _ G0.out.r.r hN0.out LV.out.r (fun r hr => Nat.le_trans (LV.out.n r hr) (by decide)) hnot LW.out).mono ?_)
 rintro e1 w3 ⟨Y, rfl, hy, hb⟩
 obtain ⟨⟨A1, n1, c1⟩, rfl⟩ := sl_rows hy
 dsimp only at hy
 have G1 := hd_ (G0.out.step rowS_kept hb)
 have HY := hd_ hy
 clear hy hb p0 p1 p2 p3 p4 b1 b2 o1 G0
 have HE : Hid (rowU V (p, q) not = (⟨V.m, V.f, (setE V.r (p, q) not).1, V.c, V.s⟩, (setE V.r (p, q) not).2)) := hd_ rfl
 generalize setE V.r (p, q) not = SE_ at *
 obtain ⟨cc, ee⟩ := SE_
 dsimp only at HE HY
 dsimp only
 have K1 := hd_ (kp_cell (k := 2) G1.out.x A1 n1 c1)
 have X1 := hd_ (vbox_rows G1.out.x A1 n1 c1)
 have Z2 := hd_ (vbox_apart G1.out.z (x := w.heap.size) (by omega) 2 (.slice A1 n1 c1))
 have B2 := hd_ (below_two_set G1.out.below (Nat.le_refl _) 2 (.slice A1 n1 c1))
 have R2 := hd_ (G1.out.r.kp K1.out)
 have Y2 := hd_ (RowsAt.kp HY.out K1.out)
 obtain ⟨p0, p1, p2, p3, p4⟩ := vbox_cells G1.out.x
 obtain ⟨f0, f1, f2, f3, f4⟩ := vbox_free G1.out.x
 obtain ⟨t0, t1, t2, t3, t4⟩ := vbox_cells X1.out
 dsimp only at t2
 obtain ⟨z0, z1, z2, z3, z4⟩ := vbox_cells Z2.out
 obtain ⟨k0, k1, k2, k3, k4⟩ := vbox_free Z2.out
 dsimp only at z0 z1 z2 z3 z4
 go_wp2_with fail
 have KK := hd_ (kp_set Z2.out [.slice a.1 a.2.1 a.2.2, .slice b.1 b.2.1 b.2.2, .slice A1 n1 c1, .slice d.1 d.2.1 d.2.2, .slice e.1 e.2.1 e.2.2])
 have HB := hd_ (below_setCells B2.out (show w.heap.size ≤ w.heap.size + 1 by omega) 0 [.slice a.1 a.2.1 a.2.2, .slice b.1 b.2.1 b.2.2, .slice A1 n1 c1, .slice d.1 d.2.1 d.2.2, .slice e.1 e.2.1 e.2.2])
 obtain ⟨c0, c1', c2, c3, c4⟩ := vbox_cells (vbox_set Z2.out a b (A1, n1, c1) d e)
 dsimp only at c2
 refine bodyPost_ret (v := .tuple #[.agg #[.slice a.1 a.2.1 a.2.2, .slice b.1 b.2.1 b.2.2, .slice A1 n1 c1, .slice d.1 d.2.1 d.2.2, .slice e.1 e.2.1 e.2.2], .int .i64 ee]) (by simp [results, Tryz.results69, go_sem, c0, c1', c2, c3, c4]) rfl ?_
 rw [HE.out]
 exact ⟨_, rfl, ⟨a, b, (A1, n1, c1), d, e, rfl, Ms.kp R2.out.m KK.out, Ids.kp R2.out.f KK.out, Y2.out.kp KK.out, ticks_kp R2.out.c KK.out, Ids.kp R2.out.s KK.out⟩, HB.out⟩
theorem asksR (V : Vw) (g1 g2 : Nat) (p q : Int) (vn : Value) (not : List Sets.Id2) (fV : FitVIE 1000 V) (hver : ∀ r ∈ V.r, -9223372036854775808 ≤ r.2.1) (hnot : not.length ≤ 40000) : AsksC 69 #[.pointer (some ⟨g1, 0, none⟩), .pointer (some ⟨g2, 0, none⟩)] V (rowU V (p, q) not).1 (rowU V (p, q) not).2 (RowS g1 g2 p q vn not) where
 enters := fun args W => enters_fn Tryz.func69 (by kernel_rfl) rfl args W
 kept := rowS_kept
 call v W hS h := rowC_any v vn V g1 g2 p q not W hS h fV hver hnot
theorem fit_join1 {V : Vw} (h : FitVIE 1000 V) (l : Ros.Ls) (r : List RowSets.Row) (hr : r.length ≤ 1000) (hn : ∀ x ∈ r, x.2.2.length ≤ 1000) : FitVIE 1000 ⟨(Ros.joinL (V.m, V.f) l).1, (Ros.joinL (V.m, V.f) l).2, r, V.c, V.s⟩ := ⟨Nat.le_trans (lenJ_m _ _) (by decide), Nat.le_trans (lenJ_f _ _) (by decide), hr, h.c, h.s, hn⟩
theorem fit_putU {V : Vw} (h : FitVIE 1000 V) (z : Sets.Id2) (m : Ros.Mm) : FitVIE 1000 (putU V z m).1 := by
 unfold putU
 split
 ·exact fit_join1 h _ _ h.r h.n
 ·exact h
set_option maxHeartbeats 8000000 in
theorem put_any (v : Value) (V : Vw) (p q : Int) (x i s n : Int) (w : World) (h : VAt w v V) (fV : FitVIE 1000 V)  :
  Calls Tryz.prog 15 #[v, .agg #[.int .i64 p, .int .i64 q], .agg #[.int .i64 x, .int .i64 i, .int .u8 s, .int .i64 n]] w fun e w' => ∃ X, e = .returned (.tuple #[X, .int .i64 (changedV V (putU V (p, q) ((x, i), s, n)).1 (putU V (p, q) ((x, i), s, n)).2 (p, q)).2]) ∧ VAt w' X (changedV V (putU V (p, q) ((x, i), s, n)).1 (putU V (p, q) ((x, i), s, n)).2 (p, q)).1 ∧ Below w.heap.size w w' := by
 obtain ⟨a, b, c, d, e, rfl, hr⟩ := h
 have q1 := below_one w (.cells #[.slice a.1 a.2.1 a.2.2, .slice b.1 b.2.1 b.2.2, .slice c.1 c.2.1 c.2.2, .slice d.1 d.2.1 d.2.2, .slice e.1 e.2.1 e.2.2] 27)
 have q2 := below_one (w.alloc (.cells #[.slice a.1 a.2.1 a.2.2, .slice b.1 b.2.1 b.2.2, .slice c.1 c.2.1 c.2.2, .slice d.1 d.2.1 d.2.2, .slice e.1 e.2.1 e.2.2] 27)) (.cells #[.int .i64 p, .int .i64 q] 29)
 have q3 := below_one ((w.alloc (.cells #[.slice a.1 a.2.1 a.2.2, .slice b.1 b.2.1 b.2.2, .slice c.1 c.2.1 c.2.2, .slice d.1 d.2.1 d.2.2, .slice e.1 e.2.1 e.2.2] 27)).alloc (.cells #[.int .i64 p, .int .i64 q] 29)) (.cells #[.int .i64 x, .int .i64 i, .int .u8 s, .int .i64 n] 31)
 have q4 := below_one (((w.alloc (.cells #[.slice a.1 a.2.1 a.2.2, .slice b.1 b.2.1 b.2.2, .slice c.1 c.2.1 c.2.2, .slice d.1 d.2.1 d.2.2, .slice e.1 e.2.1 e.2.2] 27)).alloc (.cells #[.int .i64 p, .int .i64 q] 29)).alloc (.cells #[.int .i64 x, .int .i64 i, .int .u8 s, .int .i64 n] 31)) (.cells #[.slice none 0 0, .slice none 0 0, .slice none 0 0, .slice none 0 0, .slice none 0 0] 27)
 have Q := below_after (below_after (ba_ q1 q2) q3 (Nat.le_refl _)) q4 (Nat.le_refl _)
 have X3 := hd_ (vbox_below (vbox_below (vbox_below (vbox_new w a b c d e) q2) q3) q4)
 have B4 : Hid (Box ((((w.alloc (.cells #[.slice a.1 a.2.1 a.2.2, .slice b.1 b.2.1 b.2.2, .slice c.1 c.2.1 c.2.2, .slice d.1 d.2.1 d.2.2, .slice e.1 e.2.1 e.2.2] 27)).alloc (.cells #[.int .i64 p, .int .i64 q] 29)).alloc (.cells #[.int .i64 x, .int .i64 i, .int .u8 s, .int .i64 n] 31)).alloc (.cells #[.slice none 0 0, .slice none 0 0, .slice none 0 0, .slice none 0 0, .slice none 0 0] 27)) (w.heap.size + 1) p q) := hd_ (by simpa using box_below (box_below (box_new (w.alloc (.cells #[.slice a.1 a.2.1 a.2.2, .slice b.1 b.2.1 b.2.2, .slice c.1 c.2.1 c.2.2, .slice d.1 d.2.1 d.2.2, .slice e.1 e.2.1 e.2.2] 27)) p q) q3) q4)
 have M5 : Hid (MBox ((((w.alloc (.cells #[.slice a.1 a.2.1 a.2.2, .slice b.1 b.2.1 b.2.2, .slice c.1 c.2.1 c.2.2, .slice d.1 d.2.1 d.2.2, .slice e.1 e.2.1 e.2.2] 27)).alloc (.cells #[.int .i64 p, .int .i64 q] 29)).alloc (.cells #[.int .i64 x, .int .i64 i, .int .u8 s, .int .i64 n] 31)).alloc (.cells #[.slice none 0 0, .slice none 0 0, .slice none 0 0, .slice none 0 0, .slice none 0 0] 27)) (w.heap.size + 1 + 1) x i s n) := hd_ (by simpa using mbox_below (mbox_new ((w.alloc (.cells #[.slice a.1 a.2.1 a.2.2, .slice b.1 b.2.1 b.2.2, .slice c.1 c.2.1 c.2.2, .slice d.1 d.2.1 d.2.2, .slice e.1 e.2.1 e.2.2] 27)).alloc (.cells #[.int .i64 p, .int .i64 q] 29)) x i s n) q4)
 have X6 : Hid (VBox ((((w.alloc (.cells #[.slice a.1 a.2.1 a.2.2, .slice b.1 b.2.1 b.2.2, .slice c.1 c.2.1 c.2.2, .slice d.1 d.2.1 d.2.2, .slice e.1 e.2.1 e.2.2] 27)).alloc (.cells #[.int .i64 p, .int .i64 q] 29)).alloc (.cells #[.int .i64 x, .int .i64 i, .int .u8 s, .int .i64 n] 31)).alloc (.cells #[.slice none 0 0, .slice none 0 0, .slice none 0 0, .slice none 0 0, .slice none 0 0] 27)) (w.heap.size + 1 + 1 + 1) (none, 0, 0) (none, 0, 0) (none, 0, 0) (none, 0, 0) (none, 0, 0)) := hd_ (by have h := vbox_new (((w.alloc (.cells #[.slice a.1 a.2.1 a.2.2, .slice b.1 b.2.1 b.2.2, .slice c.1 c.2.1 c.2.2, .slice d.1 d.2.1 d.2.2, .slice e.1 e.2.1 e.2.2] 27)).alloc (.cells #[.int .i64 p, .int .i64 q] 29)).alloc (.cells #[.int .i64 x, .int .i64 i, .int .u8 s, .int .i64 n] 31)) (none, 0, 0) (none, 0, 0) (none, 0, 0) (none, 0, 0) (none, 0, 0); simp only [World.size_alloc] at h; exact h)
 have XR := hd_ (hr.below Q)
 have XB := hd_ Q
 have LV := hd_ fV
 have LU := hd_ (fit_putU fV (p, q) ((x, i), s, n))
 have SS : Hid (PutS (w.heap.size + 1) (w.heap.size + 1 + 1) p q x i s n ((((w.alloc (.cells #[.slice a.1 a.2.1 a.2.2, .slice b.1 b.2.1 b.2.2, .slice c.1 c.2.1 c.2.2, .slice d.1 d.2.1 d.2.2, .slice e.1 e.2.1 e.2.2] 27)).alloc (.cells #[.int .i64 p, .int .i64 q] 29)).alloc (.cells #[.int .i64 x, .int .i64 i, .int .u8 s, .int .i64 n] 31)).alloc (.cells #[.slice none 0 0, .slice none 0 0, .slice none 0 0, .slice none 0 0, .slice none 0 0] 27))) := hd_ ⟨B4.out, M5.out⟩
 clear q1 q2 q3 q4 Q hr fV
 obtain ⟨p0, p1, p2, p3, p4⟩ := vbox_cells X3.out
 obtain ⟨b1, b2⟩ := box_cells B4.out
 have HA := hd_ (asksP V (w.heap.size + 1) (w.heap.size + 1 + 1) p q x i s n LV.out)
 go_enter Tryz.func15, Tryz.ntmps15
 go_wp2_with fail
 (with_reducible refine (changed_any HA.out _ p q _ SS.out XR.out.at_ LV.out LU.out).mono ?_)
 rintro e1 w9 ⟨X, rfl, hx, hb⟩
 rcases hC : changedV V (putU V (p, q) ((x, i), s, n)).1 (putU V (p, q) ((x, i), s, n)).2 (p, q) with ⟨T, ee⟩
 rw [hC] at hx
 have HE := hd_ hC
 clear hC
 dsimp only at hx
 have HG : Hid ((changedV V (putU V (p, q) ((x, i), s, n)).1 (putU V (p, q) ((x, i), s, n)).2 (p, q)).2 = ee) := hd_ (by rw [HE.out])
 generalize (changedV V (putU V (p, q) ((x, i), s, n)).1 (putU V (p, q) ((x, i), s, n)).2 (p, q)).2 = e2 at HG ⊢
 obtain rfl := HG.out
 obtain ⟨t0, t1, t2, t3, t4, rfl, hr9⟩ := hx
 have J6 := hd_ (vbox_below X6.out hb)
 have JB := hd_ (ba_ XB.out hb)
 have JR := hd_ hr9
 clear hb hr9 p0 p1 p2 p3 p4 b1 b2
 obtain ⟨z0, z1, z2, z3, z4⟩ := vbox_cells J6.out
 obtain ⟨f0, f1, f2, f3, f4⟩ := vbox_free J6.out
 dsimp only at z0 z1 z2 z3 z4
 go_wp2_with fail
 have HV := hd_ (JR.out.kp (kp_set J6.out [.slice t0.1 t0.2.1 t0.2.2, .slice t1.1 t1.2.1 t1.2.2, .slice t2.1 t2.2.1 t2.2.2, .slice t3.1 t3.2.1 t3.2.2, .slice t4.1 t4.2.1 t4.2.2]))
 have HB := hd_ (below_setCells JB.out (show w.heap.size ≤ w.heap.size + 1 + 1 + 1 by omega) 0 [.slice t0.1 t0.2.1 t0.2.2, .slice t1.1 t1.2.1 t1.2.2, .slice t2.1 t2.2.1 t2.2.2, .slice t3.1 t3.2.1 t3.2.2, .slice t4.1 t4.2.1 t4.2.2])
 obtain ⟨c0, c1, c2, c3, c4⟩ := vbox_cells (vbox_set J6.out t0 t1 t2 t3 t4)
 refine bodyPost_ret (v := .tuple #[.agg #[.slice t0.1 t0.2.1 t0.2.2, .slice t1.1 t1.2.1 t1.2.2, .slice t2.1 t2.2.1 t2.2.2, .slice t3.1 t3.2.1 t3.2.2, .slice t4.1 t4.2.1 t4.2.2], .int .i64 e2]) (by simp [results, Tryz.results15, go_sem, c0, c1, c2, c3, c4]) rfl ?_
 rw [HE.out]
 exact ⟨_, rfl, ⟨t0, t1, t2, t3, t4, rfl, HV.out⟩, HB.out⟩
set_option maxHeartbeats 8000000 in
theorem row_any (v : Value) (V : Vw) (p q : Int) (vs : SL) (not : List Sets.Id2) (w : World) (h : VAt w v V) (fV : FitVIE 1000 V) (hN : Ids w (.slice vs.1 vs.2.1 vs.2.2) not) (hver : ∀ r ∈ V.r, -9223372036854775808 ≤ r.2.1) (hnot : not.length ≤ 40000) (fU : FitVIE 1000 (rowU V (p, q) not).1) :
  Calls Tryz.prog 17 #[v, .agg #[.int .i64 p, .int .i64 q], .slice vs.1 vs.2.1 vs.2.2] w fun e w' => ∃ X, e = .returned (.tuple #[X, .int .i64 (changedV V (rowU V (p, q) not).1 (rowU V (p, q) not).2 (p, q)).2]) ∧ VAt w' X (changedV V (rowU V (p, q) not).1 (rowU V (p, q) not).2 (p, q)).1 ∧ Below w.heap.size w w' := by
 obtain ⟨a, b, c, d, e, rfl, hr⟩ := h
 have q1 := below_one w (.cells #[.slice a.1 a.2.1 a.2.2, .slice b.1 b.2.1 b.2.2, .slice c.1 c.2.1 c.2.2, .slice d.1 d.2.1 d.2.2, .slice e.1 e.2.1 e.2.2] 27)
 have q2 := below_one (w.alloc (.cells #[.slice a.1 a.2.1 a.2.2, .slice b.1 b.2.1 b.2.2, .slice c.1 c.2.1 c.2.2, .slice d.1 d.2.1 d.2.2, .slice e.1 e.2.1 e.2.2] 27)) (.cells #[.int .i64 p, .int .i64 q] 29)
 have q3 := below_one ((w.alloc (.cells #[.slice a.1 a.2.1 a.2.2, .slice b.1 b.2.1 b.2.2, .slice c.1 c.2.1 c.2.2, .slice d.1 d.2.1 d.2.2, .slice e.1 e.2.1 e.2.2] 27)).alloc (.cells #[.int .i64 p, .int .i64 q] 29)) (.cells #[.slice vs.1 vs.2.1 vs.2.2] 23)
 have q4 := below_one (((w.alloc (.cells #[.slice a.1 a.2.1 a.2.2, .slice b.1 b.2.1 b.2.2, .slice c.1 c.2.1 c.2.2, .slice d.1 d.2.1 d.2.2, .slice e.1 e.2.1 e.2.2] 27)).alloc (.cells #[.int .i64 p, .int .i64 q] 29)).alloc (.cells #[.slice vs.1 vs.2.1 vs.2.2] 23)) (.cells #[.slice none 0 0, .slice none 0 0, .slice none 0 0, .slice none 0 0, .slice none 0 0] 27)
 have Q := below_after (below_after (ba_ q1 q2) q3 (Nat.le_refl _)) q4 (Nat.le_refl _)
 have X3 := hd_ (vbox_below (vbox_below (vbox_below (vbox_new w a b c d e) q2) q3) q4)
 have B4 : Hid (Box ((((w.alloc (.cells #[.slice a.1 a.2.1 a.2.2, .slice b.1 b.2.1 b.2.2, .slice c.1 c.2.1 c.2.2, .slice d.1 d.2.1 d.2.2, .slice e.1 e.2.1 e.2.2] 27)).alloc (.cells #[.int .i64 p, .int .i64 q] 29)).alloc (.cells #[.slice vs.1 vs.2.1 vs.2.2] 23)).alloc (.cells #[.slice none 0 0, .slice none 0 0, .slice none 0 0, .slice none 0 0, .slice none 0 0] 27)) (w.heap.size + 1) p q) := hd_ (by simpa using box_below (box_below (box_new (w.alloc (.cells #[.slice a.1 a.2.1 a.2.2, .slice b.1 b.2.1 b.2.2, .slice c.1 c.2.1 c.2.2, .slice d.1 d.2.1 d.2.2, .slice e.1 e.2.1 e.2.2] 27)) p q) q3) q4)
 have M5 : Hid (One ((((w.alloc (.cells #[.slice a.1 a.2.1 a.2.2, .slice b.1 b.2.1 b.2.2, .slice c.1 c.2.1 c.2.2, .slice d.1 d.2.1 d.2.2, .slice e.1 e.2.1 e.2.2] 27)).alloc (.cells #[.int .i64 p, .int .i64 q] 29)).alloc (.cells #[.slice vs.1 vs.2.1 vs.2.2] 23)).alloc (.cells #[.slice none 0 0, .slice none 0 0, .slice none 0 0, .slice none 0 0, .slice none 0 0] 27)) (w.heap.size + 1 + 1) 23 (.slice vs.1 vs.2.1 vs.2.2)) := hd_ (by simpa using one_below (one_new ((w.alloc (.cells #[.slice a.1 a.2.1 a.2.2, .slice b.1 b.2.1 b.2.2, .slice c.1 c.2.1 c.2.2, .slice d.1 d.2.1 d.2.2, .slice e.1 e.2.1 e.2.2] 27)).alloc (.cells #[.int .i64 p, .int .i64 q] 29)) 23 (.slice vs.1 vs.2.1 vs.2.2)) q4)
 have X6 : Hid (VBox ((((w.alloc (.cells #[.slice a.1 a.2.1 a.2.2, .slice b.1 b.2.1 b.2.2, .slice c.1 c.2.1 c.2.2, .slice d.1 d.2.1 d.2.2, .slice e.1 e.2.1 e.2.2] 27)).alloc (.cells #[.int .i64 p, .int .i64 q] 29)).alloc (.cells #[.slice vs.1 vs.2.1 vs.2.2] 23)).alloc (.cells #[.slice none 0 0, .slice none 0 0, .slice none 0 0, .slice none 0 0, .slice none 0 0] 27)) (w.heap.size + 1 + 1 + 1) (none, 0, 0) (none, 0, 0) (none, 0, 0) (none, 0, 0) (none, 0, 0)) := hd_ (by have h := vbox_new (((w.alloc (.cells #[.slice a.1 a.2.1 a.2.2, .slice b.1 b.2.1 b.2.2, .slice c.1 c.2.1 c.2.2, .slice d.1 d.2.1 d.2.2, .slice e.1 e.2.1 e.2.2] 27)).alloc (.cells #[.int .i64 p, .int .i64 q] 29)).alloc (.cells #[.slice vs.1 vs.2.1 vs.2.2] 23)) (none, 0, 0) (none, 0, 0) (none, 0, 0) (none, 0, 0) (none, 0, 0); simp only [World.size_alloc] at h; exact h)
 have XR := hd_ (hr.below Q)
 have XB := hd_ Q
 have LV := hd_ fV
 have LU := hd_ fU
 have LW := hd_ hver
 have SS : Hid (RowS (w.heap.size + 1) (w.heap.size + 1 + 1) p q (.slice vs.1 vs.2.1 vs.2.2) not ((((w.alloc (.cells #[.slice a.1 a.2.1 a.2.2, .slice b.1 b.2.1 b.2.2, .slice c.1 c.2.1 c.2.2, .slice d.1 d.2.1 d.2.2, .slice e.1 e.2.1 e.2.2] 27)).alloc (.cells #[.int .i64 p, .int .i64 q] 29)).alloc (.cells #[.slice vs.1 vs.2.1 vs.2.2] 23)).alloc (.cells #[.slice none 0 0, .slice none 0 0, .slice none 0 0, .slice none 0 0, .slice none 0 0] 27))) := hd_ ⟨B4.out, M5.out, hN.below Q⟩
 clear hN hver fU
 clear q1 q2 q3 q4 Q hr fV
 obtain ⟨p0, p1, p2, p3, p4⟩ := vbox_cells X3.out
 obtain ⟨b1, b2⟩ := box_cells B4.out
 have HA := hd_ (asksR V (w.heap.size + 1) (w.heap.size + 1 + 1) p q (.slice vs.1 vs.2.1 vs.2.2) not LV.out LW.out hnot)
 go_enter Tryz.func17, Tryz.ntmps17
 go_wp2_with fail
 (with_reducible refine (changed_any HA.out _ p q _ SS.out XR.out.at_ LV.out LU.out).mono ?_)
 rintro e1 w9 ⟨X, rfl, hx, hb⟩
 rcases hC : changedV V (rowU V (p, q) not).1 (rowU V (p, q) not).2 (p, q) with ⟨T, ee⟩
 rw [hC] at hx
 have HE := hd_ hC
 clear hC
 dsimp only at hx
 have HG : Hid ((changedV V (rowU V (p, q) not).1 (rowU V (p, q) not).2 (p, q)).2 = ee) := hd_ (by rw [HE.out])
 generalize (changedV V (rowU V (p, q) not).1 (rowU V (p, q) not).2 (p, q)).2 = e2 at HG ⊢
 obtain rfl := HG.out
 obtain ⟨t0, t1, t2, t3, t4, rfl, hr9⟩ := hx
 have J6 := hd_ (vbox_below X6.out hb)
 have JB := hd_ (ba_ XB.out hb)
 have JR := hd_ hr9
 clear hb hr9 p0 p1 p2 p3 p4 b1 b2
 obtain ⟨z0, z1, z2, z3, z4⟩ := vbox_cells J6.out
 obtain ⟨f0, f1, f2, f3, f4⟩ := vbox_free J6.out
 dsimp only at z0 z1 z2 z3 z4
 go_wp2_with fail
 have HV := hd_ (JR.out.kp (kp_set J6.out [.slice t0.1 t0.2.1 t0.2.2, .slice t1.1 t1.2.1 t1.2.2, .slice t2.1 t2.2.1 t2.2.2, .slice t3.1 t3.2.1 t3.2.2, .slice t4.1 t4.2.1 t4.2.2]))
 have HB := hd_ (below_setCells JB.out (show w.heap.size ≤ w.heap.size + 1 + 1 + 1 by omega) 0 [.slice t0.1 t0.2.1 t0.2.2, .slice t1.1 t1.2.1 t1.2.2, .slice t2.1 t2.2.1 t2.2.2, .slice t3.1 t3.2.1 t3.2.2, .slice t4.1 t4.2.1 t4.2.2])
 obtain ⟨c0, c1, c2, c3, c4⟩ := vbox_cells (vbox_set J6.out t0 t1 t2 t3 t4)
 refine bodyPost_ret (v := .tuple #[.agg #[.slice t0.1 t0.2.1 t0.2.2, .slice t1.1 t1.2.1 t1.2.2, .slice t2.1 t2.2.1 t2.2.2, .slice t3.1 t3.2.1 t3.2.2, .slice t4.1 t4.2.1 t4.2.2], .int .i64 e2]) (by simp [results, Tryz.results17, go_sem, c0, c1, c2, c3, c4]) rfl ?_
 rw [HE.out]
 exact ⟨_, rfl, ⟨t0, t1, t2, t3, t4, rfl, HV.out⟩, HB.out⟩
end
end Go.Proofs.YthkkipbmlafdiaaGreat
