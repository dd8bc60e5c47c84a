/-
  Carried over and put together: contracts of this program's functions, and plain facts. No statement is proved in this text.
-/
import Derived.Test.YtgphiggbajbmhaaGreatDoorE00
import Derived.Test.YtgphiggbajbmhaaGreatDoorE02
import Derived.Test.YtgphiggbajbmhaaGreatDoorE06
import Derived.Test.YtgphiggbajbmhaaGreatDoorE09
import Derived.Test.YtgphiggbajbmhaaGreatDoorE26
import Derived.Test.YtgphiggbajbmhaaGreatDoorE27
set_option maxRecDepth 20000
namespace Go.Proofs.YtgphiggbajbmhaaGreatDoor
open Go Go.RowKit
def putR (V : Vw) (z : Sets.Id2) (x : Ros.Mm) : Vw × Int := changedV V (putU V z x).1 (putU V z x).2 z
def doesV (B : Vw) (z : Sets.Id2) : List Ros.Mm → Vw → Vw × Int
 | [], V => (V, 0)
 | x :: l, V => if (putR V z x).2 = 0 then doesV B z l (putR V z x).1 else (B, (putR V z x).2)
theorem fit_putR {n : Nat} {V : Vw} (h : FitVIE n V) (hn : 100 ≤ n) (z : Sets.Id2) (x : Ros.Mm) : FitVIE (n + 1) (putR V z x).1 := by
 have hU : FitVIE n (putU V z x).1 := by
  unfold putU
  split
  ·exact ⟨Nat.le_trans (lenJ_m _ _) hn, Nat.le_trans (lenJ_f _ _) hn, h.r, h.c, h.s, h.n⟩
  ·exact h
 unfold putR changedV
 split
 ·exact h.mono (by omega)
 ·split
  ·exact h.mono (by omega)
  ·split
   ·exact h.mono (by omega)
   ·refine ⟨Nat.le_trans hU.m (by omega), Nat.le_trans hU.f (by omega), Nat.le_trans (gone_len _ _) (Nat.le_trans hU.r (by omega)), ?_, by simp, fun r hr => Nat.le_trans (gone_nots_len hU.n r hr) (by omega)⟩
    unfold upR
    split
    ·split
     ·simp
     ·exact Nat.le_trans (Clocks.up_len _ _) (by have := h.c; omega)
    ·simp
theorem vbox_grown {w w' : World} {g r : Nat} {a b c d e : SL} (h : VBox w g a b c d e) (hb : w.grownBy w' (some r)) (hg : g ≠ r) : VBox w' g a b c d e := (hb.block g (vbox_lt h) (by simpa using fun e => hg e)).trans h
theorem box_grownE {w w' : World} {g r : Nat} {a i : Int} (h : Box w g a i) (hb : w.grownBy w' (some r)) (hg : g ≠ r) : Box w' g a i := (hb.block g (box_lt h) (by simpa using fun e => hg e)).trans h
structure DsI (w : World) (s g : Nat) (p q : Int) (a b c d e : SL) (B : Vw) (vl : Value) (l : List Ros.Mm) (W : World) (V : Vw) : Prop where
 idb : Box W s p q
 vb : VBox W (s + 1) a b c d e
 rb : VBox W (s + 2) (none, 0, 0) (none, 0, 0) (none, 0, 0) (none, 0, 0) (none, 0, 0)
 now : HoldsV W g V
 rv : RV W a b c d e B
 ms : Ms W vl l
 far : s + 2 < g
 below : Below s w W
variable {w W W' : World} {s g : Nat} {p q : Int} {a b c d e : SL} {B V : Vw} {vl : Value} {l : List Ros.Mm}
theorem DsI.on (h : DsI w s g p q a b c d e B vl l W V) (hb : Below W.heap.size W W') : DsI w s g p q a b c d e B vl l W' V :=
 ⟨box_below h.idb hb, vbox_below h.vb hb, vbox_below h.rb hb, h.now.below hb, h.rv.below hb, h.ms.below hb, h.far, h.below.trans (hb.mono (by have := box_lt h.idb; omega))⟩
theorem DsI.set (h : DsI w s g p q a b c d e B vl l W V) {x0 x1 x2 x3 x4 : SL} {Z : Vw} (hr : RV W x0 x1 x2 x3 x4 Z) :
  DsI w s g p q a b c d e B vl l (W.setCells g 0 [.slice x0.1 x0.2.1 x0.2.2, .slice x1.1 x1.2.1 x1.2.2, .slice x2.1 x2.2.1 x2.2.2, .slice x3.1 x3.2.1 x3.2.2, .slice x4.1 x4.2.1 x4.2.2]) Z := by
 obtain ⟨y0, y1, y2, y3, y4, hy, -⟩ := h.now
 have hk : Kp W (W.setCells g 0 [.slice x0.1 x0.2.1 x0.2.2, .slice x1.1 x1.2.1 x1.2.2, .slice x2.1 x2.2.1 x2.2.2, .slice x3.1 x3.2.1 x3.2.2, .slice x4.1 x4.2.1 x4.2.2]) := kp_set hy _
 have hg : W.grownBy (W.setCells g 0 [.slice x0.1 x0.2.1 x0.2.2, .slice x1.1 x1.2.1 x1.2.2, .slice x2.1 x2.2.1 x2.2.2, .slice x3.1 x3.2.1 x3.2.2, .slice x4.1 x4.2.1 x4.2.2]) (some g) := grown_setCells (World.grownBy.refl _ _) 0 _
 have hs := h.far
 exact ⟨box_grownE h.idb hg (by omega), vbox_grown h.vb hg (by omega), vbox_grown h.rb hg (by omega), ⟨x0, x1, x2, x3, x4, vbox_set hy x0 x1 x2 x3 x4, hr.kp hk⟩, h.rv.kp hk, Ms.kp h.ms hk, h.far, below_setCells h.below (by omega) 0 _⟩
theorem does_at (B : Vw) (z : Sets.Id2) {l : List Ros.Mm} {k : Nat} (hk : k < l.length) (V : Vw) : doesV B z (l.drop k) V = if (putR V z l[k]).2 = 0 then doesV B z (l.drop (k + 1)) (putR V z l[k]).1 else (B, (putR V z l[k]).2) := by
 rw [List.drop_eq_getElem_cons hk]
 rfl
set_option maxHeartbeats 16000000 in
theorem does_any (p q : Int) (a b c d e : SL) (vl : Value) (l : List Ros.Mm) (B : Vw) (w : World) (hr : RV w a b c d e B) (hm : Ms w vl l) (hl : l.length ≤ 800) (fB : FitVIE 100 B) :
  Calls Tryz.prog 4 #[.agg #[.int .i64 p, .int .i64 q], .agg #[.slice a.1 a.2.1 a.2.2, .slice b.1 b.2.1 b.2.2, .slice c.1 c.2.1 c.2.2, .slice d.1 d.2.1 d.2.2, .slice e.1 e.2.1 e.2.2], vl] w fun e w' => ∃ X, e = .returned (.tuple #[X, .int .i64 (doesV B (p, q) l B).2]) ∧ VAt w' X (doesV B (p, q) l B).1 ∧ Below w.heap.size w w' := by
 obtain ⟨T, n, hT⟩ : ∃ T n, doesV B (p, q) l B = (T, n) := ⟨_, _, rfl⟩
 have HT := Lib.hid hT
 rw [hT]
 obtain ⟨A, cp, rfl, hz⟩ := id hm
 clear hz hT
 have q1 := below_one w (.cells #[.int .i64 p, .int .i64 q] 32)
 have q2 := below_one (w.alloc (.cells #[.int .i64 p, .int .i64 q] 32)) (.cells #[.slice a.1 a.2.1 a.2.2, .slice b.1 b.2.1 b.2.2, .slice c.1 c.2.1 c.2.2, .slice d.1 d.2.1 d.2.2, .slice e.1 e.2.1 e.2.2] 27)
 have q3 := below_one ((w.alloc (.cells #[.int .i64 p, .int .i64 q] 32)).alloc (.cells #[.slice a.1 a.2.1 a.2.2, .slice b.1 b.2.1 b.2.2, .slice c.1 c.2.1 c.2.2, .slice d.1 d.2.1 d.2.2, .slice e.1 e.2.1 e.2.2] 27)) (.cells #[.slice none 0 0, .slice none 0 0, .slice none 0 0, .slice none 0 0, .slice none 0 0] 27)
 have QQ := below_after (below_after q1 q2 (Nat.le_refl _)) q3 (Nat.le_refl _)
 have b1 : Box (((w.alloc (.cells #[.int .i64 p, .int .i64 q] 32)).alloc (.cells #[.slice a.1 a.2.1 a.2.2, .slice b.1 b.2.1 b.2.2, .slice c.1 c.2.1 c.2.2, .slice d.1 d.2.1 d.2.2, .slice e.1 e.2.1 e.2.2] 27)).alloc (.cells #[.slice none 0 0, .slice none 0 0, .slice none 0 0, .slice none 0 0, .slice none 0 0] 27)) w.heap.size p q := box_below (box_below (box_new w p q) q2) q3
 have b2 : VBox (((w.alloc (.cells #[.int .i64 p, .int .i64 q] 32)).alloc (.cells #[.slice a.1 a.2.1 a.2.2, .slice b.1 b.2.1 b.2.2, .slice c.1 c.2.1 c.2.2, .slice d.1 d.2.1 d.2.2, .slice e.1 e.2.1 e.2.2] 27)).alloc (.cells #[.slice none 0 0, .slice none 0 0, .slice none 0 0, .slice none 0 0, .slice none 0 0] 27)) (w.heap.size + 1) a b c d e := by have h := vbox_below (vbox_new (w.alloc (.cells #[.int .i64 p, .int .i64 q] 32)) a b c d e) q3; simp only [World.size_alloc] at h; exact h
 have b3 : VBox (((w.alloc (.cells #[.int .i64 p, .int .i64 q] 32)).alloc (.cells #[.slice a.1 a.2.1 a.2.2, .slice b.1 b.2.1 b.2.2, .slice c.1 c.2.1 c.2.2, .slice d.1 d.2.1 d.2.2, .slice e.1 e.2.1 e.2.2] 27)).alloc (.cells #[.slice none 0 0, .slice none 0 0, .slice none 0 0, .slice none 0 0, .slice none 0 0] 27)) (w.heap.size + 2) (none, 0, 0) (none, 0, 0) (none, 0, 0) (none, 0, 0) (none, 0, 0) := by have h := vbox_new ((w.alloc (.cells #[.int .i64 p, .int .i64 q] 32)).alloc (.cells #[.slice a.1 a.2.1 a.2.2, .slice b.1 b.2.1 b.2.2, .slice c.1 c.2.1 c.2.2, .slice d.1 d.2.1 d.2.2, .slice e.1 e.2.1 e.2.2] 27)) (none, 0, 0) (none, 0, 0) (none, 0, 0) (none, 0, 0) (none, 0, 0); simp only [World.size_alloc] at h; exact h
 have R0 := Lib.hid (hr.below QQ)
 have M0 := Lib.hid (hm.below QQ)
 have Q0 := Lib.hid QQ
 have I1 := Lib.hid b1
 have I2 := Lib.hid b2
 have I3 := Lib.hid b3
 have LB := Lib.hid fB
 have FB := Lib.hid (fB.mono (show 100 ≤ 1000 by decide))
 have hsz : (((w.alloc (.cells #[.int .i64 p, .int .i64 q] 32)).alloc (.cells #[.slice a.1 a.2.1 a.2.2, .slice b.1 b.2.1 b.2.2, .slice c.1 c.2.1 c.2.2, .slice d.1 d.2.1 d.2.2, .slice e.1 e.2.1 e.2.2] 27)).alloc (.cells #[.slice none 0 0, .slice none 0 0, .slice none 0 0, .slice none 0 0, .slice none 0 0] 27)).heap.size = w.heap.size + 3 := by simp
 have HSZ := Lib.hid hsz
 have HC := Lib.hid (copyV_any _ B _ R0.out.at_ FB.out)
 obtain ⟨p0, p1, p2, p3, p4⟩ := vbox_cells I2.out
 clear q1 q2 q3 QQ b1 b2 b3 hr hm fB hsz
 go_enter Tryz.func4, Tryz.ntmps4
 go_wp2_with fail
 (with_reducible refine HC.out.mono ?_)
 rintro e1 w1 ⟨X, rfl, ⟨x0, x1, x2, x3, x4, rfl, hx⟩, hb⟩
 have hs1 : w.heap.size + 3 ≤ w1.heap.size := Nat.le_trans (Nat.le_of_eq HSZ.out.symm) hb.size
 have hb2 := below_one w1 (.cells #[.slice x0.1 x0.2.1 x0.2.2, .slice x1.1 x1.2.1 x1.2.2, .slice x2.1 x2.2.1 x2.2.2, .slice x3.1 x3.2.1 x3.2.2, .slice x4.1 x4.2.1 x4.2.2] 27)
 have D0 : Hid (DsI w w.heap.size w1.heap.size p q a b c d e B (.slice A l.length cp) l (w1.alloc (.cells #[.slice x0.1 x0.2.1 x0.2.2, .slice x1.1 x1.2.1 x1.2.2, .slice x2.1 x2.2.1 x2.2.2, .slice x3.1 x3.2.1 x3.2.2, .slice x4.1 x4.2.1 x4.2.2] 27)) B) := Lib.hid ⟨box_below (box_below I1.out hb) hb2, vbox_below (vbox_below I2.out hb) hb2, vbox_below (vbox_below I3.out hb) hb2, ⟨x0, x1, x2, x3, x4, vbox_new w1 x0 x1 x2 x3 x4, hx.below hb2⟩, (R0.out.below hb).below hb2, (M0.out.below hb).below hb2, by omega, below_after (below_after Q0.out hb (Nat.le_refl _)) hb2 (Nat.le_refl _)⟩
 clear hb hb2 hx p0 p1 p2 p3 p4 HC R0 M0 Q0 I1 I2 I3 HSZ
 go_wp2_with fail
 go_loopw [16] (fun s16 wr => ∃ (k : Nat) (V : Vw), s16 = .int .i64 k ∧ k ≤ l.length ∧ Hid (DsI w w.heap.size w1.heap.size p q a b c d e B (.slice A l.length cp) l wr V) ∧ Hid (doesV B (p, q) (l.drop k) V = (T, n)) ∧ Hid (FitVIE (100 + k) V)) (fun s16 _ => l.length - (intOf s16).toNat)
 case atStart => exact ⟨0, B, rfl, by omega, D0, HT, LB⟩
 case round =>
  obtain ⟨k, V, rfl, hkl, HD, HV, HF⟩ := hrel
  have i3 : (0 : Int) ≤ (k : Int) := by omega
  by_cases hlt : k < l.length
  ·have hd : decide ((k : Int) < (l.length : Int)) = true := by simp; omega
   have i4 : (k : Int) < (l.length : Int) := by omega
   obtain ⟨ad, rfl, c1, c2, c3, c4⟩ := Ms.at_ HD.out.ms (Below.refl _ _) hlt
   have hstep := HV.out
   rw [does_at B (p, q) hlt V] at hstep
   have HS := Lib.hid hstep
   have HM : Hid (l[k] = ((l[k].1.1, l[k].1.2), l[k].2.1, l[k].2.2)) := Lib.hid rfl
   have F1 := Lib.hid (fit_putR HF.out (by omega) (p, q) l[k])
   rw [HM.out] at HS F1
   clear hstep HM HV
   generalize l[k].1.1 = x at *
   generalize l[k].1.2 = i at *
   generalize l[k].2.1 = st at *
   generalize l[k].2.2 = no at *
   go_upto_region 6 with fail
   have hbm := below_one wr (.cells #[.int .i64 x, .int .i64 i, .int .u8 st, .int .i64 no] 34)
   have MX := Lib.hid (mbox_new wr x i st no)
   have HD2 := Lib.hid (HD.out.on hbm)
   have hmlt : wr.heap.size < (wr.alloc (.cells #[.int .i64 x, .int .i64 i, .int .u8 st, .int .i64 no] 34)).heap.size := mbox_lt MX.out
   clear hbm c1 c2 c3 c4 HD
   generalize wr.alloc (.cells #[.int .i64 x, .int .i64 i, .int .u8 st, .int .i64 no] 34) = wm at *
   generalize wr.heap.size = gm at *
   obtain ⟨y0, y1, y2, y3, y4, hy, hry⟩ := HD2.out.now
   have HY := Lib.hid hy
   obtain ⟨c1, c2⟩ := box_cells HD2.out.idb
   obtain ⟨d1, d2, d3, d4⟩ := mbox_cells MX.out
   obtain ⟨p0, p1, p2, p3, p4⟩ := vbox_cells hy
   have HP := Lib.hid (put_any _ V p q x i st no wm hry.at_ (HF.out.mono (by omega)))
   rw [show changedV V (putU V (p, q) ((x, i), st, no)).1 (putU V (p, q) ((x, i), st, no)).2 (p, q) = putR V (p, q) ((x, i), st, no) from rfl] at HP
   clear hy hry hmlt
   generalize putR V (p, q) ((x, i), st, no) = U at *
   obtain ⟨U, en⟩ := U
   dsimp only at HP HS F1
   go_wp2_with fail
   (with_reducible refine HP.out.mono ?_)
   rintro e2 w3 ⟨X, rfl, ⟨z0, z1, z2, z3, z4, rfl, hz⟩, hb⟩
   have HD3 := Lib.hid (HD2.out.on hb)
   have HY3 := Lib.hid (vbox_below HY.out hb)
   have HZ := Lib.hid hz
   obtain ⟨f0, f1, f2, f3, f4⟩ := vbox_free HY3.out
   clear hb hz p0 p1 p2 p3 p4 c1 c2 d1 d2 d3 d4 HD2 HY HP
   obtain ⟨p0, p1, p2, p3, p4⟩ := vbox_cells HY3.out
   go_upto_region 7 with fail
   have HD4 : Hid (DsI w w.heap.size w1.heap.size p q a b c d e B (.slice (some ad) l.length cp) l (((((w3.setCell ⟨w1.heap.size, 0, none⟩ (.slice z0.1 z0.2.1 z0.2.2)).setCell ⟨w1.heap.size, 1, none⟩ (.slice z1.1 z1.2.1 z1.2.2)).setCell ⟨w1.heap.size, 2, none⟩ (.slice z2.1 z2.2.1 z2.2.2)).setCell ⟨w1.heap.size, 3, none⟩ (.slice z3.1 z3.2.1 z3.2.2)).setCell ⟨w1.heap.size, 4, none⟩ (.slice z4.1 z4.2.1 z4.2.2)) U) := Lib.hid (HD3.out.set HZ.out)
   clear p0 p1 p2 p3 p4 f0 f1 f2 f3 f4 HY3 HD3 HZ
   generalize (((((w3.setCell ⟨w1.heap.size, 0, none⟩ (.slice z0.1 z0.2.1 z0.2.2)).setCell ⟨w1.heap.size, 1, none⟩ (.slice z1.1 z1.2.1 z1.2.2)).setCell ⟨w1.heap.size, 2, none⟩ (.slice z2.1 z2.2.1 z2.2.2)).setCell ⟨w1.heap.size, 3, none⟩ (.slice z3.1 z3.2.1 z3.2.2)).setCell ⟨w1.heap.size, 4, none⟩ (.slice z4.1 z4.2.1 z4.2.2)) = w4 at *
   by_cases he : en = 0
   ·subst he
    have HV2 : Hid (doesV B (p, q) (l.drop (k + 1)) U = (T, n)) := Lib.hid (by simpa using HS.out)
    go_wp2_with fail
    go_roundw
    case rel => exact ⟨k + 1, U, by go_num, by omega, HD4, HV2, F1⟩
    case measure => simp [intOf]; omega
   ·have hne : (en != 0) = true := by simpa using he
    have HV2 := HS.out
    rw [if_neg he] at HV2
    obtain ⟨rfl, rfl⟩ := Prod.mk.inj HV2
    have HC := Lib.hid (copyV_any _ B w4 HD4.out.rv.at_ FB.out)
    obtain ⟨p0, p1, p2, p3, p4⟩ := vbox_cells HD4.out.vb
    clear HS HV2
    go_wp2_with fail
    (with_reducible refine HC.out.mono ?_)
    rintro e4 w5 ⟨X, rfl, ⟨y0, y1, y2, y3, y4, rfl, hy⟩, hb⟩
    have HD5 := Lib.hid (HD4.out.on hb)
    have HY := Lib.hid hy
    clear hb hy p0 p1 p2 p3 p4
    obtain ⟨p0, p1, p2, p3, p4⟩ := vbox_cells HD5.out.rb
    obtain ⟨f0, f1, f2, f3, f4⟩ := vbox_free HD5.out.rb
    dsimp only at p0 p1 p2 p3 p4
    go_wp2_with fail
    have HV := Lib.hid (HY.out.kp (kp_set HD5.out.rb [.slice y0.1 y0.2.1 y0.2.2, .slice y1.1 y1.2.1 y1.2.2, .slice y2.1 y2.2.1 y2.2.2, .slice y3.1 y3.2.1 y3.2.2, .slice y4.1 y4.2.1 y4.2.2]))
    have HB := Lib.hid (below_setCells HD5.out.below (show w.heap.size ≤ w.heap.size + 2 by omega) 0 [.slice y0.1 y0.2.1 y0.2.2, .slice y1.1 y1.2.1 y1.2.2, .slice y2.1 y2.2.1 y2.2.2, .slice y3.1 y3.2.1 y3.2.2, .slice y4.1 y4.2.1 y4.2.2])
    obtain ⟨c0, c1, c2, c3, c4⟩ := vbox_cells (vbox_set HD5.out.rb y0 y1 y2 y3 y4)
    refine bodyPost_ret (v := .tuple #[.agg #[.slice y0.1 y0.2.1 y0.2.2, .slice y1.1 y1.2.1 y1.2.2, .slice y2.1 y2.2.1 y2.2.2, .slice y3.1 y3.2.1 y3.2.2, .slice y4.1 y4.2.1 y4.2.2], .int .i64 en]) (by simp [results, Tryz.results4, go_sem, c0, c1, c2, c3, c4]) rfl ?_
    exact ⟨_, rfl, ⟨y0, y1, y2, y3, y4, rfl, HV.out⟩, HB.out⟩
  ·have hd : decide ((k : Int) < (l.length : Int)) = false := by simp; omega
   have hv := HV.out
   rw [List.drop_eq_nil_of_le (by omega)] at hv
   obtain ⟨rfl, rfl⟩ := Prod.mk.inj hv
   obtain ⟨y0, y1, y2, y3, y4, hy, hry⟩ := HD.out.now
   have HY := Lib.hid hry
   obtain ⟨p0, p1, p2, p3, p4⟩ := vbox_cells hy
   obtain ⟨q0, q1, q2, q3, q4⟩ := vbox_cells HD.out.rb
   obtain ⟨f0, f1, f2, f3, f4⟩ := vbox_free HD.out.rb
   dsimp only at q0 q1 q2 q3 q4
   clear hv hy hry HV
   go_wp2_with fail
   have HW := Lib.hid (HY.out.kp (kp_set HD.out.rb [.slice y0.1 y0.2.1 y0.2.2, .slice y1.1 y1.2.1 y1.2.2, .slice y2.1 y2.2.1 y2.2.2, .slice y3.1 y3.2.1 y3.2.2, .slice y4.1 y4.2.1 y4.2.2]))
   have HB := Lib.hid (below_setCells HD.out.below (show w.heap.size ≤ w.heap.size + 2 by omega) 0 [.slice y0.1 y0.2.1 y0.2.2, .slice y1.1 y1.2.1 y1.2.2, .slice y2.1 y2.2.1 y2.2.2, .slice y3.1 y3.2.1 y3.2.2, .slice y4.1 y4.2.1 y4.2.2])
   obtain ⟨c0, c1, c2, c3, c4⟩ := vbox_cells (vbox_set HD.out.rb y0 y1 y2 y3 y4)
   refine bodyPost_ret (v := .tuple #[.agg #[.slice y0.1 y0.2.1 y0.2.2, .slice y1.1 y1.2.1 y1.2.2, .slice y2.1 y2.2.1 y2.2.2, .slice y3.1 y3.2.1 y3.2.2, .slice y4.1 y4.2.1 y4.2.2], .int .i64 0]) (by simp [results, Tryz.results4, go_sem, c0, c1, c2, c3, c4]) rfl ?_
   exact ⟨_, rfl, ⟨y0, y1, y2, y3, y4, rfl, HW.out⟩, HB.out⟩
end Go.Proofs.YtgphiggbajbmhaaGreatDoor
namespace Go.Proofs.YtgphiggbajbmhaaGreatDoor
open Go Go.RowKit
def putsB (B U : Vw) (z : Sets.Id2) (l : List Tn) : Bool := ((doesV B z (l.map (·.2)) B).2 == 0) && sameV (doesV B z (l.map (·.2)) B).1 U
theorem fit_doesV {B : Vw} (hB : FitVIE 100 B) (z : Sets.Id2) : ∀ (l : List Ros.Mm) (n : Nat) (V : Vw), 100 ≤ n → FitVIE n V → FitVIE (n + l.length) (doesV B z l V).1
 | [], _, _, _, h => h
 | x :: l, n, V, hn, h => by
  unfold doesV
  split
  ·exact (fit_doesV hB z l (n + 1) _ (by omega) (fit_putR h hn z x)).mono (by simp; omega)
  ·exact hB.mono (by omega)
structure PtI (w : World) (s : Nat) (p q : Int) (a b c d e a' b' c' d' e' : SL) (P : Option Addr) (t : SL) (B U : Vw) (vl : Value) (l : List Ros.Mm) (W : World) : Prop where
 cb : CBox W s p q a b c d e a' b' c' d' e' P t
 rv : RV W a b c d e B
 ru : RV W a' b' c' d' e' U
 ms : Ms W vl l
 below : Below s w W
theorem PtI.on {w W W' : World} {s : Nat} {p q : Int} {a b c d e a' b' c' d' e' : SL} {P : Option Addr} {t : SL} {B U : Vw} {vl : Value} {l : List Ros.Mm} (h : PtI w s p q a b c d e a' b' c' d' e' P t B U vl l W) (hb : Below W.heap.size W W') : PtI w s p q a b c d e a' b' c' d' e' P t B U vl l W' :=
 ⟨cbox_below h.cb hb, h.rv.below hb, h.ru.below hb, h.ms.below hb, h.below.trans (hb.mono (Nat.le_of_lt (cbox_lt h.cb)))⟩
set_option maxHeartbeats 16000000 in
theorem puts_any (p q : Int) (a b c d e a' b' c' d' e' : SL) (P : Option Addr) (t : SL) (vl : Value) (l : List Tn) (B U : Vw) (w : World) (hB : RV w a b c d e B) (hU : RV w a' b' c' d' e' U) (hv : Us w vl l) (hl : l.length ≤ 800) (fB : FitVIE 100 B) (fU : FitVIE 1000 U) :
  Calls Tryz.prog 56 #[.agg #[.int .i64 p, .int .i64 q, .slice a.1 a.2.1 a.2.2, .slice b.1 b.2.1 b.2.2, .slice c.1 c.2.1 c.2.2, .slice d.1 d.2.1 d.2.2, .slice e.1 e.2.1 e.2.2, .slice a'.1 a'.2.1 a'.2.2, .slice b'.1 b'.2.1 b'.2.2, .slice c'.1 c'.2.1 c'.2.2, .slice d'.1 d'.2.1 d'.2.2, .slice e'.1 e'.2.1 e'.2.2, .pointer P, .slice t.1 t.2.1 t.2.2], vl] w fun e w' => e = .returned (.bool (putsB B U (p, q) l)) ∧ Below w.heap.size w w' := by
 obtain ⟨A, cp, rfl, hz⟩ := id hv
 clear hz
 have q1 := below_one w (.cells #[.int .i64 p, .int .i64 q, .slice a.1 a.2.1 a.2.2, .slice b.1 b.2.1 b.2.2, .slice c.1 c.2.1 c.2.2, .slice d.1 d.2.1 d.2.2, .slice e.1 e.2.1 e.2.2, .slice a'.1 a'.2.1 a'.2.2, .slice b'.1 b'.2.1 b'.2.2, .slice c'.1 c'.2.1 c'.2.2, .slice d'.1 d'.2.1 d'.2.2, .slice e'.1 e'.2.1 e'.2.2, .pointer P, .slice t.1 t.2.1 t.2.2] 56)
 have X0 := Lib.hid (cbox_new w p q a b c d e a' b' c' d' e' P t)
 have RB0 := Lib.hid (hB.below q1)
 have RU0 := Lib.hid (hU.below q1)
 have HI := Lib.hid (hv.below q1)
 have Q0 := Lib.hid q1
 have LB := Lib.hid fB
 have LU := Lib.hid fU
 have HS0 := Lib.hid (show (w.alloc (.cells #[.int .i64 p, .int .i64 q, .slice a.1 a.2.1 a.2.2, .slice b.1 b.2.1 b.2.2, .slice c.1 c.2.1 c.2.2, .slice d.1 d.2.1 d.2.2, .slice e.1 e.2.1 e.2.2, .slice a'.1 a'.2.1 a'.2.2, .slice b'.1 b'.2.1 b'.2.2, .slice c'.1 c'.2.1 c'.2.2, .slice d'.1 d'.2.1 d'.2.2, .slice e'.1 e'.2.1 e'.2.2, .pointer P, .slice t.1 t.2.1 t.2.2] 56)).heap.size = w.heap.size + 1 by simp)
 clear q1 hB hU hv fB fU
 go_enter Tryz.func56, Tryz.ntmps56
 go_upto_region 1 with fail
 generalize w.alloc (.cells #[.int .i64 p, .int .i64 q, .slice a.1 a.2.1 a.2.2, .slice b.1 b.2.1 b.2.2, .slice c.1 c.2.1 c.2.2, .slice d.1 d.2.1 d.2.2, .slice e.1 e.2.1 e.2.2, .slice a'.1 a'.2.1 a'.2.2, .slice b'.1 b'.2.1 b'.2.2, .slice c'.1 c'.2.1 c'.2.2, .slice d'.1 d'.2.1 d'.2.2, .slice e'.1 e'.2.1 e'.2.2, .pointer P, .slice t.1 t.2.1 t.2.2] 56) = w0 at *
 go_wp2_with (at_make; refine wpList_make_all (enc := encM) 22 34 ((0, 0), 0, 0) Tryz.underlying22 info32 encM_len (by omega) rfl (by omega) w0 rfl (.tmp 9) rfl l.length rfl (by omega) ?_; intro w1 k1 k2 k3; have R1 := Lib.hid k1; have S1 := Lib.hid k2; have B1 := Lib.hid k3; clear k1 k2 k3)
 have hsz0 : (Array.replicate l.length (((0, 0), 0, 0) : Ros.Mm)).size = l.length := by simp
 obtain ⟨g, hg⟩ : ∃ g, w0.heap.size = g := ⟨_, rfl⟩
 have HG := Lib.hid hg
 rw [hg] at R1 S1
 simp only [hg]
 clear hg
 go_loopw [13] (fun s13 wr => ∃ k : Nat, ∃ dk : Array Ros.Mm, k ≤ l.length ∧ s13 = .int .i64 k ∧ dk.size = l.length ∧ Hid (RowAtR encM 4 wr g dk) ∧ Hid (dk.toList.take k = (l.take k).map (·.2)) ∧ Hid (Below w0.heap.size w0 wr)) (fun s13 _ => l.length - (intOf s13).toNat)
 case atStart => exact ⟨0, _, by omega, rfl, hsz0, R1, Lib.hid rfl, B1⟩
 case round =>
  obtain ⟨k, dk, hkl, rfl, hds, HR, HT, HW⟩ := hrel
  have i3 : (0 : Int) ≤ (k : Int) := by omega
  by_cases hlt : k < l.length
  ·have hd : decide ((k : Int) < (l.length : Int)) = true := by simp; omega
   have i4 : (k : Int) < (l.length : Int) := by omega
   obtain ⟨ad, rfl, c1, c2, c3, c4, c5, c6, c7, c8⟩ := Us.at_ HI.out HW.out hlt
   have HX := Lib.hid (ubox_new wr l[k].1.1.1 l[k].1.1.2 l[k].1.2.1 l[k].1.2.2 l[k].2.1.1 l[k].2.1.2 l[k].2.2.1 l[k].2.2.2)
   have HB := Lib.hid (below_one wr (.cells #[.int .i64 l[k].1.1.1, .int .i64 l[k].1.1.2, .int .u8 l[k].1.2.1, .int .i64 l[k].1.2.2, .int .i64 l[k].2.1.1, .int .i64 l[k].2.1.2, .int .u8 l[k].2.2.1, .int .i64 l[k].2.2.2] 53))
   have R2 := Lib.hid (rowAtR_kept HR.out HB.out)
   have W2 := Lib.hid (HW.out.trans (HB.out.mono HW.out.size))
   have HS := Lib.hid (take_set_snoc (show k < dk.size by omega) (((l[k].2.1.1, l[k].2.1.2), l[k].2.2.1, l[k].2.2.2) : Ros.Mm))
   have HT2 := Lib.hid (show (l.take (k + 1)).map (·.2) = (l.take k).map (·.2) ++ [((l[k].2.1.1, l[k].2.1.2), l[k].2.2.1, l[k].2.2.2)] by rw [take_snoc hlt, List.map_append]; rfl)
   generalize l[k].1.1.1 = ma at *
   generalize l[k].1.1.2 = mi at *
   generalize l[k].1.2.1 = ms at *
   generalize l[k].1.2.2 = mn at *
   generalize l[k].2.1.1 = nb at *
   generalize l[k].2.1.2 = nj at *
   generalize l[k].2.2.1 = nt at *
   generalize l[k].2.2.2 = nm at *
   obtain ⟨x1, x2, x3, x4, x5, x6, x7, x8⟩ := ubox_cells HX.out
   obtain ⟨⟨y1, y2, y3, y4⟩, f1, f2, f3, f4⟩ := R2.out.mem (k := k) (by omega)
   have R3 := Lib.hid (rowM_set R2.out (show k < dk.size by omega) nb nj nt nm)
   have W3 := Lib.hid (below_setM (g := g) W2.out (by rw [HG.out]; exact Nat.le_refl g) k (.int .i64 nb) (.int .i64 nj) (.int .u8 nt) (.int .i64 nm))
   have HF := Lib.hid (show (dk.setIfInBounds k ((nb, nj), nt, nm)).toList.take (k + 1) = (l.take (k + 1)).map (·.2) by rw [HS.out, HT2.out, HT.out])
   go_wp2_with fail
   go_roundw
   case rel => exact ⟨k + 1, _, by omega, by go_num, by simpa using hds, R3, HF, W3⟩
   case measure => simp [intOf]; omega
  ·have hd : decide ((k : Int) < (l.length : Int)) = false := by simp; omega
   have hL : dk.toList = l.map (·.2) := by
    have h := HT.out
    rw [List.take_of_length_le (by simp; omega), List.take_of_length_le (by omega)] at h
    exact h
   have hM := rowAtR_rcs HR.out (c := l.length) (by omega)
   rw [hL, hds] at hM
   have hc0 : w.heap.size < w0.heap.size := by have := HS0.out; omega
   have P0 : Hid (PtI w w.heap.size p q a b c d e a' b' c' d' e' P t B U (.slice (some ⟨g, 0, none⟩) l.length l.length) (l.map (·.2)) wr) := Lib.hid ⟨cbox_below X0.out HW.out, RB0.out.below HW.out, RU0.out.below HW.out, hM, below_after Q0.out HW.out (Nat.le_refl _)⟩
   have HL := Lib.hid (show (l.map (·.2)).length ≤ 800 by simpa using hl)
   have FZ := Lib.hid ((fit_doesV LB.out (p, q) (l.map (·.2)) 100 B (by omega) (LB.out)).mono (show 100 + (l.map (·.2)).length ≤ 1000 by have := HL.out; omega))
   have HPB : Hid (putsB B U (p, q) l = (((doesV B (p, q) (l.map (·.2)) B).2 == 0) && sameV (doesV B (p, q) (l.map (·.2)) B).1 U)) := Lib.hid rfl
   have HDO := Lib.hid fun W (h : PtI w w.heap.size p q a b c d e a' b' c' d' e' P t B U (.slice (some ⟨g, 0, none⟩) l.length l.length) (l.map (·.2)) W) => does_any p q a b c d e _ (l.map (·.2)) B W h.rv h.ms HL.out LB.out
   generalize doesV B (p, q) (l.map (·.2)) B = Z at *
   obtain ⟨Z, n⟩ := Z
   dsimp only at HDO FZ HPB
   generalize l.map (·.2) = lm at *
   clear hL hM HR HT HW X0 RB0 RU0 HI Q0 R1 S1 B1 hds
   have HQ := Lib.hid fun W (h : PtI w w.heap.size p q a b c d e a' b' c' d' e' P t B U (.slice (some ⟨g, 0, none⟩) l.length l.length) lm W) => cbox_cells h.cb
   obtain ⟨c0, c1, c2, c3, c4, c5, c6, c7, c8, c9, c10, c11, c12, c13⟩ := cbox_cells P0.out.cb
   go_wp2_with fail
   go_region_held3 (fun w' => (w'.cell? ⟨w.heap.size, 0, none⟩ = some (.int .i64 p) ∧ w'.cell? ⟨w.heap.size, 1, none⟩ = some (.int .i64 q) ∧ w'.cell? ⟨w.heap.size, 2, none⟩ = some (.slice a.1 a.2.1 a.2.2) ∧ w'.cell? ⟨w.heap.size, 3, none⟩ = some (.slice b.1 b.2.1 b.2.2) ∧ w'.cell? ⟨w.heap.size, 4, none⟩ = some (.slice c.1 c.2.1 c.2.2) ∧ w'.cell? ⟨w.heap.size, 5, none⟩ = some (.slice d.1 d.2.1 d.2.2) ∧ w'.cell? ⟨w.heap.size, 6, none⟩ = some (.slice e.1 e.2.1 e.2.2) ∧ w'.cell? ⟨w.heap.size, 7, none⟩ = some (.slice a'.1 a'.2.1 a'.2.2) ∧ w'.cell? ⟨w.heap.size, 8, none⟩ = some (.slice b'.1 b'.2.1 b'.2.2) ∧ w'.cell? ⟨w.heap.size, 9, none⟩ = some (.slice c'.1 c'.2.1 c'.2.2) ∧ w'.cell? ⟨w.heap.size, 10, none⟩ = some (.slice d'.1 d'.2.1 d'.2.2) ∧ w'.cell? ⟨w.heap.size, 11, none⟩ = some (.slice e'.1 e'.2.1 e'.2.2) ∧ w'.cell? ⟨w.heap.size, 12, none⟩ = some (.pointer P) ∧ w'.cell? ⟨w.heap.size, 13, none⟩ = some (.slice t.1 t.2.1 t.2.2)) ∧ Hid (PtI w w.heap.size p q a b c d e a' b' c' d' e' P t B U (.slice (some ⟨g, 0, none⟩) l.length l.length) lm w'))
    (first | exact ⟨HQ.out _ (P0.out.on (Below.refl _ _).drew), Lib.hid (P0.out.on (Below.refl _ _).drew)⟩ | exact ⟨HQ.out _ HJ.out, HJ⟩)
    (first | (go_at_call 4; (with_reducible refine (HDO.out _ (Hid.out (by go_split_ands; assumption))).mono ?_); rintro e1 w' ⟨X, rfl, ⟨z0, z1, z2, z3, z4, rfl, hz⟩, hb⟩; have HZ := Lib.hid hz; have HJ : Hid (PtI w w.heap.size p q a b c d e a' b' c' d' e' P t B U (.slice (some ⟨g, 0, none⟩) l.length l.length) lm w') := Lib.hid (PtI.on (Hid.out (by go_split_ands; assumption)) hb); clear hb hz) | (go_at_call 48; (with_reducible refine (makes_any p q a b c d e a' b' c' d' e' P t z0 z1 z2 z3 z4 n U Z _ HJ.out.ru HZ.out LU.out FZ.out).mono ?_); rintro e2 w' ⟨rfl, hb⟩; have HJ := Lib.hid (HJ.out.on hb); clear hb))
   go_wp2_with fail
   go_ret
   exact ⟨ret_bool HPB.out.symm, HJ.out.below⟩
end Go.Proofs.YtgphiggbajbmhaaGreatDoor
namespace Go.Proofs.YtgphiggbajbmhaaGreatDoor
namespace Stab
open Sets
theorem not_lt_trans {a b c : Id2} (h : ¬ lt b a) (k : ¬ lt c b) : ¬ lt c a := by unfold lt at *; omega
theorem lt_of_lt_of_le {a b c : Id2} (h : lt a b) (k : ¬ lt c b) : lt a c := by unfold lt at *; omega
theorem lt_ne {a b : Id2} (h : lt a b) : a ≠ b := fun e => lt_irrefl a (by rw [← e] at h; exact h)
section
variable {α : Type} (key : α → Id2)
def Sorted (l : List α) : Prop := l.Pairwise fun x y => ¬ lt (key y) (key x)
def Same (l m : List α) : Prop := l.length = m.length ∧ ∀ y, l.filter (fun x => decide (key x = y)) = m.filter (fun x => decide (key x = y))
variable {key}
theorem Same.refl (l : List α) : Same key l l := ⟨rfl, fun _ => rfl⟩
theorem Same.symm {l m : List α} (h : Same key l m) : Same key m l := ⟨h.1.symm, fun y => (h.2 y).symm⟩
theorem Same.trans {l m n : List α} (h : Same key l m) (k : Same key m n) : Same key l n := ⟨h.1.trans k.1, fun y => (h.2 y).trans (k.2 y)⟩
theorem Same.app {l m l' m' : List α} (h : Same key l m) (k : Same key l' m') : Same key (l ++ l') (m ++ m') :=
 ⟨by simp [h.1, k.1], fun y => by rw [List.filter_append, List.filter_append, h.2, k.2]⟩
theorem Same.mem {l m : List α} (h : Same key l m) {x : α} : x ∈ l ↔ x ∈ m := by
 have := h.2 (key x)
 constructor
 ·intro hx
  have h1 : x ∈ l.filter (fun z => decide (key z = key x)) := List.mem_filter.2 ⟨hx, by simp⟩
  rw [this] at h1
  exact (List.mem_filter.1 h1).1
 ·intro hx
  have h1 : x ∈ m.filter (fun z => decide (key z = key x)) := List.mem_filter.2 ⟨hx, by simp⟩
  rw [← this] at h1
  exact (List.mem_filter.1 h1).1
theorem same_swap {X Y : List α} (h : ∀ x ∈ X, ∀ y ∈ Y, key x ≠ key y) : Same key (X ++ Y) (Y ++ X) := by
 refine ⟨by simp; omega, fun z => ?_⟩
 rw [List.filter_append, List.filter_append]
 by_cases c : ∃ x ∈ X, key x = z
 ·obtain ⟨x, hx, rfl⟩ := c
  have : Y.filter (fun y => decide (key y = key x)) = [] := List.filter_eq_nil_iff.2 fun y hy => by simpa using fun e => h x hx y hy e.symm
  rw [this]
  simp
 ·have : X.filter (fun x => decide (key x = z)) = [] := List.filter_eq_nil_iff.2 fun x hx => by simpa using fun e => c ⟨x, hx, e⟩
  rw [this]
  simp
theorem sorted_app {X Y : List α} : Sorted key (X ++ Y) ↔ Sorted key X ∧ Sorted key Y ∧ ∀ x ∈ X, ∀ y ∈ Y, ¬ lt (key y) (key x) := List.pairwise_append
theorem sorted_nil : Sorted key ([] : List α) := List.Pairwise.nil
theorem sorted_one (x : α) : Sorted key [x] := List.pairwise_singleton _ _
theorem sorted_cons {x : α} {X : List α} : Sorted key (x :: X) ↔ (∀ y ∈ X, ¬ lt (key y) (key x)) ∧ Sorted key X := List.pairwise_cons
theorem Sorted.at_ [Inhabited α] {X : List α} (h : Sorted key X) {i j : Nat} (hij : i ≤ j) (hj : j < X.length) : ¬ lt (key X[j]!) (key X[i]!) := by
 rw [getElem!_pos X j hj, getElem!_pos X i (by omega)]
 by_cases e : i = j
 ·subst e
  exact lt_irrefl _
 ·exact List.pairwise_iff_getElem.1 h i j (by omega) hj (by omega)
theorem Sorted.take {X : List α} (h : Sorted key X) (k : Nat) : Sorted key (X.take k) := List.Pairwise.sublist (List.take_sublist _ _) h
theorem Sorted.drop {X : List α} (h : Sorted key X) (k : Nat) : Sorted key (X.drop k) := List.Pairwise.sublist (List.drop_sublist _ _) h
theorem insert_sorted {S1 S2 : List α} {x : α} (h : Sorted key (S1 ++ S2)) (h2 : ∀ y ∈ S2, lt (key x) (key y)) (h1 : ∀ y ∈ S1, ¬ lt (key x) (key y)) : Sorted key (S1 ++ x :: S2) := by
 obtain ⟨a, b, c⟩ := sorted_app.1 h
 refine sorted_app.2 ⟨a, sorted_cons.2 ⟨fun y hy => lt_asymm (h2 y hy), b⟩, fun y hy z hz => ?_⟩
 rcases List.mem_cons.1 hz with rfl | hz
 ·exact h1 y hy
 ·exact c y hy z hz
theorem insert_same {S1 S2 : List α} {x : α} (h2 : ∀ y ∈ S2, lt (key x) (key y)) : Same key (S1 ++ S2 ++ [x]) (S1 ++ x :: S2) := by
 have h := same_swap (key := key) (X := S2) (Y := [x]) (fun y hy z hz => by
  obtain rfl : z = x := by simpa using hz
  exact fun e => lt_ne (h2 y hy) e.symm)
 have := (Same.refl (key := key) S1).app h
 simpa using this
theorem below_last {S : List α} {y x : α} (h : Sorted key (S ++ [y])) (hx : ¬ lt (key x) (key y)) : ∀ z ∈ S ++ [y], ¬ lt (key x) (key z) := by
 intro z hz
 rcases List.mem_append.1 hz with hz | hz
 ·exact not_lt_trans ((sorted_app.1 h).2.2 z hz y (by simp)) hx
 ·obtain rfl : z = y := by simpa using hz
  exact hx
end
end Stab
end Go.Proofs.YtgphiggbajbmhaaGreatDoor
namespace Go.Proofs.YtgphiggbajbmhaaGreatDoor
open Go Go.RowKit Ros
abbrev kM (x : Mm) : Sets.Id2 := x.1
theorem cmpM_any (a i s n b j t m : Int) (w : World) :
  Calls Tryz.prog 167 #[.agg #[.int .i64 a, .int .i64 i, .int .u8 s, .int .i64 n], .agg #[.int .i64 b, .int .i64 j, .int .u8 t, .int .i64 m]] w fun e w' => e = .returned (.int .i64 (cmpZ a i b j)) ∧ Below w.heap.size w w' := by
 have HB := Lib.hid (below_two w (.cells #[.int .i64 a, .int .i64 i, .int .u8 s, .int .i64 n] 34) (.cells #[.int .i64 b, .int .i64 j, .int .u8 t, .int .i64 m] 34))
 have HC := Lib.hid fun W => compare_any a i b j W
 generalize cmpZ a i b j = z at *
 go_enter Tryz.func167, Tryz.ntmps167
 go_wp2_with fail
 refine (HC.out _).mono ?_
 rintro e w1 ⟨rfl, hb⟩
 have H1 := Lib.hid (below_after HB.out hb (Nat.le_refl _))
 clear hb
 go_wp2_with fail
 go_ret
 exact ⟨rfl, H1.out⟩
def sameI (x y : Sets.Id2) : Bool := decide (x = y)
theorem eqM_any (a i s n b j t m : Int) (w : World) :
  Calls Tryz.prog 169 #[.agg #[.int .i64 a, .int .i64 i, .int .u8 s, .int .i64 n], .agg #[.int .i64 b, .int .i64 j, .int .u8 t, .int .i64 m]] w fun e w' => e = .returned (.bool (sameI (a, i) (b, j))) ∧ Below w.heap.size w w' := by
 have HB := Lib.hid (below_two w (.cells #[.int .i64 a, .int .i64 i, .int .u8 s, .int .i64 n] 34) (.cells #[.int .i64 b, .int .i64 j, .int .u8 t, .int .i64 m] 34))
 by_cases h1 : a = b
 ·subst h1
  by_cases h2 : i = j
  ·subst h2
   have HR := Lib.hid (show sameI (a, i) (a, i) = true by simp [sameI])
   go_enter Tryz.func169, Tryz.ntmps169
   go_wp2_with fail
   go_ret
   exact ⟨ret_bool HR.out.symm, HB.out⟩
  ·have h3 : (i == j) = false := by simpa using h2
   have HR := Lib.hid (show sameI (a, i) (a, j) = false by simp [sameI, h2])
   clear h2
   go_enter Tryz.func169, Tryz.ntmps169
   go_wp2_with fail
   go_ret
   exact ⟨ret_bool HR.out.symm, HB.out⟩
 ·have h3 : (a == b) = false := by simpa using h1
  have HR := Lib.hid (show sameI (a, i) (b, j) = false by simp [sameI, h1])
  clear h1
  go_enter Tryz.func169, Tryz.ntmps169
  go_wp2_with fail
  go_ret
  exact ⟨ret_bool HR.out.symm, HB.out⟩
theorem cmpZ_ltAGR {x y : Sets.Id2} (h : Sets.lt x y) : decide (cmpZ x.1 x.2 y.1 y.2 < 0) = true := by
 rw [cmpZ_eq, if_pos h]
 rfl
theorem cmpZ_geAGR {x y : Sets.Id2} (h : ¬ Sets.lt x y) : decide (cmpZ x.1 x.2 y.1 y.2 < 0) = false := by
 rw [cmpZ_eq, if_neg h]
 split <;> rfl
abbrev RowL (w : World) (g : Nat) (l : List Mm) : Prop := RowAtR encM 4 w g l.toArray
theorem rowL_kept {w w' : World} {g : Nat} {l : List Mm} (h : RowL w g l) (hb : Below w.heap.size w w') : RowL w' g l := rowAtR_kept h hb
theorem rowL_cells {w : World} {g : Nat} {l : List Mm} (h : RowL w g l) {k : Nat} (hk : k < l.length) {a i s n : Int} (e : l[k]! = ((a, i), s, n)) :
  w.cell? ⟨g, k * 4, none⟩ = some (.int .i64 a) ∧ w.cell? ⟨g, k * 4 + 1, none⟩ = some (.int .i64 i) ∧ w.cell? ⟨g, k * 4 + 2, none⟩ = some (.int .u8 s) ∧ w.cell? ⟨g, k * 4 + 3, none⟩ = some (.int .i64 n) := by
 have := (RowAtR.mem h (k := k) (by simpa using hk)).1
 rw [show l.toArray[k]! = ((a, i), s, n) by rw [← e]; simp] at this
 exact this
theorem rowL_free {w : World} {g : Nat} {l : List Mm} (h : RowL w g l) {k : Nat} (hk : k < l.length) :
  w.frozen? ⟨g, k * 4, none⟩ = false ∧ w.frozen? ⟨g, k * 4 + 1, none⟩ = false ∧ w.frozen? ⟨g, k * 4 + 2, none⟩ = false ∧ w.frozen? ⟨g, k * 4 + 3, none⟩ = false := (RowAtR.mem h (k := k) (by simpa using hk)).2
theorem rowL_set {w : World} {g : Nat} {l : List Mm} (h : RowL w g l) {i : Nat} (hi : i < l.length) (a j s n : Int) :
  RowL ((((w.setCell ⟨g, i * 4, none⟩ (.int .i64 a)).setCell ⟨g, i * 4 + 1, none⟩ (.int .i64 j)).setCell ⟨g, i * 4 + 2, none⟩ (.int .u8 s)).setCell ⟨g, i * 4 + 3, none⟩ (.int .i64 n)) g (l.set i ((a, j), s, n)) := by
 have := rowM_set h (i := i) (by simpa using hi) a j s n
 simpa using this
theorem at_mid {α : Type} [Inhabited α] (P Q : List α) (x : α) {k : Nat} (hk : P.length = k) : (P ++ x :: Q)[k]! = x := by
 subst hk
 rw [getElem!_pos _ _ (by simp)]
 simp
theorem set_mid {α : Type} (P Q : List α) (x y : α) {k : Nat} (hk : P.length = k) : (P ++ x :: Q).set k y = P ++ y :: Q := by
 subst hk
 simp
theorem set_two' {α : Type} (P M Q : List α) (x y : α) {p q : Nat} (hp : P.length = p) (hq : P.length + 1 + M.length = q) : ((P ++ x :: M ++ y :: Q).set q x).set p y = P ++ y :: M ++ x :: Q := by
 rw [set_mid (P ++ x :: M) Q y x (by simp; omega), List.append_assoc, List.cons_append, set_mid P _ x y hp, List.append_assoc, List.cons_append]
theorem at_two {α : Type} [Inhabited α] (P M Q : List α) (x y : α) {p q : Nat} (hp : P.length = p) (hq : P.length + 1 + M.length = q) : (P ++ x :: M ++ y :: Q)[p]! = x ∧ (P ++ x :: M ++ y :: Q)[q]! = y := by
 constructor
 ·rw [List.append_assoc, List.cons_append]
  exact at_mid P _ x hp
 ·exact at_mid (P ++ x :: M) Q y (by simp; omega)
theorem two_cellsL {w : World} {g : Nat} {P M Q : List Mm} {a i s n b j t m : Int} (h : RowL w g (P ++ ((a, i), s, n) :: M ++ ((b, j), t, m) :: Q)) {p q : Nat} (hp : P.length = p) (hq : P.length + 1 + M.length = q) :
  (w.cell? ⟨g, p * 4, none⟩ = some (.int .i64 a) ∧ w.cell? ⟨g, p * 4 + 1, none⟩ = some (.int .i64 i) ∧ w.cell? ⟨g, p * 4 + 2, none⟩ = some (.int .u8 s) ∧ w.cell? ⟨g, p * 4 + 3, none⟩ = some (.int .i64 n)) ∧
  (w.cell? ⟨g, q * 4, none⟩ = some (.int .i64 b) ∧ w.cell? ⟨g, q * 4 + 1, none⟩ = some (.int .i64 j) ∧ w.cell? ⟨g, q * 4 + 2, none⟩ = some (.int .u8 t) ∧ w.cell? ⟨g, q * 4 + 3, none⟩ = some (.int .i64 m)) ∧
  (w.frozen? ⟨g, p * 4, none⟩ = false ∧ w.frozen? ⟨g, p * 4 + 1, none⟩ = false ∧ w.frozen? ⟨g, p * 4 + 2, none⟩ = false ∧ w.frozen? ⟨g, p * 4 + 3, none⟩ = false) ∧
  (w.frozen? ⟨g, q * 4, none⟩ = false ∧ w.frozen? ⟨g, q * 4 + 1, none⟩ = false ∧ w.frozen? ⟨g, q * 4 + 2, none⟩ = false ∧ w.frozen? ⟨g, q * 4 + 3, none⟩ = false) := by
 obtain ⟨e1, e2⟩ := at_two P M Q ((a, i), s, n) ((b, j), t, m) hp hq
 exact ⟨rowL_cells h (by simp; omega) e1, rowL_cells h (by simp; omega) e2, rowL_free h (by simp; omega), rowL_free h (by simp; omega)⟩
theorem swapL_down {w : World} {g : Nat} {P M Q : List Mm} {a i s n b j t m : Int} (h : RowL w g (P ++ ((a, i), s, n) :: M ++ ((b, j), t, m) :: Q)) {p q : Nat} (hp : P.length = p) (hq : P.length + 1 + M.length = q) :
  RowL ((((((((w.setCell ⟨g, q * 4, none⟩ (.int .i64 a)).setCell ⟨g, q * 4 + 1, none⟩ (.int .i64 i)).setCell ⟨g, q * 4 + 2, none⟩ (.int .u8 s)).setCell ⟨g, q * 4 + 3, none⟩ (.int .i64 n)).setCell ⟨g, p * 4, none⟩ (.int .i64 b)).setCell ⟨g, p * 4 + 1, none⟩ (.int .i64 j)).setCell ⟨g, p * 4 + 2, none⟩ (.int .u8 t)).setCell ⟨g, p * 4 + 3, none⟩ (.int .i64 m)) g (P ++ ((b, j), t, m) :: M ++ ((a, i), s, n) :: Q) := by
 have h1 := rowL_set (rowL_set h (i := q) (by simp; omega) a i s n) (i := p) (by simp; omega) b j t m
 rwa [set_two' P M Q _ _ hp hq] at h1
theorem grown_swap {a w : World} {g : Nat} (h : a.grownBy w (some g)) (i k : Nat) (x y z t x' y' z' t' : Value) : a.grownBy ((((((((w.setCell ⟨g, i * 4, none⟩ x).setCell ⟨g, i * 4 + 1, none⟩ y).setCell ⟨g, i * 4 + 2, none⟩ z).setCell ⟨g, i * 4 + 3, none⟩ t).setCell ⟨g, k * 4, none⟩ x').setCell ⟨g, k * 4 + 1, none⟩ y').setCell ⟨g, k * 4 + 2, none⟩ z').setCell ⟨g, k * 4 + 3, none⟩ t') (some g) := grown_setM (grown_setM h i x y z t) k x' y' z' t'
end Go.Proofs.YtgphiggbajbmhaaGreatDoor
