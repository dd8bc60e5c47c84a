/-
  Carried over and put together: contracts of this program's functions, and plain facts. No statement is proved in this text.
-/
import Derived.Lib.SmallJoins
import Derived.Deep.SlicePairs
import Derived.SizedLaws
import Derived.Test.YtkeiekljedhllaaGreatO00
import Derived.Test.YtkeiekljedhllaaGreatO14
import Derived.Test.YtkeiekljedhllaaGreatO23
set_option maxRecDepth 20000
namespace Go.Proofs.YtkeiekljedhllaaGreat
open Go Go.RowKit
set_option maxHeartbeats 8000000 in
theorem refSame_self (v u : Value) (F : Fr) (w : World) (h : FAt w v F) (k : FAt w u F) (hF : FitVIE 5000 F.v) :
    Calls Tryz.prog 20 #[v, u] w fun e w' => e = .returned (.bool true) ∧ Below w.heap.size w w' := by
  obtain ⟨a, b, c, d, e, rfl, hr⟩ := h
  obtain ⟨a', b', c', d', e', rfl, kr⟩ := k
  have B1 := Lib.hid (below_one w (.cells #[.int .u8 F.k, .int .i64 F.f.1, .int .i64 F.f.2, .int .i64 F.t.1, .int .i64 F.t.2, .int .i64 F.n, .int .i64 F.q, .int .i64 F.b.1, .int .i64 F.b.2, .slice a.1 a.2.1 a.2.2, .slice b.1 b.2.1 b.2.2, .slice c.1 c.2.1 c.2.2, .slice d.1 d.2.1 d.2.2, .slice e.1 e.2.1 e.2.2] 39))
  have B2 := Lib.hid (below_one (w.alloc (.cells #[.int .u8 F.k, .int .i64 F.f.1, .int .i64 F.f.2, .int .i64 F.t.1, .int .i64 F.t.2, .int .i64 F.n, .int .i64 F.q, .int .i64 F.b.1, .int .i64 F.b.2, .slice a.1 a.2.1 a.2.2, .slice b.1 b.2.1 b.2.2, .slice c.1 c.2.1 c.2.2, .slice d.1 d.2.1 d.2.2, .slice e.1 e.2.1 e.2.2] 39)) (.cells #[.int .u8 F.k, .int .i64 F.f.1, .int .i64 F.f.2, .int .i64 F.t.1, .int .i64 F.t.2, .int .i64 F.n, .int .i64 F.q, .int .i64 F.b.1, .int .i64 F.b.2, .slice a'.1 a'.2.1 a'.2.2, .slice b'.1 b'.2.1 b'.2.2, .slice c'.1 c'.2.1 c'.2.2, .slice d'.1 d'.2.1 d'.2.2, .slice e'.1 e'.2.1 e'.2.2] 39))
  have X1 := Lib.hid (fbox_below (fbox_new w F a b c d e) B2.out)
  have HZ := Lib.hid (show (w.alloc (.cells #[.int .u8 F.k, .int .i64 F.f.1, .int .i64 F.f.2, .int .i64 F.t.1, .int .i64 F.t.2, .int .i64 F.n, .int .i64 F.q, .int .i64 F.b.1, .int .i64 F.b.2, .slice a.1 a.2.1 a.2.2, .slice b.1 b.2.1 b.2.2, .slice c.1 c.2.1 c.2.2, .slice d.1 d.2.1 d.2.2, .slice e.1 e.2.1 e.2.2] 39)).heap.size = w.heap.size + 1 by simp)
  have X2 := Lib.hid (show FBox ((w.alloc (.cells #[.int .u8 F.k, .int .i64 F.f.1, .int .i64 F.f.2, .int .i64 F.t.1, .int .i64 F.t.2, .int .i64 F.n, .int .i64 F.q, .int .i64 F.b.1, .int .i64 F.b.2, .slice a.1 a.2.1 a.2.2, .slice b.1 b.2.1 b.2.2, .slice c.1 c.2.1 c.2.2, .slice d.1 d.2.1 d.2.2, .slice e.1 e.2.1 e.2.2] 39)).alloc (.cells #[.int .u8 F.k, .int .i64 F.f.1, .int .i64 F.f.2, .int .i64 F.t.1, .int .i64 F.t.2, .int .i64 F.n, .int .i64 F.q, .int .i64 F.b.1, .int .i64 F.b.2, .slice a'.1 a'.2.1 a'.2.2, .slice b'.1 b'.2.1 b'.2.2, .slice c'.1 c'.2.1 c'.2.2, .slice d'.1 d'.2.1 d'.2.2, .slice e'.1 e'.2.1 e'.2.2] 39)) (w.heap.size + 1) F a' b' c' d' e' by have := fbox_new (w.alloc (.cells #[.int .u8 F.k, .int .i64 F.f.1, .int .i64 F.f.2, .int .i64 F.t.1, .int .i64 F.t.2, .int .i64 F.n, .int .i64 F.q, .int .i64 F.b.1, .int .i64 F.b.2, .slice a.1 a.2.1 a.2.2, .slice b.1 b.2.1 b.2.2, .slice c.1 c.2.1 c.2.2, .slice d.1 d.2.1 d.2.2, .slice e.1 e.2.1 e.2.2] 39)) F a' b' c' d' e'; rw [HZ.out] at this; exact this)
  have BB := Lib.hid (below_after B1.out B2.out (Nat.le_refl _))
  have RA := Lib.hid (hr.below BB.out)
  have RB := Lib.hid (kr.below BB.out)
  have HF := Lib.hid hF
  clear hr kr B1 B2 HZ
  obtain ⟨p0, p1, p2, p3, p4, p5, p6, p7, p8, p9, p10, p11, p12, p13⟩ := fbox_cells X1.out
  obtain ⟨q0, q1, q2, q3, q4, q5, q6, q7, q8, q9, q10, q11, q12, q13⟩ := fbox_cells X2.out
  go_enter Tryz.func20, Tryz.ntmps20
  go_wp2_with fail
  (with_reducible refine (views_self _ _ F.v _ RA.out.at_ RB.out.at_ HF.out).mono ?_)
  rintro e1 w1 ⟨rfl, hb⟩
  have B3 := Lib.hid (below_after BB.out hb (Nat.le_refl _))
  clear hb p0 p1 p2 p3 p4 p5 p6 p7 p8 p9 p10 p11 p12 p13 q0 q1 q2 q3 q4 q5 q6 q7 q8 q9 q10 q11 q12 q13
  go_wp2_with fail
  go_ret
  exact ⟨rfl, B3.out⟩
set_option maxHeartbeats 8000000 in
theorem frSame_self (v u : Value) (F : Fr) (w : World) (h : FAt w v F) (k : FAt w u F) (hF : FitVIE 5000 F.v) :
    Calls Tryz.prog 21 #[v, u] w fun e w' => e = .returned (.bool true) ∧ Below w.heap.size w w' := by
  obtain ⟨a, b, c, d, e, rfl, hr⟩ := h
  obtain ⟨a', b', c', d', e', rfl, kr⟩ := k
  have B1 := Lib.hid (below_one w (.cells #[.int .u8 F.k, .int .i64 F.f.1, .int .i64 F.f.2, .int .i64 F.t.1, .int .i64 F.t.2, .int .i64 F.n, .int .i64 F.q, .int .i64 F.b.1, .int .i64 F.b.2, .slice a.1 a.2.1 a.2.2, .slice b.1 b.2.1 b.2.2, .slice c.1 c.2.1 c.2.2, .slice d.1 d.2.1 d.2.2, .slice e.1 e.2.1 e.2.2] 39))
  have B2 := Lib.hid (below_one (w.alloc (.cells #[.int .u8 F.k, .int .i64 F.f.1, .int .i64 F.f.2, .int .i64 F.t.1, .int .i64 F.t.2, .int .i64 F.n, .int .i64 F.q, .int .i64 F.b.1, .int .i64 F.b.2, .slice a.1 a.2.1 a.2.2, .slice b.1 b.2.1 b.2.2, .slice c.1 c.2.1 c.2.2, .slice d.1 d.2.1 d.2.2, .slice e.1 e.2.1 e.2.2] 39)) (.cells #[.int .u8 F.k, .int .i64 F.f.1, .int .i64 F.f.2, .int .i64 F.t.1, .int .i64 F.t.2, .int .i64 F.n, .int .i64 F.q, .int .i64 F.b.1, .int .i64 F.b.2, .slice a'.1 a'.2.1 a'.2.2, .slice b'.1 b'.2.1 b'.2.2, .slice c'.1 c'.2.1 c'.2.2, .slice d'.1 d'.2.1 d'.2.2, .slice e'.1 e'.2.1 e'.2.2] 39))
  have X1 := Lib.hid (fbox_below (fbox_new w F a b c d e) B2.out)
  have HZ := Lib.hid (show (w.alloc (.cells #[.int .u8 F.k, .int .i64 F.f.1, .int .i64 F.f.2, .int .i64 F.t.1, .int .i64 F.t.2, .int .i64 F.n, .int .i64 F.q, .int .i64 F.b.1, .int .i64 F.b.2, .slice a.1 a.2.1 a.2.2, .slice b.1 b.2.1 b.2.2, .slice c.1 c.2.1 c.2.2, .slice d.1 d.2.1 d.2.2, .slice e.1 e.2.1 e.2.2] 39)).heap.size = w.heap.size + 1 by simp)
  have X2 := Lib.hid (show FBox ((w.alloc (.cells #[.int .u8 F.k, .int .i64 F.f.1, .int .i64 F.f.2, .int .i64 F.t.1, .int .i64 F.t.2, .int .i64 F.n, .int .i64 F.q, .int .i64 F.b.1, .int .i64 F.b.2, .slice a.1 a.2.1 a.2.2, .slice b.1 b.2.1 b.2.2, .slice c.1 c.2.1 c.2.2, .slice d.1 d.2.1 d.2.2, .slice e.1 e.2.1 e.2.2] 39)).alloc (.cells #[.int .u8 F.k, .int .i64 F.f.1, .int .i64 F.f.2, .int .i64 F.t.1, .int .i64 F.t.2, .int .i64 F.n, .int .i64 F.q, .int .i64 F.b.1, .int .i64 F.b.2, .slice a'.1 a'.2.1 a'.2.2, .slice b'.1 b'.2.1 b'.2.2, .slice c'.1 c'.2.1 c'.2.2, .slice d'.1 d'.2.1 d'.2.2, .slice e'.1 e'.2.1 e'.2.2] 39)) (w.heap.size + 1) F a' b' c' d' e' by have := fbox_new (w.alloc (.cells #[.int .u8 F.k, .int .i64 F.f.1, .int .i64 F.f.2, .int .i64 F.t.1, .int .i64 F.t.2, .int .i64 F.n, .int .i64 F.q, .int .i64 F.b.1, .int .i64 F.b.2, .slice a.1 a.2.1 a.2.2, .slice b.1 b.2.1 b.2.2, .slice c.1 c.2.1 c.2.2, .slice d.1 d.2.1 d.2.2, .slice e.1 e.2.1 e.2.2] 39)) F a' b' c' d' e'; rw [HZ.out] at this; exact this)
  have BB := Lib.hid (below_after B1.out B2.out (Nat.le_refl _))
  have RA := Lib.hid (hr.below BB.out)
  have RB := Lib.hid (kr.below BB.out)
  have HF := Lib.hid hF
  clear hr kr B1 B2 HZ
  obtain ⟨p0, p1, p2, p3, p4, p5, p6, p7, p8, p9, p10, p11, p12, p13⟩ := fbox_cells X1.out
  obtain ⟨q0, q1, q2, q3, q4, q5, q6, q7, q8, q9, q10, q11, q12, q13⟩ := fbox_cells X2.out
  go_enter Tryz.func21, Tryz.ntmps21
  go_wp2_with fail
  (with_reducible refine (viewSame_self _ _ F.v _ RA.out.at_ RB.out.at_ HF.out).mono ?_)
  rintro e1 w1 ⟨rfl, hb⟩
  have B3 := Lib.hid (below_after BB.out hb (Nat.le_refl _))
  clear hb p0 p1 p2 p3 p4 p5 p6 p7 p8 p9 p10 p11 p12 p13 q0 q1 q2 q3 q4 q5 q6 q7 q8 q9 q10 q11 q12 q13
  go_wp2_with fail
  go_ret
  exact ⟨rfl, B3.out⟩
theorem dec_whole {F : Fr} (h : encE F = 0) : decE (whole F) = 0 ∧ decF (whole F) = F := by
  obtain ⟨h1, h2, h3⟩ := encE_ok h
  obtain ⟨hk, hs, _⟩ := may_short h1
  have hb := back_fr F (by omega) hs h2
  have hl : (whole F).length = (wFr F).1.length + 4 := by unfold whole; rw [List.length_append]; rfl
  have ht : (whole F).take ((whole F).length - 4) = (wFr F).1 := by
    rw [hl, Nat.add_sub_cancel]
    unfold whole
    exact List.take_left
  have hd : (whole F).drop ((whole F).length - 4) = le4 (Crc.add 0 (wFr F).1) := by
    rw [hl, Nat.add_sub_cancel]
    unfold whole
    exact List.drop_left
  have hr : readF (wFr F).1 = F := by unfold readF; rw [hb]
  have ho : readOk (wFr F).1 = true := by unfold readOk; rw [hb]; rfl
  have := decE_good (l := whole F) (by omega) (by omega) (by rw [ht, hd]) (by rw [ht, hr, ho, h1]; rfl)
  rw [ht, hr] at this
  exact this
set_option maxHeartbeats 8000000 in
theorem back_any (v : Value) (F : Fr) (w : World) (h : FAt w v F) (hF : FitVIE 5000 F.v) (he : encE F = 0) :
    Calls Tryz.prog 8 #[v] w fun e w' => e = .returned (.bool true) ∧ Below w.heap.size w w' := by
  obtain ⟨a, b, c, d, e, rfl, hr⟩ := h
  have B1 := Lib.hid (below_one w (.cells #[.int .u8 F.k, .int .i64 F.f.1, .int .i64 F.f.2, .int .i64 F.t.1, .int .i64 F.t.2, .int .i64 F.n, .int .i64 F.q, .int .i64 F.b.1, .int .i64 F.b.2, .slice a.1 a.2.1 a.2.2, .slice b.1 b.2.1 b.2.2, .slice c.1 c.2.1 c.2.2, .slice d.1 d.2.1 d.2.2, .slice e.1 e.2.1 e.2.2] 39))
  have X1 := Lib.hid (fbox_new w F a b c d e)
  have R1 := Lib.hid (hr.below B1.out)
  have HF := Lib.hid hF
  have HE := Lib.hid he
  have HEB := Lib.hid (show encB F = whole F by unfold encB; rw [if_pos he])
  have HD := Lib.hid (dec_whole he)
  clear hr hF he
  obtain ⟨p0, p1, p2, p3, p4, p5, p6, p7, p8, p9, p10, p11, p12, p13⟩ := fbox_cells X1.out
  go_enter Tryz.func8, Tryz.ntmps8
  go_wp2_with fail
  (with_reducible refine (encode_any _ F _ (RV.fat R1.out) HF.out).mono ?_)
  rw [HE.out, HEB.out]
  rintro e1 w1 ⟨rfl, hb⟩
  have R2 := Lib.hid (R1.out.below hb)
  have X2 := Lib.hid (fbox_below X1.out hb)
  have B2 := Lib.hid (below_after B1.out hb (Nat.le_refl _))
  clear hb p0 p1 p2 p3 p4 p5 p6 p7 p8 p9 p10 p11 p12 p13 B1 X1 R1
  go_wp2_with fail
  (with_reducible refine (decode_any (bs (whole F)) _).mono ?_)
  rw [show (bs (whole F)).data.toList = whole F by simp [bs], HD.out.1, HD.out.2]
  rintro e2 w2 ⟨a', b', c', d', e', rfl, kr, hb⟩
  have B3 := Lib.hid (below_one w2 (.cells #[.int .u8 F.k, .int .i64 F.f.1, .int .i64 F.f.2, .int .i64 F.t.1, .int .i64 F.t.2, .int .i64 F.n, .int .i64 F.q, .int .i64 F.b.1, .int .i64 F.b.2, .slice a'.1 a'.2.1 a'.2.2, .slice b'.1 b'.2.1 b'.2.2, .slice c'.1 c'.2.1 c'.2.2, .slice d'.1 d'.2.1 d'.2.2, .slice e'.1 e'.2.1 e'.2.2] 39))
  have R3 := Lib.hid ((R2.out.below hb).below B3.out)
  have X3 := Lib.hid (fbox_below (fbox_below X2.out hb) B3.out)
  have X4 := Lib.hid (fbox_new w2 F a' b' c' d' e')
  have R4 := Lib.hid (kr.below B3.out)
  have B4 := Lib.hid (below_after (below_after B2.out hb (Nat.le_refl _)) B3.out (Nat.le_refl _))
  clear hb kr B3 R2 X2 B2
  obtain ⟨p0, p1, p2, p3, p4, p5, p6, p7, p8, p9, p10, p11, p12, p13⟩ := fbox_cells X3.out
  obtain ⟨q0, q1, q2, q3, q4, q5, q6, q7, q8, q9, q10, q11, q12, q13⟩ := fbox_cells X4.out
  go_wp2_with fail
  (with_reducible refine (refSame_self _ _ F _ (RV.fat R3.out) (RV.fat R4.out) HF.out).mono ?_)
  rintro e3 w3 ⟨rfl, hb⟩
  have R5 := Lib.hid (R3.out.below hb)
  have R6 := Lib.hid (R4.out.below hb)
  have X5 := Lib.hid (fbox_below X3.out hb)
  have X6 := Lib.hid (fbox_below X4.out hb)
  have B5 := Lib.hid (below_after B4.out hb (Nat.le_refl _))
  clear hb p0 p1 p2 p3 p4 p5 p6 p7 p8 p9 p10 p11 p12 p13 q0 q1 q2 q3 q4 q5 q6 q7 q8 q9 q10 q11 q12 q13 R3 R4 X3 X4 B4
  obtain ⟨p0, p1, p2, p3, p4, p5, p6, p7, p8, p9, p10, p11, p12, p13⟩ := fbox_cells X5.out
  obtain ⟨q0, q1, q2, q3, q4, q5, q6, q7, q8, q9, q10, q11, q12, q13⟩ := fbox_cells X6.out
  go_wp2_with fail
  (with_reducible refine (frSame_self _ _ F _ (RV.fat R5.out) (RV.fat R6.out) HF.out).mono ?_)
  rintro e4 w4 ⟨rfl, hb⟩
  have B6 := Lib.hid (below_after B5.out hb (Nat.le_refl _))
  clear hb p0 p1 p2 p3 p4 p5 p6 p7 p8 p9 p10 p11 p12 p13 q0 q1 q2 q3 q4 q5 q6 q7 q8 q9 q10 q11 q12 q13
  go_wp2_with fail
  go_ret
  exact ⟨rfl, B6.out⟩
end Go.Proofs.YtkeiekljedhllaaGreat
namespace Go.Proofs.YtkeiekljedhllaaGreat
open Go Go.RowKit
def beatF : Fr := ⟨5, (1, 1), (2, 1), 3, 0, (0, 0), ⟨[], [], [], [], []⟩⟩
def badF : Fr := ⟨5, (1, 1), (2, 1), 3, 1, (0, 0), ⟨[], [], [], [], []⟩⟩
def welF : Fr := ⟨2, (1, 1), (2, 1), 0, 0, (0, 0), ⟨[((1, 1), 3, 1)], [], [], [], []⟩⟩
theorem beat_ok : encE beatF = 0 := by kernel_rfl
theorem wel_ok : encE welF = 0 := by kernel_rfl
theorem bad_no : encE badF = 4 := by kernel_rfl
theorem dec_none : decE [] = 8 := by kernel_rfl
theorem dec_zero : decE [0, 0, 0, 0] = 4 := by kernel_rfl
theorem of_any (n : Int) (w : World) : Calls Tryz.prog 6 #[.int .i64 n] w fun e w' => e = .returned (.agg #[.int .i64 n, .int .i64 1]) ∧ Below w.heap.size w w' := by
  have X0 := Lib.hid (box_new w 0 0)
  have B0 := Lib.hid (below_one w (.cells #[.int .i64 0, .int .i64 0] 24))
  have X1 := Lib.hid (box_two X0.out n 1)
  obtain ⟨c0, c1⟩ := box_cells X0.out
  obtain ⟨f0, f1⟩ := box_open X0.out
  obtain ⟨q0, q1⟩ := box_cells X1.out
  have HB := Lib.hid (show Below w.heap.size w (((w.alloc (.cells #[.int .i64 0, .int .i64 0] 24)).setCell ⟨w.heap.size, 0, none⟩ (.int .i64 n)).setCell ⟨w.heap.size, 1, none⟩ (.int .i64 1)) from (B0.out.trans (below_gone (grownSet _ _ _ _) (Nat.le_refl _) B0.out.size)).trans (below_gone (grownSet _ _ _ _) (Nat.le_refl _) (by have := B0.out.size; simp [World.setCell])))
  go_enter Tryz.func6, Tryz.ntmps6
  go_wp2_with fail
  first
    | exact bodyPost_ret (v := .agg #[.int .i64 n, .int .i64 1]) (by simp [results, Tryz.results6, go_sem, q0, q1]) rfl ⟨rfl, HB.out⟩
    | exact bodyPost_ret (v := .agg #[.int .i64 n, .int .i64 1]) (by simp [results, Tryz.results6, go_sem]) rfl ⟨rfl, below_one _ _⟩
theorem nilRV (w : World) : RV w (none, 0, 0) (none, 0, 0) (none, 0, 0) (none, 0, 0) (none, 0, 0) ⟨[], [], [], [], []⟩ := (OwnV.nil w 0).rv
theorem nilFit : FitVIE 5000 ⟨[], [], [], [], []⟩ := ⟨by simp, by simp, by simp, by simp, by simp, by simp⟩
theorem enc_bad (W : World) : Calls Tryz.prog 9 #[.agg #[.int .u8 5, .int .i64 1, .int .i64 1, .int .i64 2, .int .i64 1, .int .i64 3, .int .i64 1, .int .i64 0, .int .i64 0, .slice none 0 0, .slice none 0 0, .slice none 0 0, .slice none 0 0, .slice none 0 0]] W fun e w' => e = .returned (.tuple #[.string (bs (encB badF)), .int .i64 4]) ∧ Below W.heap.size W w' := by
  have h := encode_any _ badF W (RV.fat (F := badF) (nilRV W)) nilFit
  rw [bad_no] at h
  exact h
theorem back_beat (W : World) : Calls Tryz.prog 8 #[.agg #[.int .u8 5, .int .i64 1, .int .i64 1, .int .i64 2, .int .i64 1, .int .i64 3, .int .i64 0, .int .i64 0, .int .i64 0, .slice none 0 0, .slice none 0 0, .slice none 0 0, .slice none 0 0, .slice none 0 0]] W fun e w' => e = .returned (.bool true) ∧ Below W.heap.size W w' :=
  back_any _ beatF W (RV.fat (F := beatF) (nilRV W)) nilFit beat_ok
theorem back_wel (W : World) (g : Nat) (h : RV W (some ⟨g, 0, none⟩, 1, 1) (none, 0, 0) (none, 0, 0) (none, 0, 0) (none, 0, 0) welF.v) : Calls Tryz.prog 8 #[.agg #[.int .u8 2, .int .i64 1, .int .i64 1, .int .i64 2, .int .i64 1, .int .i64 0, .int .i64 0, .int .i64 0, .int .i64 0, .slice (some ⟨g, 0, none⟩) 1 1, .slice none 0 0, .slice none 0 0, .slice none 0 0, .slice none 0 0]] W fun e w' => e = .returned (.bool true) ∧ Below W.heap.size W w' :=
  back_any _ welF W (RV.fat (F := welF) h) ⟨by decide, by decide, by decide, by decide, by decide, by intro r hr; cases hr⟩ wel_ok
theorem dec_a (W : World) : Calls Tryz.prog 13 #[.string ⟨#[]⟩] W (Decoded (decF []) 8 W) := by
  have h := decode_any ⟨#[]⟩ W
  rw [show (⟨#[]⟩ : ByteArray).data.toList = [] from rfl, dec_none] at h
  exact h
theorem dec_b (W : World) : Calls Tryz.prog 13 #[.string ⟨#[0, 0, 0, 0]⟩] W (Decoded (decF [0, 0, 0, 0]) 4 W) := by
  have h := decode_any ⟨#[0, 0, 0, 0]⟩ W
  rw [show (⟨#[0, 0, 0, 0]⟩ : ByteArray).data.toList = [0, 0, 0, 0] from rfl, dec_zero] at h
  exact h
set_option maxHeartbeats 16000000 in
theorem works_any (w : World) : Calls Tryz.prog 5 #[] w fun e w' => e = .returned (.bool true) ∧ Below w.heap.size w w' := by
  go_enter Tryz.func5, Tryz.ntmps5
  go_wp2_with fail
  (with_reducible refine (of_any 1 _).mono ?_)
  rintro e1 w1 ⟨rfl, hb⟩
  have BA1 := Lib.hid hb
  clear hb
  go_wp2_with fail
  (with_reducible refine (of_any 2 _).mono ?_)
  rintro e2 w2 ⟨rfl, hb⟩
  have BA2 := Lib.hid hb
  clear hb
  have B2 := Lib.hid (below_after (below_after BA1.out BA2.out (Nat.le_refl _)) (below_one w2 (.cells #[.int .u8 5, .int .i64 1, .int .i64 1, .int .i64 2, .int .i64 1, .int .i64 3, .int .i64 0, .int .i64 0, .int .i64 0, .slice none 0 0, .slice none 0 0, .slice none 0 0, .slice none 0 0, .slice none 0 0] 39)) (Nat.le_refl _))
  have X1 := Lib.hid (show FBox (w2.alloc (.cells #[.int .u8 5, .int .i64 1, .int .i64 1, .int .i64 2, .int .i64 1, .int .i64 3, .int .i64 0, .int .i64 0, .int .i64 0, .slice none 0 0, .slice none 0 0, .slice none 0 0, .slice none 0 0, .slice none 0 0] 39)) w2.heap.size beatF (none, 0, 0) (none, 0, 0) (none, 0, 0) (none, 0, 0) (none, 0, 0) from heap_alloc_new w2 _)
  go_wp2_with fail
  (with_reducible refine (of_any 1 _).mono ?_)
  rintro e3 w3 ⟨rfl, hb⟩
  have BA3 := Lib.hid hb
  clear hb
  go_wp2_with fail
  (with_reducible refine (of_any 2 _).mono ?_)
  rintro e4 w4 ⟨rfl, hb⟩
  have BA4 := Lib.hid hb
  clear hb
  go_wp2_with fail
  (with_reducible refine (of_any 1 _).mono ?_)
  rintro e5 w5 ⟨rfl, hb⟩
  have BA5 := Lib.hid hb
  clear hb
  have B5 := Lib.hid (below_after (below_after (below_after B2.out BA3.out (Nat.le_refl _)) BA4.out (Nat.le_refl _)) BA5.out (Nat.le_refl _))
  have X2 := Lib.hid (fbox_below (fbox_below (fbox_below X1.out BA3.out) BA4.out) BA5.out)
  have XB1 := Lib.hid (below_one w5 (.cells #[.int .i64 1, .int .i64 1, .int .u8 3, .int .i64 1] 35))
  have M1 := Lib.hid (show Ms (w5.alloc (.cells #[.int .i64 1, .int .i64 1, .int .u8 3, .int .i64 1] 35)) (.slice (some ⟨w5.heap.size, 0, none⟩) 1 1) [((1, 1), 3, 1)] from rcs_lit encM_len w5 [((1, 1), 3, 1)] #[.int .i64 1, .int .i64 1, .int .u8 3, .int .i64 1] 35 rfl)
  have XB2 := Lib.hid (below_one (w5.alloc (.cells #[.int .i64 1, .int .i64 1, .int .u8 3, .int .i64 1] 35)) (.cells #[.int .u8 2, .int .i64 1, .int .i64 1, .int .i64 2, .int .i64 1, .int .i64 0, .int .i64 0, .int .i64 0, .int .i64 0, .slice (some ⟨w5.heap.size, 0, none⟩) 1 1, .slice none 0 0, .slice none 0 0, .slice none 0 0, .slice none 0 0] 39))
  have HS6 := Lib.hid (show (w5.alloc (.cells #[.int .i64 1, .int .i64 1, .int .u8 3, .int .i64 1] 35)).heap.size = w5.heap.size + 1 by simp)
  have X3 := Lib.hid (fbox_below (fbox_below X2.out XB1.out) XB2.out)
  have X4 := Lib.hid (show FBox ((w5.alloc (.cells #[.int .i64 1, .int .i64 1, .int .u8 3, .int .i64 1] 35)).alloc (.cells #[.int .u8 2, .int .i64 1, .int .i64 1, .int .i64 2, .int .i64 1, .int .i64 0, .int .i64 0, .int .i64 0, .int .i64 0, .slice (some ⟨w5.heap.size, 0, none⟩) 1 1, .slice none 0 0, .slice none 0 0, .slice none 0 0, .slice none 0 0] 39)) (w5.heap.size + 1) welF (some ⟨w5.heap.size, 0, none⟩, 1, 1) (none, 0, 0) (none, 0, 0) (none, 0, 0) (none, 0, 0) by have := heap_alloc_new (w5.alloc (.cells #[.int .i64 1, .int .i64 1, .int .u8 3, .int .i64 1] 35)) (.cells #[.int .u8 2, .int .i64 1, .int .i64 1, .int .i64 2, .int .i64 1, .int .i64 0, .int .i64 0, .int .i64 0, .int .i64 0, .slice (some ⟨w5.heap.size, 0, none⟩) 1 1, .slice none 0 0, .slice none 0 0, .slice none 0 0, .slice none 0 0] 39); rw [HS6.out] at this; exact this)
  have RW := Lib.hid (show RV ((w5.alloc (.cells #[.int .i64 1, .int .i64 1, .int .u8 3, .int .i64 1] 35)).alloc (.cells #[.int .u8 2, .int .i64 1, .int .i64 1, .int .i64 2, .int .i64 1, .int .i64 0, .int .i64 0, .int .i64 0, .int .i64 0, .slice (some ⟨w5.heap.size, 0, none⟩) 1 1, .slice none 0 0, .slice none 0 0, .slice none 0 0, .slice none 0 0] 39)) (some ⟨w5.heap.size, 0, none⟩, 1, 1) (none, 0, 0) (none, 0, 0) (none, 0, 0) (none, 0, 0) welF.v from ⟨M1.out.below XB2.out, (nilRV _).f, (nilRV _).r, (nilRV _).c, (nilRV _).s⟩)
  have B6 := Lib.hid (below_after (below_after B5.out XB1.out (Nat.le_refl _)) XB2.out (Nat.le_refl _))
  obtain ⟨p0, p1, p2, p3, p4, p5, p6, p7, p8, p9, p10, p11, p12, p13⟩ := fbox_cells X3.out
  dsimp only [beatF] at p0 p1 p2 p3 p4 p5 p6 p7 p8 p9 p10 p11 p12 p13
  have HS7 := Lib.hid (show ((w5.alloc (.cells #[.int .i64 1, .int .i64 1, .int .u8 3, .int .i64 1] 35)).alloc (.cells #[.int .u8 2, .int .i64 1, .int .i64 1, .int .i64 2, .int .i64 1, .int .i64 0, .int .i64 0, .int .i64 0, .int .i64 0, .slice (some ⟨w5.heap.size, 0, none⟩) 1 1, .slice none 0 0, .slice none 0 0, .slice none 0 0, .slice none 0 0] 39)).heap.size = w5.heap.size + 1 + 1 by simp)
  go_wp2_with fail
  have B7 := Lib.hid (below_one ((w5.alloc (.cells #[.int .i64 1, .int .i64 1, .int .u8 3, .int .i64 1] 35)).alloc (.cells #[.int .u8 2, .int .i64 1, .int .i64 1, .int .i64 2, .int .i64 1, .int .i64 0, .int .i64 0, .int .i64 0, .int .i64 0, .slice (some ⟨w5.heap.size, 0, none⟩) 1 1, .slice none 0 0, .slice none 0 0, .slice none 0 0, .slice none 0 0] 39)) (.cells #[.int .u8 5, .int .i64 1, .int .i64 1, .int .i64 2, .int .i64 1, .int .i64 3, .int .i64 1, .int .i64 0, .int .i64 0, .slice none 0 0, .slice none 0 0, .slice none 0 0, .slice none 0 0, .slice none 0 0] 39))
  have X5 := Lib.hid (fbox_below X3.out B7.out)
  have X6 := Lib.hid (fbox_below X4.out B7.out)
  have RW7 := Lib.hid (RW.out.below B7.out)
  have BB := Lib.hid (below_after B6.out B7.out (Nat.le_refl _))
  clear p0 p1 p2 p3 p4 p5 p6 p7 p8 p9 p10 p11 p12 p13 X1 X2 X3 X4 XB1 XB2 M1 HS6 HS7 RW B7 B6 B5 B2 BA1 BA2 BA3 BA4 BA5
  generalize ((w5.alloc (.cells #[.int .i64 1, .int .i64 1, .int .u8 3, .int .i64 1] 35)).alloc (.cells #[.int .u8 2, .int .i64 1, .int .i64 1, .int .i64 2, .int .i64 1, .int .i64 0, .int .i64 0, .int .i64 0, .int .i64 0, .slice (some ⟨w5.heap.size, 0, none⟩) 1 1, .slice none 0 0, .slice none 0 0, .slice none 0 0, .slice none 0 0] 39)).alloc (.cells #[.int .u8 5, .int .i64 1, .int .i64 1, .int .i64 2, .int .i64 1, .int .i64 3, .int .i64 1, .int .i64 0, .int .i64 0, .slice none 0 0, .slice none 0 0, .slice none 0 0, .slice none 0 0, .slice none 0 0] 39) = w7 at *
  generalize w2.heap.size = Xb at *
  generalize w5.heap.size = g5 at *
  (with_reducible refine (enc_bad _).mono ?_)
  rintro e8 w8 ⟨rfl, hb⟩
  have XA8 := Lib.hid (fbox_below X5.out hb)
  have XB8 := Lib.hid (fbox_below X6.out hb)
  have RW8 := Lib.hid (RW7.out.below hb)
  have BB8 := Lib.hid (below_after BB.out hb (Nat.le_refl _))
  clear hb X5 X6 RW7 BB
  go_wp2_with fail
  (with_reducible refine (dec_a _).mono ?_)
  rintro e9 w9 ⟨a, b, c, d, e, rfl, _, hb0⟩
  generalize decF [] = F1 at *
  have hb := below_after hb0 (below_one w9 (.cells #[.int .u8 F1.k, .int .i64 F1.f.1, .int .i64 F1.f.2, .int .i64 F1.t.1, .int .i64 F1.t.2, .int .i64 F1.n, .int .i64 F1.q, .int .i64 F1.b.1, .int .i64 F1.b.2, .slice a.1 a.2.1 a.2.2, .slice b.1 b.2.1 b.2.2, .slice c.1 c.2.1 c.2.2, .slice d.1 d.2.1 d.2.2, .slice e.1 e.2.1 e.2.2] 39)) (Nat.le_refl _)
  clear hb0
  have XA9 := Lib.hid (fbox_below XA8.out hb)
  have XB9 := Lib.hid (fbox_below XB8.out hb)
  have RW9 := Lib.hid (RW8.out.below hb)
  have BB9 := Lib.hid (below_after BB8.out hb (Nat.le_refl _))
  clear hb XA8 XB8 RW8 BB8
  go_wp2_with fail
  (with_reducible refine (dec_b _).mono ?_)
  rintro e10 w10 ⟨a2, b2, c2, d2, e2, rfl, _, hb0⟩
  generalize decF [0, 0, 0, 0] = F2 at *
  have hb := below_after hb0 (below_one w10 (.cells #[.int .u8 F2.k, .int .i64 F2.f.1, .int .i64 F2.f.2, .int .i64 F2.t.1, .int .i64 F2.t.2, .int .i64 F2.n, .int .i64 F2.q, .int .i64 F2.b.1, .int .i64 F2.b.2, .slice a2.1 a2.2.1 a2.2.2, .slice b2.1 b2.2.1 b2.2.2, .slice c2.1 c2.2.1 c2.2.2, .slice d2.1 d2.2.1 d2.2.2, .slice e2.1 e2.2.1 e2.2.2] 39)) (Nat.le_refl _)
  clear hb0
  have XA10 := Lib.hid (fbox_below XA9.out hb)
  have XB10 := Lib.hid (fbox_below XB9.out hb)
  have RW10 := Lib.hid (RW9.out.below hb)
  have BB10 := Lib.hid (below_after BB9.out hb (Nat.le_refl _))
  clear hb XA9 XB9 RW9 BB9
  obtain ⟨p0, p1, p2, p3, p4, p5, p6, p7, p8, p9, p10, p11, p12, p13⟩ := fbox_cells XA10.out
  dsimp only [beatF] at p0 p1 p2 p3 p4 p5 p6 p7 p8 p9 p10 p11 p12 p13
  obtain ⟨q0, q1, q2, q3, q4, q5, q6, q7, q8, q9, q10, q11, q12, q13⟩ := fbox_cells XB10.out
  dsimp only [welF] at q0 q1 q2 q3 q4 q5 q6 q7 q8 q9 q10 q11 q12 q13
  go_wp2_with fail
  (with_reducible refine (back_beat _).mono ?_)
  rintro e11 w11 ⟨rfl, hb⟩
  clear p0 p1 p2 p3 p4 p5 p6 p7 p8 p9 p10 p11 p12 p13 q0 q1 q2 q3 q4 q5 q6 q7 q8 q9 q10 q11 q12 q13
  have XA11 := Lib.hid (fbox_below XA10.out hb)
  have XB11 := Lib.hid (fbox_below XB10.out hb)
  have RW11 := Lib.hid (RW10.out.below hb)
  have BB11 := Lib.hid (below_after BB10.out hb (Nat.le_refl _))
  clear hb XA10 XB10 RW10 BB10
  obtain ⟨q0, q1, q2, q3, q4, q5, q6, q7, q8, q9, q10, q11, q12, q13⟩ := fbox_cells XB11.out
  dsimp only [welF] at q0 q1 q2 q3 q4 q5 q6 q7 q8 q9 q10 q11 q12 q13
  go_wp2_with fail
  (with_reducible refine (back_wel _ g5 RW11.out).mono ?_)
  rintro e12 w12 ⟨rfl, hb⟩
  have BB12 := Lib.hid (below_after BB11.out hb (Nat.le_refl _))
  clear hb q0 q1 q2 q3 q4 q5 q6 q7 q8 q9 q10 q11 q12 q13
  go_wp2_with fail
  go_ret
  exact ⟨rfl, BB12.out⟩
end Go.Proofs.YtkeiekljedhllaaGreat
namespace Go.Proofs.YtkeiekljedhllaaGreat
open Go.RowKit Go.WideShapes Go.ChangeShapes Go.ChangeAt
section
variable {H : Type} {enc : TypeId × Value → H}
theorem vcells3 : Tryz.prog.cellsOf 3 = 1 := by kernel_rfl
theorem vcells5 : Tryz.prog.cellsOf 5 = 1 := by kernel_rfl
theorem vcells22 : Tryz.prog.cellsOf 30 = 1 := by kernel_rfl
theorem vcells23 : Tryz.prog.cellsOf 29 = 1 := by kernel_rfl
theorem vcells24 : Tryz.prog.cellsOf 31 = 1 := by kernel_rfl
theorem vcells25 : Tryz.prog.cellsOf 28 = 1 := by kernel_rfl
theorem vcells27 : Tryz.prog.cellsOf 33 = 5 := by kernel_rfl
theorem vcells29 : Tryz.prog.cellsOf 24 = 2 := by kernel_rfl
theorem vcells31 : Tryz.prog.cellsOf 35 = 4 := by kernel_rfl
theorem vcells46 : Tryz.prog.cellsOf 37 = 4 := by kernel_rfl
theorem vcells48 : Tryz.prog.cellsOf 27 = 3 := by kernel_rfl
theorem velem_id {w : World} {base : Nat} {spare : Nat → Bool} {held : Bool} (n : Nat) (cs : List Value) (d : DataW H × List MemPlace) (h : DataW.trod enc Tryz.prog w base spare held n 24 cs = some d) : ∃ r : Sets.Id2, cs = encI r := by
  obtain ⟨y0, y1, n', _, hl, h0, h1⟩ := trod_struct2 Tryz.underlying24 h
  rw [vcells29] at hl
  match cs, hl with
  | [a, b], _ =>
    rw [show Tryz.prog.cellsOf 3 = 1 from vcells3] at h0 h1
    obtain ⟨x, e0, _, _⟩ := DataW.trod_int Tryz.underlying3 h0
    obtain ⟨y, e1, _, _⟩ := DataW.trod_int Tryz.underlying3 h1
    simp at e0 e1
    exact ⟨(x, y), by simp [encI, e0, e1]⟩
theorem velem_tick {w : World} {base : Nat} {spare : Nat → Bool} {held : Bool} (n : Nat) (cs : List Value) (d : DataW H × List MemPlace) (h : DataW.trod enc Tryz.prog w base spare held n 27 cs = some d) : ∃ r : Clocks.Tick, cs = encT r := by
  obtain ⟨y0, y1, n', _, hl, h0, h1⟩ := trod_struct2 Tryz.underlying27 h
  rw [vcells48] at hl
  match cs, hl with
  | [a, b, c], _ =>
    rw [show Tryz.prog.cellsOf 24 = 2 from vcells29] at h0
    rw [show Tryz.prog.cellsOf 3 = 1 from vcells3] at h1
    obtain ⟨z0, z1, n2, _, _, k0, k1⟩ := trod_struct2 Tryz.underlying24 h0
    rw [show Tryz.prog.cellsOf 3 = 1 from vcells3] at k0 k1
    obtain ⟨x, e0, _, _⟩ := DataW.trod_int Tryz.underlying3 k0
    obtain ⟨y, e1, _, _⟩ := DataW.trod_int Tryz.underlying3 k1
    obtain ⟨z, e2, _, _⟩ := DataW.trod_int Tryz.underlying3 h1
    simp at e0 e1 e2
    exact ⟨((x, y), z), by simp [encT, e0, e1, e2]⟩
end
end Go.Proofs.YtkeiekljedhllaaGreat
namespace Go.Proofs.YtkeiekljedhllaaGreat
open Go Go.RowKit Go.WideShapes Go.ChangeShapes Go.ChangeAt
section
variable {α : Type} {H : Type} {enc' : TypeId × Value → H} {P : Program} {w : World} {base : Nat} {spare : Nat → Bool} {held : Bool} {enc : α → List Value} {sz : Nat}
theorem weightsAll_mem {e : TypeId} : ∀ {l : List (DataW H)} {d : DataW H}, d ∈ l → ∀ k ∈ d.weights P e, k ∈ DataW.weightsAll P e l
  | x :: l, d, hd, k, hk => by
    unfold DataW.weightsAll
    rcases List.mem_cons.1 hd with rfl | hd
    · exact List.mem_append_left _ hk
    · exact List.mem_append_right _ (weightsAll_mem hd k hk)
theorem open_recs_sized [Inhabited α] (Pr : α → Prop) {t e : TypeId} {fuel : Nat} {cs : List Value} {x : DataW H × List MemPlace} (ht : P.underlying t = some (.slice e)) (ce : P.cellsOf e = sz) (hs : ∀ a, (enc a).length = sz)
    (elem : ∀ (n : Nat) (cs : List Value) (d : DataW H × List MemPlace), DataW.trod enc' P w base spare held n e cs = some d → (∀ k ∈ d.1.weights P e, k ≤ reachBytes) → ∃ r : α, cs = enc r ∧ Pr r)
    (hsz : 0 < sz) (h : DataW.trod enc' P w base spare held fuel t cs = some x) (hw : ∀ k ∈ x.1.weights P t, k ≤ reachBytes) : ∃ v, cs = [v] ∧ ∃ l : List α, Rcs enc sz w v l ∧ (∀ r ∈ l, Pr r) ∧ l.length * P.bytesOf e ≤ reachBytes := by
  rcases Deep.open_slice ht h with ⟨rfl, _⟩ | ⟨a, len, cap, m, n, D, Pl, rfl, hb, hl, hm, hmm, rfl, hx⟩
  · exact ⟨_, rfl, [], Rcs.nil w, (fun r hr => by cases hr), by simp⟩
  · have hlm : len ≤ m := by rw [hmm]; split <;> omega
    have hD : ∀ i, i < len → ∀ k ∈ (D i).weights P e, k ≤ reachBytes := fun i hi k hk => hw k (by
      simp only [DataW.weights, ht]
      exact List.mem_cons_of_mem _ (List.mem_append_left _ (weightsAll_mem (List.mem_map.2 ⟨i, List.mem_range.2 hi, rfl⟩) k hk)))
    have hlen : len * P.bytesOf e ≤ reachBytes := by
      have := hw ((len + (m - len)) * P.bytesOf e) (by simp [DataW.weights, ht])
      exact Nat.le_trans (Nat.mul_le_mul_right _ (Nat.le_add_right _ _)) this
    have each : ∀ i, i < len → ∃ r : α, Pr r ∧ ∀ j u, (enc r)[j]? = some u → w.cell? ((a.add (i * sz)).add j) = some u := by
      intro i hi
      obtain ⟨cs', h1, h2⟩ := hx i (by omega)
      rw [ce] at h1
      obtain ⟨r, rfl, hp⟩ := elem _ _ _ h2 (hD i hi)
      obtain ⟨_, hlen, hcell⟩ := World.cells?_some h1
      refine ⟨r, hp, fun j u hu => ?_⟩
      have hj := (List.getElem?_eq_some_iff.1 hu).1
      rw [hs] at hj
      rw [hcell j hj]
      exact hu
    obtain ⟨q, hq, hpq⟩ : ∃ q : List α, (q.length = len ∧ ∀ i (h : i < q.length), ∀ j u, (enc q[i])[j]? = some u → w.cell? ((a.add (i * sz)).add j) = some u) ∧ ∀ r ∈ q, Pr r := by
      clear hx hlm hmm hl hm h hD hlen hw
      induction len with
      | zero => exact ⟨[], ⟨rfl, fun i h => absurd h (by simp)⟩, fun r hr => by cases hr⟩
      | succ len ih =>
        obtain ⟨q, ⟨h1, h2⟩, h3⟩ := ih (fun i hi => each i (by omega))
        obtain ⟨r, hp, hr⟩ := each len (by omega)
        refine ⟨q ++ [r], ⟨by simp [h1], fun i hi j u hu => ?_⟩, fun u hu => ?_⟩
        rotate_left
        · rcases List.mem_append.1 hu with hu | hu
          · exact h3 u hu
          · rw [List.mem_singleton.1 hu]; exact hp
        rw [List.length_append] at hi
        by_cases e : i < q.length
        · rw [List.getElem_append_left e] at hu
          exact h2 i e j u hu
        · have : i = q.length := by simp at hi; omega
          subst this
          rw [List.getElem_append_right (Nat.le_refl _)] at hu
          simp at hu
          rw [h1]
          exact hr j u hu
    refine ⟨_, rfl, q, ⟨some a, cap, by rw [hq.1], (fun h => by cases h), by rw [hq.1]; exact hl, fun k hk => ⟨a, rfl, ?_, fun j u hu => ?_⟩⟩, hpq, by rw [hq.1]; exact hlen⟩
    · have hcl : 0 < (enc q[k]).length := by rw [hs]; exact hsz
      have := hq.2 k hk 0 _ (List.getElem?_eq_getElem hcl)
      have := World.block_lt_of_cell? w _ this
      rwa [addr_block, addr_block] at this
    · have := hq.2 k hk j u hu
      rcases Nat.eq_zero_or_pos (k * sz) with e | e
      · rw [e] at this ⊢
        rw [Nat.zero_add]
        have e2 : a.add 0 = a := by unfold Addr.add; simp
        rwa [e2] at this
      · rwa [addr_add_add _ _ _ e] at this
end
section
variable {H : Type} {enc : TypeId × Value → H}
/-- No list is longer than a machine bears. -/
structure WideV (V : Vw) : Prop where
  m : V.m.length ≤ 8796093022208
  f : V.f.length ≤ 8796093022208
  r : V.r.length ≤ 8796093022208
  c : V.c.length ≤ 8796093022208
  s : V.s.length ≤ 8796093022208
  n : ∀ r ∈ V.r, r.2.2.length ≤ 8796093022208
  u : ∀ x ∈ V.m, 0 ≤ x.2.1 ∧ x.2.1 < 256
theorem bytes25 : Tryz.prog.bytesOf 24 = 16 := by kernel_rfl
theorem bytes24 : Tryz.prog.bytesOf 35 = 0x20 := by kernel_rfl
theorem bytes26 : Tryz.prog.bytesOf 37 = 48 := by kernel_rfl
theorem bytes27 : Tryz.prog.bytesOf 27 = 0x18 := by kernel_rfl
theorem wide_len {n k : Nat} (h : n * k ≤ reachBytes) (hk : 16 ≤ k) : n ≤ 8796093022208 := by
  have h1 : n * 16 ≤ reachBytes := Nat.le_trans (Nat.mul_le_mul_left _ hk) h
  have h2 : reachBytes = 140737488351232 := rfl
  omega
theorem velem_mem_in {w : World} {base : Nat} {spare : Nat → Bool} {held : Bool} (n : Nat) (cs : List Value) (d : DataW H × List MemPlace) (h : DataW.trod enc Tryz.prog w base spare held n 35 cs = some d) : ∃ r : Ros.Mm, cs = encM r ∧ 0 ≤ r.2.1 ∧ r.2.1 < 256 := by
  obtain ⟨xs, n', _, _, hl, hlen, hf⟩ := DataW.trod_struct Tryz.underlying35 h
  rw [vcells31] at hl
  match cs, hl, xs, hlen with
  | [a, b, c, s], _, [y0, y1, y2], _ =>
    have h0 : DataW.trod enc Tryz.prog w base spare held n' 24 (([a, b, c, s].drop 0).take (Tryz.prog.cellsOf 24)) = some y0 := hf 0 _ rfl
    have h1 : DataW.trod enc Tryz.prog w base spare held n' 5 (([a, b, c, s].drop 2).take (Tryz.prog.cellsOf 5)) = some y1 := hf 1 _ rfl
    have h2 : DataW.trod enc Tryz.prog w base spare held n' 3 (([a, b, c, s].drop 3).take (Tryz.prog.cellsOf 3)) = some y2 := hf 2 _ rfl
    rw [show Tryz.prog.cellsOf 24 = 2 from vcells29] at h0
    rw [show Tryz.prog.cellsOf 5 = 1 from vcells5] at h1
    rw [show Tryz.prog.cellsOf 3 = 1 from vcells3] at h2
    obtain ⟨r, e0⟩ := velem_id _ _ _ h0
    obtain ⟨v, e1, _, hwf⟩ := DataW.trod_int Tryz.underlying5 h1
    obtain ⟨u, e2, _, _⟩ := DataW.trod_int Tryz.underlying3 h2
    simp [encI] at e0 e1 e2
    refine ⟨(r, v, u), by simp [encM, e0, e1, e2], ?_⟩
    simp [Lit.wf, IntKind.min, IntKind.max, IntKind.signed, IntKind.bits] at hwf
    exact ⟨by show 0 ≤ v; omega, by show v < 256; omega⟩
/-- A row's list reads, and is no longer than a machine bears. -/
def KnownW (w : World) (q : Raw) : Prop := ∃ m, Ids w (slc q) m ∧ m.length ≤ 8796093022208
theorem velem_row_in {w : World} {base : Nat} {spare : Nat → Bool} {held : Bool} (n : Nat) (cs : List Value) (d : DataW H × List MemPlace) (h : DataW.trod enc Tryz.prog w base spare held n 37 cs = some d) (hw : ∀ k ∈ d.1.weights Tryz.prog 37, k ≤ reachBytes) : ∃ q : Raw, cs = encW q ∧ KnownW w q := by
  obtain ⟨xs, n', _, rfl, hl, hlen, hf⟩ := DataW.trod_struct Tryz.underlying37 h
  rw [vcells46] at hl
  match cs, hl, xs, hlen with
  | [a, b, c, s], _, [y0, y1, y2], _ =>
    have h0 : DataW.trod enc Tryz.prog w base spare held n' 24 (([a, b, c, s].drop 0).take (Tryz.prog.cellsOf 24)) = some y0 := hf 0 _ rfl
    have h1 : DataW.trod enc Tryz.prog w base spare held n' 3 (([a, b, c, s].drop 2).take (Tryz.prog.cellsOf 3)) = some y1 := hf 1 _ rfl
    have h2 : DataW.trod enc Tryz.prog w base spare held n' 29 (([a, b, c, s].drop 3).take (Tryz.prog.cellsOf 29)) = some y2 := hf 2 _ rfl
    have hw2 : ∀ k ∈ y2.1.weights Tryz.prog 29, k ≤ reachBytes := fun k hk => hw k (by
      simp only [DataW.weights, Tryz.underlying37]
      exact DataW.weights_mem_each (j := 2) rfl rfl k hk)
    rw [show Tryz.prog.cellsOf 24 = 2 from vcells29] at h0
    rw [show Tryz.prog.cellsOf 3 = 1 from vcells3] at h1
    rw [show Tryz.prog.cellsOf 29 = 1 from vcells23] at h2
    obtain ⟨r, e0⟩ := velem_id _ _ _ h0
    obtain ⟨v, e1, _, _⟩ := DataW.trod_int Tryz.underlying3 h1
    obtain ⟨s', e2, l, hl, -, hlw⟩ := open_recs_sized (enc := encI) (sz := 2) (fun _ => True) Tryz.underlying29 vcells29 encI_len (fun n cs d h _ => by obtain ⟨r, hr⟩ := velem_id n cs d h; exact ⟨r, hr, trivial⟩) (by omega) h2 hw2
    have hI := ids_rcs hl
    obtain ⟨A, k, rfl, _⟩ := id hI
    simp [encI] at e0 e1 e2
    rw [bytes25] at hlw
    exact ⟨(r, v, A, l.length, k), by simp [encW, slc, e0, e1, e2], ⟨l, hI, wide_len hlw (by omega)⟩⟩
theorem eachReads_wide {w : World} : ∀ {qs : List Raw}, (∀ q ∈ qs, KnownW w q) → ∃ l, EachReads w qs l ∧ ∀ r ∈ l, r.2.2.length ≤ 8796093022208
  | [], _ => ⟨[], trivial, fun r hr => by cases hr⟩
  | q :: qs, h => by
    obtain ⟨m, hm, hl⟩ := h q (by simp)
    obtain ⟨l, h1, h2⟩ := eachReads_wide (qs := qs) fun u hu => h u (List.mem_cons_of_mem _ hu)
    refine ⟨(q.1, q.2.1, m) :: l, ⟨⟨rfl, rfl, hm⟩, h1⟩, fun r hr => ?_⟩
    rcases List.mem_cons.1 hr with rfl | hr
    · exact hl
    · exact h2 r hr
theorem velem_view_wide {w : World} {n : Nat} {cs : List Value} {d : DataW H × List MemPlace} (hf : DataW.trod enc Tryz.prog w 0 (fun _ => true) true n 33 cs = some d) (hw : ∀ k ∈ d.1.weights Tryz.prog 33, k ≤ reachBytes) :
    ∃ (a b c d e : SL) (V : Vw), cs = [.slice a.1 a.2.1 a.2.2, .slice b.1 b.2.1 b.2.2, .slice c.1 c.2.1 c.2.2, .slice d.1 d.2.1 d.2.2, .slice e.1 e.2.1 e.2.2] ∧ RV w a b c d e V ∧ WideV V := by
  obtain ⟨xs, n', _, rfl, hl, hlen, hx⟩ := DataW.trod_struct Tryz.underlying33 hf
  rw [vcells27] at hl
  obtain ⟨v0, v1, v2, v3, v4, rfl⟩ : ∃ v0 v1 v2 v3 v4, cs = [v0, v1, v2, v3, v4] := by
    match cs, hl with
    | [v0, v1, v2, v3, v4], _ => exact ⟨v0, v1, v2, v3, v4, rfl⟩
  match xs, hlen with
  | [y0, y1, y2, y3, y4], _ =>
    have h0 : DataW.trod enc Tryz.prog w 0 (fun _ => true) true n' 30 (([v0, v1, v2, v3, v4].drop 0).take (Tryz.prog.cellsOf 30)) = some y0 := hx 0 _ rfl
    have h1 : DataW.trod enc Tryz.prog w 0 (fun _ => true) true n' 29 (([v0, v1, v2, v3, v4].drop 1).take (Tryz.prog.cellsOf 29)) = some y1 := hx 1 _ rfl
    have h2 : DataW.trod enc Tryz.prog w 0 (fun _ => true) true n' 31 (([v0, v1, v2, v3, v4].drop 2).take (Tryz.prog.cellsOf 31)) = some y2 := hx 2 _ rfl
    have h3 : DataW.trod enc Tryz.prog w 0 (fun _ => true) true n' 28 (([v0, v1, v2, v3, v4].drop 3).take (Tryz.prog.cellsOf 28)) = some y3 := hx 3 _ rfl
    have h4 : DataW.trod enc Tryz.prog w 0 (fun _ => true) true n' 29 (([v0, v1, v2, v3, v4].drop 4).take (Tryz.prog.cellsOf 29)) = some y4 := hx 4 _ rfl
    have hk : ∀ (j : Nat) (t : TypeId) (y : DataW H), [30, 29, 31, 28, 29][j]? = some t → [y0.1, y1.1, y2.1, y3.1, y4.1][j]? = some y → ∀ k ∈ y.weights Tryz.prog t, k ≤ reachBytes := fun j t y ht hy k hk => hw k (by
      simp only [DataW.weights, Tryz.underlying33]
      exact DataW.weights_mem_each (j := j) ht hy k hk)
    rw [show Tryz.prog.cellsOf 30 = 1 from vcells22] at h0
    rw [show Tryz.prog.cellsOf 29 = 1 from vcells23] at h1 h4
    rw [show Tryz.prog.cellsOf 31 = 1 from vcells24] at h2
    rw [show Tryz.prog.cellsOf 28 = 1 from vcells25] at h3
    obtain ⟨s0, e0, m, k0, q0, z0⟩ := open_recs_sized (enc := encM) (sz := 4) (fun r => 0 ≤ r.2.1 ∧ r.2.1 < 256) Tryz.underlying30 vcells31 encM_len (fun n cs d h _ => velem_mem_in n cs d h) (by omega) h0 (hk 0 30 y0.1 rfl rfl)
    obtain ⟨s1, e1, f, k1, -, z1⟩ := open_recs_sized (enc := encI) (sz := 2) (fun _ => True) Tryz.underlying29 vcells29 encI_len (fun n cs d h _ => by obtain ⟨r, hr⟩ := velem_id n cs d h; exact ⟨r, hr, trivial⟩) (by omega) h1 (hk 1 29 y1.1 rfl rfl)
    obtain ⟨s2, e2, qs, k2, kw, z2⟩ := open_recs_sized (enc := encW) (sz := 4) (KnownW w) Tryz.underlying31 vcells46 encW_len (fun n cs d h hw => velem_row_in n cs d h hw) (by omega) h2 (hk 2 31 y2.1 rfl rfl)
    obtain ⟨s3, e3, t, k3, -, z3⟩ := open_recs_sized (enc := encT) (sz := 3) (fun _ => True) Tryz.underlying28 vcells48 encT_len (fun n cs d h _ => by obtain ⟨r, hr⟩ := velem_tick n cs d h; exact ⟨r, hr, trivial⟩) (by omega) h3 (hk 3 28 y3.1 rfl rfl)
    obtain ⟨s4, e4, s, k4, -, z4⟩ := open_recs_sized (enc := encI) (sz := 2) (fun _ => True) Tryz.underlying29 vcells29 encI_len (fun n cs d h _ => by obtain ⟨r, hr⟩ := velem_id n cs d h; exact ⟨r, hr, trivial⟩) (by omega) h4 (hk 4 29 y4.1 rfl rfl)
    obtain ⟨r, hr, hrn⟩ := eachReads_wide kw
    simp at e0 e1 e2 e3 e4
    subst e0 e1 e2 e3 e4
    obtain ⟨a, rfl⟩ := sl_rcs k0
    obtain ⟨b, rfl⟩ := sl_ids (ids_rcs k1)
    obtain ⟨c, rfl⟩ := sl_rows (w := w) (l := r) ⟨qs, k2, hr⟩
    obtain ⟨d, rfl⟩ := sl_rcs k3
    obtain ⟨e, rfl⟩ := sl_ids (ids_rcs k4)
    refine ⟨a, b, c, d, e, ⟨m, f, r, t, s⟩, rfl, ⟨k0, ids_rcs k1, ⟨qs, k2, hr⟩, k3, ids_rcs k4⟩, ⟨?_, ?_, ?_, ?_, ?_, hrn, q0⟩⟩
    · exact wide_len z0 (by rw [bytes24]; omega)
    · exact wide_len z1 (by rw [bytes25]; omega)
    · have := wide_len z2 (by rw [bytes26]; omega)
      rw [hr.len] at this
      exact this
    · exact wide_len z3 (by rw [bytes27]; omega)
    · exact wide_len z4 (by rw [bytes25]; omega)
theorem fcells39 : Tryz.prog.cellsOf 39 = 14 := by kernel_rfl
theorem list_14 {l : List Value} (h : l.length = 14) : ∃ v0 v1 v2 v3 v4 v5 v6 v7 v8 v9 va vb vc vd, l = [v0, v1, v2, v3, v4, v5, v6, v7, v8, v9, va, vb, vc, vd] := by
  match l, h with
  | [v0, v1, v2, v3, v4, v5, v6, v7, v8, v9, va, vb, vc, vd], _ => exact ⟨v0, v1, v2, v3, v4, v5, v6, v7, v8, v9, va, vb, vc, vd, rfl⟩
theorem open_frame {w : World} {b0 : Nat} {v : Value} {d : DataW H} {p : List MemPlace} (hv : Value.okWide Tryz.prog w .any b0 39 v) (h : DataW.Trod enc Tryz.prog w 0 (fun _ => true) true 39 v d p) (hw : ∀ k ∈ d.weights Tryz.prog 39, k ≤ reachBytes) :
    ∃ F : Fr, FAt w v F ∧ WideV F.v := by
  obtain ⟨cs, rfl, hsz⟩ := okWide_struct Tryz.underlying39 hv
  obtain ⟨fuel, hf⟩ := h
  obtain ⟨xs, n', _, hd, hl, hlen, hx⟩ := DataW.trod_struct Tryz.underlying39 hf
  obtain ⟨rfl, -⟩ := Prod.mk.inj hd
  rw [fcells39] at hl
  have hcs : (Value.agg cs).cells.toList = cs.toList := rfl
  obtain ⟨v0, v1, v2, v3, v4, v5, v6, v7, v8, v9, va, vb, vc, vd, e⟩ := list_14 (show cs.toList.length = 14 by rw [← hcs]; exact hl)
  rw [hcs, e] at hx
  match xs, hlen with
  | [y0, y1, y2, y3, y4, y5, y6], _ =>
    have h0 : DataW.trod enc Tryz.prog w 0 (fun _ => true) true n' 5 (([v0, v1, v2, v3, v4, v5, v6, v7, v8, v9, va, vb, vc, vd].drop 0).take (Tryz.prog.cellsOf 5)) = some y0 := hx 0 _ rfl
    have h1 : DataW.trod enc Tryz.prog w 0 (fun _ => true) true n' 24 (([v0, v1, v2, v3, v4, v5, v6, v7, v8, v9, va, vb, vc, vd].drop 1).take (Tryz.prog.cellsOf 24)) = some y1 := hx 1 _ rfl
    have h2 : DataW.trod enc Tryz.prog w 0 (fun _ => true) true n' 24 (([v0, v1, v2, v3, v4, v5, v6, v7, v8, v9, va, vb, vc, vd].drop 3).take (Tryz.prog.cellsOf 24)) = some y2 := hx 2 _ rfl
    have h3 : DataW.trod enc Tryz.prog w 0 (fun _ => true) true n' 3 (([v0, v1, v2, v3, v4, v5, v6, v7, v8, v9, va, vb, vc, vd].drop 5).take (Tryz.prog.cellsOf 3)) = some y3 := hx 3 _ rfl
    have h4 : DataW.trod enc Tryz.prog w 0 (fun _ => true) true n' 3 (([v0, v1, v2, v3, v4, v5, v6, v7, v8, v9, va, vb, vc, vd].drop 6).take (Tryz.prog.cellsOf 3)) = some y4 := hx 4 _ rfl
    have h5 : DataW.trod enc Tryz.prog w 0 (fun _ => true) true n' 24 (([v0, v1, v2, v3, v4, v5, v6, v7, v8, v9, va, vb, vc, vd].drop 7).take (Tryz.prog.cellsOf 24)) = some y5 := hx 5 _ rfl
    have h6 : DataW.trod enc Tryz.prog w 0 (fun _ => true) true n' 33 (([v0, v1, v2, v3, v4, v5, v6, v7, v8, v9, va, vb, vc, vd].drop 9).take (Tryz.prog.cellsOf 33)) = some y6 := hx 6 _ rfl
    have hw6 : ∀ k ∈ y6.1.weights Tryz.prog 33, k ≤ reachBytes := fun k hk => hw k (by
      simp only [DataW.weights, Tryz.underlying39]
      exact DataW.weights_mem_each (j := 6) rfl rfl k hk)
    rw [show Tryz.prog.cellsOf 5 = 1 from vcells5] at h0
    rw [show Tryz.prog.cellsOf 24 = 2 from vcells29] at h1 h2 h5
    rw [show Tryz.prog.cellsOf 3 = 1 from vcells3] at h3 h4
    rw [show Tryz.prog.cellsOf 33 = 5 from vcells27] at h6
    obtain ⟨k, e0, _, _⟩ := DataW.trod_int Tryz.underlying5 h0
    obtain ⟨r1, e1⟩ := velem_id _ _ _ h1
    obtain ⟨r2, e2⟩ := velem_id _ _ _ h2
    obtain ⟨n3, e3, _, _⟩ := DataW.trod_int Tryz.underlying3 h3
    obtain ⟨n4, e4, _, _⟩ := DataW.trod_int Tryz.underlying3 h4
    obtain ⟨r5, e5⟩ := velem_id _ _ _ h5
    obtain ⟨a, b, c, d, e', V, e6, hr, hwv⟩ := velem_view_wide h6 hw6
    simp [encI] at e0 e1 e2 e3 e4 e5 e6
    obtain ⟨rfl, rfl⟩ := e1
    obtain ⟨rfl, rfl⟩ := e2
    obtain ⟨rfl, rfl⟩ := e5
    obtain ⟨rfl, rfl, rfl, rfl, rfl⟩ := e6
    subst e0 e3 e4
    have hcs2 := Array.toList_inj.1 (show cs.toList = (#[_, _, _, _, _, _, _, _, _, _, _, _, _, _] : Array Value).toList from e)
    rw [hcs2]
    exact ⟨⟨k, r1, r2, n3, n4, r5, V⟩, ⟨a, b, c, d, e', rfl, hr⟩, hwv⟩
end
end Go.Proofs.YtkeiekljedhllaaGreat
