/-
  Boxes of frames and views; walks over frames that are compared, where both are the same. No statement is proved in this text.
-/
import Derived.Test.YtmgiglefabbmcaaOutB
set_option maxRecDepth 20000
namespace Go.Proofs.Ytmgiglefabbmcaa
open Go Go.RowKit
/-- Block g holds a frame. -/
def FB (w : World) (g : Nat) (q : Fq) : Prop := w.heap[g]? = some (.cells (fc q) 32 (0, 0))
theorem fb_cells {w : World} {g : Nat} {q : Fq} (h : FB w g q) : w.cell? ⟨g, 0, none⟩ = some (.int .u8 q.F.k) ∧ w.cell? ⟨g, 1, none⟩ = some (.int .i64 q.F.f.1) ∧ w.cell? ⟨g, 2, none⟩ = some (.int .i64 q.F.f.2) ∧ w.cell? ⟨g, 3, none⟩ = some (.int .i64 q.F.t.1) ∧ w.cell? ⟨g, 4, none⟩ = some (.int .i64 q.F.t.2) ∧ w.cell? ⟨g, 5, none⟩ = some (.int .i64 q.F.n) ∧ w.cell? ⟨g, 6, none⟩ = some (.int .i64 q.F.q) ∧ w.cell? ⟨g, 7, none⟩ = some (.int .i64 q.F.b.1) ∧ w.cell? ⟨g, 8, none⟩ = some (.int .i64 q.F.b.2) ∧ w.cell? ⟨g, 9, none⟩ = some (.slice q.a.1 q.a.2.1 q.a.2.2) ∧ w.cell? ⟨g, 10, none⟩ = some (.slice q.b.1 q.b.2.1 q.b.2.2) ∧ w.cell? ⟨g, 11, none⟩ = some (.slice q.c.1 q.c.2.1 q.c.2.2) ∧ w.cell? ⟨g, 12, none⟩ = some (.slice q.d.1 q.d.2.1 q.d.2.2) ∧ w.cell? ⟨g, 13, none⟩ = some (.slice q.e.1 q.e.2.1 q.e.2.2) := by
  unfold FB at h
  refine ⟨?_, ?_, ?_, ?_, ?_, ?_, ?_, ?_, ?_, ?_, ?_, ?_, ?_, ?_⟩ <;> (rw [cell_of_row _ _ _ _ _ _ h]; rfl)
theorem fb_free {w : World} {g : Nat} {q : Fq} (h : FB w g q) : w.frozen? ⟨g, 0, none⟩ = false ∧ w.frozen? ⟨g, 1, none⟩ = false ∧ w.frozen? ⟨g, 2, none⟩ = false ∧ w.frozen? ⟨g, 3, none⟩ = false ∧ w.frozen? ⟨g, 4, none⟩ = false ∧ w.frozen? ⟨g, 5, none⟩ = false ∧ w.frozen? ⟨g, 6, none⟩ = false ∧ w.frozen? ⟨g, 7, none⟩ = false ∧ w.frozen? ⟨g, 8, none⟩ = false ∧ w.frozen? ⟨g, 9, none⟩ = false ∧ w.frozen? ⟨g, 10, none⟩ = false ∧ w.frozen? ⟨g, 11, none⟩ = false ∧ w.frozen? ⟨g, 12, none⟩ = false ∧ w.frozen? ⟨g, 13, none⟩ = false := by
  unfold FB at h
  refine ⟨?_, ?_, ?_, ?_, ?_, ?_, ?_, ?_, ?_, ?_, ?_, ?_, ?_, ?_⟩ <;> simp [World.frozen?, h]
theorem fb_new (w : World) (q : Fq) : FB (w.alloc (.cells (fc q) 32)) w.heap.size q := heap_alloc_new w _
theorem fb_lt {w : World} {g : Nat} {q : Fq} (h : FB w g q) : g < w.heap.size := row_lt h
theorem fb_below {w w' : World} {g : Nat} {q : Fq} (h : FB w g q) (hb : Below w.heap.size w w') : FB w' g q := (hb.block _ (fb_lt h)).trans h
theorem fb_only {S : Nat → Prop} {w w' : World} {g : Nat} {q : Fq} (h : FB w g q) (hb : Only S w w') (hS : ¬ S g) : FB w' g q := (hb.block _ (fb_lt h) hS).trans h
/-- What is handed back: the frame in a box. -/
theorem run_fb {w : World} {g : Nat} {q : Fq} (h : FB w g q) : (loadVar 32 ⟨g, 0, none⟩).run Try.prog w = .ok (.agg (fc q)) w := run_loadVar_row w g 32 32 (fc q) (0, 0) _ h Try.underlying32 rfl (by rw [fc_size]; kernel_rfl)
theorem size32 (q : Fq) : (Try.prog.info? 32).map (·.size) = some (fc q).size := by rw [fc_size]; kernel_rfl
theorem cell_below {w w' : World} {a : Addr} {v : Value} (hb : Below w.heap.size w w') (h : w.cell? a = some v) : w'.cell? a = some v := (hb.cell (World.block_lt_of_cell? w a h)).trans h
/-- Block g holds a view. -/
def VB (w : World) (g : Nat) (a b c d e : SL) : Prop := w.heap[g]? = some (.cells #[.slice a.1 a.2.1 a.2.2, .slice b.1 b.2.1 b.2.2, .slice c.1 c.2.1 c.2.2, .slice d.1 d.2.1 d.2.2, .slice e.1 e.2.1 e.2.2] 30 (0, 0))
theorem vb_cells {w : World} {g : Nat} {a b c d e : SL} (h : VB w g a b c d e) : w.cell? ⟨g, 0, none⟩ = some (.slice a.1 a.2.1 a.2.2) ∧ w.cell? ⟨g, 1, none⟩ = some (.slice b.1 b.2.1 b.2.2) ∧ w.cell? ⟨g, 2, none⟩ = some (.slice c.1 c.2.1 c.2.2) ∧ w.cell? ⟨g, 3, none⟩ = some (.slice d.1 d.2.1 d.2.2) ∧ w.cell? ⟨g, 4, none⟩ = some (.slice e.1 e.2.1 e.2.2) := by
  unfold VB at h
  refine ⟨?_, ?_, ?_, ?_, ?_⟩ <;> (rw [cell_of_row _ _ _ _ _ _ h]; rfl)
theorem vb_new (w : World) (a b c d e : SL) : VB (w.alloc (.cells #[.slice a.1 a.2.1 a.2.2, .slice b.1 b.2.1 b.2.2, .slice c.1 c.2.1 c.2.2, .slice d.1 d.2.1 d.2.2, .slice e.1 e.2.1 e.2.2] 30)) w.heap.size a b c d e := heap_alloc_new w _
theorem vb_lt {w : World} {g : Nat} {a b c d e : SL} (h : VB w g a b c d e) : g < w.heap.size := row_lt h
theorem vb_below {w w' : World} {g : Nat} {a b c d e : SL} (h : VB w g a b c d e) (hb : Below w.heap.size w w') : VB w' g a b c d e := (hb.block _ (vb_lt h)).trans h
theorem RV.below {w w' : World} {q : Fq} {V : Vw} (h : RV w q V) (hb : Below w.heap.size w w') : RV w' q V := ⟨h.m.below hb, h.f.below hb, h.r.below hb, h.c.below hb, h.s.below hb⟩
/-- A row of a list, as the walk meets it. -/
theorem RowsAt.at_ {w w1 : World} {A : Option Addr} {n c : Nat} {l : List Row} (h : RowsAt w (.slice A n c) l) (hw : Below w.heap.size w w1) {k : Nat} (hk : k < l.length) :
    ∃ (ad : Addr) (s : SL), A = some ad ∧ w1.cell? (ad.add (k * 4)) = some (.int .i64 l[k].1.1) ∧ w1.cell? ⟨(ad.add (k * 4)).block, (ad.add (k * 4)).off + 1, none⟩ = some (.int .i64 l[k].1.2) ∧ w1.cell? ⟨(ad.add (k * 4)).block, (ad.add (k * 4)).off + 2, none⟩ = some (.int .i64 l[k].2.1) ∧ w1.cell? ⟨(ad.add (k * 4)).block, (ad.add (k * 4)).off + 3, none⟩ = some (.slice s.1 s.2.1 s.2.2) ∧ Ids w (.slice s.1 s.2.1 s.2.2) l[k].2.2 := by
  obtain ⟨qs, h1, h2⟩ := h
  have hq : k < qs.length := by rw [h2.len]; exact hk
  obtain ⟨ad, rfl⟩ := h1.addr (Nat.lt_of_le_of_lt (Nat.zero_le _) hq)
  obtain ⟨e1, e2, e3⟩ := h2.at_ k hq hk
  refine ⟨ad, qs[k].2.2, rfl, ?_, ?_, ?_, ?_, e3⟩
  · rw [← e1]; exact h1.first hw hq rfl
  · rw [← e1]; exact h1.cell hw hq 1 (by decide) rfl
  · rw [← e2]; exact h1.cell hw hq 2 (by decide) rfl
  · exact h1.cell hw hq 3 (by decide) rfl
set_option maxHeartbeats 8000000 in
theorem views_self (a b d e a' b' d' e' : SL) (c0 d0 : Option Addr) (c2 d2 : Nat) (F : Fr) (V : Vw) (w : World) (hr : RV w ⟨F, a, b, (c0, V.r.length, c2), d, e⟩ V) (kr : RV w ⟨F, a', b', (d0, V.r.length, d2), d', e'⟩ V) (hV : Fit 20000 V) :
    Calls Try.prog 42 #[.agg #[.slice a.1 a.2.1 a.2.2, .slice b.1 b.2.1 b.2.2, .slice c0 V.r.length c2, .slice d.1 d.2.1 d.2.2, .slice e.1 e.2.1 e.2.2], .agg #[.slice a'.1 a'.2.1 a'.2.2, .slice b'.1 b'.2.1 b'.2.2, .slice d0 V.r.length d2, .slice d'.1 d'.2.1 d'.2.2, .slice e'.1 e'.2.1 e'.2.2]] w fun e w' => e = .returned (.bool true) ∧ Below w.heap.size w w' := by
  have B1 := Lib.hid (below_one w (.cells #[.slice a.1 a.2.1 a.2.2, .slice b.1 b.2.1 b.2.2, .slice c0 V.r.length c2, .slice d.1 d.2.1 d.2.2, .slice e.1 e.2.1 e.2.2] 30))
  have B2 := Lib.hid (below_one (w.alloc (.cells #[.slice a.1 a.2.1 a.2.2, .slice b.1 b.2.1 b.2.2, .slice c0 V.r.length c2, .slice d.1 d.2.1 d.2.2, .slice e.1 e.2.1 e.2.2] 30)) (.cells #[.slice a'.1 a'.2.1 a'.2.2, .slice b'.1 b'.2.1 b'.2.2, .slice d0 V.r.length d2, .slice d'.1 d'.2.1 d'.2.2, .slice e'.1 e'.2.1 e'.2.2] 30))
  have XA0 := Lib.hid (vb_below (vb_new w a b (c0, V.r.length, c2) d e) B2.out)
  have XB0 : Hid (VB ((w.alloc (.cells #[.slice a.1 a.2.1 a.2.2, .slice b.1 b.2.1 b.2.2, .slice c0 V.r.length c2, .slice d.1 d.2.1 d.2.2, .slice e.1 e.2.1 e.2.2] 30)).alloc (.cells #[.slice a'.1 a'.2.1 a'.2.2, .slice b'.1 b'.2.1 b'.2.2, .slice d0 V.r.length d2, .slice d'.1 d'.2.1 d'.2.2, .slice e'.1 e'.2.1 e'.2.2] 30)) (w.heap.size + 1) a' b' (d0, V.r.length, d2) d' e') := Lib.hid (by simpa using vb_new (w.alloc (.cells #[.slice a.1 a.2.1 a.2.2, .slice b.1 b.2.1 b.2.2, .slice c0 V.r.length c2, .slice d.1 d.2.1 d.2.2, .slice e.1 e.2.1 e.2.2] 30)) a' b' (d0, V.r.length, d2) d' e')
  have BB0 := Lib.hid (below_after B1.out B2.out (Nat.le_refl _))
  have RA0 := Lib.hid (show RV _ _ V from ⟨hr.m.below BB0.out, hr.f.below BB0.out, hr.r.below BB0.out, hr.c.below BB0.out, hr.s.below BB0.out⟩)
  have RB0 := Lib.hid (show RV _ _ V from ⟨kr.m.below BB0.out, kr.f.below BB0.out, kr.r.below BB0.out, kr.c.below BB0.out, kr.s.below BB0.out⟩)
  clear hr kr B1 B2
  obtain ⟨p0, p1, p2, p3, p4⟩ := vb_cells XA0.out
  obtain ⟨q0, q1, q2, q3, q4⟩ := vb_cells XB0.out
  dsimp only at p2 q2
  have HF := Lib.hid hV
  have hne : ((V.r.length : Int) != (V.r.length : Int)) = false := by simp
  go_enter Try.func42, Try.ntmps42
  go_wp2_with fail
  (with_reducible refine (sameM_self _ _ V.m _ RA0.out.m RB0.out.m (Nat.le_trans HF.out.m (by decide))).mono ?_)
  rintro e1 w1 ⟨rfl, hb⟩
  have RA1 := Lib.hid (RA0.out.below hb)
  have RB1 := Lib.hid (RB0.out.below hb)
  have BB1 := Lib.hid (below_after BB0.out hb (Nat.le_refl _))
  have XA1 := Lib.hid (vb_below XA0.out hb)
  have XB1 := Lib.hid (vb_below XB0.out hb)
  clear hb p0 p1 p2 p3 p4 q0 q1 q2 q3 q4 RA0 RB0 XA0 XB0 BB0
  obtain ⟨p0, p1, p2, p3, p4⟩ := vb_cells XA1.out
  obtain ⟨q0, q1, q2, q3, q4⟩ := vb_cells XB1.out
  dsimp only at p2 q2
  go_wp2_with fail
  (with_reducible refine (sameI_self _ _ V.f _ RA1.out.f RB1.out.f (Nat.le_trans HF.out.f (by decide))).mono ?_)
  rintro e2 w2 ⟨rfl, hb⟩
  have RA2 := Lib.hid (RA1.out.below hb)
  have RB2 := Lib.hid (RB1.out.below hb)
  have BB2 := Lib.hid (below_after BB1.out hb (Nat.le_refl _))
  have XA2 := Lib.hid (vb_below XA1.out hb)
  have XB2 := Lib.hid (vb_below XB1.out hb)
  clear hb p0 p1 p2 p3 p4 q0 q1 q2 q3 q4 RA1 RB1 XA1 XB1 BB1
  obtain ⟨p0, p1, p2, p3, p4⟩ := vb_cells XA2.out
  obtain ⟨q0, q1, q2, q3, q4⟩ := vb_cells XB2.out
  dsimp only at p2 q2
  go_wp2_with fail
  (with_reducible refine (sameT_self _ _ V.c _ RA2.out.c RB2.out.c (Nat.le_trans HF.out.c (by decide))).mono ?_)
  rintro e3 w3 ⟨rfl, hb⟩
  have RA3 := Lib.hid (RA2.out.below hb)
  have RB3 := Lib.hid (RB2.out.below hb)
  have BB3 := Lib.hid (below_after BB2.out hb (Nat.le_refl _))
  have XA3 := Lib.hid (vb_below XA2.out hb)
  have XB3 := Lib.hid (vb_below XB2.out hb)
  clear hb p0 p1 p2 p3 p4 q0 q1 q2 q3 q4 RA2 RB2 XA2 XB2 BB2
  obtain ⟨p0, p1, p2, p3, p4⟩ := vb_cells XA3.out
  obtain ⟨q0, q1, q2, q3, q4⟩ := vb_cells XB3.out
  dsimp only at p2 q2
  go_wp2_with fail
  (with_reducible refine (sameI_self _ _ V.s _ RA3.out.s RB3.out.s (Nat.le_trans HF.out.s (by decide))).mono ?_)
  rintro e4 w4 ⟨rfl, hb⟩
  have RA4 := Lib.hid (RA3.out.below hb)
  have RB4 := Lib.hid (RB3.out.below hb)
  have BB4 := Lib.hid (below_after BB3.out hb (Nat.le_refl _))
  have XA4 := Lib.hid (vb_below XA3.out hb)
  have XB4 := Lib.hid (vb_below XB3.out hb)
  clear hb p0 p1 p2 p3 p4 q0 q1 q2 q3 q4 RA3 RB3 XA3 XB3 BB3
  obtain ⟨p0, p1, p2, p3, p4⟩ := vb_cells XA4.out
  obtain ⟨q0, q1, q2, q3, q4⟩ := vb_cells XB4.out
  dsimp only at p2 q2
  go_wp2_with fail
  go_loopw [5] (fun s5 wr => ∃ k : Nat, k ≤ V.r.length ∧ s5 = .int .i64 k ∧ Hid (Below w4.heap.size w4 wr)) (fun s5 _ => V.r.length - (intOf s5).toNat)
  case atStart => exact ⟨0, by omega, rfl, Lib.hid (Below.refl _ _)⟩
  case round =>
    clear p0 p1 p2 p3 p4 q0 q1 q2 q3 q4
    obtain ⟨k, hkl, rfl, HW⟩ := hrel
    have i3 : (0 : Int) ≤ (k : Int) := by omega
    have Y1 := Lib.hid (vb_below XA4.out HW.out)
    have Y2 := Lib.hid (vb_below XB4.out HW.out)
    obtain ⟨p0, p1, p2, p3, p4⟩ := vb_cells Y1.out
    obtain ⟨q0, q1, q2, q3, q4⟩ := vb_cells Y2.out
    dsimp only at p2 q2
    have hb5 := HF.out.r
    by_cases hlt : k < V.r.length
    · have hd : decide ((k : Int) < (V.r.length : Int)) = true := by simp; omega
      have i4 : (k : Int) < (V.r.length : Int) := by omega
      have HN := Lib.hid (HF.out.n _ (List.getElem_mem hlt))
      obtain ⟨ad, y1, e1, a1, a2, a3, a4, a5⟩ := RowsAt.at_ RA4.out.r HW.out hlt
      obtain ⟨ae, y2, e2, b1, b2, b3, b4, b5⟩ := RowsAt.at_ RB4.out.r HW.out hlt
      dsimp only at e1 e2
      subst e1 e2
      have A5 := Lib.hid (Rcs.below a5 HW.out)
      have B5 := Lib.hid (Rcs.below b5 HW.out)
      clear a5 b5
      generalize V.r[k].1.1 = x1 at *
      generalize V.r[k].1.2 = x2 at *
      generalize V.r[k].2.1 = x3 at *
      generalize V.r[k].2.2 = x4 at *
      have ne1 : (x3 != x3) = false := by simp
      go_wp2_with fail
      have HC2 := Lib.hid (sameI_self (.slice y1.1 y1.2.1 y1.2.2) (.slice y2.1 y2.2.1 y2.2.2) x4 wr.drew (Rcs.below A5.out (show Below wr.heap.size wr wr.drew from below_drewN (n := 1) (Below.refl _ _))) (Rcs.below B5.out (show Below wr.heap.size wr wr.drew from below_drewN (n := 1) (Below.refl _ _))) (Nat.le_trans HN.out (by decide)))
      go_region_held3 (fun W => (W.cell? ⟨w.heap.size, 2, none⟩ = some (.slice (some ad) V.r.length c2) ∧ W.cell? ⟨w.heap.size + 1, 2, none⟩ = some (.slice (some ae) V.r.length d2)) ∧ (W.cell? (ad.add (k * 4)) = some (.int .i64 x1) ∧ W.cell? ⟨(ad.add (k * 4)).block, (ad.add (k * 4)).off + 1, none⟩ = some (.int .i64 x2) ∧ W.cell? ⟨(ad.add (k * 4)).block, (ad.add (k * 4)).off + 2, none⟩ = some (.int .i64 x3) ∧ W.cell? ⟨(ad.add (k * 4)).block, (ad.add (k * 4)).off + 3, none⟩ = some (.slice y1.1 y1.2.1 y1.2.2)) ∧ (W.cell? (ae.add (k * 4)) = some (.int .i64 x1) ∧ W.cell? ⟨(ae.add (k * 4)).block, (ae.add (k * 4)).off + 1, none⟩ = some (.int .i64 x2) ∧ W.cell? ⟨(ae.add (k * 4)).block, (ae.add (k * 4)).off + 2, none⟩ = some (.int .i64 x3) ∧ W.cell? ⟨(ae.add (k * 4)).block, (ae.add (k * 4)).off + 3, none⟩ = some (.slice y2.1 y2.2.1 y2.2.2)))
        (first | exact ⟨⟨p2, q2⟩, ⟨a1, a2, a3, a4⟩, ⟨b1, b2, b3, b4⟩⟩ | exact ⟨⟨cell_below HB9.out p2, cell_below HB9.out q2⟩, ⟨cell_below HB9.out a1, cell_below HB9.out a2, cell_below HB9.out a3, cell_below HB9.out a4⟩, ⟨cell_below HB9.out b1, cell_below HB9.out b2, cell_below HB9.out b3, cell_below HB9.out b4⟩⟩)
        (first | (go_at_call 44; (with_reducible refine HC2.out.mono ?_); rintro e9 w9 ⟨rfl, hb9⟩; have HB9 := Lib.hid (show Below wr.heap.size wr w9 from ⟨hb9.os, hb9.tape, hb9.output, hb9.size, hb9.block⟩); clear hb9))
      go_wp2_with fail
      go_roundw
      case rel => exact ⟨k + 1, by omega, by go_num, Lib.hid (below_after HW.out HB9.out (Nat.le_refl _))⟩
      case measure => simp [intOf]; omega
    · obtain rfl : k = V.r.length := by omega
      have hd : decide ((V.r.length : Int) < (V.r.length : Int)) = false := by simp
      go_wp2_with fail
      go_ret
      exact ⟨rfl, below_after BB4.out HW.out (Nat.le_refl _)⟩
set_option maxHeartbeats 8000000 in
theorem same11_self (q u : Fq) (w : World) (h : FR w q) (k : FR w u) (he : q.F = u.F) (hV : Fit 20000 q.F.v) :
    Calls Try.prog 35 #[.agg (fc q), .agg (fc u)] w fun e w' => e = .returned (.bool true) ∧ Below w.heap.size w w' := by
  have B1 := Lib.hid (below_one w (.cells (fc q) 32))
  have B2 := Lib.hid (below_one (w.alloc (.cells (fc q) 32)) (.cells (fc u) 32))
  have X1 := Lib.hid (fb_below (fb_new w q) B2.out)
  have HZ := Lib.hid (show (w.alloc (.cells (fc q) 32)).heap.size = w.heap.size + 1 by simp)
  have X2 := Lib.hid (show FB ((w.alloc (.cells (fc q) 32)).alloc (.cells (fc u) 32)) (w.heap.size + 1) u by have := fb_new (w.alloc (.cells (fc q) 32)) u; rw [HZ.out] at this; exact this)
  have BB := Lib.hid (below_after B1.out B2.out (Nat.le_refl _))
  have RA := Lib.hid (h.below BB.out)
  have RB := Lib.hid (k.below BB.out)
  have HF := Lib.hid hV
  have HE := Lib.hid he
  clear h k B1 B2 HZ he hV
  obtain ⟨p0, p1, p2, p3, p4, p5, p6, p7, p8, p9, p10, p11, p12, p13⟩ := fb_cells X1.out
  obtain ⟨q0, q1, q2, q3, q4, q5, q6, q7, q8, q9, q10, q11, q12, q13⟩ := fb_cells X2.out
  rw [← HE.out] at q0 q1 q2 q3 q4 q5 q6 q7 q8
  have ZA := rows_len RA.out.r
  have ZB := rows_len RB.out.r
  rw [← HE.out] at ZB
  have RB' := Lib.hid (show RV _ u q.F.v by rw [HE.out]; exact RB.out)
  have RA' := Lib.hid (show RV _ q q.F.v from RA.out)
  clear RB RA HE
  obtain ⟨F, a, b, ⟨c0, c1, c2⟩, d, e⟩ := q
  obtain ⟨F', a', b', ⟨d0, d1, d2⟩, d', e'⟩ := u
  dsimp only at *
  subst ZA ZB
  go_enter Try.func35, Try.ntmps35
  go_wp2_with fail
  (with_reducible refine (views_self a b d e a' b' d' e' c0 d0 c2 d2 F F.v _ RA'.out ⟨RB'.out.m, RB'.out.f, RB'.out.r, RB'.out.c, RB'.out.s⟩ HF.out).mono ?_)
  rintro e1 w1 ⟨rfl, hb⟩
  have B3 := Lib.hid (below_after BB.out hb (Nat.le_refl _))
  clear hb p0 p1 p2 p3 p4 p5 p6 p7 p8 p9 p10 p11 p12 p13 q0 q1 q2 q3 q4 q5 q6 q7 q8 q9 q10 q11 q12 q13
  go_wp2_with fail
  go_ret
  exact ⟨rfl, B3.out⟩
set_option maxHeartbeats 8000000 in
theorem same_any (q u : Fq) (w : World) (h : FR w q) (k : FR w u) (he : q.F = u.F) (hV : Fit 20000 q.F.v) :
    Calls Try.prog 23 #[.agg (fc q), .agg (fc u)] w fun e w' => e = .returned (.bool true) ∧ Below w.heap.size w w' := by
  have B1 := Lib.hid (below_one w (.cells (fc q) 32))
  have B2 := Lib.hid (below_one (w.alloc (.cells (fc q) 32)) (.cells (fc u) 32))
  have X1 := Lib.hid (fb_below (fb_new w q) B2.out)
  have HZ := Lib.hid (show (w.alloc (.cells (fc q) 32)).heap.size = w.heap.size + 1 by simp)
  have X2 := Lib.hid (show FB ((w.alloc (.cells (fc q) 32)).alloc (.cells (fc u) 32)) (w.heap.size + 1) u by have := fb_new (w.alloc (.cells (fc q) 32)) u; rw [HZ.out] at this; exact this)
  have BB := Lib.hid (below_after B1.out B2.out (Nat.le_refl _))
  have RA := Lib.hid (h.below BB.out)
  have RB := Lib.hid (k.below BB.out)
  have HF := Lib.hid hV
  have HE := Lib.hid he
  clear h k B1 B2 HZ he hV
  go_enter Try.func23, Try.ntmps23
  go_wp2_with first
    | (refine wpList_load_row rfl 32 (.tmp 2) rfl _ rfl 32 (fc q) (0, 0) _ X1.out Try.underlying32 rfl (size32 q) ?_)
    | (refine wpList_load_row rfl 32 (.tmp 3) rfl _ rfl 32 (fc u) (0, 0) _ X2.out Try.underlying32 rfl (size32 u) ?_)
  (with_reducible refine (same11_self q u _ RA.out RB.out HE.out HF.out).mono ?_)
  rintro e1 w1 ⟨rfl, hb⟩
  have B3 := Lib.hid (below_after BB.out hb (Nat.le_refl _))
  clear hb
  go_wp2_with fail
  go_ret
  exact ⟨rfl, B3.out⟩
end Go.Proofs.Ytmgiglefabbmcaa
