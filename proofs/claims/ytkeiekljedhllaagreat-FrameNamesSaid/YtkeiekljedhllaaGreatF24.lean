/-
  Carried over and put together: contracts of this program's functions, and plain facts. No statement is proved in this text.
-/
import Derived.Test.YtkeiekljedhllaaGreatF23
set_option maxRecDepth 20000
namespace Go.Proofs.YtkeiekljedhllaaGreat
open Go Go.RowKit
theorem cell_below {w w' : World} {a : Addr} {v : Value} (hb : Below w.heap.size w w') (h : w.cell? a = some v) : w'.cell? a = some v := (hb.cell (World.block_lt_of_cell? w a h)).trans h
theorem sameR_self : ∀ l : List RowSets.Row, sameR l l = true
  | [] => rfl
  | r :: l => by
    unfold sameR
    rw [sameR_self l]
    simp [sameW, sameB]
theorem coreB_self (V : Vw) : coreB V V = true := by
  unfold coreB
  rw [sameR_self]
  simp [sameB]
set_option maxHeartbeats 4000000 in
theorem sameT_self (v u : Value) (l : List Clocks.Tick) (w : World) (h : Rcs encT 3 w v l) (h2 : Rcs encT 3 w u l) (hl : l.length ≤ 100000) :
    Calls Tryz.prog 64 #[v, u] w fun e w' => e = .returned (.bool true) ∧ Below w.heap.size w w' := by
  have HI := Lib.hid h
  have HJ := Lib.hid h2
  obtain ⟨A, c, rfl, hz⟩ := h
  obtain ⟨B, d, rfl, hy⟩ := h2
  clear hz hy
  have hne : ((l.length : Int) != (l.length : Int)) = false := by simp
  go_enter Tryz.func64, Tryz.ntmps64
  go_wp2_with fail
  go_loopw [5] (fun s5 wr => ∃ k : Nat, k ≤ l.length ∧ s5 = .int .i64 k ∧ Hid (Below w.heap.size w wr)) (fun s5 _ => l.length - (intOf s5).toNat)
  case atStart => exact ⟨0, by omega, rfl, Lib.hid (Below.refl _ _)⟩
  case round =>
    obtain ⟨k, hkl, rfl, HW⟩ := hrel
    have i3 : (0 : Int) ≤ (k : Int) := by omega
    by_cases hlt : k < l.length
    · have hd : decide ((k : Int) < (l.length : Int)) = true := by simp; omega
      have i4 : (k : Int) < (l.length : Int) := by omega
      obtain ⟨ad, rfl, c1, c2, c3⟩ := ticks_at HI.out HW.out hlt
      obtain ⟨ae, rfl, d1, d2, d3⟩ := ticks_at HJ.out HW.out hlt
      generalize l[k].1.1 = p at *
      generalize l[k].1.2 = q at *
      generalize l[k].2 = r at *
      go_wp2_with fail
      go_quiet (fail)
      go_wp2_with fail
      go_roundw
      case rel => exact ⟨k + 1, by omega, by go_num, Lib.hid (below_drewN HW.out)⟩
      case measure => simp [intOf]; omega
    · obtain rfl : k = l.length := by omega
      have hd : decide ((l.length : Int) < (l.length : Int)) = false := by simp
      go_wp2_with fail
      go_ret
      exact ⟨rfl, HW.out⟩
set_option maxHeartbeats 4000000 in
theorem viewSame_self (v u : Value) (V : Vw) (w : World) (h : VAt w v V) (k : VAt w u V) (hV : FitVIE 5000 V) :
    Calls Tryz.prog 32 #[v, u] w fun e w' => e = .returned (.bool true) ∧ Below w.heap.size w w' := by
  obtain ⟨a, b, c, d, e, rfl, hr⟩ := h
  obtain ⟨a', b', c', d', e', rfl, kr⟩ := k
  have B1 := Lib.hid (below_one w (.cells #[.slice a.1 a.2.1 a.2.2, .slice b.1 b.2.1 b.2.2, .slice c.1 c.2.1 c.2.2, .slice d.1 d.2.1 d.2.2, .slice e.1 e.2.1 e.2.2] 33))
  have B2 := Lib.hid (below_one (w.alloc (.cells #[.slice a.1 a.2.1 a.2.2, .slice b.1 b.2.1 b.2.2, .slice c.1 c.2.1 c.2.2, .slice d.1 d.2.1 d.2.2, .slice e.1 e.2.1 e.2.2] 33)) (.cells #[.slice a'.1 a'.2.1 a'.2.2, .slice b'.1 b'.2.1 b'.2.2, .slice c'.1 c'.2.1 c'.2.2, .slice d'.1 d'.2.1 d'.2.2, .slice e'.1 e'.2.1 e'.2.2] 33))
  have X1 := Lib.hid (vbox_below (vbox_new w a b c d e) B2.out)
  have X2 : Hid (VBox ((w.alloc (.cells #[.slice a.1 a.2.1 a.2.2, .slice b.1 b.2.1 b.2.2, .slice c.1 c.2.1 c.2.2, .slice d.1 d.2.1 d.2.2, .slice e.1 e.2.1 e.2.2] 33)).alloc (.cells #[.slice a'.1 a'.2.1 a'.2.2, .slice b'.1 b'.2.1 b'.2.2, .slice c'.1 c'.2.1 c'.2.2, .slice d'.1 d'.2.1 d'.2.2, .slice e'.1 e'.2.1 e'.2.2] 33)) (w.heap.size + 1) a' b' c' d' e') := Lib.hid (by simpa using vbox_new (w.alloc (.cells #[.slice a.1 a.2.1 a.2.2, .slice b.1 b.2.1 b.2.2, .slice c.1 c.2.1 c.2.2, .slice d.1 d.2.1 d.2.2, .slice e.1 e.2.1 e.2.2] 33)) a' b' c' d' e')
  have BB := Lib.hid (below_after B1.out B2.out (Nat.le_refl _))
  have RA := Lib.hid (hr.below BB.out)
  have RB := Lib.hid (kr.below BB.out)
  clear hr kr B1 B2
  obtain ⟨p0, p1, p2, p3, p4⟩ := vbox_cells X1.out
  obtain ⟨q0, q1, q2, q3, q4⟩ := vbox_cells X2.out
  have HF := Lib.hid hV
  go_enter Tryz.func32, Tryz.ntmps32
  go_wp2_with fail
  (with_reducible refine (core_any _ _ V V _ RA.out.at_ RB.out.at_ HF.out HF.out).mono ?_)
  rw [coreB_self]
  rintro e1 w1 ⟨rfl, hb⟩
  have RA1 := Lib.hid (RA.out.below hb)
  have RB1 := Lib.hid (RB.out.below hb)
  have X3 := Lib.hid (vbox_below X1.out hb)
  have X4 := Lib.hid (vbox_below X2.out hb)
  have B3 := Lib.hid (below_after BB.out hb (Nat.le_refl _))
  clear hb p0 p1 p2 p3 p4 q0 q1 q2 q3 q4
  obtain ⟨p0, p1, p2, p3, p4⟩ := vbox_cells X3.out
  obtain ⟨q0, q1, q2, q3, q4⟩ := vbox_cells X4.out
  go_wp2_with fail
  (with_reducible refine (equal_any _ _ V.s V.s _ RA1.out.s RB1.out.s (Nat.le_trans HF.out.s (by decide))).mono ?_)
  rw [show sameB V.s V.s = true by simp [sameB]]
  rintro e2 w2 ⟨rfl, hb⟩
  have B4 := Lib.hid (below_after B3.out hb (Nat.le_refl _))
  clear hb
  go_wp2_with fail
  go_ret
  exact ⟨rfl, B4.out⟩
set_option maxHeartbeats 8000000 in
theorem views_self (v u : Value) (V : Vw) (w : World) (h : VAt w v V) (k : VAt w u V) (hV : FitVIE 5000 V) :
    Calls Tryz.prog 31 #[v, u] w fun e w' => e = .returned (.bool true) ∧ Below w.heap.size w w' := by
  obtain ⟨a, b, ⟨c0, c1, c2⟩, d, e, rfl, hr⟩ := h
  obtain ⟨a', b', ⟨d0, d1, d2⟩, d', e', rfl, kr⟩ := k
  obtain rfl : c1 = V.r.length := rows_len hr.r
  obtain rfl : d1 = V.r.length := rows_len kr.r
  have B1 := Lib.hid (below_one w (.cells #[.slice a.1 a.2.1 a.2.2, .slice b.1 b.2.1 b.2.2, .slice c0 V.r.length c2, .slice d.1 d.2.1 d.2.2, .slice e.1 e.2.1 e.2.2] 33))
  have B2 := Lib.hid (below_one (w.alloc (.cells #[.slice a.1 a.2.1 a.2.2, .slice b.1 b.2.1 b.2.2, .slice c0 V.r.length c2, .slice d.1 d.2.1 d.2.2, .slice e.1 e.2.1 e.2.2] 33)) (.cells #[.slice a'.1 a'.2.1 a'.2.2, .slice b'.1 b'.2.1 b'.2.2, .slice d0 V.r.length d2, .slice d'.1 d'.2.1 d'.2.2, .slice e'.1 e'.2.1 e'.2.2] 33))
  have X1 := Lib.hid (vbox_below (vbox_new w a b (c0, V.r.length, c2) d e) B2.out)
  have X2 : Hid (VBox ((w.alloc (.cells #[.slice a.1 a.2.1 a.2.2, .slice b.1 b.2.1 b.2.2, .slice c0 V.r.length c2, .slice d.1 d.2.1 d.2.2, .slice e.1 e.2.1 e.2.2] 33)).alloc (.cells #[.slice a'.1 a'.2.1 a'.2.2, .slice b'.1 b'.2.1 b'.2.2, .slice d0 V.r.length d2, .slice d'.1 d'.2.1 d'.2.2, .slice e'.1 e'.2.1 e'.2.2] 33)) (w.heap.size + 1) a' b' (d0, V.r.length, d2) d' e') := Lib.hid (by simpa using vbox_new (w.alloc (.cells #[.slice a.1 a.2.1 a.2.2, .slice b.1 b.2.1 b.2.2, .slice c0 V.r.length c2, .slice d.1 d.2.1 d.2.2, .slice e.1 e.2.1 e.2.2] 33)) a' b' (d0, V.r.length, d2) d' e')
  have BB := Lib.hid (below_after B1.out B2.out (Nat.le_refl _))
  have RA := Lib.hid (hr.below BB.out)
  have RB := Lib.hid (kr.below BB.out)
  clear hr kr B1 B2
  obtain ⟨p0, p1, p2, p3, p4⟩ := vbox_cells X1.out
  obtain ⟨q0, q1, q2, q3, q4⟩ := vbox_cells X2.out
  dsimp only at p2 q2
  have HF := Lib.hid hV
  have hne : ((V.r.length : Int) != (V.r.length : Int)) = false := by simp
  go_enter Tryz.func31, Tryz.ntmps31
  go_wp2_with fail
  (with_reducible refine (sameM_any _ _ V.m V.m _ RA.out.m RB.out.m (Nat.le_trans HF.out.m (by decide)) (Nat.le_trans HF.out.m (by decide))).mono ?_)
  rw [show decide (V.m = V.m) = true by simp]
  rintro e1 w1 ⟨rfl, hb⟩
  have RA1 := Lib.hid (RA.out.below hb)
  have RB1 := Lib.hid (RB.out.below hb)
  have BB1 := Lib.hid (below_after BB.out hb (Nat.le_refl _))
  have XA1 := Lib.hid (vbox_below X1.out hb)
  have XB1 := Lib.hid (vbox_below X2.out hb)
  clear hb p0 p1 p2 p3 p4 q0 q1 q2 q3 q4 RA RB
  obtain ⟨p0, p1, p2, p3, p4⟩ := vbox_cells XA1.out
  obtain ⟨q0, q1, q2, q3, q4⟩ := vbox_cells XB1.out
  dsimp only at p2 q2
  go_wp2_with fail
  (with_reducible refine (sameI_any _ _ V.f V.f _ RA1.out.f RB1.out.f (Nat.le_trans HF.out.f (by decide)) (Nat.le_trans HF.out.f (by decide))).mono ?_)
  rw [show decide (V.f = V.f) = true by simp]
  rintro e2 w2 ⟨rfl, hb⟩
  have RA2 := Lib.hid (RA1.out.below hb)
  have RB2 := Lib.hid (RB1.out.below hb)
  have BB2 := Lib.hid (below_after BB1.out hb (Nat.le_refl _))
  have XA2 := Lib.hid (vbox_below XA1.out hb)
  have XB2 := Lib.hid (vbox_below XB1.out hb)
  clear hb p0 p1 p2 p3 p4 q0 q1 q2 q3 q4 RA1 RB1
  obtain ⟨p0, p1, p2, p3, p4⟩ := vbox_cells XA2.out
  obtain ⟨q0, q1, q2, q3, q4⟩ := vbox_cells XB2.out
  dsimp only at p2 q2
  go_wp2_with fail
  (with_reducible refine (sameT_self _ _ V.c _ RA2.out.c RB2.out.c (Nat.le_trans HF.out.c (by decide))).mono ?_)
  rintro e3 w3 ⟨rfl, hb⟩
  have RA3 := Lib.hid (RA2.out.below hb)
  have RB3 := Lib.hid (RB2.out.below hb)
  have BB3 := Lib.hid (below_after BB2.out hb (Nat.le_refl _))
  have XA3 := Lib.hid (vbox_below XA2.out hb)
  have XB3 := Lib.hid (vbox_below XB2.out hb)
  clear hb p0 p1 p2 p3 p4 q0 q1 q2 q3 q4 RA2 RB2
  obtain ⟨p0, p1, p2, p3, p4⟩ := vbox_cells XA3.out
  obtain ⟨q0, q1, q2, q3, q4⟩ := vbox_cells XB3.out
  dsimp only at p2 q2
  go_wp2_with fail
  (with_reducible refine (sameI_any _ _ V.s V.s _ RA3.out.s RB3.out.s (Nat.le_trans HF.out.s (by decide)) (Nat.le_trans HF.out.s (by decide))).mono ?_)
  rw [show decide (V.s = V.s) = true by simp]
  rintro e4 w4 ⟨rfl, hb⟩
  have RA4 := Lib.hid (RA3.out.below hb)
  have RB4 := Lib.hid (RB3.out.below hb)
  have BB4 := Lib.hid (below_after BB3.out hb (Nat.le_refl _))
  have XA4 := Lib.hid (vbox_below XA3.out hb)
  have XB4 := Lib.hid (vbox_below XB3.out hb)
  clear hb p0 p1 p2 p3 p4 q0 q1 q2 q3 q4 RA3 RB3
  obtain ⟨p0, p1, p2, p3, p4⟩ := vbox_cells XA4.out
  obtain ⟨q0, q1, q2, q3, q4⟩ := vbox_cells XB4.out
  dsimp only at p2 q2
  go_wp2_with fail
  go_loopw [5] (fun s5 wr => ∃ k : Nat, k ≤ V.r.length ∧ s5 = .int .i64 k ∧ Hid (Below w4.heap.size w4 wr)) (fun s5 _ => V.r.length - (intOf s5).toNat)
  case atStart => exact ⟨0, by omega, rfl, Lib.hid (Below.refl _ _)⟩
  case round =>
    clear p0 p1 p2 p3 p4 q0 q1 q2 q3 q4
    obtain ⟨k, hkl, rfl, HW⟩ := hrel
    have i3 : (0 : Int) ≤ (k : Int) := by omega
    have Y1 := Lib.hid (vbox_below XA4.out HW.out)
    have Y2 := Lib.hid (vbox_below XB4.out HW.out)
    obtain ⟨p0, p1, p2, p3, p4⟩ := vbox_cells Y1.out
    obtain ⟨q0, q1, q2, q3, q4⟩ := vbox_cells Y2.out
    dsimp only at p2 q2
    have hb5 := HF.out.r
    by_cases hlt : k < V.r.length
    · have hd : decide ((k : Int) < (V.r.length : Int)) = true := by simp; omega
      have i4 : (k : Int) < (V.r.length : Int) := by omega
      have HN := Lib.hid (HF.out.n _ (List.getElem_mem hlt))
      obtain ⟨ad, y1, rfl, a1, a2, a3, a4, a5⟩ := RowsAt.at_ RA4.out.r HW.out hlt
      obtain ⟨ae, y2, rfl, b1, b2, b3, b4, b5⟩ := RowsAt.at_ RB4.out.r HW.out hlt
      have A5 := Lib.hid (a5.below HW.out)
      have B5 := Lib.hid (b5.below HW.out)
      clear a5 b5
      generalize V.r[k].1.1 = x1 at *
      generalize V.r[k].1.2 = x2 at *
      generalize V.r[k].2.1 = x3 at *
      generalize V.r[k].2.2 = x4 at *
      have ne1 : (x3 != x3) = false := by simp
      go_wp2_with fail
      have HC := Lib.hid fun W hb => sameI_any y1 y2 x4 x4 W (A5.out.below hb) (B5.out.below hb) (Nat.le_trans HN.out (by decide)) (Nat.le_trans HN.out (by decide))
      rw [show decide (x4 = x4) = true by simp] at HC
      have HC2 := Lib.hid (HC.out wr.drew (show Below wr.heap.size wr wr.drew from below_drewN (n := 1) (Below.refl _ _)))
      go_region_held3 (fun W => (W.cell? ⟨w.heap.size, 2, none⟩ = some (.slice (some ad) V.r.length c2) ∧ W.cell? ⟨w.heap.size + 1, 2, none⟩ = some (.slice (some ae) V.r.length d2)) ∧ (W.cell? (ad.add (k * 4)) = some (.int .i64 x1) ∧ W.cell? ⟨(ad.add (k * 4)).block, (ad.add (k * 4)).off + 1, none⟩ = some (.int .i64 x2) ∧ W.cell? ⟨(ad.add (k * 4)).block, (ad.add (k * 4)).off + 2, none⟩ = some (.int .i64 x3) ∧ W.cell? ⟨(ad.add (k * 4)).block, (ad.add (k * 4)).off + 3, none⟩ = some y1) ∧ (W.cell? (ae.add (k * 4)) = some (.int .i64 x1) ∧ W.cell? ⟨(ae.add (k * 4)).block, (ae.add (k * 4)).off + 1, none⟩ = some (.int .i64 x2) ∧ W.cell? ⟨(ae.add (k * 4)).block, (ae.add (k * 4)).off + 2, none⟩ = some (.int .i64 x3) ∧ W.cell? ⟨(ae.add (k * 4)).block, (ae.add (k * 4)).off + 3, none⟩ = some y2))
        (first | exact ⟨⟨p2, q2⟩, ⟨a1, a2, a3, a4⟩, ⟨b1, b2, b3, b4⟩⟩ | exact ⟨⟨cell_below HB9.out p2, cell_below HB9.out q2⟩, ⟨cell_below HB9.out a1, cell_below HB9.out a2, cell_below HB9.out a3, cell_below HB9.out a4⟩, ⟨cell_below HB9.out b1, cell_below HB9.out b2, cell_below HB9.out b3, cell_below HB9.out b4⟩⟩)
        (first | (go_at_call 63; (with_reducible refine HC2.out.mono ?_); rintro e9 w9 ⟨rfl, hb9⟩; have HB9 := Lib.hid (show Below wr.heap.size wr w9 from ⟨hb9.os, hb9.tape, hb9.output, hb9.size, hb9.block⟩); clear hb9))
      go_wp2_with fail
      go_roundw
      case rel => exact ⟨k + 1, by omega, by go_num, Lib.hid (below_after HW.out HB9.out (Nat.le_refl _))⟩
      case measure => simp [intOf]; omega
    · obtain rfl : k = V.r.length := by omega
      have hd : decide ((V.r.length : Int) < (V.r.length : Int)) = false := by simp
      go_wp2_with fail
      go_ret
      exact ⟨rfl, below_after BB4.out HW.out (Nat.le_refl _)⟩
end Go.Proofs.YtkeiekljedhllaaGreat
namespace Go.Proofs.YtkeiekljedhllaaGreat
open Go Go.RowKit
set_option maxHeartbeats 8000000 in
theorem refSame_self (v u : Value) (F : Fr) (w : World) (h : FAt w v F) (k : FAt w u F) (hF : FitVIE 5000 F.v) :
    Calls Tryz.prog 20 #[v, u] w fun e w' => e = .returned (.bool true) ∧ Below w.heap.size w w' := by
  obtain ⟨a, b, c, d, e, rfl, hr⟩ := h
  obtain ⟨a', b', c', d', e', rfl, kr⟩ := k
  have B1 := Lib.hid (below_one w (.cells #[.int .u8 F.k, .int .i64 F.f.1, .int .i64 F.f.2, .int .i64 F.t.1, .int .i64 F.t.2, .int .i64 F.n, .int .i64 F.q, .int .i64 F.b.1, .int .i64 F.b.2, .slice a.1 a.2.1 a.2.2, .slice b.1 b.2.1 b.2.2, .slice c.1 c.2.1 c.2.2, .slice d.1 d.2.1 d.2.2, .slice e.1 e.2.1 e.2.2] 39))
  have B2 := Lib.hid (below_one (w.alloc (.cells #[.int .u8 F.k, .int .i64 F.f.1, .int .i64 F.f.2, .int .i64 F.t.1, .int .i64 F.t.2, .int .i64 F.n, .int .i64 F.q, .int .i64 F.b.1, .int .i64 F.b.2, .slice a.1 a.2.1 a.2.2, .slice b.1 b.2.1 b.2.2, .slice c.1 c.2.1 c.2.2, .slice d.1 d.2.1 d.2.2, .slice e.1 e.2.1 e.2.2] 39)) (.cells #[.int .u8 F.k, .int .i64 F.f.1, .int .i64 F.f.2, .int .i64 F.t.1, .int .i64 F.t.2, .int .i64 F.n, .int .i64 F.q, .int .i64 F.b.1, .int .i64 F.b.2, .slice a'.1 a'.2.1 a'.2.2, .slice b'.1 b'.2.1 b'.2.2, .slice c'.1 c'.2.1 c'.2.2, .slice d'.1 d'.2.1 d'.2.2, .slice e'.1 e'.2.1 e'.2.2] 39))
  have X1 := Lib.hid (fbox_below (fbox_new w F a b c d e) B2.out)
  have HZ := Lib.hid (show (w.alloc (.cells #[.int .u8 F.k, .int .i64 F.f.1, .int .i64 F.f.2, .int .i64 F.t.1, .int .i64 F.t.2, .int .i64 F.n, .int .i64 F.q, .int .i64 F.b.1, .int .i64 F.b.2, .slice a.1 a.2.1 a.2.2, .slice b.1 b.2.1 b.2.2, .slice c.1 c.2.1 c.2.2, .slice d.1 d.2.1 d.2.2, .slice e.1 e.2.1 e.2.2] 39)).heap.size = w.heap.size + 1 by simp)
  have X2 := Lib.hid (show FBox ((w.alloc (.cells #[.int .u8 F.k, .int .i64 F.f.1, .int .i64 F.f.2, .int .i64 F.t.1, .int .i64 F.t.2, .int .i64 F.n, .int .i64 F.q, .int .i64 F.b.1, .int .i64 F.b.2, .slice a.1 a.2.1 a.2.2, .slice b.1 b.2.1 b.2.2, .slice c.1 c.2.1 c.2.2, .slice d.1 d.2.1 d.2.2, .slice e.1 e.2.1 e.2.2] 39)).alloc (.cells #[.int .u8 F.k, .int .i64 F.f.1, .int .i64 F.f.2, .int .i64 F.t.1, .int .i64 F.t.2, .int .i64 F.n, .int .i64 F.q, .int .i64 F.b.1, .int .i64 F.b.2, .slice a'.1 a'.2.1 a'.2.2, .slice b'.1 b'.2.1 b'.2.2, .slice c'.1 c'.2.1 c'.2.2, .slice d'.1 d'.2.1 d'.2.2, .slice e'.1 e'.2.1 e'.2.2] 39)) (w.heap.size + 1) F a' b' c' d' e' by have := fbox_new (w.alloc (.cells #[.int .u8 F.k, .int .i64 F.f.1, .int .i64 F.f.2, .int .i64 F.t.1, .int .i64 F.t.2, .int .i64 F.n, .int .i64 F.q, .int .i64 F.b.1, .int .i64 F.b.2, .slice a.1 a.2.1 a.2.2, .slice b.1 b.2.1 b.2.2, .slice c.1 c.2.1 c.2.2, .slice d.1 d.2.1 d.2.2, .slice e.1 e.2.1 e.2.2] 39)) F a' b' c' d' e'; rw [HZ.out] at this; exact this)
  have BB := Lib.hid (below_after B1.out B2.out (Nat.le_refl _))
  have RA := Lib.hid (hr.below BB.out)
  have RB := Lib.hid (kr.below BB.out)
  have HF := Lib.hid hF
  clear hr kr B1 B2 HZ
  obtain ⟨p0, p1, p2, p3, p4, p5, p6, p7, p8, p9, p10, p11, p12, p13⟩ := fbox_cells X1.out
  obtain ⟨q0, q1, q2, q3, q4, q5, q6, q7, q8, q9, q10, q11, q12, q13⟩ := fbox_cells X2.out
  go_enter Tryz.func20, Tryz.ntmps20
  go_wp2_with fail
  (with_reducible refine (views_self _ _ F.v _ RA.out.at_ RB.out.at_ HF.out).mono ?_)
  rintro e1 w1 ⟨rfl, hb⟩
  have B3 := Lib.hid (below_after BB.out hb (Nat.le_refl _))
  clear hb p0 p1 p2 p3 p4 p5 p6 p7 p8 p9 p10 p11 p12 p13 q0 q1 q2 q3 q4 q5 q6 q7 q8 q9 q10 q11 q12 q13
  go_wp2_with fail
  go_ret
  exact ⟨rfl, B3.out⟩
set_option maxHeartbeats 8000000 in
theorem frSame_self (v u : Value) (F : Fr) (w : World) (h : FAt w v F) (k : FAt w u F) (hF : FitVIE 5000 F.v) :
    Calls Tryz.prog 21 #[v, u] w fun e w' => e = .returned (.bool true) ∧ Below w.heap.size w w' := by
  obtain ⟨a, b, c, d, e, rfl, hr⟩ := h
  obtain ⟨a', b', c', d', e', rfl, kr⟩ := k
  have B1 := Lib.hid (below_one w (.cells #[.int .u8 F.k, .int .i64 F.f.1, .int .i64 F.f.2, .int .i64 F.t.1, .int .i64 F.t.2, .int .i64 F.n, .int .i64 F.q, .int .i64 F.b.1, .int .i64 F.b.2, .slice a.1 a.2.1 a.2.2, .slice b.1 b.2.1 b.2.2, .slice c.1 c.2.1 c.2.2, .slice d.1 d.2.1 d.2.2, .slice e.1 e.2.1 e.2.2] 39))
  have B2 := Lib.hid (below_one (w.alloc (.cells #[.int .u8 F.k, .int .i64 F.f.1, .int .i64 F.f.2, .int .i64 F.t.1, .int .i64 F.t.2, .int .i64 F.n, .int .i64 F.q, .int .i64 F.b.1, .int .i64 F.b.2, .slice a.1 a.2.1 a.2.2, .slice b.1 b.2.1 b.2.2, .slice c.1 c.2.1 c.2.2, .slice d.1 d.2.1 d.2.2, .slice e.1 e.2.1 e.2.2] 39)) (.cells #[.int .u8 F.k, .int .i64 F.f.1, .int .i64 F.f.2, .int .i64 F.t.1, .int .i64 F.t.2, .int .i64 F.n, .int .i64 F.q, .int .i64 F.b.1, .int .i64 F.b.2, .slice a'.1 a'.2.1 a'.2.2, .slice b'.1 b'.2.1 b'.2.2, .slice c'.1 c'.2.1 c'.2.2, .slice d'.1 d'.2.1 d'.2.2, .slice e'.1 e'.2.1 e'.2.2] 39))
  have X1 := Lib.hid (fbox_below (fbox_new w F a b c d e) B2.out)
  have HZ := Lib.hid (show (w.alloc (.cells #[.int .u8 F.k, .int .i64 F.f.1, .int .i64 F.f.2, .int .i64 F.t.1, .int .i64 F.t.2, .int .i64 F.n, .int .i64 F.q, .int .i64 F.b.1, .int .i64 F.b.2, .slice a.1 a.2.1 a.2.2, .slice b.1 b.2.1 b.2.2, .slice c.1 c.2.1 c.2.2, .slice d.1 d.2.1 d.2.2, .slice e.1 e.2.1 e.2.2] 39)).heap.size = w.heap.size + 1 by simp)
  have X2 := Lib.hid (show FBox ((w.alloc (.cells #[.int .u8 F.k, .int .i64 F.f.1, .int .i64 F.f.2, .int .i64 F.t.1, .int .i64 F.t.2, .int .i64 F.n, .int .i64 F.q, .int .i64 F.b.1, .int .i64 F.b.2, .slice a.1 a.2.1 a.2.2, .slice b.1 b.2.1 b.2.2, .slice c.1 c.2.1 c.2.2, .slice d.1 d.2.1 d.2.2, .slice e.1 e.2.1 e.2.2] 39)).alloc (.cells #[.int .u8 F.k, .int .i64 F.f.1, .int .i64 F.f.2, .int .i64 F.t.1, .int .i64 F.t.2, .int .i64 F.n, .int .i64 F.q, .int .i64 F.b.1, .int .i64 F.b.2, .slice a'.1 a'.2.1 a'.2.2, .slice b'.1 b'.2.1 b'.2.2, .slice c'.1 c'.2.1 c'.2.2, .slice d'.1 d'.2.1 d'.2.2, .slice e'.1 e'.2.1 e'.2.2] 39)) (w.heap.size + 1) F a' b' c' d' e' by have := fbox_new (w.alloc (.cells #[.int .u8 F.k, .int .i64 F.f.1, .int .i64 F.f.2, .int .i64 F.t.1, .int .i64 F.t.2, .int .i64 F.n, .int .i64 F.q, .int .i64 F.b.1, .int .i64 F.b.2, .slice a.1 a.2.1 a.2.2, .slice b.1 b.2.1 b.2.2, .slice c.1 c.2.1 c.2.2, .slice d.1 d.2.1 d.2.2, .slice e.1 e.2.1 e.2.2] 39)) F a' b' c' d' e'; rw [HZ.out] at this; exact this)
  have BB := Lib.hid (below_after B1.out B2.out (Nat.le_refl _))
  have RA := Lib.hid (hr.below BB.out)
  have RB := Lib.hid (kr.below BB.out)
  have HF := Lib.hid hF
  clear hr kr B1 B2 HZ
  obtain ⟨p0, p1, p2, p3, p4, p5, p6, p7, p8, p9, p10, p11, p12, p13⟩ := fbox_cells X1.out
  obtain ⟨q0, q1, q2, q3, q4, q5, q6, q7, q8, q9, q10, q11, q12, q13⟩ := fbox_cells X2.out
  go_enter Tryz.func21, Tryz.ntmps21
  go_wp2_with fail
  (with_reducible refine (viewSame_self _ _ F.v _ RA.out.at_ RB.out.at_ HF.out).mono ?_)
  rintro e1 w1 ⟨rfl, hb⟩
  have B3 := Lib.hid (below_after BB.out hb (Nat.le_refl _))
  clear hb p0 p1 p2 p3 p4 p5 p6 p7 p8 p9 p10 p11 p12 p13 q0 q1 q2 q3 q4 q5 q6 q7 q8 q9 q10 q11 q12 q13
  go_wp2_with fail
  go_ret
  exact ⟨rfl, B3.out⟩
theorem dec_whole {F : Fr} (h : encE F = 0) : decE (whole F) = 0 ∧ decF (whole F) = F := by
  obtain ⟨h1, h2, h3⟩ := encE_ok h
  obtain ⟨hk, hs, _⟩ := may_short h1
  have hb := back_fr F (by omega) hs h2
  have hl : (whole F).length = (wFr F).1.length + 4 := by unfold whole; rw [List.length_append]; rfl
  have ht : (whole F).take ((whole F).length - 4) = (wFr F).1 := by
    rw [hl, Nat.add_sub_cancel]
    unfold whole
    exact List.take_left
  have hd : (whole F).drop ((whole F).length - 4) = le4 (Crc.add 0 (wFr F).1) := by
    rw [hl, Nat.add_sub_cancel]
    unfold whole
    exact List.drop_left
  have hr : readF (wFr F).1 = F := by unfold readF; rw [hb]
  have ho : readOk (wFr F).1 = true := by unfold readOk; rw [hb]; rfl
  have := decE_good (l := whole F) (by omega) (by omega) (by rw [ht, hd]) (by rw [ht, hr, ho, h1]; rfl)
  rw [ht, hr] at this
  exact this
set_option maxHeartbeats 8000000 in
theorem back_any (v : Value) (F : Fr) (w : World) (h : FAt w v F) (hF : FitVIE 5000 F.v) (he : encE F = 0) :
    Calls Tryz.prog 8 #[v] w fun e w' => e = .returned (.bool true) ∧ Below w.heap.size w w' := by
  obtain ⟨a, b, c, d, e, rfl, hr⟩ := h
  have B1 := Lib.hid (below_one w (.cells #[.int .u8 F.k, .int .i64 F.f.1, .int .i64 F.f.2, .int .i64 F.t.1, .int .i64 F.t.2, .int .i64 F.n, .int .i64 F.q, .int .i64 F.b.1, .int .i64 F.b.2, .slice a.1 a.2.1 a.2.2, .slice b.1 b.2.1 b.2.2, .slice c.1 c.2.1 c.2.2, .slice d.1 d.2.1 d.2.2, .slice e.1 e.2.1 e.2.2] 39))
  have X1 := Lib.hid (fbox_new w F a b c d e)
  have R1 := Lib.hid (hr.below B1.out)
  have HF := Lib.hid hF
  have HE := Lib.hid he
  have HEB := Lib.hid (show encB F = whole F by unfold encB; rw [if_pos he])
  have HD := Lib.hid (dec_whole he)
  clear hr hF he
  obtain ⟨p0, p1, p2, p3, p4, p5, p6, p7, p8, p9, p10, p11, p12, p13⟩ := fbox_cells X1.out
  go_enter Tryz.func8, Tryz.ntmps8
  go_wp2_with fail
  (with_reducible refine (encode_any _ F _ (RV.fat R1.out) HF.out).mono ?_)
  rw [HE.out, HEB.out]
  rintro e1 w1 ⟨rfl, hb⟩
  have R2 := Lib.hid (R1.out.below hb)
  have X2 := Lib.hid (fbox_below X1.out hb)
  have B2 := Lib.hid (below_after B1.out hb (Nat.le_refl _))
  clear hb p0 p1 p2 p3 p4 p5 p6 p7 p8 p9 p10 p11 p12 p13 B1 X1 R1
  go_wp2_with fail
  (with_reducible refine (decode_any (bs (whole F)) _).mono ?_)
  rw [show (bs (whole F)).data.toList = whole F by simp [bs], HD.out.1, HD.out.2]
  rintro e2 w2 ⟨a', b', c', d', e', rfl, kr, hb⟩
  have B3 := Lib.hid (below_one w2 (.cells #[.int .u8 F.k, .int .i64 F.f.1, .int .i64 F.f.2, .int .i64 F.t.1, .int .i64 F.t.2, .int .i64 F.n, .int .i64 F.q, .int .i64 F.b.1, .int .i64 F.b.2, .slice a'.1 a'.2.1 a'.2.2, .slice b'.1 b'.2.1 b'.2.2, .slice c'.1 c'.2.1 c'.2.2, .slice d'.1 d'.2.1 d'.2.2, .slice e'.1 e'.2.1 e'.2.2] 39))
  have R3 := Lib.hid ((R2.out.below hb).below B3.out)
  have X3 := Lib.hid (fbox_below (fbox_below X2.out hb) B3.out)
  have X4 := Lib.hid (fbox_new w2 F a' b' c' d' e')
  have R4 := Lib.hid (kr.below B3.out)
  have B4 := Lib.hid (below_after (below_after B2.out hb (Nat.le_refl _)) B3.out (Nat.le_refl _))
  clear hb kr B3 R2 X2 B2
  obtain ⟨p0, p1, p2, p3, p4, p5, p6, p7, p8, p9, p10, p11, p12, p13⟩ := fbox_cells X3.out
  obtain ⟨q0, q1, q2, q3, q4, q5, q6, q7, q8, q9, q10, q11, q12, q13⟩ := fbox_cells X4.out
  go_wp2_with fail
  (with_reducible refine (refSame_self _ _ F _ (RV.fat R3.out) (RV.fat R4.out) HF.out).mono ?_)
  rintro e3 w3 ⟨rfl, hb⟩
  have R5 := Lib.hid (R3.out.below hb)
  have R6 := Lib.hid (R4.out.below hb)
  have X5 := Lib.hid (fbox_below X3.out hb)
  have X6 := Lib.hid (fbox_below X4.out hb)
  have B5 := Lib.hid (below_after B4.out hb (Nat.le_refl _))
  clear hb p0 p1 p2 p3 p4 p5 p6 p7 p8 p9 p10 p11 p12 p13 q0 q1 q2 q3 q4 q5 q6 q7 q8 q9 q10 q11 q12 q13 R3 R4 X3 X4 B4
  obtain ⟨p0, p1, p2, p3, p4, p5, p6, p7, p8, p9, p10, p11, p12, p13⟩ := fbox_cells X5.out
  obtain ⟨q0, q1, q2, q3, q4, q5, q6, q7, q8, q9, q10, q11, q12, q13⟩ := fbox_cells X6.out
  go_wp2_with fail
  (with_reducible refine (frSame_self _ _ F _ (RV.fat R5.out) (RV.fat R6.out) HF.out).mono ?_)
  rintro e4 w4 ⟨rfl, hb⟩
  have B6 := Lib.hid (below_after B5.out hb (Nat.le_refl _))
  clear hb p0 p1 p2 p3 p4 p5 p6 p7 p8 p9 p10 p11 p12 p13 q0 q1 q2 q3 q4 q5 q6 q7 q8 q9 q10 q11 q12 q13
  go_wp2_with fail
  go_ret
  exact ⟨rfl, B6.out⟩
end Go.Proofs.YtkeiekljedhllaaGreat
namespace Go.Proofs.YtkeiekljedhllaaGreat
open Go Go.RowKit
def beatF : Fr := ⟨5, (1, 1), (2, 1), 3, 0, (0, 0), ⟨[], [], [], [], []⟩⟩
def badF : Fr := ⟨5, (1, 1), (2, 1), 3, 1, (0, 0), ⟨[], [], [], [], []⟩⟩
def welF : Fr := ⟨2, (1, 1), (2, 1), 0, 0, (0, 0), ⟨[((1, 1), 3, 1)], [], [], [], []⟩⟩
theorem beat_ok : encE beatF = 0 := by kernel_rfl
theorem wel_ok : encE welF = 0 := by kernel_rfl
theorem bad_no : encE badF = 4 := by kernel_rfl
theorem dec_none : decE [] = 8 := by kernel_rfl
theorem dec_zero : decE [0, 0, 0, 0] = 4 := by kernel_rfl
theorem of_any (n : Int) (w : World) : Calls Tryz.prog 6 #[.int .i64 n] w fun e w' => e = .returned (.agg #[.int .i64 n, .int .i64 1]) ∧ Below w.heap.size w w' := by
  have X0 := Lib.hid (box_new w 0 0)
  have B0 := Lib.hid (below_one w (.cells #[.int .i64 0, .int .i64 0] 24))
  have X1 := Lib.hid (box_two X0.out n 1)
  obtain ⟨c0, c1⟩ := box_cells X0.out
  obtain ⟨f0, f1⟩ := box_open X0.out
  obtain ⟨q0, q1⟩ := box_cells X1.out
  have HB := Lib.hid (show Below w.heap.size w (((w.alloc (.cells #[.int .i64 0, .int .i64 0] 24)).setCell ⟨w.heap.size, 0, none⟩ (.int .i64 n)).setCell ⟨w.heap.size, 1, none⟩ (.int .i64 1)) from (B0.out.trans (below_gone (grownSet _ _ _ _) (Nat.le_refl _) B0.out.size)).trans (below_gone (grownSet _ _ _ _) (Nat.le_refl _) (by have := B0.out.size; simp [World.setCell])))
  go_enter Tryz.func6, Tryz.ntmps6
  go_wp2_with fail
  first
    | exact bodyPost_ret (v := .agg #[.int .i64 n, .int .i64 1]) (by simp [results, Tryz.results6, go_sem, q0, q1]) rfl ⟨rfl, HB.out⟩
    | exact bodyPost_ret (v := .agg #[.int .i64 n, .int .i64 1]) (by simp [results, Tryz.results6, go_sem]) rfl ⟨rfl, below_one _ _⟩
theorem nilRV (w : World) : RV w (none, 0, 0) (none, 0, 0) (none, 0, 0) (none, 0, 0) (none, 0, 0) ⟨[], [], [], [], []⟩ := (OwnV.nil w 0).rv
theorem nilFit : FitVIE 5000 ⟨[], [], [], [], []⟩ := ⟨by simp, by simp, by simp, by simp, by simp, by simp⟩
theorem enc_bad (W : World) : Calls Tryz.prog 9 #[.agg #[.int .u8 5, .int .i64 1, .int .i64 1, .int .i64 2, .int .i64 1, .int .i64 3, .int .i64 1, .int .i64 0, .int .i64 0, .slice none 0 0, .slice none 0 0, .slice none 0 0, .slice none 0 0, .slice none 0 0]] W fun e w' => e = .returned (.tuple #[.string (bs (encB badF)), .int .i64 4]) ∧ Below W.heap.size W w' := by
  have h := encode_any _ badF W (RV.fat (F := badF) (nilRV W)) nilFit
  rw [bad_no] at h
  exact h
theorem back_beat (W : World) : Calls Tryz.prog 8 #[.agg #[.int .u8 5, .int .i64 1, .int .i64 1, .int .i64 2, .int .i64 1, .int .i64 3, .int .i64 0, .int .i64 0, .int .i64 0, .slice none 0 0, .slice none 0 0, .slice none 0 0, .slice none 0 0, .slice none 0 0]] W fun e w' => e = .returned (.bool true) ∧ Below W.heap.size W w' :=
  back_any _ beatF W (RV.fat (F := beatF) (nilRV W)) nilFit beat_ok
theorem back_wel (W : World) (g : Nat) (h : RV W (some ⟨g, 0, none⟩, 1, 1) (none, 0, 0) (none, 0, 0) (none, 0, 0) (none, 0, 0) welF.v) : Calls Tryz.prog 8 #[.agg #[.int .u8 2, .int .i64 1, .int .i64 1, .int .i64 2, .int .i64 1, .int .i64 0, .int .i64 0, .int .i64 0, .int .i64 0, .slice (some ⟨g, 0, none⟩) 1 1, .slice none 0 0, .slice none 0 0, .slice none 0 0, .slice none 0 0]] W fun e w' => e = .returned (.bool true) ∧ Below W.heap.size W w' :=
  back_any _ welF W (RV.fat (F := welF) h) ⟨by decide, by decide, by decide, by decide, by decide, by intro r hr; cases hr⟩ wel_ok
theorem dec_a (W : World) : Calls Tryz.prog 13 #[.string ⟨#[]⟩] W (Decoded (decF []) 8 W) := by
  have h := decode_any ⟨#[]⟩ W
  rw [show (⟨#[]⟩ : ByteArray).data.toList = [] from rfl, dec_none] at h
  exact h
theorem dec_b (W : World) : Calls Tryz.prog 13 #[.string ⟨#[0, 0, 0, 0]⟩] W (Decoded (decF [0, 0, 0, 0]) 4 W) := by
  have h := decode_any ⟨#[0, 0, 0, 0]⟩ W
  rw [show (⟨#[0, 0, 0, 0]⟩ : ByteArray).data.toList = [0, 0, 0, 0] from rfl, dec_zero] at h
  exact h
set_option maxHeartbeats 16000000 in
theorem works_any (w : World) : Calls Tryz.prog 5 #[] w fun e w' => e = .returned (.bool true) ∧ Below w.heap.size w w' := by
  go_enter Tryz.func5, Tryz.ntmps5
  go_wp2_with fail
  (with_reducible refine (of_any 1 _).mono ?_)
  rintro e1 w1 ⟨rfl, hb⟩
  have BA1 := Lib.hid hb
  clear hb
  go_wp2_with fail
  (with_reducible refine (of_any 2 _).mono ?_)
  rintro e2 w2 ⟨rfl, hb⟩
  have BA2 := Lib.hid hb
  clear hb
  have B2 := Lib.hid (below_after (below_after BA1.out BA2.out (Nat.le_refl _)) (below_one w2 (.cells #[.int .u8 5, .int .i64 1, .int .i64 1, .int .i64 2, .int .i64 1, .int .i64 3, .int .i64 0, .int .i64 0, .int .i64 0, .slice none 0 0, .slice none 0 0, .slice none 0 0, .slice none 0 0, .slice none 0 0] 39)) (Nat.le_refl _))
  have X1 := Lib.hid (show FBox (w2.alloc (.cells #[.int .u8 5, .int .i64 1, .int .i64 1, .int .i64 2, .int .i64 1, .int .i64 3, .int .i64 0, .int .i64 0, .int .i64 0, .slice none 0 0, .slice none 0 0, .slice none 0 0, .slice none 0 0, .slice none 0 0] 39)) w2.heap.size beatF (none, 0, 0) (none, 0, 0) (none, 0, 0) (none, 0, 0) (none, 0, 0) from heap_alloc_new w2 _)
  go_wp2_with fail
  (with_reducible refine (of_any 1 _).mono ?_)
  rintro e3 w3 ⟨rfl, hb⟩
  have BA3 := Lib.hid hb
  clear hb
  go_wp2_with fail
  (with_reducible refine (of_any 2 _).mono ?_)
  rintro e4 w4 ⟨rfl, hb⟩
  have BA4 := Lib.hid hb
  clear hb
  go_wp2_with fail
  (with_reducible refine (of_any 1 _).mono ?_)
  rintro e5 w5 ⟨rfl, hb⟩
  have BA5 := Lib.hid hb
  clear hb
  have B5 := Lib.hid (below_after (below_after (below_after B2.out BA3.out (Nat.le_refl _)) BA4.out (Nat.le_refl _)) BA5.out (Nat.le_refl _))
  have X2 := Lib.hid (fbox_below (fbox_below (fbox_below X1.out BA3.out) BA4.out) BA5.out)
  have XB1 := Lib.hid (below_one w5 (.cells #[.int .i64 1, .int .i64 1, .int .u8 3, .int .i64 1] 35))
  have M1 := Lib.hid (show Ms (w5.alloc (.cells #[.int .i64 1, .int .i64 1, .int .u8 3, .int .i64 1] 35)) (.slice (some ⟨w5.heap.size, 0, none⟩) 1 1) [((1, 1), 3, 1)] from rcs_lit encM_len w5 [((1, 1), 3, 1)] #[.int .i64 1, .int .i64 1, .int .u8 3, .int .i64 1] 35 rfl)
  have XB2 := Lib.hid (below_one (w5.alloc (.cells #[.int .i64 1, .int .i64 1, .int .u8 3, .int .i64 1] 35)) (.cells #[.int .u8 2, .int .i64 1, .int .i64 1, .int .i64 2, .int .i64 1, .int .i64 0, .int .i64 0, .int .i64 0, .int .i64 0, .slice (some ⟨w5.heap.size, 0, none⟩) 1 1, .slice none 0 0, .slice none 0 0, .slice none 0 0, .slice none 0 0] 39))
  have HS6 := Lib.hid (show (w5.alloc (.cells #[.int .i64 1, .int .i64 1, .int .u8 3, .int .i64 1] 35)).heap.size = w5.heap.size + 1 by simp)
  have X3 := Lib.hid (fbox_below (fbox_below X2.out XB1.out) XB2.out)
  have X4 := Lib.hid (show FBox ((w5.alloc (.cells #[.int .i64 1, .int .i64 1, .int .u8 3, .int .i64 1] 35)).alloc (.cells #[.int .u8 2, .int .i64 1, .int .i64 1, .int .i64 2, .int .i64 1, .int .i64 0, .int .i64 0, .int .i64 0, .int .i64 0, .slice (some ⟨w5.heap.size, 0, none⟩) 1 1, .slice none 0 0, .slice none 0 0, .slice none 0 0, .slice none 0 0] 39)) (w5.heap.size + 1) welF (some ⟨w5.heap.size, 0, none⟩, 1, 1) (none, 0, 0) (none, 0, 0) (none, 0, 0) (none, 0, 0) by have := heap_alloc_new (w5.alloc (.cells #[.int .i64 1, .int .i64 1, .int .u8 3, .int .i64 1] 35)) (.cells #[.int .u8 2, .int .i64 1, .int .i64 1, .int .i64 2, .int .i64 1, .int .i64 0, .int .i64 0, .int .i64 0, .int .i64 0, .slice (some ⟨w5.heap.size, 0, none⟩) 1 1, .slice none 0 0, .slice none 0 0, .slice none 0 0, .slice none 0 0] 39); rw [HS6.out] at this; exact this)
  have RW := Lib.hid (show RV ((w5.alloc (.cells #[.int .i64 1, .int .i64 1, .int .u8 3, .int .i64 1] 35)).alloc (.cells #[.int .u8 2, .int .i64 1, .int .i64 1, .int .i64 2, .int .i64 1, .int .i64 0, .int .i64 0, .int .i64 0, .int .i64 0, .slice (some ⟨w5.heap.size, 0, none⟩) 1 1, .slice none 0 0, .slice none 0 0, .slice none 0 0, .slice none 0 0] 39)) (some ⟨w5.heap.size, 0, none⟩, 1, 1) (none, 0, 0) (none, 0, 0) (none, 0, 0) (none, 0, 0) welF.v from ⟨M1.out.below XB2.out, (nilRV _).f, (nilRV _).r, (nilRV _).c, (nilRV _).s⟩)
  have B6 := Lib.hid (below_after (below_after B5.out XB1.out (Nat.le_refl _)) XB2.out (Nat.le_refl _))
  obtain ⟨p0, p1, p2, p3, p4, p5, p6, p7, p8, p9, p10, p11, p12, p13⟩ := fbox_cells X3.out
  dsimp only [beatF] at p0 p1 p2 p3 p4 p5 p6 p7 p8 p9 p10 p11 p12 p13
  have HS7 := Lib.hid (show ((w5.alloc (.cells #[.int .i64 1, .int .i64 1, .int .u8 3, .int .i64 1] 35)).alloc (.cells #[.int .u8 2, .int .i64 1, .int .i64 1, .int .i64 2, .int .i64 1, .int .i64 0, .int .i64 0, .int .i64 0, .int .i64 0, .slice (some ⟨w5.heap.size, 0, none⟩) 1 1, .slice none 0 0, .slice none 0 0, .slice none 0 0, .slice none 0 0] 39)).heap.size = w5.heap.size + 1 + 1 by simp)
  go_wp2_with fail
  have B7 := Lib.hid (below_one ((w5.alloc (.cells #[.int .i64 1, .int .i64 1, .int .u8 3, .int .i64 1] 35)).alloc (.cells #[.int .u8 2, .int .i64 1, .int .i64 1, .int .i64 2, .int .i64 1, .int .i64 0, .int .i64 0, .int .i64 0, .int .i64 0, .slice (some ⟨w5.heap.size, 0, none⟩) 1 1, .slice none 0 0, .slice none 0 0, .slice none 0 0, .slice none 0 0] 39)) (.cells #[.int .u8 5, .int .i64 1, .int .i64 1, .int .i64 2, .int .i64 1, .int .i64 3, .int .i64 1, .int .i64 0, .int .i64 0, .slice none 0 0, .slice none 0 0, .slice none 0 0, .slice none 0 0, .slice none 0 0] 39))
  have X5 := Lib.hid (fbox_below X3.out B7.out)
  have X6 := Lib.hid (fbox_below X4.out B7.out)
  have RW7 := Lib.hid (RW.out.below B7.out)
  have BB := Lib.hid (below_after B6.out B7.out (Nat.le_refl _))
  clear p0 p1 p2 p3 p4 p5 p6 p7 p8 p9 p10 p11 p12 p13 X1 X2 X3 X4 XB1 XB2 M1 HS6 HS7 RW B7 B6 B5 B2 BA1 BA2 BA3 BA4 BA5
  generalize ((w5.alloc (.cells #[.int .i64 1, .int .i64 1, .int .u8 3, .int .i64 1] 35)).alloc (.cells #[.int .u8 2, .int .i64 1, .int .i64 1, .int .i64 2, .int .i64 1, .int .i64 0, .int .i64 0, .int .i64 0, .int .i64 0, .slice (some ⟨w5.heap.size, 0, none⟩) 1 1, .slice none 0 0, .slice none 0 0, .slice none 0 0, .slice none 0 0] 39)).alloc (.cells #[.int .u8 5, .int .i64 1, .int .i64 1, .int .i64 2, .int .i64 1, .int .i64 3, .int .i64 1, .int .i64 0, .int .i64 0, .slice none 0 0, .slice none 0 0, .slice none 0 0, .slice none 0 0, .slice none 0 0] 39) = w7 at *
  generalize w2.heap.size = Xb at *
  generalize w5.heap.size = g5 at *
  (with_reducible refine (enc_bad _).mono ?_)
  rintro e8 w8 ⟨rfl, hb⟩
  have XA8 := Lib.hid (fbox_below X5.out hb)
  have XB8 := Lib.hid (fbox_below X6.out hb)
  have RW8 := Lib.hid (RW7.out.below hb)
  have BB8 := Lib.hid (below_after BB.out hb (Nat.le_refl _))
  clear hb X5 X6 RW7 BB
  go_wp2_with fail
  (with_reducible refine (dec_a _).mono ?_)
  rintro e9 w9 ⟨a, b, c, d, e, rfl, _, hb0⟩
  generalize decF [] = F1 at *
  have hb := below_after hb0 (below_one w9 (.cells #[.int .u8 F1.k, .int .i64 F1.f.1, .int .i64 F1.f.2, .int .i64 F1.t.1, .int .i64 F1.t.2, .int .i64 F1.n, .int .i64 F1.q, .int .i64 F1.b.1, .int .i64 F1.b.2, .slice a.1 a.2.1 a.2.2, .slice b.1 b.2.1 b.2.2, .slice c.1 c.2.1 c.2.2, .slice d.1 d.2.1 d.2.2, .slice e.1 e.2.1 e.2.2] 39)) (Nat.le_refl _)
  clear hb0
  have XA9 := Lib.hid (fbox_below XA8.out hb)
  have XB9 := Lib.hid (fbox_below XB8.out hb)
  have RW9 := Lib.hid (RW8.out.below hb)
  have BB9 := Lib.hid (below_after BB8.out hb (Nat.le_refl _))
  clear hb XA8 XB8 RW8 BB8
  go_wp2_with fail
  (with_reducible refine (dec_b _).mono ?_)
  rintro e10 w10 ⟨a2, b2, c2, d2, e2, rfl, _, hb0⟩
  generalize decF [0, 0, 0, 0] = F2 at *
  have hb := below_after hb0 (below_one w10 (.cells #[.int .u8 F2.k, .int .i64 F2.f.1, .int .i64 F2.f.2, .int .i64 F2.t.1, .int .i64 F2.t.2, .int .i64 F2.n, .int .i64 F2.q, .int .i64 F2.b.1, .int .i64 F2.b.2, .slice a2.1 a2.2.1 a2.2.2, .slice b2.1 b2.2.1 b2.2.2, .slice c2.1 c2.2.1 c2.2.2, .slice d2.1 d2.2.1 d2.2.2, .slice e2.1 e2.2.1 e2.2.2] 39)) (Nat.le_refl _)
  clear hb0
  have XA10 := Lib.hid (fbox_below XA9.out hb)
  have XB10 := Lib.hid (fbox_below XB9.out hb)
  have RW10 := Lib.hid (RW9.out.below hb)
  have BB10 := Lib.hid (below_after BB9.out hb (Nat.le_refl _))
  clear hb XA9 XB9 RW9 BB9
  obtain ⟨p0, p1, p2, p3, p4, p5, p6, p7, p8, p9, p10, p11, p12, p13⟩ := fbox_cells XA10.out
  dsimp only [beatF] at p0 p1 p2 p3 p4 p5 p6 p7 p8 p9 p10 p11 p12 p13
  obtain ⟨q0, q1, q2, q3, q4, q5, q6, q7, q8, q9, q10, q11, q12, q13⟩ := fbox_cells XB10.out
  dsimp only [welF] at q0 q1 q2 q3 q4 q5 q6 q7 q8 q9 q10 q11 q12 q13
  go_wp2_with fail
  (with_reducible refine (back_beat _).mono ?_)
  rintro e11 w11 ⟨rfl, hb⟩
  clear p0 p1 p2 p3 p4 p5 p6 p7 p8 p9 p10 p11 p12 p13 q0 q1 q2 q3 q4 q5 q6 q7 q8 q9 q10 q11 q12 q13
  have XA11 := Lib.hid (fbox_below XA10.out hb)
  have XB11 := Lib.hid (fbox_below XB10.out hb)
  have RW11 := Lib.hid (RW10.out.below hb)
  have BB11 := Lib.hid (below_after BB10.out hb (Nat.le_refl _))
  clear hb XA10 XB10 RW10 BB10
  obtain ⟨q0, q1, q2, q3, q4, q5, q6, q7, q8, q9, q10, q11, q12, q13⟩ := fbox_cells XB11.out
  dsimp only [welF] at q0 q1 q2 q3 q4 q5 q6 q7 q8 q9 q10 q11 q12 q13
  go_wp2_with fail
  (with_reducible refine (back_wel _ g5 RW11.out).mono ?_)
  rintro e12 w12 ⟨rfl, hb⟩
  have BB12 := Lib.hid (below_after BB11.out hb (Nat.le_refl _))
  clear hb q0 q1 q2 q3 q4 q5 q6 q7 q8 q9 q10 q11 q12 q13
  go_wp2_with fail
  go_ret
  exact ⟨rfl, BB12.out⟩
end Go.Proofs.YtkeiekljedhllaaGreat
