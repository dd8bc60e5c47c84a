/-
  A walk over the document's own links: a frame that is refused for its lives, or its number, or taken. No statement is proved in this text.
-/
import Derived.Test.YtgbbmhdkhhchhaaLnkT
set_option maxRecDepth 20000
namespace Go.Proofs.Ytgbbmhdkhhchhaa
open Go Go.RowKit
set_option maxHeartbeats 16000000 in
theorem refTake_v0 (w : World) (g : Nat) (M : Int → Pr) (h : RBox w g M) (fk : Int) (k : Nat) (f2 t1 t2 fn m1 m2 : Int) (hm : mayI k f2 = true) (ht : t1 = m1) (hf : ¬ (k : Int) = m1) (hv : t2 = 0) :
    Calls Try.prog 17 #[.pointer (some ⟨g, 0, none⟩), .agg #[.int .u8 fk, .int .i64 (k : Int), .int .i64 f2, .int .i64 t1, .int .i64 t2, .int .i64 fn, .int .i64 0, .int .i64 0, .int .i64 0, .slice none 0 0, .slice none 0 0, .slice none 0 0, .slice none 0 0, .slice none 0 0], .agg #[.int .i64 m1, .int .i64 m2]] w (RDid (.int .i64 (takeE M ⟨fk, (k : Int), f2, t1, t2, fn⟩ m1 m2)) g (takeM M ⟨fk, (k : Int), f2, t1, t2, fn⟩ m1 m2) w) := by
  have B1 := Lib.hid (show Below w.heap.size w ((w.alloc (.cells #[.int .u8 fk, .int .i64 (k : Int), .int .i64 f2, .int .i64 t1, .int .i64 t2, .int .i64 fn, .int .i64 0, .int .i64 0, .int .i64 0, .slice none 0 0, .slice none 0 0, .slice none 0 0, .slice none 0 0, .slice none 0 0] 42)).alloc (.cells #[.int .i64 m1, .int .i64 m2] 23)) from ((Below.refl _ _).alloc (Nat.le_refl _) _).alloc (by simp) _)
  have X1 := Lib.hid (show FBox ((w.alloc (.cells #[.int .u8 fk, .int .i64 (k : Int), .int .i64 f2, .int .i64 t1, .int .i64 t2, .int .i64 fn, .int .i64 0, .int .i64 0, .int .i64 0, .slice none 0 0, .slice none 0 0, .slice none 0 0, .slice none 0 0, .slice none 0 0] 42)).alloc (.cells #[.int .i64 m1, .int .i64 m2] 23)) w.heap.size ⟨fk, (k : Int), f2, t1, t2, fn⟩ from (Below.heap_alloc _ _ _ (by simp)).trans (fbox_new w ⟨fk, (k : Int), f2, t1, t2, fn⟩))
  have I1 := Lib.hid (show Box ((w.alloc (.cells #[.int .u8 fk, .int .i64 (k : Int), .int .i64 f2, .int .i64 t1, .int .i64 t2, .int .i64 fn, .int .i64 0, .int .i64 0, .int .i64 0, .slice none 0 0, .slice none 0 0, .slice none 0 0, .slice none 0 0, .slice none 0 0] 42)).alloc (.cells #[.int .i64 m1, .int .i64 m2] 23)) (w.heap.size + 1) m1 m2 from by have := box_new (w.alloc (.cells #[.int .u8 fk, .int .i64 (k : Int), .int .i64 f2, .int .i64 t1, .int .i64 t2, .int .i64 fn, .int .i64 0, .int .i64 0, .int .i64 0, .slice none 0 0, .slice none 0 0, .slice none 0 0, .slice none 0 0, .slice none 0 0] 42)) m1 m2; simpa using this)
  have R1 := Lib.hid (rbox_below h B1.out)
  have GL := Lib.hid (rbox_lt h)
  clear h
  have HM := Lib.hid hm
  have HK := Lib.hid (show k < 13 by have := (mayI_true hm).1; omega)
  have k1 : (0 : Int) ≤ (k : Int) := by omega
  have k2 : (k : Int) < 13 := by have := (mayI_true hm).1; omega
  have hb1 : (t1 != m1) = false := by simpa using ht
  have hb2 : ((k : Int) == m1) = false := by simpa using hf
  have hb3 : (t2 != 0) = false := by simpa using hv
  have RO := Lib.hid fun (h3 : f2 < (M k).nw) => tk_no (M := M) (refuse_o (p := M k) (F := ⟨fk, k, f2, t1, t2, fn⟩) (m1 := m1) (m2 := m2) hm ht hf h3) (by decide)
  have RS := Lib.hid fun (h4 : ¬ f2 < (M k).nw) (h5 : f2 ≤ (M k).fe) => tk_no (M := M) (refuse_s (p := M k) (F := ⟨fk, k, f2, t1, t2, fn⟩) (m1 := m1) (m2 := m2) hm ht hf (.inl hv) h4 h5) (by decide)
  have RZ := Lib.hid fun (h4 : ¬ f2 < (M k).nw) (h5 : ¬ f2 ≤ (M k).fe) => refuse_z (p := M k) (F := ⟨fk, k, f2, t1, t2, fn⟩) (m1 := m1) (m2 := m2) hm ht hf (.inl hv) h4 h5
  clear hm ht hf hv
  obtain ⟨c0, c1, c2, c3⟩ := rbox_cells R1.out HK.out
  clear c0 c1 c2 c3
  by_cases ho : f2 < (M k).nw
  · have HT := Lib.hid (RO.out ho)
    have hg1 : decide (f2 < (M k).nw) = true := by simpa using ho
    clear ho
    clear RO RS RZ
    go_enter Try.func17, Try.ntmps17
    go_wp2_with fail
    generalize hW : World.alloc _ _ = w1 at *
    clear hW
    (with_reducible refine (refMay_is true k f2 HM.out _).mono ?_)
    rintro e w2 ⟨rfl, hb⟩
    have X2 := Lib.hid (fbox_below X1.out hb (fbox_lt X1.out))
    have I2 := Lib.hid (box_below I1.out hb (box_lt I1.out))
    have R2 := Lib.hid (rbox_below R1.out hb)
    have B2 := Lib.hid (B1.out.trans (hb.mono B1.out.size))
    clear hb X1 I1 R1 B1
    obtain ⟨d0, d1, d2, d3, d4, d5⟩ := fbox_cells X2.out
    dsimp only at d0 d1 d2 d3 d4 d5
    obtain ⟨b0, b1⟩ := box_cells I2.out
    go_wp2_with fail
    obtain ⟨c0, c1, c2, c3⟩ := rbox_cells R2.out HK.out
    go_quiet (fail)
    go_wp2_with fail
    go_quiet (fail)
    go_wp2_with fail
    go_ret
    rw [HT.out.1, HT.out.2]
    exact ⟨rfl, rbox_same R2.out rfl, ⟨B2.out.os, B2.out.tape, B2.out.output, B2.out.size, fun j hj _ _ => B2.out.block j hj, .inl rfl⟩⟩
  · have hg1 : decide (f2 < (M k).nw) = false := by simpa using ho
    by_cases hs : f2 ≤ (M k).fe
    · have HT := Lib.hid (RS.out ho hs)
      have hg2 : decide (f2 ≤ (M k).fe) = true := by simpa using hs
      clear ho hs
      clear RO RS RZ
      go_enter Try.func17, Try.ntmps17
      go_wp2_with fail
      generalize hW : World.alloc _ _ = w1 at *
      clear hW
      (with_reducible refine (refMay_is true k f2 HM.out _).mono ?_)
      rintro e w2 ⟨rfl, hb⟩
      have X2 := Lib.hid (fbox_below X1.out hb (fbox_lt X1.out))
      have I2 := Lib.hid (box_below I1.out hb (box_lt I1.out))
      have R2 := Lib.hid (rbox_below R1.out hb)
      have B2 := Lib.hid (B1.out.trans (hb.mono B1.out.size))
      clear hb X1 I1 R1 B1
      obtain ⟨d0, d1, d2, d3, d4, d5⟩ := fbox_cells X2.out
      dsimp only at d0 d1 d2 d3 d4 d5
      obtain ⟨b0, b1⟩ := box_cells I2.out
      go_wp2_with fail
      obtain ⟨c0, c1, c2, c3⟩ := rbox_cells R2.out HK.out
      go_quiet (fail)
      go_wp2_with fail
      go_quiet (fail)
      go_wp2_with fail
      go_quiet (fail)
      go_wp2_with fail
      go_ret
      rw [HT.out.1, HT.out.2]
      exact ⟨rfl, rbox_same R2.out rfl, ⟨B2.out.os, B2.out.tape, B2.out.output, B2.out.size, fun j hj _ _ => B2.out.block j hj, .inl rfl⟩⟩
    · have hg2 : decide (f2 ≤ (M k).fe) = false := by simpa using hs
      have HZ := Lib.hid (RZ.out ho hs)
      clear hs
      by_cases hn : (M k).nw < f2
      · have hg3 : decide ((M k).nw < f2) = true := by simpa using hn
        have hg4 : (f2 == (M k).nw) = false := by simp; omega
        cases k5 : (fk == 5)
        · cases k6 : (fk == 6)
          · have HT := Lib.hid (tk_yes (M := M) (F := ⟨fk, k, f2, t1, t2, fn⟩) (m1 := m1) (m2 := m2) HZ.out (after_xn (p := M k) (F := ⟨fk, k, f2, t1, t2, fn⟩) k5 k6 hn))
            clear ho hn
            clear RO RS RZ
            go_enter Try.func17, Try.ntmps17
            go_wp2_with fail
            generalize hW : World.alloc _ _ = w1 at *
            clear hW
            (with_reducible refine (refMay_is true k f2 HM.out _).mono ?_)
            rintro e w2 ⟨rfl, hb⟩
            have X2 := Lib.hid (fbox_below X1.out hb (fbox_lt X1.out))
            have I2 := Lib.hid (box_below I1.out hb (box_lt I1.out))
            have R2 := Lib.hid (rbox_below R1.out hb)
            have B2 := Lib.hid (B1.out.trans (hb.mono B1.out.size))
            clear hb X1 I1 R1 B1
            obtain ⟨d0, d1, d2, d3, d4, d5⟩ := fbox_cells X2.out
            dsimp only at d0 d1 d2 d3 d4 d5
            obtain ⟨b0, b1⟩ := box_cells I2.out
            go_wp2_with fail
            obtain ⟨c0, c1, c2, c3⟩ := rbox_cells R2.out HK.out
            go_quiet (fail)
            go_wp2_with fail
            go_quiet (fail)
            go_wp2_with fail
            go_quiet (fail)
            go_wp2_with fail
            go_quiet (fail)
            go_wp2_with fail
            go_quiet (fail)
            generalize hW : World.drewN _ _ = w3
            have X3 := Lib.hid (show FBox w3 w.heap.size _ from by rw [← hW]; exact X2.out)
            have R3 := Lib.hid (show RBox w3 g M from by rw [← hW]; exact rbox_same R2.out rfl)
            have C3 := Lib.hid (show Ch w w3 g none none from by rw [← hW]; exact ⟨B2.out.os, B2.out.tape, B2.out.output, B2.out.size, fun j hj _ _ => B2.out.block j hj, .inl rfl⟩)
            clear hW d0 d1 d2 d3 d4 d5 b0 b1 c0 c1 c2 c3 X2 I2 R2 B2
            obtain ⟨d0, -, d2, -, -, d5⟩ := fbox_cells X3.out
            dsimp only at d0 d2 d5
            obtain ⟨c0, -⟩ := rbox_cells R3.out HK.out
            have y0 := rbox_free R3.out (k * 4)
            have R4 := Lib.hid (rbox_set R3.out HK.out 0 (by omega) f2)
            simp only [Nat.add_zero] at R4
            have C4 := Lib.hid (C3.out.cell (k * 4) (.int .i64 f2))
            obtain ⟨-, -, c2, -⟩ := rbox_cells R4.out HK.out
            have y2 := rbox_free R4.out (k * 4 + 2)
            have R5 := Lib.hid (rbox_set R4.out HK.out 2 (by omega) 0)
            have C5 := Lib.hid (C4.out.cell (k * 4 + 2) (.int .i64 0))
            obtain ⟨-, -, -, c3⟩ := rbox_cells R5.out HK.out
            have y3 := rbox_free R5.out (k * 4 + 3)
            have R6 := Lib.hid (rbox_set R5.out HK.out 3 (by omega) 0)
            have C6 := Lib.hid (C5.out.cell (k * 4 + 3) (.int .i64 0))
            have X6 := Lib.hid (show FBox (((w3.setCell ⟨g, k * 4, none⟩ (.int .i64 f2)).setCell ⟨g, k * 4 + 2, none⟩ (.int .i64 0)).setCell ⟨g, k * 4 + 3, none⟩ (.int .i64 0)) w.heap.size ⟨fk, k, f2, t1, t2, fn⟩ from
              (Below.heap_setCell _ _ _ _ (show w.heap.size ≠ g from fun e => Nat.ne_of_lt GL.out e.symm)).trans ((Below.heap_setCell _ _ _ _ (show w.heap.size ≠ g from fun e => Nat.ne_of_lt GL.out e.symm)).trans ((Below.heap_setCell _ _ _ _ (show w.heap.size ≠ g from fun e => Nat.ne_of_lt GL.out e.symm)).trans X3.out)))
            simp only [put_same, put_put] at R5 R6 c2 c3
            simp only [part] at R6 c2 c3
            go_upto_region 12 with (fail)
            generalize hW : World.setCell (World.setCell (World.setCell w3 _ _) _ _) _ _ = w4 at *
            clear hW c0 c2 c3 y0 y2 y3 R3 R4 R5 C3 C4 C5 X3 d0 d2 d5
            have R4 := R6
            have C4 := C6
            have X4 := X6
            clear R6 C6 X6
            obtain ⟨d0, -, -, -, -, d5⟩ := fbox_cells X4.out
            dsimp only at d0 d5
            go_wp2_with fail
            go_ret
            rw [HT.out.1, HT.out.2]
            exact ⟨rfl, R4.out, C4.out⟩
          · have HT := Lib.hid (tk_yes (M := M) (F := ⟨fk, k, f2, t1, t2, fn⟩) (m1 := m1) (m2 := m2) HZ.out (after_6n (p := M k) (F := ⟨fk, k, f2, t1, t2, fn⟩) k5 k6 hn))
            clear ho hn
            clear RO RS RZ
            go_enter Try.func17, Try.ntmps17
            go_wp2_with fail
            generalize hW : World.alloc _ _ = w1 at *
            clear hW
            (with_reducible refine (refMay_is true k f2 HM.out _).mono ?_)
            rintro e w2 ⟨rfl, hb⟩
            have X2 := Lib.hid (fbox_below X1.out hb (fbox_lt X1.out))
            have I2 := Lib.hid (box_below I1.out hb (box_lt I1.out))
            have R2 := Lib.hid (rbox_below R1.out hb)
            have B2 := Lib.hid (B1.out.trans (hb.mono B1.out.size))
            clear hb X1 I1 R1 B1
            obtain ⟨d0, d1, d2, d3, d4, d5⟩ := fbox_cells X2.out
            dsimp only at d0 d1 d2 d3 d4 d5
            obtain ⟨b0, b1⟩ := box_cells I2.out
            go_wp2_with fail
            obtain ⟨c0, c1, c2, c3⟩ := rbox_cells R2.out HK.out
            go_quiet (fail)
            go_wp2_with fail
            go_quiet (fail)
            go_wp2_with fail
            go_quiet (fail)
            go_wp2_with fail
            go_quiet (fail)
            go_wp2_with fail
            go_quiet (fail)
            generalize hW : World.drewN _ _ = w3
            have X3 := Lib.hid (show FBox w3 w.heap.size _ from by rw [← hW]; exact X2.out)
            have R3 := Lib.hid (show RBox w3 g M from by rw [← hW]; exact rbox_same R2.out rfl)
            have C3 := Lib.hid (show Ch w w3 g none none from by rw [← hW]; exact ⟨B2.out.os, B2.out.tape, B2.out.output, B2.out.size, fun j hj _ _ => B2.out.block j hj, .inl rfl⟩)
            clear hW d0 d1 d2 d3 d4 d5 b0 b1 c0 c1 c2 c3 X2 I2 R2 B2
            obtain ⟨d0, -, d2, -, -, d5⟩ := fbox_cells X3.out
            dsimp only at d0 d2 d5
            obtain ⟨c0, -⟩ := rbox_cells R3.out HK.out
            have y0 := rbox_free R3.out (k * 4)
            have R4 := Lib.hid (rbox_set R3.out HK.out 0 (by omega) f2)
            simp only [Nat.add_zero] at R4
            have C4 := Lib.hid (C3.out.cell (k * 4) (.int .i64 f2))
            obtain ⟨-, -, c2, -⟩ := rbox_cells R4.out HK.out
            have y2 := rbox_free R4.out (k * 4 + 2)
            have R5 := Lib.hid (rbox_set R4.out HK.out 2 (by omega) 0)
            have C5 := Lib.hid (C4.out.cell (k * 4 + 2) (.int .i64 0))
            obtain ⟨-, -, -, c3⟩ := rbox_cells R5.out HK.out
            have y3 := rbox_free R5.out (k * 4 + 3)
            have R6 := Lib.hid (rbox_set R5.out HK.out 3 (by omega) 0)
            have C6 := Lib.hid (C5.out.cell (k * 4 + 3) (.int .i64 0))
            have X6 := Lib.hid (show FBox (((w3.setCell ⟨g, k * 4, none⟩ (.int .i64 f2)).setCell ⟨g, k * 4 + 2, none⟩ (.int .i64 0)).setCell ⟨g, k * 4 + 3, none⟩ (.int .i64 0)) w.heap.size ⟨fk, k, f2, t1, t2, fn⟩ from
              (Below.heap_setCell _ _ _ _ (show w.heap.size ≠ g from fun e => Nat.ne_of_lt GL.out e.symm)).trans ((Below.heap_setCell _ _ _ _ (show w.heap.size ≠ g from fun e => Nat.ne_of_lt GL.out e.symm)).trans ((Below.heap_setCell _ _ _ _ (show w.heap.size ≠ g from fun e => Nat.ne_of_lt GL.out e.symm)).trans X3.out)))
            simp only [put_same, put_put] at R5 R6 c2 c3
            simp only [part] at R6 c2 c3
            go_upto_region 12 with (fail)
            generalize hW : World.setCell (World.setCell (World.setCell w3 _ _) _ _) _ _ = w4 at *
            clear hW c0 c2 c3 y0 y2 y3 R3 R4 R5 C3 C4 C5 X3 d0 d2 d5
            have R4 := R6
            have C4 := C6
            have X4 := X6
            clear R6 C6 X6
            obtain ⟨d0, -, -, -, -, d5⟩ := fbox_cells X4.out
            dsimp only at d0 d5
            obtain ⟨-, -, c2, c3⟩ := rbox_cells R4.out HK.out
            have y4 := rbox_free R4.out (k * 4 + 3)
            have R7 := Lib.hid (rbox_set R4.out HK.out 3 (by omega) fn)
            have C7 := Lib.hid (C4.out.cell (k * 4 + 3) (.int .i64 fn))
            have X7 := Lib.hid (show FBox (w4.setCell ⟨g, k * 4 + 3, none⟩ (.int .i64 fn)) w.heap.size ⟨fk, k, f2, t1, t2, fn⟩ from (Below.heap_setCell _ _ _ _ (show w.heap.size ≠ g from fun e => Nat.ne_of_lt GL.out e.symm)).trans X4.out)
            obtain ⟨e0, -⟩ := fbox_cells X7.out
            dsimp only at e0
            go_wp2_with fail
            go_ret
            rw [HT.out.1, HT.out.2]
            refine ⟨rfl, ?_, C7.out⟩
            have r7 := R7.out
            simp only [put_same, put_put, part] at r7
            exact r7
        · have HT := Lib.hid (tk_yes (M := M) (F := ⟨fk, k, f2, t1, t2, fn⟩) (m1 := m1) (m2 := m2) HZ.out (after_5n (p := M k) (F := ⟨fk, k, f2, t1, t2, fn⟩) k5 hn))
          clear ho hn
          clear RO RS RZ
          go_enter Try.func17, Try.ntmps17
          go_wp2_with fail
          generalize hW : World.alloc _ _ = w1 at *
          clear hW
          (with_reducible refine (refMay_is true k f2 HM.out _).mono ?_)
          rintro e w2 ⟨rfl, hb⟩
          have X2 := Lib.hid (fbox_below X1.out hb (fbox_lt X1.out))
          have I2 := Lib.hid (box_below I1.out hb (box_lt I1.out))
          have R2 := Lib.hid (rbox_below R1.out hb)
          have B2 := Lib.hid (B1.out.trans (hb.mono B1.out.size))
          clear hb X1 I1 R1 B1
          obtain ⟨d0, d1, d2, d3, d4, d5⟩ := fbox_cells X2.out
          dsimp only at d0 d1 d2 d3 d4 d5
          obtain ⟨b0, b1⟩ := box_cells I2.out
          go_wp2_with fail
          obtain ⟨c0, c1, c2, c3⟩ := rbox_cells R2.out HK.out
          go_quiet (fail)
          go_wp2_with fail
          go_quiet (fail)
          go_wp2_with fail
          go_quiet (fail)
          go_wp2_with fail
          go_quiet (fail)
          go_wp2_with fail
          go_quiet (fail)
          generalize hW : World.drewN _ _ = w3
          have X3 := Lib.hid (show FBox w3 w.heap.size _ from by rw [← hW]; exact X2.out)
          have R3 := Lib.hid (show RBox w3 g M from by rw [← hW]; exact rbox_same R2.out rfl)
          have C3 := Lib.hid (show Ch w w3 g none none from by rw [← hW]; exact ⟨B2.out.os, B2.out.tape, B2.out.output, B2.out.size, fun j hj _ _ => B2.out.block j hj, .inl rfl⟩)
          clear hW d0 d1 d2 d3 d4 d5 b0 b1 c0 c1 c2 c3 X2 I2 R2 B2
          obtain ⟨d0, -, d2, -, -, d5⟩ := fbox_cells X3.out
          dsimp only at d0 d2 d5
          obtain ⟨c0, -⟩ := rbox_cells R3.out HK.out
          have y0 := rbox_free R3.out (k * 4)
          have R4 := Lib.hid (rbox_set R3.out HK.out 0 (by omega) f2)
          simp only [Nat.add_zero] at R4
          have C4 := Lib.hid (C3.out.cell (k * 4) (.int .i64 f2))
          obtain ⟨-, -, c2, -⟩ := rbox_cells R4.out HK.out
          have y2 := rbox_free R4.out (k * 4 + 2)
          have R5 := Lib.hid (rbox_set R4.out HK.out 2 (by omega) 0)
          have C5 := Lib.hid (C4.out.cell (k * 4 + 2) (.int .i64 0))
          obtain ⟨-, -, -, c3⟩ := rbox_cells R5.out HK.out
          have y3 := rbox_free R5.out (k * 4 + 3)
          have R6 := Lib.hid (rbox_set R5.out HK.out 3 (by omega) 0)
          have C6 := Lib.hid (C5.out.cell (k * 4 + 3) (.int .i64 0))
          have X6 := Lib.hid (show FBox (((w3.setCell ⟨g, k * 4, none⟩ (.int .i64 f2)).setCell ⟨g, k * 4 + 2, none⟩ (.int .i64 0)).setCell ⟨g, k * 4 + 3, none⟩ (.int .i64 0)) w.heap.size ⟨fk, k, f2, t1, t2, fn⟩ from
            (Below.heap_setCell _ _ _ _ (show w.heap.size ≠ g from fun e => Nat.ne_of_lt GL.out e.symm)).trans ((Below.heap_setCell _ _ _ _ (show w.heap.size ≠ g from fun e => Nat.ne_of_lt GL.out e.symm)).trans ((Below.heap_setCell _ _ _ _ (show w.heap.size ≠ g from fun e => Nat.ne_of_lt GL.out e.symm)).trans X3.out)))
          simp only [put_same, put_put] at R5 R6 c2 c3
          simp only [part] at R6 c2 c3
          go_upto_region 12 with (fail)
          generalize hW : World.setCell (World.setCell (World.setCell w3 _ _) _ _) _ _ = w4 at *
          clear hW c0 c2 c3 y0 y2 y3 R3 R4 R5 C3 C4 C5 X3 d0 d2 d5
          have R4 := R6
          have C4 := C6
          have X4 := X6
          clear R6 C6 X6
          obtain ⟨d0, -, -, -, -, d5⟩ := fbox_cells X4.out
          dsimp only at d0 d5
          obtain ⟨-, -, c2, c3⟩ := rbox_cells R4.out HK.out
          have y4 := rbox_free R4.out (k * 4 + 2)
          have R7 := Lib.hid (rbox_set R4.out HK.out 2 (by omega) fn)
          have C7 := Lib.hid (C4.out.cell (k * 4 + 2) (.int .i64 fn))
          have X7 := Lib.hid (show FBox (w4.setCell ⟨g, k * 4 + 2, none⟩ (.int .i64 fn)) w.heap.size ⟨fk, k, f2, t1, t2, fn⟩ from (Below.heap_setCell _ _ _ _ (show w.heap.size ≠ g from fun e => Nat.ne_of_lt GL.out e.symm)).trans X4.out)
          obtain ⟨e0, -⟩ := fbox_cells X7.out
          dsimp only at e0
          go_wp2_with fail
          go_ret
          rw [HT.out.1, HT.out.2]
          refine ⟨rfl, ?_, C7.out⟩
          have r7 := R7.out
          simp only [put_same, put_put, part] at r7
          exact r7
      · have hg3 : decide ((M k).nw < f2) = false := by simpa using hn
        have hg4 : (f2 == (M k).nw) = true := by simp; omega
        cases k5 : (fk == 5)
        · cases k6 : (fk == 6)
          · have HT := Lib.hid (tk_yes (M := M) (F := ⟨fk, k, f2, t1, t2, fn⟩) (m1 := m1) (m2 := m2) HZ.out (after_xo (p := M k) (F := ⟨fk, k, f2, t1, t2, fn⟩) k5 k6 hn))
            clear ho hn
            clear RO RS RZ
            go_enter Try.func17, Try.ntmps17
            go_wp2_with fail
            generalize hW : World.alloc _ _ = w1 at *
            clear hW
            (with_reducible refine (refMay_is true k f2 HM.out _).mono ?_)
            rintro e w2 ⟨rfl, hb⟩
            have X2 := Lib.hid (fbox_below X1.out hb (fbox_lt X1.out))
            have I2 := Lib.hid (box_below I1.out hb (box_lt I1.out))
            have R2 := Lib.hid (rbox_below R1.out hb)
            have B2 := Lib.hid (B1.out.trans (hb.mono B1.out.size))
            clear hb X1 I1 R1 B1
            obtain ⟨d0, d1, d2, d3, d4, d5⟩ := fbox_cells X2.out
            dsimp only at d0 d1 d2 d3 d4 d5
            obtain ⟨b0, b1⟩ := box_cells I2.out
            go_wp2_with fail
            obtain ⟨c0, c1, c2, c3⟩ := rbox_cells R2.out HK.out
            go_quiet (fail)
            go_wp2_with fail
            go_quiet (fail)
            go_wp2_with fail
            go_quiet (fail)
            go_wp2_with fail
            go_quiet (fail)
            go_wp2_with fail
            go_quiet (fail)
            generalize hW : World.drewN _ _ = w4
            have X4 := Lib.hid (show FBox w4 w.heap.size ⟨fk, k, f2, t1, t2, fn⟩ from by rw [← hW]; exact X2.out)
            have R4 := Lib.hid (show RBox w4 g M from by rw [← hW]; exact rbox_same R2.out rfl)
            have C4 := Lib.hid (show Ch w w4 g none none from by rw [← hW]; exact ⟨B2.out.os, B2.out.tape, B2.out.output, B2.out.size, fun j hj _ _ => B2.out.block j hj, .inl rfl⟩)
            clear hW d0 d1 d2 d3 d4 d5 b0 b1 c0 c1 c2 c3 X2 I2 R2 B2
            obtain ⟨d0, -, -, -, -, d5⟩ := fbox_cells X4.out
            dsimp only at d0 d5
            go_wp2_with fail
            go_ret
            rw [HT.out.1, HT.out.2, put_id M k]
            exact ⟨rfl, R4.out, C4.out⟩
          · by_cases hq : fn ≤ (M k).re
            · have hg5 : decide (fn ≤ (M k).re) = true := by simpa using hq
              have HT := Lib.hid (tk_twice (M := M) (F := ⟨fk, k, f2, t1, t2, fn⟩) (m1 := m1) (m2 := m2) HZ.out (after_6t (p := M k) (F := ⟨fk, k, f2, t1, t2, fn⟩) k5 k6 hn hq))
              clear ho hn hq
              clear RO RS RZ
              go_enter Try.func17, Try.ntmps17
              go_wp2_with fail
              generalize hW : World.alloc _ _ = w1 at *
              clear hW
              (with_reducible refine (refMay_is true k f2 HM.out _).mono ?_)
              rintro e w2 ⟨rfl, hb⟩
              have X2 := Lib.hid (fbox_below X1.out hb (fbox_lt X1.out))
              have I2 := Lib.hid (box_below I1.out hb (box_lt I1.out))
              have R2 := Lib.hid (rbox_below R1.out hb)
              have B2 := Lib.hid (B1.out.trans (hb.mono B1.out.size))
              clear hb X1 I1 R1 B1
              obtain ⟨d0, d1, d2, d3, d4, d5⟩ := fbox_cells X2.out
              dsimp only at d0 d1 d2 d3 d4 d5
              obtain ⟨b0, b1⟩ := box_cells I2.out
              go_wp2_with fail
              obtain ⟨c0, c1, c2, c3⟩ := rbox_cells R2.out HK.out
              go_quiet (fail)
              go_wp2_with fail
              go_quiet (fail)
              go_wp2_with fail
              go_quiet (fail)
              go_wp2_with fail
              go_quiet (fail)
              go_wp2_with fail
              go_ret
              rw [HT.out.1, HT.out.2]
              exact ⟨rfl, rbox_same R2.out rfl, ⟨B2.out.os, B2.out.tape, B2.out.output, B2.out.size, fun j hj _ _ => B2.out.block j hj, .inl rfl⟩⟩
            · have hg5 : decide (fn ≤ (M k).re) = false := by simpa using hq
              have HT := Lib.hid (tk_yes (M := M) (F := ⟨fk, k, f2, t1, t2, fn⟩) (m1 := m1) (m2 := m2) HZ.out (after_6o (p := M k) (F := ⟨fk, k, f2, t1, t2, fn⟩) k5 k6 hn hq))
              clear ho hn
              clear RO RS RZ
              go_enter Try.func17, Try.ntmps17
              go_wp2_with fail
              generalize hW : World.alloc _ _ = w1 at *
              clear hW
              (with_reducible refine (refMay_is true k f2 HM.out _).mono ?_)
              rintro e w2 ⟨rfl, hb⟩
              have X2 := Lib.hid (fbox_below X1.out hb (fbox_lt X1.out))
              have I2 := Lib.hid (box_below I1.out hb (box_lt I1.out))
              have R2 := Lib.hid (rbox_below R1.out hb)
              have B2 := Lib.hid (B1.out.trans (hb.mono B1.out.size))
              clear hb X1 I1 R1 B1
              obtain ⟨d0, d1, d2, d3, d4, d5⟩ := fbox_cells X2.out
              dsimp only at d0 d1 d2 d3 d4 d5
              obtain ⟨b0, b1⟩ := box_cells I2.out
              go_wp2_with fail
              obtain ⟨c0, c1, c2, c3⟩ := rbox_cells R2.out HK.out
              go_quiet (fail)
              go_wp2_with fail
              go_quiet (fail)
              go_wp2_with fail
              go_quiet (fail)
              go_wp2_with fail
              go_quiet (fail)
              go_wp2_with fail
              go_quiet (fail)
              generalize hW : World.drewN _ _ = w4
              have X4 := Lib.hid (show FBox w4 w.heap.size ⟨fk, k, f2, t1, t2, fn⟩ from by rw [← hW]; exact X2.out)
              have R4 := Lib.hid (show RBox w4 g M from by rw [← hW]; exact rbox_same R2.out rfl)
              have C4 := Lib.hid (show Ch w w4 g none none from by rw [← hW]; exact ⟨B2.out.os, B2.out.tape, B2.out.output, B2.out.size, fun j hj _ _ => B2.out.block j hj, .inl rfl⟩)
              clear hW d0 d1 d2 d3 d4 d5 b0 b1 c0 c1 c2 c3 X2 I2 R2 B2
              obtain ⟨d0, -, -, -, -, d5⟩ := fbox_cells X4.out
              dsimp only at d0 d5
              obtain ⟨-, -, c2, c3⟩ := rbox_cells R4.out HK.out
              have y4 := rbox_free R4.out (k * 4 + 3)
              have R7 := Lib.hid (rbox_set R4.out HK.out 3 (by omega) fn)
              have C7 := Lib.hid (C4.out.cell (k * 4 + 3) (.int .i64 fn))
              have X7 := Lib.hid (show FBox (w4.setCell ⟨g, k * 4 + 3, none⟩ (.int .i64 fn)) w.heap.size ⟨fk, k, f2, t1, t2, fn⟩ from (Below.heap_setCell _ _ _ _ (show w.heap.size ≠ g from fun e => Nat.ne_of_lt GL.out e.symm)).trans X4.out)
              obtain ⟨e0, -⟩ := fbox_cells X7.out
              dsimp only at e0
              go_wp2_with fail
              go_ret
              rw [HT.out.1, HT.out.2]
              refine ⟨rfl, ?_, C7.out⟩
              have r7 := R7.out
              simp only [part] at r7
              exact r7
        · have k6 : (fk == 6) = false := by have := k5; simp at this; subst this; rfl
          by_cases hq : fn ≤ (M k).be
          · have hg5 : decide (fn ≤ (M k).be) = true := by simpa using hq
            have HT := Lib.hid (tk_twice (M := M) (F := ⟨fk, k, f2, t1, t2, fn⟩) (m1 := m1) (m2 := m2) HZ.out (after_5t (p := M k) (F := ⟨fk, k, f2, t1, t2, fn⟩) k5 hn hq))
            clear ho hn hq
            clear RO RS RZ
            go_enter Try.func17, Try.ntmps17
            go_wp2_with fail
            generalize hW : World.alloc _ _ = w1 at *
            clear hW
            (with_reducible refine (refMay_is true k f2 HM.out _).mono ?_)
            rintro e w2 ⟨rfl, hb⟩
            have X2 := Lib.hid (fbox_below X1.out hb (fbox_lt X1.out))
            have I2 := Lib.hid (box_below I1.out hb (box_lt I1.out))
            have R2 := Lib.hid (rbox_below R1.out hb)
            have B2 := Lib.hid (B1.out.trans (hb.mono B1.out.size))
            clear hb X1 I1 R1 B1
            obtain ⟨d0, d1, d2, d3, d4, d5⟩ := fbox_cells X2.out
            dsimp only at d0 d1 d2 d3 d4 d5
            obtain ⟨b0, b1⟩ := box_cells I2.out
            go_wp2_with fail
            obtain ⟨c0, c1, c2, c3⟩ := rbox_cells R2.out HK.out
            go_quiet (fail)
            go_wp2_with fail
            go_quiet (fail)
            go_wp2_with fail
            go_quiet (fail)
            go_wp2_with fail
            go_quiet (fail)
            go_wp2_with fail
            go_ret
            rw [HT.out.1, HT.out.2]
            exact ⟨rfl, rbox_same R2.out rfl, ⟨B2.out.os, B2.out.tape, B2.out.output, B2.out.size, fun j hj _ _ => B2.out.block j hj, .inl rfl⟩⟩
          · have hg5 : decide (fn ≤ (M k).be) = false := by simpa using hq
            have HT := Lib.hid (tk_yes (M := M) (F := ⟨fk, k, f2, t1, t2, fn⟩) (m1 := m1) (m2 := m2) HZ.out (after_5o (p := M k) (F := ⟨fk, k, f2, t1, t2, fn⟩) k5 hn hq))
            clear ho hn
            clear RO RS RZ
            go_enter Try.func17, Try.ntmps17
            go_wp2_with fail
            generalize hW : World.alloc _ _ = w1 at *
            clear hW
            (with_reducible refine (refMay_is true k f2 HM.out _).mono ?_)
            rintro e w2 ⟨rfl, hb⟩
            have X2 := Lib.hid (fbox_below X1.out hb (fbox_lt X1.out))
            have I2 := Lib.hid (box_below I1.out hb (box_lt I1.out))
            have R2 := Lib.hid (rbox_below R1.out hb)
            have B2 := Lib.hid (B1.out.trans (hb.mono B1.out.size))
            clear hb X1 I1 R1 B1
            obtain ⟨d0, d1, d2, d3, d4, d5⟩ := fbox_cells X2.out
            dsimp only at d0 d1 d2 d3 d4 d5
            obtain ⟨b0, b1⟩ := box_cells I2.out
            go_wp2_with fail
            obtain ⟨c0, c1, c2, c3⟩ := rbox_cells R2.out HK.out
            go_quiet (fail)
            go_wp2_with fail
            go_quiet (fail)
            go_wp2_with fail
            go_quiet (fail)
            go_wp2_with fail
            go_quiet (fail)
            go_wp2_with fail
            go_quiet (fail)
            generalize hW : World.drewN _ _ = w4
            have X4 := Lib.hid (show FBox w4 w.heap.size ⟨fk, k, f2, t1, t2, fn⟩ from by rw [← hW]; exact X2.out)
            have R4 := Lib.hid (show RBox w4 g M from by rw [← hW]; exact rbox_same R2.out rfl)
            have C4 := Lib.hid (show Ch w w4 g none none from by rw [← hW]; exact ⟨B2.out.os, B2.out.tape, B2.out.output, B2.out.size, fun j hj _ _ => B2.out.block j hj, .inl rfl⟩)
            clear hW d0 d1 d2 d3 d4 d5 b0 b1 c0 c1 c2 c3 X2 I2 R2 B2
            obtain ⟨d0, -, -, -, -, d5⟩ := fbox_cells X4.out
            dsimp only at d0 d5
            obtain ⟨-, -, c2, c3⟩ := rbox_cells R4.out HK.out
            have y4 := rbox_free R4.out (k * 4 + 2)
            have R7 := Lib.hid (rbox_set R4.out HK.out 2 (by omega) fn)
            have C7 := Lib.hid (C4.out.cell (k * 4 + 2) (.int .i64 fn))
            have X7 := Lib.hid (show FBox (w4.setCell ⟨g, k * 4 + 2, none⟩ (.int .i64 fn)) w.heap.size ⟨fk, k, f2, t1, t2, fn⟩ from (Below.heap_setCell _ _ _ _ (show w.heap.size ≠ g from fun e => Nat.ne_of_lt GL.out e.symm)).trans X4.out)
            obtain ⟨e0, -⟩ := fbox_cells X7.out
            dsimp only at e0
            go_wp2_with fail
            go_ret
            rw [HT.out.1, HT.out.2]
            refine ⟨rfl, ?_, C7.out⟩
            have r7 := R7.out
            simp only [part] at r7
            exact r7
end Go.Proofs.Ytgbbmhdkhhchhaa
