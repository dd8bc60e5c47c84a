/-
  Carried over and put together: contracts of this program's functions, and plain facts. No statement is proved in this text.
-/
import Derived.Great.Walk
import Derived.Deep.Cut
import Derived.Deep.DeepCutAuto
import Derived.Test.YtkeiekljedhllaaGreatF29
set_option maxRecDepth 20000
namespace Go.Proofs.YtkeiekljedhllaaGreat
open Go Go.RowKit
set_option maxHeartbeats 32000000 in
theorem names_any (w : World) : Calls Tryz.prog 3 #[] w fun e w' => e = .returned (.bool true) ∧ Below w.heap.size w w' := by
  go_enter Tryz.func3, Tryz.ntmps3
  go_wp2_with fail
  (with_reducible refine (works_any _).mono ?_)
  rintro e1 w1 ⟨rfl, hb⟩
  have B1 := Lib.hid hb
  clear hb
  go_upto_region 3 with fail
  go_wp2_with fail
  (with_reducible refine (of_any 1 _).mono ?_)
  rintro e2 w2 ⟨rfl, hb⟩
  have B2 := Lib.hid (below_after B1.out hb (Nat.le_refl _))
  clear hb B1
  have b3 := Lib.hid (below_one w2 (.cells #[.int .i64 1, .int .i64 1, .int .i64 1099511627776] 27))
  have C3 := Lib.hid (owns_lit (enc := encT) encT_len w2 w2.heap.size (Nat.le_refl _) [((1, 1), 1099511627776)] #[.int .i64 1, .int .i64 1, .int .i64 1099511627776] 27 rfl (by simp))
  go_wp2_with fail
  have d3 := Lib.hid (below_after B2.out b3.out (Nat.le_refl _))
  (with_reducible refine (of_any 3 _).mono ?_)
  rintro e4 w4 ⟨rfl, hb⟩
  have C4 := Lib.hid (C3.out.below hb)
  have B4 := Lib.hid (below_after d3.out hb (Nat.le_refl _))
  have z4 := Lib.hid (Nat.le_trans b3.out.size hb.size)
  clear hb C3 b3 d3 B2
  have b5 := Lib.hid (below_one w4 (.cells #[.int .i64 3, .int .i64 1] 24))
  have S5 := Lib.hid (owns_lit (enc := encI) encI_len w4 w2.heap.size z4.out [(3, 1)] #[.int .i64 3, .int .i64 1] 24 rfl (by simp))
  have C5 := Lib.hid (C4.out.below b5.out)
  have B5 := Lib.hid (below_after B4.out b5.out (Nat.le_refl _))
  have ZL := Lib.hid (Nat.le_trans z4.out b5.out.size)
  clear C4 B4 b5
  go_upto_region 4 with fail
  -- PARTB
  have HS5 := Lib.hid (show (w4.alloc (.cells #[.int .i64 3, .int .i64 1] 24)).heap.size = w4.heap.size + 1 by simp)
  generalize w4.alloc (.cells #[.int .i64 3, .int .i64 1] 24) = w5 at *
  generalize w2.heap.size = gt at *
  generalize w4.heap.size = gs at *
  generalize gs + 1 = gv at *
  have V6 := Lib.hid (show VBox (w5.alloc (.cells #[.slice none 0 0, .slice none 0 0, .slice none 0 0, .slice (some ⟨gt, 0, none⟩) 1 1, .slice (some ⟨gs, 0, none⟩) 1 1] 33)) gv (none, 0, 0) (none, 0, 0) (none, 0, 0) (some ⟨gt, 0, none⟩, 1, 1) (some ⟨gs, 0, none⟩, 1, 1) by have k := heap_alloc_new w5 (.cells #[.slice none 0 0, .slice none 0 0, .slice none 0 0, .slice (some ⟨gt, 0, none⟩) 1 1, .slice (some ⟨gs, 0, none⟩) 1 1] 33); rw [HS5.out] at k; exact k)
  have b6 := Lib.hid (below_one w5 (.cells #[.slice none 0 0, .slice none 0 0, .slice none 0 0, .slice (some ⟨gt, 0, none⟩) 1 1, .slice (some ⟨gs, 0, none⟩) 1 1] 33))
  have Q6 := Lib.hid (show OwnV (w5.alloc (.cells #[.slice none 0 0, .slice none 0 0, .slice none 0 0, .slice (some ⟨gt, 0, none⟩) 1 1, .slice (some ⟨gs, 0, none⟩) 1 1] 33)) gt (none, 0, 0) (none, 0, 0) (none, 0, 0) (some ⟨gt, 0, none⟩, 1, 1) (some ⟨gs, 0, none⟩, 1, 1) vV from ⟨OwnsR.nil _ _ _, OwnsR.nil _ _ _, ⟨[], OwnsR.nil _ _ _, trivial⟩, C5.out.below b6.out, S5.out.below b6.out⟩)
  have B6 := Lib.hid (below_after B5.out b6.out (Nat.le_refl _))
  have Z6 := Lib.hid (Nat.le_trans ZL.out b6.out.size)
  have HV := Lib.hid (show w.heap.size ≤ gv by rw [← HS5.out]; exact B5.out.size)
  clear C5 S5 B5 b6 ZL HS5
  generalize w5.alloc (.cells #[.slice none 0 0, .slice none 0 0, .slice none 0 0, .slice (some ⟨gt, 0, none⟩) 1 1, .slice (some ⟨gs, 0, none⟩) 1 1] 33) = w6 at *
  have V7 := Lib.hid (vbox_below V6.out (below_one w6 (.cells #[.slice none 0 0, .slice none 0 0, .slice none 0 0, .slice (some ⟨gt, 0, none⟩) 1 1, .slice (some ⟨gs, 0, none⟩) 1 1] 33)))
  have A7 := Lib.hid (show VBox (w6.alloc (.cells #[.slice none 0 0, .slice none 0 0, .slice none 0 0, .slice (some ⟨gt, 0, none⟩) 1 1, .slice (some ⟨gs, 0, none⟩) 1 1] 33)) w6.heap.size (none, 0, 0) (none, 0, 0) (none, 0, 0) (some ⟨gt, 0, none⟩, 1, 1) (some ⟨gs, 0, none⟩, 1, 1) from heap_alloc_new w6 _)
  have Q7 := Lib.hid (Q6.out.below (below_one w6 (.cells #[.slice none 0 0, .slice none 0 0, .slice none 0 0, .slice (some ⟨gt, 0, none⟩) 1 1, .slice (some ⟨gs, 0, none⟩) 1 1] 33)))
  have B7 := Lib.hid (below_after B6.out (below_one w6 (.cells #[.slice none 0 0, .slice none 0 0, .slice none 0 0, .slice (some ⟨gt, 0, none⟩) 1 1, .slice (some ⟨gs, 0, none⟩) 1 1] 33)) (Nat.le_refl _))
  have Z7 := Lib.hid (Nat.le_trans Z6.out (below_one w6 (.cells #[.slice none 0 0, .slice none 0 0, .slice none 0 0, .slice (some ⟨gt, 0, none⟩) 1 1, .slice (some ⟨gs, 0, none⟩) 1 1] 33)).size)
  have HA := Lib.hid (show w.heap.size ≤ w6.heap.size from B6.out.size)
  have HVA := Lib.hid (show gv < w6.heap.size from vbox_lt V6.out)
  obtain ⟨p0, p1, p2, p3, p4⟩ := vbox_cells V6.out
  go_upto_region 5 with fail
  clear p0 p1 p2 p3 p4 V6 Q6 B6 Z6
  generalize w6.alloc (.cells #[.slice none 0 0, .slice none 0 0, .slice none 0 0, .slice (some ⟨gt, 0, none⟩) 1 1, .slice (some ⟨gs, 0, none⟩) 1 1] 33) = w7 at *
  generalize w6.heap.size = ga at *
  go_wp2_with fail
  (with_reducible refine (of_any 1 _).mono ?_)
  rintro e8 w8 ⟨rfl, hb⟩
  have b9 := Lib.hid (below_one w8 (.cells #[.int .i64 1, .int .i64 1, .int .u8 6, .int .i64 7, .int .i64 2, .int .i64 5, .int .u8 1, .int .i64 0] 35))
  have z8 := Lib.hid (Nat.le_trans Z7.out hb.size)
  have M9 := Lib.hid (show OwnsR encM 4 35 (w8.alloc (.cells #[.int .i64 1, .int .i64 1, .int .u8 6, .int .i64 7, .int .i64 2, .int .i64 5, .int .u8 1, .int .i64 0] 35)) gt (.slice (some ⟨w8.heap.size, 0, none⟩) 2 2) [((1, 1), 6, 7), ((2, 5), 1, 0)] from owns_lit (enc := encM) encM_len w8 gt z8.out [((1, 1), 6, 7), ((2, 5), 1, 0)] #[.int .i64 1, .int .i64 1, .int .u8 6, .int .i64 7, .int .i64 2, .int .i64 5, .int .u8 1, .int .i64 0] 35 rfl (by simp))
  have hb9 := Lib.hid (below_after hb b9.out (Nat.le_refl _))
  have V9 := Lib.hid (vbox_below V7.out hb9.out)
  have A9 := Lib.hid (vbox_below A7.out hb9.out)
  have Q9 := Lib.hid (Q7.out.below hb9.out)
  have B9 := Lib.hid (below_after B7.out hb9.out (Nat.le_refl _))
  have Z9 := Lib.hid (Nat.le_trans Z7.out hb9.out.size)
  clear hb b9 z8 hb9 V7 A7 Q7 B7 Z7
  obtain ⟨p0, p1, p2, p3, p4⟩ := vbox_cells A9.out
  obtain ⟨f0, f1, f2, f3, f4⟩ := vbox_free A9.out
  clear p1 p2 p3 p4 f1 f2 f3 f4
  go_upto_region 6 with fail
  have A10 := Lib.hid (vbox_put0 A9.out (some ⟨w8.heap.size, 0, none⟩, 2, 2))
  have HG10 := Lib.hid (grownSet (w8.alloc (.cells #[.int .i64 1, .int .i64 1, .int .u8 6, .int .i64 7, .int .i64 2, .int .i64 5, .int .u8 1, .int .i64 0] 35)) ga 0 (.slice (some ⟨w8.heap.size, 0, none⟩) 2 2))
  have V10 := Lib.hid (vbox_not V9.out HG10.out (Nat.ne_of_lt HVA.out))
  have Q10 := Lib.hid (Q9.out.put0 A9.out (some ⟨w8.heap.size, 0, none⟩, 2, 2) [((1, 1), 6, 7), ((2, 5), 1, 0)] M9.out)
  have P10 := Lib.hid (Q9.out.write A9.out (by decide) (by decide) (by decide) (by decide) HG10.out)
  have B10 := Lib.hid (B9.out.trans (below_gone HG10.out HA.out B9.out.size))
  have Z10 := Lib.hid (Nat.le_trans Z9.out HG10.out.size)
  clear p0 f0 A9 V9 Q9 B9 Z9 M9 HG10
  dsimp only at A10 V10 Q10 P10 B10 Z10
  generalize (w8.alloc (.cells #[.int .i64 1, .int .i64 1, .int .u8 6, .int .i64 7, .int .i64 2, .int .i64 5, .int .u8 1, .int .i64 0] 35)).setCell ⟨ga, 0, none⟩ (.slice (some ⟨w8.heap.size, 0, none⟩) 2 2) = w10 at *
  generalize w8.heap.size = gm at *
  have b11 := Lib.hid (below_one w10 (.cells #[.int .i64 2, .int .i64 4, .int .i64 9, .int .i64 1048576] 24))
  have F11 := Lib.hid (show OwnsR encI 2 24 (w10.alloc (.cells #[.int .i64 2, .int .i64 4, .int .i64 9, .int .i64 1048576] 24)) gt (.slice (some ⟨w10.heap.size, 0, none⟩) 2 2) [(2, 4), (9, 1048576)] from owns_lit (enc := encI) encI_len w10 gt Z10.out [(2, 4), (9, 1048576)] #[.int .i64 2, .int .i64 4, .int .i64 9, .int .i64 1048576] 24 rfl (by simp))
  have V11 := Lib.hid (vbox_below V10.out b11.out)
  have A11 := Lib.hid (vbox_below A10.out b11.out)
  have Q11 := Lib.hid (Q10.out.below b11.out)
  have P11 := Lib.hid (P10.out.below b11.out)
  have B11 := Lib.hid (below_after B10.out b11.out (Nat.le_refl _))
  have Z11 := Lib.hid (Nat.le_trans Z10.out b11.out.size)
  clear b11 V10 A10 Q10 P10 B10 Z10
  obtain ⟨p0, p1, p2, p3, p4⟩ := vbox_cells A11.out
  obtain ⟨f0, f1, f2, f3, f4⟩ := vbox_free A11.out
  clear p0 p2 p3 p4 f0 f2 f3 f4
  go_upto_region 7 with fail
  have A12 := Lib.hid (vbox_put1 A11.out (some ⟨w10.heap.size, 0, none⟩, 2, 2))
  have HG12 := Lib.hid (grownSet (w10.alloc (.cells #[.int .i64 2, .int .i64 4, .int .i64 9, .int .i64 1048576] 24)) ga 1 (.slice (some ⟨w10.heap.size, 0, none⟩) 2 2))
  have V12 := Lib.hid (vbox_not V11.out HG12.out (Nat.ne_of_lt HVA.out))
  have Q12 := Lib.hid (Q11.out.put1 A11.out (some ⟨w10.heap.size, 0, none⟩, 2, 2) [(2, 4), (9, 1048576)] F11.out)
  have P12 := Lib.hid (P11.out.write A11.out (by decide) (by decide) (by decide) (by decide) HG12.out)
  have B12 := Lib.hid (B11.out.trans (below_gone HG12.out HA.out B11.out.size))
  have Z12 := Lib.hid (Nat.le_trans Z11.out HG12.out.size)
  clear p1 f1 A11 V11 Q11 P11 B11 Z11 F11 HG12
  dsimp only at A12 V12 Q12 P12 B12 Z12
  generalize (w10.alloc (.cells #[.int .i64 2, .int .i64 4, .int .i64 9, .int .i64 1048576] 24)).setCell ⟨ga, 1, none⟩ (.slice (some ⟨w10.heap.size, 0, none⟩) 2 2) = w12 at *
  generalize w10.heap.size = gf at *
  go_wp2_with fail
  (with_reducible refine (of_any 1 _).mono ?_)
  rintro e13 w13 ⟨rfl, hb⟩
  have b14 := Lib.hid (below_one w13 (.cells #[.int .i64 2, .int .i64 5] 24))
  have z13 := Lib.hid (Nat.le_trans Z12.out hb.size)
  have I14 := Lib.hid (show OwnsR encI 2 24 (w13.alloc (.cells #[.int .i64 2, .int .i64 5] 24)) gt (.slice (some ⟨w13.heap.size, 0, none⟩) 1 1) [(2, 5)] from owns_lit (enc := encI) encI_len w13 gt z13.out [(2, 5)] #[.int .i64 2, .int .i64 5] 24 rfl (by simp))
  have hb14 := Lib.hid (below_after hb b14.out (Nat.le_refl _))
  have HS14 := Lib.hid (show (w13.alloc (.cells #[.int .i64 2, .int .i64 5] 24)).heap.size = w13.heap.size + 1 by simp)
  have b15 := Lib.hid (below_one (w13.alloc (.cells #[.int .i64 2, .int .i64 5] 24)) (.cells #[.int .i64 1, .int .i64 1, .int .i64 3, .slice (some ⟨w13.heap.size, 0, none⟩) 1 1, .int .i64 2, .int .i64 5, .int .i64 1, .slice none 0 0] 37))
  have R15 := Lib.hid (show OwnsR encW 4 37 ((w13.alloc (.cells #[.int .i64 2, .int .i64 5] 24)).alloc (.cells #[.int .i64 1, .int .i64 1, .int .i64 3, .slice (some ⟨w13.heap.size, 0, none⟩) 1 1, .int .i64 2, .int .i64 5, .int .i64 1, .slice none 0 0] 37)) gt (.slice (some ⟨w13.heap.size + 1, 0, none⟩) 2 2) [((1, 1), 3, (some ⟨w13.heap.size, 0, none⟩, 1, 1)), ((2, 5), 1, (none, 0, 0))] by have k := owns_lit (enc := encW) encW_len (w13.alloc (.cells #[.int .i64 2, .int .i64 5] 24)) gt (Nat.le_trans z13.out b14.out.size) [((1, 1), 3, (some ⟨w13.heap.size, 0, none⟩, 1, 1)), ((2, 5), 1, (none, 0, 0))] #[.int .i64 1, .int .i64 1, .int .i64 3, .slice (some ⟨w13.heap.size, 0, none⟩) 1 1, .int .i64 2, .int .i64 5, .int .i64 1, .slice none 0 0] 37 rfl (by simp); rw [HS14.out] at k; exact k)
  have E15 := Lib.hid (show EachOwn ((w13.alloc (.cells #[.int .i64 2, .int .i64 5] 24)).alloc (.cells #[.int .i64 1, .int .i64 1, .int .i64 3, .slice (some ⟨w13.heap.size, 0, none⟩) 1 1, .int .i64 2, .int .i64 5, .int .i64 1, .slice none 0 0] 37)) gt [((1, 1), 3, (some ⟨w13.heap.size, 0, none⟩, 1, 1)), ((2, 5), 1, (none, 0, 0))] [((1, 1), 3, [(2, 5)]), ((2, 5), 1, [])] from ⟨⟨rfl, rfl, I14.out.below b15.out⟩, ⟨rfl, rfl, OwnsR.nil _ _ _⟩, trivial⟩)
  have hb15 := Lib.hid (below_after hb14.out b15.out (Nat.le_refl _))
  have V15 := Lib.hid (vbox_below V12.out hb15.out)
  have A15 := Lib.hid (vbox_below A12.out hb15.out)
  have Q15 := Lib.hid (Q12.out.below hb15.out)
  have P15 := Lib.hid (P12.out.below hb15.out)
  have B15 := Lib.hid (below_after B12.out hb15.out (Nat.le_refl _))
  have Z15 := Lib.hid (Nat.le_trans Z12.out hb15.out.size)
  clear hb b14 b15 I14 HS14 hb14 hb15 z13 V12 A12 Q12 P12 B12 Z12
  obtain ⟨p0, p1, p2, p3, p4⟩ := vbox_cells A15.out
  obtain ⟨f0, f1, f2, f3, f4⟩ := vbox_free A15.out
  clear p0 p1 p3 p4 f0 f1 f3 f4
  go_upto_region 8 with fail
  have A16 := Lib.hid (vbox_put2 A15.out (some ⟨w13.heap.size + 1, 0, none⟩, 2, 2))
  have HG16 := Lib.hid (grownSet ((w13.alloc (.cells #[.int .i64 2, .int .i64 5] 24)).alloc (.cells #[.int .i64 1, .int .i64 1, .int .i64 3, .slice (some ⟨w13.heap.size, 0, none⟩) 1 1, .int .i64 2, .int .i64 5, .int .i64 1, .slice none 0 0] 37)) ga 2 (.slice (some ⟨w13.heap.size + 1, 0, none⟩) 2 2))
  have V16 := Lib.hid (vbox_not V15.out HG16.out (Nat.ne_of_lt HVA.out))
  have Q16 := Lib.hid (Q15.out.put2 A15.out (some ⟨w13.heap.size + 1, 0, none⟩, 2, 2) [((1, 1), 3, (some ⟨w13.heap.size, 0, none⟩, 1, 1)), ((2, 5), 1, (none, 0, 0))] [((1, 1), 3, [(2, 5)]), ((2, 5), 1, [])] R15.out E15.out)
  have P16 := Lib.hid (P15.out.write A15.out (by decide) (by decide) (by decide) (by decide) HG16.out)
  have B16 := Lib.hid (B15.out.trans (below_gone HG16.out HA.out B15.out.size))
  clear p2 f2 A15 V15 Q15 P15 B15 Z15 R15 E15 HG16
  dsimp only at A16 V16 Q16 P16 B16
  generalize ((w13.alloc (.cells #[.int .i64 2, .int .i64 5] 24)).alloc (.cells #[.int .i64 1, .int .i64 1, .int .i64 3, .slice (some ⟨w13.heap.size, 0, none⟩) 1 1, .int .i64 2, .int .i64 5, .int .i64 1, .slice none 0 0] 37)).setCell ⟨ga, 2, none⟩ (.slice (some ⟨w13.heap.size + 1, 0, none⟩) 2 2) = w16 at *
  generalize w13.heap.size = gr at *
  have R16 := Lib.hid (show RV w16 (none, 0, 0) (none, 0, 0) (none, 0, 0) (some ⟨gt, 0, none⟩, 1, 1) (some ⟨gs, 0, none⟩, 1, 1) vV from P16.out.rv)
  have T16 := Lib.hid (show RV w16 (some ⟨gm, 0, none⟩, 2, 2) (some ⟨gf, 0, none⟩, 2, 2) (some ⟨gr + 1, 0, none⟩, 2, 2) (some ⟨gt, 0, none⟩, 1, 1) (some ⟨gs, 0, none⟩, 1, 1) vA from Q16.out.rv)
  clear P16 Q16 HA HV HVA z4
  go_wp2_with fail
  (with_reducible refine (of_any 4 _).mono ?_)
  rintro e17 w17 ⟨rfl, hb⟩
  have A17 := Lib.hid (vbox_below A16.out hb)
  have V17 := Lib.hid (vbox_below V16.out hb)
  have R17 := Lib.hid (R16.out.below hb)
  have T17 := Lib.hid (T16.out.below hb)
  have B17 := Lib.hid (below_after B16.out hb (Nat.le_refl _))
  clear hb A16 V16 R16 T16 B16
  go_upto_region 9 with fail
  have b18 := Lib.hid (below_after (below_one w17 (.cells #[.int .i64 4, .int .i64 1] 24)) (below_one (w17.alloc (.cells #[.int .i64 4, .int .i64 1] 24)) (.cells #[.int .i64 5, .int .i64 0] 24)) (Nat.le_refl _))
  have D18 := Lib.hid (box_below (box_new w17 4 1) (below_one (w17.alloc (.cells #[.int .i64 4, .int .i64 1] 24)) (.cells #[.int .i64 5, .int .i64 0] 24)))
  have E18 := Lib.hid (show Box ((w17.alloc (.cells #[.int .i64 4, .int .i64 1] 24)).alloc (.cells #[.int .i64 5, .int .i64 0] 24)) (w17.heap.size + 1) 5 0 by have k := box_new (w17.alloc (.cells #[.int .i64 4, .int .i64 1] 24)) 5 0; rw [show (w17.alloc (.cells #[.int .i64 4, .int .i64 1] 24)).heap.size = w17.heap.size + 1 by simp] at k; exact k)
  have A18 := Lib.hid (vbox_below A17.out b18.out)
  have V18 := Lib.hid (vbox_below V17.out b18.out)
  have R18 := Lib.hid (R17.out.below b18.out)
  have T18 := Lib.hid (T17.out.below b18.out)
  have B18 := Lib.hid (below_after B17.out b18.out (Nat.le_refl _))
  clear b18 A17 V17 R17 T17 B17
  generalize (w17.alloc (.cells #[.int .i64 4, .int .i64 1] 24)).alloc (.cells #[.int .i64 5, .int .i64 0] 24) = w18 at *
  generalize w17.heap.size = gi at *
  have b19 := Lib.hid (below_one w18 (.cells #[.int .u8 1, .int .i64 0, .int .i64 0, .int .i64 0, .int .i64 0, .int .i64 0, .int .i64 0, .int .i64 0, .int .i64 0, .slice none 0 0, .slice none 0 0, .slice none 0 0, .slice none 0 0, .slice none 0 0, .bool true, .bool true, .bool false, .bool false, .bool false, .int .i64 0, .int .u8 2, .int .i64 0, .int .i64 0, .int .i64 0, .int .i64 0, .int .i64 0, .int .i64 0, .int .i64 0, .int .i64 0, .slice none 0 0, .slice none 0 0, .slice none 0 0, .slice none 0 0, .slice none 0 0, .bool true, .bool true, .bool false, .bool false, .bool false, .int .i64 2, .int .u8 3, .int .i64 0, .int .i64 0, .int .i64 0, .int .i64 0, .int .i64 0, .int .i64 0, .int .i64 0, .int .i64 0, .slice none 0 0, .slice none 0 0, .slice none 0 0, .slice none 0 0, .slice none 0 0, .bool true, .bool true, .bool false, .bool false, .bool false, .int .i64 1, .int .u8 4, .int .i64 0, .int .i64 0, .int .i64 0, .int .i64 0, .int .i64 0, .int .i64 0, .int .i64 0, .int .i64 0, .slice none 0 0, .slice none 0 0, .slice none 0 0, .slice none 0 0, .slice none 0 0, .bool true, .bool true, .bool false, .bool false, .bool false, .int .i64 2, .int .u8 5, .int .i64 0, .int .i64 0, .int .i64 0, .int .i64 0, .int .i64 0, .int .i64 0, .int .i64 0, .int .i64 0, .slice none 0 0, .slice none 0 0, .slice none 0 0, .slice none 0 0, .slice none 0 0, .bool true, .bool true, .bool true, .bool false, .bool false, .int .i64 0, .int .u8 6, .int .i64 0, .int .i64 0, .int .i64 0, .int .i64 0, .int .i64 0, .int .i64 0, .int .i64 0, .int .i64 0, .slice none 0 0, .slice none 0 0, .slice none 0 0, .slice none 0 0, .slice none 0 0, .bool true, .bool true, .bool true, .bool false, .bool false, .int .i64 0, .int .u8 7, .int .i64 0, .int .i64 0, .int .i64 0, .int .i64 0, .int .i64 0, .int .i64 0, .int .i64 0, .int .i64 0, .slice none 0 0, .slice none 0 0, .slice none 0 0, .slice none 0 0, .slice none 0 0, .bool true, .bool true, .bool false, .bool false, .bool true, .int .i64 0, .int .u8 8, .int .i64 0, .int .i64 0, .int .i64 0, .int .i64 0, .int .i64 0, .int .i64 0, .int .i64 0, .int .i64 0, .slice none 0 0, .slice none 0 0, .slice none 0 0, .slice none 0 0, .slice none 0 0, .bool true, .bool true, .bool false, .bool false, .bool true, .int .i64 0, .int .u8 9, .int .i64 0, .int .i64 0, .int .i64 0, .int .i64 0, .int .i64 0, .int .i64 0, .int .i64 0, .int .i64 0, .slice none 0 0, .slice none 0 0, .slice none 0 0, .slice none 0 0, .slice none 0 0, .bool true, .bool false, .bool true, .bool false, .bool false, .int .i64 0, .int .u8 10, .int .i64 0, .int .i64 0, .int .i64 0, .int .i64 0, .int .i64 0, .int .i64 0, .int .i64 0, .int .i64 0, .slice none 0 0, .slice none 0 0, .slice none 0 0, .slice none 0 0, .slice none 0 0, .bool true, .bool false, .bool true, .bool true, .bool false, .int .i64 0, .int .u8 11, .int .i64 0, .int .i64 0, .int .i64 0, .int .i64 0, .int .i64 0, .int .i64 0, .int .i64 0, .int .i64 0, .slice none 0 0, .slice none 0 0, .slice none 0 0, .slice none 0 0, .slice none 0 0, .bool true, .bool false, .bool false, .bool true, .bool false, .int .i64 0, .int .u8 12, .int .i64 0, .int .i64 0, .int .i64 0, .int .i64 0, .int .i64 0, .int .i64 0, .int .i64 0, .int .i64 0, .slice none 0 0, .slice none 0 0, .slice none 0 0, .slice none 0 0, .slice none 0 0, .bool false, .bool true, .bool true, .bool true, .bool false, .int .i64 0, .int .u8 13, .int .i64 0, .int .i64 0, .int .i64 0, .int .i64 0, .int .i64 0, .int .i64 0, .int .i64 0, .int .i64 0, .slice none 0 0, .slice none 0 0, .slice none 0 0, .slice none 0 0, .slice none 0 0, .bool false, .bool true, .bool true, .bool false, .bool false, .int .i64 0] 40))
  have K19 := Lib.hid (show Rcs encKd 20 (w18.alloc (.cells #[.int .u8 1, .int .i64 0, .int .i64 0, .int .i64 0, .int .i64 0, .int .i64 0, .int .i64 0, .int .i64 0, .int .i64 0, .slice none 0 0, .slice none 0 0, .slice none 0 0, .slice none 0 0, .slice none 0 0, .bool true, .bool true, .bool false, .bool false, .bool false, .int .i64 0, .int .u8 2, .int .i64 0, .int .i64 0, .int .i64 0, .int .i64 0, .int .i64 0, .int .i64 0, .int .i64 0, .int .i64 0, .slice none 0 0, .slice none 0 0, .slice none 0 0, .slice none 0 0, .slice none 0 0, .bool true, .bool true, .bool false, .bool false, .bool false, .int .i64 2, .int .u8 3, .int .i64 0, .int .i64 0, .int .i64 0, .int .i64 0, .int .i64 0, .int .i64 0, .int .i64 0, .int .i64 0, .slice none 0 0, .slice none 0 0, .slice none 0 0, .slice none 0 0, .slice none 0 0, .bool true, .bool true, .bool false, .bool false, .bool false, .int .i64 1, .int .u8 4, .int .i64 0, .int .i64 0, .int .i64 0, .int .i64 0, .int .i64 0, .int .i64 0, .int .i64 0, .int .i64 0, .slice none 0 0, .slice none 0 0, .slice none 0 0, .slice none 0 0, .slice none 0 0, .bool true, .bool true, .bool false, .bool false, .bool false, .int .i64 2, .int .u8 5, .int .i64 0, .int .i64 0, .int .i64 0, .int .i64 0, .int .i64 0, .int .i64 0, .int .i64 0, .int .i64 0, .slice none 0 0, .slice none 0 0, .slice none 0 0, .slice none 0 0, .slice none 0 0, .bool true, .bool true, .bool true, .bool false, .bool false, .int .i64 0, .int .u8 6, .int .i64 0, .int .i64 0, .int .i64 0, .int .i64 0, .int .i64 0, .int .i64 0, .int .i64 0, .int .i64 0, .slice none 0 0, .slice none 0 0, .slice none 0 0, .slice none 0 0, .slice none 0 0, .bool true, .bool true, .bool true, .bool false, .bool false, .int .i64 0, .int .u8 7, .int .i64 0, .int .i64 0, .int .i64 0, .int .i64 0, .int .i64 0, .int .i64 0, .int .i64 0, .int .i64 0, .slice none 0 0, .slice none 0 0, .slice none 0 0, .slice none 0 0, .slice none 0 0, .bool true, .bool true, .bool false, .bool false, .bool true, .int .i64 0, .int .u8 8, .int .i64 0, .int .i64 0, .int .i64 0, .int .i64 0, .int .i64 0, .int .i64 0, .int .i64 0, .int .i64 0, .slice none 0 0, .slice none 0 0, .slice none 0 0, .slice none 0 0, .slice none 0 0, .bool true, .bool true, .bool false, .bool false, .bool true, .int .i64 0, .int .u8 9, .int .i64 0, .int .i64 0, .int .i64 0, .int .i64 0, .int .i64 0, .int .i64 0, .int .i64 0, .int .i64 0, .slice none 0 0, .slice none 0 0, .slice none 0 0, .slice none 0 0, .slice none 0 0, .bool true, .bool false, .bool true, .bool false, .bool false, .int .i64 0, .int .u8 10, .int .i64 0, .int .i64 0, .int .i64 0, .int .i64 0, .int .i64 0, .int .i64 0, .int .i64 0, .int .i64 0, .slice none 0 0, .slice none 0 0, .slice none 0 0, .slice none 0 0, .slice none 0 0, .bool true, .bool false, .bool true, .bool true, .bool false, .int .i64 0, .int .u8 11, .int .i64 0, .int .i64 0, .int .i64 0, .int .i64 0, .int .i64 0, .int .i64 0, .int .i64 0, .int .i64 0, .slice none 0 0, .slice none 0 0, .slice none 0 0, .slice none 0 0, .slice none 0 0, .bool true, .bool false, .bool false, .bool true, .bool false, .int .i64 0, .int .u8 12, .int .i64 0, .int .i64 0, .int .i64 0, .int .i64 0, .int .i64 0, .int .i64 0, .int .i64 0, .int .i64 0, .slice none 0 0, .slice none 0 0, .slice none 0 0, .slice none 0 0, .slice none 0 0, .bool false, .bool true, .bool true, .bool true, .bool false, .int .i64 0, .int .u8 13, .int .i64 0, .int .i64 0, .int .i64 0, .int .i64 0, .int .i64 0, .int .i64 0, .int .i64 0, .int .i64 0, .slice none 0 0, .slice none 0 0, .slice none 0 0, .slice none 0 0, .slice none 0 0, .bool false, .bool true, .bool true, .bool false, .bool false, .int .i64 0] 40)) (.slice (some ⟨w18.heap.size, 0, none⟩) 13 13) kds from rcs_lit encKd_len w18 kds #[.int .u8 1, .int .i64 0, .int .i64 0, .int .i64 0, .int .i64 0, .int .i64 0, .int .i64 0, .int .i64 0, .int .i64 0, .slice none 0 0, .slice none 0 0, .slice none 0 0, .slice none 0 0, .slice none 0 0, .bool true, .bool true, .bool false, .bool false, .bool false, .int .i64 0, .int .u8 2, .int .i64 0, .int .i64 0, .int .i64 0, .int .i64 0, .int .i64 0, .int .i64 0, .int .i64 0, .int .i64 0, .slice none 0 0, .slice none 0 0, .slice none 0 0, .slice none 0 0, .slice none 0 0, .bool true, .bool true, .bool false, .bool false, .bool false, .int .i64 2, .int .u8 3, .int .i64 0, .int .i64 0, .int .i64 0, .int .i64 0, .int .i64 0, .int .i64 0, .int .i64 0, .int .i64 0, .slice none 0 0, .slice none 0 0, .slice none 0 0, .slice none 0 0, .slice none 0 0, .bool true, .bool true, .bool false, .bool false, .bool false, .int .i64 1, .int .u8 4, .int .i64 0, .int .i64 0, .int .i64 0, .int .i64 0, .int .i64 0, .int .i64 0, .int .i64 0, .int .i64 0, .slice none 0 0, .slice none 0 0, .slice none 0 0, .slice none 0 0, .slice none 0 0, .bool true, .bool true, .bool false, .bool false, .bool false, .int .i64 2, .int .u8 5, .int .i64 0, .int .i64 0, .int .i64 0, .int .i64 0, .int .i64 0, .int .i64 0, .int .i64 0, .int .i64 0, .slice none 0 0, .slice none 0 0, .slice none 0 0, .slice none 0 0, .slice none 0 0, .bool true, .bool true, .bool true, .bool false, .bool false, .int .i64 0, .int .u8 6, .int .i64 0, .int .i64 0, .int .i64 0, .int .i64 0, .int .i64 0, .int .i64 0, .int .i64 0, .int .i64 0, .slice none 0 0, .slice none 0 0, .slice none 0 0, .slice none 0 0, .slice none 0 0, .bool true, .bool true, .bool true, .bool false, .bool false, .int .i64 0, .int .u8 7, .int .i64 0, .int .i64 0, .int .i64 0, .int .i64 0, .int .i64 0, .int .i64 0, .int .i64 0, .int .i64 0, .slice none 0 0, .slice none 0 0, .slice none 0 0, .slice none 0 0, .slice none 0 0, .bool true, .bool true, .bool false, .bool false, .bool true, .int .i64 0, .int .u8 8, .int .i64 0, .int .i64 0, .int .i64 0, .int .i64 0, .int .i64 0, .int .i64 0, .int .i64 0, .int .i64 0, .slice none 0 0, .slice none 0 0, .slice none 0 0, .slice none 0 0, .slice none 0 0, .bool true, .bool true, .bool false, .bool false, .bool true, .int .i64 0, .int .u8 9, .int .i64 0, .int .i64 0, .int .i64 0, .int .i64 0, .int .i64 0, .int .i64 0, .int .i64 0, .int .i64 0, .slice none 0 0, .slice none 0 0, .slice none 0 0, .slice none 0 0, .slice none 0 0, .bool true, .bool false, .bool true, .bool false, .bool false, .int .i64 0, .int .u8 10, .int .i64 0, .int .i64 0, .int .i64 0, .int .i64 0, .int .i64 0, .int .i64 0, .int .i64 0, .int .i64 0, .slice none 0 0, .slice none 0 0, .slice none 0 0, .slice none 0 0, .slice none 0 0, .bool true, .bool false, .bool true, .bool true, .bool false, .int .i64 0, .int .u8 11, .int .i64 0, .int .i64 0, .int .i64 0, .int .i64 0, .int .i64 0, .int .i64 0, .int .i64 0, .int .i64 0, .slice none 0 0, .slice none 0 0, .slice none 0 0, .slice none 0 0, .slice none 0 0, .bool true, .bool false, .bool false, .bool true, .bool false, .int .i64 0, .int .u8 12, .int .i64 0, .int .i64 0, .int .i64 0, .int .i64 0, .int .i64 0, .int .i64 0, .int .i64 0, .int .i64 0, .slice none 0 0, .slice none 0 0, .slice none 0 0, .slice none 0 0, .slice none 0 0, .bool false, .bool true, .bool true, .bool true, .bool false, .int .i64 0, .int .u8 13, .int .i64 0, .int .i64 0, .int .i64 0, .int .i64 0, .int .i64 0, .int .i64 0, .int .i64 0, .int .i64 0, .slice none 0 0, .slice none 0 0, .slice none 0 0, .slice none 0 0, .slice none 0 0, .bool false, .bool true, .bool true, .bool false, .bool false, .int .i64 0] 40 rfl)
  have D19 := Lib.hid (box_below D18.out b19.out)
  have E19 := Lib.hid (box_below E18.out b19.out)
  have A19 := Lib.hid (vbox_below A18.out b19.out)
  have V19 := Lib.hid (vbox_below V18.out b19.out)
  have R19 := Lib.hid (R18.out.below b19.out)
  have T19 := Lib.hid (T18.out.below b19.out)
  have B19 := Lib.hid (below_after B18.out b19.out (Nat.le_refl _))
  clear b19 D18 E18 A18 V18 R18 T18 B18
  go_wp2_with (refine Great.wpList_buildSliceTo rfl 41 40 13 _ rfl w18.heap.size rfl (some 79) rfl Tryz.underlying41 #[.int .u8 1, .int .i64 0, .int .i64 0, .int .i64 0, .int .i64 0, .int .i64 0, .int .i64 0, .int .i64 0, .int .i64 0, .slice none 0 0, .slice none 0 0, .slice none 0 0, .slice none 0 0, .slice none 0 0, .bool true, .bool true, .bool false, .bool false, .bool false, .int .i64 0, .int .u8 2, .int .i64 0, .int .i64 0, .int .i64 0, .int .i64 0, .int .i64 0, .int .i64 0, .int .i64 0, .int .i64 0, .slice none 0 0, .slice none 0 0, .slice none 0 0, .slice none 0 0, .slice none 0 0, .bool true, .bool true, .bool false, .bool false, .bool false, .int .i64 2, .int .u8 3, .int .i64 0, .int .i64 0, .int .i64 0, .int .i64 0, .int .i64 0, .int .i64 0, .int .i64 0, .int .i64 0, .slice none 0 0, .slice none 0 0, .slice none 0 0, .slice none 0 0, .slice none 0 0, .bool true, .bool true, .bool false, .bool false, .bool false, .int .i64 1, .int .u8 4, .int .i64 0, .int .i64 0, .int .i64 0, .int .i64 0, .int .i64 0, .int .i64 0, .int .i64 0, .int .i64 0, .slice none 0 0, .slice none 0 0, .slice none 0 0, .slice none 0 0, .slice none 0 0, .bool true, .bool true, .bool false, .bool false, .bool false, .int .i64 2, .int .u8 5, .int .i64 0, .int .i64 0, .int .i64 0, .int .i64 0, .int .i64 0, .int .i64 0, .int .i64 0, .int .i64 0, .slice none 0 0, .slice none 0 0, .slice none 0 0, .slice none 0 0, .slice none 0 0, .bool true, .bool true, .bool true, .bool false, .bool false, .int .i64 0, .int .u8 6, .int .i64 0, .int .i64 0, .int .i64 0, .int .i64 0, .int .i64 0, .int .i64 0, .int .i64 0, .int .i64 0, .slice none 0 0, .slice none 0 0, .slice none 0 0, .slice none 0 0, .slice none 0 0, .bool true, .bool true, .bool true, .bool false, .bool false, .int .i64 0, .int .u8 7, .int .i64 0, .int .i64 0, .int .i64 0, .int .i64 0, .int .i64 0, .int .i64 0, .int .i64 0, .int .i64 0, .slice none 0 0, .slice none 0 0, .slice none 0 0, .slice none 0 0, .slice none 0 0, .bool true, .bool true, .bool false, .bool false, .bool true, .int .i64 0, .int .u8 8, .int .i64 0, .int .i64 0, .int .i64 0, .int .i64 0, .int .i64 0, .int .i64 0, .int .i64 0, .int .i64 0, .slice none 0 0, .slice none 0 0, .slice none 0 0, .slice none 0 0, .slice none 0 0, .bool true, .bool true, .bool false, .bool false, .bool true, .int .i64 0, .int .u8 9, .int .i64 0, .int .i64 0, .int .i64 0, .int .i64 0, .int .i64 0, .int .i64 0, .int .i64 0, .int .i64 0, .slice none 0 0, .slice none 0 0, .slice none 0 0, .slice none 0 0, .slice none 0 0, .bool true, .bool false, .bool true, .bool false, .bool false, .int .i64 0, .int .u8 10, .int .i64 0, .int .i64 0, .int .i64 0, .int .i64 0, .int .i64 0, .int .i64 0, .int .i64 0, .int .i64 0, .slice none 0 0, .slice none 0 0, .slice none 0 0, .slice none 0 0, .slice none 0 0, .bool true, .bool false, .bool true, .bool true, .bool false, .int .i64 0, .int .u8 11, .int .i64 0, .int .i64 0, .int .i64 0, .int .i64 0, .int .i64 0, .int .i64 0, .int .i64 0, .int .i64 0, .slice none 0 0, .slice none 0 0, .slice none 0 0, .slice none 0 0, .slice none 0 0, .bool true, .bool false, .bool false, .bool true, .bool false, .int .i64 0, .int .u8 12, .int .i64 0, .int .i64 0, .int .i64 0, .int .i64 0, .int .i64 0, .int .i64 0, .int .i64 0, .int .i64 0, .slice none 0 0, .slice none 0 0, .slice none 0 0, .slice none 0 0, .slice none 0 0, .bool false, .bool true, .bool true, .bool true, .bool false, .int .i64 0, .int .u8 13, .int .i64 0, .int .i64 0, .int .i64 0, .int .i64 0, .int .i64 0, .int .i64 0, .int .i64 0, .int .i64 0, .slice none 0 0, .slice none 0 0, .slice none 0 0, .slice none 0 0, .slice none 0 0, .bool false, .bool true, .bool true, .bool false, .bool false, .int .i64 0] (by kernel_rfl) ?_)
  generalize w18.alloc (.cells #[.int .u8 1, .int .i64 0, .int .i64 0, .int .i64 0, .int .i64 0, .int .i64 0, .int .i64 0, .int .i64 0, .int .i64 0, .slice none 0 0, .slice none 0 0, .slice none 0 0, .slice none 0 0, .slice none 0 0, .bool true, .bool true, .bool false, .bool false, .bool false, .int .i64 0, .int .u8 2, .int .i64 0, .int .i64 0, .int .i64 0, .int .i64 0, .int .i64 0, .int .i64 0, .int .i64 0, .int .i64 0, .slice none 0 0, .slice none 0 0, .slice none 0 0, .slice none 0 0, .slice none 0 0, .bool true, .bool true, .bool false, .bool false, .bool false, .int .i64 2, .int .u8 3, .int .i64 0, .int .i64 0, .int .i64 0, .int .i64 0, .int .i64 0, .int .i64 0, .int .i64 0, .int .i64 0, .slice none 0 0, .slice none 0 0, .slice none 0 0, .slice none 0 0, .slice none 0 0, .bool true, .bool true, .bool false, .bool false, .bool false, .int .i64 1, .int .u8 4, .int .i64 0, .int .i64 0, .int .i64 0, .int .i64 0, .int .i64 0, .int .i64 0, .int .i64 0, .int .i64 0, .slice none 0 0, .slice none 0 0, .slice none 0 0, .slice none 0 0, .slice none 0 0, .bool true, .bool true, .bool false, .bool false, .bool false, .int .i64 2, .int .u8 5, .int .i64 0, .int .i64 0, .int .i64 0, .int .i64 0, .int .i64 0, .int .i64 0, .int .i64 0, .int .i64 0, .slice none 0 0, .slice none 0 0, .slice none 0 0, .slice none 0 0, .slice none 0 0, .bool true, .bool true, .bool true, .bool false, .bool false, .int .i64 0, .int .u8 6, .int .i64 0, .int .i64 0, .int .i64 0, .int .i64 0, .int .i64 0, .int .i64 0, .int .i64 0, .int .i64 0, .slice none 0 0, .slice none 0 0, .slice none 0 0, .slice none 0 0, .slice none 0 0, .bool true, .bool true, .bool true, .bool false, .bool false, .int .i64 0, .int .u8 7, .int .i64 0, .int .i64 0, .int .i64 0, .int .i64 0, .int .i64 0, .int .i64 0, .int .i64 0, .int .i64 0, .slice none 0 0, .slice none 0 0, .slice none 0 0, .slice none 0 0, .slice none 0 0, .bool true, .bool true, .bool false, .bool false, .bool true, .int .i64 0, .int .u8 8, .int .i64 0, .int .i64 0, .int .i64 0, .int .i64 0, .int .i64 0, .int .i64 0, .int .i64 0, .int .i64 0, .slice none 0 0, .slice none 0 0, .slice none 0 0, .slice none 0 0, .slice none 0 0, .bool true, .bool true, .bool false, .bool false, .bool true, .int .i64 0, .int .u8 9, .int .i64 0, .int .i64 0, .int .i64 0, .int .i64 0, .int .i64 0, .int .i64 0, .int .i64 0, .int .i64 0, .slice none 0 0, .slice none 0 0, .slice none 0 0, .slice none 0 0, .slice none 0 0, .bool true, .bool false, .bool true, .bool false, .bool false, .int .i64 0, .int .u8 10, .int .i64 0, .int .i64 0, .int .i64 0, .int .i64 0, .int .i64 0, .int .i64 0, .int .i64 0, .int .i64 0, .slice none 0 0, .slice none 0 0, .slice none 0 0, .slice none 0 0, .slice none 0 0, .bool true, .bool false, .bool true, .bool true, .bool false, .int .i64 0, .int .u8 11, .int .i64 0, .int .i64 0, .int .i64 0, .int .i64 0, .int .i64 0, .int .i64 0, .int .i64 0, .int .i64 0, .slice none 0 0, .slice none 0 0, .slice none 0 0, .slice none 0 0, .slice none 0 0, .bool true, .bool false, .bool false, .bool true, .bool false, .int .i64 0, .int .u8 12, .int .i64 0, .int .i64 0, .int .i64 0, .int .i64 0, .int .i64 0, .int .i64 0, .int .i64 0, .int .i64 0, .slice none 0 0, .slice none 0 0, .slice none 0 0, .slice none 0 0, .slice none 0 0, .bool false, .bool true, .bool true, .bool true, .bool false, .int .i64 0, .int .u8 13, .int .i64 0, .int .i64 0, .int .i64 0, .int .i64 0, .int .i64 0, .int .i64 0, .int .i64 0, .int .i64 0, .slice none 0 0, .slice none 0 0, .slice none 0 0, .slice none 0 0, .slice none 0 0, .bool false, .bool true, .bool true, .bool false, .bool false, .int .i64 0] 40) = w19 at *
  rename_i Q' K hK
  have O : Olds w19 gv ga gi w18.heap.size _ _ _ _ _ _ _ _ _ _ := ⟨D19.out, E19.out, V19.out, A19.out, R19.out, T19.out, K19.out⟩
  refine (show Code.wp Tryz.prog (.loop (ifs 10)) _ _ _ from loop_kd O ⟨rfl, rfl, rfl, rfl, rfl, rfl, rfl, rfl, rfl, rfl⟩ (fun x a w d v k => pan_post x a w d v k) fun a' w' h b => ?_)
  exact hK a' w' (tail_any h (box_below D19.out b) (box_below E19.out b) (below_after B19.out b (Nat.le_refl _)))
end Go.Proofs.YtkeiekljedhllaaGreat
