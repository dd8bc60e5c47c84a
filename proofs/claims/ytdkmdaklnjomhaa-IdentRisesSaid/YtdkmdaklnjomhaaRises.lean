/-
  PROVED HERE: for any two lists of IDs and any ID IdentRises of package coveylaw03 returns true and leaves its arguments as they were: what is told are sets; a set that rises is its own; Same is that the sets, as lists, are the same. No condition.
-/
import Derived.Test.YtdkmdaklnjomhaaWorks
import Derived.Test.YtdkmdaklnjomhaaOpen
import Derived.Test.YtdkmdaklnjomhaaBase
namespace Go.Proofs.Ytdkmdaklnjomhaa
open Go.RowKit Sets
theorem same_is {l m : List (Int × Int)} (h : l = m) : sameB l m = true := decide_eq_true h
theorem same_rises (l : List (Int × Int)) : sameB (setOf l) l = risesB l := by
  rw [Bool.eq_iff_iff, risesB_iff]
  unfold sameB
  rw [decide_eq_true_iff]
  exact (rises_iff_self l).symm
theorem same_comm (l m : List (Int × Int)) : sameB l m = sameB m l := by
  unfold sameB
  rw [Bool.eq_iff_iff, decide_eq_true_iff, decide_eq_true_iff]
  exact eq_comm
theorem rises_large (v0 : Value) (l0 : List (Int × Int)) (v1 : Value) (l1 : List (Int × Int)) (a i : Int) (w : World) (h0 : Ids w v0 l0) (h1 : Ids w v1 l1)
    (hl : decide (200 < l0.length ∨ 200 < l1.length) = true) :
    Calls Try.prog 6 #[v0, v1, .agg #[.int .i64 a, .int .i64 i]] w fun e w' => e = .returned (.bool true) ∧ Below w.heap.size w w' := by
  have HL := Lib.hid hl
  have I0 := Lib.hid h0
  have I1 := Lib.hid h1
  obtain ⟨A0, c0, rfl, hz0⟩ := h0
  obtain ⟨A1, c1, rfl, hz1⟩ := h1
  clear hl hz0 hz1
  go_enter Try.func6, Try.ntmps6
  have B0 := Lib.hid (show Below w.heap.size w (w.alloc (.cells #[.int .i64 a, .int .i64 i] 25)) from (Below.refl _ _).alloc (Nat.le_refl _) _)
  go_wp2_with fail
  refine (works_any _).mono ?_
  rintro e w1 ⟨rfl, hb⟩
  have B1 := Lib.hid (below_after B0.out hb (Nat.le_refl _))
  clear hb
  go_wp2_with fail
  refine (large_lit2 _ _ l0 l1 w1 w I0.out I1.out).mono ?_
  rw [HL.out]
  rintro e w2 ⟨rfl, hb⟩
  have B2 := Lib.hid (below_after B1.out hb (Nat.le_refl _))
  clear hb
  go_wp2_with fail
  refine (works_any _).mono ?_
  rintro e w3 ⟨rfl, hb⟩
  have B3 := Lib.hid (below_after B2.out hb (Nat.le_refl _))
  clear hb
  go_wp2_with fail
  go_ret
  exact ⟨rfl, B3.out⟩
set_option maxHeartbeats 16000000 in
set_option maxRecDepth 100000 in
theorem rises_small (v0 : Value) (l0 : List (Int × Int)) (v1 : Value) (l1 : List (Int × Int)) (a i : Int) (w : World) (h0 : Ids w v0 l0) (h1 : Ids w v1 l1)
    (hl : decide (200 < l0.length ∨ 200 < l1.length) = false) :
    Calls Try.prog 6 #[v0, v1, .agg #[.int .i64 a, .int .i64 i]] w fun e w' => e = .returned (.bool true) ∧ Below w.heap.size w w' := by
  have HL := Lib.hid hl
  have g0 : l0.length ≤ 200 := by have := of_decide_eq_false hl; omega
  have g1 : l1.length ≤ 200 := by have := of_decide_eq_false hl; omega
  have I0 := Lib.hid h0
  have I1 := Lib.hid h1
  have E1 := Lib.hid ((risesB_iff _).2 (rises_setOf l0))
  have E2 := Lib.hid ((risesB_iff _).2 (rises_put l0 (a, i)))
  have E3 := Lib.hid ((risesB_iff _).2 (rises_del l0 (a, i)))
  have E4 := Lib.hid ((risesB_iff _).2 (rises_join l0 l1))
  have E5 := Lib.hid ((risesB_iff _).2 (rises_both l0 l1))
  have E6 := Lib.hid ((risesB_iff _).2 (rises_without l0 l1))
  obtain ⟨r, E7⟩ : ∃ r, Hid (risesB l0 = r) := ⟨_, Lib.hid rfl⟩
  have E8 := Lib.hid ((same_rises l0).trans E7.out)
  have E9 := Lib.hid (same_is (setOf_setOf l0))
  have EA := Lib.hid (same_is (setOf_setOf l0).symm)
  obtain ⟨q, EB⟩ : ∃ q, Hid (sameB (setOf l0) (setOf l1) = q) := ⟨_, Lib.hid rfl⟩
  have EC := Lib.hid ((same_comm (setOf l1) (setOf l0)).trans EB.out)
  have k1 := len_join l0 l1
  have k4 := len_both l0 l1
  have k6 := len_without l0 l1
  have k7 := setOf_len l0
  have k8 := setOf_len l1
  have k9 := len_put l0 (a, i)
  have ka := len_del l0 (a, i)
  have kb := setOf_len (setOf l0)
  have K := Lib.hid (And.intro g0 (And.intro g1 (And.intro k1 (And.intro k4 (And.intro k6 (And.intro k7 (And.intro k8 (And.intro k9 (And.intro ka kb)))))))))
  have f1 : (r != r) = false := by simp
  have f2 : (q == q) = true := by simp
  have X0 := Lib.hid (box_new w a i)
  obtain ⟨A0, c0, rfl, hz0⟩ := h0
  obtain ⟨A1, c1, rfl, hz1⟩ := h1
  clear hl hz0 hz1 g0 g1 k1 k4 k6 k7 k8 k9 ka kb
  obtain ⟨p1, p2⟩ := box_cells X0.out
  go_enter Try.func6, Try.ntmps6
  have B0 := Lib.hid (show Below w.heap.size w (w.alloc (.cells #[.int .i64 a, .int .i64 i] 25)) from (Below.refl _ _).alloc (Nat.le_refl _) _)
  have J0 := Lib.hid (I0.out.below B0.out)
  have J1 := Lib.hid (I1.out.below B0.out)
  go_wp2_with fail
  refine (works_any _).mono ?_
  rintro e w1 ⟨rfl, hb⟩
  have B1 := Lib.hid (below_after B0.out hb (Nat.le_refl _))
  have IL01 := Lib.hid (J0.out.below hb)
  have IL11 := Lib.hid (J1.out.below hb)
  clear p1 p2
  have X0_1 := Lib.hid (box_below X0.out hb)
  obtain ⟨p1, p2⟩ := box_cells X0_1.out
  clear hb
  go_wp2_with fail
  refine (large_lit2 _ _ l0 l1 w1 w I0.out I1.out).mono ?_
  rw [HL.out]
  rintro e w2 ⟨rfl, hb⟩
  have B2 := Lib.hid (below_after B1.out hb (Nat.le_refl _))
  have IL02 := Lib.hid (IL01.out.below hb)
  have IL12 := Lib.hid (IL11.out.below hb)
  clear p1 p2
  have X0_2 := Lib.hid (box_below X0_1.out hb)
  obtain ⟨p1, p2⟩ := box_cells X0_2.out
  clear hb
  go_wp2_with fail
  refine (set_any _ l0 _ IL02.out (by have := K.out; omega)).mono ?_
  rintro e w3 ⟨S, rfl, hi, hb⟩
  have B3 := Lib.hid (below_after B2.out hb (Nat.le_refl _))
  have IL03 := Lib.hid (IL02.out.below hb)
  have IL13 := Lib.hid (IL12.out.below hb)
  have IS3 := Lib.hid hi
  clear hi
  clear p1 p2
  have X0_3 := Lib.hid (box_below X0_2.out hb)
  obtain ⟨p1, p2⟩ := box_cells X0_3.out
  clear hb
  go_wp2_with fail
  refine (rising_any _ (setOf l0) _ IS3.out (by have := K.out; omega)).mono ?_
  rw [E1.out]
  rintro e w4 ⟨rfl, hb⟩
  have B4 := Lib.hid (below_after B3.out hb (Nat.le_refl _))
  have IL04 := Lib.hid (IL03.out.below hb)
  have IL14 := Lib.hid (IL13.out.below hb)
  have IS4 := Lib.hid (IS3.out.below hb)
  clear p1 p2
  have X0_4 := Lib.hid (box_below X0_3.out hb)
  obtain ⟨p1, p2⟩ := box_cells X0_4.out
  clear hb
  go_wp2_with fail
  refine (put_any _ l0 a i _ IL04.out (by have := K.out; omega)).mono ?_
  rintro e w5 ⟨r1, rfl, hi, hb⟩
  have B5 := Lib.hid (below_after B4.out hb (Nat.le_refl _))
  have IL05 := Lib.hid (IL04.out.below hb)
  have IL15 := Lib.hid (IL14.out.below hb)
  have IS5 := Lib.hid (IS4.out.below hb)
  have Ir15 := Lib.hid hi
  clear hi
  clear p1 p2
  have X0_5 := Lib.hid (box_below X0_4.out hb)
  obtain ⟨p1, p2⟩ := box_cells X0_5.out
  clear hb
  go_wp2_with fail
  refine (rising_any _ (put l0 (a, i)) _ Ir15.out (by have := K.out; omega)).mono ?_
  rw [E2.out]
  rintro e w6 ⟨rfl, hb⟩
  have B6 := Lib.hid (below_after B5.out hb (Nat.le_refl _))
  have IL06 := Lib.hid (IL05.out.below hb)
  have IL16 := Lib.hid (IL15.out.below hb)
  have IS6 := Lib.hid (IS5.out.below hb)
  clear p1 p2
  have X0_6 := Lib.hid (box_below X0_5.out hb)
  obtain ⟨p1, p2⟩ := box_cells X0_6.out
  clear hb
  go_wp2_with fail
  refine (del_any _ l0 a i _ IL06.out (by have := K.out; omega)).mono ?_
  rintro e w7 ⟨r2, rfl, hi, hb⟩
  have B7 := Lib.hid (below_after B6.out hb (Nat.le_refl _))
  have IL07 := Lib.hid (IL06.out.below hb)
  have IL17 := Lib.hid (IL16.out.below hb)
  have IS7 := Lib.hid (IS6.out.below hb)
  have Ir27 := Lib.hid hi
  clear hi
  clear p1 p2
  have X0_7 := Lib.hid (box_below X0_6.out hb)
  obtain ⟨p1, p2⟩ := box_cells X0_7.out
  clear hb
  go_wp2_with fail
  refine (rising_any _ (del l0 (a, i)) _ Ir27.out (by have := K.out; omega)).mono ?_
  rw [E3.out]
  rintro e w8 ⟨rfl, hb⟩
  have B8 := Lib.hid (below_after B7.out hb (Nat.le_refl _))
  have IL08 := Lib.hid (IL07.out.below hb)
  have IL18 := Lib.hid (IL17.out.below hb)
  have IS8 := Lib.hid (IS7.out.below hb)
  clear p1 p2
  have X0_8 := Lib.hid (box_below X0_7.out hb)
  obtain ⟨p1, p2⟩ := box_cells X0_8.out
  clear hb
  go_wp2_with fail
  refine (join_any _ _ l0 l1 _ IL08.out IL18.out (by have := K.out; omega) (by have := K.out; omega)).mono ?_
  rintro e w9 ⟨r3, rfl, hi, hb⟩
  have B9 := Lib.hid (below_after B8.out hb (Nat.le_refl _))
  have IL09 := Lib.hid (IL08.out.below hb)
  have IL19 := Lib.hid (IL18.out.below hb)
  have IS9 := Lib.hid (IS8.out.below hb)
  have Ir39 := Lib.hid hi
  clear hi
  clear p1 p2
  have X0_9 := Lib.hid (box_below X0_8.out hb)
  obtain ⟨p1, p2⟩ := box_cells X0_9.out
  clear hb
  go_wp2_with fail
  refine (rising_any _ (join l0 l1) _ Ir39.out (by have := K.out; omega)).mono ?_
  rw [E4.out]
  rintro e w10 ⟨rfl, hb⟩
  have B10 := Lib.hid (below_after B9.out hb (Nat.le_refl _))
  have IL010 := Lib.hid (IL09.out.below hb)
  have IL110 := Lib.hid (IL19.out.below hb)
  have IS10 := Lib.hid (IS9.out.below hb)
  clear p1 p2
  have X0_10 := Lib.hid (box_below X0_9.out hb)
  obtain ⟨p1, p2⟩ := box_cells X0_10.out
  clear hb
  go_wp2_with fail
  refine (both_any _ _ l0 l1 _ IL010.out IL110.out (by have := K.out; omega) (by have := K.out; omega)).mono ?_
  rintro e w11 ⟨r4, rfl, hi, hb⟩
  have B11 := Lib.hid (below_after B10.out hb (Nat.le_refl _))
  have IL011 := Lib.hid (IL010.out.below hb)
  have IL111 := Lib.hid (IL110.out.below hb)
  have IS11 := Lib.hid (IS10.out.below hb)
  have Ir411 := Lib.hid hi
  clear hi
  clear p1 p2
  have X0_11 := Lib.hid (box_below X0_10.out hb)
  obtain ⟨p1, p2⟩ := box_cells X0_11.out
  clear hb
  go_wp2_with fail
  refine (rising_any _ (both l0 l1) _ Ir411.out (by have := K.out; omega)).mono ?_
  rw [E5.out]
  rintro e w12 ⟨rfl, hb⟩
  have B12 := Lib.hid (below_after B11.out hb (Nat.le_refl _))
  have IL012 := Lib.hid (IL011.out.below hb)
  have IL112 := Lib.hid (IL111.out.below hb)
  have IS12 := Lib.hid (IS11.out.below hb)
  clear p1 p2
  have X0_12 := Lib.hid (box_below X0_11.out hb)
  obtain ⟨p1, p2⟩ := box_cells X0_12.out
  clear hb
  go_wp2_with fail
  refine (without_any _ _ l0 l1 _ IL012.out IL112.out (by have := K.out; omega) (by have := K.out; omega)).mono ?_
  rintro e w13 ⟨r5, rfl, hi, hb⟩
  have B13 := Lib.hid (below_after B12.out hb (Nat.le_refl _))
  have IL013 := Lib.hid (IL012.out.below hb)
  have IL113 := Lib.hid (IL112.out.below hb)
  have IS13 := Lib.hid (IS12.out.below hb)
  have Ir513 := Lib.hid hi
  clear hi
  clear p1 p2
  have X0_13 := Lib.hid (box_below X0_12.out hb)
  obtain ⟨p1, p2⟩ := box_cells X0_13.out
  clear hb
  go_wp2_with fail
  refine (rising_any _ (without l0 l1) _ Ir513.out (by have := K.out; omega)).mono ?_
  rw [E6.out]
  rintro e w14 ⟨rfl, hb⟩
  have B14 := Lib.hid (below_after B13.out hb (Nat.le_refl _))
  have IL014 := Lib.hid (IL013.out.below hb)
  have IL114 := Lib.hid (IL113.out.below hb)
  have IS14 := Lib.hid (IS13.out.below hb)
  clear p1 p2
  have X0_14 := Lib.hid (box_below X0_13.out hb)
  obtain ⟨p1, p2⟩ := box_cells X0_14.out
  clear hb
  go_wp2_with fail
  refine (rising_any _ l0 _ IL014.out (by have := K.out; omega)).mono ?_
  rw [E7.out]
  rintro e w15 ⟨rfl, hb⟩
  have B15 := Lib.hid (below_after B14.out hb (Nat.le_refl _))
  have IL015 := Lib.hid (IL014.out.below hb)
  have IL115 := Lib.hid (IL114.out.below hb)
  have IS15 := Lib.hid (IS14.out.below hb)
  clear p1 p2
  have X0_15 := Lib.hid (box_below X0_14.out hb)
  obtain ⟨p1, p2⟩ := box_cells X0_15.out
  clear hb
  go_wp2_with fail
  refine (ids_any _ _ (setOf l0) l0 _ IS15.out IL015.out (by have := K.out; omega)).mono ?_
  rw [E8.out]
  rintro e w16 ⟨rfl, hb⟩
  have B16 := Lib.hid (below_after B15.out hb (Nat.le_refl _))
  have IL016 := Lib.hid (IL015.out.below hb)
  have IL116 := Lib.hid (IL115.out.below hb)
  have IS16 := Lib.hid (IS15.out.below hb)
  clear p1 p2
  have X0_16 := Lib.hid (box_below X0_15.out hb)
  obtain ⟨p1, p2⟩ := box_cells X0_16.out
  clear hb
  go_wp2_with fail
  refine (set_any _ (setOf l0) _ IS16.out (by have := K.out; omega)).mono ?_
  rintro e w17 ⟨T, rfl, hi, hb⟩
  have B17 := Lib.hid (below_after B16.out hb (Nat.le_refl _))
  have IL017 := Lib.hid (IL016.out.below hb)
  have IL117 := Lib.hid (IL116.out.below hb)
  have IS17 := Lib.hid (IS16.out.below hb)
  have IT17 := Lib.hid hi
  clear hi
  clear p1 p2
  have X0_17 := Lib.hid (box_below X0_16.out hb)
  obtain ⟨p1, p2⟩ := box_cells X0_17.out
  clear hb
  go_wp2_with fail
  refine (ids_any _ _ (setOf (setOf l0)) (setOf l0) _ IT17.out IS17.out (by have := K.out; omega)).mono ?_
  rw [E9.out]
  rintro e w18 ⟨rfl, hb⟩
  have B18 := Lib.hid (below_after B17.out hb (Nat.le_refl _))
  have IL018 := Lib.hid (IL017.out.below hb)
  have IL118 := Lib.hid (IL117.out.below hb)
  have IS18 := Lib.hid (IS17.out.below hb)
  clear p1 p2
  have X0_18 := Lib.hid (box_below X0_17.out hb)
  obtain ⟨p1, p2⟩ := box_cells X0_18.out
  clear hb
  go_wp2_with fail
  refine (same_any _ _ l0 (setOf l0) _ IL018.out IS18.out (by have := K.out; omega) (by have := K.out; omega)).mono ?_
  rw [EA.out]
  rintro e w19 ⟨rfl, hb⟩
  have B19 := Lib.hid (below_after B18.out hb (Nat.le_refl _))
  have IL019 := Lib.hid (IL018.out.below hb)
  have IL119 := Lib.hid (IL118.out.below hb)
  have IS19 := Lib.hid (IS18.out.below hb)
  clear p1 p2
  have X0_19 := Lib.hid (box_below X0_18.out hb)
  obtain ⟨p1, p2⟩ := box_cells X0_19.out
  clear hb
  go_wp2_with fail
  refine (same_any _ _ l0 l1 _ IL019.out IL119.out (by have := K.out; omega) (by have := K.out; omega)).mono ?_
  rw [EB.out]
  rintro e w20 ⟨rfl, hb⟩
  have B20 := Lib.hid (below_after B19.out hb (Nat.le_refl _))
  have IL020 := Lib.hid (IL019.out.below hb)
  have IL120 := Lib.hid (IL119.out.below hb)
  have IS20 := Lib.hid (IS19.out.below hb)
  clear p1 p2
  have X0_20 := Lib.hid (box_below X0_19.out hb)
  obtain ⟨p1, p2⟩ := box_cells X0_20.out
  clear hb
  go_wp2_with fail
  refine (set_any _ l1 _ IL120.out (by have := K.out; omega)).mono ?_
  rintro e w21 ⟨U, rfl, hi, hb⟩
  have B21 := Lib.hid (below_after B20.out hb (Nat.le_refl _))
  have IL021 := Lib.hid (IL020.out.below hb)
  have IL121 := Lib.hid (IL120.out.below hb)
  have IS21 := Lib.hid (IS20.out.below hb)
  have IU21 := Lib.hid hi
  clear hi
  clear p1 p2
  have X0_21 := Lib.hid (box_below X0_20.out hb)
  obtain ⟨p1, p2⟩ := box_cells X0_21.out
  clear hb
  go_wp2_with fail
  refine (ids_any _ _ (setOf l0) (setOf l1) _ IS21.out IU21.out (by have := K.out; omega)).mono ?_
  rw [EB.out]
  rintro e w22 ⟨rfl, hb⟩
  have B22 := Lib.hid (below_after B21.out hb (Nat.le_refl _))
  have IL022 := Lib.hid (IL021.out.below hb)
  have IL122 := Lib.hid (IL121.out.below hb)
  have IS22 := Lib.hid (IS21.out.below hb)
  clear p1 p2
  have X0_22 := Lib.hid (box_below X0_21.out hb)
  obtain ⟨p1, p2⟩ := box_cells X0_22.out
  clear hb
  go_wp2_with fail
  refine (same_any _ _ l0 l1 _ IL022.out IL122.out (by have := K.out; omega) (by have := K.out; omega)).mono ?_
  rw [EB.out]
  rintro e w23 ⟨rfl, hb⟩
  have B23 := Lib.hid (below_after B22.out hb (Nat.le_refl _))
  have IL023 := Lib.hid (IL022.out.below hb)
  have IL123 := Lib.hid (IL122.out.below hb)
  have IS23 := Lib.hid (IS22.out.below hb)
  clear p1 p2
  have X0_23 := Lib.hid (box_below X0_22.out hb)
  obtain ⟨p1, p2⟩ := box_cells X0_23.out
  clear hb
  go_wp2_with fail
  refine (same_any _ _ l1 l0 _ IL123.out IL023.out (by have := K.out; omega) (by have := K.out; omega)).mono ?_
  rw [EC.out]
  rintro e w24 ⟨rfl, hb⟩
  have B24 := Lib.hid (below_after B23.out hb (Nat.le_refl _))
  have IL024 := Lib.hid (IL023.out.below hb)
  have IL124 := Lib.hid (IL123.out.below hb)
  have IS24 := Lib.hid (IS23.out.below hb)
  clear p1 p2
  have X0_24 := Lib.hid (box_below X0_23.out hb)
  obtain ⟨p1, p2⟩ := box_cells X0_24.out
  clear hb
  go_wp2_with fail
  go_ret
  exact ⟨rfl, B24.out⟩
theorem rises_any (v0 : Value) (l0 : List (Int × Int)) (v1 : Value) (l1 : List (Int × Int)) (a i : Int) (w : World) (h0 : Ids w v0 l0) (h1 : Ids w v1 l1) :
    Calls Try.prog 6 #[v0, v1, .agg #[.int .i64 a, .int .i64 i]] w fun e w' => e = .returned (.bool true) ∧ Below w.heap.size w w' := by
  cases hl : decide (200 < l0.length ∨ 200 < l1.length)
  · exact rises_small v0 l0 v1 l1 a i w h0 h1 hl
  · exact rises_large v0 l0 v1 l1 a i w h0 h1 hl
section
open Go.ChangeShapes Go.WideShapes Go.ChangeAt
open Go.ChangeMaps (open_string)
set_option maxRecDepth 100000 in
theorem rises_lifted (os : Os) (started : os.Started) (H : Type) (enc : TypeId × Value → H) :
    ReturnsInHanded {} Try.checked os 6 .any (Rows.identRisesSpec.pre6 enc Try.prog Try.f6 Rows.identRisesRow.domain false) (Rows.identRisesSpec.post enc Try.prog Try.f6 false true false false) := by
  refine returnsInHanded_of_change_sized (C := Try.checked) Try.own started (by kernel_rfl) Try.func6
    (ChangeSpec.witness6 (enc := enc) (C := Try.checked) false ⟨#[], #[.slice none 0 0, .slice none 0 0, .agg #[.int .i64 0, .int .i64 0]], []⟩ 8 (by kernel_rfl) (by kernel_rfl) (by kernel_rfl) (by kernel_rfl)) ?_
  intro W base args ds gs before hval0 hW _ _ _
  have hval : ∀ (j : Nat) t v, Try.f6.params[j]? = some t → args[j]? = some v → Value.okWide Try.prog W .any base t v := hval0
  have hW' := hW
  obtain ⟨p, q, hA0, hV, rfl, _, _⟩ := hW
  have hA : DataW.TrodAll enc Try.prog W 0 (fun _ => true) true Try.f6.params.toList args.toList ds p := hA0
  rw [Try.params6] at hA hval
  obtain ⟨v0, v1, v2, d0, d1, d2, p0, p1, p2, rfl, rfl, rfl, h0, h1, h2⟩ := trodAll_three hA
  obtain ⟨rfl, rfl⟩ := trodVars_none hV
  obtain ⟨l0, I0⟩ := open_ids (hval 0 29 v0 rfl rfl) h0
  obtain ⟨l1, I1⟩ := open_ids (hval 1 29 v1 rfl rfl) h1
  obtain ⟨a2, b2, rfl⟩ := open_id (hval 2 25 v2 rfl rfl) h2
  refine (rises_any v0 l0 v1 l1 a2 b2 W I0 I1).mono fun e W' ⟨he, hb⟩ => ?_
  subst he
  exact ⟨_, rfl, law_post hW' rfl (by kernel_rfl) Try.underlying4 rfl (by unfold Legible; kernel_rfl) hb⟩
/-- The statement. -/
theorem rises_holds : Rows.IdentRisesSaid :=
  OpenClaim.holds_of_wide 6 Try.f6 rfl rfl rfl rfl rfl rfl rfl ⟨rfl, rfl, rfl, rfl, rfl⟩ rfl rfl rfl rfl rfl (by kernel_rfl) Try.func6 (by kernel_rfl)
    (of_decide_eq_true (by kernel_rfl)) (by unfold Func.isWrapper; first | (rw [if_pos (by decide +kernel)]; kernel_rfl) | (rw [if_neg (by decide +kernel)]; exact ⟨rfl, rfl⟩))
    (fun os started H enc _ => rises_lifted os started H enc)
end

end Go.Proofs.Ytdkmdaklnjomhaa
