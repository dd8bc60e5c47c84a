/-
  PROVED HERE: for any three lists of IDs IdentLaws of package coveylaw03 returns true and leaves its arguments as they were: Join and Both may be turned about, and put in any brackets; of a set and itself they are it; Join goes over Both; Without a Join is Without both, one behind the other. No condition.
-/
import Derived.Test.YtdkmdaklnjomhaaWorks
import Derived.Test.YtdkmdaklnjomhaaOpen
import Derived.Test.YtdkmdaklnjomhaaBase
namespace Go.Proofs.Ytdkmdaklnjomhaa
open Go.RowKit Sets
theorem same_of {l m : List (Int × Int)} (h : l = m) : sameB l m = true := decide_eq_true h
theorem laws_large (v0 : Value) (l0 : List (Int × Int)) (v1 : Value) (l1 : List (Int × Int)) (v2 : Value) (l2 : List (Int × Int)) (w : World) (h0 : Ids w v0 l0) (h1 : Ids w v1 l1) (h2 : Ids w v2 l2)
    (hl : decide (200 < l0.length ∨ 200 < l1.length ∨ 200 < l2.length) = true) :
    Calls Try.prog 7 #[v0, v1, v2] w fun e w' => e = .returned (.bool true) ∧ Below w.heap.size w w' := by
  have HL := Lib.hid hl
  have I0 := Lib.hid h0
  have I1 := Lib.hid h1
  have I2 := Lib.hid h2
  obtain ⟨A0, c0, rfl, hz0⟩ := h0
  obtain ⟨A1, c1, rfl, hz1⟩ := h1
  obtain ⟨A2, c2, rfl, hz2⟩ := h2
  clear hl hz0 hz1 hz2
  go_enter Try.func7, Try.ntmps7
  have B0 := Lib.hid (show Below w.heap.size w w from Below.refl _ _)
  go_wp2_with fail
  refine (works_any _).mono ?_
  rintro e w1 ⟨rfl, hb⟩
  have B1 := Lib.hid (below_after B0.out hb (Nat.le_refl _))
  clear hb
  go_wp2_with fail
  refine (large_lit3 _ _ _ l0 l1 l2 w1 w I0.out I1.out I2.out).mono ?_
  rw [HL.out]
  rintro e w2 ⟨rfl, hb⟩
  have B2 := Lib.hid (below_after B1.out hb (Nat.le_refl _))
  clear hb
  go_wp2_with fail
  refine (works_any _).mono ?_
  rintro e w3 ⟨rfl, hb⟩
  have B3 := Lib.hid (below_after B2.out hb (Nat.le_refl _))
  clear hb
  go_wp2_with fail
  go_ret
  exact ⟨rfl, B3.out⟩
set_option maxHeartbeats 16000000 in
set_option maxRecDepth 100000 in
theorem laws_small (v0 : Value) (l0 : List (Int × Int)) (v1 : Value) (l1 : List (Int × Int)) (v2 : Value) (l2 : List (Int × Int)) (w : World) (h0 : Ids w v0 l0) (h1 : Ids w v1 l1) (h2 : Ids w v2 l2)
    (hl : decide (200 < l0.length ∨ 200 < l1.length ∨ 200 < l2.length) = false) :
    Calls Try.prog 7 #[v0, v1, v2] w fun e w' => e = .returned (.bool true) ∧ Below w.heap.size w w' := by
  have HL := Lib.hid hl
  have g0 : l0.length ≤ 200 := by have := of_decide_eq_false hl; omega
  have g1 : l1.length ≤ 200 := by have := of_decide_eq_false hl; omega
  have g2 : l2.length ≤ 200 := by have := of_decide_eq_false hl; omega
  have I0 := Lib.hid h0
  have I1 := Lib.hid h1
  have I2 := Lib.hid h2
  have E1 := Lib.hid (same_of (join_comm l0 l1))
  have E2 := Lib.hid (same_of (both_comm l0 l1))
  have E3 := Lib.hid (same_of (join_assoc l0 l1 l2))
  have E4 := Lib.hid (same_of (both_assoc l0 l1 l2))
  have E5 := Lib.hid (same_of (join_self l0))
  have E6 := Lib.hid (same_of (both_self l0))
  have E7 := Lib.hid (same_of (join_both l0 l1 l2))
  have E8 := Lib.hid (same_of (without_join l0 l1 l2))
  have E9 := Lib.hid (same_of (both_without l0 l1))
  have EA := Lib.hid (without_self l0)
  have k1 := len_join l0 l1
  have k2 := len_join l1 l2
  have k3 := len_join l0 l2
  have k4 := len_both l0 l1
  have k5 := len_both l1 l2
  have k6 := len_without l0 l1
  have k7 := len_join (join l0 l1) l2
  have k8 := len_join l1 l0
  have k9 := len_join l0 (both l1 l2)
  have ka := len_without l0 (join l1 l2)
  have kb := len_join (both l0 l1) (without l0 l1)
  have kc := len_both (both l0 l1) l2
  have kd := len_join l0 l0
  have ke := len_both l0 l0
  have K := Lib.hid (And.intro g0 (And.intro g1 (And.intro g2 (And.intro k1 (And.intro k2 (And.intro k3 (And.intro k4 (And.intro k5 (And.intro k6 (And.intro k7 (And.intro k8 (And.intro k9 (And.intro ka (And.intro kb (And.intro kc (And.intro kd ke))))))))))))))))
  obtain ⟨A0, c0, rfl, hz0⟩ := h0
  obtain ⟨A1, c1, rfl, hz1⟩ := h1
  obtain ⟨A2, c2, rfl, hz2⟩ := h2
  clear hl hz0 hz1 hz2 g0 g1 g2 k1 k2 k3 k4 k5 k6 k7 k8 k9 ka kb kc kd ke
  go_enter Try.func7, Try.ntmps7
  have B0 := Lib.hid (show Below w.heap.size w w from Below.refl _ _)
  go_wp2_with fail
  refine (works_any _).mono ?_
  rintro e w1 ⟨rfl, hb⟩
  have B1 := Lib.hid (below_after B0.out hb (Nat.le_refl _))
  have IL01 := Lib.hid (I0.out.below hb)
  have IL11 := Lib.hid (I1.out.below hb)
  have IL21 := Lib.hid (I2.out.below hb)
  clear hb
  go_wp2_with fail
  refine (large_lit3 _ _ _ l0 l1 l2 w1 w I0.out I1.out I2.out).mono ?_
  rw [HL.out]
  rintro e w2 ⟨rfl, hb⟩
  have B2 := Lib.hid (below_after B1.out hb (Nat.le_refl _))
  have IL02 := Lib.hid (IL01.out.below hb)
  have IL12 := Lib.hid (IL11.out.below hb)
  have IL22 := Lib.hid (IL21.out.below hb)
  clear hb
  go_wp2_with fail
  refine (join_any _ _ l0 l1 _ IL02.out IL12.out (by have := K.out; omega) (by have := K.out; omega)).mono ?_
  rintro e w3 ⟨r1, rfl, hi, hb⟩
  have B3 := Lib.hid (below_after B2.out hb (Nat.le_refl _))
  have IL03 := Lib.hid (IL02.out.below hb)
  have IL13 := Lib.hid (IL12.out.below hb)
  have IL23 := Lib.hid (IL22.out.below hb)
  have Ir13 := Lib.hid hi
  clear hi
  clear hb
  go_wp2_with fail
  refine (join_any _ _ l1 l0 _ IL13.out IL03.out (by have := K.out; omega) (by have := K.out; omega)).mono ?_
  rintro e w4 ⟨r2, rfl, hi, hb⟩
  have B4 := Lib.hid (below_after B3.out hb (Nat.le_refl _))
  have IL04 := Lib.hid (IL03.out.below hb)
  have IL14 := Lib.hid (IL13.out.below hb)
  have IL24 := Lib.hid (IL23.out.below hb)
  have Ir14 := Lib.hid (Ir13.out.below hb)
  have Ir24 := Lib.hid hi
  clear hi
  clear hb
  go_wp2_with fail
  refine (ids_any _ _ (join l0 l1) (join l1 l0) _ Ir14.out Ir24.out (by have := K.out; omega)).mono ?_
  rw [E1.out]
  rintro e w5 ⟨rfl, hb⟩
  have B5 := Lib.hid (below_after B4.out hb (Nat.le_refl _))
  have IL05 := Lib.hid (IL04.out.below hb)
  have IL15 := Lib.hid (IL14.out.below hb)
  have IL25 := Lib.hid (IL24.out.below hb)
  clear hb
  go_wp2_with fail
  refine (both_any _ _ l0 l1 _ IL05.out IL15.out (by have := K.out; omega) (by have := K.out; omega)).mono ?_
  rintro e w6 ⟨r3, rfl, hi, hb⟩
  have B6 := Lib.hid (below_after B5.out hb (Nat.le_refl _))
  have IL06 := Lib.hid (IL05.out.below hb)
  have IL16 := Lib.hid (IL15.out.below hb)
  have IL26 := Lib.hid (IL25.out.below hb)
  have Ir36 := Lib.hid hi
  clear hi
  clear hb
  go_wp2_with fail
  refine (both_any _ _ l1 l0 _ IL16.out IL06.out (by have := K.out; omega) (by have := K.out; omega)).mono ?_
  rintro e w7 ⟨r4, rfl, hi, hb⟩
  have B7 := Lib.hid (below_after B6.out hb (Nat.le_refl _))
  have IL07 := Lib.hid (IL06.out.below hb)
  have IL17 := Lib.hid (IL16.out.below hb)
  have IL27 := Lib.hid (IL26.out.below hb)
  have Ir37 := Lib.hid (Ir36.out.below hb)
  have Ir47 := Lib.hid hi
  clear hi
  clear hb
  go_wp2_with fail
  refine (ids_any _ _ (both l0 l1) (both l1 l0) _ Ir37.out Ir47.out (by have := K.out; omega)).mono ?_
  rw [E2.out]
  rintro e w8 ⟨rfl, hb⟩
  have B8 := Lib.hid (below_after B7.out hb (Nat.le_refl _))
  have IL08 := Lib.hid (IL07.out.below hb)
  have IL18 := Lib.hid (IL17.out.below hb)
  have IL28 := Lib.hid (IL27.out.below hb)
  clear hb
  go_wp2_with fail
  refine (join_any _ _ l0 l1 _ IL08.out IL18.out (by have := K.out; omega) (by have := K.out; omega)).mono ?_
  rintro e w9 ⟨r5, rfl, hi, hb⟩
  have B9 := Lib.hid (below_after B8.out hb (Nat.le_refl _))
  have IL09 := Lib.hid (IL08.out.below hb)
  have IL19 := Lib.hid (IL18.out.below hb)
  have IL29 := Lib.hid (IL28.out.below hb)
  have Ir59 := Lib.hid hi
  clear hi
  clear hb
  go_wp2_with fail
  refine (join_any _ _ (join l0 l1) l2 _ Ir59.out IL29.out (by have := K.out; omega) (by have := K.out; omega)).mono ?_
  rintro e w10 ⟨r6, rfl, hi, hb⟩
  have B10 := Lib.hid (below_after B9.out hb (Nat.le_refl _))
  have IL010 := Lib.hid (IL09.out.below hb)
  have IL110 := Lib.hid (IL19.out.below hb)
  have IL210 := Lib.hid (IL29.out.below hb)
  have Ir610 := Lib.hid hi
  clear hi
  clear hb
  go_wp2_with fail
  refine (join_any _ _ l1 l2 _ IL110.out IL210.out (by have := K.out; omega) (by have := K.out; omega)).mono ?_
  rintro e w11 ⟨r7, rfl, hi, hb⟩
  have B11 := Lib.hid (below_after B10.out hb (Nat.le_refl _))
  have IL011 := Lib.hid (IL010.out.below hb)
  have IL111 := Lib.hid (IL110.out.below hb)
  have IL211 := Lib.hid (IL210.out.below hb)
  have Ir611 := Lib.hid (Ir610.out.below hb)
  have Ir711 := Lib.hid hi
  clear hi
  clear hb
  go_wp2_with fail
  refine (join_any _ _ l0 (join l1 l2) _ IL011.out Ir711.out (by have := K.out; omega) (by have := K.out; omega)).mono ?_
  rintro e w12 ⟨r8, rfl, hi, hb⟩
  have B12 := Lib.hid (below_after B11.out hb (Nat.le_refl _))
  have IL012 := Lib.hid (IL011.out.below hb)
  have IL112 := Lib.hid (IL111.out.below hb)
  have IL212 := Lib.hid (IL211.out.below hb)
  have Ir612 := Lib.hid (Ir611.out.below hb)
  have Ir812 := Lib.hid hi
  clear hi
  clear hb
  go_wp2_with fail
  refine (ids_any _ _ (join (join l0 l1) l2) (join l0 (join l1 l2)) _ Ir612.out Ir812.out (by have := K.out; omega)).mono ?_
  rw [E3.out]
  rintro e w13 ⟨rfl, hb⟩
  have B13 := Lib.hid (below_after B12.out hb (Nat.le_refl _))
  have IL013 := Lib.hid (IL012.out.below hb)
  have IL113 := Lib.hid (IL112.out.below hb)
  have IL213 := Lib.hid (IL212.out.below hb)
  clear hb
  go_wp2_with fail
  refine (both_any _ _ l0 l1 _ IL013.out IL113.out (by have := K.out; omega) (by have := K.out; omega)).mono ?_
  rintro e w14 ⟨r9, rfl, hi, hb⟩
  have B14 := Lib.hid (below_after B13.out hb (Nat.le_refl _))
  have IL014 := Lib.hid (IL013.out.below hb)
  have IL114 := Lib.hid (IL113.out.below hb)
  have IL214 := Lib.hid (IL213.out.below hb)
  have Ir914 := Lib.hid hi
  clear hi
  clear hb
  go_wp2_with fail
  refine (both_any _ _ (both l0 l1) l2 _ Ir914.out IL214.out (by have := K.out; omega) (by have := K.out; omega)).mono ?_
  rintro e w15 ⟨r10, rfl, hi, hb⟩
  have B15 := Lib.hid (below_after B14.out hb (Nat.le_refl _))
  have IL015 := Lib.hid (IL014.out.below hb)
  have IL115 := Lib.hid (IL114.out.below hb)
  have IL215 := Lib.hid (IL214.out.below hb)
  have Ir1015 := Lib.hid hi
  clear hi
  clear hb
  go_wp2_with fail
  refine (both_any _ _ l1 l2 _ IL115.out IL215.out (by have := K.out; omega) (by have := K.out; omega)).mono ?_
  rintro e w16 ⟨r11, rfl, hi, hb⟩
  have B16 := Lib.hid (below_after B15.out hb (Nat.le_refl _))
  have IL016 := Lib.hid (IL015.out.below hb)
  have IL116 := Lib.hid (IL115.out.below hb)
  have IL216 := Lib.hid (IL215.out.below hb)
  have Ir1016 := Lib.hid (Ir1015.out.below hb)
  have Ir1116 := Lib.hid hi
  clear hi
  clear hb
  go_wp2_with fail
  refine (both_any _ _ l0 (both l1 l2) _ IL016.out Ir1116.out (by have := K.out; omega) (by have := K.out; omega)).mono ?_
  rintro e w17 ⟨r12, rfl, hi, hb⟩
  have B17 := Lib.hid (below_after B16.out hb (Nat.le_refl _))
  have IL017 := Lib.hid (IL016.out.below hb)
  have IL117 := Lib.hid (IL116.out.below hb)
  have IL217 := Lib.hid (IL216.out.below hb)
  have Ir1017 := Lib.hid (Ir1016.out.below hb)
  have Ir1217 := Lib.hid hi
  clear hi
  clear hb
  go_wp2_with fail
  refine (ids_any _ _ (both (both l0 l1) l2) (both l0 (both l1 l2)) _ Ir1017.out Ir1217.out (by have := K.out; omega)).mono ?_
  rw [E4.out]
  rintro e w18 ⟨rfl, hb⟩
  have B18 := Lib.hid (below_after B17.out hb (Nat.le_refl _))
  have IL018 := Lib.hid (IL017.out.below hb)
  have IL118 := Lib.hid (IL117.out.below hb)
  have IL218 := Lib.hid (IL217.out.below hb)
  clear hb
  go_wp2_with fail
  refine (join_any _ _ l0 l0 _ IL018.out IL018.out (by have := K.out; omega) (by have := K.out; omega)).mono ?_
  rintro e w19 ⟨r13, rfl, hi, hb⟩
  have B19 := Lib.hid (below_after B18.out hb (Nat.le_refl _))
  have IL019 := Lib.hid (IL018.out.below hb)
  have IL119 := Lib.hid (IL118.out.below hb)
  have IL219 := Lib.hid (IL218.out.below hb)
  have Ir1319 := Lib.hid hi
  clear hi
  clear hb
  go_wp2_with fail
  refine (set_any _ l0 _ IL019.out (by have := K.out; omega)).mono ?_
  rintro e w20 ⟨r14, rfl, hi, hb⟩
  have B20 := Lib.hid (below_after B19.out hb (Nat.le_refl _))
  have IL020 := Lib.hid (IL019.out.below hb)
  have IL120 := Lib.hid (IL119.out.below hb)
  have IL220 := Lib.hid (IL219.out.below hb)
  have Ir1320 := Lib.hid (Ir1319.out.below hb)
  have Ir1420 := Lib.hid hi
  clear hi
  clear hb
  go_wp2_with fail
  refine (ids_any _ _ (join l0 l0) (setOf l0) _ Ir1320.out Ir1420.out (by have := K.out; omega)).mono ?_
  rw [E5.out]
  rintro e w21 ⟨rfl, hb⟩
  have B21 := Lib.hid (below_after B20.out hb (Nat.le_refl _))
  have IL021 := Lib.hid (IL020.out.below hb)
  have IL121 := Lib.hid (IL120.out.below hb)
  have IL221 := Lib.hid (IL220.out.below hb)
  clear hb
  go_wp2_with fail
  refine (both_any _ _ l0 l0 _ IL021.out IL021.out (by have := K.out; omega) (by have := K.out; omega)).mono ?_
  rintro e w22 ⟨r15, rfl, hi, hb⟩
  have B22 := Lib.hid (below_after B21.out hb (Nat.le_refl _))
  have IL022 := Lib.hid (IL021.out.below hb)
  have IL122 := Lib.hid (IL121.out.below hb)
  have IL222 := Lib.hid (IL221.out.below hb)
  have Ir1522 := Lib.hid hi
  clear hi
  clear hb
  go_wp2_with fail
  refine (set_any _ l0 _ IL022.out (by have := K.out; omega)).mono ?_
  rintro e w23 ⟨r16, rfl, hi, hb⟩
  have B23 := Lib.hid (below_after B22.out hb (Nat.le_refl _))
  have IL023 := Lib.hid (IL022.out.below hb)
  have IL123 := Lib.hid (IL122.out.below hb)
  have IL223 := Lib.hid (IL222.out.below hb)
  have Ir1523 := Lib.hid (Ir1522.out.below hb)
  have Ir1623 := Lib.hid hi
  clear hi
  clear hb
  go_wp2_with fail
  refine (ids_any _ _ (both l0 l0) (setOf l0) _ Ir1523.out Ir1623.out (by have := K.out; omega)).mono ?_
  rw [E6.out]
  rintro e w24 ⟨rfl, hb⟩
  have B24 := Lib.hid (below_after B23.out hb (Nat.le_refl _))
  have IL024 := Lib.hid (IL023.out.below hb)
  have IL124 := Lib.hid (IL123.out.below hb)
  have IL224 := Lib.hid (IL223.out.below hb)
  clear hb
  go_wp2_with fail
  refine (both_any _ _ l1 l2 _ IL124.out IL224.out (by have := K.out; omega) (by have := K.out; omega)).mono ?_
  rintro e w25 ⟨r17, rfl, hi, hb⟩
  have B25 := Lib.hid (below_after B24.out hb (Nat.le_refl _))
  have IL025 := Lib.hid (IL024.out.below hb)
  have IL125 := Lib.hid (IL124.out.below hb)
  have IL225 := Lib.hid (IL224.out.below hb)
  have Ir1725 := Lib.hid hi
  clear hi
  clear hb
  go_wp2_with fail
  refine (join_any _ _ l0 (both l1 l2) _ IL025.out Ir1725.out (by have := K.out; omega) (by have := K.out; omega)).mono ?_
  rintro e w26 ⟨r18, rfl, hi, hb⟩
  have B26 := Lib.hid (below_after B25.out hb (Nat.le_refl _))
  have IL026 := Lib.hid (IL025.out.below hb)
  have IL126 := Lib.hid (IL125.out.below hb)
  have IL226 := Lib.hid (IL225.out.below hb)
  have Ir1826 := Lib.hid hi
  clear hi
  clear hb
  go_wp2_with fail
  refine (join_any _ _ l0 l1 _ IL026.out IL126.out (by have := K.out; omega) (by have := K.out; omega)).mono ?_
  rintro e w27 ⟨r19, rfl, hi, hb⟩
  have B27 := Lib.hid (below_after B26.out hb (Nat.le_refl _))
  have IL027 := Lib.hid (IL026.out.below hb)
  have IL127 := Lib.hid (IL126.out.below hb)
  have IL227 := Lib.hid (IL226.out.below hb)
  have Ir1827 := Lib.hid (Ir1826.out.below hb)
  have Ir1927 := Lib.hid hi
  clear hi
  clear hb
  go_wp2_with fail
  refine (join_any _ _ l0 l2 _ IL027.out IL227.out (by have := K.out; omega) (by have := K.out; omega)).mono ?_
  rintro e w28 ⟨r20, rfl, hi, hb⟩
  have B28 := Lib.hid (below_after B27.out hb (Nat.le_refl _))
  have IL028 := Lib.hid (IL027.out.below hb)
  have IL128 := Lib.hid (IL127.out.below hb)
  have IL228 := Lib.hid (IL227.out.below hb)
  have Ir1828 := Lib.hid (Ir1827.out.below hb)
  have Ir1928 := Lib.hid (Ir1927.out.below hb)
  have Ir2028 := Lib.hid hi
  clear hi
  clear hb
  go_wp2_with fail
  refine (both_any _ _ (join l0 l1) (join l0 l2) _ Ir1928.out Ir2028.out (by have := K.out; omega) (by have := K.out; omega)).mono ?_
  rintro e w29 ⟨r21, rfl, hi, hb⟩
  have B29 := Lib.hid (below_after B28.out hb (Nat.le_refl _))
  have IL029 := Lib.hid (IL028.out.below hb)
  have IL129 := Lib.hid (IL128.out.below hb)
  have IL229 := Lib.hid (IL228.out.below hb)
  have Ir1829 := Lib.hid (Ir1828.out.below hb)
  have Ir2129 := Lib.hid hi
  clear hi
  clear hb
  go_wp2_with fail
  refine (ids_any _ _ (join l0 (both l1 l2)) (both (join l0 l1) (join l0 l2)) _ Ir1829.out Ir2129.out (by have := K.out; omega)).mono ?_
  rw [E7.out]
  rintro e w30 ⟨rfl, hb⟩
  have B30 := Lib.hid (below_after B29.out hb (Nat.le_refl _))
  have IL030 := Lib.hid (IL029.out.below hb)
  have IL130 := Lib.hid (IL129.out.below hb)
  have IL230 := Lib.hid (IL229.out.below hb)
  clear hb
  go_wp2_with fail
  refine (join_any _ _ l1 l2 _ IL130.out IL230.out (by have := K.out; omega) (by have := K.out; omega)).mono ?_
  rintro e w31 ⟨r22, rfl, hi, hb⟩
  have B31 := Lib.hid (below_after B30.out hb (Nat.le_refl _))
  have IL031 := Lib.hid (IL030.out.below hb)
  have IL131 := Lib.hid (IL130.out.below hb)
  have IL231 := Lib.hid (IL230.out.below hb)
  have Ir2231 := Lib.hid hi
  clear hi
  clear hb
  go_wp2_with fail
  refine (without_any _ _ l0 (join l1 l2) _ IL031.out Ir2231.out (by have := K.out; omega) (by have := K.out; omega)).mono ?_
  rintro e w32 ⟨r23, rfl, hi, hb⟩
  have B32 := Lib.hid (below_after B31.out hb (Nat.le_refl _))
  have IL032 := Lib.hid (IL031.out.below hb)
  have IL132 := Lib.hid (IL131.out.below hb)
  have IL232 := Lib.hid (IL231.out.below hb)
  have Ir2332 := Lib.hid hi
  clear hi
  clear hb
  go_wp2_with fail
  refine (without_any _ _ l0 l1 _ IL032.out IL132.out (by have := K.out; omega) (by have := K.out; omega)).mono ?_
  rintro e w33 ⟨r24, rfl, hi, hb⟩
  have B33 := Lib.hid (below_after B32.out hb (Nat.le_refl _))
  have IL033 := Lib.hid (IL032.out.below hb)
  have IL133 := Lib.hid (IL132.out.below hb)
  have IL233 := Lib.hid (IL232.out.below hb)
  have Ir2333 := Lib.hid (Ir2332.out.below hb)
  have Ir2433 := Lib.hid hi
  clear hi
  clear hb
  go_wp2_with fail
  refine (without_any _ _ (without l0 l1) l2 _ Ir2433.out IL233.out (by have := K.out; omega) (by have := K.out; omega)).mono ?_
  rintro e w34 ⟨r25, rfl, hi, hb⟩
  have B34 := Lib.hid (below_after B33.out hb (Nat.le_refl _))
  have IL034 := Lib.hid (IL033.out.below hb)
  have IL134 := Lib.hid (IL133.out.below hb)
  have IL234 := Lib.hid (IL233.out.below hb)
  have Ir2334 := Lib.hid (Ir2333.out.below hb)
  have Ir2534 := Lib.hid hi
  clear hi
  clear hb
  go_wp2_with fail
  refine (ids_any _ _ (without l0 (join l1 l2)) (without (without l0 l1) l2) _ Ir2334.out Ir2534.out (by have := K.out; omega)).mono ?_
  rw [E8.out]
  rintro e w35 ⟨rfl, hb⟩
  have B35 := Lib.hid (below_after B34.out hb (Nat.le_refl _))
  have IL035 := Lib.hid (IL034.out.below hb)
  have IL135 := Lib.hid (IL134.out.below hb)
  have IL235 := Lib.hid (IL234.out.below hb)
  clear hb
  go_wp2_with fail
  refine (both_any _ _ l0 l1 _ IL035.out IL135.out (by have := K.out; omega) (by have := K.out; omega)).mono ?_
  rintro e w36 ⟨r26, rfl, hi, hb⟩
  have B36 := Lib.hid (below_after B35.out hb (Nat.le_refl _))
  have IL036 := Lib.hid (IL035.out.below hb)
  have IL136 := Lib.hid (IL135.out.below hb)
  have IL236 := Lib.hid (IL235.out.below hb)
  have Ir2636 := Lib.hid hi
  clear hi
  clear hb
  go_wp2_with fail
  refine (without_any _ _ l0 l1 _ IL036.out IL136.out (by have := K.out; omega) (by have := K.out; omega)).mono ?_
  rintro e w37 ⟨r27, rfl, hi, hb⟩
  have B37 := Lib.hid (below_after B36.out hb (Nat.le_refl _))
  have IL037 := Lib.hid (IL036.out.below hb)
  have IL137 := Lib.hid (IL136.out.below hb)
  have IL237 := Lib.hid (IL236.out.below hb)
  have Ir2637 := Lib.hid (Ir2636.out.below hb)
  have Ir2737 := Lib.hid hi
  clear hi
  clear hb
  go_wp2_with fail
  refine (join_any _ _ (both l0 l1) (without l0 l1) _ Ir2637.out Ir2737.out (by have := K.out; omega) (by have := K.out; omega)).mono ?_
  rintro e w38 ⟨r28, rfl, hi, hb⟩
  have B38 := Lib.hid (below_after B37.out hb (Nat.le_refl _))
  have IL038 := Lib.hid (IL037.out.below hb)
  have IL138 := Lib.hid (IL137.out.below hb)
  have IL238 := Lib.hid (IL237.out.below hb)
  have Ir2838 := Lib.hid hi
  clear hi
  clear hb
  go_wp2_with fail
  refine (set_any _ l0 _ IL038.out (by have := K.out; omega)).mono ?_
  rintro e w39 ⟨r29, rfl, hi, hb⟩
  have B39 := Lib.hid (below_after B38.out hb (Nat.le_refl _))
  have IL039 := Lib.hid (IL038.out.below hb)
  have IL139 := Lib.hid (IL138.out.below hb)
  have IL239 := Lib.hid (IL238.out.below hb)
  have Ir2839 := Lib.hid (Ir2838.out.below hb)
  have Ir2939 := Lib.hid hi
  clear hi
  clear hb
  go_wp2_with fail
  refine (ids_any _ _ (join (both l0 l1) (without l0 l1)) (setOf l0) _ Ir2839.out Ir2939.out (by have := K.out; omega)).mono ?_
  rw [E9.out]
  rintro e w40 ⟨rfl, hb⟩
  have B40 := Lib.hid (below_after B39.out hb (Nat.le_refl _))
  have IL040 := Lib.hid (IL039.out.below hb)
  have IL140 := Lib.hid (IL139.out.below hb)
  have IL240 := Lib.hid (IL239.out.below hb)
  clear hb
  go_wp2_with fail
  refine (without_any _ _ l0 l0 _ IL040.out IL040.out (by have := K.out; omega) (by have := K.out; omega)).mono ?_
  rw [EA.out]
  rintro e w41 ⟨z, rfl, hi, hb⟩
  have B41 := Lib.hid (below_after B40.out hb (Nat.le_refl _))
  have Iz41 := Lib.hid hi
  clear hi
  clear hb
  obtain ⟨A9, c9, rfl, hz9⟩ := Iz41.out
  clear hz9
  go_wp2_with fail
  go_ret
  exact ⟨rfl, B41.out⟩
theorem laws_any (v0 : Value) (l0 : List (Int × Int)) (v1 : Value) (l1 : List (Int × Int)) (v2 : Value) (l2 : List (Int × Int)) (w : World) (h0 : Ids w v0 l0) (h1 : Ids w v1 l1) (h2 : Ids w v2 l2) :
    Calls Try.prog 7 #[v0, v1, v2] w fun e w' => e = .returned (.bool true) ∧ Below w.heap.size w w' := by
  cases hl : decide (200 < l0.length ∨ 200 < l1.length ∨ 200 < l2.length)
  · exact laws_small v0 l0 v1 l1 v2 l2 w h0 h1 h2 hl
  · exact laws_large v0 l0 v1 l1 v2 l2 w h0 h1 h2 hl
section
open Go.ChangeShapes Go.WideShapes Go.ChangeAt
open Go.ChangeMaps (open_string)
set_option maxRecDepth 100000 in
theorem laws_lifted (os : Os) (started : os.Started) (H : Type) (enc : TypeId × Value → H) :
    ReturnsInHanded {} Try.checked os 7 .any (Rows.identLawsSpec.pre6 enc Try.prog Try.f7 Rows.identLawsRow.domain false) (Rows.identLawsSpec.post enc Try.prog Try.f7 false true false false) := by
  refine returnsInHanded_of_change_sized (C := Try.checked) Try.own started (by kernel_rfl) Try.func7
    (ChangeSpec.witness6 (enc := enc) (C := Try.checked) false ⟨#[], #[.slice none 0 0, .slice none 0 0, .slice none 0 0], []⟩ 8 (by kernel_rfl) (by kernel_rfl) (by kernel_rfl) (by kernel_rfl)) ?_
  intro W base args ds gs before hval0 hW _ _ _
  have hval : ∀ (j : Nat) t v, Try.f7.params[j]? = some t → args[j]? = some v → Value.okWide Try.prog W .any base t v := hval0
  have hW' := hW
  obtain ⟨p, q, hA0, hV, rfl, _, _⟩ := hW
  have hA : DataW.TrodAll enc Try.prog W 0 (fun _ => true) true Try.f7.params.toList args.toList ds p := hA0
  rw [Try.params7] at hA hval
  obtain ⟨v0, v1, v2, d0, d1, d2, p0, p1, p2, rfl, rfl, rfl, h0, h1, h2⟩ := trodAll_three hA
  obtain ⟨rfl, rfl⟩ := trodVars_none hV
  obtain ⟨l0, I0⟩ := open_ids (hval 0 29 v0 rfl rfl) h0
  obtain ⟨l1, I1⟩ := open_ids (hval 1 29 v1 rfl rfl) h1
  obtain ⟨l2, I2⟩ := open_ids (hval 2 29 v2 rfl rfl) h2
  refine (laws_any v0 l0 v1 l1 v2 l2 W I0 I1 I2).mono fun e W' ⟨he, hb⟩ => ?_
  subst he
  exact ⟨_, rfl, law_post hW' rfl (by kernel_rfl) Try.underlying4 rfl (by unfold Legible; kernel_rfl) hb⟩
/-- The statement. -/
theorem laws_holds : Rows.IdentLawsSaid :=
  OpenClaim.holds_of_wide 7 Try.f7 rfl rfl rfl rfl rfl rfl rfl ⟨rfl, rfl, rfl, rfl, rfl⟩ rfl rfl rfl rfl rfl (by kernel_rfl) Try.func7 (by kernel_rfl)
    (of_decide_eq_true (by kernel_rfl)) (by unfold Func.isWrapper; first | (rw [if_pos (by decide +kernel)]; kernel_rfl) | (rw [if_neg (by decide +kernel)]; exact ⟨rfl, rfl⟩))
    (fun os started H enc _ => laws_lifted os started H enc)
end

end Go.Proofs.Ytdkmdaklnjomhaa
