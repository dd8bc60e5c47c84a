/-
  PROVED HERE: for any three lists of ticks ClockLaws of package coveylaw05 returns true and leaves its arguments as they were: Join may be turned about, and put in any brackets; of a clock and itself, or nothing, it is that clock, if that may be; and the Join of two that may be may be, where it is not too long. No condition.
-/
import Derived.Test.YtpmfanglgkohjaaStands
namespace Go.Proofs.Ytpmfanglgkohjaa
open Go.RowKit Sets Clocks
theorem may_ok {l : List Tick} (h : mayB l = true) {t : Tick} (ht : t ∈ l) : vid t.1.1 t.1.2 = true ∧ t.2 ≤ 1099511627776 := by
  unfold mayB at h
  rw [Bool.and_eq_true, Bool.and_eq_true, List.all_eq_true] at h
  have h2 := h.2.1 t ht
  unfold okT at h2
  rw [Bool.and_eq_true, Bool.and_eq_true] at h2
  exact ⟨h2.1, of_decide_eq_true h2.2.2⟩
theorem may_join {l m : List Tick} (h : mayB l = true) (k : mayB m = true) (hl : l.length + m.length ≤ 64) : mayB (joinC l m) = true := by
  have hn := norm_join l m
  refine mayB_yes (Nat.le_trans (join_len l m) hl) ?_ ((risesT_iff _).2 hn.1)
  rw [List.all_eq_true]
  intro t ht
  have h1 := (norm_mem hn t).1 ht
  rw [says_join] at h1
  have hv : vid t.1.1 t.1.2 = true := by
    rcases Int.lt_or_le 0 (says l t.1) with e | e
    · exact (may_ok h (says_mem e)).1
    · have hp : 0 < says m t.1 := by omega
      exact (may_ok k (says_mem hp)).1
  have hs1 := may_says h t.1
  have hs2 := may_says k t.1
  unfold okT
  rw [hv, decide_eq_true (show 1 ≤ t.2 by omega), decide_eq_true (show t.2 ≤ 1099511627776 by omega)]
  rfl
theorem laws_large (v0 v1 v2 : Value) (l0 l1 l2 : List Tick) (w : World) (h0 : Rcs encT 3 w v0 l0) (h1 : Rcs encT 3 w v1 l1) (h2 : Rcs encT 3 w v2 l2) (hl : decide (150 < l0.length ∨ 150 < l1.length ∨ 150 < l2.length) = true) :
    Calls Try.prog 5 #[v0, v1, v2] w fun e w' => e = .returned (.bool true) ∧ Below w.heap.size w w' := by
  have HL := Lib.hid hl
  have I0 := Lib.hid h0
  have I1 := Lib.hid h1
  have I2 := Lib.hid h2
  obtain ⟨A0, c0, rfl, hz0⟩ := h0
  obtain ⟨A1, c1, rfl, hz1⟩ := h1
  obtain ⟨A2, c2, rfl, hz2⟩ := h2
  clear hl hz0 hz1 hz2
  go_enter Try.func5, Try.ntmps5
  have B0 := Lib.hid (show Below w.heap.size w w from Below.refl _ _)
  go_wp2_with fail
  refine (works_any _).mono ?_
  rintro e w1 ⟨rfl, hb⟩
  have B1 := Lib.hid (below_after B0.out hb (Nat.le_refl _))
  clear hb
  go_wp2_with fail
  refine (large_lit3 _ _ _ l0 l1 l2 w1 w I0.out I1.out I2.out).mono ?_
  rw [HL.out]
  rintro e w2 ⟨rfl, hb⟩
  have B2 := Lib.hid (below_after B1.out hb (Nat.le_refl _))
  clear hb
  go_wp2_with fail
  refine (works_any _).mono ?_
  rintro e w3 ⟨rfl, hb⟩
  have B3 := Lib.hid (below_after B2.out hb (Nat.le_refl _))
  clear hb
  go_wp2_with fail
  go_ret
  exact ⟨rfl, B3.out⟩
set_option maxHeartbeats 4000000 in
set_option maxRecDepth 100000 in
theorem laws1 (v0 v1 v2 : Value) (l0 l1 l2 : List Tick) (w : World) (h0 : Rcs encT 3 w v0 l0) (h1 : Rcs encT 3 w v1 l1) (h2 : Rcs encT 3 w v2 l2) (hl : decide (150 < l0.length ∨ 150 < l1.length ∨ 150 < l2.length) = false)
    (ha : mayB l0 = false) : Calls Try.prog 5 #[v0, v1, v2] w fun e w' => e = .returned (.bool true) ∧ Below w.heap.size w w' := by
  have HL := Lib.hid hl
  have K := Lib.hid (show l0.length ≤ 150 ∧ l1.length ≤ 150 ∧ l2.length ≤ 150 by have := of_decide_eq_false hl; omega)
  have I0 := Lib.hid h0
  have I1 := Lib.hid h1
  have I2 := Lib.hid h2
  have U1 := Lib.hid (join_len l0 l1)
  have U2 := Lib.hid (join_len (joinC l0 l1) l2)
  have U3 := Lib.hid (join_len l1 l2)
  have U4 := Lib.hid (join_len l0 l0)
  have U5 := Lib.hid (join_len l0 [])
  have E1 := Lib.hid (show sameT (joinC l0 l1) (joinC l1 l0) = true by rw [join_comm l0 l1]; exact same_self _)
  have E2 := Lib.hid (show sameT (joinC (joinC l0 l1) l2) (joinC l0 (joinC l1 l2)) = true by rw [join_assoc l0 l1 l2]; exact same_self _)
  have EA := Lib.hid ha
  obtain ⟨A0, c0, rfl, hz0⟩ := h0
  obtain ⟨A1, c1, rfl, hz1⟩ := h1
  obtain ⟨A2, c2, rfl, hz2⟩ := h2
  clear hl hz0 hz1 hz2 ha
  go_enter Try.func5, Try.ntmps5
  have B0 := Lib.hid (show Below w.heap.size w w from Below.refl _ _)
  have J0 := Lib.hid I0.out
  have J1 := Lib.hid I1.out
  have J2 := Lib.hid I2.out
  go_wp2_with fail
  refine (works_any _).mono ?_
  rintro e w1 ⟨rfl, hb⟩
  have B1 := Lib.hid (below_after B0.out hb (Nat.le_refl _))
  have IL01 := Lib.hid (J0.out.below hb)
  have IL11 := Lib.hid (J1.out.below hb)
  have IL21 := Lib.hid (J2.out.below hb)
  clear hb
  go_wp2_with fail
  refine (large_lit3 _ _ _ l0 l1 l2 w1 w I0.out I1.out I2.out).mono ?_
  rw [HL.out]
  rintro e w2 ⟨rfl, hb⟩
  have B2 := Lib.hid (below_after B1.out hb (Nat.le_refl _))
  have IL02 := Lib.hid (IL01.out.below hb)
  have IL12 := Lib.hid (IL11.out.below hb)
  have IL22 := Lib.hid (IL21.out.below hb)
  clear hb
  go_wp2_with fail
  refine (join_any _ _ l0 l1 _ IL02.out IL12.out (by have := K.out; omega) (by have := K.out; omega)).mono ?_
  rintro e w3 ⟨p, rfl, hi, hb⟩
  have B3 := Lib.hid (below_after B2.out hb (Nat.le_refl _))
  have IL03 := Lib.hid (IL02.out.below hb)
  have IL13 := Lib.hid (IL12.out.below hb)
  have IL23 := Lib.hid (IL22.out.below hb)
  have Ip3 := Lib.hid hi
  clear hi
  clear hb
  go_wp2_with fail
  refine (join_any _ _ l1 l0 _ IL13.out IL03.out (by have := K.out; omega) (by have := K.out; omega)).mono ?_
  rintro e w4 ⟨q, rfl, hi, hb⟩
  have B4 := Lib.hid (below_after B3.out hb (Nat.le_refl _))
  have IL04 := Lib.hid (IL03.out.below hb)
  have IL14 := Lib.hid (IL13.out.below hb)
  have IL24 := Lib.hid (IL23.out.below hb)
  have Ip4 := Lib.hid (Ip3.out.below hb)
  have Iq4 := Lib.hid hi
  clear hi
  clear hb
  go_wp2_with fail
  refine (ticks_any p q _ _ _ Ip4.out Iq4.out (by have := K.out; have := U1.out; omega)).mono ?_
  rw [E1.out]
  rintro e w5 ⟨rfl, hb⟩
  have B5 := Lib.hid (below_after B4.out hb (Nat.le_refl _))
  have IL05 := Lib.hid (IL04.out.below hb)
  have IL15 := Lib.hid (IL14.out.below hb)
  have IL25 := Lib.hid (IL24.out.below hb)
  clear hb
  go_wp2_with fail
  refine (join_any _ _ l0 l1 _ IL05.out IL15.out (by have := K.out; omega) (by have := K.out; omega)).mono ?_
  rintro e w6 ⟨p2, rfl, hi, hb⟩
  have B6 := Lib.hid (below_after B5.out hb (Nat.le_refl _))
  have IL06 := Lib.hid (IL05.out.below hb)
  have IL16 := Lib.hid (IL15.out.below hb)
  have IL26 := Lib.hid (IL25.out.below hb)
  have Ip26 := Lib.hid hi
  clear hi
  clear hb
  go_wp2_with fail
  refine (join_any p2 _ (joinC l0 l1) l2 _ Ip26.out IL26.out (by have := K.out; have := U1.out; omega) (by have := K.out; omega)).mono ?_
  rintro e w7 ⟨p3, rfl, hi, hb⟩
  have B7 := Lib.hid (below_after B6.out hb (Nat.le_refl _))
  have IL07 := Lib.hid (IL06.out.below hb)
  have IL17 := Lib.hid (IL16.out.below hb)
  have IL27 := Lib.hid (IL26.out.below hb)
  have Ip37 := Lib.hid hi
  clear hi
  clear hb
  go_wp2_with fail
  refine (join_any _ _ l1 l2 _ IL17.out IL27.out (by have := K.out; omega) (by have := K.out; omega)).mono ?_
  rintro e w8 ⟨p4, rfl, hi, hb⟩
  have B8 := Lib.hid (below_after B7.out hb (Nat.le_refl _))
  have IL08 := Lib.hid (IL07.out.below hb)
  have IL18 := Lib.hid (IL17.out.below hb)
  have IL28 := Lib.hid (IL27.out.below hb)
  have Ip38 := Lib.hid (Ip37.out.below hb)
  have Ip48 := Lib.hid hi
  clear hi
  clear hb
  go_wp2_with fail
  refine (join_any _ p4 l0 (joinC l1 l2) _ IL08.out Ip48.out (by have := K.out; omega) (by have := K.out; have := U3.out; omega)).mono ?_
  rintro e w9 ⟨p5, rfl, hi, hb⟩
  have B9 := Lib.hid (below_after B8.out hb (Nat.le_refl _))
  have IL09 := Lib.hid (IL08.out.below hb)
  have IL19 := Lib.hid (IL18.out.below hb)
  have IL29 := Lib.hid (IL28.out.below hb)
  have Ip39 := Lib.hid (Ip38.out.below hb)
  have Ip59 := Lib.hid hi
  clear hi
  clear hb
  go_wp2_with fail
  refine (ticks_any p3 p5 _ _ _ Ip39.out Ip59.out (by have := K.out; have := U1.out; have := U2.out; omega)).mono ?_
  rw [E2.out]
  rintro e w10 ⟨rfl, hb⟩
  have B10 := Lib.hid (below_after B9.out hb (Nat.le_refl _))
  have IL010 := Lib.hid (IL09.out.below hb)
  have IL110 := Lib.hid (IL19.out.below hb)
  have IL210 := Lib.hid (IL29.out.below hb)
  clear hb
  go_wp2_with fail
  refine (mayClock_any _ l0 _ IL010.out (by have := K.out; omega)).mono ?_
  rw [EA.out]
  rintro e w11 ⟨rfl, hb⟩
  have B11 := Lib.hid (below_after B10.out hb (Nat.le_refl _))
  have IL011 := Lib.hid (IL010.out.below hb)
  have IL111 := Lib.hid (IL110.out.below hb)
  have IL211 := Lib.hid (IL210.out.below hb)
  clear hb
  go_wp2_with fail
  refine (mayClock_any _ l0 _ IL011.out (by have := K.out; omega)).mono ?_
  rw [EA.out]
  rintro e w12 ⟨rfl, hb⟩
  have B12 := Lib.hid (below_after B11.out hb (Nat.le_refl _))
  have IL012 := Lib.hid (IL011.out.below hb)
  have IL112 := Lib.hid (IL111.out.below hb)
  have IL212 := Lib.hid (IL211.out.below hb)
  clear hb
  go_wp2_with fail
  go_ret
  exact ⟨rfl, B12.out⟩
set_option maxHeartbeats 4000000 in
set_option maxRecDepth 100000 in
theorem laws2 (v0 v1 v2 : Value) (l0 l1 l2 : List Tick) (w : World) (h0 : Rcs encT 3 w v0 l0) (h1 : Rcs encT 3 w v1 l1) (h2 : Rcs encT 3 w v2 l2) (hl : decide (150 < l0.length ∨ 150 < l1.length ∨ 150 < l2.length) = false)
    (ha : mayB l0 = true) (hb : mayB l1 = false) : Calls Try.prog 5 #[v0, v1, v2] w fun e w' => e = .returned (.bool true) ∧ Below w.heap.size w w' := by
  have HL := Lib.hid hl
  have K := Lib.hid (show l0.length ≤ 150 ∧ l1.length ≤ 150 ∧ l2.length ≤ 150 by have := of_decide_eq_false hl; omega)
  have I0 := Lib.hid h0
  have I1 := Lib.hid h1
  have I2 := Lib.hid h2
  have U1 := Lib.hid (join_len l0 l1)
  have U2 := Lib.hid (join_len (joinC l0 l1) l2)
  have U3 := Lib.hid (join_len l1 l2)
  have U4 := Lib.hid (join_len l0 l0)
  have U5 := Lib.hid (join_len l0 [])
  have E1 := Lib.hid (show sameT (joinC l0 l1) (joinC l1 l0) = true by rw [join_comm l0 l1]; exact same_self _)
  have E2 := Lib.hid (show sameT (joinC (joinC l0 l1) l2) (joinC l0 (joinC l1 l2)) = true by rw [join_assoc l0 l1 l2]; exact same_self _)
  have EA := Lib.hid ha
  have E3 := Lib.hid (show sameT (joinC l0 l0) l0 = true by rw [join_self (may_norm ha)]; exact same_self _)
  have E4 := Lib.hid (show sameT (joinC l0 []) l0 = true by rw [join_nil (may_norm ha)]; exact same_self _)
  have EB := Lib.hid hb
  obtain ⟨A0, c0, rfl, hz0⟩ := h0
  obtain ⟨A1, c1, rfl, hz1⟩ := h1
  obtain ⟨A2, c2, rfl, hz2⟩ := h2
  clear hl hz0 hz1 hz2 ha hb
  go_enter Try.func5, Try.ntmps5
  have B0 := Lib.hid (show Below w.heap.size w w from Below.refl _ _)
  have J0 := Lib.hid I0.out
  have J1 := Lib.hid I1.out
  have J2 := Lib.hid I2.out
  go_wp2_with fail
  refine (works_any _).mono ?_
  rintro e w1 ⟨rfl, hb⟩
  have B1 := Lib.hid (below_after B0.out hb (Nat.le_refl _))
  have IL01 := Lib.hid (J0.out.below hb)
  have IL11 := Lib.hid (J1.out.below hb)
  have IL21 := Lib.hid (J2.out.below hb)
  clear hb
  go_wp2_with fail
  refine (large_lit3 _ _ _ l0 l1 l2 w1 w I0.out I1.out I2.out).mono ?_
  rw [HL.out]
  rintro e w2 ⟨rfl, hb⟩
  have B2 := Lib.hid (below_after B1.out hb (Nat.le_refl _))
  have IL02 := Lib.hid (IL01.out.below hb)
  have IL12 := Lib.hid (IL11.out.below hb)
  have IL22 := Lib.hid (IL21.out.below hb)
  clear hb
  go_wp2_with fail
  refine (join_any _ _ l0 l1 _ IL02.out IL12.out (by have := K.out; omega) (by have := K.out; omega)).mono ?_
  rintro e w3 ⟨p, rfl, hi, hb⟩
  have B3 := Lib.hid (below_after B2.out hb (Nat.le_refl _))
  have IL03 := Lib.hid (IL02.out.below hb)
  have IL13 := Lib.hid (IL12.out.below hb)
  have IL23 := Lib.hid (IL22.out.below hb)
  have Ip3 := Lib.hid hi
  clear hi
  clear hb
  go_wp2_with fail
  refine (join_any _ _ l1 l0 _ IL13.out IL03.out (by have := K.out; omega) (by have := K.out; omega)).mono ?_
  rintro e w4 ⟨q, rfl, hi, hb⟩
  have B4 := Lib.hid (below_after B3.out hb (Nat.le_refl _))
  have IL04 := Lib.hid (IL03.out.below hb)
  have IL14 := Lib.hid (IL13.out.below hb)
  have IL24 := Lib.hid (IL23.out.below hb)
  have Ip4 := Lib.hid (Ip3.out.below hb)
  have Iq4 := Lib.hid hi
  clear hi
  clear hb
  go_wp2_with fail
  refine (ticks_any p q _ _ _ Ip4.out Iq4.out (by have := K.out; have := U1.out; omega)).mono ?_
  rw [E1.out]
  rintro e w5 ⟨rfl, hb⟩
  have B5 := Lib.hid (below_after B4.out hb (Nat.le_refl _))
  have IL05 := Lib.hid (IL04.out.below hb)
  have IL15 := Lib.hid (IL14.out.below hb)
  have IL25 := Lib.hid (IL24.out.below hb)
  clear hb
  go_wp2_with fail
  refine (join_any _ _ l0 l1 _ IL05.out IL15.out (by have := K.out; omega) (by have := K.out; omega)).mono ?_
  rintro e w6 ⟨p2, rfl, hi, hb⟩
  have B6 := Lib.hid (below_after B5.out hb (Nat.le_refl _))
  have IL06 := Lib.hid (IL05.out.below hb)
  have IL16 := Lib.hid (IL15.out.below hb)
  have IL26 := Lib.hid (IL25.out.below hb)
  have Ip26 := Lib.hid hi
  clear hi
  clear hb
  go_wp2_with fail
  refine (join_any p2 _ (joinC l0 l1) l2 _ Ip26.out IL26.out (by have := K.out; have := U1.out; omega) (by have := K.out; omega)).mono ?_
  rintro e w7 ⟨p3, rfl, hi, hb⟩
  have B7 := Lib.hid (below_after B6.out hb (Nat.le_refl _))
  have IL07 := Lib.hid (IL06.out.below hb)
  have IL17 := Lib.hid (IL16.out.below hb)
  have IL27 := Lib.hid (IL26.out.below hb)
  have Ip37 := Lib.hid hi
  clear hi
  clear hb
  go_wp2_with fail
  refine (join_any _ _ l1 l2 _ IL17.out IL27.out (by have := K.out; omega) (by have := K.out; omega)).mono ?_
  rintro e w8 ⟨p4, rfl, hi, hb⟩
  have B8 := Lib.hid (below_after B7.out hb (Nat.le_refl _))
  have IL08 := Lib.hid (IL07.out.below hb)
  have IL18 := Lib.hid (IL17.out.below hb)
  have IL28 := Lib.hid (IL27.out.below hb)
  have Ip38 := Lib.hid (Ip37.out.below hb)
  have Ip48 := Lib.hid hi
  clear hi
  clear hb
  go_wp2_with fail
  refine (join_any _ p4 l0 (joinC l1 l2) _ IL08.out Ip48.out (by have := K.out; omega) (by have := K.out; have := U3.out; omega)).mono ?_
  rintro e w9 ⟨p5, rfl, hi, hb⟩
  have B9 := Lib.hid (below_after B8.out hb (Nat.le_refl _))
  have IL09 := Lib.hid (IL08.out.below hb)
  have IL19 := Lib.hid (IL18.out.below hb)
  have IL29 := Lib.hid (IL28.out.below hb)
  have Ip39 := Lib.hid (Ip38.out.below hb)
  have Ip59 := Lib.hid hi
  clear hi
  clear hb
  go_wp2_with fail
  refine (ticks_any p3 p5 _ _ _ Ip39.out Ip59.out (by have := K.out; have := U1.out; have := U2.out; omega)).mono ?_
  rw [E2.out]
  rintro e w10 ⟨rfl, hb⟩
  have B10 := Lib.hid (below_after B9.out hb (Nat.le_refl _))
  have IL010 := Lib.hid (IL09.out.below hb)
  have IL110 := Lib.hid (IL19.out.below hb)
  have IL210 := Lib.hid (IL29.out.below hb)
  clear hb
  go_wp2_with fail
  refine (mayClock_any _ l0 _ IL010.out (by have := K.out; omega)).mono ?_
  rw [EA.out]
  rintro e w11 ⟨rfl, hb⟩
  have B11 := Lib.hid (below_after B10.out hb (Nat.le_refl _))
  have IL011 := Lib.hid (IL010.out.below hb)
  have IL111 := Lib.hid (IL110.out.below hb)
  have IL211 := Lib.hid (IL210.out.below hb)
  clear hb
  go_wp2_with fail
  refine (join_any _ _ l0 l0 _ IL011.out IL011.out (by have := K.out; omega) (by have := K.out; omega)).mono ?_
  rintro e w12 ⟨p6, rfl, hi, hb⟩
  have B12 := Lib.hid (below_after B11.out hb (Nat.le_refl _))
  have IL012 := Lib.hid (IL011.out.below hb)
  have IL112 := Lib.hid (IL111.out.below hb)
  have IL212 := Lib.hid (IL211.out.below hb)
  have Ip612 := Lib.hid hi
  clear hi
  clear hb
  go_wp2_with fail
  refine (ticks_any p6 _ _ l0 _ Ip612.out IL012.out (by have := K.out; have := U4.out; omega)).mono ?_
  rw [E3.out]
  rintro e w13 ⟨rfl, hb⟩
  have B13 := Lib.hid (below_after B12.out hb (Nat.le_refl _))
  have IL013 := Lib.hid (IL012.out.below hb)
  have IL113 := Lib.hid (IL112.out.below hb)
  have IL213 := Lib.hid (IL212.out.below hb)
  clear hb
  go_wp2_with fail
  refine (join_any _ (.slice none 0 0) l0 [] _ IL013.out (Rcs.nil _) (by have := K.out; omega) (by decide)).mono ?_
  rintro e w14 ⟨p7, rfl, hi, hb⟩
  have B14 := Lib.hid (below_after B13.out hb (Nat.le_refl _))
  have IL014 := Lib.hid (IL013.out.below hb)
  have IL114 := Lib.hid (IL113.out.below hb)
  have IL214 := Lib.hid (IL213.out.below hb)
  have Ip714 := Lib.hid hi
  clear hi
  clear hb
  go_wp2_with fail
  refine (ticks_any p7 _ _ l0 _ Ip714.out IL014.out (by have := K.out; have := U5.out; simp only [List.length_nil] at this; omega)).mono ?_
  rw [E4.out]
  rintro e w15 ⟨rfl, hb⟩
  have B15 := Lib.hid (below_after B14.out hb (Nat.le_refl _))
  have IL015 := Lib.hid (IL014.out.below hb)
  have IL115 := Lib.hid (IL114.out.below hb)
  have IL215 := Lib.hid (IL214.out.below hb)
  clear hb
  go_wp2_with fail
  refine (mayClock_any _ l0 _ IL015.out (by have := K.out; omega)).mono ?_
  rw [EA.out]
  rintro e w16 ⟨rfl, hb⟩
  have B16 := Lib.hid (below_after B15.out hb (Nat.le_refl _))
  have IL016 := Lib.hid (IL015.out.below hb)
  have IL116 := Lib.hid (IL115.out.below hb)
  have IL216 := Lib.hid (IL215.out.below hb)
  clear hb
  go_wp2_with fail
  refine (mayClock_any _ l1 _ IL116.out (by have := K.out; omega)).mono ?_
  rw [EB.out]
  rintro e w17 ⟨rfl, hb⟩
  have B17 := Lib.hid (below_after B16.out hb (Nat.le_refl _))
  have IL017 := Lib.hid (IL016.out.below hb)
  have IL117 := Lib.hid (IL116.out.below hb)
  have IL217 := Lib.hid (IL216.out.below hb)
  clear hb
  go_wp2_with fail
  go_ret
  exact ⟨rfl, B17.out⟩
set_option maxHeartbeats 4000000 in
set_option maxRecDepth 100000 in
theorem laws3 (v0 v1 v2 : Value) (l0 l1 l2 : List Tick) (w : World) (h0 : Rcs encT 3 w v0 l0) (h1 : Rcs encT 3 w v1 l1) (h2 : Rcs encT 3 w v2 l2) (hl : decide (150 < l0.length ∨ 150 < l1.length ∨ 150 < l2.length) = false)
    (ha : mayB l0 = true) (hb : mayB l1 = true) (hj : mayB (joinC l0 l1) = true) : Calls Try.prog 5 #[v0, v1, v2] w fun e w' => e = .returned (.bool true) ∧ Below w.heap.size w w' := by
  have HL := Lib.hid hl
  have K := Lib.hid (show l0.length ≤ 150 ∧ l1.length ≤ 150 ∧ l2.length ≤ 150 by have := of_decide_eq_false hl; omega)
  have I0 := Lib.hid h0
  have I1 := Lib.hid h1
  have I2 := Lib.hid h2
  have U1 := Lib.hid (join_len l0 l1)
  have U2 := Lib.hid (join_len (joinC l0 l1) l2)
  have U3 := Lib.hid (join_len l1 l2)
  have U4 := Lib.hid (join_len l0 l0)
  have U5 := Lib.hid (join_len l0 [])
  have E1 := Lib.hid (show sameT (joinC l0 l1) (joinC l1 l0) = true by rw [join_comm l0 l1]; exact same_self _)
  have E2 := Lib.hid (show sameT (joinC (joinC l0 l1) l2) (joinC l0 (joinC l1 l2)) = true by rw [join_assoc l0 l1 l2]; exact same_self _)
  have EA := Lib.hid ha
  have E3 := Lib.hid (show sameT (joinC l0 l0) l0 = true by rw [join_self (may_norm ha)]; exact same_self _)
  have E4 := Lib.hid (show sameT (joinC l0 []) l0 = true by rw [join_nil (may_norm ha)]; exact same_self _)
  have EB := Lib.hid hb
  have EJ := Lib.hid hj
  obtain ⟨A0, c0, rfl, hz0⟩ := h0
  obtain ⟨A1, c1, rfl, hz1⟩ := h1
  obtain ⟨A2, c2, rfl, hz2⟩ := h2
  clear hl hz0 hz1 hz2 ha hb hj
  go_enter Try.func5, Try.ntmps5
  have B0 := Lib.hid (show Below w.heap.size w w from Below.refl _ _)
  have J0 := Lib.hid I0.out
  have J1 := Lib.hid I1.out
  have J2 := Lib.hid I2.out
  go_wp2_with fail
  refine (works_any _).mono ?_
  rintro e w1 ⟨rfl, hb⟩
  have B1 := Lib.hid (below_after B0.out hb (Nat.le_refl _))
  have IL01 := Lib.hid (J0.out.below hb)
  have IL11 := Lib.hid (J1.out.below hb)
  have IL21 := Lib.hid (J2.out.below hb)
  clear hb
  go_wp2_with fail
  refine (large_lit3 _ _ _ l0 l1 l2 w1 w I0.out I1.out I2.out).mono ?_
  rw [HL.out]
  rintro e w2 ⟨rfl, hb⟩
  have B2 := Lib.hid (below_after B1.out hb (Nat.le_refl _))
  have IL02 := Lib.hid (IL01.out.below hb)
  have IL12 := Lib.hid (IL11.out.below hb)
  have IL22 := Lib.hid (IL21.out.below hb)
  clear hb
  go_wp2_with fail
  refine (join_any _ _ l0 l1 _ IL02.out IL12.out (by have := K.out; omega) (by have := K.out; omega)).mono ?_
  rintro e w3 ⟨p, rfl, hi, hb⟩
  have B3 := Lib.hid (below_after B2.out hb (Nat.le_refl _))
  have IL03 := Lib.hid (IL02.out.below hb)
  have IL13 := Lib.hid (IL12.out.below hb)
  have IL23 := Lib.hid (IL22.out.below hb)
  have Ip3 := Lib.hid hi
  clear hi
  clear hb
  go_wp2_with fail
  refine (join_any _ _ l1 l0 _ IL13.out IL03.out (by have := K.out; omega) (by have := K.out; omega)).mono ?_
  rintro e w4 ⟨q, rfl, hi, hb⟩
  have B4 := Lib.hid (below_after B3.out hb (Nat.le_refl _))
  have IL04 := Lib.hid (IL03.out.below hb)
  have IL14 := Lib.hid (IL13.out.below hb)
  have IL24 := Lib.hid (IL23.out.below hb)
  have Ip4 := Lib.hid (Ip3.out.below hb)
  have Iq4 := Lib.hid hi
  clear hi
  clear hb
  go_wp2_with fail
  refine (ticks_any p q _ _ _ Ip4.out Iq4.out (by have := K.out; have := U1.out; omega)).mono ?_
  rw [E1.out]
  rintro e w5 ⟨rfl, hb⟩
  have B5 := Lib.hid (below_after B4.out hb (Nat.le_refl _))
  have IL05 := Lib.hid (IL04.out.below hb)
  have IL15 := Lib.hid (IL14.out.below hb)
  have IL25 := Lib.hid (IL24.out.below hb)
  clear hb
  go_wp2_with fail
  refine (join_any _ _ l0 l1 _ IL05.out IL15.out (by have := K.out; omega) (by have := K.out; omega)).mono ?_
  rintro e w6 ⟨p2, rfl, hi, hb⟩
  have B6 := Lib.hid (below_after B5.out hb (Nat.le_refl _))
  have IL06 := Lib.hid (IL05.out.below hb)
  have IL16 := Lib.hid (IL15.out.below hb)
  have IL26 := Lib.hid (IL25.out.below hb)
  have Ip26 := Lib.hid hi
  clear hi
  clear hb
  go_wp2_with fail
  refine (join_any p2 _ (joinC l0 l1) l2 _ Ip26.out IL26.out (by have := K.out; have := U1.out; omega) (by have := K.out; omega)).mono ?_
  rintro e w7 ⟨p3, rfl, hi, hb⟩
  have B7 := Lib.hid (below_after B6.out hb (Nat.le_refl _))
  have IL07 := Lib.hid (IL06.out.below hb)
  have IL17 := Lib.hid (IL16.out.below hb)
  have IL27 := Lib.hid (IL26.out.below hb)
  have Ip37 := Lib.hid hi
  clear hi
  clear hb
  go_wp2_with fail
  refine (join_any _ _ l1 l2 _ IL17.out IL27.out (by have := K.out; omega) (by have := K.out; omega)).mono ?_
  rintro e w8 ⟨p4, rfl, hi, hb⟩
  have B8 := Lib.hid (below_after B7.out hb (Nat.le_refl _))
  have IL08 := Lib.hid (IL07.out.below hb)
  have IL18 := Lib.hid (IL17.out.below hb)
  have IL28 := Lib.hid (IL27.out.below hb)
  have Ip38 := Lib.hid (Ip37.out.below hb)
  have Ip48 := Lib.hid hi
  clear hi
  clear hb
  go_wp2_with fail
  refine (join_any _ p4 l0 (joinC l1 l2) _ IL08.out Ip48.out (by have := K.out; omega) (by have := K.out; have := U3.out; omega)).mono ?_
  rintro e w9 ⟨p5, rfl, hi, hb⟩
  have B9 := Lib.hid (below_after B8.out hb (Nat.le_refl _))
  have IL09 := Lib.hid (IL08.out.below hb)
  have IL19 := Lib.hid (IL18.out.below hb)
  have IL29 := Lib.hid (IL28.out.below hb)
  have Ip39 := Lib.hid (Ip38.out.below hb)
  have Ip59 := Lib.hid hi
  clear hi
  clear hb
  go_wp2_with fail
  refine (ticks_any p3 p5 _ _ _ Ip39.out Ip59.out (by have := K.out; have := U1.out; have := U2.out; omega)).mono ?_
  rw [E2.out]
  rintro e w10 ⟨rfl, hb⟩
  have B10 := Lib.hid (below_after B9.out hb (Nat.le_refl _))
  have IL010 := Lib.hid (IL09.out.below hb)
  have IL110 := Lib.hid (IL19.out.below hb)
  have IL210 := Lib.hid (IL29.out.below hb)
  clear hb
  go_wp2_with fail
  refine (mayClock_any _ l0 _ IL010.out (by have := K.out; omega)).mono ?_
  rw [EA.out]
  rintro e w11 ⟨rfl, hb⟩
  have B11 := Lib.hid (below_after B10.out hb (Nat.le_refl _))
  have IL011 := Lib.hid (IL010.out.below hb)
  have IL111 := Lib.hid (IL110.out.below hb)
  have IL211 := Lib.hid (IL210.out.below hb)
  clear hb
  go_wp2_with fail
  refine (join_any _ _ l0 l0 _ IL011.out IL011.out (by have := K.out; omega) (by have := K.out; omega)).mono ?_
  rintro e w12 ⟨p6, rfl, hi, hb⟩
  have B12 := Lib.hid (below_after B11.out hb (Nat.le_refl _))
  have IL012 := Lib.hid (IL011.out.below hb)
  have IL112 := Lib.hid (IL111.out.below hb)
  have IL212 := Lib.hid (IL211.out.below hb)
  have Ip612 := Lib.hid hi
  clear hi
  clear hb
  go_wp2_with fail
  refine (ticks_any p6 _ _ l0 _ Ip612.out IL012.out (by have := K.out; have := U4.out; omega)).mono ?_
  rw [E3.out]
  rintro e w13 ⟨rfl, hb⟩
  have B13 := Lib.hid (below_after B12.out hb (Nat.le_refl _))
  have IL013 := Lib.hid (IL012.out.below hb)
  have IL113 := Lib.hid (IL112.out.below hb)
  have IL213 := Lib.hid (IL212.out.below hb)
  clear hb
  go_wp2_with fail
  refine (join_any _ (.slice none 0 0) l0 [] _ IL013.out (Rcs.nil _) (by have := K.out; omega) (by decide)).mono ?_
  rintro e w14 ⟨p7, rfl, hi, hb⟩
  have B14 := Lib.hid (below_after B13.out hb (Nat.le_refl _))
  have IL014 := Lib.hid (IL013.out.below hb)
  have IL114 := Lib.hid (IL113.out.below hb)
  have IL214 := Lib.hid (IL213.out.below hb)
  have Ip714 := Lib.hid hi
  clear hi
  clear hb
  go_wp2_with fail
  refine (ticks_any p7 _ _ l0 _ Ip714.out IL014.out (by have := K.out; have := U5.out; simp only [List.length_nil] at this; omega)).mono ?_
  rw [E4.out]
  rintro e w15 ⟨rfl, hb⟩
  have B15 := Lib.hid (below_after B14.out hb (Nat.le_refl _))
  have IL015 := Lib.hid (IL014.out.below hb)
  have IL115 := Lib.hid (IL114.out.below hb)
  have IL215 := Lib.hid (IL214.out.below hb)
  clear hb
  go_wp2_with fail
  refine (mayClock_any _ l0 _ IL015.out (by have := K.out; omega)).mono ?_
  rw [EA.out]
  rintro e w16 ⟨rfl, hb⟩
  have B16 := Lib.hid (below_after B15.out hb (Nat.le_refl _))
  have IL016 := Lib.hid (IL015.out.below hb)
  have IL116 := Lib.hid (IL115.out.below hb)
  have IL216 := Lib.hid (IL215.out.below hb)
  clear hb
  go_wp2_with fail
  refine (mayClock_any _ l1 _ IL116.out (by have := K.out; omega)).mono ?_
  rw [EB.out]
  rintro e w17 ⟨rfl, hb⟩
  have B17 := Lib.hid (below_after B16.out hb (Nat.le_refl _))
  have IL017 := Lib.hid (IL016.out.below hb)
  have IL117 := Lib.hid (IL116.out.below hb)
  have IL217 := Lib.hid (IL216.out.below hb)
  clear hb
  go_wp2_with fail
  refine (join_any _ _ l0 l1 _ IL017.out IL117.out (by have := K.out; omega) (by have := K.out; omega)).mono ?_
  rintro e w18 ⟨p8, rfl, hi, hb⟩
  have B18 := Lib.hid (below_after B17.out hb (Nat.le_refl _))
  have IL018 := Lib.hid (IL017.out.below hb)
  have IL118 := Lib.hid (IL117.out.below hb)
  have IL218 := Lib.hid (IL217.out.below hb)
  have Ip818 := Lib.hid hi
  clear hi
  clear hb
  go_wp2_with fail
  refine (mayClock_any p8 _ _ Ip818.out (by have := K.out; have := U1.out; omega)).mono ?_
  rw [EJ.out]
  rintro e w19 ⟨rfl, hb⟩
  have B19 := Lib.hid (below_after B18.out hb (Nat.le_refl _))
  clear hb
  go_wp2_with fail
  go_ret
  exact ⟨rfl, B19.out⟩
set_option maxHeartbeats 4000000 in
set_option maxRecDepth 100000 in
theorem laws4 (v0 v1 v2 : Value) (l0 l1 l2 : List Tick) (w : World) (h0 : Rcs encT 3 w v0 l0) (h1 : Rcs encT 3 w v1 l1) (h2 : Rcs encT 3 w v2 l2) (hl : decide (150 < l0.length ∨ 150 < l1.length ∨ 150 < l2.length) = false)
    (ha : mayB l0 = true) (hb : mayB l1 = true) (hj : mayB (joinC l0 l1) = false) (hs : decide ((64 : Int) < (l0.length : Int) + (l1.length : Int)) = true) : Calls Try.prog 5 #[v0, v1, v2] w fun e w' => e = .returned (.bool true) ∧ Below w.heap.size w w' := by
  have HL := Lib.hid hl
  have K := Lib.hid (show l0.length ≤ 150 ∧ l1.length ≤ 150 ∧ l2.length ≤ 150 by have := of_decide_eq_false hl; omega)
  have I0 := Lib.hid h0
  have I1 := Lib.hid h1
  have I2 := Lib.hid h2
  have U1 := Lib.hid (join_len l0 l1)
  have U2 := Lib.hid (join_len (joinC l0 l1) l2)
  have U3 := Lib.hid (join_len l1 l2)
  have U4 := Lib.hid (join_len l0 l0)
  have U5 := Lib.hid (join_len l0 [])
  have E1 := Lib.hid (show sameT (joinC l0 l1) (joinC l1 l0) = true by rw [join_comm l0 l1]; exact same_self _)
  have E2 := Lib.hid (show sameT (joinC (joinC l0 l1) l2) (joinC l0 (joinC l1 l2)) = true by rw [join_assoc l0 l1 l2]; exact same_self _)
  have EA := Lib.hid ha
  have E3 := Lib.hid (show sameT (joinC l0 l0) l0 = true by rw [join_self (may_norm ha)]; exact same_self _)
  have E4 := Lib.hid (show sameT (joinC l0 []) l0 = true by rw [join_nil (may_norm ha)]; exact same_self _)
  have EB := Lib.hid hb
  have EJ := Lib.hid hj
  obtain ⟨A0, c0, rfl, hz0⟩ := h0
  obtain ⟨A1, c1, rfl, hz1⟩ := h1
  obtain ⟨A2, c2, rfl, hz2⟩ := h2
  clear hl hz0 hz1 hz2 ha hb hj
  have iw : IntKind.i64.wrap ((l0.length : Int) + (l1.length : Int)) = (l0.length : Int) + (l1.length : Int) := IntWalk.i64_in _ ⟨by have := K.out; omega, by have := K.out; omega⟩
  go_enter Try.func5, Try.ntmps5
  have B0 := Lib.hid (show Below w.heap.size w w from Below.refl _ _)
  have J0 := Lib.hid I0.out
  have J1 := Lib.hid I1.out
  have J2 := Lib.hid I2.out
  go_wp2_with fail
  refine (works_any _).mono ?_
  rintro e w1 ⟨rfl, hb⟩
  have B1 := Lib.hid (below_after B0.out hb (Nat.le_refl _))
  have IL01 := Lib.hid (J0.out.below hb)
  have IL11 := Lib.hid (J1.out.below hb)
  have IL21 := Lib.hid (J2.out.below hb)
  clear hb
  go_wp2_with fail
  refine (large_lit3 _ _ _ l0 l1 l2 w1 w I0.out I1.out I2.out).mono ?_
  rw [HL.out]
  rintro e w2 ⟨rfl, hb⟩
  have B2 := Lib.hid (below_after B1.out hb (Nat.le_refl _))
  have IL02 := Lib.hid (IL01.out.below hb)
  have IL12 := Lib.hid (IL11.out.below hb)
  have IL22 := Lib.hid (IL21.out.below hb)
  clear hb
  go_wp2_with fail
  refine (join_any _ _ l0 l1 _ IL02.out IL12.out (by have := K.out; omega) (by have := K.out; omega)).mono ?_
  rintro e w3 ⟨p, rfl, hi, hb⟩
  have B3 := Lib.hid (below_after B2.out hb (Nat.le_refl _))
  have IL03 := Lib.hid (IL02.out.below hb)
  have IL13 := Lib.hid (IL12.out.below hb)
  have IL23 := Lib.hid (IL22.out.below hb)
  have Ip3 := Lib.hid hi
  clear hi
  clear hb
  go_wp2_with fail
  refine (join_any _ _ l1 l0 _ IL13.out IL03.out (by have := K.out; omega) (by have := K.out; omega)).mono ?_
  rintro e w4 ⟨q, rfl, hi, hb⟩
  have B4 := Lib.hid (below_after B3.out hb (Nat.le_refl _))
  have IL04 := Lib.hid (IL03.out.below hb)
  have IL14 := Lib.hid (IL13.out.below hb)
  have IL24 := Lib.hid (IL23.out.below hb)
  have Ip4 := Lib.hid (Ip3.out.below hb)
  have Iq4 := Lib.hid hi
  clear hi
  clear hb
  go_wp2_with fail
  refine (ticks_any p q _ _ _ Ip4.out Iq4.out (by have := K.out; have := U1.out; omega)).mono ?_
  rw [E1.out]
  rintro e w5 ⟨rfl, hb⟩
  have B5 := Lib.hid (below_after B4.out hb (Nat.le_refl _))
  have IL05 := Lib.hid (IL04.out.below hb)
  have IL15 := Lib.hid (IL14.out.below hb)
  have IL25 := Lib.hid (IL24.out.below hb)
  clear hb
  go_wp2_with fail
  refine (join_any _ _ l0 l1 _ IL05.out IL15.out (by have := K.out; omega) (by have := K.out; omega)).mono ?_
  rintro e w6 ⟨p2, rfl, hi, hb⟩
  have B6 := Lib.hid (below_after B5.out hb (Nat.le_refl _))
  have IL06 := Lib.hid (IL05.out.below hb)
  have IL16 := Lib.hid (IL15.out.below hb)
  have IL26 := Lib.hid (IL25.out.below hb)
  have Ip26 := Lib.hid hi
  clear hi
  clear hb
  go_wp2_with fail
  refine (join_any p2 _ (joinC l0 l1) l2 _ Ip26.out IL26.out (by have := K.out; have := U1.out; omega) (by have := K.out; omega)).mono ?_
  rintro e w7 ⟨p3, rfl, hi, hb⟩
  have B7 := Lib.hid (below_after B6.out hb (Nat.le_refl _))
  have IL07 := Lib.hid (IL06.out.below hb)
  have IL17 := Lib.hid (IL16.out.below hb)
  have IL27 := Lib.hid (IL26.out.below hb)
  have Ip37 := Lib.hid hi
  clear hi
  clear hb
  go_wp2_with fail
  refine (join_any _ _ l1 l2 _ IL17.out IL27.out (by have := K.out; omega) (by have := K.out; omega)).mono ?_
  rintro e w8 ⟨p4, rfl, hi, hb⟩
  have B8 := Lib.hid (below_after B7.out hb (Nat.le_refl _))
  have IL08 := Lib.hid (IL07.out.below hb)
  have IL18 := Lib.hid (IL17.out.below hb)
  have IL28 := Lib.hid (IL27.out.below hb)
  have Ip38 := Lib.hid (Ip37.out.below hb)
  have Ip48 := Lib.hid hi
  clear hi
  clear hb
  go_wp2_with fail
  refine (join_any _ p4 l0 (joinC l1 l2) _ IL08.out Ip48.out (by have := K.out; omega) (by have := K.out; have := U3.out; omega)).mono ?_
  rintro e w9 ⟨p5, rfl, hi, hb⟩
  have B9 := Lib.hid (below_after B8.out hb (Nat.le_refl _))
  have IL09 := Lib.hid (IL08.out.below hb)
  have IL19 := Lib.hid (IL18.out.below hb)
  have IL29 := Lib.hid (IL28.out.below hb)
  have Ip39 := Lib.hid (Ip38.out.below hb)
  have Ip59 := Lib.hid hi
  clear hi
  clear hb
  go_wp2_with fail
  refine (ticks_any p3 p5 _ _ _ Ip39.out Ip59.out (by have := K.out; have := U1.out; have := U2.out; omega)).mono ?_
  rw [E2.out]
  rintro e w10 ⟨rfl, hb⟩
  have B10 := Lib.hid (below_after B9.out hb (Nat.le_refl _))
  have IL010 := Lib.hid (IL09.out.below hb)
  have IL110 := Lib.hid (IL19.out.below hb)
  have IL210 := Lib.hid (IL29.out.below hb)
  clear hb
  go_wp2_with fail
  refine (mayClock_any _ l0 _ IL010.out (by have := K.out; omega)).mono ?_
  rw [EA.out]
  rintro e w11 ⟨rfl, hb⟩
  have B11 := Lib.hid (below_after B10.out hb (Nat.le_refl _))
  have IL011 := Lib.hid (IL010.out.below hb)
  have IL111 := Lib.hid (IL110.out.below hb)
  have IL211 := Lib.hid (IL210.out.below hb)
  clear hb
  go_wp2_with fail
  refine (join_any _ _ l0 l0 _ IL011.out IL011.out (by have := K.out; omega) (by have := K.out; omega)).mono ?_
  rintro e w12 ⟨p6, rfl, hi, hb⟩
  have B12 := Lib.hid (below_after B11.out hb (Nat.le_refl _))
  have IL012 := Lib.hid (IL011.out.below hb)
  have IL112 := Lib.hid (IL111.out.below hb)
  have IL212 := Lib.hid (IL211.out.below hb)
  have Ip612 := Lib.hid hi
  clear hi
  clear hb
  go_wp2_with fail
  refine (ticks_any p6 _ _ l0 _ Ip612.out IL012.out (by have := K.out; have := U4.out; omega)).mono ?_
  rw [E3.out]
  rintro e w13 ⟨rfl, hb⟩
  have B13 := Lib.hid (below_after B12.out hb (Nat.le_refl _))
  have IL013 := Lib.hid (IL012.out.below hb)
  have IL113 := Lib.hid (IL112.out.below hb)
  have IL213 := Lib.hid (IL212.out.below hb)
  clear hb
  go_wp2_with fail
  refine (join_any _ (.slice none 0 0) l0 [] _ IL013.out (Rcs.nil _) (by have := K.out; omega) (by decide)).mono ?_
  rintro e w14 ⟨p7, rfl, hi, hb⟩
  have B14 := Lib.hid (below_after B13.out hb (Nat.le_refl _))
  have IL014 := Lib.hid (IL013.out.below hb)
  have IL114 := Lib.hid (IL113.out.below hb)
  have IL214 := Lib.hid (IL213.out.below hb)
  have Ip714 := Lib.hid hi
  clear hi
  clear hb
  go_wp2_with fail
  refine (ticks_any p7 _ _ l0 _ Ip714.out IL014.out (by have := K.out; have := U5.out; simp only [List.length_nil] at this; omega)).mono ?_
  rw [E4.out]
  rintro e w15 ⟨rfl, hb⟩
  have B15 := Lib.hid (below_after B14.out hb (Nat.le_refl _))
  have IL015 := Lib.hid (IL014.out.below hb)
  have IL115 := Lib.hid (IL114.out.below hb)
  have IL215 := Lib.hid (IL214.out.below hb)
  clear hb
  go_wp2_with fail
  refine (mayClock_any _ l0 _ IL015.out (by have := K.out; omega)).mono ?_
  rw [EA.out]
  rintro e w16 ⟨rfl, hb⟩
  have B16 := Lib.hid (below_after B15.out hb (Nat.le_refl _))
  have IL016 := Lib.hid (IL015.out.below hb)
  have IL116 := Lib.hid (IL115.out.below hb)
  have IL216 := Lib.hid (IL215.out.below hb)
  clear hb
  go_wp2_with fail
  refine (mayClock_any _ l1 _ IL116.out (by have := K.out; omega)).mono ?_
  rw [EB.out]
  rintro e w17 ⟨rfl, hb⟩
  have B17 := Lib.hid (below_after B16.out hb (Nat.le_refl _))
  have IL017 := Lib.hid (IL016.out.below hb)
  have IL117 := Lib.hid (IL116.out.below hb)
  have IL217 := Lib.hid (IL216.out.below hb)
  clear hb
  go_wp2_with fail
  refine (join_any _ _ l0 l1 _ IL017.out IL117.out (by have := K.out; omega) (by have := K.out; omega)).mono ?_
  rintro e w18 ⟨p8, rfl, hi, hb⟩
  have B18 := Lib.hid (below_after B17.out hb (Nat.le_refl _))
  have IL018 := Lib.hid (IL017.out.below hb)
  have IL118 := Lib.hid (IL117.out.below hb)
  have IL218 := Lib.hid (IL217.out.below hb)
  have Ip818 := Lib.hid hi
  clear hi
  clear hb
  go_wp2_with fail
  refine (mayClock_any p8 _ _ Ip818.out (by have := K.out; have := U1.out; omega)).mono ?_
  rw [EJ.out]
  rintro e w19 ⟨rfl, hb⟩
  have B19 := Lib.hid (below_after B18.out hb (Nat.le_refl _))
  clear hb
  go_wp2_with fail
  go_ret
  exact ⟨rfl, B19.out⟩
theorem laws_any (v0 : Value) (l0 : List Tick) (v1 : Value) (l1 : List Tick) (v2 : Value) (l2 : List Tick) (w : World) (h0 : Rcs encT 3 w v0 l0) (h1 : Rcs encT 3 w v1 l1) (h2 : Rcs encT 3 w v2 l2) :
    Calls Try.prog 5 #[v0, v1, v2] w fun e w' => e = .returned (.bool true) ∧ Below w.heap.size w w' := by
  cases hl : decide (150 < l0.length ∨ 150 < l1.length ∨ 150 < l2.length)
  · cases ha : mayB l0
    · exact laws1 v0 v1 v2 l0 l1 l2 w h0 h1 h2 hl ha
    · cases hb : mayB l1
      · exact laws2 v0 v1 v2 l0 l1 l2 w h0 h1 h2 hl ha hb
      · cases hj : mayB (joinC l0 l1)
        · refine laws4 v0 v1 v2 l0 l1 l2 w h0 h1 h2 hl ha hb hj (decide_eq_true ?_)
          rcases Nat.lt_or_ge 64 (l0.length + l1.length) with e | e
          · omega
          · rw [may_join ha hb e] at hj
            cases hj
        · exact laws3 v0 v1 v2 l0 l1 l2 w h0 h1 h2 hl ha hb hj
  · exact laws_large v0 v1 v2 l0 l1 l2 w h0 h1 h2 hl
section
open Go.ChangeShapes Go.WideShapes Go.ChangeAt
open Go.ChangeMaps (open_string)
set_option maxRecDepth 100000 in
theorem laws_lifted (os : Os) (started : os.Started) (H : Type) (enc : TypeId × Value → H) :
    ReturnsInHanded {} Try.checked os 5 .any (Rows.clockLawsSpec.pre6 enc Try.prog Try.f5 Rows.clockLawsRow.domain false) (Rows.clockLawsSpec.post enc Try.prog Try.f5 false true false false) := by
  refine returnsInHanded_of_change_sized (C := Try.checked) Try.own started (by kernel_rfl) Try.func5
    (ChangeSpec.witness6 (enc := enc) (C := Try.checked) false ⟨#[], #[.slice none 0 0, .slice none 0 0, .slice none 0 0], []⟩ 8 (by kernel_rfl) (by kernel_rfl) (by kernel_rfl) (by kernel_rfl)) ?_
  intro W base args ds gs before hval0 hW _ _ _
  have hval : ∀ (j : Nat) t v, Try.f5.params[j]? = some t → args[j]? = some v → Value.okWide Try.prog W .any base t v := hval0
  have hW' := hW
  obtain ⟨p, q, hA0, hV, rfl, _, _⟩ := hW
  have hA : DataW.TrodAll enc Try.prog W 0 (fun _ => true) true Try.f5.params.toList args.toList ds p := hA0
  rw [Try.params5] at hA hval
  obtain ⟨v0, v1, v2, d0, d1, d2, p0, p1, p2, rfl, rfl, rfl, h0, h1, h2⟩ := trodAll_three hA
  obtain ⟨rfl, rfl⟩ := trodVars_none hV
  obtain ⟨l0, I0⟩ := open_ticks (hval 0 24 v0 rfl rfl) h0
  obtain ⟨l1, I1⟩ := open_ticks (hval 1 24 v1 rfl rfl) h1
  obtain ⟨l2, I2⟩ := open_ticks (hval 2 24 v2 rfl rfl) h2
  refine (laws_any v0 l0 v1 l1 v2 l2 W I0 I1 I2).mono fun e W' ⟨he, hb⟩ => ?_
  subst he
  exact ⟨_, rfl, law_post hW' rfl (by kernel_rfl) Try.underlying4 rfl (by unfold Legible; kernel_rfl) hb⟩
/-- The statement. -/
theorem laws_holds : Rows.ClockLawsSaid :=
  OpenClaim.holds_of_wide 5 Try.f5 rfl rfl rfl rfl rfl rfl rfl ⟨rfl, rfl, rfl, rfl, rfl⟩ rfl rfl rfl rfl rfl (by kernel_rfl) Try.func5 (by kernel_rfl)
    (of_decide_eq_true (by kernel_rfl)) (by unfold Func.isWrapper; first | (rw [if_pos (by decide +kernel)]; kernel_rfl) | (rw [if_neg (by decide +kernel)]; exact ⟨rfl, rfl⟩))
    (fun os started H enc _ => laws_lifted os started H enc)
end

end Go.Proofs.Ytpmfanglgkohjaa
