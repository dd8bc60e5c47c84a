/-
  PROVED HERE: for any three lists of ticks and any ID ClockGreater of package coveylaw05 returns true and leaves its arguments as they were: a Join says of each ID the greater of what both say; it is behind none of them; what is behind none of both, nor apart from one, is not behind it. No condition.
-/
import Derived.Test.YtpmfanglgkohjaaStands
import Derived.Deep.DeepCutAuto
namespace Go.Proofs.Ytpmfanglgkohjaa
open Go.RowKit Sets Clocks
theorem ab_any (n : Nat) (b : Bool) (w : World) (h : decide (n = 3 ∨ n = 1) = b) : Calls Try.prog 16 #[.int .u8 (n : Int)] w fun e w' => e = .returned (.bool b) ∧ w = w' := by
  by_cases h3 : n = 3
  · subst h3
    have hb := Lib.hid (show b = true by rw [← h]; rfl)
    go_enter Try.func16, Try.ntmps16
    go_wp2_with fail
    go_ret
    exact ⟨by rw [hb.out]; rfl, rfl⟩
  · have e3 : ((n : Int) == 3) = false := by simp only [beq_eq_false_iff_ne]; omega
    by_cases h1 : n = 1
    · subst h1
      have hb := Lib.hid (show b = true by rw [← h]; rfl)
      go_enter Try.func16, Try.ntmps16
      go_wp2_with fail
      go_ret
      exact ⟨by rw [hb.out]; rfl, rfl⟩
    · have e1 : ((n : Int) == 1) = false := by simp only [beq_eq_false_iff_ne]; omega
      have hb := Lib.hid (show b = false by rw [← h]; exact decide_eq_false (fun h => h.elim h3 h1))
      go_enter Try.func16, Try.ntmps16
      go_wp2_with fail
      go_ret
      exact ⟨by rw [hb.out]; simp [e3, e1], rfl⟩
theorem above_dec (l m : List Tick) : decide (cmp l m = 3 ∨ cmp l m = 1) = above l m := by
  rw [Bool.eq_iff_iff, decide_eq_true_iff]
  exact cmp_above l m
theorem greater_large (v0 v1 v2 : Value) (l0 l1 l2 : List Tick) (a i : Int) (w : World) (h0 : Rcs encT 3 w v0 l0) (h1 : Rcs encT 3 w v1 l1) (h2 : Rcs encT 3 w v2 l2) (hl : decide (150 < l0.length ∨ 150 < l1.length ∨ 150 < l2.length) = true) :
    Calls Try.prog 4 #[v0, v1, v2, .agg #[.int .i64 a, .int .i64 i]] w fun e w' => e = .returned (.bool true) ∧ Below w.heap.size w w' := by
  have HL := Lib.hid hl
  have I0 := Lib.hid h0
  have I1 := Lib.hid h1
  have I2 := Lib.hid h2
  obtain ⟨A0, c0, rfl, hz0⟩ := h0
  obtain ⟨A1, c1, rfl, hz1⟩ := h1
  obtain ⟨A2, c2, rfl, hz2⟩ := h2
  clear hl hz0 hz1 hz2
  go_enter Try.func4, Try.ntmps4
  have B0 := Lib.hid (show Below w.heap.size w (w.alloc (.cells #[.int .i64 a, .int .i64 i] 28)) from (Below.refl _ _).alloc (Nat.le_refl _) _)
  go_wp2_with fail
  refine (works_any _).mono ?_
  rintro e w1 ⟨rfl, hb⟩
  have B1 := Lib.hid (below_after B0.out hb (Nat.le_refl _))
  clear hb
  go_wp2_with fail
  refine (large_lit3 _ _ _ l0 l1 l2 w1 w I0.out I1.out I2.out).mono ?_
  rw [HL.out]
  rintro e w2 ⟨rfl, hb⟩
  have B2 := Lib.hid (below_after B1.out hb (Nat.le_refl _))
  clear hb
  go_wp2_with fail
  refine (works_any _).mono ?_
  rintro e w3 ⟨rfl, hb⟩
  have B3 := Lib.hid (below_after B2.out hb (Nat.le_refl _))
  clear hb
  go_wp2_with fail
  go_ret
  exact ⟨rfl, B3.out⟩
set_option maxHeartbeats 16000000 in
set_option maxRecDepth 100000 in
theorem greater_small (v0 v1 v2 : Value) (l0 l1 l2 : List Tick) (a i : Int) (w : World) (h0 : Rcs encT 3 w v0 l0) (h1 : Rcs encT 3 w v1 l1) (h2 : Rcs encT 3 w v2 l2) (hl : decide (150 < l0.length ∨ 150 < l1.length ∨ 150 < l2.length) = false) :
    Calls Try.prog 4 #[v0, v1, v2, .agg #[.int .i64 a, .int .i64 i]] w fun e w' => e = .returned (.bool true) ∧ Below w.heap.size w w' := by
  have HL := Lib.hid hl
  have K := Lib.hid (show l0.length ≤ 150 ∧ l1.length ≤ 150 ∧ l2.length ≤ 150 by have := of_decide_eq_false hl; omega)
  have U := Lib.hid (join_len l0 l1)
  have I0 := Lib.hid h0
  have I1 := Lib.hid h1
  have I2 := Lib.hid h2
  have HX := Lib.hid (box_new w a i)
  have S0 := Lib.hid (says_join l0 l1 (a, i))
  have N0 := Lib.hid ((cmp_above (joinC l0 l1) l0).2 (join_above l0 l1))
  have N1 := Lib.hid ((cmp_above (joinC l0 l1) l1).2 (join_above' l0 l1))
  obtain ⟨p, hp⟩ : ∃ p, above l2 l0 = p := ⟨_, rfl⟩
  obtain ⟨q, hq⟩ : ∃ q, above l2 l1 = q := ⟨_, rfl⟩
  have P0 := Lib.hid (show decide (cmp l2 l0 = 3 ∨ cmp l2 l0 = 1) = p by rw [above_dec]; exact hp)
  have P1 := Lib.hid (show decide (cmp l2 l1 = 3 ∨ cmp l2 l1 = 1) = q by rw [above_dec]; exact hq)
  have PJ := Lib.hid (show p = true → q = true → decide (cmp l2 (joinC l0 l1) = 3 ∨ cmp l2 (joinC l0 l1) = 1) = true by
    rw [above_dec]
    exact fun e1 e2 => above_join (hp.trans e1) (hq.trans e2))
  obtain ⟨A0, c0, rfl, hz0⟩ := h0
  obtain ⟨A1, c1, rfl, hz1⟩ := h1
  obtain ⟨A2, c2, rfl, hz2⟩ := h2
  clear hl hz0 hz1 hz2 hp hq
  obtain ⟨p1, p2⟩ := box_cells HX.out
  go_enter Try.func4, Try.ntmps4
  have B0 := Lib.hid (show Below w.heap.size w (w.alloc (.cells #[.int .i64 a, .int .i64 i] 28)) from (Below.refl _ _).alloc (Nat.le_refl _) _)
  have J0 := Lib.hid (I0.out.below B0.out)
  have J1 := Lib.hid (I1.out.below B0.out)
  have J2 := Lib.hid (I2.out.below B0.out)
  go_wp2_with fail
  refine (works_any _).mono ?_
  rintro e w1 ⟨rfl, hb⟩
  have B1 := Lib.hid (below_after B0.out hb (Nat.le_refl _))
  have IL01 := Lib.hid (J0.out.below hb)
  have IL11 := Lib.hid (J1.out.below hb)
  have IL21 := Lib.hid (J2.out.below hb)
  clear p1 p2
  have X0_1 := Lib.hid (box_below HX.out hb)
  obtain ⟨p1, p2⟩ := box_cells X0_1.out
  clear hb
  go_wp2_with fail
  refine (large_lit3 _ _ _ l0 l1 l2 w1 w I0.out I1.out I2.out).mono ?_
  rw [HL.out]
  rintro e w2 ⟨rfl, hb⟩
  have B2 := Lib.hid (below_after B1.out hb (Nat.le_refl _))
  have IL02 := Lib.hid (IL01.out.below hb)
  have IL12 := Lib.hid (IL11.out.below hb)
  have IL22 := Lib.hid (IL21.out.below hb)
  clear p1 p2
  have X0_2 := Lib.hid (box_below X0_1.out hb)
  obtain ⟨p1, p2⟩ := box_cells X0_2.out
  clear hb
  go_wp2_with fail
  refine (join_any _ _ l0 l1 _ IL02.out IL12.out (by have := K.out; omega) (by have := K.out; omega)).mono ?_
  rintro e w3 ⟨j, rfl, hi, hb⟩
  have B3 := Lib.hid (below_after B2.out hb (Nat.le_refl _))
  have IL03 := Lib.hid (IL02.out.below hb)
  have IL13 := Lib.hid (IL12.out.below hb)
  have IL23 := Lib.hid (IL22.out.below hb)
  have Ij3 := Lib.hid hi
  clear hi
  clear p1 p2
  have X0_3 := Lib.hid (box_below X0_2.out hb)
  obtain ⟨p1, p2⟩ := box_cells X0_3.out
  clear hb
  have M0 := Lib.hid fun w' (hb : Below w3.heap.size w3 w') => IL03.out.below hb
  have M1 := Lib.hid fun w' (hb : Below w3.heap.size w3 w') => IL13.out.below hb
  have M2 := Lib.hid fun w' (hb : Below w3.heap.size w3 w') => IL23.out.below hb
  have MJ := Lib.hid fun w' (hb : Below w3.heap.size w3 w') => Ij3.out.below hb
  have HS := Lib.hid fun w' (hb : Below w3.heap.size w3 w') => And.intro (box_cells (box_below X0_3.out hb)) (Lib.hid hb)
  obtain ⟨s0, e0⟩ : ∃ s0, says l0 (a, i) = s0 := ⟨_, rfl⟩
  obtain ⟨s1, e1⟩ : ∃ s1, says l1 (a, i) = s1 := ⟨_, rfl⟩
  have hmax := max_two s0 s1
  have S1 : Hid (says (joinC l0 l1) (a, i) = max s0 s1) := Lib.hid (by rw [S0.out, e0, e1])
  have E0 := Lib.hid e0
  have E1 := Lib.hid e1
  clear e0 e1 S0
  generalize max s0 s1 = sm at *
  have G0 : Hid (∀ W, Below w3.heap.size w3 W → Calls Try.prog 11 #[(.slice A0 l0.length c0), .agg #[.int .i64 a, .int .i64 i]] W fun e w' => e = .returned (.int .i64 s0) ∧ Below w3.heap.size w3 w') := Lib.hid fun W hb => by
    have := get_any (.slice A0 l0.length c0) l0 a i W (M0.out _ hb) (by have := K.out; omega)
    rw [E0.out] at this
    exact this.mono fun _ _ ⟨h1, h2⟩ => ⟨h1, below_after hb h2 (Nat.le_refl _)⟩
  have G1 : Hid (∀ W, Below w3.heap.size w3 W → Calls Try.prog 11 #[(.slice A1 l1.length c1), .agg #[.int .i64 a, .int .i64 i]] W fun e w' => e = .returned (.int .i64 s1) ∧ Below w3.heap.size w3 w') := Lib.hid fun W hb => by
    have := get_any (.slice A1 l1.length c1) l1 a i W (M1.out _ hb) (by have := K.out; omega)
    rw [E1.out] at this
    exact this.mono fun _ _ ⟨h1, h2⟩ => ⟨h1, below_after hb h2 (Nat.le_refl _)⟩
  have GJ : Hid (∀ W, Below w3.heap.size w3 W → Calls Try.prog 11 #[j, .agg #[.int .i64 a, .int .i64 i]] W fun e w' => e = .returned (.int .i64 sm) ∧ Below w3.heap.size w3 w') := Lib.hid fun W hb => by
    have := get_any j (joinC l0 l1) a i W (MJ.out _ hb) (by have := K.out; have := U.out; omega)
    rw [S1.out] at this
    exact this.mono fun _ _ ⟨h1, h2⟩ => ⟨h1, below_after hb h2 (Nat.le_refl _)⟩
  have HK0 := Lib.hid (show Below w3.heap.size w3 w3.drew from (Below.refl _ _).drew)
  go_upto_region 4 with (fail)
  go_cut [37] (fun s37 wx => s37 = .bool false ∧ Hid (Below w3.heap.size w3 wx))
  case first =>
    clear M0 M1 M2 MJ P0 P1 PJ N0 N1
    go_wp2_with fail
    go_region_held3 (fun w' => (w'.cell? ⟨w.heap.size, 0, none⟩ = some (.int .i64 a) ∧ w'.cell? ⟨w.heap.size, 1, none⟩ = some (.int .i64 i)) ∧ Hid (Below w3.heap.size w3 w'))
      (first | exact HS.out _ HK0.out | exact HS.out _ HK.out)
      (first | (go_at_call 11; (with_reducible refine (GJ.out _ (Hid.out (by assumption))).mono ?_); rintro e w' ⟨rfl, hb⟩; have HK := Lib.hid hb; clear hb) | (go_at_call 11; (with_reducible refine (G0.out _ (Hid.out (by assumption))).mono ?_); rintro e w' ⟨rfl, hb⟩; have HK := Lib.hid hb; clear hb) | (go_at_call 11; (with_reducible refine (G1.out _ (Hid.out (by assumption))).mono ?_); rintro e w' ⟨rfl, hb⟩; have HK := Lib.hid hb; clear hb))
    all_goals
      go_wp2_with fail
      go_meet
      exact ⟨rfl, HK⟩
  case rest =>
    obtain ⟨rfl, HC⟩ := hcut
    clear G0 G1 GJ HK0 HS E0 E1 S1 hmax p1 p2
    have BC := Lib.hid (below_after B3.out HC.out (Nat.le_refl _))
    have BL := Lib.hid (BC.out.alloc BC.out.size (.cells #[.slice A0 l0.length c0, .slice A1 l1.length c1] 24))
    have HQ := Lib.hid (show Below w3.heap.size w3 (wc.alloc (.cells #[.slice A0 l0.length c0, .slice A1 l1.length c1] 24)) from HC.out.alloc HC.out.size _)
    have LL := Lib.hid (show Lots (wc.alloc (.cells #[.slice A0 l0.length c0, .slice A1 l1.length c1] 24)) wc.heap.size [.slice A0 l0.length c0, .slice A1 l1.length c1] from heap_alloc_new wc _)
    have C0 : Hid (∀ n, cmp (joinC l0 l1) l0 = n → ∀ W, Below (wc.alloc (.cells #[.slice A0 l0.length c0, .slice A1 l1.length c1] 24)).heap.size (wc.alloc (.cells #[.slice A0 l0.length c0, .slice A1 l1.length c1] 24)) W → Calls Try.prog 9 #[j, (.slice A0 l0.length c0)] W fun e w' => e = .returned (.int .u8 (n : Nat)) ∧ Below (wc.alloc (.cells #[.slice A0 l0.length c0, .slice A1 l1.length c1] 24)).heap.size (wc.alloc (.cells #[.slice A0 l0.length c0, .slice A1 l1.length c1] 24)) w') := Lib.hid fun n e W hb => by
      have := compare_clocks j (.slice A0 l0.length c0) (joinC l0 l1) l0 W (MJ.out _ (below_after HQ.out hb (Nat.le_refl _))) (M0.out _ (below_after HQ.out hb (Nat.le_refl _))) (by have := K.out; have := U.out; omega) (by have := K.out; omega)
      rw [e] at this
      exact this.mono fun _ _ ⟨h1, h2⟩ => ⟨h1, below_after hb h2 (Nat.le_refl _)⟩
    have C1 : Hid (∀ n, cmp (joinC l0 l1) l1 = n → ∀ W, Below (wc.alloc (.cells #[.slice A0 l0.length c0, .slice A1 l1.length c1] 24)).heap.size (wc.alloc (.cells #[.slice A0 l0.length c0, .slice A1 l1.length c1] 24)) W → Calls Try.prog 9 #[j, (.slice A1 l1.length c1)] W fun e w' => e = .returned (.int .u8 (n : Nat)) ∧ Below (wc.alloc (.cells #[.slice A0 l0.length c0, .slice A1 l1.length c1] 24)).heap.size (wc.alloc (.cells #[.slice A0 l0.length c0, .slice A1 l1.length c1] 24)) w') := Lib.hid fun n e W hb => by
      have := compare_clocks j (.slice A1 l1.length c1) (joinC l0 l1) l1 W (MJ.out _ (below_after HQ.out hb (Nat.le_refl _))) (M1.out _ (below_after HQ.out hb (Nat.le_refl _))) (by have := K.out; have := U.out; omega) (by have := K.out; omega)
      rw [e] at this
      exact this.mono fun _ _ ⟨h1, h2⟩ => ⟨h1, below_after hb h2 (Nat.le_refl _)⟩
    have D0 : Hid (∀ n, cmp l2 l0 = n → ∀ W, Below (wc.alloc (.cells #[.slice A0 l0.length c0, .slice A1 l1.length c1] 24)).heap.size (wc.alloc (.cells #[.slice A0 l0.length c0, .slice A1 l1.length c1] 24)) W → Calls Try.prog 9 #[(.slice A2 l2.length c2), (.slice A0 l0.length c0)] W fun e w' => e = .returned (.int .u8 (n : Nat)) ∧ Below (wc.alloc (.cells #[.slice A0 l0.length c0, .slice A1 l1.length c1] 24)).heap.size (wc.alloc (.cells #[.slice A0 l0.length c0, .slice A1 l1.length c1] 24)) w') := Lib.hid fun n e W hb => by
      have := compare_clocks (.slice A2 l2.length c2) (.slice A0 l0.length c0) l2 l0 W (M2.out _ (below_after HQ.out hb (Nat.le_refl _))) (M0.out _ (below_after HQ.out hb (Nat.le_refl _))) (by have := K.out; omega) (by have := K.out; omega)
      rw [e] at this
      exact this.mono fun _ _ ⟨h1, h2⟩ => ⟨h1, below_after hb h2 (Nat.le_refl _)⟩
    have D1 : Hid (∀ n, cmp l2 l1 = n → ∀ W, Below (wc.alloc (.cells #[.slice A0 l0.length c0, .slice A1 l1.length c1] 24)).heap.size (wc.alloc (.cells #[.slice A0 l0.length c0, .slice A1 l1.length c1] 24)) W → Calls Try.prog 9 #[(.slice A2 l2.length c2), (.slice A1 l1.length c1)] W fun e w' => e = .returned (.int .u8 (n : Nat)) ∧ Below (wc.alloc (.cells #[.slice A0 l0.length c0, .slice A1 l1.length c1] 24)).heap.size (wc.alloc (.cells #[.slice A0 l0.length c0, .slice A1 l1.length c1] 24)) w') := Lib.hid fun n e W hb => by
      have := compare_clocks (.slice A2 l2.length c2) (.slice A1 l1.length c1) l2 l1 W (M2.out _ (below_after HQ.out hb (Nat.le_refl _))) (M1.out _ (below_after HQ.out hb (Nat.le_refl _))) (by have := K.out; omega) (by have := K.out; omega)
      rw [e] at this
      exact this.mono fun _ _ ⟨h1, h2⟩ => ⟨h1, below_after hb h2 (Nat.le_refl _)⟩
    have DJ : Hid (∀ n, cmp l2 (joinC l0 l1) = n → ∀ W, Below (wc.alloc (.cells #[.slice A0 l0.length c0, .slice A1 l1.length c1] 24)).heap.size (wc.alloc (.cells #[.slice A0 l0.length c0, .slice A1 l1.length c1] 24)) W → Calls Try.prog 9 #[(.slice A2 l2.length c2), j] W fun e w' => e = .returned (.int .u8 (n : Nat)) ∧ Below (wc.alloc (.cells #[.slice A0 l0.length c0, .slice A1 l1.length c1] 24)).heap.size (wc.alloc (.cells #[.slice A0 l0.length c0, .slice A1 l1.length c1] 24)) w') := Lib.hid fun n e W hb => by
      have := compare_clocks (.slice A2 l2.length c2) j l2 (joinC l0 l1) W (M2.out _ (below_after HQ.out hb (Nat.le_refl _))) (MJ.out _ (below_after HQ.out hb (Nat.le_refl _))) (by have := K.out; omega) (by have := K.out; have := U.out; omega)
      rw [e] at this
      exact this.mono fun _ _ ⟨h1, h2⟩ => ⟨h1, below_after hb h2 (Nat.le_refl _)⟩
    clear M0 M1 M2 MJ
    obtain ⟨n0, hn0⟩ : ∃ n, cmp (joinC l0 l1) l0 = n := ⟨_, rfl⟩
    obtain ⟨n1, hn1⟩ : ∃ n, cmp (joinC l0 l1) l1 = n := ⟨_, rfl⟩
    obtain ⟨m0, hm0⟩ : ∃ n, cmp l2 l0 = n := ⟨_, rfl⟩
    obtain ⟨m1, hm1⟩ : ∃ n, cmp l2 l1 = n := ⟨_, rfl⟩
    obtain ⟨mj, hmj⟩ : ∃ n, cmp l2 (joinC l0 l1) = n := ⟨_, rfl⟩
    rw [hn0] at N0
    rw [hn1] at N1
    rw [hm0] at P0
    rw [hm1] at P1
    rw [hmj] at PJ
    have C0' := Lib.hid (C0.out n0 hn0)
    have C1' := Lib.hid (C1.out n1 hn1)
    have D0' := Lib.hid (D0.out m0 hm0)
    have D1' := Lib.hid (D1.out m1 hm1)
    have DJ' := Lib.hid (DJ.out mj hmj)
    clear C0 C1 D0 D1 DJ hn0 hn1 hm0 hm1 hmj
    go_wp2_with fail
    go_loopw [42] (fun s42 wr => ∃ k : Nat, k ≤ 2 ∧ s42 = .int .i64 k ∧ Hid (Below (wc.alloc (.cells #[.slice A0 l0.length c0, .slice A1 l1.length c1] 24)).heap.size (wc.alloc (.cells #[.slice A0 l0.length c0, .slice A1 l1.length c1] 24)) wr)) (fun s42 _ => 2 - (intOf s42).toNat)
    case atStart => exact ⟨0, by omega, rfl, Lib.hid (Below.refl _ _)⟩
    case round =>
      obtain ⟨k, hk, rfl, HW⟩ := hrel
      have hk3 : k = 0 ∨ k = 1 ∨ k = 2 := by omega
      have LW := Lib.hid (show Lots wr wc.heap.size [.slice A0 l0.length c0, .slice A1 l1.length c1] from (HW.out.block _ (row_lt LL.out)).trans LL.out)
      rcases hk3 with rfl | rfl | rfl
      · have c1 := lots_cell LW.out (k := 0) (by simp)
        simp only [List.getElem_cons_zero, List.getElem_cons_succ] at c1
        rcases N0.out with e | e
        all_goals
          subst e
          go_wp2_with fail
          (with_reducible refine (C0'.out _ HW.out).mono ?_)
          rintro e w5 ⟨rfl, hb⟩
          have B5 := Lib.hid hb
          clear hb c1
          go_wp2_with fail
          go_roundw
          case rel => exact ⟨1, by omega, rfl, B5⟩
          case measure => simp [intOf]
      · have c1 := lots_cell LW.out (k := 1) (by simp)
        simp only [List.getElem_cons_zero, List.getElem_cons_succ] at c1
        rcases N1.out with e | e
        all_goals
          subst e
          go_wp2_with fail
          (with_reducible refine (C1'.out _ HW.out).mono ?_)
          rintro e w5 ⟨rfl, hb⟩
          have B5 := Lib.hid hb
          clear hb c1
          go_wp2_with fail
          go_roundw
          case rel => exact ⟨2, by omega, rfl, B5⟩
          case measure => simp [intOf]
      · go_wp2_with fail
        (with_reducible refine (D0'.out _ HW.out).mono ?_)
        rintro e w5 ⟨rfl, hb⟩
        have B5 := Lib.hid hb
        clear hb
        go_wp2_with fail
        (with_reducible refine (ab_any m0 p _ P0.out).mono ?_)
        rintro e w6 ⟨rfl, rfl⟩
        cases p
        · go_wp2_with fail
          go_ret
          exact ⟨rfl, below_after BL.out B5.out (Nat.le_refl _)⟩
        · go_wp2_with fail
          (with_reducible refine (D1'.out _ B5.out).mono ?_)
          rintro e w7 ⟨rfl, hb⟩
          have B7 := Lib.hid hb
          clear hb
          go_wp2_with fail
          (with_reducible refine (ab_any m1 q _ P1.out).mono ?_)
          rintro e w8 ⟨rfl, rfl⟩
          cases q
          · go_wp2_with fail
            go_ret
            exact ⟨rfl, below_after BL.out B7.out (Nat.le_refl _)⟩
          · go_wp2_with fail
            (with_reducible refine (DJ'.out _ B7.out).mono ?_)
            rintro e w9 ⟨rfl, hb⟩
            have B9 := Lib.hid hb
            clear hb
            go_wp2_with fail
            (with_reducible refine (ab_any mj true _ (PJ.out (by simp) (by simp))).mono ?_)
            rintro e w10 ⟨rfl, rfl⟩
            go_wp2_with fail
            go_ret
            exact ⟨rfl, below_after BL.out B9.out (Nat.le_refl _)⟩
theorem greater_any (v0 : Value) (l0 : List Tick) (v1 : Value) (l1 : List Tick) (v2 : Value) (l2 : List Tick) (a i : Int) (w : World) (h0 : Rcs encT 3 w v0 l0) (h1 : Rcs encT 3 w v1 l1) (h2 : Rcs encT 3 w v2 l2) :
    Calls Try.prog 4 #[v0, v1, v2, .agg #[.int .i64 a, .int .i64 i]] w fun e w' => e = .returned (.bool true) ∧ Below w.heap.size w w' := by
  cases hl : decide (150 < l0.length ∨ 150 < l1.length ∨ 150 < l2.length)
  · exact greater_small v0 v1 v2 l0 l1 l2 a i w h0 h1 h2 hl
  · exact greater_large v0 v1 v2 l0 l1 l2 a i w h0 h1 h2 hl
section
open Go.ChangeShapes Go.WideShapes Go.ChangeAt
open Go.ChangeMaps (open_string)
set_option maxRecDepth 100000 in
theorem greater_lifted (os : Os) (started : os.Started) (H : Type) (enc : TypeId × Value → H) :
    ReturnsInHanded {} Try.checked os 4 .any (Rows.clockGreaterSpec.pre6 enc Try.prog Try.f4 Rows.clockGreaterRow.domain false) (Rows.clockGreaterSpec.post enc Try.prog Try.f4 false true false false) := by
  refine returnsInHanded_of_change_sized (C := Try.checked) Try.own started (by kernel_rfl) Try.func4
    (ChangeSpec.witness6 (enc := enc) (C := Try.checked) false ⟨#[], #[.slice none 0 0, .slice none 0 0, .slice none 0 0, .agg #[.int .i64 0, .int .i64 0]], []⟩ 8 (by kernel_rfl) (by kernel_rfl) (by kernel_rfl) (by kernel_rfl)) ?_
  intro W base args ds gs before hval0 hW _ _ _
  have hval : ∀ (j : Nat) t v, Try.f4.params[j]? = some t → args[j]? = some v → Value.okWide Try.prog W .any base t v := hval0
  have hW' := hW
  obtain ⟨p, q, hA0, hV, rfl, _, _⟩ := hW
  have hA : DataW.TrodAll enc Try.prog W 0 (fun _ => true) true Try.f4.params.toList args.toList ds p := hA0
  rw [Try.params4] at hA hval
  obtain ⟨v0, v1, v2, v3, d0, d1, d2, d3, p0, p1, p2, p3, rfl, rfl, rfl, h0, h1, h2, h3⟩ := trodAll_four hA
  obtain ⟨rfl, rfl⟩ := trodVars_none hV
  obtain ⟨l0, I0⟩ := open_ticks (hval 0 24 v0 rfl rfl) h0
  obtain ⟨l1, I1⟩ := open_ticks (hval 1 24 v1 rfl rfl) h1
  obtain ⟨l2, I2⟩ := open_ticks (hval 2 24 v2 rfl rfl) h2
  obtain ⟨a3, b3, rfl⟩ := open_id (hval 3 28 v3 rfl rfl) h3
  refine (greater_any v0 l0 v1 l1 v2 l2 a3 b3 W I0 I1 I2).mono fun e W' ⟨he, hb⟩ => ?_
  subst he
  exact ⟨_, rfl, law_post hW' rfl (by kernel_rfl) Try.underlying4 rfl (by unfold Legible; kernel_rfl) hb⟩
/-- The statement. -/
theorem greater_holds : Rows.ClockGreaterSaid :=
  OpenClaim.holds_of_wide 4 Try.f4 rfl rfl rfl rfl rfl rfl rfl ⟨rfl, rfl, rfl, rfl, rfl⟩ rfl rfl rfl rfl rfl (by kernel_rfl) Try.func4 (by kernel_rfl)
    (of_decide_eq_true (by kernel_rfl)) (by unfold Func.isWrapper; first | (rw [if_pos (by decide +kernel)]; kernel_rfl) | (rw [if_neg (by decide +kernel)]; exact ⟨rfl, rfl⟩))
    (fun os started H enc _ => greater_lifted os started H enc)
end

end Go.Proofs.Ytpmfanglgkohjaa
