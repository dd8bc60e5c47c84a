/-
  PROVED HERE: ClockNames of package coveylaw05 returns true: the examples, the limits, each way two clocks stand, and what may not be. It has no arguments. No condition.
-/
import Derived.Test.YtpmfanglgkohjaaPush
namespace Go.Proofs.Ytpmfanglgkohjaa
open Go.RowKit Sets Clocks
/-- The clock of k ticks that the law builds. -/
def fullN (k : Nat) : List Tick := (List.range k).map fun (i : Nat) => ((3, (i : Int) + 1), 1)
theorem fullN_len (k : Nat) : (fullN k).length = k := by simp [fullN]
theorem fullN_succ (k : Nat) : fullN (k + 1) = fullN k ++ [((3, (k : Int) + 1), 1)] := by simp [fullN, List.range_succ]
theorem full_one : upR (fullN 64) (1, 1) = ([], 40) := by
  unfold upR
  rw [if_pos (by decide +kernel), if_pos (by decide +kernel)]
theorem full_two : upR (fullN 64) (3, 64) = (up (fullN 64) (3, 64), 0) := by
  unfold upR
  rw [if_pos (by decide +kernel), if_neg (by decide +kernel)]
theorem full_may : mayB (fullN 64) = true := by decide +kernel
theorem more_may : mayB (fullN 64 ++ [((4, 1), 1)]) = false := mayB_long (by simp [fullN_len])
/-- A clock that may not be. -/
def Bad (wl : World) (v : Value) : Prop := ∃ A n c l, v = .slice A n c ∧ (∀ W, Below wl.heap.size wl W → Rcs encT 3 W (.slice A n c) l) ∧ upR l (1, 1) = ([], 4) ∧ mayB l = false ∧ l.length ≤ 10
set_option maxHeartbeats 16000000 in
set_option maxRecDepth 100000 in
theorem names_any (w : World) : Calls Try.prog 3 #[] w fun e w' => e = .returned (.bool true) ∧ Below w.heap.size w w' := by
  have E0 := Lib.hid (show cmp [] [((1, 1), 1)] = 2 by decide +kernel)
  have E1 := Lib.hid (show cmp [((1, 1), 2)] [((1, 1), 1)] = 3 by decide +kernel)
  have E2 := Lib.hid (show cmp [((1, 1), 1)] [((1, 2), 1)] = 4 by decide +kernel)
  have E3 := Lib.hid (show cmp [((2, 1), 1), ((1, 1), 3)] [((1, 1), 3), ((2, 1), 1)] = 1 by decide +kernel)
  have E4 := Lib.hid (show says [((1, 1), 2), ((1, 1), 5), ((1, 1), -3)] (1, 1) = 5 by decide +kernel)
  have E5 := Lib.hid (show says [] (0, 0) = 0 by decide +kernel)
  have ET := Lib.hid (show upR [((1, 1), 1099511627776)] (1, 1) = ([], 40) by decide +kernel)
  have EM := Lib.hid (show mayB [((1, 1), 1099511627776)] = true by decide +kernel)
  have EN := Lib.hid (show upR [] (0, 0) = ([], 4) by decide +kernel)
  have E0' := Lib.hid (show mayB [] = true by decide +kernel)
  go_enter Try.func3, Try.ntmps3
  have B0 := Lib.hid (show Below w.heap.size w w from Below.refl _ _)
  go_wp2_with fail
  refine (works_any _).mono ?_
  rintro e w1 ⟨rfl, hb⟩
  have B1 := Lib.hid (below_after B0.out hb (Nat.le_refl _))
  clear hb
  go_wp2_with fail
  refine (of_lit [((1, 1), 1)] 3 rfl (by decide) w1).mono ?_
  rintro e w2 ⟨b0, rfl, hi, hb⟩
  have B2 := Lib.hid (below_after B1.out hb (Nat.le_refl _))
  have Ib02 := Lib.hid hi
  clear hi
  clear hb
  go_wp2_with fail
  refine (compare_clocks (.slice none 0 0) b0 [] [((1, 1), 1)] _ (Rcs.nil _) Ib02.out (by decide) (by decide)).mono ?_
  rw [E0.out]
  rintro e w3 ⟨rfl, hb⟩
  have B3 := Lib.hid (below_after B2.out hb (Nat.le_refl _))
  clear hb
  go_wp2_with fail
  refine (of_lit [((1, 1), 2)] 3 rfl (by decide) w3).mono ?_
  rintro e w4 ⟨a1, rfl, hi, hb⟩
  have B4 := Lib.hid (below_after B3.out hb (Nat.le_refl _))
  have Ia14 := Lib.hid hi
  clear hi
  clear hb
  go_wp2_with fail
  refine (of_lit [((1, 1), 1)] 3 rfl (by decide) w4).mono ?_
  rintro e w5 ⟨b1, rfl, hi, hb⟩
  have B5 := Lib.hid (below_after B4.out hb (Nat.le_refl _))
  have Ia15 := Lib.hid (Ia14.out.below hb)
  have Ib15 := Lib.hid hi
  clear hi
  clear hb
  go_wp2_with fail
  refine (compare_clocks a1 b1 [((1, 1), 2)] [((1, 1), 1)] _ Ia15.out Ib15.out (by decide) (by decide)).mono ?_
  rw [E1.out]
  rintro e w6 ⟨rfl, hb⟩
  have B6 := Lib.hid (below_after B5.out hb (Nat.le_refl _))
  clear hb
  go_wp2_with fail
  refine (of_lit [((1, 1), 1)] 3 rfl (by decide) w6).mono ?_
  rintro e w7 ⟨a2, rfl, hi, hb⟩
  have B7 := Lib.hid (below_after B6.out hb (Nat.le_refl _))
  have Ia27 := Lib.hid hi
  clear hi
  clear hb
  go_wp2_with fail
  refine (of_lit [((1, 2), 1)] 3 rfl (by decide) w7).mono ?_
  rintro e w8 ⟨b2, rfl, hi, hb⟩
  have B8 := Lib.hid (below_after B7.out hb (Nat.le_refl _))
  have Ia28 := Lib.hid (Ia27.out.below hb)
  have Ib28 := Lib.hid hi
  clear hi
  clear hb
  go_wp2_with fail
  refine (compare_clocks a2 b2 [((1, 1), 1)] [((1, 2), 1)] _ Ia28.out Ib28.out (by decide) (by decide)).mono ?_
  rw [E2.out]
  rintro e w9 ⟨rfl, hb⟩
  have B9 := Lib.hid (below_after B8.out hb (Nat.le_refl _))
  clear hb
  go_wp2_with fail
  refine (of_lit [((2, 1), 1), ((1, 1), 3)] 6 rfl (by decide) w9).mono ?_
  rintro e w10 ⟨a3, rfl, hi, hb⟩
  have B10 := Lib.hid (below_after B9.out hb (Nat.le_refl _))
  have Ia310 := Lib.hid hi
  clear hi
  clear hb
  go_wp2_with fail
  refine (of_lit [((1, 1), 3), ((2, 1), 1)] 6 rfl (by decide) w10).mono ?_
  rintro e w11 ⟨b3, rfl, hi, hb⟩
  have B11 := Lib.hid (below_after B10.out hb (Nat.le_refl _))
  have Ia311 := Lib.hid (Ia310.out.below hb)
  have Ib311 := Lib.hid hi
  clear hi
  clear hb
  go_wp2_with fail
  refine (compare_clocks a3 b3 [((2, 1), 1), ((1, 1), 3)] [((1, 1), 3), ((2, 1), 1)] _ Ia311.out Ib311.out (by decide) (by decide)).mono ?_
  rw [E3.out]
  rintro e w12 ⟨rfl, hb⟩
  have B12 := Lib.hid (below_after B11.out hb (Nat.le_refl _))
  clear hb
  go_wp2_with fail
  refine (of_lit [((1, 1), 2), ((1, 1), 5), ((1, 1), -3)] 9 rfl (by decide) w12).mono ?_
  rintro e w13 ⟨g, rfl, hi, hb⟩
  have B13 := Lib.hid (below_after B12.out hb (Nat.le_refl _))
  have Ig13 := Lib.hid hi
  clear hi
  clear hb
  go_wp2_with fail
  refine (get_any g [((1, 1), 2), ((1, 1), 5), ((1, 1), -3)] 1 1 _ Ig13.out (by decide)).mono ?_
  rw [E4.out]
  rintro e w14 ⟨rfl, hb⟩
  have B14 := Lib.hid (below_after B13.out hb (Nat.le_refl _))
  clear hb
  go_wp2_with fail
  refine (get_any (.slice none 0 0) [] 0 0 _ (Rcs.nil _) (by decide)).mono ?_
  rw [E5.out]
  rintro e w15 ⟨rfl, hb⟩
  have B15 := Lib.hid (below_after B14.out hb (Nat.le_refl _))
  clear hb
  go_wp2_with fail
  refine (of_lit [((1, 1), 0)] 3 rfl (by decide) w15).mono ?_
  rintro e w16 ⟨z0, rfl, hi, hb⟩
  have B16 := Lib.hid (below_after B15.out hb (Nat.le_refl _))
  have Iz016 := Lib.hid hi
  clear hi
  clear hb
  go_wp2_with fail
  refine (of_lit [((1, 1), 1099511627777)] 3 rfl (by decide) w16).mono ?_
  rintro e w17 ⟨z1, rfl, hi, hb⟩
  have B17 := Lib.hid (below_after B16.out hb (Nat.le_refl _))
  have Iz017 := Lib.hid (Iz016.out.below hb)
  have Iz117 := Lib.hid hi
  clear hi
  clear hb
  go_wp2_with fail
  refine (of_lit [((2, 1), 1), ((1, 1), 1)] 6 rfl (by decide) w17).mono ?_
  rintro e w18 ⟨z2, rfl, hi, hb⟩
  have B18 := Lib.hid (below_after B17.out hb (Nat.le_refl _))
  have Iz018 := Lib.hid (Iz017.out.below hb)
  have Iz118 := Lib.hid (Iz117.out.below hb)
  have Iz218 := Lib.hid hi
  clear hi
  clear hb
  go_wp2_with fail
  refine (of_lit [((1, 1), 1), ((1, 1), 2)] 6 rfl (by decide) w18).mono ?_
  rintro e w19 ⟨z3, rfl, hi, hb⟩
  have B19 := Lib.hid (below_after B18.out hb (Nat.le_refl _))
  have Iz019 := Lib.hid (Iz018.out.below hb)
  have Iz119 := Lib.hid (Iz118.out.below hb)
  have Iz219 := Lib.hid (Iz218.out.below hb)
  have Iz319 := Lib.hid hi
  clear hi
  clear hb
  go_wp2_with fail
  refine (of_lit [((13, 1), 1)] 3 rfl (by decide) w19).mono ?_
  rintro e w20 ⟨z4, rfl, hi, hb⟩
  have B20 := Lib.hid (below_after B19.out hb (Nat.le_refl _))
  have Iz020 := Lib.hid (Iz019.out.below hb)
  have Iz120 := Lib.hid (Iz119.out.below hb)
  have Iz220 := Lib.hid (Iz219.out.below hb)
  have Iz320 := Lib.hid (Iz319.out.below hb)
  have Iz420 := Lib.hid hi
  clear hi
  clear hb
  go_wp2_with fail
  refine (of_lit [((1, 0), 1)] 3 rfl (by decide) w20).mono ?_
  rintro e w21 ⟨z5, rfl, hi, hb⟩
  have B21 := Lib.hid (below_after B20.out hb (Nat.le_refl _))
  have Iz021 := Lib.hid (Iz020.out.below hb)
  have Iz121 := Lib.hid (Iz120.out.below hb)
  have Iz221 := Lib.hid (Iz220.out.below hb)
  have Iz321 := Lib.hid (Iz320.out.below hb)
  have Iz421 := Lib.hid (Iz420.out.below hb)
  have Iz521 := Lib.hid hi
  clear hi
  clear hb
  obtain ⟨⟨D0, k0, d0, rfl⟩, _⟩ := rcs_shape Iz021.out
  obtain ⟨⟨D1, k1, d1, rfl⟩, _⟩ := rcs_shape Iz121.out
  obtain ⟨⟨D2, k2, d2, rfl⟩, _⟩ := rcs_shape Iz221.out
  obtain ⟨⟨D3, k3, d3, rfl⟩, _⟩ := rcs_shape Iz321.out
  obtain ⟨⟨D4, k4, d4, rfl⟩, _⟩ := rcs_shape Iz421.out
  obtain ⟨⟨D5, k5, d5, rfl⟩, _⟩ := rcs_shape Iz521.out
  have BL := Lib.hid (B21.out.alloc B21.out.size (.cells #[.slice D0 k0 d0, .slice D1 k1 d1, .slice D2 k2 d2, .slice D3 k3 d3, .slice D4 k4 d4, .slice D5 k5 d5] 24))
  have HQ := Lib.hid (show Below w21.heap.size w21 (w21.alloc (.cells #[.slice D0 k0 d0, .slice D1 k1 d1, .slice D2 k2 d2, .slice D3 k3 d3, .slice D4 k4 d4, .slice D5 k5 d5] 24)) from (Below.refl _ _).alloc (Nat.le_refl _) _)
  have LL := Lib.hid (show Lots (w21.alloc (.cells #[.slice D0 k0 d0, .slice D1 k1 d1, .slice D2 k2 d2, .slice D3 k3 d3, .slice D4 k4 d4, .slice D5 k5 d5] 24)) w21.heap.size [.slice D0 k0 d0, .slice D1 k1 d1, .slice D2 k2 d2, .slice D3 k3 d3, .slice D4 k4 d4, .slice D5 k5 d5] from heap_alloc_new w21 _)
  have Z0 : Hid (Bad (w21.alloc (.cells #[.slice D0 k0 d0, .slice D1 k1 d1, .slice D2 k2 d2, .slice D3 k3 d3, .slice D4 k4 d4, .slice D5 k5 d5] 24)) (.slice D0 k0 d0)) := Lib.hid ⟨_, _, _, [((1, 1), 0)], rfl, fun W hb => (Iz021.out.below HQ.out).below hb, by decide +kernel, by decide +kernel, by decide⟩
  have Z1 : Hid (Bad (w21.alloc (.cells #[.slice D0 k0 d0, .slice D1 k1 d1, .slice D2 k2 d2, .slice D3 k3 d3, .slice D4 k4 d4, .slice D5 k5 d5] 24)) (.slice D1 k1 d1)) := Lib.hid ⟨_, _, _, [((1, 1), 1099511627777)], rfl, fun W hb => (Iz121.out.below HQ.out).below hb, by decide +kernel, by decide +kernel, by decide⟩
  have Z2 : Hid (Bad (w21.alloc (.cells #[.slice D0 k0 d0, .slice D1 k1 d1, .slice D2 k2 d2, .slice D3 k3 d3, .slice D4 k4 d4, .slice D5 k5 d5] 24)) (.slice D2 k2 d2)) := Lib.hid ⟨_, _, _, [((2, 1), 1), ((1, 1), 1)], rfl, fun W hb => (Iz221.out.below HQ.out).below hb, by decide +kernel, by decide +kernel, by decide⟩
  have Z3 : Hid (Bad (w21.alloc (.cells #[.slice D0 k0 d0, .slice D1 k1 d1, .slice D2 k2 d2, .slice D3 k3 d3, .slice D4 k4 d4, .slice D5 k5 d5] 24)) (.slice D3 k3 d3)) := Lib.hid ⟨_, _, _, [((1, 1), 1), ((1, 1), 2)], rfl, fun W hb => (Iz321.out.below HQ.out).below hb, by decide +kernel, by decide +kernel, by decide⟩
  have Z4 : Hid (Bad (w21.alloc (.cells #[.slice D0 k0 d0, .slice D1 k1 d1, .slice D2 k2 d2, .slice D3 k3 d3, .slice D4 k4 d4, .slice D5 k5 d5] 24)) (.slice D4 k4 d4)) := Lib.hid ⟨_, _, _, [((13, 1), 1)], rfl, fun W hb => (Iz421.out.below HQ.out).below hb, by decide +kernel, by decide +kernel, by decide⟩
  have Z5 : Hid (Bad (w21.alloc (.cells #[.slice D0 k0 d0, .slice D1 k1 d1, .slice D2 k2 d2, .slice D3 k3 d3, .slice D4 k4 d4, .slice D5 k5 d5] 24)) (.slice D5 k5 d5)) := Lib.hid ⟨_, _, _, [((1, 0), 1)], rfl, fun W hb => (Iz521.out.below HQ.out).below hb, by decide +kernel, by decide +kernel, by decide⟩
  have HZ : Hid (∀ k (hk : k < 6), ∃ v, ([.slice D0 k0 d0, .slice D1 k1 d1, .slice D2 k2 d2, .slice D3 k3 d3, .slice D4 k4 d4, .slice D5 k5 d5] : List Value)[k]? = some v ∧ Bad (w21.alloc (.cells #[.slice D0 k0 d0, .slice D1 k1 d1, .slice D2 k2 d2, .slice D3 k3 d3, .slice D4 k4 d4, .slice D5 k5 d5] 24)) v) := Lib.hid fun k hk => by
    match k, hk with
    | 0, _ => exact ⟨_, rfl, Z0.out⟩
    | 1, _ => exact ⟨_, rfl, Z1.out⟩
    | 2, _ => exact ⟨_, rfl, Z2.out⟩
    | 3, _ => exact ⟨_, rfl, Z3.out⟩
    | 4, _ => exact ⟨_, rfl, Z4.out⟩
    | 5, _ => exact ⟨_, rfl, Z5.out⟩
  clear Z0 Z1 Z2 Z3 Z4 Z5 Iz021 Iz121 Iz221 Iz321 Iz421 Iz521
  go_wp2_with fail
  go_loopw [84] (fun s84 wr => ∃ k : Nat, k ≤ 6 ∧ s84 = .int .i64 k ∧ Hid (Below (w21.alloc (.cells #[.slice D0 k0 d0, .slice D1 k1 d1, .slice D2 k2 d2, .slice D3 k3 d3, .slice D4 k4 d4, .slice D5 k5 d5] 24)).heap.size (w21.alloc (.cells #[.slice D0 k0 d0, .slice D1 k1 d1, .slice D2 k2 d2, .slice D3 k3 d3, .slice D4 k4 d4, .slice D5 k5 d5] 24)) wr)) (fun s84 _ => 6 - (intOf s84).toNat)
  case atStart => exact ⟨0, by omega, rfl, Lib.hid (Below.refl _ _)⟩
  case round =>
    obtain ⟨k, hk, rfl, HW⟩ := hrel
    have i3 : (0 : Int) ≤ (k : Int) := by omega
    by_cases hlt : k < 6
    · have hd : decide ((k : Int) < 6) = true := decide_eq_true (by omega)
      have i4 : (k : Int) < 6 := by omega
      obtain ⟨v, hv, A, n, c, l, rfl, hR, h4, hm, h10⟩ := HZ.out k hlt
      have c1 : wr.cell? ⟨w21.heap.size, k, none⟩ = some (.slice A n c) := by
        have hL : Lots wr w21.heap.size [.slice D0 k0 d0, .slice D1 k1 d1, .slice D2 k2 d2, .slice D3 k3 d3, .slice D4 k4 d4, .slice D5 k5 d5] := (HW.out.block _ (row_lt LL.out)).trans LL.out
        unfold Lots at hL
        rw [cell_of_row _ _ k _ _ _ hL, ← hv]
        simp
      have HR := Lib.hid hR
      have H4 := Lib.hid h4
      have HM := Lib.hid hm
      clear hR h4 hm hv
      go_wp2_with fail
      (with_reducible refine (up_lit _ l 1 1 _ _ _ (HR.out _ HW.out) (by omega) H4.out).mono ?_)
      rintro e w5 ⟨v5, rfl, hi, hb⟩
      have B5 := Lib.hid (below_after HW.out hb (Nat.le_refl _))
      clear hi hb c1
      go_wp2_with fail
      (with_reducible refine (mayClock_any _ l _ (HR.out _ B5.out) (by omega)).mono ?_)
      rw [HM.out]
      rintro e w6 ⟨rfl, hb⟩
      have B6 := Lib.hid (below_after B5.out hb (Nat.le_refl _))
      clear hb
      go_wp2_with fail
      go_roundw
      case rel => exact ⟨k + 1, by omega, by go_num, B6⟩
      case measure => simp [intOf]; omega
    · obtain rfl : k = 6 := by omega
      have BF := Lib.hid (below_after BL.out HW.out (Nat.le_refl _))
      clear HZ LL HQ BL HW
      go_wp2_with fail
      go_loopw [5, 6] (fun s5 s6 wx => ∃ m : Nat, m ≤ 64 ∧ s6 = .int .i64 ((m : Int) + 1) ∧ Hid (OwnsR encT 3 35 wx w.heap.size s5 (fullN m)) ∧ Hid (Below w.heap.size w wx)) (fun _ s6 _ => 65 - (intOf s6).toNat)
      case atStart => exact ⟨0, by omega, by go_num, Lib.hid (OwnsR.nil _ _ _), BF⟩
      case round =>
        obtain ⟨m, hm, rfl, HO, HB⟩ := hrel
        clear BF
        by_cases hlt2 : m < 64
        · have hd2 : decide ((m : Int) + 1 ≤ 64) = true := decide_eq_true (by omega)
          have HF := Lib.hid (fullN_succ m)
          have hl2 : (fullN m).length ≤ 99999 := by rw [fullN_len]; omega
          go_wp2_with (at_builtin; refine wpList_push3 rfl (.tmp 105) (.tmp 109) rfl wr w.heap.size u5 (fullN m) 3 ((m : Int) + 1) 1 wr.heap.size rfl rfl rfl HO.out hl2 HB.out.size ?_; intro g cap w5 k1 k2 k3; have O5 := Lib.hid k1; have B5 := Lib.hid (HB.out.grown k2 HB.out.size (fun k hk => (World.ownsRow.lt HO.out k hk).1)); clear k1 k2 k3)
          go_roundw
          case rel =>
            refine ⟨_, _, _, _, _, _, _, _, _, _, _, _, ⟨m + 1, by omega, ?_, ?_, B5⟩, rfl⟩
            · go_num
            · exact Lib.hid (by have := O5.out; rw [← HF.out] at this; exact this)
          case measure => simp [intOf]; omega
        · obtain rfl : m = 64 := by omega
          have hlen : (fullN 64).length = 64 := fullN_len 64
          obtain ⟨g, cap, rfl⟩ : ∃ g cap, u5 = .slice (some ⟨g, 0, none⟩) 64 cap := by
            rcases ownsR_split HO.out with ⟨_, h0⟩ | ⟨g, cap, h, _⟩
            · rw [hlen] at h0; cases h0
            · rw [hlen] at h; exact ⟨g, cap, h⟩
          have B0 := Lib.hid (show Below w.heap.size w wr from HB.out)
          have O0 := Lib.hid HO.out
          go_wp2_with fail
          refine (up_lit _ (fullN 64) 1 1 _ _ _ (rcs_owns encT_len O0.out) (by rw [hlen]; omega) full_one).mono ?_
          rintro e w1 ⟨x, rfl, hi, hb⟩
          have B1 := Lib.hid (below_after B0.out hb (Nat.le_refl _))
          have IFO1 := Lib.hid (O0.out.below hb)
          have Ix1 := Lib.hid hi
          clear hi
          clear hb
          go_wp2_with fail
          refine (up_lit _ (fullN 64) 3 64 _ _ _ (rcs_owns encT_len IFO1.out) (by rw [hlen]; omega) full_two).mono ?_
          rintro e w2 ⟨y, rfl, hi, hb⟩
          have B2 := Lib.hid (below_after B1.out hb (Nat.le_refl _))
          have IFO2 := Lib.hid (IFO1.out.below hb)
          have Iy2 := Lib.hid hi
          clear hi
          clear hb
          go_wp2_with fail
          refine (of_lit [((1, 1), 1099511627776)] 3 rfl (by decide) w2).mono ?_
          rintro e w3 ⟨t, rfl, hi, hb⟩
          have B3 := Lib.hid (below_after B2.out hb (Nat.le_refl _))
          have IFO3 := Lib.hid (IFO2.out.below hb)
          have It3 := Lib.hid hi
          clear hi
          clear hb
          go_wp2_with fail
          refine (up_lit t [((1, 1), 1099511627776)] 1 1 _ _ _ It3.out (by decide) ET.out).mono ?_
          rintro e w4 ⟨z, rfl, hi, hb⟩
          have B4 := Lib.hid (below_after B3.out hb (Nat.le_refl _))
          have IFO4 := Lib.hid (IFO3.out.below hb)
          have Iz4 := Lib.hid hi
          clear hi
          clear hb
          go_wp2_with fail
          refine (up_lit (.slice none 0 0) [] 0 0 _ _ _ (Rcs.nil _) (by decide) EN.out).mono ?_
          rintro e w5 ⟨z2, rfl, hi, hb⟩
          have B5 := Lib.hid (below_after B4.out hb (Nat.le_refl _))
          have IFO5 := Lib.hid (IFO4.out.below hb)
          have Iz25 := Lib.hid hi
          clear hi
          clear hb
          go_wp2_with (at_builtin; refine wpList_push_kept rfl (.tmp 135) (.tmp 138) rfl w5 w.heap.size g cap 64 (fullN 64) 4 1 1 hlen rfl rfl IFO5.out (by rw [hlen]; omega) B5.out.size ?_; intro g2 cap2 w20 k1 k2 k3; have R20 := Lib.hid k1; have Q20 := Lib.hid k2; have B20 := Lib.hid (B5.out.trans k3); clear k1 k2 k3)
          go_wp2_with fail
          refine (mayClock_any (.slice none 0 0) [] _ (Rcs.nil _) (by decide)).mono ?_
          rw [E0'.out]
          rintro e w21 ⟨rfl, hb⟩
          have B21 := Lib.hid (below_after B20.out hb (Nat.le_refl _))
          have IMO21 := Lib.hid (R20.out.below hb)
          have IFU21 := Lib.hid (Q20.out.below hb)
          clear hb
          go_wp2_with fail
          refine (mayClock_any _ (fullN 64) _ IFU21.out (by rw [hlen]; omega)).mono ?_
          rw [full_may]
          rintro e w22 ⟨rfl, hb⟩
          have B22 := Lib.hid (below_after B21.out hb (Nat.le_refl _))
          have IMO22 := Lib.hid (IMO21.out.below hb)
          have IFU22 := Lib.hid (IFU21.out.below hb)
          clear hb
          go_wp2_with fail
          refine (mayClock_any _ (fullN 64 ++ [((4, 1), 1)]) _ IMO22.out (by simp [fullN_len])).mono ?_
          rw [more_may]
          rintro e w23 ⟨rfl, hb⟩
          have B23 := Lib.hid (below_after B22.out hb (Nat.le_refl _))
          clear hb
          go_wp2_with fail
          refine (of_lit [((1, 1), 1099511627776)] 3 rfl (by decide) w23).mono ?_
          rintro e w24 ⟨t2, rfl, hi, hb⟩
          have B24 := Lib.hid (below_after B23.out hb (Nat.le_refl _))
          have It224 := Lib.hid hi
          clear hi
          clear hb
          go_wp2_with fail
          refine (mayClock_any t2 [((1, 1), 1099511627776)] _ It224.out (by decide)).mono ?_
          rw [EM.out]
          rintro e w25 ⟨rfl, hb⟩
          have B25 := Lib.hid (below_after B24.out hb (Nat.le_refl _))
          clear hb
          go_wp2_with fail
          go_ret
          exact ⟨rfl, B25.out⟩
section
open Go.ChangeShapes Go.WideShapes Go.ChangeAt
open Go.ChangeMaps (open_string)
set_option maxRecDepth 100000 in
theorem names_lifted (os : Os) (started : os.Started) (H : Type) (enc : TypeId × Value → H) :
    ReturnsInHanded {} Try.checked os 3 .any (Rows.clockNamesSpec.pre6 enc Try.prog Try.f3 Rows.clockNamesRow.domain false) (Rows.clockNamesSpec.post enc Try.prog Try.f3 false true false false) := by
  refine returnsInHanded_of_change_sized (C := Try.checked) Try.own started (by kernel_rfl) Try.func3
    (ChangeSpec.witness6 (enc := enc) (C := Try.checked) false ⟨#[], #[], []⟩ 8 (by kernel_rfl) (by kernel_rfl) (by kernel_rfl) (by kernel_rfl)) ?_
  intro W base args ds gs before hval0 hW _ _ _
  have hW' := hW
  obtain ⟨p, q, hA0, hV, rfl, _, _⟩ := hW
  have hA : DataW.TrodAll enc Try.prog W 0 (fun _ => true) true Try.f3.params.toList args.toList ds p := hA0
  rw [Try.params3] at hA
  obtain ⟨rfl, rfl, rfl⟩ := trodAll_none hA
  obtain ⟨rfl, rfl⟩ := trodVars_none hV
  refine (names_any W).mono fun e W' ⟨he, hb⟩ => ?_
  subst he
  exact ⟨_, rfl, law_post hW' rfl (by kernel_rfl) Try.underlying4 rfl (by unfold Legible; kernel_rfl) hb⟩
/-- The statement. -/
theorem names_holds : Rows.ClockNamesSaid :=
  OpenClaim.holds_of_wide 3 Try.f3 rfl rfl rfl rfl rfl rfl rfl ⟨rfl, rfl, rfl, rfl, rfl⟩ rfl rfl rfl rfl rfl (by kernel_rfl) Try.func3 (by kernel_rfl)
    (of_decide_eq_true (by kernel_rfl)) (by unfold Func.isWrapper; first | (rw [if_pos (by decide +kernel)]; kernel_rfl) | (rw [if_neg (by decide +kernel)]; exact ⟨rfl, rfl⟩))
    (fun os started H enc _ => names_lifted os started H enc)
end

end Go.Proofs.Ytpmfanglgkohjaa
