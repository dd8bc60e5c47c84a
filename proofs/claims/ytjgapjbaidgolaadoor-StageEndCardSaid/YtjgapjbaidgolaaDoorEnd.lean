/-
  PROVED HERE: for any two numbers of one byte StageEnd of package coveylaw04 returns true and leaves its arguments as they were: from each status but Removed a way leads to Removed, and from Removed to nothing else; no way has more edges than statuses are left; there is a way just if Next alone leads there. Condition: the two tables of package stage hold what the program's text lays in them; that is tied to the text.
-/
import Derived.Test.YtjgapjbaidgolaaDoorUp
namespace Go.Proofs.YtjgapjbaidgolaaDoor
open Go.RowKit
theorem ends_some {f : Nat} (h : mayB f = true) : 0 < (ways f 7).length := by
  have h1 := of_decide_eq_true h
  have := two_all (p := fun a _ => decide (mayB a = true → 0 < (ways a 7).length)) (by kernel_rfl) (show f < 8 by omega) (show 0 < 8 by omega)
  exact of_decide_eq_true this h
theorem ends_only {t : Nat} (h : t ≠ 7) : (ways 7 t).length = 0 := by
  have := ways_all (p := fun a b L => decide (a = 7 → b ≠ 7 → L.length = 0)) (by kernel_rfl) (fun a => by simp) (fun _ _ _ _ => by simp) 7 t
  exact of_decide_eq_true this rfl h
theorem ends_self : (ways 7 7).length = 1 := by rw [ways_eq]; rfl
theorem ways_left (f t : Nat) {l : List Nat} (hl : l ∈ ways f t) : (l.length : Int) ≤ (t : Int) - (f : Int) := by
  have := ways_all (p := fun a t L => L.all fun l => decide ((l.length : Int) ≤ (t : Int) - (a : Int))) (by kernel_rfl) (fun a => by simp) (fun _ _ _ _ => rfl) f t
  exact of_decide_eq_true (List.all_eq_true.1 this l hl)
theorem rchF_far (t : Nat) (ht : 8 ≤ t) : ∀ f a, rchF f a t = false := by
  intro f
  induction f with
  | zero => intro a; rfl
  | succ f ih =>
    intro a
    rw [rchF, List.any_eq_false]
    intro b hb
    have := (nxt_up hb).2.1
    rw [ih b]
    simp
    omega
theorem ways_some (f t : Nat) : decide (0 < (ways f t).length) = (decide (f = t) || (decide (f < t) && rch f t)) := by
  have := ways_all (p := fun a t L => decide (0 < L.length) == (decide (a = t) || (decide (a < t) && rch a t))) (by kernel_rfl) (fun a => by simp) (fun a t hn h => by
    rcases h with h | h
    · have h2 : rch a t = false := by rw [rch_eq, nxt_out h]; rfl
      rw [h2]
      simp [hn]
    · have h2 : rch a t = false := rchF_far t h 9 a
      rw [h2]
      simp [hn]) f t
  simpa using this
set_option maxHeartbeats 8000000 in
set_option maxRecDepth 100000 in
theorem end_may_seven (f t : Nat) (w : World) (hf : f < 256) (ht : t < 256) (hT : Tabs w) (hm : mayB f = true) (hp : t = 7) : Calls Tryd.prog 5 #[.int .u8 f, .int .u8 t] w fun e w' => e = .returned (.bool true) ∧ Below w.heap.size w w' := by
  have HT := Lib.hid fun w' (hb : Below w.heap.size w w') => tabs_below hT hb
  have z1 : (((ways f 7).length : Int) == 0) = false := by have := ends_some hm; exact beq_eq_false_iff_ne.2 (by omega)
  have z2 : decide (0 < (ways 7 t).length) = true := by rw [hp, ends_self]; rfl
  have z3 : ((t : Int) != 7) = false := by simp; omega
  have H0 := Lib.hid (ways_few f t)
  have HL := Lib.hid fun l => ways_left f t (l := l)
  have HS := Lib.hid fun l => ways_short f t (l := l)
  have HB := Lib.hid (ways_some f t)
  clear hT hp
  go_enter Tryd.func5, Tryd.ntmps5
  go_wp2_with (go_at_call 12; refine (awake_any _ (HT.out _ (Below.refl _ _))).mono ?_; rintro e w1 ⟨rfl, h1⟩; have B1 := Lib.hid h1; clear h1)
  refine (may_any f _ hf).mono ?_
  rintro e w' ⟨rfl, rfl⟩
  rw [hm]
  clear hm
  go_wp2_with fail
  refine (ways_any f 7 _ hf (HT.out _ B1.out)).mono ?_
  rintro e w2 ⟨A2, c2, vs2, rfl, _, _, _, h3⟩
  have B2 := Lib.hid (B1.out.trans (h3.mono B1.out.size))
  clear h3
  go_wp2_with fail
  refine (ways_any 7 t _ (by omega) (HT.out _ B2.out)).mono ?_
  rintro e w3 ⟨A3, c3, vs3, rfl, _, _, _, h3⟩
  have B3 := Lib.hid (B2.out.trans (h3.mono B2.out.size))
  clear h3
  go_wp2_with fail
  refine (ways_any f t _ hf (HT.out _ B3.out)).mono ?_
  rintro e w4 ⟨A, c, vs, rfl, hl, h1, h2, h3⟩
  have B4 := Lib.hid (B3.out.trans (h3.mono B3.out.size))
  have V4 := Lib.hid (And.intro hl (And.intro (show Holds w4 0 (.slice A (ways f t).length c) vs from row_mono h1 (Nat.zero_le _)) (show Each w4 0 (fun _ => False) vs (ways f t) from h2.turn fun _ _ ho hn => ⟨ho.mono (Nat.zero_le _), hn⟩)))
  clear hl h1 h2 h3
  have i0 := H0.out
  clear z1 z2 z3
  generalize ways f t = L at *
  go_wp2_with fail
  go_loop [6] (fun s6 => ∃ i : Nat, i ≤ L.length ∧ s6 = .int .i64 i) (fun s6 => L.length - (intOf s6).toNat)
  case atStart => exact ⟨0, Nat.zero_le _, rfl⟩
  case round =>
    obtain ⟨i, hi, rfl⟩ := hrel
    have i3 : (0 : Int) ≤ (i : Int) := by omega
    by_cases hlt : i < L.length
    · have hlt2 : decide ((i : Int) < (L.length : Int)) = true := by simp; omega
      have i4 : (i : Int) < (L.length : Int) := by omega
      obtain ⟨g, rfl⟩ := holds_addr V4.out.2.1 (by rw [V4.out.1]; omega)
      obtain ⟨D, d, hc, _⟩ := ls_at V4.out.1 V4.out.2.1 V4.out.2.2 hlt
      have hle := HL.out _ (List.getElem_mem hlt)
      have i5 := (HS.out _ (List.getElem_mem hlt)).1
      generalize L[i] = l at *
      have dl : decide ((t : Int) - (f : Int) < (l.length : Int)) = false := by simp; omega
      clear hi hle
      go_wp2_with fail
      go_round
      case rel => exact ⟨i + 1, by omega, by go_num⟩
      case measure => simp [intOf]; omega
    · have hlt2 : decide ((i : Int) < (L.length : Int)) = false := by simp; omega
      clear hi
      by_cases e1 : f = t
      · have g1 : decide (0 < L.length) = true := by rw [HB.out]; simp [e1]
        have d1 : ((f : Int) == (t : Int)) = true := by simp [e1]
        clear e1
        go_wp2_with fail
        go_ret
        exact ⟨rfl, B4.out⟩
      · have d1 : ((f : Int) == (t : Int)) = false := by simp; omega
        by_cases e2 : f < t
        · have d2 : decide ((f : Int) < (t : Int)) = true := by simp; omega
          rcases hr : rch f t with _ | _
          · have g1 : decide (0 < L.length) = false := by rw [HB.out, hr]; simp [e1]
            have HR := Lib.hid (reaches_any t 256 f (by omega) hf)
            rw [hr] at HR
            clear e1 hr
            go_wp2_with (go_at_call 15; refine (HR.out _ (HT.out _ B4.out)).mono ?_; rintro e w5 ⟨rfl, h5⟩; have B5 := Lib.hid (B4.out.trans (h5.mono B4.out.size)); clear h5)
            go_ret
            exact ⟨rfl, B5.out⟩
          · have g1 : decide (0 < L.length) = true := by rw [HB.out, hr]; simp [e2]
            have HR := Lib.hid (reaches_any t 256 f (by omega) hf)
            rw [hr] at HR
            clear e1 hr
            go_wp2_with (go_at_call 15; refine (HR.out _ (HT.out _ B4.out)).mono ?_; rintro e w5 ⟨rfl, h5⟩; have B5 := Lib.hid (B4.out.trans (h5.mono B4.out.size)); clear h5)
            go_ret
            exact ⟨rfl, B5.out⟩
        · have d2 : decide ((f : Int) < (t : Int)) = false := by simp; omega
          have g1 : decide (0 < L.length) = false := by rw [HB.out]; simp [e1, e2]
          clear e1
          go_wp2_with fail
          go_ret
          exact ⟨rfl, B4.out⟩
set_option maxHeartbeats 8000000 in
set_option maxRecDepth 100000 in
theorem end_may_other (f t : Nat) (w : World) (hf : f < 256) (ht : t < 256) (hT : Tabs w) (hm : mayB f = true) (hp : t ≠ 7) : Calls Tryd.prog 5 #[.int .u8 f, .int .u8 t] w fun e w' => e = .returned (.bool true) ∧ Below w.heap.size w w' := by
  have HT := Lib.hid fun w' (hb : Below w.heap.size w w') => tabs_below hT hb
  have z1 : (((ways f 7).length : Int) == 0) = false := by have := ends_some hm; exact beq_eq_false_iff_ne.2 (by omega)
  have z2 : decide (0 < (ways 7 t).length) = false := by rw [ends_only hp]; rfl
  have H0 := Lib.hid (ways_few f t)
  have HL := Lib.hid fun l => ways_left f t (l := l)
  have HS := Lib.hid fun l => ways_short f t (l := l)
  have HB := Lib.hid (ways_some f t)
  clear hT hp
  go_enter Tryd.func5, Tryd.ntmps5
  go_wp2_with (go_at_call 12; refine (awake_any _ (HT.out _ (Below.refl _ _))).mono ?_; rintro e w1 ⟨rfl, h1⟩; have B1 := Lib.hid h1; clear h1)
  refine (may_any f _ hf).mono ?_
  rintro e w' ⟨rfl, rfl⟩
  rw [hm]
  clear hm
  go_wp2_with fail
  refine (ways_any f 7 _ hf (HT.out _ B1.out)).mono ?_
  rintro e w2 ⟨A2, c2, vs2, rfl, _, _, _, h3⟩
  have B2 := Lib.hid (B1.out.trans (h3.mono B1.out.size))
  clear h3
  go_wp2_with fail
  refine (ways_any 7 t _ (by omega) (HT.out _ B2.out)).mono ?_
  rintro e w3 ⟨A3, c3, vs3, rfl, _, _, _, h3⟩
  have B3 := Lib.hid (B2.out.trans (h3.mono B2.out.size))
  clear h3
  go_wp2_with fail
  refine (ways_any f t _ hf (HT.out _ B3.out)).mono ?_
  rintro e w4 ⟨A, c, vs, rfl, hl, h1, h2, h3⟩
  have B4 := Lib.hid (B3.out.trans (h3.mono B3.out.size))
  have V4 := Lib.hid (And.intro hl (And.intro (show Holds w4 0 (.slice A (ways f t).length c) vs from row_mono h1 (Nat.zero_le _)) (show Each w4 0 (fun _ => False) vs (ways f t) from h2.turn fun _ _ ho hn => ⟨ho.mono (Nat.zero_le _), hn⟩)))
  clear hl h1 h2 h3
  have i0 := H0.out
  clear z1 z2
  generalize ways f t = L at *
  go_wp2_with fail
  go_loop [6] (fun s6 => ∃ i : Nat, i ≤ L.length ∧ s6 = .int .i64 i) (fun s6 => L.length - (intOf s6).toNat)
  case atStart => exact ⟨0, Nat.zero_le _, rfl⟩
  case round =>
    obtain ⟨i, hi, rfl⟩ := hrel
    have i3 : (0 : Int) ≤ (i : Int) := by omega
    by_cases hlt : i < L.length
    · have hlt2 : decide ((i : Int) < (L.length : Int)) = true := by simp; omega
      have i4 : (i : Int) < (L.length : Int) := by omega
      obtain ⟨g, rfl⟩ := holds_addr V4.out.2.1 (by rw [V4.out.1]; omega)
      obtain ⟨D, d, hc, _⟩ := ls_at V4.out.1 V4.out.2.1 V4.out.2.2 hlt
      have hle := HL.out _ (List.getElem_mem hlt)
      have i5 := (HS.out _ (List.getElem_mem hlt)).1
      generalize L[i] = l at *
      have dl : decide ((t : Int) - (f : Int) < (l.length : Int)) = false := by simp; omega
      clear hi hle
      go_wp2_with fail
      go_round
      case rel => exact ⟨i + 1, by omega, by go_num⟩
      case measure => simp [intOf]; omega
    · have hlt2 : decide ((i : Int) < (L.length : Int)) = false := by simp; omega
      clear hi
      by_cases e1 : f = t
      · have g1 : decide (0 < L.length) = true := by rw [HB.out]; simp [e1]
        have d1 : ((f : Int) == (t : Int)) = true := by simp [e1]
        clear e1
        go_wp2_with fail
        go_ret
        exact ⟨rfl, B4.out⟩
      · have d1 : ((f : Int) == (t : Int)) = false := by simp; omega
        by_cases e2 : f < t
        · have d2 : decide ((f : Int) < (t : Int)) = true := by simp; omega
          rcases hr : rch f t with _ | _
          · have g1 : decide (0 < L.length) = false := by rw [HB.out, hr]; simp [e1]
            have HR := Lib.hid (reaches_any t 256 f (by omega) hf)
            rw [hr] at HR
            clear e1 hr
            go_wp2_with (go_at_call 15; refine (HR.out _ (HT.out _ B4.out)).mono ?_; rintro e w5 ⟨rfl, h5⟩; have B5 := Lib.hid (B4.out.trans (h5.mono B4.out.size)); clear h5)
            go_ret
            exact ⟨rfl, B5.out⟩
          · have g1 : decide (0 < L.length) = true := by rw [HB.out, hr]; simp [e2]
            have HR := Lib.hid (reaches_any t 256 f (by omega) hf)
            rw [hr] at HR
            clear e1 hr
            go_wp2_with (go_at_call 15; refine (HR.out _ (HT.out _ B4.out)).mono ?_; rintro e w5 ⟨rfl, h5⟩; have B5 := Lib.hid (B4.out.trans (h5.mono B4.out.size)); clear h5)
            go_ret
            exact ⟨rfl, B5.out⟩
        · have d2 : decide ((f : Int) < (t : Int)) = false := by simp; omega
          have g1 : decide (0 < L.length) = false := by rw [HB.out]; simp [e1, e2]
          clear e1
          go_wp2_with fail
          go_ret
          exact ⟨rfl, B4.out⟩
set_option maxHeartbeats 8000000 in
set_option maxRecDepth 100000 in
theorem end_not_seven (f t : Nat) (w : World) (hf : f < 256) (ht : t < 256) (hT : Tabs w) (hm : mayB f = false) (hp : t = 7) : Calls Tryd.prog 5 #[.int .u8 f, .int .u8 t] w fun e w' => e = .returned (.bool true) ∧ Below w.heap.size w w' := by
  have HT := Lib.hid fun w' (hb : Below w.heap.size w w') => tabs_below hT hb
  have z2 : decide (0 < (ways 7 t).length) = true := by rw [hp, ends_self]; rfl
  have z3 : ((t : Int) != 7) = false := by simp; omega
  have H0 := Lib.hid (ways_few f t)
  have HL := Lib.hid fun l => ways_left f t (l := l)
  have HS := Lib.hid fun l => ways_short f t (l := l)
  have HB := Lib.hid (ways_some f t)
  clear hT hp
  go_enter Tryd.func5, Tryd.ntmps5
  go_wp2_with (go_at_call 12; refine (awake_any _ (HT.out _ (Below.refl _ _))).mono ?_; rintro e w1 ⟨rfl, h1⟩; have B1 := Lib.hid h1; clear h1)
  refine (may_any f _ hf).mono ?_
  rintro e w' ⟨rfl, rfl⟩
  rw [hm]
  clear hm
  go_wp2_with fail
  refine (ways_any 7 t _ (by omega) (HT.out _ B1.out)).mono ?_
  rintro e w3 ⟨A3, c3, vs3, rfl, _, _, _, h3⟩
  have B3 := Lib.hid (B1.out.trans (h3.mono B1.out.size))
  clear h3
  go_wp2_with fail
  refine (ways_any f t _ hf (HT.out _ B3.out)).mono ?_
  rintro e w4 ⟨A, c, vs, rfl, hl, h1, h2, h3⟩
  have B4 := Lib.hid (B3.out.trans (h3.mono B3.out.size))
  have V4 := Lib.hid (And.intro hl (And.intro (show Holds w4 0 (.slice A (ways f t).length c) vs from row_mono h1 (Nat.zero_le _)) (show Each w4 0 (fun _ => False) vs (ways f t) from h2.turn fun _ _ ho hn => ⟨ho.mono (Nat.zero_le _), hn⟩)))
  clear hl h1 h2 h3
  have i0 := H0.out
  clear z2 z3
  generalize ways f t = L at *
  go_wp2_with fail
  go_loop [6] (fun s6 => ∃ i : Nat, i ≤ L.length ∧ s6 = .int .i64 i) (fun s6 => L.length - (intOf s6).toNat)
  case atStart => exact ⟨0, Nat.zero_le _, rfl⟩
  case round =>
    obtain ⟨i, hi, rfl⟩ := hrel
    have i3 : (0 : Int) ≤ (i : Int) := by omega
    by_cases hlt : i < L.length
    · have hlt2 : decide ((i : Int) < (L.length : Int)) = true := by simp; omega
      have i4 : (i : Int) < (L.length : Int) := by omega
      obtain ⟨g, rfl⟩ := holds_addr V4.out.2.1 (by rw [V4.out.1]; omega)
      obtain ⟨D, d, hc, _⟩ := ls_at V4.out.1 V4.out.2.1 V4.out.2.2 hlt
      have hle := HL.out _ (List.getElem_mem hlt)
      have i5 := (HS.out _ (List.getElem_mem hlt)).1
      generalize L[i] = l at *
      have dl : decide ((t : Int) - (f : Int) < (l.length : Int)) = false := by simp; omega
      clear hi hle
      go_wp2_with fail
      go_round
      case rel => exact ⟨i + 1, by omega, by go_num⟩
      case measure => simp [intOf]; omega
    · have hlt2 : decide ((i : Int) < (L.length : Int)) = false := by simp; omega
      clear hi
      by_cases e1 : f = t
      · have g1 : decide (0 < L.length) = true := by rw [HB.out]; simp [e1]
        have d1 : ((f : Int) == (t : Int)) = true := by simp [e1]
        clear e1
        go_wp2_with fail
        go_ret
        exact ⟨rfl, B4.out⟩
      · have d1 : ((f : Int) == (t : Int)) = false := by simp; omega
        by_cases e2 : f < t
        · have d2 : decide ((f : Int) < (t : Int)) = true := by simp; omega
          rcases hr : rch f t with _ | _
          · have g1 : decide (0 < L.length) = false := by rw [HB.out, hr]; simp [e1]
            have HR := Lib.hid (reaches_any t 256 f (by omega) hf)
            rw [hr] at HR
            clear e1 hr
            go_wp2_with (go_at_call 15; refine (HR.out _ (HT.out _ B4.out)).mono ?_; rintro e w5 ⟨rfl, h5⟩; have B5 := Lib.hid (B4.out.trans (h5.mono B4.out.size)); clear h5)
            go_ret
            exact ⟨rfl, B5.out⟩
          · have g1 : decide (0 < L.length) = true := by rw [HB.out, hr]; simp [e2]
            have HR := Lib.hid (reaches_any t 256 f (by omega) hf)
            rw [hr] at HR
            clear e1 hr
            go_wp2_with (go_at_call 15; refine (HR.out _ (HT.out _ B4.out)).mono ?_; rintro e w5 ⟨rfl, h5⟩; have B5 := Lib.hid (B4.out.trans (h5.mono B4.out.size)); clear h5)
            go_ret
            exact ⟨rfl, B5.out⟩
        · have d2 : decide ((f : Int) < (t : Int)) = false := by simp; omega
          have g1 : decide (0 < L.length) = false := by rw [HB.out]; simp [e1, e2]
          clear e1
          go_wp2_with fail
          go_ret
          exact ⟨rfl, B4.out⟩
set_option maxHeartbeats 8000000 in
set_option maxRecDepth 100000 in
theorem end_not_other (f t : Nat) (w : World) (hf : f < 256) (ht : t < 256) (hT : Tabs w) (hm : mayB f = false) (hp : t ≠ 7) : Calls Tryd.prog 5 #[.int .u8 f, .int .u8 t] w fun e w' => e = .returned (.bool true) ∧ Below w.heap.size w w' := by
  have HT := Lib.hid fun w' (hb : Below w.heap.size w w') => tabs_below hT hb
  have z2 : decide (0 < (ways 7 t).length) = false := by rw [ends_only hp]; rfl
  have H0 := Lib.hid (ways_few f t)
  have HL := Lib.hid fun l => ways_left f t (l := l)
  have HS := Lib.hid fun l => ways_short f t (l := l)
  have HB := Lib.hid (ways_some f t)
  clear hT hp
  go_enter Tryd.func5, Tryd.ntmps5
  go_wp2_with (go_at_call 12; refine (awake_any _ (HT.out _ (Below.refl _ _))).mono ?_; rintro e w1 ⟨rfl, h1⟩; have B1 := Lib.hid h1; clear h1)
  refine (may_any f _ hf).mono ?_
  rintro e w' ⟨rfl, rfl⟩
  rw [hm]
  clear hm
  go_wp2_with fail
  refine (ways_any 7 t _ (by omega) (HT.out _ B1.out)).mono ?_
  rintro e w3 ⟨A3, c3, vs3, rfl, _, _, _, h3⟩
  have B3 := Lib.hid (B1.out.trans (h3.mono B1.out.size))
  clear h3
  go_wp2_with fail
  refine (ways_any f t _ hf (HT.out _ B3.out)).mono ?_
  rintro e w4 ⟨A, c, vs, rfl, hl, h1, h2, h3⟩
  have B4 := Lib.hid (B3.out.trans (h3.mono B3.out.size))
  have V4 := Lib.hid (And.intro hl (And.intro (show Holds w4 0 (.slice A (ways f t).length c) vs from row_mono h1 (Nat.zero_le _)) (show Each w4 0 (fun _ => False) vs (ways f t) from h2.turn fun _ _ ho hn => ⟨ho.mono (Nat.zero_le _), hn⟩)))
  clear hl h1 h2 h3
  have i0 := H0.out
  clear z2
  generalize ways f t = L at *
  go_wp2_with fail
  go_loop [6] (fun s6 => ∃ i : Nat, i ≤ L.length ∧ s6 = .int .i64 i) (fun s6 => L.length - (intOf s6).toNat)
  case atStart => exact ⟨0, Nat.zero_le _, rfl⟩
  case round =>
    obtain ⟨i, hi, rfl⟩ := hrel
    have i3 : (0 : Int) ≤ (i : Int) := by omega
    by_cases hlt : i < L.length
    · have hlt2 : decide ((i : Int) < (L.length : Int)) = true := by simp; omega
      have i4 : (i : Int) < (L.length : Int) := by omega
      obtain ⟨g, rfl⟩ := holds_addr V4.out.2.1 (by rw [V4.out.1]; omega)
      obtain ⟨D, d, hc, _⟩ := ls_at V4.out.1 V4.out.2.1 V4.out.2.2 hlt
      have hle := HL.out _ (List.getElem_mem hlt)
      have i5 := (HS.out _ (List.getElem_mem hlt)).1
      generalize L[i] = l at *
      have dl : decide ((t : Int) - (f : Int) < (l.length : Int)) = false := by simp; omega
      clear hi hle
      go_wp2_with fail
      go_round
      case rel => exact ⟨i + 1, by omega, by go_num⟩
      case measure => simp [intOf]; omega
    · have hlt2 : decide ((i : Int) < (L.length : Int)) = false := by simp; omega
      clear hi
      by_cases e1 : f = t
      · have g1 : decide (0 < L.length) = true := by rw [HB.out]; simp [e1]
        have d1 : ((f : Int) == (t : Int)) = true := by simp [e1]
        clear e1
        go_wp2_with fail
        go_ret
        exact ⟨rfl, B4.out⟩
      · have d1 : ((f : Int) == (t : Int)) = false := by simp; omega
        by_cases e2 : f < t
        · have d2 : decide ((f : Int) < (t : Int)) = true := by simp; omega
          rcases hr : rch f t with _ | _
          · have g1 : decide (0 < L.length) = false := by rw [HB.out, hr]; simp [e1]
            have HR := Lib.hid (reaches_any t 256 f (by omega) hf)
            rw [hr] at HR
            clear e1 hr
            go_wp2_with (go_at_call 15; refine (HR.out _ (HT.out _ B4.out)).mono ?_; rintro e w5 ⟨rfl, h5⟩; have B5 := Lib.hid (B4.out.trans (h5.mono B4.out.size)); clear h5)
            go_ret
            exact ⟨rfl, B5.out⟩
          · have g1 : decide (0 < L.length) = true := by rw [HB.out, hr]; simp [e2]
            have HR := Lib.hid (reaches_any t 256 f (by omega) hf)
            rw [hr] at HR
            clear e1 hr
            go_wp2_with (go_at_call 15; refine (HR.out _ (HT.out _ B4.out)).mono ?_; rintro e w5 ⟨rfl, h5⟩; have B5 := Lib.hid (B4.out.trans (h5.mono B4.out.size)); clear h5)
            go_ret
            exact ⟨rfl, B5.out⟩
        · have d2 : decide ((f : Int) < (t : Int)) = false := by simp; omega
          have g1 : decide (0 < L.length) = false := by rw [HB.out]; simp [e1, e2]
          clear e1
          go_wp2_with fail
          go_ret
          exact ⟨rfl, B4.out⟩
theorem end_any (f t : Nat) (w : World) (hf : f < 256) (ht : t < 256) (hT : Tabs w) : Calls Tryd.prog 5 #[.int .u8 f, .int .u8 t] w fun e w' => e = .returned (.bool true) ∧ Below w.heap.size w w' := by
  rcases hm : mayB f with _ | _
  · by_cases hp : t = 7
    · exact end_not_seven f t w hf ht hT hm hp
    · exact end_not_other f t w hf ht hT hm hp
  · by_cases hp : t = 7
    · exact end_may_seven f t w hf ht hT hm hp
    · exact end_may_other f t w hf ht hT hm hp
section
open Go.ChangeShapes Go.WideShapes Go.ChangeAt
set_option maxRecDepth 100000 in
theorem end_lifted (os : Os) (started : os.Started) (H : Type) (enc : TypeId × Value → H) :
    ReturnsInHanded {} Tryd.checked os 5 .any (fun w args => (Rows.stageEndSpec.pre enc Tryd.prog Tryd.f5 [] false w args ∧ laidMetH Tryd.prog laidAll w) ∧ sizedMet enc Tryd.prog Tryd.f5 (OpenSpec.ofChange Rows.stageEndSpec) false w args)
      (Rows.stageEndSpec.post enc Tryd.prog Tryd.f5 false true false false) := by
  refine returnsInHanded_of_change_and (C := Tryd.checked) (X := fun w _ => laidMetH Tryd.prog laidAll w) (fun _ _ _ hh h => h.of_heap hh) Tryd.own started (by kernel_rfl) Tryd.func5
    (ChangeSpec.witness_shaped (enc := enc) (C := Tryd.checked) (os := os) (X := fun w _ => laidMetH Tryd.prog laidAll w) false (World.doorLaid Tryd.prog 400 os) #[.int .u8 0, .int .u8 0] 8 rfl (World.shaped_of_RefB (by kernel_rfl) (by kernel_rfl)) (by kernel_rfl) (by kernel_rfl) (by kernel_rfl) (door_met os _)) ?_
  intro W base args ds gs before hval0 hW _ _ hL _
  have hval : ∀ (j : Nat) t v, Tryd.f5.params[j]? = some t → args[j]? = some v → Value.okWide Tryd.prog W .any base t v := hval0
  have hW' := hW
  obtain ⟨p, q, hA0, hV, rfl, _, _⟩ := hW
  have hA : DataW.TrodAll enc Tryd.prog W 0 (fun _ => true) true Tryd.f5.params.toList args.toList ds p := hA0
  rw [Tryd.params5] at hA hval
  obtain ⟨v0, v1, d0, d1, p0, p1, rfl, rfl, rfl, h0, h1⟩ := trodAll_two hA
  obtain ⟨rfl, rfl⟩ := trodVars_none hV
  obtain ⟨x0, rfl, rfl, rfl, w0⟩ := open_int Tryd.underlying5 (hval 0 5 v0 rfl rfl) h0
  obtain ⟨m0, rfl, r0⟩ := in_u8 w0
  obtain ⟨x1, rfl, rfl, rfl, w1⟩ := open_int Tryd.underlying5 (hval 1 5 v1 rfl rfl) h1
  obtain ⟨m1, rfl, r1⟩ := in_u8 w1
  refine (end_any m0 m1 W r0 r1 (tabs_of_laid hL)).mono fun e W' ⟨he, hb⟩ => ?_
  subst he
  exact ⟨_, rfl, law_post hW' rfl (by kernel_rfl) Tryd.underlying4 rfl (by unfold Legible; kernel_rfl) hb⟩
theorem end_row : Rows.StageEndSaid :=
  OpenClaim.holds_of_wide 5 Tryd.f5 rfl rfl rfl rfl rfl rfl rfl ⟨rfl, rfl, rfl, rfl, rfl⟩ rfl rfl rfl rfl rfl (by kernel_rfl) Tryd.func5 (by kernel_rfl)
    (of_decide_eq_true (by kernel_rfl)) (by unfold Func.isWrapper; first | (rw [if_pos (by decide +kernel)]; kernel_rfl) | (rw [if_neg (by decide +kernel)]; exact ⟨rfl, rfl⟩))
    (fun os started H enc _ => end_lifted os started H enc)
/-- The statement: the row, with its two variables tied to the program's text. -/
theorem end_holds : Rows.StageEndCardSaid :=
  Claim7.holds_tied_plain_at .later [] [.data, .data] true (true, "eb22ec1ed816607768e23841f26954d3e8ed71bf626294bf4b08e00a6f345e0d") false
    end_row (fun _ h => by cases h) (by kernel_rfl) (fun _ h => by cases h) stageEnd_row_tie rfl ⟨rfl, rfl⟩ (by kernel_rfl) rfl
    (fun f fn hf hfn => by
      obtain rfl : f = 5 := Option.some.inj ((show _ = some 5 by kernel_rfl).symm.trans hf) |>.symm
      obtain rfl : fn = Tryd.f5 := (Option.some.inj (Tryd.func5.symm.trans hfn)).symm
      exact ⟨by kernel_rfl, fun j t ht => by
        rw [Tryd.params5] at ht
        have hm : t ∈ [5] := by simpa using Array.mem_of_getElem? ht
        have hall : ([5].all fun u => !Tryd.prog.wantsStandIn u) = true := by kernel_rfl
        exact (show Tryd.prog.wantsStandIn t = false by simpa using List.all_eq_true.1 hall t hm)⟩)
    (by kernel_rfl)
end

end Go.Proofs.YtjgapjbaidgolaaDoor
