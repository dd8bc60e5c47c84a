/-
  PROVED HERE: StageNames of package coveylaw04 returns true: each status's name says that status; no other number is a status or has a name; no edge leads on from Removed, nor from what is no status; the kinds of actors are one bit each. Condition: the two tables of package stage hold what the program's text lays in them; that is tied to the text.
-/
import Derived.Test.YtjgapjbaidgolaaDoorAwake
namespace Go.Proofs.YtjgapjbaidgolaaDoor
open Go.RowKit
theorem prs_nam : ∀ k, 1 ≤ k → k ≤ 7 → prs (nam k) = (k, 0) := by
  have : ((List.range 8).all fun k => decide (k = 0 ∨ prs (nam k) = (k, 0))) = true := by kernel_rfl
  intro k h1 h7
  have h := of_decide_eq_true (List.all_eq_true.1 this k (List.mem_range.2 (by omega)))
  rcases h with h | h
  · omega
  · exact h
theorem name_lit (a : Nat) (s : ByteArray) (h : nam a = s) (w : World) (ha : a < 256) (ht : Tabs w) : Calls Tryd.prog 9 #[.int .u8 a] w fun e w' => e = .returned (.string s) ∧ w = w' := h ▸ name_any a w ha ht
theorem may_lit (a : Nat) (b : Bool) (h : mayB a = b) (w : World) (ha : a < 256) : Calls Tryd.prog 10 #[.int .u8 a] w fun e w' => e = .returned (.bool b) ∧ w = w' := h ▸ may_any a w ha
theorem next_none (a : Nat) (h : nxt a = []) (w : World) (ha : a < 256) (ht : Tabs w) : Calls Tryd.prog 11 #[.int .u8 a] w fun e w' => ∃ A c, e = .returned (.slice A 0 c) ∧ Below w.heap.size w w' :=
  (next_any a w ha ht).mono fun e w' ⟨A, c, he, _, hb⟩ => ⟨A, c, by rw [he, h]; rfl, hb⟩
set_option maxHeartbeats 4000000 in
theorem names_any (w : World) (ht : Tabs w) : Calls Tryd.prog 3 #[] w fun e w' => e = .returned (.bool true) ∧ Below w.heap.size w w' := by
  have HT := Lib.hid fun w' (hb : Below w.heap.size w w') => tabs_below ht hb
  clear ht
  go_enter Tryd.func3, Tryd.ntmps3
  go_wp2_with fail
  go_loop [1] (fun s1 => ∃ k : Nat, 1 ≤ k ∧ k ≤ 8 ∧ s1 = .int .u8 k) (fun s1 => 8 - (intOf s1).toNat)
  case atStart => exact ⟨1, by omega, by omega, rfl⟩
  case round =>
    obtain ⟨k, h1, h8, rfl⟩ := hrel
    by_cases h7 : k ≤ 7
    · have d1 : decide ((k : Int) ≤ 7) = true := by simp; omega
      have HP := Lib.hid (prs_nam k h1 h7)
      have HM := Lib.hid (show mayB k = true by simp [mayB]; omega)
      have dk : ((k : Int) != (k : Int)) = false := by simp
      go_wp2_with fail
      refine (name_any k _ (by omega) (HT.out _ (Below.refl _ _))).mono ?_
      rintro e w' ⟨rfl, rfl⟩
      generalize nam k = s at *
      go_wp2_with fail
      refine (parse_lit HP.out rfl _ (HT.out _ (Below.refl _ _))).mono ?_
      rintro e w' ⟨rfl, rfl⟩
      go_wp2_with fail
      refine (may_lit k true HM.out _ (by omega)).mono ?_
      rintro e w' ⟨rfl, rfl⟩
      go_wp2_with fail
      go_round
      case rel => exact ⟨k + 1, by omega, by omega, by go_num⟩
      case measure => simp [intOf]; omega
    · have d1 : decide ((k : Int) ≤ 7) = false := by simp; omega
      go_wp2_with fail
      refine (parse_lit (k := 0) (e := 5) (x := 0) (by kernel_rfl) rfl _ (HT.out _ (Below.refl _ _))).mono ?_
      rintro e w' ⟨rfl, rfl⟩
      go_wp2_with fail
      refine (parse_lit (k := 0) (e := 5) (x := 0) (by kernel_rfl) rfl _ (HT.out _ (Below.refl _ _))).mono ?_
      rintro e w' ⟨rfl, rfl⟩
      go_wp2_with fail
      refine (name_lit 0 ⟨#[]⟩ (by kernel_rfl) _ (by omega) (HT.out _ (Below.refl _ _))).mono ?_
      rintro e w' ⟨rfl, rfl⟩
      go_wp2_with fail
      refine (name_lit 8 ⟨#[]⟩ (by kernel_rfl) _ (by omega) (HT.out _ (Below.refl _ _))).mono ?_
      rintro e w' ⟨rfl, rfl⟩
      go_wp2_with fail
      refine (may_lit 0 false (by kernel_rfl) _ (by omega)).mono ?_
      rintro e w' ⟨rfl, rfl⟩
      go_wp2_with fail
      refine (may_lit 8 false (by kernel_rfl) _ (by omega)).mono ?_
      rintro e w' ⟨rfl, rfl⟩
      go_wp2_with fail
      refine (next_none 7 (by kernel_rfl) _ (by omega) (HT.out _ (Below.refl _ _))).mono ?_
      rintro e w1 ⟨A1, c1, rfl, hb1⟩
      have B1 := Lib.hid hb1
      clear hb1
      go_wp2_with fail
      refine (next_none 99 (by kernel_rfl) _ (by omega) (HT.out _ B1.out)).mono ?_
      rintro e w2 ⟨A2, c2, rfl, hb2⟩
      have B2 := Lib.hid (B1.out.trans (hb2.mono B1.out.size))
      clear hb2
      go_wp2_with fail
      refine (name_lit 4 ⟨#[108, 101, 97, 118, 105, 110, 103]⟩ (by kernel_rfl) _ (by omega) (HT.out _ B2.out)).mono ?_
      rintro e w' ⟨rfl, rfl⟩
      go_wp2_with fail
      refine (awake_any _ (HT.out _ B2.out)).mono ?_
      rintro e w3 ⟨rfl, hb3⟩
      have B3 := Lib.hid (B2.out.trans (hb3.mono B2.out.size))
      clear hb3
      go_wp2_with fail
      go_ret
      exact ⟨rfl, B3.out⟩
section
open Go.ChangeShapes Go.WideShapes Go.ChangeAt
set_option maxRecDepth 100000 in
theorem names_lifted (os : Os) (started : os.Started) (H : Type) (enc : TypeId × Value → H) :
    ReturnsInHanded {} Tryd.checked os 3 .any (fun w args => (Rows.stageNamesSpec.pre enc Tryd.prog Tryd.f3 [] false w args ∧ laidMetH Tryd.prog laidAll w) ∧ sizedMet enc Tryd.prog Tryd.f3 (OpenSpec.ofChange Rows.stageNamesSpec) false w args)
      (Rows.stageNamesSpec.post enc Tryd.prog Tryd.f3 false true false false) := by
  refine returnsInHanded_of_change_and (C := Tryd.checked) (X := fun w _ => laidMetH Tryd.prog laidAll w) (fun _ _ _ hh h => h.of_heap hh) Tryd.own started (by kernel_rfl) Tryd.func3
    (ChangeSpec.witness_shaped (enc := enc) (C := Tryd.checked) (os := os) (X := fun w _ => laidMetH Tryd.prog laidAll w) false (World.doorLaid Tryd.prog 400 os) #[] 8 rfl (World.shaped_of_RefB (by kernel_rfl) (by kernel_rfl)) (by kernel_rfl) (by kernel_rfl) (by kernel_rfl) (door_met os _)) ?_
  intro W base args ds gs before hval0 hW _ _ hL _
  have hW' := hW
  obtain ⟨p, q, hA0, hV, rfl, _, _⟩ := hW
  have hA : DataW.TrodAll enc Tryd.prog W 0 (fun _ => true) true Tryd.f3.params.toList args.toList ds p := hA0
  rw [Tryd.params3] at hA
  obtain ⟨rfl, rfl, rfl⟩ := trodAll_none hA
  obtain ⟨rfl, rfl⟩ := trodVars_none hV
  refine (names_any W (tabs_of_laid hL)).mono fun e W' ⟨he, hb⟩ => ?_
  subst he
  exact ⟨_, rfl, law_post hW' rfl (by kernel_rfl) Tryd.underlying4 rfl (by unfold Legible; kernel_rfl) hb⟩
theorem names_row : Rows.StageNamesSaid :=
  OpenClaim.holds_of_wide 3 Tryd.f3 rfl rfl rfl rfl rfl rfl rfl ⟨rfl, rfl, rfl, rfl, rfl⟩ rfl rfl rfl rfl rfl (by kernel_rfl) Tryd.func3 (by kernel_rfl)
    (of_decide_eq_true (by kernel_rfl)) (by unfold Func.isWrapper; first | (rw [if_pos (by decide +kernel)]; kernel_rfl) | (rw [if_neg (by decide +kernel)]; exact ⟨rfl, rfl⟩))
    (fun os started H enc _ => names_lifted os started H enc)
/-- The statement: the row, with its two variables tied to the program's text. -/
theorem names_holds : Rows.StageNamesCardSaid :=
  Claim7.holds_tied_plain_at .later [] [.data, .data] true (true, "eb22ec1ed816607768e23841f26954d3e8ed71bf626294bf4b08e00a6f345e0d") false
    names_row (fun _ h => by cases h) (by kernel_rfl) (fun _ h => by cases h) stageNames_row_tie rfl ⟨rfl, rfl⟩ (by kernel_rfl) rfl
    (fun f fn hf hfn => by
      obtain rfl : f = 3 := Option.some.inj ((show _ = some 3 by kernel_rfl).symm.trans hf) |>.symm
      obtain rfl : fn = Tryd.f3 := (Option.some.inj (Tryd.func3.symm.trans hfn)).symm
      exact ⟨by kernel_rfl, fun j t ht => by
        rw [Tryd.params3] at ht
        simp at ht⟩)
    (by kernel_rfl)
end
end Go.Proofs.YtjgapjbaidgolaaDoor
