/-
  PROVED HERE: for any three numbers of one byte StageMax of package coveylaw04 returns true and leaves its arguments as they were: the greater of two does not change when they are turned about, nor by brackets, nor with itself; it is one of both, and no less than either. Condition: the two tables of package stage hold what the program's text lays in them; that is tied to the text.
-/
import Derived.Test.YtjgapjbaidgolaaDoorAwake
namespace Go.Proofs.YtjgapjbaidgolaaDoor
open Go.RowKit
theorem max_mk (a b m : Nat) (h : max a b = m) (w : World) : Calls Tryd.prog 16 #[.int .u8 a, .int .u8 b] w fun e w' => e = .returned (.int .u8 m) ∧ w = w' := h ▸ max_is a b w
set_option maxHeartbeats 1000000 in
theorem max_any (a b c : Nat) (w : World) (_ : a < 256) (_ : b < 256) (_ : c < 256) (ht : Tabs w) : Calls Tryd.prog 6 #[.int .u8 a, .int .u8 b, .int .u8 c] w fun e w' => e = .returned (.bool true) ∧ Below w.heap.size w w' := by
  have HT := Lib.hid ht
  obtain ⟨m, hm⟩ : ∃ m, max a b = m := ⟨_, rfl⟩
  obtain ⟨n, hn⟩ : ∃ n, max m c = n := ⟨_, rfl⟩
  obtain ⟨k, hk⟩ : ∃ k, max b c = k := ⟨_, rfl⟩
  have M1 := Lib.hid fun w => max_mk a b m hm w
  have M2 := Lib.hid fun w => max_mk b a m (by omega) w
  have M3 := Lib.hid fun w => max_mk m c n hn w
  have M4 := Lib.hid fun w => max_mk b c k hk w
  have M5 := Lib.hid fun w => max_mk a k n (by omega) w
  have M6 := Lib.hid fun w => max_mk a a a (by omega) w
  have d1 : decide (a ≤ m) = true := by simp; omega
  have d2 : decide (b ≤ m) = true := by simp; omega
  by_cases hma : m = a
  · have d3 : ((m : Int) == (a : Int)) = true := by simp [hma]
    clear hm hn hk ht hma
    go_enter Tryd.func6, Tryd.ntmps6
    go_wp2_with fail
    refine (M1.out _).mono ?_
    rintro e w' ⟨rfl, rfl⟩
    go_wp2_with fail
    refine (awake_any _ HT.out).mono ?_
    rintro e w1 ⟨rfl, h⟩
    have B1 := Lib.hid h
    clear h
    go_wp2_with fail
    refine (M2.out _).mono ?_
    rintro e w' ⟨rfl, rfl⟩
    go_wp2_with fail
    refine (M3.out _).mono ?_
    rintro e w' ⟨rfl, rfl⟩
    go_wp2_with fail
    refine (M4.out _).mono ?_
    rintro e w' ⟨rfl, rfl⟩
    go_wp2_with fail
    refine (M5.out _).mono ?_
    rintro e w' ⟨rfl, rfl⟩
    go_wp2_with fail
    refine (M6.out _).mono ?_
    rintro e w' ⟨rfl, rfl⟩
    go_wp2_with fail
    go_ret
    exact ⟨rfl, B1.out⟩
  · have d3 : ((m : Int) == (a : Int)) = false := by simp; omega
    have d4 : ((m : Int) == (b : Int)) = true := by simp; omega
    clear hm hn hk ht hma
    go_enter Tryd.func6, Tryd.ntmps6
    go_wp2_with fail
    refine (M1.out _).mono ?_
    rintro e w' ⟨rfl, rfl⟩
    go_wp2_with fail
    refine (awake_any _ HT.out).mono ?_
    rintro e w1 ⟨rfl, h⟩
    have B1 := Lib.hid h
    clear h
    go_wp2_with fail
    refine (M2.out _).mono ?_
    rintro e w' ⟨rfl, rfl⟩
    go_wp2_with fail
    refine (M3.out _).mono ?_
    rintro e w' ⟨rfl, rfl⟩
    go_wp2_with fail
    refine (M4.out _).mono ?_
    rintro e w' ⟨rfl, rfl⟩
    go_wp2_with fail
    refine (M5.out _).mono ?_
    rintro e w' ⟨rfl, rfl⟩
    go_wp2_with fail
    refine (M6.out _).mono ?_
    rintro e w' ⟨rfl, rfl⟩
    go_wp2_with fail
    go_ret
    exact ⟨rfl, B1.out⟩
section
open Go.ChangeShapes Go.WideShapes Go.ChangeAt
set_option maxRecDepth 100000 in
theorem max_lifted (os : Os) (started : os.Started) (H : Type) (enc : TypeId × Value → H) :
    ReturnsInHanded {} Tryd.checked os 6 .any (fun w args => (Rows.stageMaxSpec.pre enc Tryd.prog Tryd.f6 [] false w args ∧ laidMetH Tryd.prog laidAll w) ∧ sizedMet enc Tryd.prog Tryd.f6 (OpenSpec.ofChange Rows.stageMaxSpec) false w args)
      (Rows.stageMaxSpec.post enc Tryd.prog Tryd.f6 false true false false) := by
  refine returnsInHanded_of_change_and (C := Tryd.checked) (X := fun w _ => laidMetH Tryd.prog laidAll w) (fun _ _ _ hh h => h.of_heap hh) Tryd.own started (by kernel_rfl) Tryd.func6
    (ChangeSpec.witness_shaped (enc := enc) (C := Tryd.checked) (os := os) (X := fun w _ => laidMetH Tryd.prog laidAll w) false (World.doorLaid Tryd.prog 400 os) #[.int .u8 0, .int .u8 0, .int .u8 0] 8 rfl (World.shaped_of_RefB (by kernel_rfl) (by kernel_rfl)) (by kernel_rfl) (by kernel_rfl) (by kernel_rfl) (door_met os _)) ?_
  intro W base args ds gs before hval0 hW _ _ hL _
  have hval : ∀ (j : Nat) t v, Tryd.f6.params[j]? = some t → args[j]? = some v → Value.okWide Tryd.prog W .any base t v := hval0
  have hW' := hW
  obtain ⟨p, q, hA0, hV, rfl, _, _⟩ := hW
  have hA : DataW.TrodAll enc Tryd.prog W 0 (fun _ => true) true Tryd.f6.params.toList args.toList ds p := hA0
  rw [Tryd.params6] at hA hval
  obtain ⟨v0, v1, v2, d0, d1, d2, p0, p1, p2, rfl, rfl, rfl, h0, h1, h2⟩ := trodAll_three hA
  obtain ⟨rfl, rfl⟩ := trodVars_none hV
  obtain ⟨x0, rfl, rfl, rfl, w0⟩ := open_int Tryd.underlying5 (hval 0 5 v0 rfl rfl) h0
  obtain ⟨m0, rfl, r0⟩ := in_u8 w0
  obtain ⟨x1, rfl, rfl, rfl, w1⟩ := open_int Tryd.underlying5 (hval 1 5 v1 rfl rfl) h1
  obtain ⟨m1, rfl, r1⟩ := in_u8 w1
  obtain ⟨x2, rfl, rfl, rfl, w2⟩ := open_int Tryd.underlying5 (hval 2 5 v2 rfl rfl) h2
  obtain ⟨m2, rfl, r2⟩ := in_u8 w2
  refine (max_any m0 m1 m2 W r0 r1 r2 (tabs_of_laid hL)).mono fun e W' ⟨he, hb⟩ => ?_
  subst he
  exact ⟨_, rfl, law_post hW' rfl (by kernel_rfl) Tryd.underlying4 rfl (by unfold Legible; kernel_rfl) hb⟩
theorem max_row : Rows.StageMaxSaid :=
  OpenClaim.holds_of_wide 6 Tryd.f6 rfl rfl rfl rfl rfl rfl rfl ⟨rfl, rfl, rfl, rfl, rfl⟩ rfl rfl rfl rfl rfl (by kernel_rfl) Tryd.func6 (by kernel_rfl)
    (of_decide_eq_true (by kernel_rfl)) (by unfold Func.isWrapper; first | (rw [if_pos (by decide +kernel)]; kernel_rfl) | (rw [if_neg (by decide +kernel)]; exact ⟨rfl, rfl⟩))
    (fun os started H enc _ => max_lifted os started H enc)
/-- The statement: the row, with its two variables tied to the program's text. -/
theorem max_holds : Rows.StageMaxCardSaid :=
  Claim7.holds_tied_plain_at .later [] [.data, .data] true (true, "eb22ec1ed816607768e23841f26954d3e8ed71bf626294bf4b08e00a6f345e0d") false
    max_row (fun _ h => by cases h) (by kernel_rfl) (fun _ h => by cases h) stageMax_row_tie rfl ⟨rfl, rfl⟩ (by kernel_rfl) rfl
    (fun f fn hf hfn => by
      obtain rfl : f = 6 := Option.some.inj ((show _ = some 6 by kernel_rfl).symm.trans hf) |>.symm
      obtain rfl : fn = Tryd.f6 := (Option.some.inj (Tryd.func6.symm.trans hfn)).symm
      exact ⟨by kernel_rfl, fun j t ht => by
        rw [Tryd.params6] at ht
        have hm : t ∈ [5] := by simpa using Array.mem_of_getElem? ht
        have hall : ([5].all fun u => !Tryd.prog.wantsStandIn u) = true := by kernel_rfl
        exact (show Tryd.prog.wantsStandIn t = false by simpa using List.all_eq_true.1 hall t hm)⟩)
    (by kernel_rfl)
end
end Go.Proofs.YtjgapjbaidgolaaDoor
