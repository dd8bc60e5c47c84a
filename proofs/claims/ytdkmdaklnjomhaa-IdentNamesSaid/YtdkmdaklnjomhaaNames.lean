/-
  PROVED HERE: IdentNames of package coveylaw03 returns true: the document's examples for layer 3, the limits, and what stands ahead of what. It has no arguments and no condition.
-/
import Derived.Test.YtdkmdaklnjomhaaWorks
import Derived.Test.YtdkmdaklnjomhaaBase
namespace Go.Proofs.Ytdkmdaklnjomhaa
open Go.RowKit Sets
set_option maxHeartbeats 8000000 in
set_option maxRecDepth 100000 in
theorem names_any (w : World) : Calls Try.prog 3 #[] w fun e w' => e = .returned (.bool true) ∧ Below w.heap.size w w' := by
  have E1 := Lib.hid (show vid 1 1 = true by decide +kernel)
  have E2 := Lib.hid (show vid 12 1048576 = true by decide +kernel)
  have E3 := Lib.hid (show vid 12 1048577 = false by decide +kernel)
  have E4 := Lib.hid (show vid 0 1 = false by decide +kernel)
  have E5 := Lib.hid (show vid (-1) (-1) = false by decide +kernel)
  have E6 := Lib.hid (show lss 1 9 2 1 = true by decide +kernel)
  have E7 := Lib.hid (show lss 2 1 2 2 = true by decide +kernel)
  have E8 := Lib.hid (show lss 2 2 2 2 = false by decide +kernel)
  have E9 := Lib.hid (show cmpZ 3 0 2 7 = 1 by decide +kernel)
  have E10 := Lib.hid (show risesB [] = true by decide +kernel)
  have E11 := Lib.hid (show risesB [(1, 1)] = true by decide +kernel)
  have E12 := Lib.hid (show risesB [(1, 1), (1, 2), (2, 1)] = true by decide +kernel)
  have E13 := Lib.hid (show risesB [(1, 1), (1, 1)] = false by decide +kernel)
  have E14 := Lib.hid (show risesB [(2, 1), (1, 2)] = false by decide +kernel)
  have F1 := Lib.hid (show setOf [] = [] from rfl)
  have E16 := Lib.hid (show sameB (setOf [(2, 1), (1, 1), (2, 1)]) (setOf [(1, 1), (2, 1)]) = true by decide +kernel)
  have E17 := Lib.hid (show sameB (setOf [(1, 1)]) (setOf []) = false by decide +kernel)
  have E18 := Lib.hid (show sameB (setOf []) (setOf []) = true by decide +kernel)
  have F2 := Lib.hid (show both [(1, 1)] [(2, 1)] = [] by decide +kernel)
  go_enter Try.func3, Try.ntmps3
  have B0 := Lib.hid (show Below w.heap.size w w from Below.refl _ _)
  go_wp2_with fail
  refine (works_any _).mono ?_
  rintro e w1 ⟨rfl, hb⟩
  have B1 := Lib.hid (below_after B0.out hb (Nat.le_refl _))
  clear hb
  go_wp2_with fail
  refine (may_any 1 1 _).mono ?_
  rw [E1.out]
  rintro e w2 ⟨rfl, hb⟩
  have B2 := Lib.hid (below_after B1.out hb (Nat.le_refl _))
  clear hb
  go_wp2_with fail
  refine (may_any 12 1048576 _).mono ?_
  rw [E2.out]
  rintro e w3 ⟨rfl, hb⟩
  have B3 := Lib.hid (below_after B2.out hb (Nat.le_refl _))
  clear hb
  go_wp2_with fail
  refine (may_any 12 1048577 _).mono ?_
  rw [E3.out]
  rintro e w4 ⟨rfl, hb⟩
  have B4 := Lib.hid (below_after B3.out hb (Nat.le_refl _))
  clear hb
  go_wp2_with fail
  refine (may_any 0 1 _).mono ?_
  rw [E4.out]
  rintro e w5 ⟨rfl, hb⟩
  have B5 := Lib.hid (below_after B4.out hb (Nat.le_refl _))
  clear hb
  go_wp2_with fail
  refine (may_any (-1) (-1) _).mono ?_
  rw [E5.out]
  rintro e w6 ⟨rfl, hb⟩
  have B6 := Lib.hid (below_after B5.out hb (Nat.le_refl _))
  clear hb
  go_wp2_with fail
  refine (less_any 1 9 2 1 _).mono ?_
  rw [E6.out]
  rintro e w7 ⟨rfl, hb⟩
  have B7 := Lib.hid (below_after B6.out hb (Nat.le_refl _))
  clear hb
  go_wp2_with fail
  refine (less_any 2 1 2 2 _).mono ?_
  rw [E7.out]
  rintro e w8 ⟨rfl, hb⟩
  have B8 := Lib.hid (below_after B7.out hb (Nat.le_refl _))
  clear hb
  go_wp2_with fail
  refine (less_any 2 2 2 2 _).mono ?_
  rw [E8.out]
  rintro e w9 ⟨rfl, hb⟩
  have B9 := Lib.hid (below_after B8.out hb (Nat.le_refl _))
  clear hb
  go_wp2_with fail
  refine (compare_any 3 0 2 7 _).mono ?_
  rw [E9.out]
  rintro e w10 ⟨rfl, hb⟩
  have B10 := Lib.hid (below_after B9.out hb (Nat.le_refl _))
  clear hb
  go_wp2_with fail
  refine (rising_any _ [] _ (Ids.nil _) (by decide)).mono ?_
  rw [E10.out]
  rintro e w11 ⟨rfl, hb⟩
  have B11 := Lib.hid (below_after B10.out hb (Nat.le_refl _))
  clear hb
  go_wp2_with fail
  refine (of_lit [(1, 1)] 2 rfl (by decide) w11).mono ?_
  rintro e w12 ⟨a11, rfl, hi, hb⟩
  have B12 := Lib.hid (below_after B11.out hb (Nat.le_refl _))
  have Ia1112 := Lib.hid hi
  clear hi
  clear hb
  go_wp2_with fail
  refine (rising_any a11 [(1, 1)] _ Ia1112.out (by decide)).mono ?_
  rw [E11.out]
  rintro e w13 ⟨rfl, hb⟩
  have B13 := Lib.hid (below_after B12.out hb (Nat.le_refl _))
  clear hb
  go_wp2_with fail
  refine (of_lit [(1, 1), (1, 2), (2, 1)] 6 rfl (by decide) w13).mono ?_
  rintro e w14 ⟨a13, rfl, hi, hb⟩
  have B14 := Lib.hid (below_after B13.out hb (Nat.le_refl _))
  have Ia1314 := Lib.hid hi
  clear hi
  clear hb
  go_wp2_with fail
  refine (rising_any a13 [(1, 1), (1, 2), (2, 1)] _ Ia1314.out (by decide)).mono ?_
  rw [E12.out]
  rintro e w15 ⟨rfl, hb⟩
  have B15 := Lib.hid (below_after B14.out hb (Nat.le_refl _))
  clear hb
  go_wp2_with fail
  refine (of_lit [(1, 1), (1, 1)] 4 rfl (by decide) w15).mono ?_
  rintro e w16 ⟨a15, rfl, hi, hb⟩
  have B16 := Lib.hid (below_after B15.out hb (Nat.le_refl _))
  have Ia1516 := Lib.hid hi
  clear hi
  clear hb
  go_wp2_with fail
  refine (rising_any a15 [(1, 1), (1, 1)] _ Ia1516.out (by decide)).mono ?_
  rw [E13.out]
  rintro e w17 ⟨rfl, hb⟩
  have B17 := Lib.hid (below_after B16.out hb (Nat.le_refl _))
  clear hb
  go_wp2_with fail
  refine (of_lit [(2, 1), (1, 2)] 4 rfl (by decide) w17).mono ?_
  rintro e w18 ⟨a17, rfl, hi, hb⟩
  have B18 := Lib.hid (below_after B17.out hb (Nat.le_refl _))
  have Ia1718 := Lib.hid hi
  clear hi
  clear hb
  go_wp2_with fail
  refine (rising_any a17 [(2, 1), (1, 2)] _ Ia1718.out (by decide)).mono ?_
  rw [E14.out]
  rintro e w19 ⟨rfl, hb⟩
  have B19 := Lib.hid (below_after B18.out hb (Nat.le_refl _))
  clear hb
  go_wp2_with fail
  refine (set_any _ [] _ (Ids.nil _) (by decide)).mono ?_
  rw [F1.out]
  rintro e w20 ⟨z, rfl, hi, hb⟩
  have B20 := Lib.hid (below_after B19.out hb (Nat.le_refl _))
  have Iz20 := Lib.hid hi
  clear hi
  clear hb
  obtain ⟨A0, c0, rfl, hz0⟩ := Iz20.out
  clear hz0
  go_wp2_with fail
  refine (of_lit [(2, 1), (1, 1), (2, 1)] 6 rfl (by decide) w20).mono ?_
  rintro e w21 ⟨a, rfl, hi, hb⟩
  have B21 := Lib.hid (below_after B20.out hb (Nat.le_refl _))
  have Ia21 := Lib.hid hi
  clear hi
  clear hb
  go_wp2_with fail
  refine (of_lit [(1, 1), (2, 1)] 4 rfl (by decide) w21).mono ?_
  rintro e w22 ⟨b, rfl, hi, hb⟩
  have B22 := Lib.hid (below_after B21.out hb (Nat.le_refl _))
  have Ia22 := Lib.hid (Ia21.out.below hb)
  have Ib22 := Lib.hid hi
  clear hi
  clear hb
  go_wp2_with fail
  refine (same_any a b [(2, 1), (1, 1), (2, 1)] [(1, 1), (2, 1)] _ Ia22.out Ib22.out (by decide) (by decide)).mono ?_
  rw [E16.out]
  rintro e w23 ⟨rfl, hb⟩
  have B23 := Lib.hid (below_after B22.out hb (Nat.le_refl _))
  clear hb
  go_wp2_with fail
  refine (of_lit [(1, 1)] 2 rfl (by decide) w23).mono ?_
  rintro e w24 ⟨d, rfl, hi, hb⟩
  have B24 := Lib.hid (below_after B23.out hb (Nat.le_refl _))
  have Id24 := Lib.hid hi
  clear hi
  clear hb
  go_wp2_with fail
  refine (same_any d _ [(1, 1)] [] _ Id24.out (Ids.nil _) (by decide) (by decide)).mono ?_
  rw [E17.out]
  rintro e w25 ⟨rfl, hb⟩
  have B25 := Lib.hid (below_after B24.out hb (Nat.le_refl _))
  clear hb
  go_wp2_with fail
  refine (same_any _ _ [] [] _ (Ids.nil _) (Ids.nil _) (by decide) (by decide)).mono ?_
  rw [E18.out]
  rintro e w26 ⟨rfl, hb⟩
  have B26 := Lib.hid (below_after B25.out hb (Nat.le_refl _))
  clear hb
  go_wp2_with fail
  refine (of_lit [(1, 1)] 2 rfl (by decide) w26).mono ?_
  rintro e w27 ⟨x, rfl, hi, hb⟩
  have B27 := Lib.hid (below_after B26.out hb (Nat.le_refl _))
  have Ix27 := Lib.hid hi
  clear hi
  clear hb
  go_wp2_with fail
  refine (of_lit [(2, 1)] 2 rfl (by decide) w27).mono ?_
  rintro e w28 ⟨y, rfl, hi, hb⟩
  have B28 := Lib.hid (below_after B27.out hb (Nat.le_refl _))
  have Ix28 := Lib.hid (Ix27.out.below hb)
  have Iy28 := Lib.hid hi
  clear hi
  clear hb
  go_wp2_with fail
  refine (both_any x y [(1, 1)] [(2, 1)] _ Ix28.out Iy28.out (by decide) (by decide)).mono ?_
  rw [F2.out]
  rintro e w29 ⟨q, rfl, hi, hb⟩
  have B29 := Lib.hid (below_after B28.out hb (Nat.le_refl _))
  have Iq29 := Lib.hid hi
  clear hi
  clear hb
  obtain ⟨A1, c1, rfl, hz1⟩ := Iq29.out
  clear hz1
  go_wp2_with fail
  go_ret
  exact ⟨rfl, B29.out⟩
section
open Go.ChangeShapes Go.WideShapes Go.ChangeAt
open Go.ChangeMaps (open_string)
set_option maxRecDepth 100000 in
theorem names_lifted (os : Os) (started : os.Started) (H : Type) (enc : TypeId × Value → H) :
    ReturnsInHanded {} Try.checked os 3 .any (Rows.identNamesSpec.pre6 enc Try.prog Try.f3 Rows.identNamesRow.domain false) (Rows.identNamesSpec.post enc Try.prog Try.f3 false true false false) := by
  refine returnsInHanded_of_change_sized (C := Try.checked) Try.own started (by kernel_rfl) Try.func3
    (ChangeSpec.witness6 (enc := enc) (C := Try.checked) false ⟨#[], #[], []⟩ 8 (by kernel_rfl) (by kernel_rfl) (by kernel_rfl) (by kernel_rfl)) ?_
  intro W base args ds gs before hval0 hW _ _ _
  have hW' := hW
  obtain ⟨p, q, hA0, hV, rfl, _, _⟩ := hW
  have hA : DataW.TrodAll enc Try.prog W 0 (fun _ => true) true Try.f3.params.toList args.toList ds p := hA0
  rw [Try.params3] at hA
  obtain ⟨rfl, rfl, rfl⟩ := trodAll_none hA
  obtain ⟨rfl, rfl⟩ := trodVars_none hV
  refine (names_any W).mono fun e W' ⟨he, hb⟩ => ?_
  subst he
  exact ⟨_, rfl, law_post hW' rfl (by kernel_rfl) Try.underlying4 rfl (by unfold Legible; kernel_rfl) hb⟩
/-- The statement. -/
theorem names_holds : Rows.IdentNamesSaid :=
  OpenClaim.holds_of_wide 3 Try.f3 rfl rfl rfl rfl rfl rfl rfl ⟨rfl, rfl, rfl, rfl, rfl⟩ rfl rfl rfl rfl rfl (by kernel_rfl) Try.func3 (by kernel_rfl)
    (of_decide_eq_true (by kernel_rfl)) (by unfold Func.isWrapper; first | (rw [if_pos (by decide +kernel)]; kernel_rfl) | (rw [if_neg (by decide +kernel)]; exact ⟨rfl, rfl⟩))
    (fun os started H enc _ => names_lifted os started H enc)
end

end Go.Proofs.Ytdkmdaklnjomhaa
