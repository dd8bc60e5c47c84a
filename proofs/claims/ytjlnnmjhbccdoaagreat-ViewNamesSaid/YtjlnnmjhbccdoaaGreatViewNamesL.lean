/-
  PROVED HERE: ViewNames of package coveylaw08 returns true: the examples; what may not be. It has no arguments. No condition.
-/
import Derived.Test.YtjlnnmjhbccdoaaGreatRows
import Derived.ProofKit
import Derived.SizedLaws
import Derived.Below
import Derived.Carry
import Derived.Test.YtjlnnmjhbccdoaaGreatBk00
import Derived.Test.YtjlnnmjhbccdoaaGreatBk01
import Derived.Test.YtjlnnmjhbccdoaaGreatBk02
import Derived.Test.YtjlnnmjhbccdoaaGreatBk03
import Derived.Test.YtjlnnmjhbccdoaaGreatBk04
import Derived.Test.YtjlnnmjhbccdoaaGreatBk05
import Derived.Test.YtjlnnmjhbccdoaaGreatBk06
import Derived.Test.YtjlnnmjhbccdoaaGreatBk07
import Derived.Test.YtjlnnmjhbccdoaaGreatBk08
import Derived.Test.YtjlnnmjhbccdoaaGreatBk09
import Derived.Test.YtjlnnmjhbccdoaaGreatBk10
import Derived.Test.YtjlnnmjhbccdoaaGreatBk11
import Derived.Test.YtjlnnmjhbccdoaaGreatBk12
import Derived.Test.YtjlnnmjhbccdoaaGreatBk13
import Derived.Test.YtjlnnmjhbccdoaaGreatBk14
import Derived.Test.YtjlnnmjhbccdoaaGreatBk15
import Derived.Test.YtjlnnmjhbccdoaaGreatBk16
import Derived.Test.YtjlnnmjhbccdoaaGreatBk17
import Derived.Test.YtjlnnmjhbccdoaaGreatBk18
import Derived.Test.YtjlnnmjhbccdoaaGreatBk19
import Derived.Test.YtjlnnmjhbccdoaaGreatBk20
import Derived.Test.YtjlnnmjhbccdoaaGreatBk21
import Derived.Test.YtjlnnmjhbccdoaaGreatBk22
import Derived.Test.YtjlnnmjhbccdoaaGreatBk23
import Derived.Test.YtjlnnmjhbccdoaaGreatBk24
import Derived.Test.YtjlnnmjhbccdoaaGreatBk25
import Derived.Test.YtjlnnmjhbccdoaaGreatBk26
import Derived.Test.YtjlnnmjhbccdoaaGreatBk27
import Derived.Test.YtjlnnmjhbccdoaaGreatBk28
import Derived.Test.YtjlnnmjhbccdoaaGreatBk29
import Derived.Test.YtjlnnmjhbccdoaaGreatBk30
import Derived.Test.YtjlnnmjhbccdoaaGreatBn00
import Derived.Test.YtjlnnmjhbccdoaaGreatBn01
import Derived.Test.YtjlnnmjhbccdoaaGreatBn02
import Derived.Test.YtjlnnmjhbccdoaaGreatBn03
import Derived.Test.YtjlnnmjhbccdoaaGreatBn04
set_option maxRecDepth 20000
namespace Go.Proofs.YtjlnnmjhbccdoaaGreat
open Go Go.RowKit
section
open Go.ChangeShapes Go.WideShapes Go.ChangeAt
set_option maxRecDepth 100000 in
theorem viewNames_lifted (os : Os) (started : os.Started) (H : Type) (enc : TypeId × Value → H) :
    ReturnsInHanded {} Tryz.checked os 4 .any (Rows.viewNamesSpec.pre6 enc Tryz.prog Tryz.f4 Rows.viewNamesRow.domain false) (Rows.viewNamesSpec.post enc Tryz.prog Tryz.f4 false true false false) := by
  refine returnsInHanded_of_change_sized (C := Tryz.checked) Tryz.own started (by kernel_rfl) Tryz.func4
    (ChangeSpec.witness6 (enc := enc) (C := Tryz.checked) false ⟨#[], #[], []⟩ 8 (by kernel_rfl) (by kernel_rfl) (by kernel_rfl) (by kernel_rfl)) ?_
  intro W base args ds gs before _ hW _ _ _
  have hW' := hW
  obtain ⟨p, q, hA0, hV, rfl, _, _⟩ := hW
  have hA : DataW.TrodAll enc Tryz.prog W 0 (fun _ => true) true Tryz.f4.params.toList args.toList ds p := hA0
  rw [Tryz.params4] at hA
  obtain ⟨rfl, rfl, rfl⟩ := trodAll_none hA
  obtain ⟨rfl, rfl⟩ := trodVars_none hV
  refine (viewNames_any W).mono fun e W' ⟨he, hb⟩ => ?_
  subst he
  exact ⟨_, rfl, law_post hW' rfl (by kernel_rfl) Tryz.underlying4 rfl (by unfold Legible; kernel_rfl) hb⟩
/-- The statement. -/
theorem viewNames_holds : Rows.ViewNamesSaid :=
  OpenClaim.holds_of_wide 4 Tryz.f4 rfl rfl rfl rfl rfl rfl rfl ⟨rfl, rfl, rfl, rfl, rfl⟩ rfl rfl rfl rfl rfl (by kernel_rfl) Tryz.func4 (by kernel_rfl)
    (of_decide_eq_true (by kernel_rfl)) (by unfold Func.isWrapper; first | (rw [if_pos (by decide +kernel)]; kernel_rfl) | (rw [if_neg (by decide +kernel)]; exact ⟨rfl, rfl⟩))
    (fun os started H enc _ => viewNames_lifted os started H enc)
end
end Go.Proofs.YtjlnnmjhbccdoaaGreat
