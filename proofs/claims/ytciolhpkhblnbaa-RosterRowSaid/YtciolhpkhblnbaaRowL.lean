/-
  PROVED HERE: for any three lists of members and floors RosterRow of package coveylaw07 returns true and leaves its arguments as they were: Join may be turned about, and put in any brackets; of what may be and itself it is that; joined once more it changes nothing.
-/
import Derived.Test.YtciolhpkhblnbaaRow1
import Derived.Test.YtciolhpkhblnbaaOpen
import Derived.Test.YtciolhpkhblnbaaBase
namespace Go.Proofs.Ytciolhpkhblnbaa
open Go Go.RowKit Ros
section
open Go.ChangeShapes Go.WideShapes Go.ChangeAt
open Go.ChangeMaps (open_string)
set_option maxRecDepth 100000 in
theorem rosterRow_lifted (os : Os) (started : os.Started) (H : Type) (enc : TypeId × Value → H) :
    ReturnsInHanded {} Try.checked os 4 .any (Rows.rosterRowSpec.pre6 enc Try.prog Try.f4 Rows.rosterRowRow.domain false) (Rows.rosterRowSpec.post enc Try.prog Try.f4 false true false false) := by
  refine returnsInHanded_of_change_sized (C := Try.checked) Try.own started (by kernel_rfl) Try.func4
    (ChangeSpec.witness6 (enc := enc) (C := Try.checked) false ⟨#[], #[.agg #[.slice none 0 0, .slice none 0 0], .agg #[.slice none 0 0, .slice none 0 0], .agg #[.slice none 0 0, .slice none 0 0]], []⟩ 8 (by kernel_rfl) (by kernel_rfl) (by kernel_rfl) (by kernel_rfl)) ?_
  intro W base args ds gs before hval0 hW _ _ _
  have hval : ∀ (j : Nat) t v, Try.f4.params[j]? = some t → args[j]? = some v → Value.okWide Try.prog W .any base t v := hval0
  have hW' := hW
  obtain ⟨p, q, hA0, hV, rfl, _, _⟩ := hW
  have hA : DataW.TrodAll enc Try.prog W 0 (fun _ => true) true Try.f4.params.toList args.toList ds p := hA0
  rw [Try.params4] at hA hval
  obtain ⟨v0, v1, v2, d0, d1, d2, p0, p1, p2, rfl, rfl, rfl, h0, h1, h2⟩ := trodAll_three hA
  obtain ⟨rfl, rfl⟩ := trodVars_none hV
  obtain ⟨l0, I0, U0⟩ := open_ls (hval 0 27 v0 rfl rfl) h0
  obtain ⟨l1, I1, U1⟩ := open_ls (hval 1 27 v1 rfl rfl) h1
  obtain ⟨l2, I2, U2⟩ := open_ls (hval 2 27 v2 rfl rfl) h2
  refine (rosterRow_any v0 l0 v1 l1 v2 l2 W I0 I1 I2).mono fun e W' ⟨he, hb⟩ => ?_
  subst he
  exact ⟨_, rfl, law_post hW' rfl (by kernel_rfl) Try.underlying4 rfl (by unfold Legible; kernel_rfl) hb⟩
/-- The statement. -/
theorem rosterRow_holds : Rows.RosterRowSaid :=
  OpenClaim.holds_of_wide 4 Try.f4 rfl rfl rfl rfl rfl rfl rfl ⟨rfl, rfl, rfl, rfl, rfl⟩ rfl rfl rfl rfl rfl (by kernel_rfl) Try.func4 (by kernel_rfl)
    (of_decide_eq_true (by kernel_rfl)) (by unfold Func.isWrapper; first | (rw [if_pos (by decide +kernel)]; kernel_rfl) | (rw [if_neg (by decide +kernel)]; exact ⟨rfl, rfl⟩))
    (fun os started H enc _ => rosterRow_lifted os started H enc)
end

end Go.Proofs.Ytciolhpkhblnbaa
