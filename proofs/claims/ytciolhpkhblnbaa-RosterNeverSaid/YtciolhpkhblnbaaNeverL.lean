/-
  PROVED HERE: for any two lists of members and floors and any ID RosterNever of package coveylaw07 returns true and leaves its arguments as they were: in a Join no status of a member that may be is less than it was, no number (but from none) greater, no floor lower; who is gone is no member.
-/
import Derived.Test.YtciolhpkhblnbaaNever1
import Derived.Test.YtciolhpkhblnbaaBase
namespace Go.Proofs.Ytciolhpkhblnbaa
open Go Go.RowKit Ros
section
open Go.ChangeShapes Go.WideShapes Go.ChangeAt
open Go.ChangeMaps (open_string)
set_option maxRecDepth 100000 in
theorem rosterNever_lifted (os : Os) (started : os.Started) (H : Type) (enc : TypeId × Value → H) :
    ReturnsInHanded {} Try.checked os 6 .any (Rows.rosterNeverSpec.pre6 enc Try.prog Try.f6 Rows.rosterNeverRow.domain false) (Rows.rosterNeverSpec.post enc Try.prog Try.f6 false true false false) := by
  refine returnsInHanded_of_change_sized (C := Try.checked) Try.own started (by kernel_rfl) Try.func6
    (ChangeSpec.witness6 (enc := enc) (C := Try.checked) false ⟨#[], #[.agg #[.slice none 0 0, .slice none 0 0], .agg #[.slice none 0 0, .slice none 0 0], .agg #[.int .i64 0, .int .i64 0]], []⟩ 8 (by kernel_rfl) (by kernel_rfl) (by kernel_rfl) (by kernel_rfl)) ?_
  intro W base args ds gs before hval0 hW _ _ _
  have hval : ∀ (j : Nat) t v, Try.f6.params[j]? = some t → args[j]? = some v → Value.okWide Try.prog W .any base t v := hval0
  have hW' := hW
  obtain ⟨p, q, hA0, hV, rfl, _, _⟩ := hW
  have hA : DataW.TrodAll enc Try.prog W 0 (fun _ => true) true Try.f6.params.toList args.toList ds p := hA0
  rw [Try.params6] at hA hval
  obtain ⟨v0, v1, v2, d0, d1, d2, p0, p1, p2, rfl, rfl, rfl, h0, h1, h2⟩ := trodAll_three hA
  obtain ⟨rfl, rfl⟩ := trodVars_none hV
  obtain ⟨l0, I0, U0⟩ := open_ls (hval 0 27 v0 rfl rfl) h0
  obtain ⟨l1, I1, U1⟩ := open_ls (hval 1 27 v1 rfl rfl) h1
  obtain ⟨a2, b2, rfl⟩ := open_id (hval 2 30 v2 rfl rfl) h2
  refine (rosterNever_any v0 l0 v1 l1 a2 b2 W I0 I1).mono fun e W' ⟨he, hb⟩ => ?_
  subst he
  exact ⟨_, rfl, law_post hW' rfl (by kernel_rfl) Try.underlying4 rfl (by unfold Legible; kernel_rfl) hb⟩
/-- The statement. -/
theorem rosterNever_holds : Rows.RosterNeverSaid :=
  OpenClaim.holds_of_wide 6 Try.f6 rfl rfl rfl rfl rfl rfl rfl ⟨rfl, rfl, rfl, rfl, rfl⟩ rfl rfl rfl rfl rfl (by kernel_rfl) Try.func6 (by kernel_rfl)
    (of_decide_eq_true (by kernel_rfl)) (by unfold Func.isWrapper; first | (rw [if_pos (by decide +kernel)]; kernel_rfl) | (rw [if_neg (by decide +kernel)]; exact ⟨rfl, rfl⟩))
    (fun os started H enc _ => rosterNever_lifted os started H enc)
end

end Go.Proofs.Ytciolhpkhblnbaa
