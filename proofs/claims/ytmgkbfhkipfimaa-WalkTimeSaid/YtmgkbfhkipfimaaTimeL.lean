/-
  PROVED HERE: with the same n peers, over 2 n - 1 calls each comes at least once, whatever the walk did ahead of that, and whatever is drawn. No condition.
-/
import Derived.Test.YtmgkbfhkipfimaaLawT
import Derived.Test.YtmgkbfhkipfimaaWlkO
set_option maxRecDepth 20000
namespace Go.Proofs.Ytmgkbfhkipfimaa
open Go Go.RowKit Sets
section
open Go.ChangeShapes Go.WideShapes Go.ChangeAt
open Go.ChangeMaps (open_string)
set_option maxRecDepth 100000 in
theorem lawTime_lifted (os : Os) (started : os.Started) (H : Type) (enc : TypeId × Value → H) :
    ReturnsInHanded {} Try.checked os 7 .any (Rows.walkTimeSpec.pre6 enc Try.prog Try.f7 Rows.walkTimeRow.domain false) (Rows.walkTimeSpec.post enc Try.prog Try.f7 false true false false) := by
  refine returnsInHanded_of_change_sized (C := Try.checked) Try.own started (by kernel_rfl) Try.func7
    (ChangeSpec.witness6 (enc := enc) (C := Try.checked) false ⟨#[], #[.slice none 0 0, .slice none 0 0, .slice none 0 0], []⟩ 8 (by kernel_rfl) (by kernel_rfl) (by kernel_rfl) (by kernel_rfl)) ?_
  intro W base args ds gs before hval0 hW _ hsz0 _
  have hval : ∀ (j : Nat) t v, Try.f7.params[j]? = some t → args[j]? = some v → Value.okWide Try.prog W .any base t v := hval0
  have hsz : (DataW.weightsEach Try.prog (Try.f7.params.toList ++ Rows.walkTimeSpec.plain.varTypes Try.prog) (ds ++ gs)).all (· ≤ reachBytes) = true := hsz0
  have hW' := hW
  obtain ⟨p, q, hA0, hV, rfl, _, _⟩ := hW
  have hA : DataW.TrodAll enc Try.prog W 0 (fun _ => true) true Try.f7.params.toList args.toList ds p := hA0
  rw [Try.params7] at hA hval hsz
  obtain ⟨v0, v1, v2, d0, d1, d2, p0, p1, p2, rfl, rfl, rfl, h0, h1, h2⟩ := trodAll_three hA
  obtain ⟨rfl, rfl⟩ := trodVars_none hV
  obtain ⟨l0, I0, R0⟩ := open_steps (hval 0 35 v0 rfl rfl) h0 (fun k hk => sized_weights hsz (j := 0) (t := 35) rfl rfl k hk)
  obtain ⟨l1, I1⟩ := open_ids (hval 1 27 v1 rfl rfl) h1
  obtain ⟨l2, I2, R2⟩ := open_draws (hval 2 46 v2 rfl rfl) h2
  refine (lawTime_any v0 l0 v1 l1 v2 l2 W I0 R0 I1 I2 R2).mono fun e W' ⟨he, hb⟩ => ?_
  subst he
  exact ⟨_, rfl, law_post hW' rfl (by kernel_rfl) Try.underlying4 rfl (by unfold Legible; kernel_rfl) hb⟩
/-- The statement. -/
theorem lawTime_holds : Rows.WalkTimeSaid :=
  OpenClaim.holds_of_wide 7 Try.f7 rfl rfl rfl rfl rfl rfl rfl ⟨rfl, rfl, rfl, rfl, rfl⟩ rfl rfl rfl rfl rfl (by kernel_rfl) Try.func7 (by kernel_rfl)
    (of_decide_eq_true (by kernel_rfl)) (by unfold Func.isWrapper; first | (rw [if_pos (by decide +kernel)]; kernel_rfl) | (rw [if_neg (by decide +kernel)]; exact ⟨rfl, rfl⟩))
    (fun os started H enc _ => lawTime_lifted os started H enc)
end
end Go.Proofs.Ytmgkbfhkipfimaa
