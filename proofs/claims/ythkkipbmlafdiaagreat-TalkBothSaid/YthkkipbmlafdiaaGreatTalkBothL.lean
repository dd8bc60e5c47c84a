/-
  PROVED HERE: for any acts of three nodes and any two of them TalkBoth of package coveylaw18 returns true and leaves its arguments as they were: where the two tell each other, beginning with a Status, nothing is answered any more behind five frames at most; then both know the same, which is what both knew, joined, and both are in Seen; where they knew the same already, Seen too, and both were in it, nothing is answered. No condition.
-/
import Derived.Test.YthkkipbmlafdiaaGreatB00
import Derived.Test.YthkkipbmlafdiaaGreatB49
import Derived.Test.YthkkipbmlafdiaaGreatB50
set_option maxRecDepth 20000
namespace Go.Proofs.YthkkipbmlafdiaaGreat
section
open Go Go.RowKit
section
open Go.RowKit Go.WideShapes Go.ChangeShapes Go.ChangeAt
set_option maxRecDepth 100000 in
theorem talkBoth_lifted (os : Os) (started : os.Started) (H : Type) (enc : TypeId × Value → H) :
  ReturnsInHanded {} Tryz.checked os 6 .any (Rows.talkBothSpec.pre6 enc Tryz.prog Tryz.f6 Rows.talkBothRow.domain false) (Rows.talkBothSpec.post enc Tryz.prog Tryz.f6 false true false false) := by
 refine returnsInHanded_of_change_sized (C := Tryz.checked) Tryz.own started (by kernel_rfl) Tryz.func6
  (ChangeSpec.witness6 (enc := enc) (C := Tryz.checked) false ⟨#[], #[.slice none 0 0, .int .u8 0, .int .u8 0], []⟩ 8 (by kernel_rfl) (by kernel_rfl) (by kernel_rfl) (by kernel_rfl)) ?_
 intro W base args ds gs before hval0 hW _ _ _;have hval : ∀ (j : Nat) t v, Tryz.f6.params[j]? = some t → args[j]? = some v → Value.okWide Tryz.prog W .any base t v := hval0
 have hW' := hW
 obtain ⟨p, q, hA0, hV, rfl, _, _⟩ := hW;have hA : DataW.TrodAll enc Tryz.prog W 0 (fun _ => true) true Tryz.f6.params.toList args.toList ds p := hA0
 rw [Tryz.params6] at hA hval;obtain ⟨v0, v1, v2, d0, d1, d2, p0, p1, p2, rfl, rfl, rfl, h0, h1, h2⟩ := trodAll_three hA;obtain ⟨rfl, rfl⟩ := trodVars_none hV;obtain ⟨l0, I0⟩ := open_acts (hval 0 55 v0 rfl rfl) h0;obtain ⟨x1, rfl, rfl, rfl, w1⟩ := open_int Tryz.underlying5 (hval 1 5 v1 rfl rfl) h1;obtain ⟨x2, rfl, rfl, rfl, w2⟩ := open_int Tryz.underlying5 (hval 2 5 v2 rfl rfl) h2;refine (both_any v0 l0 x1 x2 W I0 (isU8_of w1) (isU8_of w2)).mono fun e W' ⟨he, hb⟩ => ?_
 subst he;exact ⟨_, rfl, law_post hW' rfl (by kernel_rfl) Tryz.underlying4 rfl (by unfold Legible; kernel_rfl) hb⟩
theorem talkBoth_holds : Rows.TalkBothSaid :=
 OpenClaim.holds_of_wide 6 Tryz.f6 rfl rfl rfl rfl rfl rfl rfl ⟨rfl, rfl, rfl, rfl, rfl⟩ rfl rfl rfl rfl rfl (by kernel_rfl) Tryz.func6 (by kernel_rfl)
  (of_decide_eq_true (by kernel_rfl)) (by unfold Func.isWrapper; first | (rw [if_pos (by decide +kernel)]; kernel_rfl) | (rw [if_neg (by decide +kernel)]; exact ⟨rfl, rfl⟩))
  (fun os started H enc _ => talkBoth_lifted os started H enc)
end
end
end Go.Proofs.YthkkipbmlafdiaaGreat
