/-
  PROVED HERE: for any two views and any ID ViewBack of package coveylaw08 returns true and leaves its arguments as they were: in a view that covers another one no member has a lesser status, or is none and not Removed, no floor is less, no clock behind; and numbers do not grow, but from none. No condition.
-/
import Derived.Test.YtjlnnmjhbccdoaaGreatBk00
import Derived.Test.YtjlnnmjhbccdoaaGreatBk31
import Derived.Test.YtjlnnmjhbccdoaaGreatBk32
set_option maxRecDepth 20000
namespace Go.Proofs.YtjlnnmjhbccdoaaGreat
open Go Go.RowKit
theorem viewBack_any (v0 : Value) (V : Vw) (v1 : Value) (U : Vw) (p q : Int) (w : World) (h : VAt w v0 V) (k : VAt w v1 U) :
    Calls Tryz.prog 5 #[v0, v1, .agg #[.int .i64 p, .int .i64 q]] w fun e w' => e = .returned (.bool true) ∧ Below w.heap.size w w' :=
  back_walk v0 v1 V U p q w h k _ _ _ _ _ _ _ _ _ _ _ _ _ _ _ _
    (Lib.hid fun hU hc => back_facts (V := V) (U := U) hU hc p q)
    (Lib.hid fun hf W v hm => get_any v V.m p q W hm (Nat.le_trans hf.m (by decide)))
    (Lib.hid fun hf W v hm => get_any v U.m p q W hm (Nat.le_trans hf.m (by decide)))
    (Lib.hid fun hf W v hm => gone_of v V.f p q W hm (Nat.le_trans hf.f (by decide)))
    (Lib.hid fun hf W v hm => gone_of v U.f p q W hm (Nat.le_trans hf.f (by decide)))
    (Lib.hid fun hf W v hm => floor_any v V.f p W hm (Nat.le_trans hf.f (by decide)))
    (Lib.hid fun hf W v hm => floor_any v U.f p W hm (Nat.le_trans hf.f (by decide)))
    (Lib.hid fun hf W v hm => get_anyCLK v V.c p q W hm (Nat.le_trans hf.c (by decide)))
    (Lib.hid fun hf W v hm => get_anyCLK v U.c p q W hm (Nat.le_trans hf.c (by decide)))
section
open Go.ChangeShapes Go.WideShapes Go.ChangeAt
set_option maxRecDepth 100000 in
theorem viewBack_lifted (os : Os) (started : os.Started) (H : Type) (enc : TypeId × Value → H) :
    ReturnsInHanded {} Tryz.checked os 5 .any (Rows.viewBackSpec.pre6 enc Tryz.prog Tryz.f5 Rows.viewBackRow.domain false) (Rows.viewBackSpec.post enc Tryz.prog Tryz.f5 false true false false) := by
  refine returnsInHanded_of_change_sized (C := Tryz.checked) Tryz.own started (by kernel_rfl) Tryz.func5
    (ChangeSpec.witness6 (enc := enc) (C := Tryz.checked) false ⟨#[], #[.agg #[.slice none 0 0, .slice none 0 0, .slice none 0 0, .slice none 0 0, .slice none 0 0], .agg #[.slice none 0 0, .slice none 0 0, .slice none 0 0, .slice none 0 0, .slice none 0 0], .agg #[.int .i64 0, .int .i64 0]], []⟩ 8 (by kernel_rfl) (by kernel_rfl) (by kernel_rfl) (by kernel_rfl)) ?_
  intro W base args ds gs before hval0 hW _ _ _
  have hval : ∀ (j : Nat) t v, Tryz.f5.params[j]? = some t → args[j]? = some v → Value.okWide Tryz.prog W .any base t v := hval0
  have hW' := hW
  obtain ⟨p, q, hA0, hV, rfl, _, _⟩ := hW
  have hA : DataW.TrodAll enc Tryz.prog W 0 (fun _ => true) true Tryz.f5.params.toList args.toList ds p := hA0
  rw [Tryz.params5] at hA hval
  obtain ⟨v0, v1, v2, d0, d1, d2, p0, p1, p2, rfl, rfl, rfl, h0, h1, h2⟩ := trodAll_three hA
  obtain ⟨rfl, rfl⟩ := trodVars_none hV
  obtain ⟨l0, I0⟩ := open_view (hval 0 27 v0 rfl rfl) h0
  obtain ⟨l1, I1⟩ := open_view (hval 1 27 v1 rfl rfl) h1
  obtain ⟨a2, b2, rfl⟩ := vopen_id (hval 2 29 v2 rfl rfl) h2
  refine (viewBack_any v0 l0 v1 l1 a2 b2 W I0 I1).mono fun e W' ⟨he, hb⟩ => ?_
  subst he
  exact ⟨_, rfl, law_post hW' rfl (by kernel_rfl) Tryz.underlying4 rfl (by unfold Legible; kernel_rfl) hb⟩
/-- The statement. -/
theorem viewBack_holds : Rows.ViewBackSaid :=
  OpenClaim.holds_of_wide 5 Tryz.f5 rfl rfl rfl rfl rfl rfl rfl ⟨rfl, rfl, rfl, rfl, rfl⟩ rfl rfl rfl rfl rfl (by kernel_rfl) Tryz.func5 (by kernel_rfl)
    (of_decide_eq_true (by kernel_rfl)) (by unfold Func.isWrapper; first | (rw [if_pos (by decide +kernel)]; kernel_rfl) | (rw [if_neg (by decide +kernel)]; exact ⟨rfl, rfl⟩))
    (fun os started H enc _ => viewBack_lifted os started H enc)
end
end Go.Proofs.YtjlnnmjhbccdoaaGreat
