/-
  PROVED HERE: for any two lists of rows, any floors and any ID RowsGone of package coveylaw06 returns true and leaves its arguments as they were: without those that are Removed, and then joined, and so once more, rows are the same as joined first; none of them is anywhere then.
-/
import Derived.Test.YtofanciaacdjfaaGoneLaw
namespace Go.Proofs.Ytofanciaacdjfaa
open Go Go.RowKit Sets RowSets
theorem rowsGone_any (v0 : Value) (l0 : List Row) (v1 : Value) (l1 : List Row) (v2 : Value) (l2 : List Id2) (x y : Int) (w : World) (h0 : RowsAt w v0 l0) (h1 : RowsAt w v1 l1) (h2 : Ids w v2 l2) :
    Calls Try.prog 6 #[v0, v1, v2, .agg #[.int .i64 x, .int .i64 y]] w fun e w' => e = .returned (.bool true) ∧ Below w.heap.size w w' := by
  rcases a0 : longB l0 with _ | _
  · rcases a1 : longB l1 with _ | _
    · rcases a2 : decide (80 < (l2.length : Int)) with _ | _
      · rcases b0 : mayB l0 with _ | _
        · exact gone_may0 v0 l0 v1 l1 v2 l2 x y w h0 h1 h2 a0 a1 a2 b0
        · rcases b1 : mayB l1 with _ | _
          · exact gone_may1 v0 l0 v1 l1 v2 l2 x y w h0 h1 h2 a0 a1 a2 b0 b1
          · exact gone_ok v0 l0 v1 l1 v2 l2 x y w h0 h1 h2 a0 a1 a2 b0 b1
      · exact gone_long2 v0 l0 v1 l1 v2 l2 x y w h0 h1 h2 a0 a1 a2
    · exact gone_long1 v0 l0 v1 l1 v2 l2 x y w h0 h1 h2 a0 a1
  · exact gone_long0 v0 l0 v1 l1 v2 l2 x y w h0 h1 h2 a0
section
open Go.ChangeShapes Go.WideShapes Go.ChangeAt
open Go.ChangeMaps (open_string)
set_option maxRecDepth 100000 in
theorem rowsGone_lifted (os : Os) (started : os.Started) (H : Type) (enc : TypeId × Value → H) :
    ReturnsInHanded {} Try.checked os 6 .any (Rows.rowsGoneSpec.pre6 enc Try.prog Try.f6 Rows.rowsGoneRow.domain false) (Rows.rowsGoneSpec.post enc Try.prog Try.f6 false true false false) := by
  refine returnsInHanded_of_change_sized (C := Try.checked) Try.own started (by kernel_rfl) Try.func6
    (ChangeSpec.witness6 (enc := enc) (C := Try.checked) false ⟨#[], #[.slice none 0 0, .slice none 0 0, .slice none 0 0, .agg #[.int .i64 0, .int .i64 0]], []⟩ 8 (by kernel_rfl) (by kernel_rfl) (by kernel_rfl) (by kernel_rfl)) ?_
  intro W base args ds gs before hval0 hW _ _ _
  have hval : ∀ (j : Nat) t v, Try.f6.params[j]? = some t → args[j]? = some v → Value.okWide Try.prog W .any base t v := hval0
  have hW' := hW
  obtain ⟨p, q, hA0, hV, rfl, _, _⟩ := hW
  have hA : DataW.TrodAll enc Try.prog W 0 (fun _ => true) true Try.f6.params.toList args.toList ds p := hA0
  rw [Try.params6] at hA hval
  obtain ⟨v0, v1, v2, v3, d0, d1, d2, d3, p0, p1, p2, p3, rfl, rfl, rfl, h0, h1, h2, h3⟩ := trodAll_four hA
  obtain ⟨rfl, rfl⟩ := trodVars_none hV
  obtain ⟨l0, I0, U0⟩ := open_rows (hval 0 27 v0 rfl rfl) h0
  obtain ⟨l1, I1, U1⟩ := open_rows (hval 1 27 v1 rfl rfl) h1
  obtain ⟨l2, I2⟩ := open_ids (hval 2 24 v2 rfl rfl) h2
  obtain ⟨a3, b3, rfl⟩ := open_id (hval 3 23 v3 rfl rfl) h3
  refine (rowsGone_any v0 l0 v1 l1 v2 l2 a3 b3 W I0 I1 I2).mono fun e W' ⟨he, hb⟩ => ?_
  subst he
  exact ⟨_, rfl, law_post hW' rfl (by kernel_rfl) Try.underlying4 rfl (by unfold Legible; kernel_rfl) hb⟩
/-- The statement. -/
theorem rowsGone_holds : Rows.RowsGoneSaid :=
  OpenClaim.holds_of_wide 6 Try.f6 rfl rfl rfl rfl rfl rfl rfl ⟨rfl, rfl, rfl, rfl, rfl⟩ rfl rfl rfl rfl rfl (by kernel_rfl) Try.func6 (by kernel_rfl)
    (of_decide_eq_true (by kernel_rfl)) (by unfold Func.isWrapper; first | (rw [if_pos (by decide +kernel)]; kernel_rfl) | (rw [if_neg (by decide +kernel)]; exact ⟨rfl, rfl⟩))
    (fun os started H enc _ => rowsGone_lifted os started H enc)
end

end Go.Proofs.Ytofanciaacdjfaa
