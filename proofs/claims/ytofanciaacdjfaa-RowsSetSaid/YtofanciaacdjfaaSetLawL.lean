/-
  PROVED HERE: for any list of rows, any ID, any list of IDs and another ID RowsSet of package coveylaw06 returns true and leaves its arguments as they were: what was set is told by Get; other rows stay; set to the same once more nothing changes; no version is less; rows that may be may be still, if there are not too many.
-/
import Derived.Test.YtofanciaacdjfaaSetLaw
namespace Go.Proofs.Ytofanciaacdjfaa
open Go Go.RowKit Sets RowSets
theorem rowsSet_any (v0 : Value) (l0 : List Row) (x y : Int) (v2 : Value) (l2 : List Id2) (p q : Int) (w : World) (h0 : RowsAt w v0 l0) (u0 : ∀ r ∈ l0, -9223372036854775808 ≤ r.2.1) (h2 : Ids w v2 l2) :
    Calls Try.prog 7 #[v0, .agg #[.int .i64 x, .int .i64 y], v2, .agg #[.int .i64 p, .int .i64 q]] w fun e w' => e = .returned (.bool true) ∧ Below w.heap.size w w' := by
  rcases a0 : longB l0 with _ | _
  · rcases a2 : decide (60 < (l2.length : Int)) with _ | _
    · rcases b0 : mayB l0 with _ | _
      · exact set_may0 v0 l0 x y v2 l2 p q w h0 u0 h2 a0 a2 (setE l0 (x, y) l2).1 (setE l0 (x, y) l2).2 rfl b0
      · rcases setE_cases (x, y) l2 ((may_iff l0).1 b0).2.2 with he | he | he
        · exact set_e4 v0 l0 x y v2 l2 p q w h0 u0 h2 a0 a2 he b0
        · exact set_e40 v0 l0 x y v2 l2 p q w h0 u0 h2 a0 a2 he b0
        · exact set_ok v0 l0 x y v2 l2 p q w h0 u0 h2 a0 a2 he b0
    · exact set_long1 v0 l0 x y v2 l2 p q w h0 u0 h2 a0 a2
  · exact set_long0 v0 l0 x y v2 l2 p q w h0 u0 h2 a0
section
open Go.ChangeShapes Go.WideShapes Go.ChangeAt
open Go.ChangeMaps (open_string)
set_option maxRecDepth 100000 in
theorem rowsSet_lifted (os : Os) (started : os.Started) (H : Type) (enc : TypeId × Value → H) :
    ReturnsInHanded {} Try.checked os 7 .any (Rows.rowsSetSpec.pre6 enc Try.prog Try.f7 Rows.rowsSetRow.domain false) (Rows.rowsSetSpec.post enc Try.prog Try.f7 false true false false) := by
  refine returnsInHanded_of_change_sized (C := Try.checked) Try.own started (by kernel_rfl) Try.func7
    (ChangeSpec.witness6 (enc := enc) (C := Try.checked) false ⟨#[], #[.slice none 0 0, .agg #[.int .i64 0, .int .i64 0], .slice none 0 0, .agg #[.int .i64 0, .int .i64 0]], []⟩ 8 (by kernel_rfl) (by kernel_rfl) (by kernel_rfl) (by kernel_rfl)) ?_
  intro W base args ds gs before hval0 hW _ _ _
  have hval : ∀ (j : Nat) t v, Try.f7.params[j]? = some t → args[j]? = some v → Value.okWide Try.prog W .any base t v := hval0
  have hW' := hW
  obtain ⟨p, q, hA0, hV, rfl, _, _⟩ := hW
  have hA : DataW.TrodAll enc Try.prog W 0 (fun _ => true) true Try.f7.params.toList args.toList ds p := hA0
  rw [Try.params7] at hA hval
  obtain ⟨v0, v1, v2, v3, d0, d1, d2, d3, p0, p1, p2, p3, rfl, rfl, rfl, h0, h1, h2, h3⟩ := trodAll_four hA
  obtain ⟨rfl, rfl⟩ := trodVars_none hV
  obtain ⟨l0, I0, U0⟩ := open_rows (hval 0 27 v0 rfl rfl) h0
  obtain ⟨a1, b1, rfl⟩ := open_id (hval 1 23 v1 rfl rfl) h1
  obtain ⟨l2, I2⟩ := open_ids (hval 2 24 v2 rfl rfl) h2
  obtain ⟨a3, b3, rfl⟩ := open_id (hval 3 23 v3 rfl rfl) h3
  refine (rowsSet_any v0 l0 a1 b1 v2 l2 a3 b3 W I0 U0 I2).mono fun e W' ⟨he, hb⟩ => ?_
  subst he
  exact ⟨_, rfl, law_post hW' rfl (by kernel_rfl) Try.underlying4 rfl (by unfold Legible; kernel_rfl) hb⟩
/-- The statement. -/
theorem rowsSet_holds : Rows.RowsSetSaid :=
  OpenClaim.holds_of_wide 7 Try.f7 rfl rfl rfl rfl rfl rfl rfl ⟨rfl, rfl, rfl, rfl, rfl⟩ rfl rfl rfl rfl rfl (by kernel_rfl) Try.func7 (by kernel_rfl)
    (of_decide_eq_true (by kernel_rfl)) (by unfold Func.isWrapper; first | (rw [if_pos (by decide +kernel)]; kernel_rfl) | (rw [if_neg (by decide +kernel)]; exact ⟨rfl, rfl⟩))
    (fun os started H enc _ => rowsSet_lifted os started H enc)
end

end Go.Proofs.Ytofanciaacdjfaa
