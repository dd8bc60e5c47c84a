/-
  PROVED HERE: for any two texts, CrcPieces of package coveylaw01 returns true and leaves its arguments as they were: the sum of two texts, one behind the other, is Add of the first one's sum and the second; nothing behind it changes no sum. No condition.
-/
import Derived.Test.YtmnpdllajplfeaaWalksC
import Derived.Test.YtmnpdllajplfeaaBase
namespace Go.Proofs.Ytmnpdllajplfeaa
open Go.RowKit
theorem concat_bytes (a b : ByteArray) : (a ++ b).data.toList = a.data.toList ++ b.data.toList := by simp
set_option maxHeartbeats 400000 in
set_option maxRecDepth 100000 in
theorem pieces_any (a b : ByteArray) (w : World) (ha : a.size ≤ 140737488351232) (hb : b.size ≤ 140737488351232) :
    Calls Try.prog 5 #[.string a, .string b] w fun e w' => e = .returned (.bool true) ∧ Below w.heap.size w w' := by
  by_cases hl : a.size + b.size ≤ 20000
  · go_enter Try.func5, Try.ntmps5
    go_wp2_with fail
    refine (works_any _).mono ?_
    rintro e w1 ⟨rfl, h⟩
    have H1 := Lib.hid h
    clear h
    go_wp2_with fail
    refine (sum_any a _ (by omega)).mono ?_
    rintro e w2 ⟨rfl, h⟩
    have H2 := Lib.hid (below_then H1.out h)
    clear H1 h
    go_wp2_with fail
    refine (add_any _ b _ (Crc.add_lt _ _) (by omega)).mono ?_
    rintro e w3 ⟨he, h⟩
    rw [Crc.add_add] at he
    subst he
    have H3 := Lib.hid (below_then H2.out h)
    clear H2 h
    go_wp2_with fail
    refine (sum_any (a ++ b) _ (by simp; omega)).mono ?_
    rintro e w4 ⟨he, h⟩
    rw [concat_bytes] at he
    subst he
    have H4 := Lib.hid (below_then H3.out h)
    clear H3 h
    go_wp2_with fail
    refine (sum_any a _ (by omega)).mono ?_
    rintro e w5 ⟨rfl, h⟩
    have H5 := Lib.hid (below_then H4.out h)
    clear H4 h
    go_wp2_with fail
    refine (add_any _ ⟨#[]⟩ _ (Crc.add_lt _ _) (by decide)).mono ?_
    rintro e w6 ⟨he, h⟩
    rw [show (⟨#[]⟩ : ByteArray).data.toList = [] from rfl, Crc.add_nil (Crc.add_lt _ _)] at he
    subst he
    have H6 := Lib.hid (below_then H5.out h)
    clear H5 h
    go_wp2_with fail
    refine (sum_any a _ (by omega)).mono ?_
    rintro e w7 ⟨rfl, h⟩
    have H7 := Lib.hid (below_then H6.out h)
    clear H6 h
    go_wp2_with fail
    refine (add_any 0 b _ (by omega) (by omega)).mono ?_
    rintro e w8 ⟨rfl, h⟩
    have H8 := Lib.hid (below_then H7.out h)
    clear H7 h
    go_wp2_with fail
    refine (sum_any b _ (by omega)).mono ?_
    rintro e w9 ⟨rfl, h⟩
    have H9 := Lib.hid (below_then H8.out h)
    clear H8 h
    go_wp2_with fail
    go_ret
    exact ⟨rfl, H9.out⟩
  · have hl' : 20000 < (a.size : Int) + (b.size : Int) := by omega
    go_enter Try.func5, Try.ntmps5
    go_wp2_with fail
    refine (works_any _).mono ?_
    rintro e w1 ⟨rfl, h⟩
    have H1 := Lib.hid h
    clear h
    go_wp2_with fail
    refine (works_any _).mono ?_
    rintro e w2 ⟨rfl, h⟩
    have H2 := Lib.hid (below_then H1.out h)
    clear H1 h
    go_wp2_with fail
    go_ret
    exact ⟨rfl, H2.out⟩
section
open Go.ChangeShapes Go.WideShapes Go.ChangeAt
open Go.ChangeMaps (open_string)
set_option maxRecDepth 100000 in
theorem pieces_lifted (os : Os) (started : os.Started) (H : Type) (enc : TypeId × Value → H) :
    ReturnsInHanded {} Try.checked os 5 .any (Rows.crcPiecesSpec.pre6 enc Try.prog Try.f5 Rows.crcPiecesRow.domain false) (Rows.crcPiecesSpec.post enc Try.prog Try.f5 false true false false) := by
  refine returnsInHanded_of_change_sized (C := Try.checked) Try.own started (by kernel_rfl) Try.func5
    (ChangeSpec.witness6 (enc := enc) (C := Try.checked) false ⟨#[], #[.string ⟨#[]⟩, .string ⟨#[]⟩], []⟩ 8 (by kernel_rfl) (by kernel_rfl) (by kernel_rfl) (by kernel_rfl)) ?_
  intro W base args ds gs before hval0 hW _ hsz0 _
  have hval : ∀ (j : Nat) t v, Try.f5.params[j]? = some t → args[j]? = some v → Value.okWide Try.prog W .any base t v := hval0
  have hsz : (DataW.weightsEach Try.prog (Try.f5.params.toList ++ Rows.crcPiecesSpec.plain.varTypes Try.prog) (ds ++ gs)).all (· ≤ reachBytes) = true := hsz0
  have hW' := hW
  obtain ⟨p, q, hA0, hV, rfl, _, _⟩ := hW
  have hA : DataW.TrodAll enc Try.prog W 0 (fun _ => true) true Try.f5.params.toList args.toList ds p := hA0
  rw [Try.params5] at hA hval hsz
  obtain ⟨v0, v1, d0, d1, p0, p1, rfl, rfl, rfl, h0, h1⟩ := trodAll_two hA
  obtain ⟨rfl, rfl⟩ := trodVars_none hV
  obtain ⟨x0, rfl, rfl, rfl, _⟩ := open_string Try.underlying9 (hval 0 9 v0 rfl rfl) h0
  obtain ⟨x1, rfl, rfl, rfl, _⟩ := open_string Try.underlying9 (hval 1 9 v1 rfl rfl) h1
  have r0 : x0.size ≤ 140737488351232 := by have := sized_string hsz (j := 0) (t := 9) rfl rfl; rw [reach_is] at this; simpa using this
  have r1 : x1.size ≤ 140737488351232 := by have := sized_string hsz (j := 1) (t := 9) rfl rfl; rw [reach_is] at this; simpa using this
  refine (pieces_any x0 x1 W r0 r1).mono fun e W' ⟨he, hb⟩ => ?_
  subst he
  exact ⟨_, rfl, law_post hW' rfl (by kernel_rfl) Try.underlying4 rfl (by unfold Legible; kernel_rfl) hb⟩
/-- The statement. -/
theorem pieces_holds : Rows.CrcPiecesSaid :=
  OpenClaim.holds_of_wide 5 Try.f5 rfl rfl rfl rfl rfl rfl rfl ⟨rfl, rfl, rfl, rfl, rfl⟩ rfl rfl rfl rfl rfl (by kernel_rfl) Try.func5 (by kernel_rfl)
    (of_decide_eq_true (by kernel_rfl)) (by unfold Func.isWrapper; first | (rw [if_pos (by decide +kernel)]; kernel_rfl) | (rw [if_neg (by decide +kernel)]; exact ⟨rfl, rfl⟩))
    (fun os started H enc _ => pieces_lifted os started H enc)
end
end Go.Proofs.Ytmnpdllajplfeaa
