/-
  PROVED HERE: CrcNames of package coveylaw01 returns true: the examples; what is bent at the ends, and beyond them. It is a closed statement: no input, no condition.
-/
import Derived.Test.YtmnpdllajplfeaaWalksC
import Derived.Test.YtmnpdllajplfeaaBase
namespace Go.Proofs.Ytmnpdllajplfeaa
open Go.RowKit
theorem add_at (s r : Nat) (p : ByteArray) (w : World) (hs : s < 4294967296) (hp : p.size ≤ 281474976710656) (h : Crc.add s p.data.toList = r) :
    Calls Try.prog 11 #[.int .u32 s, .string p] w fun e w' => e = .returned (.int .u32 r) ∧ Below w.heap.size w w' := by
  rw [← h]
  exact add_any s p w hs hp
theorem sum_at (r : Nat) (p : ByteArray) (w : World) (hp : p.size ≤ 281474976710656) (h : Crc.add 0 p.data.toList = r) :
    Calls Try.prog 12 #[.string p] w fun e w' => e = .returned (.int .u32 r) ∧ Below w.heap.size w w' := by
  rw [← h]
  exact sum_any p w hp
theorem bend_at (p q : ByteArray) (a : Int) (x : Nat) (w : World) (hp : p.size ≤ 281474976710656) (ha : -9223372036854775808 ≤ a) (ha' : a ≤ 9223372036854775807) (hx : x < 4294967296) (h : Crc.bend p.data.toList a x = q.data.toList) :
    Calls Try.prog 13 #[.string p, .int .i64 a, .int .u32 x] w fun e w' => e = .returned (.string q) ∧ Below w.heap.size w w' := by
  have := bend_any p a x w hp ha ha' hx
  rw [h] at this
  exact this
set_option maxHeartbeats 1000000 in
set_option maxRecDepth 100000 in
theorem names_any (w : World) : Calls Try.prog 3 #[] w fun e w' => e = .returned (.bool true) ∧ Below w.heap.size w w' := by
  go_enter Try.func3, Try.ntmps3
  go_wp2_with fail
  refine (works_any _).mono ?_
  rintro e w1 ⟨rfl, h⟩
  have H1 := Lib.hid h
  clear h
  go_wp2_with fail
  refine (add_at 0 3421780262 ⟨#[49, 50, 51, 52, 53, 54, 55, 56, 57]⟩ _ (by omega) (by decide) (by decide +kernel)).mono ?_
  rintro e w2 ⟨rfl, h⟩
  have H2 := Lib.hid (below_then H1.out h)
  clear H1 h
  go_wp2_with fail
  refine (sum_at 2615402659 ⟨#[49, 50, 51, 52]⟩ _ (by decide) (by decide +kernel)).mono ?_
  rintro e w3 ⟨rfl, h⟩
  have H3 := Lib.hid (below_then H2.out h)
  clear H2 h
  go_wp2_with fail
  refine (add_at 2615402659 3421780262 ⟨#[53, 54, 55, 56, 57]⟩ _ (by omega) (by decide) (by decide +kernel)).mono ?_
  rintro e w4 ⟨rfl, h⟩
  have H4 := Lib.hid (below_then H3.out h)
  clear H3 h
  go_wp2_with fail
  refine (bend_at ⟨#[97, 98, 99, 100]⟩ ⟨#[96, 99, 98, 101]⟩ (0) 16843009 _ (by decide) (by omega) (by omega) (by omega) (by decide +kernel)).mono ?_
  rintro e w5 ⟨rfl, h⟩
  have H5 := Lib.hid (below_then H4.out h)
  clear H4 h
  go_wp2_with fail
  refine (bend_at ⟨#[97, 98, 99, 100]⟩ ⟨#[97, 97, 99, 100]⟩ (1) 3 _ (by decide) (by omega) (by omega) (by omega) (by decide +kernel)).mono ?_
  rintro e w6 ⟨rfl, h⟩
  have H6 := Lib.hid (below_then H5.out h)
  clear H5 h
  go_wp2_with fail
  refine (bend_at ⟨#[97, 98, 99, 100]⟩ ⟨#[97, 98, 99, 101]⟩ (3) 4294967041 _ (by decide) (by omega) (by omega) (by omega) (by decide +kernel)).mono ?_
  rintro e w7 ⟨rfl, h⟩
  have H7 := Lib.hid (below_then H6.out h)
  clear H6 h
  go_wp2_with fail
  refine (bend_at ⟨#[97, 98, 99, 100]⟩ ⟨#[98, 98, 99, 100]⟩ (-1) 1023 _ (by decide) (by omega) (by omega) (by omega) (by decide +kernel)).mono ?_
  rintro e w8 ⟨rfl, h⟩
  have H8 := Lib.hid (below_then H7.out h)
  clear H7 h
  go_wp2_with fail
  refine (bend_at ⟨#[97, 98, 99, 100]⟩ ⟨#[97, 98, 99, 100]⟩ (-4) 4294967295 _ (by decide) (by omega) (by omega) (by omega) (by decide +kernel)).mono ?_
  rintro e w9 ⟨rfl, h⟩
  have H9 := Lib.hid (below_then H8.out h)
  clear H8 h
  go_wp2_with fail
  refine (bend_at ⟨#[97, 98, 99, 100]⟩ ⟨#[97, 98, 99, 100]⟩ (9223372036854775807) 1 _ (by decide) (by omega) (by omega) (by omega) (by decide +kernel)).mono ?_
  rintro e w10 ⟨rfl, h⟩
  have H10 := Lib.hid (below_then H9.out h)
  clear H9 h
  go_wp2_with fail
  refine (bend_at ⟨#[97, 98, 99, 100]⟩ ⟨#[97, 98, 99, 100]⟩ (-9223372036854775808) 1 _ (by decide) (by omega) (by omega) (by omega) (by decide +kernel)).mono ?_
  rintro e w11 ⟨rfl, h⟩
  have H11 := Lib.hid (below_then H10.out h)
  clear H10 h
  go_wp2_with fail
  refine (bend_at ⟨#[]⟩ ⟨#[]⟩ (0) 1 _ (by decide) (by omega) (by omega) (by omega) (by decide +kernel)).mono ?_
  rintro e w12 ⟨rfl, h⟩
  have H12 := Lib.hid (below_then H11.out h)
  clear H11 h
  go_wp2_with fail
  go_ret
  exact ⟨rfl, H12.out⟩
section
open Go.ChangeShapes Go.WideShapes Go.ChangeAt
open Go.ChangeMaps (open_string)
set_option maxRecDepth 100000 in
theorem names_lifted (os : Os) (started : os.Started) (H : Type) (enc : TypeId × Value → H) :
    ReturnsInHanded {} Try.checked os 3 .any (Rows.crcNamesSpec.pre6 enc Try.prog Try.f3 Rows.crcNamesRow.domain false) (Rows.crcNamesSpec.post enc Try.prog Try.f3 false true false false) := by
  refine returnsInHanded_of_change_sized (C := Try.checked) Try.own started (by kernel_rfl) Try.func3
    (ChangeSpec.witness6 (enc := enc) (C := Try.checked) false ⟨#[], #[], []⟩ 8 (by kernel_rfl) (by kernel_rfl) (by kernel_rfl) (by kernel_rfl)) ?_
  intro W base args ds gs before hval0 hW _ _ _
  have hW' := hW
  obtain ⟨p, q, hA0, hV, rfl, _, _⟩ := hW
  have hA : DataW.TrodAll enc Try.prog W 0 (fun _ => true) true Try.f3.params.toList args.toList ds p := hA0
  rw [Try.params3] at hA
  obtain ⟨rfl, rfl, rfl⟩ := trodAll_none hA
  obtain ⟨rfl, rfl⟩ := trodVars_none hV
  refine (names_any W).mono fun e W' ⟨he, hb⟩ => ?_
  subst he
  exact ⟨_, rfl, law_post hW' rfl (by kernel_rfl) Try.underlying4 rfl (by unfold Legible; kernel_rfl) hb⟩
/-- The statement. -/
theorem names_holds : Rows.CrcNamesSaid :=
  OpenClaim.holds_of_wide 3 Try.f3 rfl rfl rfl rfl rfl rfl rfl ⟨rfl, rfl, rfl, rfl, rfl⟩ rfl rfl rfl rfl rfl (by kernel_rfl) Try.func3 (by kernel_rfl)
    (of_decide_eq_true (by kernel_rfl)) (by unfold Func.isWrapper; first | (rw [if_pos (by decide +kernel)]; kernel_rfl) | (rw [if_neg (by decide +kernel)]; exact ⟨rfl, rfl⟩))
    (fun os started H enc _ => names_lifted os started H enc)
end
end Go.Proofs.Ytmnpdllajplfeaa
