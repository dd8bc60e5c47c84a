/-
  PROVED HERE: for any text, any two places and any two numbers, CrcApart of package coveylaw01 returns true and leaves its arguments as they were: bent at two places, in whatever row, it comes to the same. No condition.
-/
import Derived.Test.YtmnpdllajplfeaaWalksC
import Derived.Test.YtmnpdllajplfeaaBase
namespace Go.Proofs.Ytmnpdllajplfeaa
open Go.RowKit
set_option maxHeartbeats 400000 in
set_option maxRecDepth 100000 in
theorem apart_any (s : ByteArray) (a b x y : Int) (w : World) (hs : s.size ≤ 140737488351232) (ha : -9223372036854775808 ≤ a ∧ a ≤ 9223372036854775807) (hb : -9223372036854775808 ≤ b ∧ b ≤ 9223372036854775807) (hx : 0 ≤ x ∧ x < 4294967296) (hy : 0 ≤ y ∧ y < 4294967296) :
    Calls Try.prog 9 #[.string s, .int .i64 a, .int .i64 b, .int .u32 x, .int .u32 y] w fun e w' => e = .returned (.bool true) ∧ Below w.heap.size w w' := by
  obtain ⟨x, rfl⟩ := Int.eq_ofNat_of_zero_le hx.1
  obtain ⟨y, rfl⟩ := Int.eq_ofNat_of_zero_le hy.1
  obtain ⟨ha0, ha1⟩ := ha
  obtain ⟨hb0, hb1⟩ := hb
  by_cases hl : s.size ≤ 10000
  · by_cases hz : 0 < s.size
    · go_enter Try.func9, Try.ntmps9
      go_wp2_with fail
      refine (works_any _).mono ?_
      rintro e w1 ⟨rfl, h⟩
      have H1 := Lib.hid h
      clear h
      go_wp2_with fail
      have HA := Lib.hid (in_wrap ((IntKind.u64.wrap a).tmod ↑s.size))
      have HB := Lib.hid (in_wrap ((IntKind.u64.wrap b).tmod ↑s.size))
      generalize wrap64 ((IntKind.u64.wrap a).tmod ↑s.size) = a1 at *
      generalize wrap64 ((IntKind.u64.wrap b).tmod ↑s.size) = b1 at *
      refine (bend_any s a1 x _ (by omega) HA.out.1 HA.out.2 (by omega)).mono ?_
      rintro e w2 ⟨rfl, h⟩
      have H2 := Lib.hid (below_then H1.out h)
      clear H1 h
      go_wp2_with fail
      refine (bend_list _ b1 y _ (by rw [Crc.bend_length]; simp; omega) HB.out.1 HB.out.2 (by omega)).mono ?_
      rintro e w3 ⟨rfl, h⟩
      have H3 := Lib.hid (below_then H2.out h)
      clear H2 h
      go_wp2_with fail
      refine (bend_any s b1 y _ (by omega) HB.out.1 HB.out.2 (by omega)).mono ?_
      rintro e w4 ⟨rfl, h⟩
      have H4 := Lib.hid (below_then H3.out h)
      clear H3 h
      go_wp2_with fail
      refine (bend_list _ a1 x _ (by rw [Crc.bend_length]; simp; omega) HA.out.1 HA.out.2 (by omega)).mono ?_
      rintro e w5 ⟨he, h⟩
      rw [Crc.bend_comm] at he
      subst he
      have H5 := Lib.hid (below_then H4.out h)
      clear H4 h
      go_wp2_with fail
      go_ret
      exact ⟨rfl, H5.out⟩
    · have hz' : ¬ (0 : Int) < (s.size : Int) := by omega
      go_enter Try.func9, Try.ntmps9
      go_wp2_with fail
      refine (works_any _).mono ?_
      rintro e w1 ⟨rfl, h⟩
      have H1 := Lib.hid h
      clear h
      go_wp2_with fail
      refine (bend_any s a x _ (by omega) ha0 ha1 (by omega)).mono ?_
      rintro e w2 ⟨rfl, h⟩
      have H2 := Lib.hid (below_then H1.out h)
      clear H1 h
      go_wp2_with fail
      refine (bend_list _ b y _ (by rw [Crc.bend_length]; simp; omega) hb0 hb1 (by omega)).mono ?_
      rintro e w3 ⟨rfl, h⟩
      have H3 := Lib.hid (below_then H2.out h)
      clear H2 h
      go_wp2_with fail
      refine (bend_any s b y _ (by omega) hb0 hb1 (by omega)).mono ?_
      rintro e w4 ⟨rfl, h⟩
      have H4 := Lib.hid (below_then H3.out h)
      clear H3 h
      go_wp2_with fail
      refine (bend_list _ a x _ (by rw [Crc.bend_length]; simp; omega) ha0 ha1 (by omega)).mono ?_
      rintro e w5 ⟨he, h⟩
      rw [Crc.bend_comm] at he
      subst he
      have H5 := Lib.hid (below_then H4.out h)
      clear H4 h
      go_wp2_with fail
      go_ret
      exact ⟨rfl, H5.out⟩
  · have hl' : (10000 : Int) < (s.size : Int) := by omega
    go_enter Try.func9, Try.ntmps9
    go_wp2_with fail
    refine (works_any _).mono ?_
    rintro e w1 ⟨rfl, h⟩
    have H1 := Lib.hid h
    clear h
    go_wp2_with fail
    refine (works_any _).mono ?_
    rintro e w2 ⟨rfl, h⟩
    have H2 := Lib.hid (below_then H1.out h)
    clear H1 h
    go_wp2_with fail
    go_ret
    exact ⟨rfl, H2.out⟩
section
open Go.ChangeShapes Go.WideShapes Go.ChangeAt
open Go.ChangeMaps (open_string)
set_option maxRecDepth 100000 in
theorem apart_lifted (os : Os) (started : os.Started) (H : Type) (enc : TypeId × Value → H) :
    ReturnsInHanded {} Try.checked os 9 .any (Rows.crcApartSpec.pre6 enc Try.prog Try.f9 Rows.crcApartRow.domain false) (Rows.crcApartSpec.post enc Try.prog Try.f9 false true false false) := by
  refine returnsInHanded_of_change_sized (C := Try.checked) Try.own started (by kernel_rfl) Try.func9
    (ChangeSpec.witness6 (enc := enc) (C := Try.checked) false ⟨#[], #[.string ⟨#[]⟩, .int .i64 0, .int .i64 0, .int .u32 0, .int .u32 0], []⟩ 8 (by kernel_rfl) (by kernel_rfl) (by kernel_rfl) (by kernel_rfl)) ?_
  intro W base args ds gs before hval0 hW _ hsz0 _
  have hval : ∀ (j : Nat) t v, Try.f9.params[j]? = some t → args[j]? = some v → Value.okWide Try.prog W .any base t v := hval0
  have hsz : (DataW.weightsEach Try.prog (Try.f9.params.toList ++ Rows.crcApartSpec.plain.varTypes Try.prog) (ds ++ gs)).all (· ≤ reachBytes) = true := hsz0
  have hW' := hW
  obtain ⟨p, q, hA0, hV, rfl, _, _⟩ := hW
  have hA : DataW.TrodAll enc Try.prog W 0 (fun _ => true) true Try.f9.params.toList args.toList ds p := hA0
  rw [Try.params9] at hA hval hsz
  obtain ⟨v0, v1, v2, v3, v4, d0, d1, d2, d3, d4, p0, p1, p2, p3, p4, rfl, rfl, rfl, h0, h1, h2, h3, h4⟩ := trodAll_five hA
  obtain ⟨rfl, rfl⟩ := trodVars_none hV
  obtain ⟨x0, rfl, rfl, rfl, _⟩ := open_string Try.underlying9 (hval 0 9 v0 rfl rfl) h0
  obtain ⟨x1, rfl, rfl, rfl, w1⟩ := open_int Try.underlying3 (hval 1 3 v1 rfl rfl) h1
  obtain ⟨x2, rfl, rfl, rfl, w2⟩ := open_int Try.underlying3 (hval 2 3 v2 rfl rfl) h2
  obtain ⟨x3, rfl, rfl, rfl, w3⟩ := open_int Try.underlying23 (hval 3 23 v3 rfl rfl) h3
  obtain ⟨x4, rfl, rfl, rfl, w4⟩ := open_int Try.underlying23 (hval 4 23 v4 rfl rfl) h4
  have r0 : x0.size ≤ 140737488351232 := by have := sized_string hsz (j := 0) (t := 9) rfl rfl; rw [reach_is] at this; simpa using this
  have r1 := in_i64 w1
  have r2 := in_i64 w2
  have r3 := in_u32 w3
  have r4 := in_u32 w4
  refine (apart_any x0 x1 x2 x3 x4 W r0 r1 r2 r3 r4).mono fun e W' ⟨he, hb⟩ => ?_
  subst he
  exact ⟨_, rfl, law_post hW' rfl (by kernel_rfl) Try.underlying4 rfl (by unfold Legible; kernel_rfl) hb⟩
/-- The statement. -/
theorem apart_holds : Rows.CrcApartSaid :=
  OpenClaim.holds_of_wide 9 Try.f9 rfl rfl rfl rfl rfl rfl rfl ⟨rfl, rfl, rfl, rfl, rfl⟩ rfl rfl rfl rfl rfl (by kernel_rfl) Try.func9 (by kernel_rfl)
    (of_decide_eq_true (by kernel_rfl)) (by unfold Func.isWrapper; first | (rw [if_pos (by decide +kernel)]; kernel_rfl) | (rw [if_neg (by decide +kernel)]; exact ⟨rfl, rfl⟩))
    (fun os started H enc _ => apart_lifted os started H enc)
end
end Go.Proofs.Ytmnpdllajplfeaa
