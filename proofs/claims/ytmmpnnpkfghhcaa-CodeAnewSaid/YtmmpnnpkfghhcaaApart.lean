/-
  PROVED HERE: for any two numbers, CodeApart of package coveylaw02 returns true: unlike numbers have unlike bytes, and none of them begins by another one's; a greater number has no fewer bytes. No condition.
-/
import Derived.Test.YtmmpnnpkfghhcaaAwake
namespace Go.Proofs.Ytmmpnnpkfghhcaa
open Go.RowKit
theorem num_new (n : Int) (w : World) (h0 : 0 ≤ n) (h : n ≤ 1099511627776) :
    Calls Try.prog 9 #[.string ⟨#[]⟩, .int .i64 n] w fun e w' => e = .returned (.tuple #[.string (bs (encI n)), .int .i64 0]) ∧ Below w.heap.size w w' :=
  num_lit n _ w h0 h (WideShapes.bytes_inj (by simp))
theorem below_then {w w1 w2 : World} (h : Below w.heap.size w w1) (k : Below w1.heap.size w1 w2) : Below w.heap.size w w2 := h.trans (k.mono h.size)
set_option maxHeartbeats 400000 in
theorem apart_no (a b : Int) (w : World) (h : ¬ (0 ≤ a ∧ a ≤ 1099511627776 ∧ 0 ≤ b ∧ b ≤ 1099511627776)) :
    Calls Try.prog 7 #[.int .i64 a, .int .i64 b] w fun e w' => e = .returned (.bool true) ∧ Below w.heap.size w w' := by
  by_cases ha : 0 ≤ a ∧ a ≤ 1099511627776
  · have hb : b < 0 ∨ 1099511627776 < b := by omega
    go_enter Try.func7, Try.ntmps7
    go_wp2_with fail
    refine (awake_any _).mono ?_
    rintro e w1 ⟨rfl, h⟩
    have H1 := Lib.hid h
    clear h
    go_wp2_with fail
    refine (num_new a _ ha.1 ha.2).mono ?_
    rintro e w2 ⟨rfl, h⟩
    have H2 := Lib.hid (below_then H1.out h)
    clear h
    go_wp2_with fail
    refine (numB b _ hb _).mono ?_
    rintro e w3 ⟨rfl, rfl⟩
    go_wp2_with fail
    go_ret
    exact ⟨rfl, H2.out⟩
  · have hb : a < 0 ∨ 1099511627776 < a := by omega
    go_enter Try.func7, Try.ntmps7
    go_wp2_with fail
    refine (awake_any _).mono ?_
    rintro e w1 ⟨rfl, h⟩
    have H1 := Lib.hid h
    clear h
    go_wp2_with fail
    refine (numB a _ hb _).mono ?_
    rintro e w2 ⟨rfl, rfl⟩
    by_cases hc : 0 ≤ b ∧ b ≤ 1099511627776
    · go_wp2_with fail
      refine (num_new b _ hc.1 hc.2).mono ?_
      rintro e w3 ⟨rfl, h⟩
      have H2 := Lib.hid (below_then H1.out h)
      clear h
      go_wp2_with fail
      go_ret
      exact ⟨rfl, H2.out⟩
    · have hd : b < 0 ∨ 1099511627776 < b := by omega
      go_wp2_with fail
      refine (numB b _ hd _).mono ?_
      rintro e w3 ⟨rfl, rfl⟩
      go_wp2_with fail
      go_ret
      exact ⟨rfl, H1.out⟩
theorem begins_is (a b : Int) (ha : 0 ≤ a) (ha' : a ≤ 1099511627776) (hb : 0 ≤ b) (hb' : b ≤ 1099511627776) : (((bs (encI b)).extract 0 (bs (encI a)).size).toList == (bs (encI a)).toList) = (a == b) := by
  rw [bytes_list, bytes_list, bs_size, Bool.eq_iff_iff, beq_iff_eq, beq_iff_eq]
  have e : ((bs (encI b)).extract 0 (encI a).length).data.toList = (encI b).take (encI a).length := by
    simp [bs, List.extract_eq_take_drop]
  have e2 : (bs (encI a)).data.toList = encI a := by simp [bs]
  rw [e, e2]
  constructor
  · intro h
    have h2 : encI b = encI a ++ (encI b).drop (encI a).length := by
      conv => lhs; rw [← List.take_append_drop (encI a).length (encI b), h]
    have := Code.enc_apart a.toNat b.toNat (by unfold Code.maxNumber; omega) (by unfold Code.maxNumber; omega) _ h2
    omega
  · rintro rfl
    exact List.take_length
theorem longer_is (a b : Int) (h : a ≤ b) : (bs (encI a)).size ≤ (bs (encI b)).size := by
  rw [bs_size, bs_size]
  exact Code.enc_mono _ _ (by omega)
set_option maxHeartbeats 400000 in
theorem apart_yes (a b : Int) (w : World) (ha : 0 ≤ a) (ha' : a ≤ 1099511627776) (hb : 0 ≤ b) (hb' : b ≤ 1099511627776) :
    Calls Try.prog 7 #[.int .i64 a, .int .i64 b] w fun e w' => e = .returned (.bool true) ∧ Below w.heap.size w w' := by
  go_enter Try.func7, Try.ntmps7
  go_wp2_with fail
  refine (awake_any _).mono ?_
  rintro e w1 ⟨rfl, h⟩
  have H1 := Lib.hid h
  clear h
  go_wp2_with fail
  refine (num_new a _ ha ha').mono ?_
  rintro e w2 ⟨rfl, h⟩
  have H2 := Lib.hid (below_then H1.out h)
  clear h
  go_wp2_with fail
  refine (num_new b _ hb hb').mono ?_
  rintro e w3 ⟨rfl, h⟩
  have H3 := Lib.hid (below_then H2.out h)
  clear h H1 H2
  have hz1 : (bs (encI a)).size ≤ 6 := by rw [bs_size]; exact (encI_len a).2
  have hz2 : (bs (encI b)).size ≤ 6 := by rw [bs_size]; exact (encI_len b).2
  have hbe := begins_is a b ha ha' hb hb'
  have hle := longer_is a b
  generalize bs (encI a) = S at *
  generalize bs (encI b) = U at *
  by_cases hl : S.size ≤ U.size
  · rcases Int.lt_trichotomy a b with h | h | h
    · have he : (a == b) = false := by simp; omega
      rw [he] at hbe
      clear hle
      have hd : decide (b < a) = false := by simp; omega
      go_wp2_with fail
      go_ret
      exact ⟨rfl, H3.out⟩
    · have he : (a == b) = true := by simp; omega
      rw [he] at hbe
      clear hle
      have hd : decide (b < a) = false := by simp; omega
      clear h
      go_wp2_with fail
      go_ret
      exact ⟨rfl, H3.out⟩
    · have he : (a == b) = false := by simp; omega
      rw [he] at hbe
      clear hle
      have hd : decide (b < a) = true := by simp; omega
      go_wp2_with fail
      go_ret
      exact ⟨rfl, H3.out⟩
  · have h : b < a := by
      rcases Int.lt_or_le b a with h | h
      · exact h
      · exact absurd (hle h) hl
    have he : (a == b) = false := by simp; omega
    have hd : decide (b < a) = true := by simp; omega
    clear hle hbe
    go_wp2_with fail
    go_ret
    exact ⟨rfl, H3.out⟩
theorem apart_any (a b : Int) (w : World) (_ : -9223372036854775808 ≤ a ∧ a ≤ 9223372036854775807) (_ : -9223372036854775808 ≤ b ∧ b ≤ 9223372036854775807) :
    Calls Try.prog 7 #[.int .i64 a, .int .i64 b] w fun e w' => e = .returned (.bool true) ∧ Below w.heap.size w w' := by
  by_cases h : 0 ≤ a ∧ a ≤ 1099511627776 ∧ 0 ≤ b ∧ b ≤ 1099511627776
  · exact apart_yes a b w h.1 h.2.1 h.2.2.1 h.2.2.2
  · exact apart_no a b w h
section
open Go.ChangeShapes Go.WideShapes Go.ChangeAt
open Go.ChangeMaps (open_string)
set_option maxRecDepth 100000 in
theorem apart_lifted (os : Os) (started : os.Started) (H : Type) (enc : TypeId × Value → H) :
    ReturnsInHanded {} Try.checked os 7 .any (Rows.codeApartSpec.pre6 enc Try.prog Try.f7 Rows.codeApartRow.domain false) (Rows.codeApartSpec.post enc Try.prog Try.f7 false true false false) := by
  refine returnsInHanded_of_change_sized (C := Try.checked) Try.own started (by kernel_rfl) Try.func7
    (ChangeSpec.witness6 (enc := enc) (C := Try.checked) false ⟨#[], #[.int .i64 0, .int .i64 0], []⟩ 8 (by kernel_rfl) (by kernel_rfl) (by kernel_rfl) (by kernel_rfl)) ?_
  intro W base args ds gs before hval0 hW _ _ _
  have hval : ∀ (j : Nat) t v, Try.f7.params[j]? = some t → args[j]? = some v → Value.okWide Try.prog W .any base t v := hval0
  have hW' := hW
  obtain ⟨p, q, hA0, hV, rfl, _, _⟩ := hW
  have hA : DataW.TrodAll enc Try.prog W 0 (fun _ => true) true Try.f7.params.toList args.toList ds p := hA0
  rw [Try.params7] at hA hval
  obtain ⟨v0, v1, d0, d1, p0, p1, rfl, rfl, rfl, h0, h1⟩ := trodAll_two hA
  obtain ⟨rfl, rfl⟩ := trodVars_none hV
  obtain ⟨x0, rfl, rfl, rfl, w0⟩ := open_int Try.underlying3 (hval 0 3 v0 rfl rfl) h0
  obtain ⟨x1, rfl, rfl, rfl, w1⟩ := open_int Try.underlying3 (hval 1 3 v1 rfl rfl) h1
  have r0 := in_i64 w0
  have r1 := in_i64 w1
  refine (apart_any x0 x1 W r0 r1).mono fun e W' ⟨he, hb⟩ => ?_
  subst he
  exact ⟨_, rfl, law_post hW' rfl (by kernel_rfl) Try.underlying4 rfl (by unfold Legible; kernel_rfl) hb⟩
/-- The statement. -/
theorem apart_holds : Rows.CodeApartSaid :=
  OpenClaim.holds_of_wide 7 Try.f7 rfl rfl rfl rfl rfl rfl rfl ⟨rfl, rfl, rfl, rfl, rfl⟩ rfl rfl rfl rfl rfl (by kernel_rfl) Try.func7 (by kernel_rfl)
    (of_decide_eq_true (by kernel_rfl)) (by unfold Func.isWrapper; first | (rw [if_pos (by decide +kernel)]; kernel_rfl) | (rw [if_neg (by decide +kernel)]; exact ⟨rfl, rfl⟩))
    (fun os started H enc _ => apart_lifted os started H enc)
end
end Go.Proofs.Ytmmpnnpkfghhcaa
