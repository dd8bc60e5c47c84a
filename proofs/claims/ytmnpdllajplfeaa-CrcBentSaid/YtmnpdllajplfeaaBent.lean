/-
  PROVED HERE: for any text, any place, any number and any four bytes, CrcBent of package coveylaw01 returns true and leaves its arguments as they were: what is bent so that it is another text has another sum; so do two texts, as long as one another, that are not the same only within four bytes, one behind the other. No condition.
-/
import Derived.Test.YtmnpdllajplfeaaWalksC
import Derived.Test.YtmnpdllajplfeaaBase
import Derived.Test.YtmnpdllajplfeaaMathB
import Derived.Deep.QuietTactic
import Derived.BigQuiet
namespace Go.Proofs.Ytmnpdllajplfeaa
open Go.RowKit
theorem place_in (a : Int) (n : Nat) (h : 4 ≤ n) (h' : n ≤ 10000) : ∃ k : Nat, wrap64 ((IntKind.u64.wrap a).tmod ((n : Int) - 3)) = (k : Int) ∧ k + 4 ≤ n := by
  have h0 : 0 ≤ IntKind.u64.wrap a := by rw [IntKind.wrap_u64]; omega
  rw [Int.tmod_eq_emod_of_nonneg h0]
  have h1 := Int.emod_nonneg (IntKind.u64.wrap a) (b := (n : Int) - 3) (by omega)
  have h2 := Int.emod_lt_of_pos (IntKind.u64.wrap a) (b := (n : Int) - 3) (by omega)
  refine ⟨(IntKind.u64.wrap a % ((n : Int) - 3)).toNat, ?_, by omega⟩
  rw [IntWalk.wrap64_in _ ⟨by omega, by omega⟩]
  omega
theorem differ {t s : ByteArray} (h : ¬ t = s) : (t.toList == s.toList) = false := by
  rw [ByteArray.toList_eq, ByteArray.toList_eq, beq_eq_false_iff_ne]
  exact fun e => h (WideShapes.bytes_inj e)
theorem sums_differ {a b : Nat} (h : ¬ a = b) : ((a : Int) == (b : Int)) = false := by
  rw [beq_eq_false_iff_ne]
  omega
theorem bend_test (s : ByteArray) (a : Int) (x : Nat) (h : ¬ bendS s a x = s) : ((bendS s a x).toList == s.toList) = false ∧ (((Crc.add 0 (bendS s a x).data.toList : Nat) : Int) == ((Crc.add 0 s.data.toList : Nat) : Int)) = false :=
  ⟨differ h, sums_differ fun e => h (WideShapes.bytes_inj (Crc.bend_sum _ _ _ _ e))⟩
theorem four_data (s f : ByteArray) (k : Nat) : (s.extract 0 k ++ f.extract 0 4 ++ s.extract (k + 4) s.size).data.toList = s.data.toList.take k ++ f.data.toList.take 4 ++ s.data.toList.drop (k + 4) := by
  simp [List.extract_eq_take_drop]
  exact List.take_of_length_le (by simp)
theorem four_size (s f : ByteArray) (k : Nat) : (s.extract 0 k ++ f.extract 0 4 ++ s.extract (k + 4) s.size).size ≤ 2 * s.size + 4 := by
  have : (s.extract 0 k ++ f.extract 0 4 ++ s.extract (k + 4) s.size).size = (s.extract 0 k ++ f.extract 0 4 ++ s.extract (k + 4) s.size).data.toList.length := by
    simp
    omega
  rw [this, four_data]
  simp
  omega
theorem four_test (s f : ByteArray) (k : Nat) (hk : k + 4 ≤ s.size) (hf : 4 ≤ f.size) (h : ¬ s.extract 0 k ++ f.extract 0 4 ++ s.extract (k + 4) s.size = s) :
    ((s.extract 0 k ++ f.extract 0 4 ++ s.extract (k + 4) s.size).toList == s.toList) = false ∧ (((Crc.add 0 (s.extract 0 k ++ f.extract 0 4 ++ s.extract (k + 4) s.size).data.toList : Nat) : Int) == ((Crc.add 0 s.data.toList : Nat) : Int)) = false := by
  refine ⟨differ h, sums_differ fun e => h (WideShapes.bytes_inj ?_)⟩
  rw [four_data] at e ⊢
  exact Crc.four_sum _ _ _ _ (by simp; omega) (by simpa using hk) e
theorem below_drawn {w w1 w2 : World} {n : Nat} (h : Below w.heap.size w w1) (k : Below (w1.drewN n).heap.size (w1.drewN n) w2) : Below w.heap.size w w2 :=
  have hd : Below w.heap.size w (w1.drewN n) := ⟨h.os, h.tape, h.output, h.size, h.block⟩
  hd.trans (k.mono h.size)
set_option maxHeartbeats 400000 in
set_option maxRecDepth 100000 in
theorem bent_any (s : ByteArray) (a x : Int) (f : ByteArray) (w : World) (hs : s.size ≤ 140737488351232) (ha : -9223372036854775808 ≤ a ∧ a ≤ 9223372036854775807) (hx : 0 ≤ x ∧ x < 4294967296) (hf : f.size ≤ 140737488351232) :
    Calls Try.prog 7 #[.string s, .int .i64 a, .int .u32 x, .string f] w fun e w' => e = .returned (.bool true) ∧ Below w.heap.size w w' := by
  obtain ⟨x, rfl⟩ := Int.eq_ofNat_of_zero_le hx.1
  obtain ⟨ha0, ha1⟩ := ha
  by_cases hl : s.size ≤ 10000
  · go_enter Try.func7, Try.ntmps7
    go_wp2_with fail
    refine (works_any _).mono ?_
    rintro e w1 ⟨rfl, h⟩
    have H1 := Lib.hid h
    clear h
    go_wp2_with fail
    refine (bendS_any s a x _ (by omega) ha0 ha1 (by omega)).mono ?_
    rintro e w2 ⟨rfl, h⟩
    have H2 := Lib.hid (below_then H1.out h)
    clear H1 h
    go_wp2_with fail
    have HT := Lib.hid (bend_test s a x)
    have HS := Lib.hid (bendS_size s a x)
    by_cases ht : bendS s a x = s
    · rw [ht]
      clear HT HS
      refine (sum_any s _ (by omega)).mono ?_
      rintro e w3 ⟨rfl, h⟩
      have H3 := Lib.hid (below_then H2.out h)
      clear H2 h ht
      go_wp2_with fail
      refine (sum_any s _ (by omega)).mono ?_
      rintro e w4 ⟨rfl, h⟩
      have H4 := Lib.hid (below_then H3.out h)
      clear H3 h
      by_cases h4 : s.size < 4
      · have h5 : (s.size : Int) < 4 := by omega
        go_wp2_with fail
        go_ret
        exact ⟨rfl, H4.out⟩
      have h7 : ¬ (s.size : Int) < 4 := by omega
      by_cases h6 : f.size < 4
      · have h5 : (f.size : Int) < 4 := by omega
        go_wp2_with fail
        go_ret
        exact ⟨rfl, H4.out⟩
      have h5 : ¬ (f.size : Int) < 4 := by omega
      go_wp2_with fail
      obtain ⟨k, hk, hk4⟩ := place_in a s.size (by omega) (by omega)
      rw [hk]
      clear hk
      go_quiet (fail)
      go_wp2_with fail
      have HU := Lib.hid (four_test s f k hk4 (by omega))
      have HZ := Lib.hid (four_size s f k)
      generalize s.extract 0 k ++ f.extract 0 4 ++ s.extract (k + 4) s.size = u at *
      by_cases hu : u = s
      · obtain rfl : u = s := hu
        clear HU HZ
        refine (sum_any u _ (by omega)).mono ?_
        rintro e w5 ⟨rfl, h⟩
        have H5 := Lib.hid (below_drawn H4.out h)
        clear H4 h
        go_wp2_with fail
        refine (sum_any u _ (by omega)).mono ?_
        rintro e w6 ⟨rfl, h⟩
        have H6 := Lib.hid (below_then H5.out h)
        clear H5 h
        go_wp2_with fail
        go_ret
        exact ⟨rfl, H6.out⟩
      · have ht1 := (HU.out hu).1
        have ht2 := (HU.out hu).2
        refine (sum_any u _ (by have := HZ.out; omega)).mono ?_
        rintro e w5 ⟨rfl, h⟩
        have H5 := Lib.hid (below_drawn H4.out h)
        clear H4 h
        go_wp2_with fail
        refine (sum_any s _ (by omega)).mono ?_
        rintro e w6 ⟨rfl, h⟩
        have H6 := Lib.hid (below_then H5.out h)
        clear H5 h
        go_wp2_with fail
        go_ret
        exact ⟨rfl, H6.out⟩
    · have hb1 := (HT.out ht).1
      have hb2 := (HT.out ht).2
      clear ht HT
      generalize bendS s a x = t at *
      refine (sum_any t _ (by have := HS.out; omega)).mono ?_
      rintro e w3 ⟨rfl, h⟩
      have H3 := Lib.hid (below_then H2.out h)
      clear H2 h
      go_wp2_with fail
      refine (sum_any s _ (by omega)).mono ?_
      rintro e w4 ⟨rfl, h⟩
      have H4 := Lib.hid (below_then H3.out h)
      clear H3 h
      by_cases h4 : s.size < 4
      · have h5 : (s.size : Int) < 4 := by omega
        go_wp2_with fail
        go_ret
        exact ⟨rfl, H4.out⟩
      have h7 : ¬ (s.size : Int) < 4 := by omega
      by_cases h6 : f.size < 4
      · have h5 : (f.size : Int) < 4 := by omega
        go_wp2_with fail
        go_ret
        exact ⟨rfl, H4.out⟩
      have h5 : ¬ (f.size : Int) < 4 := by omega
      go_wp2_with fail
      obtain ⟨k, hk, hk4⟩ := place_in a s.size (by omega) (by omega)
      rw [hk]
      clear hk
      go_quiet (fail)
      go_wp2_with fail
      have HU := Lib.hid (four_test s f k hk4 (by omega))
      have HZ := Lib.hid (four_size s f k)
      generalize s.extract 0 k ++ f.extract 0 4 ++ s.extract (k + 4) s.size = u at *
      by_cases hu : u = s
      · obtain rfl : u = s := hu
        clear HU HZ
        refine (sum_any u _ (by omega)).mono ?_
        rintro e w5 ⟨rfl, h⟩
        have H5 := Lib.hid (below_drawn H4.out h)
        clear H4 h
        go_wp2_with fail
        refine (sum_any u _ (by omega)).mono ?_
        rintro e w6 ⟨rfl, h⟩
        have H6 := Lib.hid (below_then H5.out h)
        clear H5 h
        go_wp2_with fail
        go_ret
        exact ⟨rfl, H6.out⟩
      · have ht1 := (HU.out hu).1
        have ht2 := (HU.out hu).2
        refine (sum_any u _ (by have := HZ.out; omega)).mono ?_
        rintro e w5 ⟨rfl, h⟩
        have H5 := Lib.hid (below_drawn H4.out h)
        clear H4 h
        go_wp2_with fail
        refine (sum_any s _ (by omega)).mono ?_
        rintro e w6 ⟨rfl, h⟩
        have H6 := Lib.hid (below_then H5.out h)
        clear H5 h
        go_wp2_with fail
        go_ret
        exact ⟨rfl, H6.out⟩
  · have hl' : (10000 : Int) < (s.size : Int) := by omega
    go_enter Try.func7, Try.ntmps7
    go_wp2_with fail
    refine (works_any _).mono ?_
    rintro e w1 ⟨rfl, h⟩
    have H1 := Lib.hid h
    clear h
    go_wp2_with fail
    refine (works_any _).mono ?_
    rintro e w2 ⟨rfl, h⟩
    have H2 := Lib.hid (below_then H1.out h)
    clear H1 h
    go_wp2_with fail
    go_ret
    exact ⟨rfl, H2.out⟩
section
open Go.ChangeShapes Go.WideShapes Go.ChangeAt
open Go.ChangeMaps (open_string)
set_option maxRecDepth 100000 in
theorem bent_lifted (os : Os) (started : os.Started) (H : Type) (enc : TypeId × Value → H) :
    ReturnsInHanded {} Try.checked os 7 .any (Rows.crcBentSpec.pre6 enc Try.prog Try.f7 Rows.crcBentRow.domain false) (Rows.crcBentSpec.post enc Try.prog Try.f7 false true false false) := by
  refine returnsInHanded_of_change_sized (C := Try.checked) Try.own started (by kernel_rfl) Try.func7
    (ChangeSpec.witness6 (enc := enc) (C := Try.checked) false ⟨#[], #[.string ⟨#[]⟩, .int .i64 0, .int .u32 0, .string ⟨#[]⟩], []⟩ 8 (by kernel_rfl) (by kernel_rfl) (by kernel_rfl) (by kernel_rfl)) ?_
  intro W base args ds gs before hval0 hW _ hsz0 _
  have hval : ∀ (j : Nat) t v, Try.f7.params[j]? = some t → args[j]? = some v → Value.okWide Try.prog W .any base t v := hval0
  have hsz : (DataW.weightsEach Try.prog (Try.f7.params.toList ++ Rows.crcBentSpec.plain.varTypes Try.prog) (ds ++ gs)).all (· ≤ reachBytes) = true := hsz0
  have hW' := hW
  obtain ⟨p, q, hA0, hV, rfl, _, _⟩ := hW
  have hA : DataW.TrodAll enc Try.prog W 0 (fun _ => true) true Try.f7.params.toList args.toList ds p := hA0
  rw [Try.params7] at hA hval hsz
  obtain ⟨v0, v1, v2, v3, d0, d1, d2, d3, p0, p1, p2, p3, rfl, rfl, rfl, h0, h1, h2, h3⟩ := trodAll_four hA
  obtain ⟨rfl, rfl⟩ := trodVars_none hV
  obtain ⟨x0, rfl, rfl, rfl, _⟩ := open_string Try.underlying9 (hval 0 9 v0 rfl rfl) h0
  obtain ⟨x1, rfl, rfl, rfl, w1⟩ := open_int Try.underlying3 (hval 1 3 v1 rfl rfl) h1
  obtain ⟨x2, rfl, rfl, rfl, w2⟩ := open_int Try.underlying23 (hval 2 23 v2 rfl rfl) h2
  obtain ⟨x3, rfl, rfl, rfl, _⟩ := open_string Try.underlying9 (hval 3 9 v3 rfl rfl) h3
  have r0 : x0.size ≤ 140737488351232 := by have := sized_string hsz (j := 0) (t := 9) rfl rfl; rw [reach_is] at this; simpa using this
  have r1 := in_i64 w1
  have r2 := in_u32 w2
  have r3 : x3.size ≤ 140737488351232 := by have := sized_string hsz (j := 3) (t := 9) rfl rfl; rw [reach_is] at this; simpa using this
  refine (bent_any x0 x1 x2 x3 W r0 r1 r2 r3).mono fun e W' ⟨he, hb⟩ => ?_
  subst he
  exact ⟨_, rfl, law_post hW' rfl (by kernel_rfl) Try.underlying4 rfl (by unfold Legible; kernel_rfl) hb⟩
/-- The statement. -/
theorem bent_holds : Rows.CrcBentSaid :=
  OpenClaim.holds_of_wide 7 Try.f7 rfl rfl rfl rfl rfl rfl rfl ⟨rfl, rfl, rfl, rfl, rfl⟩ rfl rfl rfl rfl rfl (by kernel_rfl) Try.func7 (by kernel_rfl)
    (of_decide_eq_true (by kernel_rfl)) (by unfold Func.isWrapper; first | (rw [if_pos (by decide +kernel)]; kernel_rfl) | (rw [if_neg (by decide +kernel)]; exact ⟨rfl, rfl⟩))
    (fun os started H enc _ => bent_lifted os started H enc)
end
end Go.Proofs.Ytmnpdllajplfeaa
