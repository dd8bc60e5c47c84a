/-
  PROVED HERE: for any number, any list and any number of bytes, CodeShort of package coveylaw02 returns true and leaves its arguments as they were: without their last bytes no number's or list's bytes are read: bytes are missing. No condition.
-/
import Derived.Test.YtmmpnnpkfghhcaaFacts
import Derived.Test.YtmmpnnpkfghhcaaOpen
namespace Go.Proofs.Ytmmpnnpkfghhcaa
open Go.RowKit
theorem ids_new (v : Value) (l : List (Int × Int)) (w : World) (h : Ids w v l) (hl : l.length ≤ 64) (hv : (allVid l && risesB l) = true) :
    Calls Try.prog 13 #[.string ⟨#[]⟩, v] w fun e w' => e = .returned (.tuple #[.string (bs (encIDs l)), .int .i64 0]) ∧ Below w.heap.size w w' :=
  (ids_yes v l ⟨#[]⟩ w h hl (by decide) hv).mono fun _ _ ⟨he, hb⟩ => ⟨he.trans (ret_pair (WideShapes.bytes_inj (by simp)) rfl), hb⟩
theorem cut_is (x : Int) (m : Nat) (h1 : 1 ≤ m) (h2 : m ≤ 1000000) : ∃ j : Nat, j < m ∧ wrap64 ((IntKind.u64.wrap x).tmod (m : Int)) = (j : Int) := by
  have hy : 0 ≤ IntKind.u64.wrap x := by rw [IntKind.wrap_u64]; omega
  generalize IntKind.u64.wrap x = y at *
  rw [Int.tmod_eq_emod_of_nonneg hy]
  have h3 : 0 ≤ y % (m : Int) := Int.emod_nonneg _ (by omega)
  have h4 : y % (m : Int) < m := Int.emod_lt_of_pos _ (by omega)
  obtain ⟨j, hj⟩ := Int.eq_ofNat_of_zero_le h3
  refine ⟨j, by omega, ?_⟩
  rw [IntWalk.wrap64_in _ ⟨by omega, by omega⟩, hj]
theorem rdr_text {s : ByteArray} {l : List UInt8} (w : World) (h : s = bs l) : Rdr (w.alloc (.cells #[.string s, .int .i64 0] 57)) w.heap.size l 0 := by
  subst h
  exact rdr_open l w
theorem text_cut (l : List UInt8) (j : Nat) : (bs l).extract 0 j = bs (l.take j) := WideShapes.bytes_inj (by simp [bs, List.extract_eq_take_drop])
theorem reader_grown {w wr w1 : World} {s : ByteArray} (h : Below w.heap.size w wr) (hg : (wr.alloc (.cells #[.string s, .int .i64 0] 57)).grownBy w1 (some wr.heap.size)) : Below w.heap.size w w1 := reader_below h hg (Nat.le_refl _)
theorem encIDs_len (l : List (Int × Int)) (hl : l.length ≤ 64) : 1 ≤ (encIDs l).length ∧ (encIDs l).length ≤ 1000 := by
  have h1 := encI_len (l.length : Int)
  have h2 := encAll_len l
  unfold encIDs
  rw [List.length_append]
  omega
theorem rIDs_is (g : Nat) (l : List UInt8) (d : List (Int × Int)) (e : Nat) (t : List UInt8) (w : World) (hr : Rdr w g l 0) (h : idsP l = (d, e, t)) :
    Calls Try.prog 18 #[.pointer (some ⟨g, 0, none⟩)] w (TookIDs g (d, e, t) w) := by
  have := rIDs_any g 0 l w hr
  rw [show idsS l 0 = (d, e, t) from h] at this
  exact this
/-- A list that is refused. -/
def Refused (w : World) (e : Ending) (w' : World) : Prop := ∃ k : Nat, k ≠ 0 ∧ e = .returned (.tuple #[.string ⟨#[]⟩, .int .i64 k]) ∧ Below w.heap.size w w'
theorem ids_bad (v : Value) (l : List (Int × Int)) (w : World) (h : Ids w v l) (hv : ¬ (l.length ≤ 64 ∧ (allVid l && risesB l) = true)) : Calls Try.prog 13 #[.string ⟨#[]⟩, v] w (Refused w) := by
  by_cases hl : l.length ≤ 64
  · exact (idsB v l _ w h hl (by cases hb : (allVid l && risesB l); rfl; exact absurd ⟨hl, hb⟩ hv)).mono fun e w' ⟨he, hb⟩ => ⟨4, by decide, he, hb⟩
  · exact (idsLong v l _ w h (by omega)).mono fun e w' ⟨he, hb⟩ => ⟨40, by decide, he, hb ▸ Below.refl _ _⟩
set_option maxHeartbeats 1000000 in
set_option maxRecDepth 100000 in
theorem short_both (n x : Int) (v : Value) (l : List (Int × Int)) (w : World) (h0 : 0 ≤ n) (hn : n ≤ 1099511627776) (h : Ids w v l) (hl : l.length ≤ 64) (hv : (allVid l && risesB l) = true) :
    Calls Try.prog 6 #[.int .i64 n, v, .int .i64 x] w fun e w' => e = .returned (.bool true) ∧ Below w.heap.size w w' := by
  obtain ⟨A, c, rfl, hz⟩ := id h
  clear hz
  have HI := Lib.hid h
  have HV := Lib.hid hv
  have HA := Lib.hid (show allVid l = true by simp at hv; exact hv.1)
  have hd : decide ((200 : Int) < (l.length : Int)) = false := by simp; omega
  clear h hv
  go_enter Try.func6, Try.ntmps6
  go_wp2_with fail
  refine (awake_any _).mono ?_
  rintro e w1 ⟨rfl, h⟩
  have B1 := Lib.hid h
  clear h
  go_wp2_with fail
  refine (num_new n _ h0 hn).mono ?_
  rintro e w2 ⟨rfl, h⟩
  have B2 := Lib.hid (below_then B1.out h)
  clear h
  have hz1 : (bs (encI n)).size = (encI n).length := bs_size _
  have hz2 := encI_len n
  obtain ⟨j, hj, hcut⟩ := cut_is x (bs (encI n)).size (by omega) (by omega)
  have HT := Lib.hid (text_cut (encI n) j)
  have HS := Lib.hid (numS_short n j h0 hn (by omega))
  have hz3 : 1 ≤ (bs (encI n)).size := by omega
  have hz4 : (bs (encI n)).size ≤ 6 := by omega
  have hz5 : ((bs (encI n)).size : Int) ≠ 0 := by omega
  clear hz1 hz2
  generalize bs (encI n) = S at *
  go_wp2_with fail
  refine (open_any _ _).mono ?_
  rintro e w3 ⟨rfl, rfl⟩
  have HR := Lib.hid (rdr_text w2 HT.out)
  have HG := Lib.hid fun w1 hg => reader_grown (w1 := w1) (s := S.extract 0 j) B2.out hg
  go_wp2_with fail
  refine (rNum_is _ 0 _ _ _ HR.out HS.out).mono ?_
  rintro e w3 ⟨rfl, hg, _⟩
  have B3 := Lib.hid (HG.out _ hg)
  have J3 := Lib.hid (HI.out.below B3.out)
  clear HR HG hg hcut hj HS HT
  go_wp2_with fail
  refine (ids_new _ l _ J3.out hl HV.out).mono ?_
  rintro e w4 ⟨rfl, h⟩
  have B4 := Lib.hid (below_then B3.out h)
  clear h
  have hz1 : (bs (encIDs l)).size = (encIDs l).length := bs_size _
  have hz2 := encIDs_len l hl
  obtain ⟨j, hj, hcut⟩ := cut_is x (bs (encIDs l)).size (by omega) (by omega)
  have HT := Lib.hid (text_cut (encIDs l) j)
  have HS := Lib.hid (idsP_short l j hl HA.out (by omega))
  have hz6 : 1 ≤ (bs (encIDs l)).size := by omega
  have hz7 : (bs (encIDs l)).size ≤ 1000 := by omega
  have hz8 : ((bs (encIDs l)).size : Int) ≠ 0 := by omega
  clear hz1 hz2
  generalize bs (encIDs l) = U at *
  go_wp2_with fail
  refine (open_any _ _).mono ?_
  rintro e w5 ⟨rfl, rfl⟩
  have HR := Lib.hid (rdr_text w4 HT.out)
  have HG := Lib.hid fun w1 hg => reader_grown (w1 := w1) (s := U.extract 0 j) B4.out hg
  go_wp2_with fail
  refine (rIDs_is _ _ _ _ _ _ HR.out HS.out).mono ?_
  rintro e w5 ⟨v5, rfl, hg, _, _⟩
  have B5 := Lib.hid (HG.out _ hg)
  clear HR HG hg hcut hj HS HT
  go_wp2_with fail
  go_ret
  exact ⟨rfl, B5.out⟩
set_option maxHeartbeats 1000000 in
set_option maxRecDepth 100000 in
theorem short_num (n x : Int) (v : Value) (l : List (Int × Int)) (w : World) (h0 : 0 ≤ n) (hn : n ≤ 1099511627776) (h : Ids w v l) (hl : l.length ≤ 200) (hv : ¬ (l.length ≤ 64 ∧ (allVid l && risesB l) = true)) :
    Calls Try.prog 6 #[.int .i64 n, v, .int .i64 x] w fun e w' => e = .returned (.bool true) ∧ Below w.heap.size w w' := by
  obtain ⟨A, c, rfl, hz⟩ := id h
  clear hz
  have HI := Lib.hid h
  have HV := Lib.hid hv
  have hd : decide ((200 : Int) < (l.length : Int)) = false := by simp; omega
  clear h hv
  go_enter Try.func6, Try.ntmps6
  go_wp2_with fail
  refine (awake_any _).mono ?_
  rintro e w1 ⟨rfl, h⟩
  have B1 := Lib.hid h
  clear h
  go_wp2_with fail
  refine (num_new n _ h0 hn).mono ?_
  rintro e w2 ⟨rfl, h⟩
  have B2 := Lib.hid (below_then B1.out h)
  clear h
  have hz1 : (bs (encI n)).size = (encI n).length := bs_size _
  have hz2 := encI_len n
  obtain ⟨j, hj, hcut⟩ := cut_is x (bs (encI n)).size (by omega) (by omega)
  have HT := Lib.hid (text_cut (encI n) j)
  have HS := Lib.hid (numS_short n j h0 hn (by omega))
  have hz3 : 1 ≤ (bs (encI n)).size := by omega
  have hz4 : (bs (encI n)).size ≤ 6 := by omega
  have hz5 : ((bs (encI n)).size : Int) ≠ 0 := by omega
  clear hz1 hz2
  generalize bs (encI n) = S at *
  go_wp2_with fail
  refine (open_any _ _).mono ?_
  rintro e w3 ⟨rfl, rfl⟩
  have HR := Lib.hid (rdr_text w2 HT.out)
  have HG := Lib.hid fun w1 hg => reader_grown (w1 := w1) (s := S.extract 0 j) B2.out hg
  go_wp2_with fail
  refine (rNum_is _ 0 _ _ _ HR.out HS.out).mono ?_
  rintro e w3 ⟨rfl, hg, _⟩
  have B3 := Lib.hid (HG.out _ hg)
  have J3 := Lib.hid (HI.out.below B3.out)
  clear HR HG hg hcut hj HS HT
  go_wp2_with fail
  refine (ids_bad _ l _ J3.out HV.out).mono ?_
  rintro e w4 ⟨k, hk, rfl, h⟩
  have B4 := Lib.hid (below_then B3.out h)
  have dk : ((k : Int) == 0) = false := by simp; omega
  clear h
  go_wp2_with fail
  go_ret
  exact ⟨rfl, B4.out⟩
set_option maxHeartbeats 1000000 in
set_option maxRecDepth 100000 in
theorem short_list (n x : Int) (v : Value) (l : List (Int × Int)) (w : World) (hn : n < 0 ∨ 1099511627776 < n) (h : Ids w v l) (hl : l.length ≤ 64) (hv : (allVid l && risesB l) = true) :
    Calls Try.prog 6 #[.int .i64 n, v, .int .i64 x] w fun e w' => e = .returned (.bool true) ∧ Below w.heap.size w w' := by
  obtain ⟨A, c, rfl, hz⟩ := id h
  clear hz
  have HI := Lib.hid h
  have HV := Lib.hid hv
  have HA := Lib.hid (show allVid l = true by simp at hv; exact hv.1)
  have hd : decide ((200 : Int) < (l.length : Int)) = false := by simp; omega
  clear h hv
  go_enter Try.func6, Try.ntmps6
  go_wp2_with fail
  refine (awake_any _).mono ?_
  rintro e w1 ⟨rfl, h⟩
  have B1 := Lib.hid h
  clear h
  go_wp2_with fail
  refine (numB n _ hn _).mono ?_
  rintro e w2 ⟨rfl, rfl⟩
  have B3 := Lib.hid B1.out
  have J3 := Lib.hid (HI.out.below B3.out)
  go_wp2_with fail
  refine (ids_new _ l _ J3.out hl HV.out).mono ?_
  rintro e w4 ⟨rfl, h⟩
  have B4 := Lib.hid (below_then B3.out h)
  clear h
  have hz1 : (bs (encIDs l)).size = (encIDs l).length := bs_size _
  have hz2 := encIDs_len l hl
  obtain ⟨j, hj, hcut⟩ := cut_is x (bs (encIDs l)).size (by omega) (by omega)
  have HT := Lib.hid (text_cut (encIDs l) j)
  have HS := Lib.hid (idsP_short l j hl HA.out (by omega))
  have hz6 : 1 ≤ (bs (encIDs l)).size := by omega
  have hz7 : (bs (encIDs l)).size ≤ 1000 := by omega
  have hz8 : ((bs (encIDs l)).size : Int) ≠ 0 := by omega
  clear hz1 hz2
  generalize bs (encIDs l) = U at *
  go_wp2_with fail
  refine (open_any _ _).mono ?_
  rintro e w5 ⟨rfl, rfl⟩
  have HR := Lib.hid (rdr_text w4 HT.out)
  have HG := Lib.hid fun w1 hg => reader_grown (w1 := w1) (s := U.extract 0 j) B4.out hg
  go_wp2_with fail
  refine (rIDs_is _ _ _ _ _ _ HR.out HS.out).mono ?_
  rintro e w5 ⟨v5, rfl, hg, _, _⟩
  have B5 := Lib.hid (HG.out _ hg)
  clear HR HG hg hcut hj HS HT
  go_wp2_with fail
  go_ret
  exact ⟨rfl, B5.out⟩
set_option maxHeartbeats 1000000 in
set_option maxRecDepth 100000 in
theorem short_none (n x : Int) (v : Value) (l : List (Int × Int)) (w : World) (hn : n < 0 ∨ 1099511627776 < n) (h : Ids w v l) (hl : l.length ≤ 200) (hv : ¬ (l.length ≤ 64 ∧ (allVid l && risesB l) = true)) :
    Calls Try.prog 6 #[.int .i64 n, v, .int .i64 x] w fun e w' => e = .returned (.bool true) ∧ Below w.heap.size w w' := by
  obtain ⟨A, c, rfl, hz⟩ := id h
  clear hz
  have HI := Lib.hid h
  have HV := Lib.hid hv
  have hd : decide ((200 : Int) < (l.length : Int)) = false := by simp; omega
  clear h hv
  go_enter Try.func6, Try.ntmps6
  go_wp2_with fail
  refine (awake_any _).mono ?_
  rintro e w1 ⟨rfl, h⟩
  have B1 := Lib.hid h
  clear h
  go_wp2_with fail
  refine (numB n _ hn _).mono ?_
  rintro e w2 ⟨rfl, rfl⟩
  have B3 := Lib.hid B1.out
  have J3 := Lib.hid (HI.out.below B3.out)
  go_wp2_with fail
  refine (ids_bad _ l _ J3.out HV.out).mono ?_
  rintro e w4 ⟨k, hk, rfl, h⟩
  have B4 := Lib.hid (below_then B3.out h)
  have dk : ((k : Int) == 0) = false := by simp; omega
  clear h
  go_wp2_with fail
  go_ret
  exact ⟨rfl, B4.out⟩
theorem short_great (n x : Int) (v : Value) (l : List (Int × Int)) (w : World) (h : Ids w v l) (hl : 200 < l.length) :
    Calls Try.prog 6 #[.int .i64 n, v, .int .i64 x] w fun e w' => e = .returned (.bool true) ∧ Below w.heap.size w w' := by
  obtain ⟨A, c, rfl, hz⟩ := id h
  clear hz h
  have hd : decide ((200 : Int) < (l.length : Int)) = true := by simp; omega
  go_enter Try.func6, Try.ntmps6
  go_wp2_with fail
  refine (awake_any _).mono ?_
  rintro e w1 ⟨rfl, h⟩
  have B1 := Lib.hid h
  clear h
  go_wp2_with fail
  go_ret
  exact ⟨rfl, B1.out⟩
theorem short_any (n : Int) (v : Value) (l : List (Int × Int)) (x : Int) (w : World) (_ : -9223372036854775808 ≤ n ∧ n ≤ 9223372036854775807) (h : Ids w v l) (_ : -9223372036854775808 ≤ x ∧ x ≤ 9223372036854775807) :
    Calls Try.prog 6 #[.int .i64 n, v, .int .i64 x] w fun e w' => e = .returned (.bool true) ∧ Below w.heap.size w w' := by
  by_cases hg : 200 < l.length
  · exact short_great n x v l w h hg
  · by_cases hn : 0 ≤ n ∧ n ≤ 1099511627776
    · by_cases hl : l.length ≤ 64 ∧ (allVid l && risesB l) = true
      · exact short_both n x v l w hn.1 hn.2 h hl.1 hl.2
      · exact short_num n x v l w hn.1 hn.2 h (by omega) hl
    · by_cases hl : l.length ≤ 64 ∧ (allVid l && risesB l) = true
      · exact short_list n x v l w (by omega) h hl.1 hl.2
      · exact short_none n x v l w (by omega) h (by omega) hl
section
open Go.ChangeShapes Go.WideShapes Go.ChangeAt
open Go.ChangeMaps (open_string)
set_option maxRecDepth 100000 in
theorem short_lifted (os : Os) (started : os.Started) (H : Type) (enc : TypeId × Value → H) :
    ReturnsInHanded {} Try.checked os 6 .any (Rows.codeShortSpec.pre6 enc Try.prog Try.f6 Rows.codeShortRow.domain false) (Rows.codeShortSpec.post enc Try.prog Try.f6 false true false false) := by
  refine returnsInHanded_of_change_sized (C := Try.checked) Try.own started (by kernel_rfl) Try.func6
    (ChangeSpec.witness6 (enc := enc) (C := Try.checked) false ⟨#[], #[.int .i64 0, .slice none 0 0, .int .i64 0], []⟩ 8 (by kernel_rfl) (by kernel_rfl) (by kernel_rfl) (by kernel_rfl)) ?_
  intro W base args ds gs before hval0 hW _ _ _
  have hval : ∀ (j : Nat) t v, Try.f6.params[j]? = some t → args[j]? = some v → Value.okWide Try.prog W .any base t v := hval0
  have hW' := hW
  obtain ⟨p, q, hA0, hV, rfl, _, _⟩ := hW
  have hA : DataW.TrodAll enc Try.prog W 0 (fun _ => true) true Try.f6.params.toList args.toList ds p := hA0
  rw [Try.params6] at hA hval
  obtain ⟨v0, v1, v2, d0, d1, d2, p0, p1, p2, rfl, rfl, rfl, h0, h1, h2⟩ := trodAll_three hA
  obtain ⟨rfl, rfl⟩ := trodVars_none hV
  obtain ⟨x0, rfl, rfl, rfl, w0⟩ := open_int Try.underlying3 (hval 0 3 v0 rfl rfl) h0
  obtain ⟨l1, I1⟩ := open_ids (hval 1 24 v1 rfl rfl) h1
  obtain ⟨x2, rfl, rfl, rfl, w2⟩ := open_int Try.underlying3 (hval 2 3 v2 rfl rfl) h2
  have r0 := in_i64 w0
  have r2 := in_i64 w2
  refine (short_any x0 v1 l1 x2 W r0 I1 r2).mono fun e W' ⟨he, hb⟩ => ?_
  subst he
  exact ⟨_, rfl, law_post hW' rfl (by kernel_rfl) Try.underlying4 rfl (by unfold Legible; kernel_rfl) hb⟩
/-- The statement. -/
theorem short_holds : Rows.CodeShortSaid :=
  OpenClaim.holds_of_wide 6 Try.f6 rfl rfl rfl rfl rfl rfl rfl ⟨rfl, rfl, rfl, rfl, rfl⟩ rfl rfl rfl rfl rfl (by kernel_rfl) Try.func6 (by kernel_rfl)
    (of_decide_eq_true (by kernel_rfl)) (by unfold Func.isWrapper; first | (rw [if_pos (by decide +kernel)]; kernel_rfl) | (rw [if_neg (by decide +kernel)]; exact ⟨rfl, rfl⟩))
    (fun os started H enc _ => short_lifted os started H enc)
end
end Go.Proofs.Ytmmpnnpkfghhcaa
