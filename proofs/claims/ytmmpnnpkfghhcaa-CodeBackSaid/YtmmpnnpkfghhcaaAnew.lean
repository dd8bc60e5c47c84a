/-
  PROVED HERE: for any text, CodeAnew of package coveylaw02 returns true: what is read, written anew, are the bytes that were gone over. No condition.
-/
import Derived.Test.YtmmpnnpkfghhcaaShort
import Derived.Deep.DeepCutAuto
namespace Go.Proofs.Ytmmpnnpkfghhcaa
open Go.RowKit
/-- What was gone over of a text of which l is left. -/
theorem gone_over (s : ByteArray) (d l : List UInt8) (h : d ++ l = s.data.toList) : s.extract 0 (s.size - l.length) = bs d ∧ l.length ≤ s.size := by
  have hz : s.size = d.length + l.length := by
    have := congrArg List.length h
    rw [List.length_append] at this
    have e : s.data.toList.length = s.size := by simp
    omega
  refine ⟨WideShapes.bytes_inj ?_, by omega⟩
  rw [hz]
  simp [bs, List.extract_eq_take_drop, ← h]
theorem below_row' {w wr w' : World} {g : Nat} (h : Below w.heap.size w wr) (hg : wr.grownBy w' (some g)) (hs : w.heap.size ≤ g) : Below w.heap.size w w' :=
  h.grown hg h.size fun k hk => by injection hk; omega
theorem rLeft_now (g : Nat) (l : List UInt8) (w : World) (hr : Rdr w g l 0) : Calls Try.prog 20 #[.pointer (some ⟨g, 0, none⟩)] w (Answered g l.length 0 l w) := rLeft_any g 0 l w hr
theorem rID_is (g : Nat) (l : List UInt8) (r : (Nat × Nat) × Nat × List UInt8) (w : World) (hr : Rdr w g l 0) (h : idP l = r) : Calls Try.prog 19 #[.pointer (some ⟨g, 0, none⟩)] w (TookID g r w) := by
  have := rID_any g 0 l w hr
  rw [show idS l 0 = r from h] at this
  exact this
theorem id_new (a i : Int) (w : World) (hv : vid a i = true) :
    Calls Try.prog 11 #[.string ⟨#[]⟩, .agg #[.int .i64 a, .int .i64 i]] w fun e w' => e = .returned (.tuple #[.string (bs (encID (a, i))), .int .i64 0]) ∧ Below w.heap.size w w' :=
  (id_yes a i ⟨#[]⟩ w hv (by decide)).mono fun _ _ ⟨he, hb⟩ => ⟨he.trans (ret_pair (WideShapes.bytes_inj (by simp)) rfl), hb⟩
/-- The first part, for a reader that has been opened: a number. -/
theorem left_num (l : List UInt8) (h : (numS l 0).2.1 = 0) : encI ((numS l 0).1 : Int) ++ (numS l 0).2.2 = l ∧ ((numS l 0).1 : Int) ≤ 1099511627776 := by
  have h1 := Code.enc_num l h
  have h2 := (Code.num_le 0 0 l).1
  refine ⟨h1, ?_⟩
  have : (numS l 0).1 ≤ 1099511627776 := h2
  omega
set_option maxHeartbeats 1000000 in
set_option maxRecDepth 100000 in
theorem anew_small (s : ByteArray) (w : World) (hs : s.size ≤ 2000) :
    Calls Try.prog 5 #[.string s] w fun e w' => e = .returned (.bool true) ∧ Below w.heap.size w w' := by
  have hd : decide ((2000 : Int) < (s.size : Int)) = false := by simp; omega
  have HX := Lib.hid (bs_of s)
  have hse : ((⟨#[]⟩ : ByteArray) == ⟨#[]⟩) = true := rfl
  go_enter Try.func5, Try.ntmps5
  go_wp2_with fail
  refine (awake_any _).mono ?_
  rintro e w1 ⟨rfl, h⟩
  have B1 := Lib.hid h
  clear h
  go_wp2_with fail
  refine (open_any _ _).mono ?_
  rintro e w2 ⟨rfl, rfl⟩
  have HR := Lib.hid (rdr_text w1 HX.out.symm)
  have HG := Lib.hid fun w' hg => reader_grown (w1 := w') (s := s) B1.out hg
  go_wp2_with fail
  generalize hq : numS s.data.toList 0 = r
  have HQ := Lib.hid hq
  have HL := Lib.hid (left_num s.data.toList)
  rw [hq] at HL
  obtain ⟨n, e, l⟩ := r
  clear hq
  refine (rNum_is _ 0 _ _ _ HR.out HQ.out).mono ?_
  rintro x w2 ⟨rfl, hg, hr⟩
  have B2 := Lib.hid (HG.out _ hg)
  have R2 := Lib.hid hr
  clear HR HG hg hr
  have HS := Lib.hid B1.out.size
  clear B1
  generalize w1.heap.size = g at *
  go_upto_if 30 with fail
  go_cut [2] (fun s2 wx => s2 = .bool false ∧ Hid (Below w.heap.size w wx))
  case first =>
    by_cases he : e = 0
    · subst he
      obtain ⟨e1, e2⟩ := HL.out (by trivial)
      obtain ⟨e3, e4⟩ := gone_over s (encI (n : Int)) l e1
      have H1 := Lib.hid e2
      have H3 := Lib.hid e3
      clear e1 e2 e3
      go_wp2_with fail
      refine (num_new _ _ (by omega) H1.out).mono ?_
      rintro x w3 ⟨rfl, h⟩
      have B3 := Lib.hid (below_after B2.out h (Nat.le_refl _))
      have R3 := Lib.hid (rdr_below R2.out h)
      clear h
      go_wp2_with fail
      refine (rLeft_now g l _ R3.out).mono ?_
      rintro x w4 ⟨rfl, hg, _⟩
      have B4 := Lib.hid (below_row' B3.out hg HS.out)
      have he3 := H3.out
      have he4 : (0 : Int) ≤ (s.size : Int) - (l.length : Int) := by omega
      have he5 : ((s.size : Int) - (l.length : Int)).toNat = s.size - l.length := by omega
      clear hg
      go_wp2_with fail
      go_meet
      exact ⟨rfl, B4⟩
    · have de : ((e : Int) == 0) = false := by simp; omega
      clear he
      go_wp2_with fail
      go_meet
      exact ⟨rfl, B2⟩
  case rest =>
    obtain ⟨rfl, hb⟩ := hcut
    have B2 := hb
    clear hb HL HQ
    go_wp2_with fail
    refine (open_any _ _).mono ?_
    rintro e w2 ⟨rfl, rfl⟩
    have HR := Lib.hid (rdr_text wc HX.out.symm)
    have HG := Lib.hid fun w' hg => reader_grown (w1 := w') (s := s) B2.out hg
    have HS := Lib.hid B2.out.size
    go_wp2_with fail
    generalize hq : idsP s.data.toList = r
    have HQ := Lib.hid hq
    have HL := Lib.hid (fun h => idsP_back (l := s.data.toList) h)
    rw [hq] at HL
    obtain ⟨d, e, l⟩ := r
    clear hq
    refine (rIDs_is _ _ _ _ _ _ HR.out HQ.out).mono ?_
    rintro x w2 ⟨v, rfl, hg, hr, hi⟩
    have B3 := Lib.hid (HG.out _ hg)
    have R3 := Lib.hid hr
    have I3 := Lib.hid hi
    clear HR HG hg hr hi
    generalize wc.heap.size = g at *
    go_upto_if 57 with fail
    go_cut [2] (fun s2 wx => s2 = .bool false ∧ Hid (Below w.heap.size w wx))
    case first =>
      by_cases he : e = 0
      · subst he
        obtain ⟨e1, e2, e3, e4⟩ := HL.out (by trivial)
        obtain ⟨e5, e6⟩ := gone_over s (encIDs d) l e4
        have H1 := Lib.hid e1
        have H2 := Lib.hid (show (allVid d && risesB d) = true by rw [e2, e3]; rfl)
        have H3 := Lib.hid e5
        have J3 := Lib.hid (I3.out (by trivial))
        clear e1 e2 e3 e4 e5
        go_wp2_with fail
        refine (ids_new _ d _ J3.out H1.out H2.out).mono ?_
        rintro x w3 ⟨rfl, h⟩
        have B4 := Lib.hid (below_after B3.out h (Nat.le_refl _))
        have R4 := Lib.hid (rdr_below R3.out h)
        clear h
        go_wp2_with fail
        refine (rLeft_now g l _ R4.out).mono ?_
        rintro x w4 ⟨rfl, hg, _⟩
        have B5 := Lib.hid (below_row' B4.out hg HS.out)
        have he3 := H3.out
        have he4 : (0 : Int) ≤ (s.size : Int) - (l.length : Int) := by omega
        have he5 : ((s.size : Int) - (l.length : Int)).toNat = s.size - l.length := by omega
        clear hg
        go_wp2_with fail
        go_meet
        exact ⟨rfl, B5⟩
      · have de : ((e : Int) == 0) = false := by simp; omega
        clear he
        go_wp2_with fail
        go_meet
        exact ⟨rfl, B3⟩
    case rest =>
      obtain ⟨rfl, hb⟩ := hcut
      have B2 := hb
      clear hb HL HQ HS I3
      rename World => wd
      go_wp2_with fail
      refine (open_any _ _).mono ?_
      rintro e w2 ⟨rfl, rfl⟩
      have HR := Lib.hid (rdr_text wd HX.out.symm)
      have HG := Lib.hid fun w' hg => reader_grown (w1 := w') (s := s) B2.out hg
      have HS := Lib.hid B2.out.size
      go_wp2_with fail
      generalize hq : idP s.data.toList = r
      have HQ := Lib.hid hq
      have HL := Lib.hid (fun h => idP_back (l := s.data.toList) h)
      have HE := Lib.hid (fun h => idP_bad (l := s.data.toList) h)
      rw [hq] at HL HE
      obtain ⟨⟨a, i⟩, e, l⟩ := r
      clear hq
      refine (rID_is _ _ _ _ HR.out HQ.out).mono ?_
      rintro x w2 ⟨rfl, hg, hr⟩
      have B3 := Lib.hid (HG.out _ hg)
      have R3 := Lib.hid hr
      clear HR HG hg hr
      generalize wd.heap.size = g at *
      have HB := Lib.hid (box_new w2 (a : Int) (i : Int))
      have B4 := Lib.hid (B3.out.alloc B3.out.size (.cells #[.int .i64 (a : Int), .int .i64 (i : Int)] 23))
      have R4 := Lib.hid (rdr_boxed R3.out (.cells #[.int .i64 (a : Int), .int .i64 (i : Int)] 23))
      by_cases he : e = 0
      · subst he
        obtain ⟨e1, e4⟩ := HL.out (by trivial)
        obtain ⟨e5, e6⟩ := gone_over s (encID ((a : Int), (i : Int))) l e4
        have H1 := Lib.hid e1
        have H3 := Lib.hid e5
        clear e1 e4 e5
        obtain ⟨b0, b1⟩ := box_cells HB.out
        go_wp2_with fail
        refine (id_new _ _ _ H1.out).mono ?_
        rintro x w3 ⟨rfl, h⟩
        have B5 := Lib.hid (below_after B4.out h (Nat.le_refl _))
        have R5 := Lib.hid (rdr_below R4.out h)
        clear h b0 b1
        go_wp2_with fail
        refine (rLeft_now g l _ R5.out).mono ?_
        rintro x w4 ⟨rfl, hg, _⟩
        have B6 := Lib.hid (below_row' B5.out hg HS.out)
        have he3 := H3.out
        have he4 : (0 : Int) ≤ (s.size : Int) - (l.length : Int) := by omega
        have he5 : ((s.size : Int) - (l.length : Int)).toNat = s.size - l.length := by omega
        clear hg
        go_wp2_with fail
        go_ret
        exact ⟨rfl, B6.out⟩
      · have de : ((e : Int) == 0) = false := by simp; omega
        have HZ := Lib.hid (HE.out he)
        have HZ2 := Lib.hid he
        clear he
        go_wp2_with fail
        refine (rLeft_any g e l _ R4.out).mono ?_
        rw [show leftS l e = 0 from if_neg HZ2.out]
        rintro x w4 ⟨rfl, hg, _⟩
        have B6 := Lib.hid (below_row' B4.out hg HS.out)
        have HB2 := Lib.hid (box_far HB.out hg (by have := row_lt R3.out; omega))
        obtain ⟨b0, b1⟩ := box_cells HB2.out
        have hab := HZ.out
        clear hg
        simp only [Prod.mk.injEq] at hab
        obtain ⟨⟨rfl, rfl⟩, _, _⟩ := hab
        go_wp2_with fail
        go_ret
        exact ⟨rfl, B6.out⟩
theorem anew_any (s : ByteArray) (w : World) (_ : s.size ≤ 140737488351232) :
    Calls Try.prog 5 #[.string s] w fun e w' => e = .returned (.bool true) ∧ Below w.heap.size w w' := by
  by_cases hs : s.size ≤ 2000
  · exact anew_small s w hs
  · have hd : decide ((2000 : Int) < (s.size : Int)) = true := by simp; omega
    go_enter Try.func5, Try.ntmps5
    go_wp2_with fail
    refine (awake_any _).mono ?_
    rintro e w1 ⟨rfl, h⟩
    have B1 := Lib.hid h
    clear h
    go_wp2_with fail
    go_ret
    exact ⟨rfl, B1.out⟩
section
open Go.ChangeShapes Go.WideShapes Go.ChangeAt
open Go.ChangeMaps (open_string)
set_option maxRecDepth 100000 in
theorem anew_lifted (os : Os) (started : os.Started) (H : Type) (enc : TypeId × Value → H) :
    ReturnsInHanded {} Try.checked os 5 .any (Rows.codeAnewSpec.pre6 enc Try.prog Try.f5 Rows.codeAnewRow.domain false) (Rows.codeAnewSpec.post enc Try.prog Try.f5 false true false false) := by
  refine returnsInHanded_of_change_sized (C := Try.checked) Try.own started (by kernel_rfl) Try.func5
    (ChangeSpec.witness6 (enc := enc) (C := Try.checked) false ⟨#[], #[.string ⟨#[]⟩], []⟩ 8 (by kernel_rfl) (by kernel_rfl) (by kernel_rfl) (by kernel_rfl)) ?_
  intro W base args ds gs before hval0 hW _ hsz0 _
  have hval : ∀ (j : Nat) t v, Try.f5.params[j]? = some t → args[j]? = some v → Value.okWide Try.prog W .any base t v := hval0
  have hsz : (DataW.weightsEach Try.prog (Try.f5.params.toList ++ Rows.codeAnewSpec.plain.varTypes Try.prog) (ds ++ gs)).all (· ≤ reachBytes) = true := hsz0
  have hW' := hW
  obtain ⟨p, q, hA0, hV, rfl, _, _⟩ := hW
  have hA : DataW.TrodAll enc Try.prog W 0 (fun _ => true) true Try.f5.params.toList args.toList ds p := hA0
  rw [Try.params5] at hA hval hsz
  obtain ⟨v0, d0, rfl, rfl, h0⟩ := trodAll_one hA
  obtain ⟨rfl, rfl⟩ := trodVars_none hV
  obtain ⟨x0, rfl, rfl, rfl, _⟩ := open_string Try.underlying9 (hval 0 9 v0 rfl rfl) h0
  have r0 : x0.size ≤ 140737488351232 := by have := sized_string hsz (j := 0) (t := 9) rfl rfl; rw [reach_is] at this; simpa using this
  refine (anew_any x0 W r0).mono fun e W' ⟨he, hb⟩ => ?_
  subst he
  exact ⟨_, rfl, law_post hW' rfl (by kernel_rfl) Try.underlying4 rfl (by unfold Legible; kernel_rfl) hb⟩
/-- The statement. -/
theorem anew_holds : Rows.CodeAnewSaid :=
  OpenClaim.holds_of_wide 5 Try.f5 rfl rfl rfl rfl rfl rfl rfl ⟨rfl, rfl, rfl, rfl, rfl⟩ rfl rfl rfl rfl rfl (by kernel_rfl) Try.func5 (by kernel_rfl)
    (of_decide_eq_true (by kernel_rfl)) (by unfold Func.isWrapper; first | (rw [if_pos (by decide +kernel)]; kernel_rfl) | (rw [if_neg (by decide +kernel)]; exact ⟨rfl, rfl⟩))
    (fun os started H enc _ => anew_lifted os started H enc)
end
end Go.Proofs.Ytmmpnnpkfghhcaa
