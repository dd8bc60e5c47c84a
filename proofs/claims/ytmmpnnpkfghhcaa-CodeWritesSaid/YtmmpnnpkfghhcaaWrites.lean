/-
  PROVED HERE: for any text, any number, any ID and any list, CodeWrites of package coveylaw02 returns true and leaves its arguments as they were: the bytes of any number, ID and list, behind any bytes, are the document's, or it is refused. No condition.
-/
import Derived.Test.YtmmpnnpkfghhcaaOpen
namespace Go.Proofs.Ytmmpnnpkfghhcaa
open Go.RowKit
/-- What is written behind a text, and whether it is refused: numbers, IDs, lists. -/
def numW (s : ByteArray) (n : Int) : ByteArray × Int := if 0 ≤ n ∧ n ≤ 1099511627776 then (s ++ bs (encI n), 0) else (s, 1)
def idW (s : ByteArray) (a i : Int) : ByteArray × Int := if vid a i = true then (s ++ bs (encID (a, i)), 0) else (s, 4)
def idsW (s : ByteArray) (l : List (Int × Int)) : ByteArray × Int := if 64 < l.length then (s, 40) else if (allVid l && risesB l) = true then (s ++ bs (encIDs l), 0) else (s, 4)
def Two (r : ByteArray × Int) (w : World) (e : Ending) (w' : World) : Prop := e = .returned (.tuple #[.string r.1, .int .i64 r.2]) ∧ Below w.heap.size w w'
theorem two_of {r : ByteArray × Int} {s : ByteArray} {n : Int} {w w' : World} {e : Ending} (h : r = (s, n)) (he : e = .returned (.tuple #[.string s, .int .i64 n])) (hb : Below w.heap.size w w') : Two r w e w' := by
  subst h
  exact ⟨he, hb⟩
theorem num_w (s : ByteArray) (n : Int) (w : World) (hs : s.size ≤ 2000) : Calls Try.prog 9 #[.string s, .int .i64 n] w (Two (numW s n) w) := by
  by_cases h : 0 ≤ n ∧ n ≤ 1099511627776
  · exact (num_yes n w h.1 h.2 s (by omega)).mono fun e w' ⟨he, hb⟩ => two_of (if_pos h) he hb
  · exact (numB n w (by omega) s).mono fun e w' ⟨he, hb⟩ => two_of (if_neg h) he (hb ▸ Below.refl _ _)
theorem refNum_w (s : ByteArray) (n : Int) (w : World) (hs : s.size ≤ 2000) : Calls Try.prog 10 #[.string s, .int .i64 n] w (Two (numW s n) w) := by
  by_cases h : 0 ≤ n ∧ n ≤ 1099511627776
  · exact (refNum_any n w h.1 h.2 s (by omega)).mono fun e w' ⟨he, hb⟩ => two_of (if_pos h) he hb
  · exact (refNumB n w (by omega) s).mono fun e w' ⟨he, hb⟩ => two_of (if_neg h) he (hb ▸ Below.refl _ _)
theorem id_w (s : ByteArray) (a i : Int) (w : World) (hs : s.size ≤ 2000) : Calls Try.prog 11 #[.string s, .agg #[.int .i64 a, .int .i64 i]] w (Two (idW s a i) w) := by
  cases h : vid a i
  · exact (idB a i s w h).mono fun e w' ⟨he, hb⟩ => two_of (if_neg (by simp [h])) he hb
  · exact (id_yes a i s w h (by omega)).mono fun e w' ⟨he, hb⟩ => two_of (if_pos h) he hb
theorem refID_w (s : ByteArray) (a i : Int) (w : World) (hs : s.size ≤ 2000) : Calls Try.prog 12 #[.string s, .agg #[.int .i64 a, .int .i64 i]] w (Two (idW s a i) w) := by
  cases h : vid a i
  · exact (refIDB a i s w h).mono fun e w' ⟨he, hb⟩ => two_of (if_neg (by simp [h])) he hb
  · exact (refID_any a i s w h (by omega)).mono fun e w' ⟨he, hb⟩ => two_of (if_pos h) he hb
theorem ids_w (s : ByteArray) (v : Value) (l : List (Int × Int)) (w : World) (h : Ids w v l) (hs : s.size ≤ 2000) : Calls Try.prog 13 #[.string s, v] w (Two (idsW s l) w) := by
  by_cases hl : 64 < l.length
  · exact (idsLong v l s w h hl).mono fun e w' ⟨he, hb⟩ => two_of (if_pos hl) he (hb ▸ Below.refl _ _)
  · cases hv : (allVid l && risesB l)
    · exact (idsB v l s w h (by omega) hv).mono fun e w' ⟨he, hb⟩ => two_of (by unfold idsW; rw [if_neg hl, if_neg (by simp [hv])]) he hb
    · exact (ids_yes v l s w h (by omega) (by omega) hv).mono fun e w' ⟨he, hb⟩ => two_of (by unfold idsW; rw [if_neg hl, if_pos hv]) he hb
theorem refIDs_w (s : ByteArray) (v : Value) (l : List (Int × Int)) (w : World) (h : Ids w v l) (hs : s.size ≤ 2000) : Calls Try.prog 14 #[.string s, v] w (Two (idsW s l) w) := by
  by_cases hl : 64 < l.length
  · exact (refIDsLong v l s w h hl).mono fun e w' ⟨he, hb⟩ => two_of (if_pos hl) he (hb ▸ Below.refl _ _)
  · cases hv : (allVid l && risesB l)
    · exact (refIDsB v l s w h (by omega) hv).mono fun e w' ⟨he, hb⟩ => two_of (by unfold idsW; rw [if_neg hl, if_neg (by simp [hv])]) he hb
    · exact (refIDs_any v l s w h (by omega) (by omega) hv).mono fun e w' ⟨he, hb⟩ => two_of (by unfold idsW; rw [if_neg hl, if_pos hv]) he hb
set_option maxHeartbeats 1000000 in
set_option maxRecDepth 100000 in
theorem writes_small (s : ByteArray) (n a i : Int) (v : Value) (l : List (Int × Int)) (w : World) (h : Ids w v l) (hs : s.size ≤ 2000) (hl : l.length ≤ 200) :
    Calls Try.prog 3 #[.string s, .int .i64 n, .agg #[.int .i64 a, .int .i64 i], v] w fun e w' => e = .returned (.bool true) ∧ Below w.heap.size w w' := by
  obtain ⟨A, c, rfl, hz⟩ := id h
  clear hz
  have HI := Lib.hid h
  clear h
  have HX := Lib.hid (box_new w a i)
  have B0 := Lib.hid ((Below.refl w.heap.size w).alloc (Nat.le_refl _) (.cells #[.int .i64 a, .int .i64 i] 23))
  go_enter Try.func3, Try.ntmps3
  go_wp2_with fail
  generalize w.alloc (.cells #[.int .i64 a, .int .i64 i] 23) = w0 at *
  refine (num_w s n _ hs).mono ?_
  rintro e w1 ⟨rfl, h⟩
  have B1 := Lib.hid (below_after B0.out h (Nat.le_refl _))
  have X1 := Lib.hid (show Box w1 w.heap.size a i from (h.block _ (box_lt HX.out)).trans HX.out)
  clear h
  go_wp2_with fail
  refine (refNum_w s n _ hs).mono ?_
  rintro e w2 ⟨rfl, h⟩
  have B2 := Lib.hid (below_after B1.out h (Nat.le_refl _))
  have X2 := Lib.hid (show Box w2 w.heap.size a i from (h.block _ (box_lt X1.out)).trans X1.out)
  clear h
  obtain ⟨c1, c2⟩ := box_cells X2.out
  go_wp2_with fail
  refine (id_w s a i _ hs).mono ?_
  rintro e w3 ⟨rfl, h⟩
  have B3 := Lib.hid (below_after B2.out h (Nat.le_refl _))
  have X3 := Lib.hid (show Box w3 w.heap.size a i from (h.block _ (box_lt X2.out)).trans X2.out)
  clear h c1 c2
  obtain ⟨c1, c2⟩ := box_cells X3.out
  go_wp2_with fail
  refine (refID_w s a i _ hs).mono ?_
  rintro e w4 ⟨rfl, h⟩
  have B4 := Lib.hid (below_after B3.out h (Nat.le_refl _))
  have J4 := Lib.hid (HI.out.below B4.out)
  clear h c1 c2
  go_wp2_with (at_builtin; refine wpList_append_ids rfl (.tmp 55) (.tmp 56) rfl w4 _ l rfl rfl J4.out (by omega) ?_; intro v5 w5 h1 h2)
  have B5 := Lib.hid (below_after B4.out h2 (Nat.le_refl _))
  have J5 := Lib.hid h1
  have I5 := Lib.hid (HI.out.below B5.out)
  clear h1 h2
  go_wp2_with fail
  refine (ids_w s _ l _ J5.out hs).mono ?_
  rintro e w6 ⟨rfl, h⟩
  have B6 := Lib.hid (below_after B5.out h (Nat.le_refl _))
  have J6 := Lib.hid (J5.out.below h)
  have I6 := Lib.hid (I5.out.below h)
  clear h
  go_wp2_with fail
  refine (refIDs_w s _ l _ I6.out hs).mono ?_
  rintro e w7 ⟨rfl, h⟩
  have B7 := Lib.hid (below_after B6.out h (Nat.le_refl _))
  have J7 := Lib.hid (J6.out.below h)
  have I7 := Lib.hid (I6.out.below h)
  clear h
  go_wp2_with fail
  refine (same_any _ _ l _ J7.out I7.out (by omega)).mono ?_
  rintro e w8 ⟨rfl, h⟩
  have B8 := Lib.hid (below_after B7.out h (Nat.le_refl _))
  clear h
  go_wp2_with fail
  refine (awake_any _).mono ?_
  rintro e w9 ⟨rfl, h⟩
  have B9 := Lib.hid (below_after B8.out h (Nat.le_refl _))
  clear h
  go_wp2_with fail
  go_ret
  exact ⟨rfl, B9.out⟩
theorem writes_great (s : ByteArray) (n a i : Int) (v : Value) (l : List (Int × Int)) (w : World) (h : Ids w v l) (hs : 2000 < s.size ∨ 200 < l.length) :
    Calls Try.prog 3 #[.string s, .int .i64 n, .agg #[.int .i64 a, .int .i64 i], v] w fun e w' => e = .returned (.bool true) ∧ Below w.heap.size w w' := by
  obtain ⟨A, c, rfl, hz⟩ := id h
  clear hz h
  by_cases h1 : 2000 < s.size
  · have hd : decide ((2000 : Int) < (s.size : Int)) = true := by simp; omega
    clear h1 hs
    go_enter Try.func3, Try.ntmps3
    go_wp2_with fail
    refine (awake_any _).mono ?_
    rintro e w9 ⟨rfl, h⟩
    have B9 := Lib.hid (below_boxed (Below.refl w.heap.size w) h (Nat.le_refl _))
    clear h
    go_wp2_with fail
    go_ret
    exact ⟨rfl, B9.out⟩
  · have hd : decide ((2000 : Int) < (s.size : Int)) = false := by simp; omega
    have hd2 : decide ((200 : Int) < (l.length : Int)) = true := by simp; omega
    clear h1 hs
    go_enter Try.func3, Try.ntmps3
    go_wp2_with fail
    refine (awake_any _).mono ?_
    rintro e w9 ⟨rfl, h⟩
    have B9 := Lib.hid (below_boxed (Below.refl w.heap.size w) h (Nat.le_refl _))
    clear h
    go_wp2_with fail
    go_ret
    exact ⟨rfl, B9.out⟩
theorem writes_any (s : ByteArray) (n a i : Int) (v : Value) (l : List (Int × Int)) (w : World) (_ : s.size ≤ 140737488351232) (_ : -9223372036854775808 ≤ n ∧ n ≤ 9223372036854775807) (h : Ids w v l) :
    Calls Try.prog 3 #[.string s, .int .i64 n, .agg #[.int .i64 a, .int .i64 i], v] w fun e w' => e = .returned (.bool true) ∧ Below w.heap.size w w' := by
  by_cases hs : s.size ≤ 2000 ∧ l.length ≤ 200
  · exact writes_small s n a i v l w h hs.1 hs.2
  · exact writes_great s n a i v l w h (by omega)
section
open Go.ChangeShapes Go.WideShapes Go.ChangeAt
open Go.ChangeMaps (open_string)
set_option maxRecDepth 100000 in
theorem writes_lifted (os : Os) (started : os.Started) (H : Type) (enc : TypeId × Value → H) :
    ReturnsInHanded {} Try.checked os 3 .any (Rows.codeWritesSpec.pre6 enc Try.prog Try.f3 Rows.codeWritesRow.domain false) (Rows.codeWritesSpec.post enc Try.prog Try.f3 false true false false) := by
  refine returnsInHanded_of_change_sized (C := Try.checked) Try.own started (by kernel_rfl) Try.func3
    (ChangeSpec.witness6 (enc := enc) (C := Try.checked) false ⟨#[], #[.string ⟨#[]⟩, .int .i64 0, .agg #[.int .i64 0, .int .i64 0], .slice none 0 0], []⟩ 8 (by kernel_rfl) (by kernel_rfl) (by kernel_rfl) (by kernel_rfl)) ?_
  intro W base args ds gs before hval0 hW _ hsz0 _
  have hval : ∀ (j : Nat) t v, Try.f3.params[j]? = some t → args[j]? = some v → Value.okWide Try.prog W .any base t v := hval0
  have hsz : (DataW.weightsEach Try.prog (Try.f3.params.toList ++ Rows.codeWritesSpec.plain.varTypes Try.prog) (ds ++ gs)).all (· ≤ reachBytes) = true := hsz0
  have hW' := hW
  obtain ⟨p, q, hA0, hV, rfl, _, _⟩ := hW
  have hA : DataW.TrodAll enc Try.prog W 0 (fun _ => true) true Try.f3.params.toList args.toList ds p := hA0
  rw [Try.params3] at hA hval hsz
  obtain ⟨v0, v1, v2, v3, d0, d1, d2, d3, p0, p1, p2, p3, rfl, rfl, rfl, h0, h1, h2, h3⟩ := trodAll_four hA
  obtain ⟨rfl, rfl⟩ := trodVars_none hV
  obtain ⟨x0, rfl, rfl, rfl, _⟩ := open_string Try.underlying9 (hval 0 9 v0 rfl rfl) h0
  obtain ⟨x1, rfl, rfl, rfl, w1⟩ := open_int Try.underlying3 (hval 1 3 v1 rfl rfl) h1
  obtain ⟨a2, b2, rfl⟩ := open_id (hval 2 23 v2 rfl rfl) h2
  obtain ⟨l3, I3⟩ := open_ids (hval 3 24 v3 rfl rfl) h3
  have r0 : x0.size ≤ 140737488351232 := by have := sized_string hsz (j := 0) (t := 9) rfl rfl; rw [reach_is] at this; simpa using this
  have r1 := in_i64 w1
  refine (writes_any x0 x1 a2 b2 v3 l3 W r0 r1 I3).mono fun e W' ⟨he, hb⟩ => ?_
  subst he
  exact ⟨_, rfl, law_post hW' rfl (by kernel_rfl) Try.underlying4 rfl (by unfold Legible; kernel_rfl) hb⟩
/-- The statement. -/
theorem writes_holds : Rows.CodeWritesSaid :=
  OpenClaim.holds_of_wide 3 Try.f3 rfl rfl rfl rfl rfl rfl rfl ⟨rfl, rfl, rfl, rfl, rfl⟩ rfl rfl rfl rfl rfl (by kernel_rfl) Try.func3 (by kernel_rfl)
    (of_decide_eq_true (by kernel_rfl)) (by unfold Func.isWrapper; first | (rw [if_pos (by decide +kernel)]; kernel_rfl) | (rw [if_neg (by decide +kernel)]; exact ⟨rfl, rfl⟩))
    (fun os started H enc _ => writes_lifted os started H enc)
end
end Go.Proofs.Ytmmpnnpkfghhcaa
