/-
  Walks over the document's own answers that the laws of the ring lean on, and the laws' helpers. No statement is proved in this text; it holds for every input that its premises let by.
-/
import Derived.Test.YtbjknjbjldodlaaRingD
import Derived.Test.YtbjknjbjldodlaaIdeRefB
import Derived.Test.YtbjknjbjldodlaaIdeLarge
namespace Go.Proofs.Ytbjknjbjldodlaa
open Go.RowKit Sets
theorem at_any (a : Int) (w : World) : Calls Try.prog 8 #[.int .i64 a] w fun e w' => e = .returned (.agg #[.int .i64 a, .int .i64 1]) ∧ Below w.heap.size w w' := by
  have HX := Lib.hid (box_new w a 1)
  have HB := Lib.hid (below_one w (.cells #[.int .i64 a, .int .i64 1] 23))
  obtain ⟨q0, q1⟩ := box_cells (box_new w a 1)
  go_enter Try.func8, Try.ntmps8
  go_wp2_with fail
  refine bodyPost_ret (v := .agg #[.int .i64 a, .int .i64 1]) (by simp [results, Try.results8, go_sem, q0, q1]) rfl ?_
  exact ⟨rfl, HB.out⟩
set_option maxHeartbeats 1000000 in
theorem docPut_any (v : Value) (l : List (Int × Int)) (a i : Int) (w : World) (h : Ids w v l) (hl : l.length ≤ 40000) :
    Calls Try.prog 14 #[v, .agg #[.int .i64 a, .int .i64 i]] w (Lists (put l (a, i)) w) := by
  have HX := Lib.hid (box_new w a i)
  have HB := Lib.hid (below_one w (.cells #[.int .i64 a, .int .i64 i] 23))
  have HI := Lib.hid (h.below HB.out)
  have hsl := Lib.hid (setOf_len l)
  obtain ⟨x1, x2⟩ := box_cells HX.out
  obtain ⟨A, c, rfl, hz⟩ := id h
  clear h hz
  go_enter Try.func14, Try.ntmps14
  go_wp2_with fail
  have HS := Lib.hid fun w' (hb : Below (w.alloc (.cells #[.int .i64 a, .int .i64 i] 23)).heap.size (w.alloc (.cells #[.int .i64 a, .int .i64 i] 23)) w') => (show (w'.cell? ⟨w.heap.size, 0, none⟩ = some (.int .i64 a) ∧ w'.cell? ⟨w.heap.size, 1, none⟩ = some (.int .i64 i)) ∧ Hid (Below (w.alloc (.cells #[.int .i64 a, .int .i64 i] 23)).heap.size (w.alloc (.cells #[.int .i64 a, .int .i64 i] 23)) w') from ⟨box_cells (box_below HX.out hb), Lib.hid hb⟩)
  go_region_held3 (fun w' => (w'.cell? ⟨w.heap.size, 0, none⟩ = some (.int .i64 a) ∧ w'.cell? ⟨w.heap.size, 1, none⟩ = some (.int .i64 i)) ∧ Hid (Below (w.alloc (.cells #[.int .i64 a, .int .i64 i] 23)).heap.size (w.alloc (.cells #[.int .i64 a, .int .i64 i] 23)) w'))
    (first | exact HS.out _ (Below.refl _ _).drew | exact HS.out _ HK.out)
    (first
      | (go_at_call 27; (with_reducible refine (refSet_any _ l _ (HI.out.below (Below.refl _ _).drew) hl).mono ?_); rintro e w1 ⟨v1, rfl, ho, hb⟩; have HK := Lib.hid (show Below (w.alloc (.cells #[.int .i64 a, .int .i64 i] 23)).heap.size (w.alloc (.cells #[.int .i64 a, .int .i64 i] 23)) w1 from (Below.refl _ _).drew.trans hb); have O1 := Lib.hid ho; clear hb ho)
      | (go_at_call 26; (with_reducible refine (refPut_any _ (setOf l) a i _ O1.out (Nat.le_trans hsl.out hl)).mono ?_); rintro e w2 ⟨v2, rfl, ho, hb⟩; have O2 := Lib.hid ho; have HK := Lib.hid (HK.out.trans (hb.mono HK.out.size)); clear hb ho))
  go_wp2_with fail
  go_ret
  exact ⟨_, rfl, by rw [put_ins]; exact O2.out, below_after HB.out HK.out (Nat.le_refl _)⟩
/-- What is left of a list's beginning without an ID, as a set. -/
def delK (l : List Id2) (x : Id2) : List Id2 := setOf (l.filter fun y => decide (y ≠ x))
theorem delK_is (l : List Id2) (x : Id2) : delK l x = del l x := rfl
theorem delK_len (l : List Id2) (x : Id2) (k : Nat) : (delK (l.take k) x).length ≤ l.length := by
  have h1 := setOf_len ((l.take k).filter fun y => decide (y ≠ x))
  have h2 := List.length_filter_le (fun y => decide (y ≠ x)) (l.take k)
  have h3 : (l.take k).length ≤ l.length := by simp; omega
  unfold delK
  omega
theorem delK_same {l : List Id2} {x : Id2} {k : Nat} (hk : k < l.length) (h : (l[k].1, l[k].2) = x) : delK (l.take (k + 1)) x = delK (l.take k) x := by
  unfold delK
  rw [List.take_succ_eq_append_getElem hk, List.filter_append]
  congr 1
  simp [show l[k] = x from h]
theorem delK_other {l : List Id2} {x : Id2} {k : Nat} (hk : k < l.length) (h : (l[k].1, l[k].2) ≠ x) : delK (l.take (k + 1)) x = ins (l[k].1, l[k].2) (delK (l.take k) x) := by
  have hh : l[k] ≠ x := h
  unfold delK setOf
  rw [List.take_succ_eq_append_getElem hk, List.filter_append, List.foldl_append]
  simp [hh]
set_option maxHeartbeats 1000000 in
theorem docDel_any (v : Value) (l : List (Int × Int)) (a i : Int) (w : World) (h : Ids w v l) (hl : l.length ≤ 40000) :
    Calls Try.prog 16 #[v, .agg #[.int .i64 a, .int .i64 i]] w (Lists (del l (a, i)) w) := by
  obtain ⟨A, c, rfl, hz⟩ := id h
  clear hz
  have HI := Lib.hid h
  have HX := Lib.hid (box_new w a i)
  have HB := Lib.hid (below_one w (.cells #[.int .i64 a, .int .i64 i] 23))
  clear h
  go_enter Try.func16, Try.ntmps16
  go_wp2_with fail
  go_loopw [5, 6] (fun s5 s6 wr => ∃ k : Nat, k ≤ l.length ∧ s6 = .int .i64 k ∧ Ids wr s5 (delK (l.take k) (a, i)) ∧ Box wr w.heap.size a i ∧ Below w.heap.size w wr) (fun _ s6 _ => l.length - (intOf s6).toNat)
  case atStart => exact ⟨0, by omega, rfl, Ids.nil _, HX.out, HB.out⟩
  case round =>
    obtain ⟨k, hkl, rfl, ht, hx, hw⟩ := hrel
    have HW := Lib.hid hw
    have HT := Lib.hid ht
    have HY := Lib.hid hx
    have hz := Lib.hid (delK_len l (a, i) k)
    clear hw ht hx
    have i3 : (0 : Int) ≤ (k : Int) := by omega
    by_cases hlt : k < l.length
    · have hd : decide ((k : Int) < (l.length : Int)) = true := by simp; omega
      have i4 : (k : Int) < (l.length : Int) := by omega
      obtain ⟨ad, rfl, c1, c2⟩ := HI.out.at_ HW.out hlt
      obtain ⟨c3, c4⟩ := box_cells HY.out
      have HE := Lib.hid fun h => delK_same (x := (a, i)) hlt h
      have HN := Lib.hid fun h => delK_other (x := (a, i)) hlt h
      generalize l[k].1 = b at *
      generalize l[k].2 = j at *
      have HC := Lib.hid fun W (hb : Below wr.heap.size wr W) => refPut_any u5 (delK (l.take k) (a, i)) b j W (HT.out.below hb) (Nat.le_trans hz.out hl)
      by_cases hab : b = a
      · subst hab
        by_cases hij : j = i
        · subst hij
          have HF := Lib.hid (show Ids wr u5 (delK (l.take (k + 1)) (b, j)) by rw [HE.out rfl]; exact HT.out)
          clear HE HN HC HT
          go_wp2_with fail
          go_quiet (fail)
          go_wp2_with fail
          go_roundw
          case rel => exact ⟨k + 1, by omega, by go_num, HF.out.drewN 1, box_drewN HY.out, below_drewN HW.out⟩
          case measure => simp [intOf]; omega
        · have h2 : (j == i) = false := by simpa using hij
          have HF := Lib.hid (HN.out fun h => hij (by injection h))
          clear HE HN HT
          go_wp2_with fail
          go_quiet (fail)
          go_wp2_with fail
          refine (HC.out _ (below_drewN (Below.refl _ _))).mono ?_
          rw [← HF.out]
          rintro e w1 ⟨r, rfl, hi, hb⟩
          have H1 := Lib.hid hi
          have Y1 := Lib.hid (box_below (box_drewN HY.out) hb)
          have B1 := Lib.hid (below_after (below_drewN HW.out) hb (Nat.le_refl _))
          clear hi hb c1 c2 c3 c4
          go_wp2_with fail
          go_roundw
          case rel => exact ⟨k + 1, by omega, by go_num, H1.out, Y1.out, B1.out⟩
          case measure => simp [intOf]; omega
      · have h2 : (b == a) = false := by simpa using hab
        have HF := Lib.hid (HN.out fun h => hab (by injection h))
        clear HE HN HT
        go_wp2_with fail
        go_quiet (fail)
        go_wp2_with fail
        refine (HC.out _ (below_drewN (Below.refl _ _))).mono ?_
        rw [← HF.out]
        rintro e w1 ⟨r, rfl, hi, hb⟩
        have H1 := Lib.hid hi
        have Y1 := Lib.hid (box_below (box_drewN HY.out) hb)
        have B1 := Lib.hid (below_after (below_drewN HW.out) hb (Nat.le_refl _))
        clear hi hb c1 c2 c3 c4
        go_wp2_with fail
        go_roundw
        case rel => exact ⟨k + 1, by omega, by go_num, H1.out, Y1.out, B1.out⟩
        case measure => simp [intOf]; omega
    · have hd : decide ((k : Int) < (l.length : Int)) = false := by simp; omega
      have HE := Lib.hid (show Ids wr u5 (del l (a, i)) by have := HT.out; rwa [List.take_of_length_le (by omega)] at this)
      go_wp2_with fail
      go_ret
      exact ⟨_, rfl, HE.out, HW.out⟩
theorem joinK (l m : List Id2) {k : Nat} (hk : k < m.length) : join l (m.take (k + 1)) = ins (m[k].1, m[k].2) (join l (m.take k)) := by
  unfold join setOf
  rw [List.take_succ_eq_append_getElem hk, ← List.append_assoc, List.foldl_append]
  rfl
set_option maxHeartbeats 1000000 in
theorem docJoin_any (v u : Value) (l m : List (Int × Int)) (w : World) (h : Ids w v l) (h2 : Ids w u m) (hl : l.length ≤ 10000) (hm : m.length ≤ 10000) :
    Calls Try.prog 18 #[v, u] w (Lists (join l m) w) := by
  have HI := Lib.hid h
  have HJ := Lib.hid h2
  obtain ⟨A, c, rfl, hz⟩ := id h2
  clear h h2 hz
  go_enter Try.func18, Try.ntmps18
  go_wp2_with fail
  refine (refSet_any v l _ HI.out (by omega)).mono ?_
  rintro e w1 ⟨r, rfl, hi, hb⟩
  have H1 := Lib.hid hi
  have B1 := Lib.hid hb
  clear hi hb
  go_wp2_with fail
  go_loopw [5, 6] (fun s5 s6 wr => ∃ k : Nat, k ≤ m.length ∧ s6 = .int .i64 k ∧ Ids wr s5 (join l (m.take k)) ∧ Below w.heap.size w wr) (fun _ s6 _ => m.length - (intOf s6).toNat)
  case atStart => exact ⟨0, by omega, rfl, by simpa [join] using H1.out, B1.out⟩
  case round =>
    obtain ⟨k, hkl, rfl, ht, hw⟩ := hrel
    have HW := Lib.hid hw
    have HT := Lib.hid ht
    have hz := Lib.hid (Nat.le_trans (len_join l (m.take k)) (Nat.add_le_add_left (show (m.take k).length ≤ m.length by simp; omega) _))
    clear hw ht
    have i3 : (0 : Int) ≤ (k : Int) := by omega
    by_cases hlt : k < m.length
    · have hd : decide ((k : Int) < (m.length : Int)) = true := by simp; omega
      have i4 : (k : Int) < (m.length : Int) := by omega
      obtain ⟨ad, rfl, c1, c2⟩ := HJ.out.at_ HW.out hlt
      have HS := Lib.hid (joinK l m hlt)
      generalize m[k].1 = a at *
      generalize m[k].2 = i at *
      go_wp2_with fail
      refine (refPut_any u5 _ a i _ HT.out (by have := hz.out; omega)).mono ?_
      rw [← HS.out]
      rintro e w1 ⟨r, rfl, hi, hb⟩
      have H1 := Lib.hid hi
      have B1 := Lib.hid (below_after HW.out hb (Nat.le_refl _))
      clear hi hb c1 c2
      go_wp2_with fail
      go_roundw
      case rel => exact ⟨k + 1, by omega, by go_num, H1.out, B1.out⟩
      case measure => simp [intOf]; omega
    · have hd : decide ((k : Int) < (m.length : Int)) = false := by simp; omega
      have HE := Lib.hid (show Ids wr u5 (join l m) by have := HT.out; rwa [List.take_of_length_le (by omega)] at this)
      go_wp2_with fail
      go_ret
      exact ⟨_, rfl, HE.out, HW.out⟩
/-- Does a list rise, and is it no longer than a law goes over? -/
def good (l : List Id2) : Bool := decide (l.length ≤ 100) && risesB l
set_option maxHeartbeats 1000000 in
theorem rises_any (g : Nat) (vs : List Value) (ls : List (List Id2)) (w : World) (h : Lots w g vs) (he : vs.length = ls.length) (hi : ∀ (k : Nat) (h1 : k < vs.length) (h2 : k < ls.length), Ids w vs[k] ls[k]) (hn : vs.length ≤ 10) :
    Calls Try.prog 13 #[.slice (some ⟨g, 0, none⟩) vs.length vs.length] w fun e w' => e = .returned (.bool (ls.all good)) ∧ Below w.heap.size w w' := by
  have HL := Lib.hid h
  have HI := Lib.hid hi
  have HE := Lib.hid he
  clear h hi he
  go_enter Try.func13, Try.ntmps13
  go_wp2_with fail
  go_loopw [3] (fun s3 wr => ∃ k : Nat, k ≤ vs.length ∧ s3 = .int .i64 k ∧ (ls.take k).all good = true ∧ Below w.heap.size w wr) (fun s3 _ => vs.length - (intOf s3).toNat)
  case atStart => exact ⟨0, by omega, rfl, rfl, Below.refl _ _⟩
  case round =>
    obtain ⟨k, hkl, rfl, ht, hw⟩ := hrel
    have HT := Lib.hid ht
    have HW := Lib.hid hw
    clear ht hw
    have i3 : (0 : Int) ≤ (k : Int) := by omega
    by_cases hlt : k < vs.length
    · have hd : decide ((k : Int) < (vs.length : Int)) = true := by simp; omega
      have i4 : (k : Int) < (vs.length : Int) := by omega
      have hlt2 : k < ls.length := by rw [← HE.out]; exact hlt
      have hI := HI.out k hlt hlt2
      have c1 := lots_cell (show Lots wr g vs from (HW.out.block g (row_lt HL.out)).trans HL.out) hlt
      have HY := Lib.hid (show good ls[k] = true → (ls.take (k + 1)).all good = true by
        intro hg
        rw [List.take_succ_eq_append_getElem hlt2, List.all_append, HT.out]
        simp [hg])
      have HN := Lib.hid (show good ls[k] = false → ls.all good = false by
        intro hg
        rw [List.all_eq_false]
        exact ⟨ls[k], List.getElem_mem hlt2, by simp [hg]⟩)
      generalize ls[k] = l at *
      generalize vs[k] = v at *
      have HJ := Lib.hid (hI.below HW.out)
      obtain ⟨A, c, rfl, hz⟩ := hI
      clear hz
      by_cases hb : 100 < l.length
      · have HF := Lib.hid (HN.out (by unfold good; rw [decide_eq_false (by omega)]; rfl))
        have hd2 : decide ((100 : Int) < (l.length : Int)) = true := by simp; omega
        go_wp2_with fail
        go_ret
        exact ⟨ret_bool HF.out.symm, HW.out⟩
      · have hd2 : decide ((100 : Int) < (l.length : Int)) = false := by simp; omega
        have HG := Lib.hid (show good l = risesB l by unfold good; rw [decide_eq_true (by omega)]; rfl)
        go_wp2_with fail
        refine (refRising_any _ l _ HJ.out (by omega)).mono ?_
        rintro e w1 ⟨rfl, hb1⟩
        have B1 := Lib.hid (below_after HW.out hb1 (Nat.le_refl _))
        clear hb1 c1
        cases hr : risesB l with
        | true =>
          have HF := Lib.hid (HY.out (by rw [HG.out, hr]))
          go_wp2_with fail
          go_roundw
          case rel => exact ⟨k + 1, by omega, by go_num, HF.out, B1.out⟩
          case measure => simp [intOf]; omega
        | false =>
          have HF := Lib.hid (HN.out (by rw [HG.out, hr]))
          go_wp2_with fail
          go_ret
          exact ⟨ret_bool HF.out.symm, B1.out⟩
    · have hd : decide ((k : Int) < (vs.length : Int)) = false := by simp; omega
      have HF := Lib.hid (show ls.all good = true by have := HT.out; rwa [List.take_of_length_le (by have := HE.out; omega)] at this)
      go_wp2_with fail
      go_ret
      exact ⟨ret_bool HF.out.symm, HW.out⟩
end Go.Proofs.Ytbjknjbjldodlaa
