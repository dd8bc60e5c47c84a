/-
  Carried over: contracts of this program's functions. No statement is proved in this text.
-/
import Derived.Test.YtkoeplgkiogjlaaRingB
import Derived.Test.YtkoeplgkiogjlaaIdeRefB
set_option maxRecDepth 20000
namespace Go.Proofs.Ytkoeplgkiogjlaa
open Go.RowKit Sets
theorem at_any (a : Int) (w : World) : Calls Try.prog 25 #[.int .i64 a] w fun e w' => e = .returned (.agg #[.int .i64 a, .int .i64 1]) ∧ Below w.heap.size w w' := by
  have HX := Lib.hid (box_new w a 1)
  have HB := Lib.hid (below_one w (.cells #[.int .i64 a, .int .i64 1] 35))
  obtain ⟨q0, q1⟩ := box_cells (box_new w a 1)
  go_enter Try.func25, Try.ntmps25
  go_wp2_with fail
  refine bodyPost_ret (v := .agg #[.int .i64 a, .int .i64 1]) (by simp [results, Try.results25, go_sem, q0, q1]) rfl ?_
  exact ⟨rfl, HB.out⟩
set_option maxHeartbeats 1000000 in
theorem docPut_any (v : Value) (l : List (Int × Int)) (a i : Int) (w : World) (h : Ids w v l) (hl : l.length ≤ 40000) :
    Calls Try.prog 43 #[v, .agg #[.int .i64 a, .int .i64 i]] w (Lists (put l (a, i)) w) := by
  have HX := Lib.hid (box_new w a i)
  have HB := Lib.hid (below_one w (.cells #[.int .i64 a, .int .i64 i] 35))
  have HI := Lib.hid (h.below HB.out)
  have hsl := Lib.hid (setOf_len l)
  obtain ⟨x1, x2⟩ := box_cells HX.out
  obtain ⟨A, c, rfl, hz⟩ := id h
  clear h hz
  go_enter Try.func43, Try.ntmps43
  go_wp2_with fail
  have HS := Lib.hid fun w' (hb : Below (w.alloc (.cells #[.int .i64 a, .int .i64 i] 35)).heap.size (w.alloc (.cells #[.int .i64 a, .int .i64 i] 35)) w') => (show (w'.cell? ⟨w.heap.size, 0, none⟩ = some (.int .i64 a) ∧ w'.cell? ⟨w.heap.size, 1, none⟩ = some (.int .i64 i)) ∧ Hid (Below (w.alloc (.cells #[.int .i64 a, .int .i64 i] 35)).heap.size (w.alloc (.cells #[.int .i64 a, .int .i64 i] 35)) w') from ⟨box_cells (box_below HX.out hb), Lib.hid hb⟩)
  go_region_held3 (fun w' => (w'.cell? ⟨w.heap.size, 0, none⟩ = some (.int .i64 a) ∧ w'.cell? ⟨w.heap.size, 1, none⟩ = some (.int .i64 i)) ∧ Hid (Below (w.alloc (.cells #[.int .i64 a, .int .i64 i] 35)).heap.size (w.alloc (.cells #[.int .i64 a, .int .i64 i] 35)) w'))
    (first | exact HS.out _ (Below.refl _ _).drew | exact HS.out _ HK.out)
    (first
      | (go_at_call 38; (with_reducible refine (refSet_any _ l _ (HI.out.below (Below.refl _ _).drew) hl).mono ?_); rintro e w1 ⟨v1, rfl, ho, hb⟩; have HK := Lib.hid (show Below (w.alloc (.cells #[.int .i64 a, .int .i64 i] 35)).heap.size (w.alloc (.cells #[.int .i64 a, .int .i64 i] 35)) w1 from (Below.refl _ _).drew.trans hb); have O1 := Lib.hid ho; clear hb ho)
      | (go_at_call 44; (with_reducible refine (refPut_any _ (setOf l) a i _ O1.out (Nat.le_trans hsl.out hl)).mono ?_); rintro e w2 ⟨v2, rfl, ho, hb⟩; have O2 := Lib.hid ho; have HK := Lib.hid (HK.out.trans (hb.mono HK.out.size)); clear hb ho))
  go_wp2_with fail
  go_ret
  exact ⟨_, rfl, by rw [put_ins]; exact O2.out, below_after HB.out HK.out (Nat.le_refl _)⟩
/-- What is left of a list's beginning without an ID, as a set. -/
def delK (l : List Id2) (x : Id2) : List Id2 := setOf (l.filter fun y => decide (y ≠ x))
theorem delK_is (l : List Id2) (x : Id2) : delK l x = del l x := rfl
theorem delK_len (l : List Id2) (x : Id2) (k : Nat) : (delK (l.take k) x).length ≤ l.length := by
  have h1 := setOf_len ((l.take k).filter fun y => decide (y ≠ x))
  have h2 := List.length_filter_le (fun y => decide (y ≠ x)) (l.take k)
  have h3 : (l.take k).length ≤ l.length := by simp; omega
  unfold delK
  omega
theorem delK_same {l : List Id2} {x : Id2} {k : Nat} (hk : k < l.length) (h : (l[k].1, l[k].2) = x) : delK (l.take (k + 1)) x = delK (l.take k) x := by
  unfold delK
  rw [List.take_succ_eq_append_getElem hk, List.filter_append]
  congr 1
  simp [show l[k] = x from h]
theorem delK_other {l : List Id2} {x : Id2} {k : Nat} (hk : k < l.length) (h : (l[k].1, l[k].2) ≠ x) : delK (l.take (k + 1)) x = ins (l[k].1, l[k].2) (delK (l.take k) x) := by
  have hh : l[k] ≠ x := h
  unfold delK setOf
  rw [List.take_succ_eq_append_getElem hk, List.filter_append, List.foldl_append]
  simp [hh]
set_option maxHeartbeats 1000000 in
theorem docDel_any (v : Value) (l : List (Int × Int)) (a i : Int) (w : World) (h : Ids w v l) (hl : l.length ≤ 40000) :
    Calls Try.prog 23 #[v, .agg #[.int .i64 a, .int .i64 i]] w (Lists (del l (a, i)) w) := by
  obtain ⟨A, c, rfl, hz⟩ := id h
  clear hz
  have HI := Lib.hid h
  have HX := Lib.hid (box_new w a i)
  have HB := Lib.hid (below_one w (.cells #[.int .i64 a, .int .i64 i] 35))
  clear h
  go_enter Try.func23, Try.ntmps23
  go_wp2_with fail
  go_loopw [5, 6] (fun s5 s6 wr => ∃ k : Nat, k ≤ l.length ∧ s6 = .int .i64 k ∧ Ids wr s5 (delK (l.take k) (a, i)) ∧ Box wr w.heap.size a i ∧ Below w.heap.size w wr) (fun _ s6 _ => l.length - (intOf s6).toNat)
  case atStart => exact ⟨0, by omega, rfl, Ids.nil _, HX.out, HB.out⟩
  case round =>
    obtain ⟨k, hkl, rfl, ht, hx, hw⟩ := hrel
    have HW := Lib.hid hw
    have HT := Lib.hid ht
    have HY := Lib.hid hx
    have hz := Lib.hid (delK_len l (a, i) k)
    clear hw ht hx
    have i3 : (0 : Int) ≤ (k : Int) := by omega
    by_cases hlt : k < l.length
    · have hd : decide ((k : Int) < (l.length : Int)) = true := by simp; omega
      have i4 : (k : Int) < (l.length : Int) := by omega
      obtain ⟨ad, rfl, c1, c2⟩ := HI.out.at_ HW.out hlt
      obtain ⟨c3, c4⟩ := box_cells HY.out
      have HE := Lib.hid fun h => delK_same (x := (a, i)) hlt h
      have HN := Lib.hid fun h => delK_other (x := (a, i)) hlt h
      generalize l[k].1 = b at *
      generalize l[k].2 = j at *
      have HC := Lib.hid fun W (hb : Below wr.heap.size wr W) => refPut_any u5 (delK (l.take k) (a, i)) b j W (HT.out.below hb) (Nat.le_trans hz.out hl)
      by_cases hab : b = a
      · subst hab
        by_cases hij : j = i
        · subst hij
          have HF := Lib.hid (show Ids wr u5 (delK (l.take (k + 1)) (b, j)) by rw [HE.out rfl]; exact HT.out)
          clear HE HN HC HT
          go_wp2_with fail
          go_quiet (fail)
          go_wp2_with fail
          go_roundw
          case rel => exact ⟨k + 1, by omega, by go_num, HF.out.drewN 1, box_drewN HY.out, below_drewN HW.out⟩
          case measure => simp [intOf]; omega
        · have h2 : (j == i) = false := by simpa using hij
          have HF := Lib.hid (HN.out fun h => hij (by injection h))
          clear HE HN HT
          go_wp2_with fail
          go_quiet (fail)
          go_wp2_with fail
          refine (HC.out _ (below_drewN (Below.refl _ _))).mono ?_
          rw [← HF.out]
          rintro e w1 ⟨r, rfl, hi, hb⟩
          have H1 := Lib.hid hi
          have Y1 := Lib.hid (box_below (box_drewN HY.out) hb)
          have B1 := Lib.hid (below_after (below_drewN HW.out) hb (Nat.le_refl _))
          clear hi hb c1 c2 c3 c4
          go_wp2_with fail
          go_roundw
          case rel => exact ⟨k + 1, by omega, by go_num, H1.out, Y1.out, B1.out⟩
          case measure => simp [intOf]; omega
      · have h2 : (b == a) = false := by simpa using hab
        have HF := Lib.hid (HN.out fun h => hab (by injection h))
        clear HE HN HT
        go_wp2_with fail
        go_quiet (fail)
        go_wp2_with fail
        refine (HC.out _ (below_drewN (Below.refl _ _))).mono ?_
        rw [← HF.out]
        rintro e w1 ⟨r, rfl, hi, hb⟩
        have H1 := Lib.hid hi
        have Y1 := Lib.hid (box_below (box_drewN HY.out) hb)
        have B1 := Lib.hid (below_after (below_drewN HW.out) hb (Nat.le_refl _))
        clear hi hb c1 c2 c3 c4
        go_wp2_with fail
        go_roundw
        case rel => exact ⟨k + 1, by omega, by go_num, H1.out, Y1.out, B1.out⟩
        case measure => simp [intOf]; omega
    · have hd : decide ((k : Int) < (l.length : Int)) = false := by simp; omega
      have HE := Lib.hid (show Ids wr u5 (del l (a, i)) by have := HT.out; rwa [List.take_of_length_le (by omega)] at this)
      go_wp2_with fail
      go_ret
      exact ⟨_, rfl, HE.out, HW.out⟩
theorem joinK (l m : List Id2) {k : Nat} (hk : k < m.length) : join l (m.take (k + 1)) = ins (m[k].1, m[k].2) (join l (m.take k)) := by
  unfold join setOf
  rw [List.take_succ_eq_append_getElem hk, ← List.append_assoc, List.foldl_append]
  rfl
end Go.Proofs.Ytkoeplgkiogjlaa
