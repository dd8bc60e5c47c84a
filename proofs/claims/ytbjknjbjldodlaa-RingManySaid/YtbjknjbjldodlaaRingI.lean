/-
  A walk over the law of how many are watched. It holds for every input that its premises let by.
-/
import Derived.Test.YtbjknjbjldodlaaRingG
namespace Go.Proofs.Ytbjknjbjldodlaa
open Go.RowKit Sets
/-- Of a list's IDs but me: how many are in another list, and how many are not. -/
def inC (me : Id2) (nt l : List Id2) : Nat := (l.filter fun y => decide (y ≠ me) && decide (y ∈ nt)).length
def outC (me : Id2) (nt l : List Id2) : Nat := (l.filter fun y => decide (y ≠ me) && !decide (y ∈ nt)).length
theorem inC_len (me : Id2) (nt l : List Id2) (k : Nat) : inC me nt (l.take k) ≤ l.length := by
  have h1 := List.length_filter_le (fun y => decide (y ≠ me) && decide (y ∈ nt)) (l.take k)
  have h2 : (l.take k).length ≤ l.length := by simp; omega
  unfold inC
  omega
theorem outC_len (me : Id2) (nt l : List Id2) (k : Nat) : outC me nt (l.take k) ≤ l.length := by
  have h1 := List.length_filter_le (fun y => decide (y ≠ me) && !decide (y ∈ nt)) (l.take k)
  have h2 : (l.take k).length ≤ l.length := by simp; omega
  unfold outC
  omega
theorem count_me {me : Id2} {nt l : List Id2} {k : Nat} (hk : k < l.length) (h : (l[k].1, l[k].2) = me) : inC me nt (l.take (k + 1)) = inC me nt (l.take k) ∧ outC me nt (l.take (k + 1)) = outC me nt (l.take k) := by
  have h2 : l[k] = me := h
  unfold inC outC
  rw [List.take_succ_eq_append_getElem hk, List.filter_append, List.filter_append]
  simp [h2]
theorem count_in {me : Id2} {nt l : List Id2} {k : Nat} (hk : k < l.length) (h : (l[k].1, l[k].2) ≠ me) (hi : hasB (l[k].1, l[k].2) nt = true) : inC me nt (l.take (k + 1)) = inC me nt (l.take k) + 1 ∧ outC me nt (l.take (k + 1)) = outC me nt (l.take k) := by
  have h2 : l[k] ≠ me := h
  have h3 : l[k] ∈ nt := of_decide_eq_true hi
  unfold inC outC
  rw [List.take_succ_eq_append_getElem hk, List.filter_append, List.filter_append]
  simp [h2, h3]
theorem count_out {me : Id2} {nt l : List Id2} {k : Nat} (hk : k < l.length) (h : (l[k].1, l[k].2) ≠ me) (hi : hasB (l[k].1, l[k].2) nt = false) : inC me nt (l.take (k + 1)) = inC me nt (l.take k) ∧ outC me nt (l.take (k + 1)) = outC me nt (l.take k) + 1 := by
  have h2 : l[k] ≠ me := h
  have h3 : l[k] ∉ nt := of_decide_eq_false hi
  unfold inC outC
  rw [List.take_succ_eq_append_getElem hk, List.filter_append, List.filter_append]
  simp [h2, h3]
theorem max_two (a b : Int) (w : World) : (Builtin.max_ #[3, 3] 3 #[.int .i64 a, .int .i64 b]).run Try.prog w = .ok (.int .i64 (max a b)) w := by
  have h2 : ∀ x y : Int, Builtin.max2 (.int .i64 x) (.int .i64 y) = pure (.int .i64 (max x y)) := by
    intro x y
    by_cases h : x < y
    · have e : max x y = y := by omega
      simp [Builtin.max2, h, e]
    · have e : max x y = x := by omega
      simp [Builtin.max2, h, e]
  simp [Builtin.max_, h2, List.foldlM, Sem.run_pure]
theorem min_two (a b : Int) (w : World) : (Builtin.min_ #[3, 3] 3 #[.int .i64 a, .int .i64 b]).run Try.prog w = .ok (.int .i64 (min a b)) w := by
  have h2 : ∀ x y : Int, Builtin.min2 (.int .i64 x) (.int .i64 y) = pure (.int .i64 (min x y)) := by
    intro x y
    by_cases h : y < x
    · have e : min x y = y := by omega
      simp [Builtin.min2, h, e]
    · have e : min x y = x := by omega
      simp [Builtin.min2, h, e]
  simp [Builtin.min_, h2, List.foldlM, Sem.run_pure]
set_option maxHeartbeats 8000000 in
theorem many_any (v : Value) (l : List Id2) (a i : Int) (u : Value) (nt : List Id2) (n m : Int) (w : World) (h : Ids w v l) (h2 : Ids w u nt) (hr : -9223372036854775808 ≤ n ∧ n ≤ 9223372036854775807) (hr2 : -9223372036854775808 ≤ m ∧ m ≤ 9223372036854775807) :
    Calls Try.prog 6 #[v, .agg #[.int .i64 a, .int .i64 i], u, .int .i64 n, .int .i64 m] w fun e w' => e = .returned (.bool true) ∧ Below w.heap.size w w' := by
  obtain ⟨A, c, rfl, hz⟩ := id h
  obtain ⟨A2, c2, rfl, hz2⟩ := id h2
  clear hz hz2
  have HX := Lib.hid (box_new w a i)
  have B1 := Lib.hid (below_one w (.cells #[.int .i64 a, .int .i64 i] 23))
  have HI := Lib.hid (h.below B1.out)
  have HJ := Lib.hid (h2.below B1.out)
  clear h h2
  go_enter Try.func6, Try.ntmps6
  go_upto_region 1 with fail
  generalize w.alloc (.cells #[.int .i64 a, .int .i64 i] 23) = w0 at *
  go_wp2_with fail
  refine (rises_two _ _ l nt w0 HI.out HJ.out).mono ?_
  rintro e w1 ⟨rfl, hb⟩
  have I1 := Lib.hid (HI.out.below hb)
  have J1 := Lib.hid (HJ.out.below hb)
  have X1 := Lib.hid (box_below HX.out hb)
  have B2 := Lib.hid (below_after B1.out hb (Nat.le_refl _))
  clear hb HI HJ HX
  cases hg : good l && good nt with
  | false =>
    go_wp2_with fail
    refine (awake_any _).mono ?_
    rintro e w2 ⟨rfl, hb⟩
    have B3 := Lib.hid (below_after B2.out hb (Nat.le_refl _))
    clear hb
    go_wp2_with fail
    go_ret
    exact ⟨rfl, B3.out⟩
  | true =>
  have hg2 := Bool.and_eq_true_iff.1 hg
  have hlen := (good_rises hg2.1).1
  have hlen2 := (good_rises hg2.2).1
  have HR := Lib.hid (good_rises hg2.1).2
  clear hg hg2
  go_wp2_with fail
  refine (awake_any _).mono ?_
  rintro e w4 ⟨rfl, hb⟩
  have I4 := Lib.hid (I1.out.below hb)
  have J4 := Lib.hid (J1.out.below hb)
  have X4 := Lib.hid (box_below X1.out hb)
  have B5 := Lib.hid (below_after B2.out hb (Nat.le_refl _))
  clear hb I1 J1 X1 B2
  obtain ⟨x1, x2⟩ := box_cells X4.out
  go_wp2_with fail
  refine (watched_any _ _ l nt a i n _ I4.out J4.out (by omega) (by omega) hr.1 hr.2).mono ?_
  rintro e w5 ⟨vw, rfl, hw, hb⟩
  have I5 := Lib.hid (I4.out.below hb)
  have J5 := Lib.hid (J4.out.below hb)
  have X5 := Lib.hid (box_below X4.out hb)
  have B6 := Lib.hid (below_after B5.out hb (Nat.le_refl _))
  have HW := Lib.hid (show Ids w5 vw (watchL l (a, i) nt n) from hw)
  have HWL := Lib.hid (watchL_short HR.out (a, i) nt n)
  have HWN := Lib.hid (show ((watchL l (a, i) nt n).length : Int) = (inC (a, i) nt l : Int) + max 0 (min n (outC (a, i) nt l : Int)) from watchL_len HR.out (a, i) nt n)
  have HWR := Lib.hid (watchL_rises l (a, i) nt n)
  have HWM := Lib.hid fun z (hz : z ∈ watchL l (a, i) nt n) => watchL_in hz
  have HWX := Lib.hid fun z (hz : z ∈ watchL l (a, i) nt n) => watchL_more hz (Int.le_max_left n m)
  clear hw hb x1 x2 I4 J4 X4 B5
  generalize watchL l (a, i) nt n = L at *
  obtain ⟨Aw, cw, rfl, hz⟩ := id HW.out
  clear hz
  have hwl := HWL.out
  go_wp2_with fail
  go_loopw [12, 13, 14] (fun s12 s13 s14 wr => ∃ k : Nat, k ≤ l.length ∧ s14 = .int .i64 k ∧ s12 = .int .i64 (inC (a, i) nt (l.take k)) ∧ s13 = .int .i64 (outC (a, i) nt (l.take k)) ∧ Below w5.heap.size w5 wr) (fun _ _ s14 _ => l.length - (intOf s14).toNat)
  case atStart => exact ⟨0, by omega, rfl, rfl, rfl, Below.refl _ _⟩
  case round =>
    obtain ⟨k, hkl, rfl, rfl, rfl, hw⟩ := hrel
    have HW2 := Lib.hid hw
    have hin := inC_len (a, i) nt l k
    have hout := outC_len (a, i) nt l k
    clear hw
    have i3 : (0 : Int) ≤ (k : Int) := by omega
    by_cases hlt : k < l.length
    · have hd : decide ((k : Int) < (l.length : Int)) = true := by simp; omega
      have i4 : (k : Int) < (l.length : Int) := by omega
      obtain ⟨ad, rfl, c1, c2⟩ := I5.out.at_ HW2.out hlt
      obtain ⟨c3, c4⟩ := box_cells (box_below X5.out HW2.out)
      have HM := Lib.hid fun h => count_me (me := (a, i)) (nt := nt) hlt h
      have HN := Lib.hid fun h hi => count_in (me := (a, i)) (nt := nt) hlt h hi
      have HO := Lib.hid fun h hi => count_out (me := (a, i)) (nt := nt) hlt h hi
      generalize l[k].1 = x at *
      generalize l[k].2 = y at *
      have HC := Lib.hid fun W (hb : Below wr.heap.size wr W) => refHas_any _ nt x y W (J5.out.below (HW2.out.trans (hb.mono HW2.out.size))) (by omega)
      generalize inC (a, i) nt (l.take k) = p at *
      generalize outC (a, i) nt (l.take k) = q at *
      by_cases he : (x, y) = (a, i)
      · obtain ⟨hm1, hm2⟩ := HM.out he
        injection he with e1 e2
        subst e1
        subst e2
        clear HM HN HO HC
        go_wp2_with fail
        go_quiet (fail)
        go_wp2_with fail
        go_roundw
        case rel => exact ⟨k + 1, by omega, by go_num, by rw [hm1], by rw [hm2], below_drewN HW2.out⟩
        case measure => simp [intOf]; omega
      · have hxy : (x == a && y == i) = false := by
          rw [Bool.and_eq_false_iff]
          by_cases hx : x = a
          · right
            rw [beq_eq_false_iff_ne]
            exact fun e => he (by rw [hx, e])
          · left
            rw [beq_eq_false_iff_ne]
            exact hx
        have HEQ := Lib.hid he
        clear he HM
        by_cases hx : x = a
        · have hx2 := hx.symm
          subst hx2
          have h2 : (y == i) = false := by simpa using hxy
          clear hxy
          go_wp2_with fail
          go_quiet (fail)
          go_wp2_with fail
          refine (HC.out _ (below_drewN (Below.refl _ _))).mono ?_
          rintro e w7 ⟨rfl, hb⟩
          have B7 := Lib.hid (HW2.out.trans ((below_drewN (Below.refl wr.heap.size wr)).trans hb |>.mono HW2.out.size))
          clear hb c1 c2 c3 c4 HC
          cases hh : hasB (_, y) nt with
          | true =>
            obtain ⟨hm1, hm2⟩ := HN.out HEQ.out hh
            clear HN HO hh
            go_wp2_with fail
            go_roundw
            case rel => exact ⟨k + 1, by omega, by go_num, by rw [hm1]; go_num, by rw [hm2], B7.out⟩
            case measure => simp [intOf]; omega
          | false =>
            obtain ⟨hm1, hm2⟩ := HO.out HEQ.out hh
            clear HN HO hh
            go_wp2_with fail
            go_roundw
            case rel => exact ⟨k + 1, by omega, by go_num, by rw [hm1], by rw [hm2]; go_num, B7.out⟩
            case measure => simp [intOf]; omega
        · have h2 : (x == a) = false := by simpa using hx
          clear hxy
          go_wp2_with fail
          go_quiet (fail)
          go_wp2_with fail
          refine (HC.out _ (below_drewN (Below.refl _ _))).mono ?_
          rintro e w7 ⟨rfl, hb⟩
          have B7 := Lib.hid (HW2.out.trans ((below_drewN (Below.refl wr.heap.size wr)).trans hb |>.mono HW2.out.size))
          clear hb c1 c2 c3 c4 HC
          cases hh : hasB (x, y) nt with
          | true =>
            obtain ⟨hm1, hm2⟩ := HN.out HEQ.out hh
            clear HN HO hh
            go_wp2_with fail
            go_roundw
            case rel => exact ⟨k + 1, by omega, by go_num, by rw [hm1]; go_num, by rw [hm2], B7.out⟩
            case measure => simp [intOf]; omega
          | false =>
            obtain ⟨hm1, hm2⟩ := HO.out HEQ.out hh
            clear HN HO hh
            go_wp2_with fail
            go_roundw
            case rel => exact ⟨k + 1, by omega, by go_num, by rw [hm1], by rw [hm2]; go_num, B7.out⟩
            case measure => simp [intOf]; omega
    · have hd : decide ((k : Int) < (l.length : Int)) = false := by simp; omega
      have hk : k = l.length := by omega
      subst hk
      simp only [List.take_length] at *
      have I6 := Lib.hid (I5.out.below HW2.out)
      have J6 := Lib.hid (J5.out.below HW2.out)
      have X6 := Lib.hid (box_below X5.out HW2.out)
      have W6 := Lib.hid (HW.out.below HW2.out)
      have B7 := Lib.hid (below_after B6.out HW2.out (Nat.le_refl _))
      obtain ⟨x1, x2⟩ := box_cells X6.out
      generalize inC (a, i) nt l = p at *
      generalize outC (a, i) nt l = q at *
      have hmin := min_two n q
      have hmax := max_two 0 (min n (q : Int))
      generalize min n (q : Int) = mn at *
      generalize max 0 mn = mx at *
      have hwr : IntKind.i64.wrap ((p : Int) + mx) = (L.length : Int) := by rw [← HWN.out]; exact IntWalk.i64_in _ ⟨by omega, by omega⟩
      clear HWN
      go_wp2_with fail
      refine (refHas_any _ L a i _ W6.out (by omega)).mono ?_
      rw [show hasB (a, i) L = false from decide_eq_false fun h => (HWM.out _ h).2 rfl]
      rintro e w7 ⟨rfl, hb⟩
      have I7 := Lib.hid (I6.out.below hb)
      have J7 := Lib.hid (J6.out.below hb)
      have X7 := Lib.hid (box_below X6.out hb)
      have W7 := Lib.hid (W6.out.below hb)
      have B8 := Lib.hid (below_after B7.out hb (Nat.le_refl _))
      clear hb x1 x2 hmin hmax hwr I6 J6 X6 W6 B7
      go_wp2_with fail
      refine (refRising_any _ L _ W7.out (by omega)).mono ?_
      rw [HWR.out]
      rintro e w8 ⟨rfl, hb⟩
      have I8 := Lib.hid (I7.out.below hb)
      have J8 := Lib.hid (J7.out.below hb)
      have X8 := Lib.hid (box_below X7.out hb)
      have W8 := Lib.hid (W7.out.below hb)
      have B9 := Lib.hid (below_after B8.out hb (Nat.le_refl _))
      clear hb I7 J7 X7 W7 B8
      obtain ⟨x1, x2⟩ := box_cells X8.out
      have hmax := max_two n m
      obtain ⟨mm, hmm⟩ : ∃ mm, max n m = mm := ⟨_, rfl⟩
      have hr3 : -9223372036854775808 ≤ mm ∧ mm ≤ 9223372036854775807 := by omega
      rw [hmm] at hmax
      have HMM := Lib.hid hmm
      clear hmm
      go_wp2_with fail
      refine (watched_any _ _ l nt a i mm _ I8.out J8.out (by omega) (by omega) hr3.1 hr3.2).mono ?_
      rintro e w9 ⟨vx, rfl, hx, hb⟩
      have I9 := Lib.hid (I8.out.below hb)
      have W9 := Lib.hid (W8.out.below hb)
      have B10 := Lib.hid (below_after B9.out hb (Nat.le_refl _))
      have HV := Lib.hid (show Ids w9 vx (watchL l (a, i) nt mm) from hx)
      have HVL := Lib.hid (watchL_short HR.out (a, i) nt mm)
      have HVX := Lib.hid (show ∀ z, z ∈ L → z ∈ watchL l (a, i) nt mm from fun z hz => by rw [← HMM.out]; exact HWX.out z hz)
      clear hb hx x1 x2 hmax I8 J8 X8 W8 B9
      generalize watchL l (a, i) nt mm = M at *
      have hvl := HVL.out
      go_wp2_with fail
      go_loopw [16] (fun s16 wr => ∃ j : Nat, j ≤ L.length ∧ s16 = .int .i64 j ∧ Below w9.heap.size w9 wr) (fun s16 _ => L.length - (intOf s16).toNat)
      case atStart => exact ⟨0, by omega, rfl, Below.refl _ _⟩
      case round =>
        obtain ⟨j, hjl, rfl, hw⟩ := hrel
        have HWQ := Lib.hid hw
        clear hw
        have i5 : (0 : Int) ≤ (j : Int) := by omega
        by_cases hlt2 : j < L.length
        · have hd2 : decide ((j : Int) < (L.length : Int)) = true := by simp; omega
          have i6 : (j : Int) < (L.length : Int) := by omega
          obtain ⟨ad, rfl, c1, c2⟩ := W9.out.at_ HWQ.out hlt2
          have C1 := Lib.hid fun W' (hb : Below wr.heap.size wr W') => (And.intro (cell1 W9.out (HWQ.out.trans (hb.mono HWQ.out.size)) hlt2) (cell2 W9.out (HWQ.out.trans (hb.mono HWQ.out.size)) hlt2))
          have HIN := Lib.hid (HWM.out L[j] (List.getElem_mem hlt2)).1
          have HIX := Lib.hid (HVX.out L[j] (List.getElem_mem hlt2))
          have HH1 := Lib.hid (show hasB (L[j].1, L[j].2) M = true from decide_eq_true HIX.out)
          have HH2 := Lib.hid (show hasB (L[j].1, L[j].2) l = true from decide_eq_true HIN.out)
          clear HIN HIX
          generalize L[j].1 = x at *
          generalize L[j].2 = y at *
          go_wp2_with fail
          refine (refHas_any _ M x y _ (HV.out.below HWQ.out) (by omega)).mono ?_
          rw [HH1.out]
          rintro e w12 ⟨rfl, hb⟩
          have B12 := Lib.hid (HWQ.out.trans (hb.mono HWQ.out.size))
          clear c1 c2
          obtain ⟨c1, c2⟩ := C1.out _ hb
          clear hb
          go_wp2_with fail
          refine (refHas_any _ l x y _ (I9.out.below B12.out) (by omega)).mono ?_
          rw [HH2.out]
          rintro e w13 ⟨rfl, hb⟩
          have B13 := Lib.hid (B12.out.trans (hb.mono B12.out.size))
          clear hb c1 c2
          go_wp2_with fail
          go_roundw
          case rel => exact ⟨j + 1, by omega, by go_num, B13.out⟩
          case measure => simp [intOf]; omega
        · have hd2 : decide ((j : Int) < (L.length : Int)) = false := by simp; omega
          go_wp2_with fail
          go_ret
          exact ⟨rfl, below_after B10.out HWQ.out (Nat.le_refl _)⟩
end Go.Proofs.Ytbjknjbjldodlaa
