/-
  A walk over what reckons the floors, of members and of floors that are given. No statement is proved in this text; it holds for every input that its premises let by.
-/
import Derived.Test.YtciolhpkhblnbaaLives
namespace Go.Proofs.Ytciolhpkhblnbaa
open Go Go.RowKit Ros
def zeroL : Nat → Int := fun _ => 0
theorem lives_zero {W : World} {n : Nat} (h : W.heap[n]? = some (.cells #[.int .i64 0, .int .i64 0, .int .i64 0, .int .i64 0, .int .i64 0, .int .i64 0, .int .i64 0, .int .i64 0, .int .i64 0, .int .i64 0, .int .i64 0, .int .i64 0, .int .i64 0] 76 (0, 0))) : Lives W n zeroL := by
  refine ⟨row_lt h, fun k hk => ⟨?_, by simp [World.frozen?, h]⟩⟩
  rw [cell_of_row _ _ k _ _ _ h]
  match k, hk with
  | 0, _ => rfl
  | 1, _ => rfl
  | 2, _ => rfl
  | 3, _ => rfl
  | 4, _ => rfl
  | 5, _ => rfl
  | 6, _ => rfl
  | 7, _ => rfl
  | 8, _ => rfl
  | 9, _ => rfl
  | 10, _ => rfl
  | 11, _ => rfl
  | 12, _ => rfl
theorem lives_new (w : World) : Lives (w.alloc (.cells #[.int .i64 0, .int .i64 0, .int .i64 0, .int .i64 0, .int .i64 0, .int .i64 0, .int .i64 0, .int .i64 0, .int .i64 0, .int .i64 0, .int .i64 0, .int .i64 0, .int .i64 0] 76)) w.heap.size zeroL := lives_zero (heap_alloc_new w _)
def given (gs : List Id2) : Nat → Int := gs.foldl raise zeroL
theorem given_next {gs : List Id2} {k : Nat} (hk : k < gs.length) : given (gs.take (k + 1)) = raise (given (gs.take k)) gs[k] := by
  unfold given
  rw [List.take_succ_eq_append_getElem hk, List.foldl_append]
  rfl
theorem newest_next {ms : List Mm} {k : Nat} (hk : k < ms.length) : newest (ms.take (k + 1)) = raise (newest (ms.take k)) ms[k].1 := by
  unfold newest
  rw [List.take_succ_eq_append_getElem hk, List.foldl_append]
  rfl
def lower (nw : Nat → Int) (ms : List Mm) (L : Nat → Int) : Nat → Int := ms.foldl (raiseIf nw) L
theorem lower_next {nw L : Nat → Int} {ms : List Mm} {k : Nat} (hk : k < ms.length) : lower nw (ms.take (k + 1)) L = raiseIf nw (lower nw (ms.take k) L) ms[k] := by
  unfold lower
  rw [List.take_succ_eq_append_getElem hk, List.foldl_append]
  rfl
theorem floors_is (ms : List Mm) (gs : List Id2) : floors ms gs = lower (newest ms) ms (given gs) := rfl
set_option maxHeartbeats 4000000 in
theorem raised_any (v u : Value) (l : List Mm) (gs : List Id2) (w : World) (h : Ms w v l) (k : Ids w u gs) (hl : l.length ≤ 100000) (hg : gs.length ≤ 100000) (hc : AllC l) (hv : AllV gs) :
    Calls Try.prog 47 #[v, u] w fun e w' => ∃ F, e = .returned (.pointer (some ⟨F, 0, none⟩)) ∧ w.heap.size ≤ F ∧ Lives w' F (floors l gs) ∧ Below w.heap.size w w' := by
  have HI := Lib.hid h
  have HG := Lib.hid k
  have HC := Lib.hid hc
  have HV := Lib.hid hv
  obtain ⟨A, c, rfl, hz⟩ := h
  obtain ⟨D, d, rfl, hy⟩ := k
  clear hz hy hc hv
  have HN := Lib.hid (lives_below (lives_new w) (below_one _ (.cells #[.int .i64 0, .int .i64 0, .int .i64 0, .int .i64 0, .int .i64 0, .int .i64 0, .int .i64 0, .int .i64 0, .int .i64 0, .int .i64 0, .int .i64 0, .int .i64 0, .int .i64 0] 76)))
  have HF := Lib.hid (show Lives ((w.alloc (.cells #[.int .i64 0, .int .i64 0, .int .i64 0, .int .i64 0, .int .i64 0, .int .i64 0, .int .i64 0, .int .i64 0, .int .i64 0, .int .i64 0, .int .i64 0, .int .i64 0, .int .i64 0] 76)).alloc (.cells #[.int .i64 0, .int .i64 0, .int .i64 0, .int .i64 0, .int .i64 0, .int .i64 0, .int .i64 0, .int .i64 0, .int .i64 0, .int .i64 0, .int .i64 0, .int .i64 0, .int .i64 0] 76)) (w.heap.size + 1) zeroL by simpa using lives_new (w.alloc (.cells #[.int .i64 0, .int .i64 0, .int .i64 0, .int .i64 0, .int .i64 0, .int .i64 0, .int .i64 0, .int .i64 0, .int .i64 0, .int .i64 0, .int .i64 0, .int .i64 0, .int .i64 0] 76)))
  have HB := Lib.hid (below_two w (.cells #[.int .i64 0, .int .i64 0, .int .i64 0, .int .i64 0, .int .i64 0, .int .i64 0, .int .i64 0, .int .i64 0, .int .i64 0, .int .i64 0, .int .i64 0, .int .i64 0, .int .i64 0] 76) (.cells #[.int .i64 0, .int .i64 0, .int .i64 0, .int .i64 0, .int .i64 0, .int .i64 0, .int .i64 0, .int .i64 0, .int .i64 0, .int .i64 0, .int .i64 0, .int .i64 0, .int .i64 0] 76))
  go_enter Try.func47, Try.ntmps47
  go_wp2_with fail
  go_loopw [15] (fun s15 wr => ∃ k : Nat, k ≤ gs.length ∧ s15 = .int .i64 k ∧ Hid (Lives wr w.heap.size zeroL) ∧ Hid (Lives wr (w.heap.size + 1) (given (gs.take k))) ∧ Hid (Below w.heap.size w wr)) (fun s15 _ => gs.length - (intOf s15).toNat)
  case atStart => exact ⟨0, by omega, rfl, HN, HF, HB⟩
  case round =>
    obtain ⟨k, hkl, rfl, HN, HF, HW⟩ := hrel
    have i3 : (0 : Int) ≤ (k : Int) := by omega
    by_cases hlt : k < gs.length
    · have hd : decide ((k : Int) < (gs.length : Int)) = true := by simp; omega
      have i4 : (k : Int) < (gs.length : Int) := by omega
      obtain ⟨ad, rfl, c1, c2⟩ := HG.out.at_ HW.out hlt
      have HT := Lib.hid (given_next hlt)
      obtain ⟨v1, v2, v3, v4⟩ := vid_iff.1 (HV.out _ (List.getElem_mem hlt))
      obtain ⟨a, ha⟩ : ∃ a : Nat, gs[k].1 = (a : Int) := ⟨gs[k].1.toNat, by omega⟩
      have HE := Lib.hid (show gs[k] = ((a : Int), gs[k].2) from Prod.ext ha rfl)
      have hk13 : a < 13 := by omega
      rw [HE.out] at HT
      rw [ha] at c1
      generalize gs[k].2 = i at *
      have X0 := Lib.hid (lives_below HF.out (below_one _ (.cells #[.int .i64 a, .int .i64 i] 30)))
      have X1 := Lib.hid (lives_below HN.out (below_one _ (.cells #[.int .i64 a, .int .i64 i] 30)))
      have XB := Lib.hid (HW.out.trans ((below_one wr (.cells #[.int .i64 a, .int .i64 i] 30)).mono HW.out.size))
      clear v1 v2 v3 v4 ha HE
      go_wp2_with fail
      refine (raise_any (w.heap.size + 1) a _ i _ X0.out hk13).mono ?_
      rintro e w1 ⟨rfl, hL, hb⟩
      have F1 := Lib.hid hL
      have N1 := Lib.hid (lives_grown X1.out hb (by omega))
      have B1 := Lib.hid (XB.out.trans (below_grown hb (by omega) XB.out.size))
      clear hL hb c1 c2
      go_wp2_with fail
      go_roundw
      case rel => exact ⟨k + 1, by omega, by go_num, N1, by rw [HT.out]; exact F1, B1⟩
      case measure => simp [intOf]; omega
    · have hd : decide ((k : Int) < (gs.length : Int)) = false := by simp; omega
      have HF : Hid (Lives wr (w.heap.size + 1) (given gs)) := by have := HF.out; rw [List.take_of_length_le (by omega)] at this; exact Lib.hid this
      clear HG HV
      go_wp2_with fail
      go_loopw [24] (fun s24 wr => ∃ k : Nat, k ≤ l.length ∧ s24 = .int .i64 k ∧ Hid (Lives wr w.heap.size (newest (l.take k))) ∧ Hid (Lives wr (w.heap.size + 1) (given gs)) ∧ Hid (Below w.heap.size w wr)) (fun s24 _ => l.length - (intOf s24).toNat)
      case atStart => exact ⟨0, by omega, rfl, HN, HF, HW⟩
      case round =>
        obtain ⟨k, hkl, rfl, HN, HF, HW⟩ := hrel
        have i3 : (0 : Int) ≤ (k : Int) := by omega
        by_cases hlt : k < l.length
        · have hd : decide ((k : Int) < (l.length : Int)) = true := by simp; omega
          have i4 : (k : Int) < (l.length : Int) := by omega
          obtain ⟨ad, rfl, c1, c2, c3, c4⟩ := Ms.at_ HI.out HW.out hlt
          have HT := Lib.hid (newest_next hlt)
          obtain ⟨⟨v1, v2, v3, v4⟩, _⟩ := cnt_iff.1 (HC.out _ (List.getElem_mem hlt))
          obtain ⟨a, ha⟩ : ∃ a : Nat, l[k].1.1 = (a : Int) := ⟨l[k].1.1.toNat, by omega⟩
          have HE := Lib.hid (show l[k].1 = ((a : Int), l[k].1.2) from Prod.ext ha rfl)
          have hk13 : a < 13 := by omega
          rw [HE.out] at HT
          rw [ha] at c1
          clear ha HE
          generalize l[k].1.2 = i at *
          generalize l[k].2.1 = s at *
          generalize l[k].2.2 = n at *
          have X0 := Lib.hid (lives_below HF.out (below_one _ (.cells #[.int .i64 a, .int .i64 i, .int .u8 s, .int .i64 n] 32)))
          have X1 := Lib.hid (lives_below HN.out (below_one _ (.cells #[.int .i64 a, .int .i64 i, .int .u8 s, .int .i64 n] 32)))
          have XB := Lib.hid (HW.out.trans ((below_one wr (.cells #[.int .i64 a, .int .i64 i, .int .u8 s, .int .i64 n] 32)).mono HW.out.size))
          clear v1 v2 v3 v4
          go_wp2_with fail
          refine (raise_any w.heap.size a _ i _ X1.out hk13).mono ?_
          rintro e w1 ⟨rfl, hL, hb⟩
          have N1 := Lib.hid hL
          have F1 := Lib.hid (lives_grown X0.out hb (by omega))
          have B1 := Lib.hid (XB.out.trans (below_grown hb (by omega) XB.out.size))
          clear hL hb c1 c2 c3 c4
          go_wp2_with fail
          go_roundw
          case rel => exact ⟨k + 1, by omega, by go_num, by rw [HT.out]; exact N1, F1, B1⟩
          case measure => simp [intOf]; omega
        · have hd : decide ((k : Int) < (l.length : Int)) = false := by simp; omega
          have HN : Hid (Lives wr w.heap.size (newest l)) := by have := HN.out; rw [List.take_of_length_le (by omega)] at this; exact Lib.hid this
          have HFl := Lib.hid (floors_is l gs)
          generalize newest l = nw at *
          generalize given gs = L0 at *
          go_wp2_with fail
          go_loopw [34] (fun s34 wr => ∃ k : Nat, k ≤ l.length ∧ s34 = .int .i64 k ∧ Hid (Lives wr w.heap.size nw) ∧ Hid (Lives wr (w.heap.size + 1) (lower nw (l.take k) L0)) ∧ Hid (Below w.heap.size w wr)) (fun s34 _ => l.length - (intOf s34).toNat)
          case atStart => exact ⟨0, by omega, rfl, HN, HF, HW⟩
          case round =>
            obtain ⟨k, hkl, rfl, HN, HF, HW⟩ := hrel
            have i3 : (0 : Int) ≤ (k : Int) := by omega
            by_cases hlt : k < l.length
            · have hd : decide ((k : Int) < (l.length : Int)) = true := by simp; omega
              have i4 : (k : Int) < (l.length : Int) := by omega
              obtain ⟨ad, rfl, c1, c2, c3, c4⟩ := Ms.at_ HI.out HW.out hlt
              have HT := Lib.hid (lower_next (nw := nw) (L := L0) hlt)
              obtain ⟨⟨v1, v2, v3, v4⟩, _⟩ := cnt_iff.1 (HC.out _ (List.getElem_mem hlt))
              obtain ⟨a, ha⟩ : ∃ a : Nat, l[k].1.1 = (a : Int) := ⟨l[k].1.1.toNat, by omega⟩
              have HE := Lib.hid (show l[k] = (((a : Int), l[k].1.2), l[k].2.1, l[k].2.2) from Prod.ext (Prod.ext ha rfl) rfl)
              have hk13 : a < 13 := by omega
              have ha0 : (0 : Int) ≤ (a : Int) := by omega
              have ha1 : (a : Int) < 13 := by omega
              rw [HE.out] at HT
              rw [ha] at c1
              clear ha HE
              generalize l[k].1.2 = i at *
              generalize l[k].2.1 = s at *
              generalize l[k].2.2 = n at *
              have X0 := Lib.hid (lives_below HF.out (below_one _ (.cells #[.int .i64 a, .int .i64 i, .int .u8 s, .int .i64 n] 32)))
              have X1 := Lib.hid (lives_below HN.out (below_one _ (.cells #[.int .i64 a, .int .i64 i, .int .u8 s, .int .i64 n] 32)))
              have XM := Lib.hid (mbox_new wr a i s n)
              have XB := Lib.hid (HW.out.trans ((below_one wr (.cells #[.int .i64 a, .int .i64 i, .int .u8 s, .int .i64 n] 32)).mono HW.out.size))
              obtain ⟨q1, q2⟩ := X1.out.2 a hk13
              obtain ⟨m1, m2, m3, m4⟩ := mbox_cells XM.out
              have HO : Hid (isOld nw (((a : Int), i), s, n) = (decide (s = 7) || decide (i < nw a))) := Lib.hid (by unfold isOld; simp)
              clear v1 v2 v3 v4
              generalize nw a = z at *
              by_cases h7 : s = 7
              · subst h7
                have HU := Lib.hid (show raiseIf nw (lower nw (l.take k) L0) (((a : Int), i), (7 : Int), n) = raise (lower nw (l.take k) L0) ((a : Int), i) by unfold raiseIf; rw [HO.out]; rfl)
                go_wp2_with fail
                go_quiet (fail)
                go_wp2_with fail
                refine (raise_any (w.heap.size + 1) a _ i _ (by exact X0.out) hk13).mono ?_
                rintro e w1 ⟨rfl, hL, hb⟩
                have F1 := Lib.hid hL
                have N1 := Lib.hid (lives_grown (by exact X1.out) hb (by omega))
                have B1 := Lib.hid ((below_drewN XB.out).trans (below_grown hb (by omega) XB.out.size))
                clear hL hb c1 c2 c3 c4 q1 q2 m1 m2 m3 m4
                go_wp2_with fail
                go_roundw
                case rel => exact ⟨k + 1, by omega, by go_num, N1, by rw [HT.out, HU.out]; exact F1, B1⟩
                case measure => simp [intOf]; omega
              · have h8 : (s == 7) = false := by simpa using h7
                by_cases hi : i < z
                · have hi2 : decide (i < z) = true := decide_eq_true hi
                  have HU := Lib.hid (show raiseIf nw (lower nw (l.take k) L0) (((a : Int), i), s, n) = raise (lower nw (l.take k) L0) ((a : Int), i) by unfold raiseIf; rw [HO.out]; simp [hi])
                  clear h7 hi
                  go_wp2_with fail
                  go_quiet (fail)
                  go_wp2_with fail
                  refine (raise_any (w.heap.size + 1) a _ i _ (by exact X0.out) hk13).mono ?_
                  rintro e w1 ⟨rfl, hL, hb⟩
                  have F1 := Lib.hid hL
                  have N1 := Lib.hid (lives_grown (by exact X1.out) hb (by omega))
                  have B1 := Lib.hid ((below_drewN XB.out).trans (below_grown hb (by omega) XB.out.size))
                  clear hL hb c1 c2 c3 c4 q1 q2 m1 m2 m3 m4
                  go_wp2_with fail
                  go_roundw
                  case rel => exact ⟨k + 1, by omega, by go_num, N1, by rw [HT.out, HU.out]; exact F1, B1⟩
                  case measure => simp [intOf]; omega
                · have hi2 : decide (i < z) = false := decide_eq_false hi
                  have HU := Lib.hid (show raiseIf nw (lower nw (l.take k) L0) (((a : Int), i), s, n) = lower nw (l.take k) L0 by unfold raiseIf; rw [HO.out]; simp [hi, h7])
                  clear h7 hi
                  go_wp2_with fail
                  go_quiet (fail)
                  go_wp2_with fail
                  go_roundw
                  case rel => exact ⟨k + 1, by omega, by go_num, X1, by rw [HT.out, HU.out]; exact X0, Lib.hid (below_drewN XB.out)⟩
                  case measure => simp [intOf]; omega
            · have hd : decide ((k : Int) < (l.length : Int)) = false := by simp; omega
              have HF : Hid (Lives wr (w.heap.size + 1) (lower nw l L0)) := by have := HF.out; rw [List.take_of_length_le (by omega)] at this; exact Lib.hid this
              go_wp2_with fail
              go_ret
              exact ⟨_, rfl, by omega, by rw [HFl.out]; exact HF.out, HW.out⟩
end Go.Proofs.Ytciolhpkhblnbaa
