/-
  Carried over and put together: contracts of this program's functions, and plain facts. No statement is proved in this text.
-/
import Derived.Deep.RegionLaw
import Derived.StillTailTactics
import Derived.Test.YtjlnnmjhbccdoaaGreatO07
set_option maxRecDepth 20000
namespace Go.Proofs.YtjlnnmjhbccdoaaGreat
open Go Go.RowKit Ros
def zeroL : Nat → Int := fun _ => 0
theorem lives_zero {W : World} {n : Nat} (h : W.heap[n]? = some (.cells #[.int .i64 0, .int .i64 0, .int .i64 0, .int .i64 0, .int .i64 0, .int .i64 0, .int .i64 0, .int .i64 0, .int .i64 0, .int .i64 0, .int .i64 0, .int .i64 0, .int .i64 0] 139 (0, 0))) : Lives W n zeroL := by
 refine ⟨row_lt h, fun k hk => ⟨?_, by simp [World.frozen?, h]⟩⟩
 rw [cell_of_row _ _ k _ _ _ h]
 match k, hk with
 | 0, _ => rfl
 | 1, _ => rfl
 | 2, _ => rfl
 | 3, _ => rfl
 | 4, _ => rfl
 | 5, _ => rfl
 | 6, _ => rfl
 | 7, _ => rfl
 | 8, _ => rfl
 | 9, _ => rfl
 | 10, _ => rfl
 | 11, _ => rfl
 | 12, _ => rfl
theorem lives_new (w : World) : Lives (w.alloc (.cells #[.int .i64 0, .int .i64 0, .int .i64 0, .int .i64 0, .int .i64 0, .int .i64 0, .int .i64 0, .int .i64 0, .int .i64 0, .int .i64 0, .int .i64 0, .int .i64 0, .int .i64 0] 139)) w.heap.size zeroL := lives_zero (heap_alloc_new w _)
def given (gs : List Id2) : Nat → Int := gs.foldl raise zeroL
theorem given_next {gs : List Id2} {k : Nat} (hk : k < gs.length) : given (gs.take (k + 1)) = raise (given (gs.take k)) gs[k] := by
 unfold given
 rw [List.take_succ_eq_append_getElem hk, List.foldl_append]
 rfl
theorem newest_next {ms : List Mm} {k : Nat} (hk : k < ms.length) : newest (ms.take (k + 1)) = raise (newest (ms.take k)) ms[k].1 := by
 unfold newest
 rw [List.take_succ_eq_append_getElem hk, List.foldl_append]
 rfl
def lower (nw : Nat → Int) (ms : List Mm) (L : Nat → Int) : Nat → Int := ms.foldl (raiseIf nw) L
theorem lower_next {nw L : Nat → Int} {ms : List Mm} {k : Nat} (hk : k < ms.length) : lower nw (ms.take (k + 1)) L = raiseIf nw (lower nw (ms.take k) L) ms[k] := by
 unfold lower
 rw [List.take_succ_eq_append_getElem hk, List.foldl_append]
 rfl
theorem floors_is (ms : List Mm) (gs : List Id2) : floors ms gs = lower (newest ms) ms (given gs) := rfl
set_option maxHeartbeats 4000000 in
theorem raised_any (v u : Value) (l : List Mm) (gs : List Id2) (w : World) (h : Ms w v l) (k : Ids w u gs) (hl : l.length ≤ 100000) (hg : gs.length ≤ 100000) (hc : AllC l) (hv : AllV gs) :
  Calls Tryz.prog 111 #[v, u] w fun e w' => ∃ F, e = .returned (.pointer (some ⟨F, 0, none⟩)) ∧ w.heap.size ≤ F ∧ Lives w' F (floors l gs) ∧ Below w.heap.size w w' := by
 have HI := Lib.hid h
 have HG := Lib.hid k
 have HC := Lib.hid hc
 have HV := Lib.hid hv
 obtain ⟨A, c, rfl, hz⟩ := h
 obtain ⟨D, d, rfl, hy⟩ := k
 clear hz hy hc hv
 have HN := Lib.hid (lives_below (lives_new w) (below_one _ (.cells #[.int .i64 0, .int .i64 0, .int .i64 0, .int .i64 0, .int .i64 0, .int .i64 0, .int .i64 0, .int .i64 0, .int .i64 0, .int .i64 0, .int .i64 0, .int .i64 0, .int .i64 0] 139)))
 have HF := Lib.hid (show Lives ((w.alloc (.cells #[.int .i64 0, .int .i64 0, .int .i64 0, .int .i64 0, .int .i64 0, .int .i64 0, .int .i64 0, .int .i64 0, .int .i64 0, .int .i64 0, .int .i64 0, .int .i64 0, .int .i64 0] 139)).alloc (.cells #[.int .i64 0, .int .i64 0, .int .i64 0, .int .i64 0, .int .i64 0, .int .i64 0, .int .i64 0, .int .i64 0, .int .i64 0, .int .i64 0, .int .i64 0, .int .i64 0, .int .i64 0] 139)) (w.heap.size + 1) zeroL by simpa using lives_new (w.alloc (.cells #[.int .i64 0, .int .i64 0, .int .i64 0, .int .i64 0, .int .i64 0, .int .i64 0, .int .i64 0, .int .i64 0, .int .i64 0, .int .i64 0, .int .i64 0, .int .i64 0, .int .i64 0] 139)))
 have HB := Lib.hid (below_two w (.cells #[.int .i64 0, .int .i64 0, .int .i64 0, .int .i64 0, .int .i64 0, .int .i64 0, .int .i64 0, .int .i64 0, .int .i64 0, .int .i64 0, .int .i64 0, .int .i64 0, .int .i64 0] 139) (.cells #[.int .i64 0, .int .i64 0, .int .i64 0, .int .i64 0, .int .i64 0, .int .i64 0, .int .i64 0, .int .i64 0, .int .i64 0, .int .i64 0, .int .i64 0, .int .i64 0, .int .i64 0] 139))
 go_enter Tryz.func111, Tryz.ntmps111
 go_wp2_with fail
 go_loopw [15] (fun s15 wr => ∃ k : Nat, k ≤ gs.length ∧ s15 = .int .i64 k ∧ Hid (Lives wr w.heap.size zeroL) ∧ Hid (Lives wr (w.heap.size + 1) (given (gs.take k))) ∧ Hid (Below w.heap.size w wr)) (fun s15 _ => gs.length - (intOf s15).toNat)
 case atStart => exact ⟨0, by omega, rfl, HN, HF, HB⟩
 case round =>
  obtain ⟨k, hkl, rfl, HN, HF, HW⟩ := hrel
  have i3 : (0 : Int) ≤ (k : Int) := by omega
  by_cases hlt : k < gs.length
  ·have hd : decide ((k : Int) < (gs.length : Int)) = true := by simp; omega
   have i4 : (k : Int) < (gs.length : Int) := by omega
   obtain ⟨ad, rfl, c1, c2⟩ := HG.out.at_ HW.out hlt
   have HT := Lib.hid (given_next hlt)
   obtain ⟨v1, v2, v3, v4⟩ := vid_iff.1 (HV.out _ (List.getElem_mem hlt))
   obtain ⟨a, ha⟩ : ∃ a : Nat, gs[k].1 = (a : Int) := ⟨gs[k].1.toNat, by omega⟩
   have HE := Lib.hid (show gs[k] = ((a : Int), gs[k].2) from Prod.ext ha rfl)
   have hk13 : a < 13 := by omega
   rw [HE.out] at HT
   rw [ha] at c1
   generalize gs[k].2 = i at *
   have X0 := Lib.hid (lives_below HF.out (below_one _ (.cells #[.int .i64 a, .int .i64 i] 29)))
   have X1 := Lib.hid (lives_below HN.out (below_one _ (.cells #[.int .i64 a, .int .i64 i] 29)))
   have XB := Lib.hid (HW.out.trans ((below_one wr (.cells #[.int .i64 a, .int .i64 i] 29)).mono HW.out.size))
   clear v1 v2 v3 v4 ha HE
   go_wp2_with fail
   refine (raise_any (w.heap.size + 1) a _ i _ X0.out hk13).mono ?_
   rintro e w1 ⟨rfl, hL, hb⟩
   have F1 := Lib.hid hL
   have N1 := Lib.hid (lives_grown X1.out hb (by omega))
   have B1 := Lib.hid (XB.out.trans (below_grown hb (by omega) XB.out.size))
   clear hL hb c1 c2
   go_wp2_with fail
   go_roundw
   case rel => exact ⟨k + 1, by omega, by go_num, N1, by rw [HT.out]; exact F1, B1⟩
   case measure => simp [intOf]; omega
  ·have hd : decide ((k : Int) < (gs.length : Int)) = false := by simp; omega
   have HF : Hid (Lives wr (w.heap.size + 1) (given gs)) := by have := HF.out; rw [List.take_of_length_le (by omega)] at this; exact Lib.hid this
   clear HG HV
   go_wp2_with fail
   go_loopw [24] (fun s24 wr => ∃ k : Nat, k ≤ l.length ∧ s24 = .int .i64 k ∧ Hid (Lives wr w.heap.size (newest (l.take k))) ∧ Hid (Lives wr (w.heap.size + 1) (given gs)) ∧ Hid (Below w.heap.size w wr)) (fun s24 _ => l.length - (intOf s24).toNat)
   case atStart => exact ⟨0, by omega, rfl, HN, HF, HW⟩
   case round =>
    obtain ⟨k, hkl, rfl, HN, HF, HW⟩ := hrel
    have i3 : (0 : Int) ≤ (k : Int) := by omega
    by_cases hlt : k < l.length
    ·have hd : decide ((k : Int) < (l.length : Int)) = true := by simp; omega
     have i4 : (k : Int) < (l.length : Int) := by omega
     obtain ⟨ad, rfl, c1, c2, c3, c4⟩ := Ms.at_ HI.out HW.out hlt
     have HT := Lib.hid (newest_next hlt)
     obtain ⟨⟨v1, v2, v3, v4⟩, _⟩ := cnt_iff.1 (HC.out _ (List.getElem_mem hlt))
     obtain ⟨a, ha⟩ : ∃ a : Nat, l[k].1.1 = (a : Int) := ⟨l[k].1.1.toNat, by omega⟩
     have HE := Lib.hid (show l[k].1 = ((a : Int), l[k].1.2) from Prod.ext ha rfl)
     have hk13 : a < 13 := by omega
     rw [HE.out] at HT
     rw [ha] at c1
     clear ha HE
     generalize l[k].1.2 = i at *
     generalize l[k].2.1 = s at *
     generalize l[k].2.2 = n at *
     have X0 := Lib.hid (lives_below HF.out (below_one _ (.cells #[.int .i64 a, .int .i64 i, .int .u8 s, .int .i64 n] 31)))
     have X1 := Lib.hid (lives_below HN.out (below_one _ (.cells #[.int .i64 a, .int .i64 i, .int .u8 s, .int .i64 n] 31)))
     have XB := Lib.hid (HW.out.trans ((below_one wr (.cells #[.int .i64 a, .int .i64 i, .int .u8 s, .int .i64 n] 31)).mono HW.out.size))
     clear v1 v2 v3 v4
     go_wp2_with fail
     refine (raise_any w.heap.size a _ i _ X1.out hk13).mono ?_
     rintro e w1 ⟨rfl, hL, hb⟩
     have N1 := Lib.hid hL
     have F1 := Lib.hid (lives_grown X0.out hb (by omega))
     have B1 := Lib.hid (XB.out.trans (below_grown hb (by omega) XB.out.size))
     clear hL hb c1 c2 c3 c4
     go_wp2_with fail
     go_roundw
     case rel => exact ⟨k + 1, by omega, by go_num, by rw [HT.out]; exact N1, F1, B1⟩
     case measure => simp [intOf]; omega
    ·have hd : decide ((k : Int) < (l.length : Int)) = false := by simp; omega
     have HN : Hid (Lives wr w.heap.size (newest l)) := by have := HN.out; rw [List.take_of_length_le (by omega)] at this; exact Lib.hid this
     have HFl := Lib.hid (floors_is l gs)
     generalize newest l = nw at *
     generalize given gs = L0 at *
     go_wp2_with fail
     go_loopw [34] (fun s34 wr => ∃ k : Nat, k ≤ l.length ∧ s34 = .int .i64 k ∧ Hid (Lives wr w.heap.size nw) ∧ Hid (Lives wr (w.heap.size + 1) (lower nw (l.take k) L0)) ∧ Hid (Below w.heap.size w wr)) (fun s34 _ => l.length - (intOf s34).toNat)
     case atStart => exact ⟨0, by omega, rfl, HN, HF, HW⟩
     case round =>
      obtain ⟨k, hkl, rfl, HN, HF, HW⟩ := hrel
      have i3 : (0 : Int) ≤ (k : Int) := by omega
      by_cases hlt : k < l.length
      ·have hd : decide ((k : Int) < (l.length : Int)) = true := by simp; omega
       have i4 : (k : Int) < (l.length : Int) := by omega
       obtain ⟨ad, rfl, c1, c2, c3, c4⟩ := Ms.at_ HI.out HW.out hlt
       have HT := Lib.hid (lower_next (nw := nw) (L := L0) hlt)
       obtain ⟨⟨v1, v2, v3, v4⟩, _⟩ := cnt_iff.1 (HC.out _ (List.getElem_mem hlt))
       obtain ⟨a, ha⟩ : ∃ a : Nat, l[k].1.1 = (a : Int) := ⟨l[k].1.1.toNat, by omega⟩
       have HE := Lib.hid (show l[k] = (((a : Int), l[k].1.2), l[k].2.1, l[k].2.2) from Prod.ext (Prod.ext ha rfl) rfl)
       have hk13 : a < 13 := by omega
       have ha0 : (0 : Int) ≤ (a : Int) := by omega
       have ha1 : (a : Int) < 13 := by omega
       rw [HE.out] at HT
       rw [ha] at c1
       clear ha HE
       generalize l[k].1.2 = i at *
       generalize l[k].2.1 = s at *
       generalize l[k].2.2 = n at *
       have X0 := Lib.hid (lives_below HF.out (below_one _ (.cells #[.int .i64 a, .int .i64 i, .int .u8 s, .int .i64 n] 31)))
       have X1 := Lib.hid (lives_below HN.out (below_one _ (.cells #[.int .i64 a, .int .i64 i, .int .u8 s, .int .i64 n] 31)))
       have XM := Lib.hid (mbox_new wr a i s n)
       have XB := Lib.hid (HW.out.trans ((below_one wr (.cells #[.int .i64 a, .int .i64 i, .int .u8 s, .int .i64 n] 31)).mono HW.out.size))
       obtain ⟨q1, q2⟩ := X1.out.2 a hk13
       obtain ⟨m1, m2, m3, m4⟩ := mbox_cells XM.out
       have HO : Hid (isOld nw (((a : Int), i), s, n) = (decide (s = 7) || decide (i < nw a))) := Lib.hid (by unfold isOld; simp)
       clear v1 v2 v3 v4
       generalize nw a = z at *
       by_cases h7 : s = 7
       ·subst h7
        have HU := Lib.hid (show raiseIf nw (lower nw (l.take k) L0) (((a : Int), i), (7 : Int), n) = raise (lower nw (l.take k) L0) ((a : Int), i) by unfold raiseIf; rw [HO.out]; rfl)
        go_wp2_with fail
        go_quiet (fail)
        go_wp2_with fail
        refine (raise_any (w.heap.size + 1) a _ i _ (by exact X0.out) hk13).mono ?_
        rintro e w1 ⟨rfl, hL, hb⟩
        have F1 := Lib.hid hL
        have N1 := Lib.hid (lives_grown (by exact X1.out) hb (by omega))
        have B1 := Lib.hid ((below_drewN XB.out).trans (below_grown hb (by omega) XB.out.size))
        clear hL hb c1 c2 c3 c4 q1 q2 m1 m2 m3 m4
        go_wp2_with fail
        go_roundw
        case rel => exact ⟨k + 1, by omega, by go_num, N1, by rw [HT.out, HU.out]; exact F1, B1⟩
        case measure => simp [intOf]; omega
       ·have h8 : (s == 7) = false := by simpa using h7
        by_cases hi : i < z
        ·have hi2 : decide (i < z) = true := decide_eq_true hi
         have HU := Lib.hid (show raiseIf nw (lower nw (l.take k) L0) (((a : Int), i), s, n) = raise (lower nw (l.take k) L0) ((a : Int), i) by unfold raiseIf; rw [HO.out]; simp [hi])
         clear h7 hi
         go_wp2_with fail
         go_quiet (fail)
         go_wp2_with fail
         refine (raise_any (w.heap.size + 1) a _ i _ (by exact X0.out) hk13).mono ?_
         rintro e w1 ⟨rfl, hL, hb⟩
         have F1 := Lib.hid hL
         have N1 := Lib.hid (lives_grown (by exact X1.out) hb (by omega))
         have B1 := Lib.hid ((below_drewN XB.out).trans (below_grown hb (by omega) XB.out.size))
         clear hL hb c1 c2 c3 c4 q1 q2 m1 m2 m3 m4
         go_wp2_with fail
         go_roundw
         case rel => exact ⟨k + 1, by omega, by go_num, N1, by rw [HT.out, HU.out]; exact F1, B1⟩
         case measure => simp [intOf]; omega
        ·have hi2 : decide (i < z) = false := decide_eq_false hi
         have HU := Lib.hid (show raiseIf nw (lower nw (l.take k) L0) (((a : Int), i), s, n) = lower nw (l.take k) L0 by unfold raiseIf; rw [HO.out]; simp [hi, h7])
         clear h7 hi
         go_wp2_with fail
         go_quiet (fail)
         go_wp2_with fail
         go_roundw
         case rel => exact ⟨k + 1, by omega, by go_num, X1, by rw [HT.out, HU.out]; exact X0, Lib.hid (below_drewN XB.out)⟩
         case measure => simp [intOf]; omega
      ·have hd : decide ((k : Int) < (l.length : Int)) = false := by simp; omega
       have HF : Hid (Lives wr (w.heap.size + 1) (lower nw l L0)) := by have := HF.out; rw [List.take_of_length_le (by omega)] at this; exact Lib.hid this
       go_wp2_with fail
       go_ret
       exact ⟨_, rfl, by omega, by rw [HFl.out]; exact HF.out, HW.out⟩
end Go.Proofs.YtjlnnmjhbccdoaaGreat
namespace Go.Proofs.YtjlnnmjhbccdoaaGreat
open Go Go.RowKit Ros
def listPart (L : Nat → Int) (k : Nat) : List Id2 := (List.range k).filterMap fun j => if 0 < L j then some ((j : Int), L j) else none
theorem listPart_yes {L : Nat → Int} {k : Nat} (h : 0 < L k) : listPart L (k + 1) = listPart L k ++ [((k : Int), L k)] := by
 unfold listPart
 rw [List.range_succ, List.filterMap_append]
 simp [h]
theorem listPart_no {L : Nat → Int} {k : Nat} (h : ¬ 0 < L k) : listPart L (k + 1) = listPart L k := by
 unfold listPart
 rw [List.range_succ, List.filterMap_append]
 simp [h]
theorem listPart_len (L : Nat → Int) (k : Nat) : (listPart L k).length ≤ k := by
 unfold listPart
 have := List.length_filterMap_le (fun j : Nat => if 0 < L j then some ((j : Int), L j) else none) (List.range k)
 simpa using this
theorem listF_is (L : Nat → Int) : listPart L 13 = listF L := rfl
set_option maxHeartbeats 4000000 in
theorem list_any (g : Nat) (L : Nat → Int) (w : World) (h : Lives w g L) :
  Calls Tryz.prog 115 #[.pointer (some ⟨g, 0, none⟩)] w fun e w' => ∃ V, e = .returned V ∧ Owns w' w.heap.size V (listF L) ∧ Below w.heap.size w w' := by
 have HL := Lib.hid h
 clear h
 go_enter Tryz.func115, Tryz.ntmps115
 go_wp2_with (at_make; refine wpList_make_roomROS _ rfl _ rfl 12 rfl (by omega) (by omega) ?_; intro v1 w1 h1 h2; have HO := Lib.hid h1; have HB := Lib.hid h2; clear h1 h2)
 go_loopw [3, 8] (fun s3 s8 wr => ∃ k : Nat, k ≤ 13 ∧ s8 = .int .i64 k ∧ Hid (Owns wr w.heap.size s3 (listPart L k)) ∧ Hid (Below w.heap.size w wr)) (fun _ s8 _ => 13 - (intOf s8).toNat)
 case atStart => exact ⟨0, by omega, rfl, HO, HB⟩
 case round =>
  obtain ⟨k, hkl, rfl, HO, HW⟩ := hrel
  have i3 : (0 : Int) ≤ (k : Int) := by omega
  by_cases hlt : k < 13
  ·have hd : decide ((k : Int) < 13) = true := by simp; omega
   have i4 : (k : Int) < 13 := by omega
   have HL1 := Lib.hid (lives_below HL.out HW.out)
   obtain ⟨c1, f1⟩ := HL1.out.2 k hlt
   have HS := Lib.hid HW.out.size
   have HP := Lib.hid (Nat.le_trans (listPart_len L k) hkl)
   by_cases hp : 0 < L k
   ·have HT := Lib.hid (listPart_yes hp)
    have hd2 : decide (L k > 0) = true := by simpa using hp
    have hd3 : decide (0 < L k) = true := by simpa using hp
    generalize L k = z at *
    clear hp f1
    go_wp2_with fail
    go_quiet (fail)
    have HO1 := Lib.hid fun n => HO.out.below (below_drewN (n := n) (Below.refl _ _))
    go_wp2_with (at_builtin; refine wpList_append_oneROS rfl (.tmp 16) (.tmp 20) rfl _ w.heap.size _ _ k z rfl rfl (HO1.out _) (by have := HP.out; omega) HS.out ?_; intro v' w' h1 h2; have O2 := Lib.hid h1; have B2 := Lib.hid ((below_drewN HW.out).trans h2); clear h1 h2)
    go_roundw
    case rel => exact ⟨k + 1, by omega, by go_num, by rw [HT.out]; exact O2, B2⟩
    case measure => simp [intOf]; omega
   ·have HT := Lib.hid (listPart_no hp)
    have hd2 : decide (L k > 0) = false := by simpa using hp
    have hd3 : decide (0 < L k) = false := by simpa using hp
    generalize L k = z at *
    clear hp f1
    go_wp2_with fail
    go_quiet (fail)
    have HO1 := Lib.hid fun n => HO.out.below (below_drewN (n := n) (Below.refl _ _))
    go_wp2_with fail
    go_roundw
    case rel => exact ⟨k + 1, by omega, by go_num, by rw [HT.out]; exact Lib.hid (HO1.out _), Lib.hid (below_drewN HW.out)⟩
    case measure => simp [intOf]; omega
  ·obtain rfl : k = 13 := by omega
   have HF := Lib.hid (listF_is L)
   go_wp2_with fail
   go_ret
   exact ⟨_, rfl, by rw [← HF.out]; exact HO.out, HW.out⟩
end Go.Proofs.YtjlnnmjhbccdoaaGreat
namespace Go.Proofs.YtjlnnmjhbccdoaaGreat
open Go Go.RowKit Ros
def arrOf (A : Nat → Mm) : Array Mm := ((List.range 13).map A).toArray
theorem arrOf_size (A : Nat → Mm) : (arrOf A).size = 13 := by simp [arrOf]
theorem arrOf_get (A : Nat → Mm) {j : Nat} (hj : j < 13) : (arrOf A)[j]! = A j := by
 rw [getElem!_pos _ j (by rw [arrOf_size]; exact hj)]
 simp [arrOf]
theorem arrOf_toList (A : Nat → Mm) : (arrOf A).toList = (List.range 13).map A := by simp [arrOf]
def zeroM : Nat → Mm := fun _ => ((0, 0), 0, 0)
theorem arrOf_put {A : Nat → Mm} {a : Nat} (ha : a < 13) (i s n : Int) : (arrOf A).setIfInBounds a (((a : Int), i), max (A a).2.1 s, elder (A a).2.2 n) = arrOf (putM A (((a : Int), i), s, n)) := by
 apply Array.ext_getElem?
 intro j
 by_cases hj : j < 13
 ·rw [Array.getElem?_eq_getElem (by simp [arrOf_size]; exact hj), Array.getElem?_eq_getElem (by simp [arrOf_size]; exact hj)]
  congr 1
  by_cases e : j = a
  ·subst e
   rw [Array.getElem_setIfInBounds_self]
   simp [arrOf, putM]
  ·rw [Array.getElem_setIfInBounds_ne (by simpa [arrOf_size] using hj) (fun h => e h.symm)]
   have : ¬ (j : Int) = (a : Int) := by omega
   simp [arrOf, putM, this]
 ·rw [Array.getElem?_eq_none (by simp [arrOf_size]; omega), Array.getElem?_eq_none (by simp [arrOf_size]; omega)]
theorem byAddr_next {ms : List Mm} {k : Nat} (hk : k < ms.length) : byAddr (ms.take (k + 1)) = putM (byAddr (ms.take k)) ms[k] := by
 unfold byAddr
 rw [List.take_succ_eq_append_getElem hk, List.foldl_append]
 rfl
theorem united_is (ms : List Mm) : (arrOf (byAddr ms)).toList.filter (fun t => !noM t) = united ms := by rw [arrOf_toList]; rfl
theorem arr_zero {W : World} {n : Nat} (h : W.heap[n]? = some (.cells #[.int .i64 0, .int .i64 0, .int .u8 0, .int .i64 0, .int .i64 0, .int .i64 0, .int .u8 0, .int .i64 0, .int .i64 0, .int .i64 0, .int .u8 0, .int .i64 0, .int .i64 0, .int .i64 0, .int .u8 0, .int .i64 0, .int .i64 0, .int .i64 0, .int .u8 0, .int .i64 0, .int .i64 0, .int .i64 0, .int .u8 0, .int .i64 0, .int .i64 0, .int .i64 0, .int .u8 0, .int .i64 0, .int .i64 0, .int .i64 0, .int .u8 0, .int .i64 0, .int .i64 0, .int .i64 0, .int .u8 0, .int .i64 0, .int .i64 0, .int .i64 0, .int .u8 0, .int .i64 0, .int .i64 0, .int .i64 0, .int .u8 0, .int .i64 0, .int .i64 0, .int .i64 0, .int .u8 0, .int .i64 0, .int .i64 0, .int .i64 0, .int .u8 0, .int .i64 0] 141 (0, 0))) : RowAtR encM 4 W n (arrOf zeroM) := by
 have ho : OwnsR encM 4 141 W n (.slice (some ⟨n, 0, none⟩) (arrOf zeroM).size 13) (arrOf zeroM).toList := ⟨rfl, .inr ⟨n, 13, _, rfl, Nat.le_refl _, h, by decide, by decide, rfl, rfl⟩⟩
 exact rowAtR_owns encM_len ho
theorem arr_new (w : World) : RowAtR encM 4 (w.alloc (.cells #[.int .i64 0, .int .i64 0, .int .u8 0, .int .i64 0, .int .i64 0, .int .i64 0, .int .u8 0, .int .i64 0, .int .i64 0, .int .i64 0, .int .u8 0, .int .i64 0, .int .i64 0, .int .i64 0, .int .u8 0, .int .i64 0, .int .i64 0, .int .i64 0, .int .u8 0, .int .i64 0, .int .i64 0, .int .i64 0, .int .u8 0, .int .i64 0, .int .i64 0, .int .i64 0, .int .u8 0, .int .i64 0, .int .i64 0, .int .i64 0, .int .u8 0, .int .i64 0, .int .i64 0, .int .i64 0, .int .u8 0, .int .i64 0, .int .i64 0, .int .i64 0, .int .u8 0, .int .i64 0, .int .i64 0, .int .i64 0, .int .u8 0, .int .i64 0, .int .i64 0, .int .i64 0, .int .u8 0, .int .i64 0, .int .i64 0, .int .i64 0, .int .u8 0, .int .i64 0] 141)) w.heap.size (arrOf zeroM) := arr_zero (heap_alloc_new w _)
def Lies (b0 : Nat) (w : World) (V : Value) (l : List Mm) : Prop := ∃ (d : Array Mm) (g c : Nat), V = .slice (some ⟨g, 0, none⟩) d.size c ∧ d.size ≤ c ∧ b0 ≤ g ∧ RowAtR encM 4 w g d ∧ d.toList = l
theorem Lies.reads {b0 : Nat} {w : World} {V : Value} {l : List Mm} (h : Lies b0 w V l) : Ms w V l := by
 obtain ⟨d, g, c, rfl, hc, _, hr, rfl⟩ := h
 exact rowAtR_rcs hr hc
theorem Lies.below {b0 : Nat} {w w' : World} {V : Value} {l : List Mm} (h : Lies b0 w V l) (hb : Below w.heap.size w w') : Lies b0 w' V l := by
 obtain ⟨d, g, c, hv, hc, hg, hr, hl⟩ := h
 exact ⟨d, g, c, hv, hc, hg, rowAtR_kept hr hb, hl⟩
theorem Lies.mono {b0 b1 : Nat} {w : World} {V : Value} {l : List Mm} (h : Lies b0 w V l) (hb : b1 ≤ b0) : Lies b1 w V l := by
 obtain ⟨d, g, c, hv, hc, hg, hr, hl⟩ := h
 exact ⟨d, g, c, hv, hc, by omega, hr, hl⟩
theorem rowAtR_grown {w w' : World} {g r : Nat} {d : Array Mm} (h : RowAtR encM 4 w g d) (hb : w.grownBy w' (some r)) (hg : g ≠ r) : RowAtR encM 4 w' g d := rowAtR_block h hb.size (hb.block g h.1 (by simpa using fun e => hg e))
theorem still_tail {P : Program} {id : Nat} {Q : Exit → Act → World → Prop} {a : Act} {w : World} {l : List Oper} (n : Nat) (hm : P.follows .mixedOrders = true) (hB : Region.lexTailB .any l.toArray n = true) (F : World → Prop) (hF : F w.drew)
  (h : ∀ w2, F w2 → wpStill P l.toArray w2 (fun a' => wpList P l.toArray Q (l.drop n) a' w2) (l.take n) a) : (Code.region id l.toArray true).wp P Q a w := wp_region_still_tail n hm hB (h _ hF)
set_option maxHeartbeats 4000000 in
theorem united_any (v : Value) (l : List Mm) (w : World) (h : Ms w v l) (hl : l.length ≤ 100000) (hc : AllC l) :
  Calls Tryz.prog 114 #[v] w fun e w' => ∃ V, e = .returned V ∧ Lies w.heap.size w' V (united l) ∧ Below w.heap.size w w' := by
 have HI := Lib.hid h
 have HC := Lib.hid hc
 obtain ⟨A, c, rfl, hz⟩ := h
 clear hz hc
 have HA := Lib.hid (arr_new w)
 have HB := Lib.hid (below_one w (.cells #[.int .i64 0, .int .i64 0, .int .u8 0, .int .i64 0, .int .i64 0, .int .i64 0, .int .u8 0, .int .i64 0, .int .i64 0, .int .i64 0, .int .u8 0, .int .i64 0, .int .i64 0, .int .i64 0, .int .u8 0, .int .i64 0, .int .i64 0, .int .i64 0, .int .u8 0, .int .i64 0, .int .i64 0, .int .i64 0, .int .u8 0, .int .i64 0, .int .i64 0, .int .i64 0, .int .u8 0, .int .i64 0, .int .i64 0, .int .i64 0, .int .u8 0, .int .i64 0, .int .i64 0, .int .i64 0, .int .u8 0, .int .i64 0, .int .i64 0, .int .i64 0, .int .u8 0, .int .i64 0, .int .i64 0, .int .i64 0, .int .u8 0, .int .i64 0, .int .i64 0, .int .i64 0, .int .u8 0, .int .i64 0, .int .i64 0, .int .i64 0, .int .u8 0, .int .i64 0] 141))
 go_enter Tryz.func114, Tryz.ntmps114
 go_wp2_with fail
 go_loopw [9] (fun s9 wr => ∃ k : Nat, k ≤ l.length ∧ s9 = .int .i64 k ∧ Hid (RowAtR encM 4 wr w.heap.size (arrOf (byAddr (l.take k)))) ∧ Hid (Below w.heap.size w wr)) (fun s9 _ => l.length - (intOf s9).toNat)
 case atStart => exact ⟨0, by omega, rfl, HA, HB⟩
 case round =>
  obtain ⟨k, hkl, rfl, HA, HW⟩ := hrel
  have i3 : (0 : Int) ≤ (k : Int) := by omega
  by_cases hlt : k < l.length
  ·have hd : decide ((k : Int) < (l.length : Int)) = true := by simp; omega
   have i4 : (k : Int) < (l.length : Int) := by omega
   obtain ⟨ad, rfl, c1, c2, c3, c4⟩ := Ms.at_ HI.out HW.out hlt
   have HT := Lib.hid (byAddr_next hlt)
   obtain ⟨⟨v1, v2, v3, v4⟩, _⟩ := cnt_iff.1 (HC.out _ (List.getElem_mem hlt))
   obtain ⟨a, ha⟩ : ∃ a : Nat, l[k].1.1 = (a : Int) := ⟨l[k].1.1.toNat, by omega⟩
   have HE := Lib.hid (show l[k] = (((a : Int), l[k].1.2), l[k].2.1, l[k].2.2) from Prod.ext (Prod.ext ha rfl) rfl)
   have hk13 : a < 13 := by omega
   have ha0 : (0 : Int) ≤ (a : Int) := by omega
   have ha1 : (a : Int) < 13 := by omega
   rw [HE.out] at HT
   rw [ha] at c1
   clear ha HE
   generalize l[k].1.2 = i at *
   generalize l[k].2.1 = s at *
   generalize l[k].2.2 = n at *
   have HP := Lib.hid (arrOf_put (A := byAddr (l.take k)) hk13 i s n)
   rw [← HT.out] at HP
   have A1 := Lib.hid (rowAtR_kept HA.out (below_one _ (.cells #[.int .i64 a, .int .i64 i, .int .u8 s, .int .i64 n] 31)))
   have hcell := A1.out.mem (k := a) (by rw [arrOf_size]; exact hk13)
   rw [arrOf_get _ hk13] at hcell
   generalize byAddr (l.take k) = AA at *
   have hAE : AA a = (((AA a).1.1, (AA a).1.2), (AA a).2.1, (AA a).2.2) := rfl
   generalize (AA a).1.1 = p at *
   generalize (AA a).1.2 = q at *
   generalize (AA a).2.1 = t at *
   generalize (AA a).2.2 = m at *
   clear hAE
   obtain ⟨⟨r1, r2, r3, r4⟩, f1, f2, f3, f4⟩ := hcell
   clear f1 f2 f3 f4
   have XM := Lib.hid (mbox_below (mbox_new wr a i s n) (below_one _ (.cells #[.int .i64 p, .int .i64 q, .int .u8 t, .int .i64 m] 31)))
   have XN : Hid (MBox ((wr.alloc (.cells #[.int .i64 a, .int .i64 i, .int .u8 s, .int .i64 n] 31)).alloc (.cells #[.int .i64 p, .int .i64 q, .int .u8 t, .int .i64 m] 31)) (wr.heap.size + 1) p q t m) := Lib.hid (by simpa using mbox_new (wr.alloc (.cells #[.int .i64 a, .int .i64 i, .int .u8 s, .int .i64 n] 31)) p q t m)
   have A2 := Lib.hid (rowAtR_kept A1.out (below_one _ (.cells #[.int .i64 p, .int .i64 q, .int .u8 t, .int .i64 m] 31)))
   have B2 := Lib.hid (HW.out.trans ((below_two wr (.cells #[.int .i64 a, .int .i64 i, .int .u8 s, .int .i64 n] 31) (.cells #[.int .i64 p, .int .i64 q, .int .u8 t, .int .i64 m] 31)).mono HW.out.size))
   obtain ⟨m1, m2, m3, m4⟩ := mbox_cells XM.out
   have hm8 := fun W => max_two8 t s W
   have R3 := Lib.hid (fun W (hW : RowAtR encM 4 W w.heap.size (arrOf AA)) => rowM_set hW (i := a) (by rw [arrOf_size]; exact hk13) a i (max t s) (elder m n))
   rw [HP.out] at R3
   have HEl := Lib.hid fun W => (elder_any m n W).mono fun e w' (h : e = _ ∧ W = w') => And.intro h.1 h.2.symm
   clear v1 v2 v3 v4
   go_wp2_with fail
   refine still_tail 17 (Checked.mixed Tryz.checked) (by kernel_rfl) (fun w2 => MBox w2 wr.heap.size a i s n ∧ MBox w2 (wr.heap.size + 1) p q t m ∧ RowAtR encM 4 w2 w.heap.size (arrOf AA) ∧ Below w.heap.size w w2) ⟨XM.out, XN.out, A2.out, below_drewN (n := 1) B2.out⟩ ?_
   rintro w2 ⟨Y1, Y2, Y3, Y4⟩
   have Y3h := Lib.hid Y3
   have Y4h := Lib.hid Y4
   obtain ⟨m1, m2, m3, m4⟩ := mbox_cells Y1
   obtain ⟨n1, n2, n3, n4⟩ := mbox_cells Y2
   obtain ⟨⟨b1, b2, b3, b4⟩, f1, f2, f3, f4⟩ := Y3.mem (k := a) (by rw [arrOf_size]; exact hk13)
   clear Y1 Y2 Y3 Y4 XM XN A2 B2
   simp only [List.take_succ_cons, List.take_zero, List.drop_succ_cons, List.drop_zero]
   repeat still_step
   still_call (HEl.out _)
   repeat still_step
   refine wpStill_nil ?_
   go_wp2
   go_roundw
   case rel => exact ⟨k + 1, by omega, by go_num, Lib.hid (R3.out _ Y3h.out), Lib.hid (below_setM Y4h.out (Nat.le_refl _) _ _ _ _ _)⟩
   case measure => simp [intOf]; omega
  ·have hd : decide ((k : Int) < (l.length : Int)) = false := by simp; omega
   have HA : Hid (RowAtR encM 4 wr w.heap.size (arrOf (byAddr l))) := by have := HA.out; rw [List.take_of_length_le (by omega)] at this; exact Lib.hid this
   have HU := Lib.hid (united_is l)
   generalize byAddr l = AA at *
   go_wp2_with fail
   have hs := arrOf_size AA
   refine (show Calls Tryz.prog 105 #[.slice (some ⟨w.heap.size, 0, none⟩) 13 13, .func (.func 150) #[] #[]] _ _ from hs ▸ (deleteM_any noM_asks w.heap.size 13 (fun _ _ _ _ => trivial) (arrOf AA) _ HA.out trivial (by rw [hs]; omega) (by rw [hs]; omega) (fun _ _ => trivial))).mono ?_
   rintro e w1 ⟨d', rfl, hd', hsz, hR, hb⟩
   have HD := Lib.hid hd'
   have HR := Lib.hid hR
   have H1 := Lib.hid (HW.out.trans (below_grown hb (Nat.le_refl _) HW.out.size))
   have HS : d'.size ≤ 13 := by omega
   clear hd' hR hb hsz hs
   go_wp2_with fail
   go_ret
   exact ⟨_, rfl, ⟨d', _, 13, rfl, HS, Nat.le_refl _, HR.out, HD.out.trans HU.out⟩, H1.out⟩
end Go.Proofs.YtjlnnmjhbccdoaaGreat
namespace Go.Proofs.YtjlnnmjhbccdoaaGreat
open Go Go.RowKit Ros
def OwnM (b0 : Nat) (w : World) (V : Value) (l : List Mm) : Prop := (V = .slice none 0 0 ∧ l = []) ∨ ∃ (d : Array Mm) (g c : Nat), V = .slice (some ⟨g, 0, none⟩) d.size c ∧ d.size ≤ c ∧ b0 ≤ g ∧ RowAtR encM 4 w g d ∧ d.toList = l
def OwnI (b0 : Nat) (w : World) (V : Value) (l : List Id2) : Prop := (V = .slice none 0 0 ∧ l = []) ∨ ∃ (d : Array Id2) (g c : Nat), V = .slice (some ⟨g, 0, none⟩) d.size c ∧ d.size ≤ c ∧ b0 ≤ g ∧ RowAtR encI 2 w g d ∧ d.toList = l
theorem OwnM.reads {b0 : Nat} {w : World} {V : Value} {l : List Mm} (h : OwnM b0 w V l) : Ms w V l := by
 rcases h with ⟨rfl, rfl⟩ | ⟨d, g, c, rfl, hc, _, hr, rfl⟩
 ·exact Rcs.nil w
 ·exact rowAtR_rcs hr hc
theorem OwnI.reads {b0 : Nat} {w : World} {V : Value} {l : List Id2} (h : OwnI b0 w V l) : Ids w V l := by
 rcases h with ⟨rfl, rfl⟩ | ⟨d, g, c, rfl, hc, _, hr, rfl⟩
 ·exact Ids.nil w
 ·exact ids_rcs (rowAtR_rcs hr hc)
theorem ownM_of {b0 : Nat} {w : World} {V : Value} {l : List Mm} (h : OwnsR encM 4 31 w b0 V l) : OwnM b0 w V l := by
 rcases ownsR_split h with ⟨rfl, hn⟩ | ⟨g, cap, rfl, hg, hc⟩
 ·exact .inl ⟨rfl, List.eq_nil_of_length_eq_zero (by omega)⟩
 ·have hlow := (World.ownsRow.lt h g rfl).1
  refine .inr ⟨l.toArray, g, cap, by simp, by simpa using hc, hlow, rowAtR_owns (e := 31) (base := b0) (c := cap) encM_len ?_, by simp⟩
  simpa using h
theorem ownI_of {b0 : Nat} {w : World} {V : Value} {l : List Id2} (h : OwnsR encI 2 29 w b0 V l) : OwnI b0 w V l := by
 rcases ownsR_split h with ⟨rfl, hn⟩ | ⟨g, cap, rfl, hg, hc⟩
 ·exact .inl ⟨rfl, List.eq_nil_of_length_eq_zero (by omega)⟩
 ·have hlow := (World.ownsRow.lt h g rfl).1
  refine .inr ⟨l.toArray, g, cap, by simp, by simpa using hc, hlow, rowAtR_owns (e := 29) (base := b0) (c := cap) encI_len ?_, by simp⟩
  simpa using h
theorem OwnM.below {b0 : Nat} {w w' : World} {V : Value} {l : List Mm} (h : OwnM b0 w V l) (hb : Below w.heap.size w w') : OwnM b0 w' V l := by
 rcases h with h | ⟨d, g, c, hv, hc, hg, hr, hl⟩
 ·exact .inl h
 ·exact .inr ⟨d, g, c, hv, hc, hg, rowAtR_kept hr hb, hl⟩
theorem OwnI.below {b0 : Nat} {w w' : World} {V : Value} {l : List Id2} (h : OwnI b0 w V l) (hb : Below w.heap.size w w') : OwnI b0 w' V l := by
 rcases h with h | ⟨d, g, c, hv, hc, hg, hr, hl⟩
 ·exact .inl h
 ·exact .inr ⟨d, g, c, hv, hc, hg, rowAtR_kept hr hb, hl⟩
theorem OwnM.mono {b0 b1 : Nat} {w : World} {V : Value} {l : List Mm} (h : OwnM b0 w V l) (hb : b1 ≤ b0) : OwnM b1 w V l := by
 rcases h with h | ⟨d, g, c, hv, hc, hg, hr, hl⟩
 ·exact .inl h
 ·exact .inr ⟨d, g, c, hv, hc, by omega, hr, hl⟩
set_option maxHeartbeats 1000000 in
theorem deleteI_none {K : Nat} {caps : Array Value} {p : Id2 → Bool} {S : World → Prop} (hP : AsksI K caps p S) (w : World) (hS : S w) :
  Calls Tryz.prog 97 #[.slice none 0 0, .func (.func K) #[] caps] w fun e w' => e = .returned (.slice none 0 0) ∧ Below w.heap.size w w' := by
 have HP := Lib.hid hP
 have HS0 := Lib.hid hS
 have hK := hP.enters
 clear hP hS
 go_enter Tryz.func97, Tryz.ntmps97
 go_wp2_with fail
 (with_reducible refine (indexI_anyROS HP.out _ [] _ (Ids.nil _) HS0.out (by simp)).mono ?_)
 rintro e w1 ⟨⟨r, rfl, hf⟩, hb⟩
 have HB := Lib.hid hb
 clear hb
 rcases hf with ⟨rfl, _⟩ | ⟨k0, hk0, _⟩
 ·go_wp2_with fail
  go_ret
  exact ⟨rfl, HB.out⟩
 ·simp at hk0
theorem deleteI_own {K : Nat} {caps : Array Value} {p : Id2 → Bool} {S : World → Prop} (hP : AsksI K caps p S) (b0 : Nat) (V : Value) (hSg : ∀ (g a c : Nat) W W', V = .slice (some ⟨g, 0, none⟩) a c → S W → W.grownBy W' (some g) → S W') (l : List Id2) (w : World) (h : OwnI b0 w V l) (hS : S w) (hl : l.length ≤ 100000) (hb0 : b0 ≤ w.heap.size) :
  Calls Tryz.prog 97 #[V, .func (.func K) #[] caps] w fun e w' => ∃ V', e = .returned V' ∧ OwnI b0 w' V' (l.filter fun t => !p t) ∧ S w' ∧ Below b0 w w' := by
 rcases h with ⟨rfl, rfl⟩ | ⟨d, g, c, rfl, hc, hg, hr, rfl⟩
 ·refine (deleteI_none hP w hS).mono ?_
  rintro e w' ⟨rfl, hb⟩
  exact ⟨_, rfl, .inl ⟨rfl, rfl⟩, hP.kept _ _ hS hb, hb.mono hb0⟩
 ·refine (deleteI_anyROS hP g c (fun W W' => hSg g _ _ W W' rfl) d w hr hS hc (by simpa using hl)).mono ?_
  rintro e w' ⟨d', rfl, hd, hsz, hr', hb⟩
  exact ⟨_, rfl, .inr ⟨d', g, c, rfl, by omega, hg, hr', hd⟩, hSg g _ _ _ _ rfl hS hb, below_grown hb hg hb0⟩
set_option maxHeartbeats 1000000 in
theorem deleteM_none {K : Nat} {caps : Array Value} {p : Mm → Bool} {S : World → Prop} {D : Mm → Prop} (hP : AsksM K caps p S D) (w : World) (hS : S w) :
  Calls Tryz.prog 105 #[.slice none 0 0, .func (.func K) #[] caps] w fun e w' => e = .returned (.slice none 0 0) ∧ Below w.heap.size w w' := by
 have HP := Lib.hid hP
 have HS0 := Lib.hid hS
 have hK := hP.enters
 clear hP hS
 go_enter Tryz.func105, Tryz.ntmps105
 go_wp2_with fail
 (with_reducible refine (indexM_any HP.out _ [] _ (Rcs.nil _) HS0.out (by simp) (fun _ h => absurd h (by simp))).mono ?_)
 rintro e w1 ⟨⟨r, rfl, hf⟩, hb⟩
 have HB := Lib.hid hb
 clear hb
 rcases hf with ⟨rfl, _⟩ | ⟨k0, hk0, _⟩
 ·go_wp2_with fail
  go_ret
  exact ⟨rfl, HB.out⟩
 ·simp at hk0
theorem deleteM_own {K : Nat} {caps : Array Value} {p : Mm → Bool} {S : World → Prop} {D : Mm → Prop} (hP : AsksM K caps p S D) (b0 : Nat) (V : Value) (hSg : ∀ (g a c : Nat) W W', V = .slice (some ⟨g, 0, none⟩) a c → S W → W.grownBy W' (some g) → S W') (l : List Mm) (w : World) (h : OwnM b0 w V l) (hS : S w) (hl : l.length ≤ 100000) (hb0 : b0 ≤ w.heap.size) (hD : ∀ x ∈ l, D x) :
  Calls Tryz.prog 105 #[V, .func (.func K) #[] caps] w fun e w' => ∃ V', e = .returned V' ∧ OwnM b0 w' V' (l.filter fun t => !p t) ∧ S w' ∧ Below b0 w w' := by
 rcases h with ⟨rfl, rfl⟩ | ⟨d, g, c, rfl, hc, hg, hr, rfl⟩
 ·refine (deleteM_none hP w hS).mono ?_
  rintro e w' ⟨rfl, hb⟩
  exact ⟨_, rfl, .inl ⟨rfl, rfl⟩, hP.kept _ _ hS hb, hb.mono hb0⟩
 ·refine (deleteM_any hP g c (fun W W' => hSg g _ _ W W' rfl) d w hr hS hc (by simpa using hl) hD).mono ?_
  rintro e w' ⟨d', rfl, hd, hsz, hr', hb⟩
  exact ⟨_, rfl, .inr ⟨d', g, c, rfl, by omega, hg, hr', hd⟩, hSg g _ _ _ _ rfl hS hb, below_grown hb hg hb0⟩
end Go.Proofs.YtjlnnmjhbccdoaaGreat
