/-
  A walk over the program's iterator over two lists of rows, ID by ID, where both are in order. No statement is proved in this text; it holds for every input that its premises let by.
-/
import Derived.Test.YtofanciaacdjfaaTake
import Derived.Test.YtofanciaacdjfaaEach
import Derived.TacticsInMore
import Derived.LoopNIn
import Derived.LoopIn
namespace Go.Proofs.Ytofanciaacdjfaa
open Go Go.RowKit Sets RowSets
attribute [local go_sem] Oper.semAt_some
/-- Two rows of one ID, as they are handed over: each a pointer, and what it points to. -/
abbrev PairX := (Option Addr × Option Row) × (Option Addr × Option Row)
def encP (x : PairX) : Array Value := #[.pointer x.1.1, .pointer x.2.1]
def PrP (x : PairX) (A : World) : Prop := PRow A x.1.1 x.1.2 ∧ PRow A x.2.1 x.2.2 ∧ (x.1.2 ≠ none ∨ x.2.2 ≠ none) ∧ SmallO x.1.2 ∧ SmallO x.2.2
def optsP (xs : List PairX) : List (Option Row × Option Row) := xs.map fun x => (x.1.2, x.2.2)
set_option maxHeartbeats 4000000 in
theorem pairs_seq (tA tB N : Nat) (vA vB : Value) (qa qb : List Raw) (la lb : List Row) (wb w : World) (hw0 : Below wb.heap.size wb w) (hA : One w tA 27 vA) (hB : One w tB 27 vB)
    (ha : Rcs encW 4 wb vA qa) (hb : Rcs encW 4 wb vB qb) (ra : EachReads wb qa la) (rb : EachReads wb qb lb) (ua : Up la) (ub : Up lb) (sa : Small la) (sb : Small lb) (hN : (join (ids la) (ids lb)).length ≤ N) :
    EachSeq Try.prog 52 #[.pointer (some ⟨tA, 0, none⟩), .pointer (some ⟨tB, 0, none⟩)] encP PrP (fun xs => optsP xs = pairsL (join (ids la) (ids lb)) la lb) N wb.heap.size w := by
  intro l J W hW hJ0 hJb hY
  have HW0 := Lib.hid (hw0.trans (hW.mono hw0.size))
  have HA := Lib.hid (one_below hA hW)
  have HB := Lib.hid (one_below hB hW)
  have oa : Sorted qa := by unfold Sorted; rw [ra.owners]; exact ua
  have ob : Sorted qb := by unfold Sorted; rw [rb.owners]; exact ub
  have hla := ra.len
  have hlb := rb.len
  have FA := Lib.hid fun W' (h : Below wb.heap.size wb W') => firsts_any vA qa W' (ha.below h) oa (by have := sa.1; omega)
  have FB := Lib.hid fun W' (h : Below wb.heap.size wb W') => firsts_any vB qb W' (hb.below h) ob (by have := sb.1; omega)
  have HJ0 := Lib.hid hJ0
  have HJb := Lib.hid hJb
  have HY := Lib.hid hY
  have SZ := Lib.hid HW0.out.size
  have ca := one_cell HA.out
  have cb := one_cell HB.out
  clear hW hJ0 hJb hY hw0 hA hB
  refine callsIn_of_wp Try.func52 rfl trivial ?_
  simp only [Try.ntmps52, List.size_toArray, List.length_cons, List.length_nil, Nat.reduceAdd, Nat.reduceSub, Array.replicate_succ, Array.replicate_zero, List.push_toArray, List.append_toArray, List.nil_append, List.cons_append]
  gi_wp2
  refine wpIn_wide.2 ?_
  have HS := Lib.hid fun w' (hb : Below W.heap.size W w') => (show (w'.cell? ⟨tA, 0, none⟩ = some vA ∧ w'.cell? ⟨tB, 0, none⟩ = some vB) ∧ Hid (Below W.heap.size W w') from ⟨⟨one_cell (one_below HA.out hb), one_cell (one_below HB.out hb)⟩, Lib.hid hb⟩)
  go_region_held3 (fun w' => (w'.cell? ⟨tA, 0, none⟩ = some vA ∧ w'.cell? ⟨tB, 0, none⟩ = some vB) ∧ Hid (Below W.heap.size W w'))
    (first | exact HS.out _ (Below.refl _ _).drew | exact HS.out _ HK.out)
    (first
      | (go_at_call 41; (with_reducible refine (FA.out _ HW0.out.drew).mono ?_); rintro e w1 ⟨v1, rfl, ho, hb⟩; have HK := Lib.hid (show Below W.heap.size W w1 from (Below.refl _ _).drew.trans hb); have O1 := Lib.hid ho; have HB1 := Lib.hid (HW0.out.trans (HK.out.mono HW0.out.size)); clear hb ho)
      | (go_at_call 41; (with_reducible refine (FB.out _ HB1.out).mono ?_); rintro e w2 ⟨v2, rfl, ho, hb⟩; have O1 := Lib.hid (O1.out.below hb); have O2 := Lib.hid (ho.mono HK.out.size); have HK := Lib.hid (HK.out.trans (hb.mono HK.out.size)); clear hb ho))
  have W2 := Lib.hid (HW0.out.trans (HK.out.mono HW0.out.size))
  gi_wp2
  refine ⟨trivial, rfl, callsIn_wide.2 ((owners_any v1 qa w2 (rcs_owns encW_len O1.out) (by have := sa.1; omega)).mono ?_)⟩
  rintro e w3 ⟨i1, rfl, hi, hb⟩
  have B3 := Lib.hid (below_after HK.out hb (Nat.le_refl _))
  have I3 := Lib.hid hi
  have O1 := Lib.hid (O1.out.below hb)
  have O2 := Lib.hid (O2.out.below hb)
  clear hi hb
  gi_wp2
  refine ⟨trivial, rfl, callsIn_wide.2 ((owners_any v2 qb w3 (rcs_owns encW_len O2.out) (by have := sb.1; omega)).mono ?_)⟩
  rintro e w4 ⟨i2, rfl, hi, hb⟩
  have B4 := Lib.hid (below_after B3.out hb (Nat.le_refl _))
  have I4 := Lib.hid hi
  have I3 := Lib.hid (I3.out.below hb)
  have O1 := Lib.hid (O1.out.below hb)
  have O2 := Lib.hid (O2.out.below hb)
  clear hi hb
  gi_wp2
  refine ⟨trivial, rfl, callsIn_wide.2 ((join_new i1 i2 (qa.map (·.1)) (qb.map (·.1)) w4 I3.out I4.out (by have := sa.1; simp; omega) (by have := sb.1; simp; omega)).mono ?_)⟩
  rw [ra.owners, rb.owners]
  rintro e w5 ⟨vi, rfl, ho, hb⟩
  have B5 := Lib.hid (below_after B4.out hb (Nat.le_refl _))
  have Q5 := Lib.hid (liesI_of (hi := w5.heap.size) ((ownsI_of ho).mono B4.out.size) (Nat.le_refl _))
  have L1 := Lib.hid (liesW_of (hi := w5.heap.size) (O1.out.below hb) (Nat.le_refl _))
  have L2 := Lib.hid (liesW_of (hi := w5.heap.size) (O2.out.below hb) (Nat.le_refl _))
  have J5 := Lib.hid (HJ0.out w5.heap.size w5 B5.out.size B5.out)
  have W5 := Lib.hid (HW0.out.trans (B5.out.mono HW0.out.size))
  have Z5 := Lib.hid B5.out.size
  have hll : (join (ids la) (ids lb)).length ≤ 2000 := by have h1 := len_join (ids la) (ids lb); have h2 : (ids la).length = la.length := by simp [ids]
                                                          have h3 : (ids lb).length = lb.length := by simp [ids]
                                                          have := sa.1; have := sb.1; omega
  have PS := Lib.hid (pairs_some ua ub)
  obtain ⟨Av, cv, rfl, _⟩ := Q5.out.1
  clear ho hb O1 O2 I3 I4 B3 B4 HK HS HA HB ca cb FA FB W2 HB1
  obtain ⟨hi, hhi⟩ : ∃ hi, w5.heap.size = hi := ⟨_, rfl⟩
  rw [hhi] at Q5 L1 L2 J5 Z5
  have H5 := Lib.hid (show hi ≤ w5.heap.size by omega)
  clear hhi
  generalize hL : join (ids la) (ids lb) = L at *
  have HLE := Lib.hid hL
  clear hL
  have RA0 := Lib.hid ra
  have RB0 := Lib.hid rb
  clear ra rb
  gi_wp2
  gi_loopw [4, 5, 20] (fun s4 s5 s20 wr => ∃ (k : Nat) (qa' qb' : List Raw) (la' lb' : List Row) (pre : List PairX), k ≤ L.length ∧ s20 = .int .i64 k ∧ qa'.length ≤ 1000 ∧ qb'.length ≤ 1000 ∧ Hid (LiesW W.heap.size hi wr s4 qa') ∧ Hid (LiesW W.heap.size hi wr s5 qb') ∧ Hid (EachReads wb qa' la') ∧ Hid (EachReads wb qb' lb') ∧ Hid (optsP pre ++ pairsL (L.drop k) la' lb' = pairsL L la lb) ∧ Hid (pre.length = k) ∧ Hid (J hi pre wr) ∧ Hid (Below wb.heap.size W wr) ∧ Hid (LiesI W.heap.size hi wr (.slice Av L.length cv) L) ∧ Hid (hi ≤ wr.heap.size) ∧ Hid ((∀ r ∈ la', r ∈ la) ∧ ∀ r ∈ lb', r ∈ lb)) (fun _ _ s20 _ => L.length - (intOf s20).toNat)
  case atStart => exact ⟨0, qa, qb, la, lb, [], by omega, rfl, by have := sa.1; omega, by have := sb.1; omega, L1, L2, RA0, RB0, Lib.hid rfl, Lib.hid rfl, J5, Lib.hid (B5.out.mono SZ.out), Q5, H5, Lib.hid ⟨fun _ h => h, fun _ h => h⟩⟩
  case round =>
    obtain ⟨k, qa', qb', la', lb', pre, hkl, rfl, hq1, hq2, H4, H6, RA, RB, HE, HP, HJ, HW, HQ, HI, HM⟩ := hrel
    have i3 : (0 : Int) ≤ (k : Int) := by omega
    by_cases hlt : k < L.length
    · have hdec : decide ((k : Int) < (L.length : Int)) = true := by simp; omega
      have i4 : (k : Int) < (L.length : Int) := by omega
      obtain ⟨ad, rfl, c1, c2⟩ := HQ.out.1.at_ (Below.refl _ _) hlt
      have HD := Lib.hid (show pairsL (L.drop k) la' lb' = (hd (L[k].1, L[k].2) la', hd (L[k].1, L[k].2) lb') :: pairsL (L.drop (k + 1)) (tl (L[k].1, L[k].2) la') (tl (L[k].1, L[k].2) lb') by rw [List.drop_eq_getElem_cons hlt]; rfl)
      generalize L[k].1 = x at *
      generalize L[k].2 = y at *
      have X6 := Lib.hid (box_new wr x y)
      have B6 := Lib.hid (below_one wr (.cells #[.int .i64 x, .int .i64 y] 23))
      have hs6 : hi ≤ (wr.alloc (.cells #[.int .i64 x, .int .i64 y] 23)).heap.size := by have := HI.out; simp; omega
      have L4 := Lib.hid (H4.out.mid (mid_below B6.out HI.out))
      have L6 := Lib.hid (H6.out.mid (mid_below B6.out HI.out))
      have Q6 := Lib.hid (HQ.out.mid (mid_below B6.out HI.out))
      obtain ⟨x1, x2⟩ := box_cells X6.out
      gi_wp2
      refine ⟨trivial, rfl, callsIn_wide.2 ((take_any W.heap.size hi u4 qa' x y _ L4.out (by omega)).mono ?_)⟩
      rintro e w7 ⟨p1, V1, rfl, hp1, hl1, hb⟩
      have B7 := Lib.hid (below_boxed (Below.refl wr.heap.size wr) hb (Nat.le_refl _))
      have P1 := Lib.hid hp1
      have M1 := Lib.hid (hl1.mid (mid_below hb hs6))
      have L7 := Lib.hid (L6.out.mid (mid_below hb hs6))
      have X7 := Lib.hid (box_below X6.out hb)
      have hs7 : hi ≤ w7.heap.size := Nat.le_trans hs6 hb.size
      clear hp1 hl1 hb x1 x2 c1 c2
      obtain ⟨x1, x2⟩ := box_cells X7.out
      gi_wp2
      refine ⟨trivial, rfl, callsIn_wide.2 ((take_any W.heap.size hi u5 qb' x y _ L7.out (by omega)).mono ?_)⟩
      rintro e w8 ⟨p2, V2, rfl, hp2, hl2, hb⟩
      have B8 := Lib.hid (below_after B7.out hb (Nat.le_refl _))
      have hw8 : Below wb.heap.size wb w8 := (HW0.out.trans HW.out).trans (B8.out.mono (Nat.le_trans SZ.out HW.out.size))
      have TA := taken_row (w' := w7) (p := p1) RA.out ((HW0.out.trans HW.out).trans (B7.out.mono (Nat.le_trans SZ.out HW.out.size))) P1.out
      have TB := taken_row (w' := w8) (p := p2) RB.out hw8 hp2
      have M2 := Lib.hid (hl2.mid (mid_below hb hs7))
      have M1 := Lib.hid (M1.out.mid (mid_below hb hs7))
      have hs8 : hi ≤ w8.heap.size := Nat.le_trans hs7 hb.size
      have Q8 := Lib.hid (HQ.out.mid (mid_below B8.out HI.out))
      have NE := PS.out (hd (x, y) la', hd (x, y) lb') (by rw [← HE.out, HD.out]; simp)
      have SA : SmallO (hd (x, y) la') := fun r hr => sa.2 r (HM.out.1 r (by
        cases la' with
        | nil => simp [RowSets.hd] at hr
        | cons r' l' =>
          rw [hd_cons] at hr
          split at hr
          · rw [← Option.some.inj hr]; exact List.mem_cons_self ..
          · cases hr))
      have SB : SmallO (hd (x, y) lb') := fun r hr => sb.2 r (HM.out.2 r (by
        cases lb' with
        | nil => simp [RowSets.hd] at hr
        | cons r' l' =>
          rw [hd_cons] at hr
          split at hr
          · rw [← Option.some.inj hr]; exact List.mem_cons_self ..
          · cases hr))
      have ML : (∀ r ∈ tl (x, y) la', r ∈ la) ∧ ∀ r ∈ tl (x, y) lb', r ∈ lb := by
        refine ⟨fun r hr => HM.out.1 r ?_, fun r hr => HM.out.2 r ?_⟩
        · cases la' with
          | nil => exact hr
          | cons r' l' =>
            rw [tl_cons] at hr
            split at hr
            · exact List.mem_cons_of_mem _ hr
            · exact hr
        · cases lb' with
          | nil => exact hr
          | cons r' l' =>
            rw [tl_cons] at hr
            split at hr
            · exact List.mem_cons_of_mem _ hr
            · exact hr
      have lq1 : (tlQ (x, y) qa').length ≤ 1000 := by
        cases qa' with
        | nil => exact hq1
        | cons r' l' => rw [tlQ_cons]; split <;> simp at hq1 ⊢ <;> omega
      have lq2 : (tlQ (x, y) qb').length ≤ 1000 := by
        cases qb' with
        | nil => exact hq2
        | cons r' l' => rw [tlQ_cons]; split <;> simp at hq2 ⊢ <;> omega
      obtain ⟨fn, tmps, assign, body, hy, hR⟩ := HY.out hi pre ((p1, hd (x, y) la'), (p2, hd (x, y) lb')) w8 Z5.out hs8 (HJb.out hi pre wr w8 HJ.out B8.out) ⟨TA.1.below hb, TB.1, NE, SA, SB⟩ (by have := HP.out; omega)
      have HE2 := Lib.hid (show optsP (pre ++ [((p1, hd (x, y) la'), (p2, hd (x, y) lb'))]) ++ pairsL (L.drop (k + 1)) (tl (x, y) la') (tl (x, y) lb') = pairsL L la lb by
        rw [← HE.out, HD.out]
        simp [optsP])
      have HP2 := Lib.hid (show (pre ++ [((p1, hd (x, y) la'), (p2, hd (x, y) lb'))]).length = k + 1 by rw [List.length_append, HP.out]; rfl)
      have RA2 := Lib.hid TA.2
      have RB2 := Lib.hid TB.2
      have HM2 := Lib.hid ML
      clear TA TB NE SA SB ML hp2 hl2 hb x1 x2 HE HP RA RB HM P1 HD
      dsimp only [encP] at hy
      gi_wp2
      refine ⟨rfl, hR.mono ?_⟩
      rintro e w9 ⟨rfl, hj, hbel, hspan⟩
      have J9 := Lib.hid hj
      have W9 := Lib.hid (HW.out.trans (B8.out.mono (Nat.le_trans SZ.out HW.out.size)) |>.trans hbel)
      have N1 := Lib.hid (M1.out.mid hspan)
      have N2 := Lib.hid (M2.out.mid hspan)
      have Q9 := Lib.hid (Q8.out.mid hspan)
      have hs9 := Lib.hid (Nat.le_trans hs8 hspan.1)
      clear hj hbel hspan hy hR
      gi_wp2
      go_roundw
      case rel => exact ⟨k + 1, _, _, _, _, _, by omega, by go_num, lq1, lq2, N1, N2, RA2, RB2, HE2, HP2, J9, W9, Q9, hs9, HM2⟩
      case measure => simp [intOf]; omega
    · have hdec : decide ((k : Int) < (L.length : Int)) = false := by simp; omega
      have HF := Lib.hid (show optsP pre = pairsL L la lb by
        rw [← HE.out, List.drop_of_length_le (by omega)]
        simp [pairsL])
      gi_wp2
      refine bodyPost_end (results_none rfl _ _ _) rfl ?_
      exact ⟨⟨_, rfl⟩, hi, pre, by rw [HLE.out]; exact HF.out, HJ.out, HW.out⟩
end Go.Proofs.Ytofanciaacdjfaa
