/-
  A walk over a statement: what is heard of one changes nothing of others; who is heard is not late now; to look once more tells the same. No statement is proved in this text; it holds for every input that its premises let by.
-/
import Derived.Test.YtkoeplgkiogjlaaWchM
set_option maxRecDepth 20000
namespace Go.Proofs.Ytkoeplgkiogjlaa
open Go Go.RowKit Sets Go.Maps Go.ChangeMaps Go.MapKept
variable {S S2 S' : Nat → Prop} {W W' w0 : World} {p n : Nat} {e : Dt} {K : List Id2} {D : Id2 → Dt}
theorem Wat.ok (h : Wat S W p n e K D) : ∀ q ∈ K, (D q).Ok := by
  obtain ⟨f, mb, L, h⟩ := h
  intro q hq
  obtain ⟨v, _, _, _, h4⟩ := h.dets q hq
  exact h4
theorem late_same {x : Int} (hK : Rises K) : lateL (withD e K D x) x (setOf K) = lateL D x K := by
  rw [setOf_self hK]
  unfold lateL
  refine List.filter_congr fun q hq => ?_
  rw [withD_in hq]
theorem apart_same {q : Id2} {x : Int} (hD : ∀ r ∈ K, (D r).Ok) : setOf (del (lateL D x K) q) = setOf (lateL (heardD D q x) x K) := by
  refine setOf_ext fun z => ?_
  rw [mem_del]
  unfold lateL heardD
  rw [List.mem_filter, List.mem_filter]
  by_cases hz : z = q
  · subst hz
    constructor
    · exact fun h => absurd rfl h.2
    · rintro ⟨h1, h2⟩
      rw [if_pos rfl, heard_late (hD _ h1)] at h2
      cases h2
  · rw [if_neg hz]
    exact ⟨fun h => h.1, fun h => ⟨h, hz⟩⟩
theorem apart_has {q : Id2} {x : Int} (hD : ∀ r ∈ K, (D r).Ok) : hasB q (lateL (heardD D q x) x K) = false := by
  refine hasB_not fun h => ?_
  unfold lateL heardD at h
  rw [List.mem_filter] at h
  obtain ⟨h1, h2⟩ := h
  rw [if_pos rfl, heard_late (hD _ h1)] at h2
  cases h2
theorem apart_not {q : Id2} {x : Int} (hq : hasB q K = false) : lateL (heardD D q x) x K = lateL D x K := by
  unfold lateL
  refine List.filter_congr fun r hr => ?_
  unfold heardD
  rw [if_neg]
  rintro rfl
  rw [hasB_in hr] at hq
  cases hq
theorem sameB_self (l : List Id2) : sameB l l = true := by unfold sameB; exact decide_eq_true rfl
theorem lateL_le (D : Id2 → Dt) (x : Int) (l : List Id2) : (lateL D x l).length ≤ l.length := List.length_filter_le _ _
/-- A copy, looked at, and thrown away. -/
theorem copy_look {p' : Nat} {W1 : World} {v : Value} {x : Int} (h : Wat S' W1 p' n e K D) (hlo : ∀ k, S' k → W.heap.size ≤ k) (hb : Below W.heap.size W W1) (hS : ∀ k, S k → k < W.heap.size) (hv : Ids W1 v K) (hK : Rises K) (hl : K.length ≤ 40000) (hn : n ≤ 100000) :
    Calls Try.prog 16 #[.pointer (some ⟨p', 0, none⟩), v, .int .i64 x] W1 fun en W2 => ∃ A c, en = .returned (.slice A (lateL D x K).length c) ∧ IL S W2 (.slice A (lateL D x K).length c) (lateL D x K) ∧ Below W.heap.size W W2 := by
  refine (look_any h v K x hv hl h.in2 hn).mono ?_
  rw [late_same hK]
  rintro en W2 ⟨S2, u, rfl, _, h2, h3, _⟩
  have hI := ids_of_owns h3
  obtain ⟨A, c, rfl, _⟩ := id hI
  exact ⟨A, c, rfl, .fresh (W := W) hI hS (fun g hg => Nat.le_trans hb.size (World.ownsRow.lt h3 g hg).1), hb.trans (h2.fr.below hb.size hlo)⟩
set_option maxHeartbeats 4000000 in
theorem apart_any (mn mx wi : Int) (v : Value) (ss : List Sp) (a i later : Int) (w : World) (_r0 : -9223372036854775808 ≤ mn ∧ mn ≤ 9223372036854775807) (_r1 : -9223372036854775808 ≤ mx ∧ mx ≤ 9223372036854775807) (_r2 : -9223372036854775808 ≤ wi ∧ wi ≤ 9223372036854775807) (I3 : Rcs encT 5 w v ss) (R3 : ∀ s ∈ ss, SpOk w s) (U4 : In2 (a, i)) (_r5 : -9223372036854775808 ≤ later ∧ later ≤ 9223372036854775807) :
    Calls Try.prog 6 #[.int .i64 mn, .int .i64 mx, .int .i64 wi, v, .agg #[.int .i64 a, .int .i64 i], .int .i64 later] w fun en w' => en = .returned (.bool true) ∧ Below w.heap.size w w' := by
  have HI := Lib.hid I3
  have HS := Lib.hid R3
  have HU := Lib.hid U4
  obtain ⟨A, c, rfl, hz⟩ := I3
  have BX := Lib.hid (below_one w (.cells #[.int .i64 a, .int .i64 i] 35))
  have XX := Lib.hid (box_new w a i)
  obtain ⟨t, ht, et0⟩ := num_cutW later 1000 (by decide) (by decide)
  have et : wrap64 ((IntKind.u64.wrap later).tmod 1000) = (t : Int) := et0
  clear hz _r0 _r1 _r2 _r5 R3 U4 et0
  cases hlg : longS ss
  case true =>
    have HG := Lib.hid hlg
    clear hlg
    go_enter Try.func6, Try.ntmps6
    go_wp2_with fail
    (with_reducible refine (long_any _ ss _ (HI.out.below BX.out) (fun s hs => (HS.out s hs).below BX.out)).mono ?_)
    rintro en w1 ⟨rfl, hb⟩
    have B := Lib.hid (below_after BX.out hb (Nat.le_refl _))
    have XX := Lib.hid (box_below XX.out hb)
    clear hb
    rw [HG.out]
    go_wp2_with fail
    (with_reducible refine (awake_any _).mono ?_)
    rintro en w2 ⟨rfl, hb⟩
    have B := Lib.hid (below_after B.out hb (Nat.le_refl _))
    have XX := Lib.hid (box_below XX.out hb)
    clear hb
    go_wp2_with fail
    go_ret
    exact ⟨rfl, B.out⟩
  case false =>
    have HG := Lib.hid hlg
    clear hlg
    go_enter Try.func6, Try.ntmps6
    go_wp2_with fail
    (with_reducible refine (long_any _ ss _ (HI.out.below BX.out) (fun s hs => (HS.out s hs).below BX.out)).mono ?_)
    rintro en w1 ⟨rfl, hb⟩
    have B := Lib.hid (below_after BX.out hb (Nat.le_refl _))
    have XX := Lib.hid (box_below XX.out hb)
    clear hb
    rw [HG.out]
    have HL := Lib.hid (longS_no HG.out)
    go_wp2_with fail
    (with_reducible refine (awake_any _).mono ?_)
    rintro en w2 ⟨rfl, hb⟩
    have B := Lib.hid (below_after B.out hb (Nat.le_refl _))
    have XX := Lib.hid (box_below XX.out hb)
    clear hb
    go_wp2_with fail
    cases hok : newOk mn mx wi
    case false =>
      (with_reducible refine (wnew_no mn mx wi hok _).mono ?_)
      rintro en w3 ⟨rfl, hb⟩
      have B := Lib.hid (below_after B.out hb (Nat.le_refl _))
      have XX := Lib.hid (box_below XX.out hb)
      clear hb
      go_wp2_with fail
      go_ret
      exact ⟨rfl, B.out⟩
    case true =>
      have HOK := Lib.hid hok
      clear hok
      (with_reducible refine (Sit.new w _ B.out mn mx wi HOK.out).mono ?_)
      rintro en w3 ⟨p, S, rfl, h1, hlo, h3⟩
      have Q := Lib.hid h1
      have XX : Hid (BL S w3 w.heap.size a i) := Lib.hid ⟨box_below XX.out h3, fun h => by have := hlo _ h; have := box_lt XX.out; omega⟩
      clear h1 B hlo h3
      go_wp2_with fail
      (with_reducible refine (rising_any _ ss _ (HI.out.below Q.out.below) HL.out.1).mono ?_)
      rintro en w4 ⟨v', rfl, h1, hb⟩
      have RR := Lib.hid (RL.fresh h1 Q.out.wat.lt)
      have Q := Lib.hid (Q.out.keep hb)
      have XX := Lib.hid (XX.out.keep hb)
      clear h1 hb
      obtain ⟨A4, c4, rfl⟩ := RR.out.shape
      go_wp2_with fail
      have HT : Hid (∀ s ∈ risen 0 ss, (0 ≤ s.x ∧ s.x ≤ 4900) ∧ (s.l.length ≤ 30 ∧ Rises s.l) ∧ (∀ W, Below w.heap.size w W → Ids W s.v s.l) ∧ In2 s.q ∧ ∀ q ∈ s.l, In2 q) := Lib.hid fun s hs => by
        obtain ⟨h1, r, hr, e⟩ := risen_mem hs
        have h2 := nowOf_range ss 0
        have h3 := HL.out.1
        have h4 := HL.out.2 r hr
        have h5 := HS.out r hr
        rw [e]
        refine ⟨⟨h1.1, ?_⟩, h4, fun W hb => h5.ids.below hb, h5.q2, h5.l2⟩
        show s.x ≤ 4900
        omega
      have HLen : Hid ((risen 0 ss).length ≤ 100) := Lib.hid (by rw [risen_len]; exact HL.out.1)
      have HUp : Hid ((risen 0 ss).Pairwise fun a b => a.x ≤ b.x) := Lib.hid risen_up
      generalize risen 0 ss = ts at *
      go_loopw [15, 16] (fun s15 s16 wr => ∃ (k : Nat) (now : Int) (S' : Nat → Prop) (m : Nat) (K : List Id2) (D : Id2 → Dt), k ≤ ts.length ∧ s15 = .int .i64 now ∧ (0 ≤ now ∧ now ≤ 4900) ∧ s16 = .int .i64 k ∧ Hid (Sit w wr S' p m (Dt.new mn mx wi) K D) ∧ Hid (RL S' wr (.slice A4 ts.length c4) ts) ∧ Hid (m ≤ 30 * k) ∧ Hid (Rises K) ∧ Hid (K.length ≤ 30) ∧ Hid (BL S' wr w.heap.size a i)) (fun _ s16 _ => ts.length - (intOf s16).toNat)
      case atStart => exact ⟨0, 0, S, 0, [], _, by omega, rfl, by decide, rfl, Q, RR, Lib.hid (by omega), Lib.hid rises_nil, Lib.hid (by simp), XX⟩
      case round =>
        clear Q RR XX
        obtain ⟨k, now, S', m, K, D, hkl, rfl, hnow, rfl, Q, RR, HM, HR, HKL, XX⟩ := hrel
        have hLen := HLen.out
        have HNow := Lib.hid hnow
        clear hnow
        have i3 : (0 : Int) ≤ (k : Int) := by omega
        by_cases hlt : k < ts.length
        · have hd1 : decide ((k : Int) < (ts.length : Int)) = true := by simp; omega
          have i4 : (k : Int) < (ts.length : Int) := by omega
          obtain ⟨ad, rfl⟩ := RR.out.rcs.addr (Nat.lt_of_le_of_lt (Nat.zero_le _) hlt)
          have c0 := RR.out.rcs.first (Below.refl _ _) hlt (u := .bool ts[k].h) rfl
          have c1 := RR.out.rcs.cell (Below.refl _ _) hlt 1 (by decide) (u := .int .i64 ts[k].q.1) rfl
          have c2 := RR.out.rcs.cell (Below.refl _ _) hlt 2 (by decide) (u := .int .i64 ts[k].q.2) rfl
          have c3 := RR.out.rcs.cell (Below.refl _ _) hlt 3 (by decide) (u := .slice ts[k].A ts[k].l.length ts[k].c) rfl
          have c4' := RR.out.rcs.cell (Below.refl _ _) hlt 4 (by decide) (u := .int .i64 ts[k].x) rfl
          have HK := Lib.hid (HT.out _ (List.getElem_mem hlt))
          generalize ts[k] = s at *
          obtain ⟨sh, ⟨sa, si⟩, sA, sc, sl, sx⟩ := s
          dsimp only at c0 c1 c2 c3 c4'
          have I1 : Hid (Ids wr (.slice sA sl.length sc) sl) := Lib.hid (HK.out.2.2.1 _ Q.out.below)
          cases sh with
          | true =>
            go_wp2_with fail
            (with_reducible refine (Q.out.heard sa si sx HK.out.2.2.2.1).mono ?_)
            rintro en w5 ⟨rfl, S5, h1, h2⟩
            have Q5 := Lib.hid h1
            have R5 := Lib.hid (RR.out.step h2)
            have X5 := Lib.hid (XX.out.step h2)
            clear h1 h2 c0 c1 c2 c3 c4'
            go_wp2_with fail
            go_roundw
            case rel => exact ⟨k + 1, sx, S5, m, K, _, by omega, rfl, HK.out.1, by go_num, Q5, R5, Lib.hid (by have := HM.out; omega), HR, HKL, X5⟩
            case measure => simp [intOf]; omega
          | false =>
            go_wp2_with fail
            (with_reducible refine (Q.out.look _ sl sx I1.out (by have := HK.out.2.1.1; omega) HK.out.2.2.2.2 (by have := HM.out; have := HLen.out; omega)).mono ?_)
            rintro en w5 ⟨S5, A5, c5, rfl, h1, h2, -⟩
            have Q5 := Lib.hid h1
            have R5 := Lib.hid (RR.out.step h2)
            have X5 := Lib.hid (XX.out.step h2)
            clear h1 h2 c0 c1 c2 c3 c4'
            go_wp2_with fail
            go_roundw
            case rel => exact ⟨k + 1, sx, S5, m + sl.length, _, _, by omega, rfl, HK.out.1, by go_num, Q5, R5, Lib.hid (by have := HM.out; have := HK.out.2.1.1; omega), Lib.hid (rises_setOf _), Lib.hid (Nat.le_trans (setOf_len sl) HK.out.2.1.1), X5⟩
            case measure => simp [intOf]; omega
        · obtain rfl : k = ts.length := by omega
          have hd1 : decide ((ts.length : Int) < (ts.length : Int)) = false := by simp
          have HMM : Hid (m ≤ 3000) := Lib.hid (by have := HM.out; have := HLen.out; omega)
          clear RR HM
          have HNX := HNow.out
          have hwx : wrap64 (now + (t : Int)) = now + (t : Int) := by unfold wrap64; omega
          go_upto_region 16 with fail
          generalize now + (t : Int) = x at *
          have HKL : Hid (K.length ≤ 40000) := Lib.hid (by have := HKL.out; omega)
          go_wp2_with fail
          (with_reducible refine (Q.out.watched (by have := HMM.out; omega) HR.out).mono ?_)
          rintro en w5 ⟨A5, c5, rfl, h1, hb⟩
          have IK := Lib.hid h1
          have Q := Lib.hid (Q.out.keep hb)
          have XX := Lib.hid (XX.out.keep hb)
          clear h1 hb hwx
          go_wp2_with fail
          (with_reducible refine (wcopy_any Q.out.wat (by have := HMM.out; omega)).mono ?_)
          rintro en w6 ⟨p6, S6, rfl, h1, h2, h3⟩
          have C6 := Lib.hid h1
          have L6 := Lib.hid h2
          have B6 := Lib.hid h3
          clear h1 h2 h3
          go_wp2_with fail
          (with_reducible refine (copy_look (S := S') (x := x) C6.out L6.out B6.out Q.out.wat.lt (IK.out.ids.below B6.out) HR.out HKL.out (by have := HMM.out; omega)).mono ?_)
          rintro en w7 ⟨Aa, ca, rfl, h1, hb⟩
          have Ia := Lib.hid h1
          have Q := Lib.hid (Q.out.keep hb)
          have XX := Lib.hid (XX.out.keep hb)
          have IK := Lib.hid (IK.out.keep hb)
          clear h1 hb C6 L6 B6
          go_wp2_with fail
          (with_reducible refine (wcopy_any Q.out.wat (by have := HMM.out; omega)).mono ?_)
          rintro en w6 ⟨p6, S6, rfl, h1, h2, h3⟩
          have C6 := Lib.hid h1
          have L6 := Lib.hid h2
          have B6 := Lib.hid h3
          clear h1 h2 h3
          go_wp2_with fail
          (with_reducible refine (copy_look (S := S') (x := x) C6.out L6.out B6.out Q.out.wat.lt (IK.out.ids.below B6.out) HR.out HKL.out (by have := HMM.out; omega)).mono ?_)
          rintro en w7 ⟨Ab, cb, rfl, h1, hb⟩
          have Ib := Lib.hid h1
          have Q := Lib.hid (Q.out.keep hb)
          have XX := Lib.hid (XX.out.keep hb)
          have IK := Lib.hid (IK.out.keep hb)
          have Ia := Lib.hid (Ia.out.keep hb)
          clear h1 hb C6 L6 B6
          have HOk := Lib.hid Q.out.wat.ok
          obtain ⟨x0, x1⟩ := box_cells XX.out.box
          go_wp2_with fail
          (with_reducible refine (Q.out.heard a i x HU.out).mono ?_)
          rintro en w8 ⟨rfl, S8, h1, h2⟩
          have Q := Lib.hid h1
          have XX := Lib.hid (XX.out.step h2)
          have IK := Lib.hid (IK.out.step h2)
          have Ia := Lib.hid (Ia.out.step h2)
          have Ib := Lib.hid (Ib.out.step h2)
          clear h1 h2 x0 x1
          go_wp2_with fail
          (with_reducible refine (Q.out.look _ K x IK.out.ids HKL.out Q.out.wat.in2 (by have := HMM.out; omega)).mono ?_)
          rw [late_same HR.out]
          rintro en w9 ⟨S9, Ac, cc, rfl, h1, h2, h3⟩
          have Q := Lib.hid h1
          have XX := Lib.hid (XX.out.step h2)
          have IK := Lib.hid (IK.out.step h2)
          have Ia := Lib.hid (Ia.out.step h2)
          have Ib := Lib.hid (Ib.out.step h2)
          have Ic := Lib.hid h3
          clear h1 h2 h3
          obtain ⟨x0, x1⟩ := box_cells XX.out.box
          have La : Hid ((lateL D x K).length ≤ 40000) := Lib.hid (Nat.le_trans (lateL_le D x K) HKL.out)
          have Lc : Hid ((lateL (heardD D (a, i) x) x K).length ≤ 40000) := Lib.hid (Nat.le_trans (lateL_le _ x K) HKL.out)
          have E1 := Lib.hid (apart_same (q := (a, i)) (x := x) HOk.out)
          have E2 := Lib.hid (apart_has (q := (a, i)) (x := x) HOk.out)
          have E3 := Lib.hid (fun hq => apart_not (K := K) (D := D) (q := (a, i)) (x := x) hq)
          generalize hz : hasB (a, i) K = z at *
          generalize lateL (heardD D (a, i) x) x K = lc at *
          generalize lateL D x K = la at *
          have HZ := Lib.hid hz
          clear hz
          go_wp2_with fail
          (with_reducible refine (refSame_any _ _ la la _ Ia.out.ids Ib.out.ids La.out La.out).mono ?_)
          rw [sameB_self]
          rintro en w10 ⟨rfl, hb⟩
          have Q := Lib.hid (Q.out.keep hb)
          have XX := Lib.hid (XX.out.keep hb)
          have IK := Lib.hid (IK.out.keep hb)
          have Ia := Lib.hid (Ia.out.keep hb)
          have Ic := Lib.hid (Ic.out.keep hb)
          clear hb x0 x1
          obtain ⟨x0, x1⟩ := box_cells XX.out.box
          go_wp2_with fail
          (with_reducible refine (refHas_any _ K a i _ IK.out.ids (by have := HKL.out; omega)).mono ?_)
          rw [HZ.out]
          rintro en w11 ⟨rfl, hb⟩
          have Q := Lib.hid (Q.out.keep hb)
          have XX := Lib.hid (XX.out.keep hb)
          have IK := Lib.hid (IK.out.keep hb)
          have Ia := Lib.hid (Ia.out.keep hb)
          have Ic := Lib.hid (Ic.out.keep hb)
          clear hb x0 x1
          obtain ⟨x0, x1⟩ := box_cells XX.out.box
          have hne : (z != z) = false := by cases z <;> rfl
          go_wp2_with fail
          (with_reducible refine (docDel_any _ la a i _ Ia.out.ids La.out).mono ?_)
          rintro en w12 ⟨ud, rfl, h1, hb⟩
          have Id := Lib.hid h1
          have Ld : Hid ((del la (a, i)).length ≤ 40000) := Lib.hid (Nat.le_trans (len_del la (a, i)) La.out)
          clear h1
          have Q := Lib.hid (Q.out.keep hb)
          have XX := Lib.hid (XX.out.keep hb)
          have IK := Lib.hid (IK.out.keep hb)
          have Ia := Lib.hid (Ia.out.keep hb)
          have Ic := Lib.hid (Ic.out.keep hb)
          clear hb x0 x1
          obtain ⟨x0, x1⟩ := box_cells XX.out.box
          go_wp2_with fail
          (with_reducible refine (refSame_any _ _ (del la (a, i)) lc _ Id.out Ic.out.ids Ld.out Lc.out).mono ?_)
          rw [E1.out, sameB_self]
          rintro en w13 ⟨rfl, hb⟩
          clear Id
          have Q := Lib.hid (Q.out.keep hb)
          have XX := Lib.hid (XX.out.keep hb)
          have IK := Lib.hid (IK.out.keep hb)
          have Ia := Lib.hid (Ia.out.keep hb)
          have Ic := Lib.hid (Ic.out.keep hb)
          clear hb x0 x1
          obtain ⟨x0, x1⟩ := box_cells XX.out.box
          cases z
          case false =>
            go_wp2_with fail
            (with_reducible refine (refSame_any _ _ la lc _ Ia.out.ids Ic.out.ids La.out Lc.out).mono ?_)
            rw [show sameB (setOf la) (setOf lc) = true from by rw [E3.out (by trivial)]; exact sameB_self _]
            rintro en w14 ⟨rfl, hb⟩
            have Q := Lib.hid (Q.out.keep hb)
            have XX := Lib.hid (XX.out.keep hb)
            have Ic := Lib.hid (Ic.out.keep hb)
            clear hb x0 x1
            obtain ⟨x0, x1⟩ := box_cells XX.out.box
            go_wp2_with fail
            (with_reducible refine (refHas_any _ lc a i _ Ic.out.ids (by have := Lc.out; omega)).mono ?_)
            rw [E2.out]
            rintro en w15 ⟨rfl, hb⟩
            have Q := Lib.hid (Q.out.keep hb)
            clear hb
            go_wp2_with fail
            go_ret
            exact ⟨rfl, Q.out.below⟩
          case true =>
            go_wp2_with fail
            (with_reducible refine (refHas_any _ lc a i _ Ic.out.ids (by have := Lc.out; omega)).mono ?_)
            rw [E2.out]
            rintro en w15 ⟨rfl, hb⟩
            have Q := Lib.hid (Q.out.keep hb)
            clear hb
            go_wp2_with fail
            go_ret
            exact ⟨rfl, Q.out.below⟩
end Go.Proofs.Ytkoeplgkiogjlaa
