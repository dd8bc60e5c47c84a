/-
  What is late, in plain words; a walk over a statement: who was left out by one look is as new. No statement is proved in this text; it holds for every input that its premises let by.
-/
import Derived.Test.YtkoeplgkiogjlaaWchL
import Derived.Test.YtkoeplgkiogjlaaXAccM
set_option maxRecDepth 20000
namespace Go.Proofs.Ytkoeplgkiogjlaa
open Go Go.RowKit Sets Go.Maps Go.ChangeMaps Go.MapKept
variable {S S2 S' : Nat → Prop} {W W' w0 : World}
/-- A list of steps that does not lie in the blocks of S. -/
structure RL (S : Nat → Prop) (W : World) (v : Value) (ts : List Sp) : Prop where
  rcs : Rcs encT 5 W v ts
  no : NoS S v ts.length
theorem RL.step {v : Value} {ts : List Sp} (h : RL S W v ts) (u : Upd S W W' S') : RL S' W' v ts := ⟨(h.rcs.step h.no u).1, (h.rcs.step h.no u).2⟩
theorem RL.keep {v : Value} {ts : List Sp} (h : RL S W v ts) (hb : Below W.heap.size W W') : RL S W' v ts := ⟨h.rcs.below hb, h.no⟩
theorem RL.fresh {v : Value} {ts : List Sp} (h : OwnsR encT 5 38 W' W.heap.size v ts) (hS : ∀ k, S k → k < W.heap.size) : RL S W' v ts :=
  ⟨rcs_owns encT_len h, fun _ g hg hk => by have := hS g hk; have := (World.ownsRow.lt h g hg).1; omega⟩
/-- An ID's box that does not lie in the blocks of S. -/
structure BL (S : Nat → Prop) (W : World) (g : Nat) (a i : Int) : Prop where
  box : Box W g a i
  no : ¬ S g
theorem BL.step {g : Nat} {a i : Int} (h : BL S W g a i) (u : Upd S W W' S') : BL S' W' g a i :=
  ⟨h.box.fr u.fr h.no, fun k => by rcases u.sub g k with e | e; exact h.no e; have := box_lt h.box; omega⟩
theorem BL.keep {g : Nat} {a i : Int} (h : BL S W g a i) (hb : Below W.heap.size W W') : BL S W' g a i := ⟨box_below h.box hb, h.no⟩
theorem RL.shape {v : Value} {ts : List Sp} (h : RL S W v ts) : ∃ A c, v = .slice A ts.length c := by
  obtain ⟨A, c, rfl, _⟩ := h.rcs
  exact ⟨A, c, rfl⟩
theorem start_late {e : Dt} (he : e.Ok) (hb : e.bg = false) (x : Int) : (e.start x).late x = false := by
  have h0 := (he.no hb).1
  have hs : e.start x = ⟨e.mn, e.mx, e.wi, true, e.time x, e.ga⟩ := by unfold Dt.start; rw [hb]; rfl
  have hk := Dt.start_ok he x
  have hl := (Dt.limit_range hk).1
  have hm := hk.mn
  unfold Dt.late
  have e1 : (e.start x).time x = (e.start x).la := by
    rw [hs]
    unfold Dt.time clampI
    simp only
    have := he.l0
    have := he.l1
    omega
  rw [e1]
  have : ¬ (e.start x).limit < (e.start x).la - (e.start x).la := by omega
  rw [decide_eq_false this, Bool.and_false]
theorem heard_late {d : Dt} (hd : d.Ok) (x : Int) : (d.heard x).late x = false := by
  have hk := Dt.heard_ok hd x
  have hl := (Dt.limit_range hk).1
  have hm := hk.mn
  unfold Dt.late
  have e1 : (d.heard x).time x = (d.heard x).la := by
    show clampI x (d.time x) _ = d.time x
    unfold Dt.time clampI
    have := hd.l0
    have := hd.l1
    omega
  rw [e1]
  have : ¬ (d.heard x).limit < (d.heard x).la - (d.heard x).la := by omega
  rw [decide_eq_false this, Bool.and_false]
/-- Somebody who was looked at first, and not heard, is late when more than max passed. -/
theorem new_late {mn mx wi : Int} (x t : Int) (hx : 0 ≤ x) (ht : 0 ≤ t) (hs : x + t ≤ 1099511627776) : ((Dt.new mn mx wi).start x).late (x + t) = decide (mx < t) := by
  have h1 : (Dt.new mn mx wi).start x = ⟨mn, mx, wi, true, x, []⟩ := by
    show Dt.mk mn mx wi true (clampI x 0 _) [] = _
    congr 1
    unfold clampI
    omega
  rw [h1]
  unfold Dt.late Dt.time
  simp only [Bool.true_and]
  have h2 : (Dt.mk mn mx wi true x []).limit = mx := by unfold Dt.limit; rfl
  rw [h2]
  have h3 : clampI (x + t) x 1099511627776 - x = t := by unfold clampI; omega
  rw [h3]
theorem one_late (D : Id2 → Dt) (x : Int) (q : Id2) : lateL D x [q] = if (D q).late x = true then [q] else [] := by
  unfold lateL
  rcases h : (D q).late x <;> simp [h]
theorem setOf_one (q : Id2) : setOf [q] = [q] := setOf_self (List.pairwise_singleton _ _)
set_option maxHeartbeats 4000000 in
theorem lawNew_any (mn mx wi : Int) (v : Value) (ss : List Sp) (a i after : Int) (w : World) (_r0 : -9223372036854775808 ≤ mn ∧ mn ≤ 9223372036854775807) (_r1 : -9223372036854775808 ≤ mx ∧ mx ≤ 9223372036854775807) (_r2 : -9223372036854775808 ≤ wi ∧ wi ≤ 9223372036854775807) (I3 : Rcs encT 5 w v ss) (R3 : ∀ s ∈ ss, SpOk w s) (U4 : In2 (a, i)) (_r5 : -9223372036854775808 ≤ after ∧ after ≤ 9223372036854775807) :
    Calls Try.prog 7 #[.int .i64 mn, .int .i64 mx, .int .i64 wi, v, .agg #[.int .i64 a, .int .i64 i], .int .i64 after] w fun en w' => en = .returned (.bool true) ∧ Below w.heap.size w w' := by
  have HI := Lib.hid I3
  have HS := Lib.hid R3
  have HU := Lib.hid U4
  obtain ⟨A, c, rfl, hz⟩ := I3
  have BX := Lib.hid (below_one w (.cells #[.int .i64 a, .int .i64 i] 35))
  have XX := Lib.hid (box_new w a i)
  obtain ⟨t, ht, et0⟩ := num_cutW after 10000 (by decide) (by decide)
  have et : wrap64 ((IntKind.u64.wrap after).tmod 10000) = (t : Int) := et0
  clear hz _r0 _r1 _r2 _r5 R3 U4 et0
  cases hlg : longS ss
  case true =>
    have HG := Lib.hid hlg
    clear hlg
    go_enter Try.func7, Try.ntmps7
    go_wp2_with fail
    (with_reducible refine (long_any _ ss _ (HI.out.below BX.out) (fun s hs => (HS.out s hs).below BX.out)).mono ?_)
    rintro en w1 ⟨rfl, hb⟩
    have B := Lib.hid (below_after BX.out hb (Nat.le_refl _))
    have XX := Lib.hid (box_below XX.out hb)
    clear hb
    rw [HG.out]
    go_wp2_with fail
    (with_reducible refine (awake_any _).mono ?_)
    rintro en w2 ⟨rfl, hb⟩
    have B := Lib.hid (below_after B.out hb (Nat.le_refl _))
    have XX := Lib.hid (box_below XX.out hb)
    clear hb
    go_wp2_with fail
    go_ret
    exact ⟨rfl, B.out⟩
  case false =>
    have HG := Lib.hid hlg
    clear hlg
    go_enter Try.func7, Try.ntmps7
    go_wp2_with fail
    (with_reducible refine (long_any _ ss _ (HI.out.below BX.out) (fun s hs => (HS.out s hs).below BX.out)).mono ?_)
    rintro en w1 ⟨rfl, hb⟩
    have B := Lib.hid (below_after BX.out hb (Nat.le_refl _))
    have XX := Lib.hid (box_below XX.out hb)
    clear hb
    rw [HG.out]
    have HL := Lib.hid (longS_no HG.out)
    go_wp2_with fail
    (with_reducible refine (awake_any _).mono ?_)
    rintro en w2 ⟨rfl, hb⟩
    have B := Lib.hid (below_after B.out hb (Nat.le_refl _))
    have XX := Lib.hid (box_below XX.out hb)
    clear hb
    go_wp2_with fail
    cases hok : newOk mn mx wi
    case false =>
      (with_reducible refine (wnew_no mn mx wi hok _).mono ?_)
      rintro en w3 ⟨rfl, hb⟩
      have B := Lib.hid (below_after B.out hb (Nat.le_refl _))
      have XX := Lib.hid (box_below XX.out hb)
      clear hb
      go_wp2_with fail
      go_ret
      exact ⟨rfl, B.out⟩
    case true =>
      have HOK := Lib.hid hok
      clear hok
      (with_reducible refine (Sit.new w _ B.out mn mx wi HOK.out).mono ?_)
      rintro en w3 ⟨p, S, rfl, h1, hlo, h3⟩
      have Q := Lib.hid h1
      have XX : Hid (BL S w3 w.heap.size a i) := Lib.hid ⟨box_below XX.out h3, fun h => by have := hlo _ h; have := box_lt XX.out; omega⟩
      clear h1 B hlo h3
      go_wp2_with fail
      (with_reducible refine (rising_any _ ss _ (HI.out.below Q.out.below) HL.out.1).mono ?_)
      rintro en w4 ⟨v', rfl, h1, hb⟩
      have RR := Lib.hid (RL.fresh h1 Q.out.wat.lt)
      have Q := Lib.hid (Q.out.keep hb)
      have XX := Lib.hid (XX.out.keep hb)
      clear h1 hb
      obtain ⟨A4, c4, rfl⟩ := RR.out.shape
      go_wp2_with fail
      have HT : Hid (∀ s ∈ risen 0 ss, (0 ≤ s.x ∧ s.x ≤ 4900) ∧ (s.l.length ≤ 30 ∧ Rises s.l) ∧ (∀ W, Below w.heap.size w W → Ids W s.v s.l) ∧ In2 s.q ∧ ∀ q ∈ s.l, In2 q) := Lib.hid fun s hs => by
        obtain ⟨h1, r, hr, e⟩ := risen_mem hs
        have h2 := nowOf_range ss 0
        have h3 := HL.out.1
        have h4 := HL.out.2 r hr
        have h5 := HS.out r hr
        rw [e]
        refine ⟨⟨h1.1, ?_⟩, h4, fun W hb => h5.ids.below hb, h5.q2, h5.l2⟩
        show s.x ≤ 4900
        omega
      have HLen : Hid ((risen 0 ss).length ≤ 100) := Lib.hid (by rw [risen_len]; exact HL.out.1)
      have HUp : Hid ((risen 0 ss).Pairwise fun a b => a.x ≤ b.x) := Lib.hid risen_up
      generalize risen 0 ss = ts at *
      go_loopw [15, 16] (fun s15 s16 wr => ∃ (k : Nat) (now : Int) (S' : Nat → Prop) (m : Nat) (K : List Id2) (D : Id2 → Dt), k ≤ ts.length ∧ s15 = .int .i64 now ∧ (0 ≤ now ∧ now ≤ 4900) ∧ s16 = .int .i64 k ∧ Hid (Sit w wr S' p m (Dt.new mn mx wi) K D) ∧ Hid (RL S' wr (.slice A4 ts.length c4) ts) ∧ Hid (m ≤ 30 * k) ∧ Hid (Rises K) ∧ Hid (K.length ≤ 30) ∧ Hid (BL S' wr w.heap.size a i)) (fun _ s16 _ => ts.length - (intOf s16).toNat)
      case atStart => exact ⟨0, 0, S, 0, [], _, by omega, rfl, by decide, rfl, Q, RR, Lib.hid (by omega), Lib.hid rises_nil, Lib.hid (by simp), XX⟩
      case round =>
        clear Q RR XX
        obtain ⟨k, now, S', m, K, D, hkl, rfl, hnow, rfl, Q, RR, HM, HR, HKL, XX⟩ := hrel
        have hLen := HLen.out
        have HNow := Lib.hid hnow
        clear hnow
        have i3 : (0 : Int) ≤ (k : Int) := by omega
        by_cases hlt : k < ts.length
        · have hd1 : decide ((k : Int) < (ts.length : Int)) = true := by simp; omega
          have i4 : (k : Int) < (ts.length : Int) := by omega
          obtain ⟨ad, rfl⟩ := RR.out.rcs.addr (Nat.lt_of_le_of_lt (Nat.zero_le _) hlt)
          have c0 := RR.out.rcs.first (Below.refl _ _) hlt (u := .bool ts[k].h) rfl
          have c1 := RR.out.rcs.cell (Below.refl _ _) hlt 1 (by decide) (u := .int .i64 ts[k].q.1) rfl
          have c2 := RR.out.rcs.cell (Below.refl _ _) hlt 2 (by decide) (u := .int .i64 ts[k].q.2) rfl
          have c3 := RR.out.rcs.cell (Below.refl _ _) hlt 3 (by decide) (u := .slice ts[k].A ts[k].l.length ts[k].c) rfl
          have c4' := RR.out.rcs.cell (Below.refl _ _) hlt 4 (by decide) (u := .int .i64 ts[k].x) rfl
          have HK := Lib.hid (HT.out _ (List.getElem_mem hlt))
          generalize ts[k] = s at *
          obtain ⟨sh, ⟨sa, si⟩, sA, sc, sl, sx⟩ := s
          dsimp only at c0 c1 c2 c3 c4'
          have I1 : Hid (Ids wr (.slice sA sl.length sc) sl) := Lib.hid (HK.out.2.2.1 _ Q.out.below)
          cases sh with
          | true =>
            go_wp2_with fail
            (with_reducible refine (Q.out.heard sa si sx HK.out.2.2.2.1).mono ?_)
            rintro en w5 ⟨rfl, S5, h1, h2⟩
            have Q5 := Lib.hid h1
            have R5 := Lib.hid (RR.out.step h2)
            have X5 := Lib.hid (XX.out.step h2)
            clear h1 h2 c0 c1 c2 c3 c4'
            go_wp2_with fail
            go_roundw
            case rel => exact ⟨k + 1, sx, S5, m, K, _, by omega, rfl, HK.out.1, by go_num, Q5, R5, Lib.hid (by have := HM.out; omega), HR, HKL, X5⟩
            case measure => simp [intOf]; omega
          | false =>
            go_wp2_with fail
            (with_reducible refine (Q.out.look _ sl sx I1.out (by have := HK.out.2.1.1; omega) HK.out.2.2.2.2 (by have := HM.out; have := HLen.out; omega)).mono ?_)
            rintro en w5 ⟨S5, A5, c5, rfl, h1, h2, -⟩
            have Q5 := Lib.hid h1
            have R5 := Lib.hid (RR.out.step h2)
            have X5 := Lib.hid (XX.out.step h2)
            clear h1 h2 c0 c1 c2 c3 c4'
            go_wp2_with fail
            go_roundw
            case rel => exact ⟨k + 1, sx, S5, m + sl.length, _, _, by omega, rfl, HK.out.1, by go_num, Q5, R5, Lib.hid (by have := HM.out; have := HK.out.2.1.1; omega), Lib.hid (rises_setOf _), Lib.hid (Nat.le_trans (setOf_len sl) HK.out.2.1.1), X5⟩
            case measure => simp [intOf]; omega
        · obtain rfl : k = ts.length := by omega
          have hd1 : decide ((ts.length : Int) < (ts.length : Int)) = false := by simp
          have HMM : Hid (m ≤ 3000) := Lib.hid (by have := HM.out; have := HLen.out; omega)
          clear RR HM
          have HNX := HNow.out
          go_wp2_with fail
          (with_reducible refine (Q.out.look _ [] now (Ids.nil _) (by decide) (fun q hq => absurd hq (by simp)) (by have := HMM.out; omega)).mono ?_)
          rintro en w5 ⟨S5, A5, c5, rfl, h1, h2, -⟩
          have Q := Lib.hid h1
          have XX := Lib.hid (XX.out.step h2)
          clear h1 h2
          obtain ⟨x0, x1⟩ := box_cells XX.out.box
          go_upto_region 17 with fail
          have IO : Hid (IL S5 (w5.alloc (.cells #[.int .i64 a, .int .i64 i] 35)) (.slice (some ⟨w5.heap.size, 0, none⟩) 1 1) [(a, i)]) := Lib.hid (.fresh (ids_one w5 a i) Q.out.wat.lt (fun g hg => by injection hg with hg; exact Nat.le_of_eq hg))
          have Q := Lib.hid (Q.out.keep (below_one w5 (.cells #[.int .i64 a, .int .i64 i] 35)))
          clear x0 x1 XX
          generalize w5.alloc (.cells #[.int .i64 a, .int .i64 i] 35) = w6 at *
          generalize w5.heap.size = go at *
          go_wp2_with fail
          (with_reducible refine (Q.out.watched (by have := HMM.out; simp; omega) (rises_setOf _)).mono ?_)
          rintro en w7 ⟨A7, c7, rfl, -, hb⟩
          have Q := Lib.hid (Q.out.keep hb)
          have IO := Lib.hid (IO.out.keep hb)
          clear hb
          go_wp2_with fail
          have hL1 : (lateL (withD (Dt.new mn mx wi) [] (withD (Dt.new mn mx wi) K D now) now) now (setOf [(a, i)])) = [] := by
            rw [setOf_one, one_late, withD_out (by simp), start_late (Dt.new_ok HOK.out) rfl]
            rfl
          have HL1 := Lib.hid hL1
          clear hL1
          (with_reducible refine (Q.out.look _ [(a, i)] now IO.out.ids (by simp) (fun q hq => by rw [List.mem_singleton.1 hq]; exact HU.out) (by have := HMM.out; simp; omega)).mono ?_)
          rintro en w8 ⟨S8, A8, c8, rfl, h1, h2, -⟩
          have hsl : (lateL (withD (Dt.new mn mx wi) (setOf []) (withD (Dt.new mn mx wi) K D now) now) now (setOf [(a, i)])) = [] := HL1.out
          rw [hsl]
          clear hsl
          have Q := Lib.hid h1
          have IO := Lib.hid (IO.out.step h2)
          clear h1 h2
          have hwx : wrap64 (now + (t : Int)) = now + (t : Int) := by unfold wrap64; omega
          go_wp2_with fail
          have hL2 : (lateL (withD (Dt.new mn mx wi) (setOf [(a, i)]) (withD (Dt.new mn mx wi) (setOf []) (withD (Dt.new mn mx wi) K D now) now) (now + (t : Int))) (now + (t : Int)) (setOf [(a, i)])) = if mx < (t : Int) then [(a, i)] else [] := by
            have h0 : ¬ (a, i) ∈ setOf [] := by rw [mem_setOf]; simp
            rw [setOf_one, one_late, withD_in (by simp), withD_out h0, new_late now (t : Int) HNX.1 (Int.natCast_nonneg _) (by omega)]
            by_cases h : mx < (t : Int) <;> simp [h]
          have HL2 := Lib.hid hL2
          clear hL2
          (with_reducible refine (Q.out.look _ [(a, i)] (now + (t : Int)) IO.out.ids (by simp) (fun q hq => by rw [List.mem_singleton.1 hq]; exact HU.out) (by have := HMM.out; simp; omega)).mono ?_)
          rintro en w9 ⟨S9, A9, c9, rfl, h1, h2, -⟩
          rw [HL2.out]
          have Q := Lib.hid h1
          clear h1 h2 HL1 HL2
          by_cases hm : mx < (t : Int)
          · rw [if_pos hm]
            go_wp2_with fail
            go_ret
            exact ⟨rfl, Q.out.below⟩
          · rw [if_neg hm]
            have hm2 : (t : Int) ≤ mx := by omega
            go_wp2_with fail
            go_ret
            exact ⟨ret_bool (by simp [hm]), Q.out.below⟩
end Go.Proofs.Ytkoeplgkiogjlaa
