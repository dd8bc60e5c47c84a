/-
  A walk over a statement: what was heard ahead of the gaps that are remembered. No statement is proved in this text; it holds for every input that its premises let by.
-/
import Derived.Test.YtbglghfdfigefaaAccJ
set_option maxRecDepth 20000
namespace Go.Proofs.Ytbglghfdfigefaa
open Go Go.RowKit
theorem step_la {d : Dt} {s : St} {n : Int} (h : d.la ≤ n) (hs : s.2 ≤ 1000000) : (stepD d s).la ≤ max n (min s.2 1000000) := by
  unfold stepD Dt.start Dt.heard
  split
  · split
    · omega
    · show clampI s.2 d.la 1099511627776 ≤ _
      unfold clampI
      omega
  · show clampI s.2 d.la 1099511627776 ≤ _
    unfold clampI
    omega
/-- What stands of both while gaps are told. -/
structure Wi2 (w W : World) (p q : Nat) (mn mx wi : Int) (j : Nat) (n : Int) (d c : Dt) : Prop where
  two : Two w W p d q c
  win : ∃ X Y all, Win mn mx wi n (X ++ all) d ∧ Win mn mx wi n (Y ++ all) c ∧ all.length = j
  n0 : 0 ≤ n
  n1 : n ≤ 1000000 + 5000 * (j : Int)
theorem Wi2.next {w W : World} {p q : Nat} {mn mx wi : Int} {j : Nat} {n : Int} {d c : Dt} (h : Wi2 w W p q mn mx wi j n d c) (hw : 1 ≤ wi) (hj : j ≤ 300) (y : Nat) (hy : y < 5000) {W' : World} (ht : Two w W' p (d.heard (n + y)) q (c.heard (n + y))) : Wi2 w W' p q mn mx wi (j + 1) (n + y) (d.heard (n + y)) (c.heard (n + y)) := by
  obtain ⟨X, Y, all, h1, h2, h3⟩ := h.win
  have h4 := h.n0
  have h5 := h.n1
  refine ⟨ht, ⟨X, Y, all ++ [(y : Int)], ?_, ?_, by simp [h3]⟩, by omega, by omega⟩
  · rw [← List.append_assoc]
    exact h1.next hw (by omega) (by omega)
  · rw [← List.append_assoc]
    exact h2.next hw (by omega) (by omega)
set_option maxHeartbeats 4000000 in
theorem window_any (mn mx wi : Int) (v : Value) (l : List St) (u : Value) (b : List Int) (w : World) (_r0 : -9223372036854775808 ≤ mn ∧ mn ≤ 9223372036854775807) (_r1 : -9223372036854775808 ≤ mx ∧ mx ≤ 9223372036854775807) (_r2 : -9223372036854775808 ≤ wi ∧ wi ≤ 9223372036854775807) (I3 : Rcs encS 2 w v l) (_R3 : ∀ s ∈ l, -9223372036854775808 ≤ s.2 ∧ s.2 ≤ 9223372036854775807) (I4 : Rcs encN 1 w u b) (_R4 : ∀ s ∈ b, -9223372036854775808 ≤ s ∧ s ≤ 9223372036854775807) :
    Calls Try.prog 8 #[.int .i64 mn, .int .i64 mx, .int .i64 wi, v, u] w fun e w' => e = .returned (.bool true) ∧ Below w.heap.size w w' := by
  have HI := Lib.hid I3
  have HJ := Lib.hid I4
  obtain ⟨A, c, rfl, hz⟩ := I3
  obtain ⟨A2, c2, rfl, hz2⟩ := I4
  clear hz hz2 _r0 _r1 _r2 _R3 _R4
  by_cases hl : 300 < l.length
  · have hl2 : (300 : Int) < (l.length : Int) := by omega
    go_enter Try.func8, Try.ntmps8
    go_wp2_with fail
    (with_reducible refine (works_any _).mono ?_)
    rintro e w1 ⟨rfl, hb⟩
    have B := Lib.hid hb
    clear hb
    go_wp2_with fail
    (with_reducible refine (works_any _).mono ?_)
    rintro e w2 ⟨rfl, hb⟩
    have B2 := Lib.hid (below_after B.out hb (Nat.le_refl _))
    clear hb
    go_wp2_with fail
    go_ret
    exact ⟨rfl, B2.out⟩
  · have hl2 : (l.length : Int) ≤ 300 := by omega
    by_cases hm : 300 < b.length
    · have hm2 : (300 : Int) < (b.length : Int) := by omega
      go_enter Try.func8, Try.ntmps8
      go_wp2_with fail
      (with_reducible refine (works_any _).mono ?_)
      rintro e w1 ⟨rfl, hb⟩
      have B := Lib.hid hb
      clear hb
      go_wp2_with fail
      (with_reducible refine (works_any _).mono ?_)
      rintro e w2 ⟨rfl, hb⟩
      have B2 := Lib.hid (below_after B.out hb (Nat.le_refl _))
      clear hb
      go_wp2_with fail
      go_ret
      exact ⟨rfl, B2.out⟩
    · have hm2 : (b.length : Int) ≤ 300 := by omega
      by_cases hw : (b.length : Int) < wi
      · skip
        go_enter Try.func8, Try.ntmps8
        go_wp2_with fail
        (with_reducible refine (works_any _).mono ?_)
        rintro e w1 ⟨rfl, hb⟩
        have B := Lib.hid hb
        clear hb
        go_wp2_with fail
        (with_reducible refine (works_any _).mono ?_)
        rintro e w2 ⟨rfl, hb⟩
        have B2 := Lib.hid (below_after B.out hb (Nat.le_refl _))
        clear hb
        go_wp2_with fail
        go_ret
        exact ⟨rfl, B2.out⟩
      · have hw2 : wi ≤ (b.length : Int) := by omega
        have HL := Lib.hid hl
        have HM := Lib.hid hm
        have HW := Lib.hid hw2
        clear hl hm hw
        cases hok : newOk mn mx wi
        · have HOK := Lib.hid hok
          clear hok
          go_enter Try.func8, Try.ntmps8
          go_wp2_with fail
          (with_reducible refine (works_any _).mono ?_)
          rintro e w1 ⟨rfl, hb⟩
          have B := Lib.hid hb
          clear hb
          go_wp2_with fail
          (with_reducible refine (run_no mn mx wi HOK.out _ l _ (HI.out.below B.out)).mono ?_)
          rintro e w2 ⟨rfl, hb⟩
          have B2 := Lib.hid (below_after B.out hb (Nat.le_refl _))
          clear hb
          go_wp2_with fail
          (with_reducible refine (run_no mn mx wi HOK.out _ [] _ (Rcs.nil _)).mono ?_)
          rintro e w3 ⟨rfl, hb⟩
          have B3 := Lib.hid (below_after B2.out hb (Nat.le_refl _))
          clear hb
          go_wp2_with fail
          go_ret
          exact ⟨rfl, B3.out⟩
        · have HOK := Lib.hid hok
          clear hok
          have h1 : ∀ (a b : Int) (W : World), (Builtin.min_ #[3, 3] 3 #[.int .i64 a, .int .i64 b]).run Try.prog W = .ok (.int .i64 (min a b)) W := min_two
          have h2 : ∀ (a b : Int) (W : World), (Builtin.max_ #[3, 3] 3 #[.int .i64 a, .int .i64 b]).run Try.prog W = .ok (.int .i64 (max a b)) W := max_two
          go_enter Try.func8, Try.ntmps8
          go_wp2_with fail
          (with_reducible refine (works_any _).mono ?_)
          rintro e w1 ⟨rfl, hb⟩
          have B := Lib.hid hb
          clear hb
          go_wp2_with fail
          (with_reducible refine (run_yes mn mx wi HOK.out _ l w _ B.out (HI.out.below B.out) (by have := HL.out; omega)).mono ?_)
          rintro e w2 ⟨p, rfl, ho, -, -⟩
          have O1 := Lib.hid ho
          clear ho
          go_wp2_with fail
          (with_reducible refine (run_yes mn mx wi HOK.out _ [] w _ O1.out.below (Rcs.nil _) (by simp)).mono ?_)
          rintro e w3 ⟨q, rfl, ho, hq, hb⟩
          have O : Hid (Two w w3 p (runD (Dt.new mn mx wi) l) q (Dt.new mn mx wi)) := Lib.hid ⟨O1.out.keep hb, ho, fun e => by obtain ⟨v1, k1⟩ := O1.out.det; have := k1.lt; omega⟩
          clear ho hq hb O1
          have K := Lib.hid (runD_keeps l (Dt.new mn mx wi))
          go_wp2_with fail
          go_loopw [15, 16] (fun s15 s16 wr => ∃ (k : Nat) (n : Int), k ≤ l.length ∧ s15 = .int .i64 n ∧ s16 = .int .i64 k ∧ Hid (0 ≤ n ∧ n ≤ 1000000 ∧ (runD (Dt.new mn mx wi) (l.take k)).la ≤ n) ∧ Hid (Two w wr p (runD (Dt.new mn mx wi) l) q (Dt.new mn mx wi))) (fun _ s16 _ => l.length - (intOf s16).toNat)
          case atStart => exact ⟨0, 0, by omega, rfl, rfl, Lib.hid ⟨Int.le_refl _, by omega, Int.le_refl _⟩, O⟩
          case round =>
            obtain ⟨k, n, hk, rfl, rfl, HN, HO⟩ := hrel
            have i3 : (0 : Int) ≤ (k : Int) := by omega
            by_cases hlt : k < l.length
            · have hd : decide ((k : Int) < (l.length : Int)) = true := by simp; omega
              have i4 : (k : Int) < (l.length : Int) := by omega
              obtain ⟨ad, rfl⟩ := HI.out.addr (Nat.lt_of_le_of_lt (Nat.zero_le _) hlt)
              have d1 := HI.out.cell HO.out.one.below hlt 1 (by decide) (u := .int .i64 l[k].2) rfl
              have ES := Lib.hid (runD_take (d := Dt.new mn mx wi) hlt)
              generalize hLk : l[k] = s at *
              generalize hLd : runD (Dt.new mn mx wi) (l.take k) = dk at *
              clear hLk hLd
              by_cases hbig : 1000000 < s.2
              · go_wp2_with fail
                go_ret
                exact ⟨rfl, HO.out.one.below⟩
              · have hsm : s.2 ≤ 1000000 := by omega
                have HSM := Lib.hid hsm
                clear hbig
                go_wp2_with fail
                go_roundw
                case rel => exact ⟨k + 1, _, by omega, rfl, by go_num, Lib.hid ⟨by have := HN.out; omega, by have := HN.out; omega, by rw [ES.out]; exact step_la HN.out.2.2 HSM.out⟩, HO⟩
                case measure => simp [intOf]; omega
            · obtain rfl : k = l.length := by omega
              have hd : decide ((l.length : Int) < (l.length : Int)) = false := by simp
              rw [List.take_length] at HN
              generalize hrd : runD (Dt.new mn mx wi) l = d0 at *
              clear h1 h2
              go_wp2_with fail
              have O := HO
              have WD := Lib.hid (Win.begin O.out.one.ok HN.out.2.2 (by have := HN.out; omega))
              have WC := Lib.hid (Win.begin O.out.two.ok (show (Dt.new mn mx wi).la ≤ n from HN.out.1) (by have := HN.out; omega))
              clear HO
              (with_reducible refine (O.out.one.heard n).mono ?_)
              rintro e w11 hd
              obtain ⟨rfl, h1⟩ := O.out.done (Dt.heard_ok O.out.one.ok _) hd
              have O := Lib.hid h1
              clear hd h1
              go_wp2_with fail
              have O2 := Lib.hid O.out.swap
              clear O
              (with_reducible refine (O2.out.one.heard n).mono ?_)
              rintro e w12 hd
              obtain ⟨rfl, h1⟩ := O2.out.done (Dt.heard_ok O2.out.one.ok _) hd
              have O2 := Lib.hid h1
              clear hd h1
              go_wp2_with fail
              have ST : Hid (∃ d c, Wi2 w w12 p q mn mx wi 0 n d c) := Lib.hid (by
                obtain ⟨X, hX⟩ := WD.out
                obtain ⟨Y, hY⟩ := WC.out
                refine ⟨_, _, O2.out.swap, ⟨X, Y, [], ?_, ?_, rfl⟩, HN.out.1, by have := HN.out.2.1; omega⟩
                · rw [show d0.mn = mn from K.out.1, show d0.mx = mx from K.out.2.1, show d0.wi = wi from K.out.2.2] at hX
                  rw [List.append_nil]
                  exact hX
                · rw [List.append_nil]
                  exact hY)
              clear WD WC O2 HN K
              go_loopw [15, 17] (fun s15 s17 wr => ∃ (j : Nat) (n : Int), j ≤ b.length ∧ s15 = .int .i64 n ∧ s17 = .int .i64 j ∧ Hid (∃ d c, Wi2 w wr p q mn mx wi j n d c)) (fun _ s17 _ => b.length - (intOf s17).toNat)
              case atStart => exact ⟨0, n, by omega, rfl, rfl, ST⟩
              case round =>
                obtain ⟨j, m, hj, rfl, rfl, HO⟩ := hrel
                clear ST
                obtain ⟨d, c, hh⟩ := HO.out
                have HQ := Lib.hid hh
                clear HO hh
                have i3 : (0 : Int) ≤ (j : Int) := by omega
                by_cases hlt : j < b.length
                · have hd : decide ((j : Int) < (b.length : Int)) = true := by simp; omega
                  have i4 : (j : Int) < (b.length : Int) := by omega
                  obtain ⟨ad, rfl⟩ := HJ.out.addr (Nat.lt_of_le_of_lt (Nat.zero_le _) hlt)
                  have d0 := HJ.out.first HQ.out.two.one.below hlt (u := .int .i64 b[j]) rfl
                  rw [Nat.mul_one] at d0
                  generalize b[j] = y at *
                  obtain ⟨t, ht, et0⟩ := num_cut y 5000 (by decide) (by decide)
                  have et : wrap64 ((IntKind.u64.wrap y).tmod 5000) = (t : Int) := et0
                  have hjs : j ≤ 300 := by have := HM.out; omega
                  have hwm : wrap64 (m + (t : Int)) = m + (t : Int) := by have h1 := HQ.out.n0; have h2 := HQ.out.n1; unfold wrap64; omega
                  have HT := Lib.hid ht
                  have HJS := Lib.hid hjs
                  clear et0 ht hjs
                  go_wp2_with fail
                  have O := Lib.hid HQ.out.two
                  (with_reducible refine (O.out.one.heard _).mono ?_)
                  rintro e w13 hd
                  obtain ⟨rfl, h1⟩ := O.out.done (Dt.heard_ok O.out.one.ok _) hd
                  have O := Lib.hid h1
                  clear hd h1
                  go_wp2_with fail
                  have O2 := Lib.hid O.out.swap
                  clear O
                  (with_reducible refine (O2.out.one.heard _).mono ?_)
                  rintro e w14 hd
                  obtain ⟨rfl, h1⟩ := O2.out.done (Dt.heard_ok O2.out.one.ok _) hd
                  have O2 := Lib.hid h1
                  clear hd h1
                  go_wp2_with fail
                  go_roundw
                  case rel => exact ⟨j + 1, m + (t : Int), by omega, rfl, by go_num, Lib.hid ⟨_, _, HQ.out.next (newOk_yes HOK.out).2.2.2.1 HJS.out t HT.out O2.out.swap⟩⟩
                  case measure => simp [intOf]; omega
                · obtain rfl : j = b.length := by omega
                  have hd : decide ((b.length : Int) < (b.length : Int)) = false := by simp
                  have hdc : d = c := by
                    obtain ⟨X, Y, all, k1, k2, k3⟩ := HQ.out.win
                    exact k1.same k2 (by rw [k3]; exact HW.out)
                  subst hdc
                  have hla : d.la = m ∧ d.bg = true ∧ d.mn = mn ∧ d.mx = mx := by
                    obtain ⟨X, Y, all, k1, k2, k3⟩ := HQ.out.win
                    exact ⟨k1.la, k1.bg, k1.em, k1.ex⟩
                  have hn0 := HQ.out.n0
                  have hn1 := HQ.out.n1
                  have hr := Dt.limit_range HQ.out.two.one.ok
                  have hhi := HQ.out.two.one.ok.hi
                  have hmn := HQ.out.two.one.ok.mn
                  have hbl := HM.out
                  have LV := Lib.hid (late_over HQ.out.two.one.ok hla.2.1 (by omega))
                  rw [hla.1] at LV
                  have hw1 : wrap64 (m + mn) = m + mn := by unfold wrap64; omega
                  have hw3 : wrap64 (m + d.limit) = m + d.limit := by unfold wrap64; omega
                  have hw4 : wrap64 (m + d.limit + 1) = m + d.limit + 1 := by unfold wrap64; omega
                  have O := Lib.hid HQ.out.two
                  clear HQ hla hn0 hn1 hr hhi hmn hbl
                  cases hq : d.late (m + mn)
                  · have LQ := Lib.hid hq
                    clear hq
                    go_wp2_with fail
                    (with_reducible refine (O.out.one.limit).mono ?_)
                    rintro e w15 ⟨rfl, hb⟩
                    have O := Lib.hid (O.out.keep hb)
                    clear hb
                    go_wp2_with fail
                    (with_reducible refine (O.out.two.limit).mono ?_)
                    rintro e w16 ⟨rfl, hb⟩
                    have O := Lib.hid (O.out.keep hb)
                    clear hb
                    go_wp2_with fail
                    (with_reducible refine (O.out.one.late _).mono ?_)
                    rintro e w17 ⟨rfl, hb⟩
                    have O := Lib.hid (O.out.keep hb)
                    clear hb
                    rw [LQ.out]
                    go_wp2_with fail
                    (with_reducible refine (O.out.two.late _).mono ?_)
                    rintro e w18 ⟨rfl, hb⟩
                    have O := Lib.hid (O.out.keep hb)
                    clear hb
                    rw [LQ.out]
                    go_wp2_with fail
                    (with_reducible refine (O.out.one.limit).mono ?_)
                    rintro e w19 ⟨rfl, hb⟩
                    have O := Lib.hid (O.out.keep hb)
                    clear hb
                    go_wp2_with fail
                    (with_reducible refine (O.out.one.late _).mono ?_)
                    rintro e w20 ⟨rfl, hb⟩
                    have O := Lib.hid (O.out.keep hb)
                    clear hb
                    rw [LV.out]
                    go_wp2_with fail
                    (with_reducible refine (O.out.two.limit).mono ?_)
                    rintro e w21 ⟨rfl, hb⟩
                    have O := Lib.hid (O.out.keep hb)
                    clear hb
                    go_wp2_with fail
                    (with_reducible refine (O.out.two.late _).mono ?_)
                    rintro e w22 ⟨rfl, hb⟩
                    have O := Lib.hid (O.out.keep hb)
                    clear hb
                    rw [LV.out]
                    go_wp2_with fail
                    go_ret
                    exact ⟨rfl, O.out.one.below⟩
                  · have LQ := Lib.hid hq
                    clear hq
                    go_wp2_with fail
                    (with_reducible refine (O.out.one.limit).mono ?_)
                    rintro e w23 ⟨rfl, hb⟩
                    have O := Lib.hid (O.out.keep hb)
                    clear hb
                    go_wp2_with fail
                    (with_reducible refine (O.out.two.limit).mono ?_)
                    rintro e w24 ⟨rfl, hb⟩
                    have O := Lib.hid (O.out.keep hb)
                    clear hb
                    go_wp2_with fail
                    (with_reducible refine (O.out.one.late _).mono ?_)
                    rintro e w25 ⟨rfl, hb⟩
                    have O := Lib.hid (O.out.keep hb)
                    clear hb
                    rw [LQ.out]
                    go_wp2_with fail
                    (with_reducible refine (O.out.two.late _).mono ?_)
                    rintro e w26 ⟨rfl, hb⟩
                    have O := Lib.hid (O.out.keep hb)
                    clear hb
                    rw [LQ.out]
                    go_wp2_with fail
                    (with_reducible refine (O.out.one.limit).mono ?_)
                    rintro e w27 ⟨rfl, hb⟩
                    have O := Lib.hid (O.out.keep hb)
                    clear hb
                    go_wp2_with fail
                    (with_reducible refine (O.out.one.late _).mono ?_)
                    rintro e w28 ⟨rfl, hb⟩
                    have O := Lib.hid (O.out.keep hb)
                    clear hb
                    rw [LV.out]
                    go_wp2_with fail
                    (with_reducible refine (O.out.two.limit).mono ?_)
                    rintro e w29 ⟨rfl, hb⟩
                    have O := Lib.hid (O.out.keep hb)
                    clear hb
                    go_wp2_with fail
                    (with_reducible refine (O.out.two.late _).mono ?_)
                    rintro e w30 ⟨rfl, hb⟩
                    have O := Lib.hid (O.out.keep hb)
                    clear hb
                    rw [LV.out]
                    go_wp2_with fail
                    go_ret
                    exact ⟨rfl, O.out.one.below⟩
end Go.Proofs.Ytbglghfdfigefaa
