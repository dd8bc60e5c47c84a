/-
  A walk over a statement: the bounds of the limit. No statement is proved in this text; it holds for every input that its premises let by.
-/
import Derived.Test.YtbglghfdfigefaaAccJ
set_option maxRecDepth 20000
namespace Go.Proofs.Ytbglghfdfigefaa
open Go Go.RowKit
set_option maxHeartbeats 2000000 in
theorem bounds_any (mn mx wi : Int) (v : Value) (l : List St) (now ticks : Int) (w : World) (_r0 : -9223372036854775808 ≤ mn ∧ mn ≤ 9223372036854775807) (_r1 : -9223372036854775808 ≤ mx ∧ mx ≤ 9223372036854775807) (_r2 : -9223372036854775808 ≤ wi ∧ wi ≤ 9223372036854775807) (I3 : Rcs encS 2 w v l) (_R3 : ∀ s ∈ l, -9223372036854775808 ≤ s.2 ∧ s.2 ≤ 9223372036854775807) (_r4 : -9223372036854775808 ≤ now ∧ now ≤ 9223372036854775807) (_r5 : -9223372036854775808 ≤ ticks ∧ ticks ≤ 9223372036854775807) :
    Calls Try.prog 5 #[.int .i64 mn, .int .i64 mx, .int .i64 wi, v, .int .i64 now, .int .i64 ticks] w fun e w' => e = .returned (.bool true) ∧ Below w.heap.size w w' := by
  have HI := Lib.hid I3
  obtain ⟨A, c, rfl, hz⟩ := I3
  clear hz _r0 _r1 _r2 _r4 _r5 _R3
  by_cases hl : 500 < l.length
  · have hl2 : (500 : Int) < (l.length : Int) := by omega
    go_enter Try.func5, Try.ntmps5
    go_wp2_with fail
    (with_reducible refine (works_any _).mono ?_)
    rintro e w1 ⟨rfl, hb⟩
    have B := Lib.hid hb
    clear hb
    go_wp2_with fail
    (with_reducible refine (works_any _).mono ?_)
    rintro e w2 ⟨rfl, hb⟩
    have B2 := Lib.hid (below_after B.out hb (Nat.le_refl _))
    clear hb
    go_wp2_with fail
    go_ret
    exact ⟨rfl, B2.out⟩
  · have hl2 : (l.length : Int) ≤ 500 := by omega
    have HL := Lib.hid hl
    clear hl
    cases hok : newOk mn mx wi
    · have HOK := Lib.hid hok
      clear hok
      go_enter Try.func5, Try.ntmps5
      go_wp2_with fail
      (with_reducible refine (works_any _).mono ?_)
      rintro e w1 ⟨rfl, hb⟩
      have B := Lib.hid hb
      clear hb
      go_wp2_with fail
      (with_reducible refine (run_no mn mx wi HOK.out _ l _ (HI.out.below B.out)).mono ?_)
      rintro e w2 ⟨rfl, hb⟩
      have B2 := Lib.hid (below_after B.out hb (Nat.le_refl _))
      clear hb
      go_wp2_with fail
      go_ret
      exact ⟨rfl, B2.out⟩
    · have HOK := Lib.hid hok
      clear hok
      obtain ⟨t, ht, et0⟩ := num_cut ticks 10000 (by decide) (by decide)
      have et : wrap64 ((IntKind.u64.wrap ticks).tmod 10000) = (t : Int) := et0
      have h1 : ∀ (a b : Int) (W : World), (Builtin.min_ #[3, 3] 3 #[.int .i64 a, .int .i64 b]).run Try.prog W = .ok (.int .i64 (min a b)) W := min_two
      have h2 : ∀ (a b : Int) (W : World), (Builtin.max_ #[3, 3] 3 #[.int .i64 a, .int .i64 b]).run Try.prog W = .ok (.int .i64 (max a b)) W := max_two
      clear et0
      go_enter Try.func5, Try.ntmps5
      go_wp2_with fail
      (with_reducible refine (works_any _).mono ?_)
      rintro e w1 ⟨rfl, hb⟩
      have B := Lib.hid hb
      clear hb
      go_wp2_with fail
      (with_reducible refine (run_yes mn mx wi HOK.out _ l w _ B.out (HI.out.below B.out) (by have := HL.out; omega)).mono ?_)
      rintro e w2 ⟨p, rfl, ho, -, -⟩
      have O := Lib.hid ho
      clear ho
      have K := Lib.hid (runD_keeps l (Dt.new mn mx wi))
      have LA := Lib.hid (lastI_gen l 0 (Dt.new mn mx wi) (Int.le_refl _) (by decide))
      have LI : Hid (l.foldl (fun a s => max a (min s.2 1099511627776)) 0 = lastI l) := Lib.hid rfl
      rw [LI.out] at LA
      generalize runD (Dt.new mn mx wi) l = d at *
      have hr := Dt.limit_range O.out.ok
      have hr1 : mn ≤ d.limit := by have := K.out.1; have h : (Dt.new mn mx wi).mn = mn := rfl; omega
      have hr2 : d.limit ≤ mx := by have := K.out.2.1; have h : (Dt.new mn mx wi).mx = mx := rfl; omega
      clear hr
      go_wp2_with fail
      (with_reducible refine (O.out.limit).mono ?_)
      rintro e w11 ⟨rfl, hb⟩
      have O := Lib.hid (O.out.keep hb)
      clear hb
      go_wp2_with fail
      (with_reducible refine (O.out.limit).mono ?_)
      rintro e w12 ⟨rfl, hb⟩
      have O := Lib.hid (O.out.keep hb)
      clear hb
      go_wp2_with fail
      clear hr1 hr2
      go_loopw [15, 16] (fun s15 s16 wr => ∃ k : Nat, k ≤ l.length ∧ s15 = .int .i64 (lastI (l.take k)) ∧ s16 = .int .i64 k ∧ Hid (One w wr p d)) (fun _ s16 _ => l.length - (intOf s16).toNat)
      case atStart => exact ⟨0, by omega, rfl, rfl, O⟩
      case round =>
        obtain ⟨k, hk, rfl, rfl, HO⟩ := hrel
        have i3 : (0 : Int) ≤ (k : Int) := by omega
        by_cases hlt : k < l.length
        · have hd : decide ((k : Int) < (l.length : Int)) = true := by simp; omega
          have i4 : (k : Int) < (l.length : Int) := by omega
          obtain ⟨ad, rfl⟩ := HI.out.addr (Nat.lt_of_le_of_lt (Nat.zero_le _) hlt)
          have d1 := HI.out.cell HO.out.below hlt 1 (by decide) (u := .int .i64 l[k].2) rfl
          have ES := Lib.hid (lastI_take hlt)
          generalize hLk : l[k].2 = s at *
          generalize hLs : lastI (l.take k) = a at *
          clear hLk hLs
          go_wp2_with fail
          go_roundw
          case rel => exact ⟨k + 1, by omega, by rw [ES.out], by go_num, HO⟩
          case measure => simp [intOf]; omega
        · obtain rfl : k = l.length := by omega
          have hd : decide ((l.length : Int) < (l.length : Int)) = false := by simp
          rw [List.take_length]
          have LA2 := LA.out
          generalize hla : lastI l = la at *
          obtain ⟨x, hx⟩ : ∃ x, max la (min now 1099511627776) = x := ⟨_, rfl⟩
          have hx0 : 0 ≤ x := by omega
          have hx1 : x ≤ 1099511627776 := by omega
          have hxd : d.la ≤ x := by omega
          have HX := Lib.hid hx
          have HXD := Lib.hid (heard_la hxd hx1)
          have h3 : ∀ (W : World), (Builtin.max_ #[3, 3] 3 #[.int .i64 la, .int .i64 (min now 1099511627776)]).run Try.prog W = .ok (.int .i64 x) W := fun W => by rw [← HX.out]; exact max_two _ _ W
          have hwx : wrap64 (x + (t : Int)) = x + (t : Int) := by unfold wrap64; omega
          clear h2 LA2 hx hxd hla LA LI
          go_wp2_with fail
          have KH : Hid ((d.heard x).mn = mn ∧ (d.heard x).mx = mx) := Lib.hid ⟨K.out.1, K.out.2.1⟩
          clear K
          have O := HO
          clear HO
          (with_reducible refine (O.out.heard x).mono ?_)
          rintro e w13 hd
          obtain ⟨rfl, h1⟩ := O.out.done (Dt.heard_ok O.out.ok _) hd
          have OK2 := Lib.hid (Dt.heard_ok O.out.ok x)
          have BG : Hid ((d.heard x).bg = true) := Lib.hid rfl
          have O := Lib.hid h1
          clear hd h1
          generalize d.heard x = d2 at *
          by_cases hbig : 1099511627776 < x + (t : Int)
          · go_wp2_with fail
            go_ret
            exact ⟨rfl, O.out.below⟩
          · have hbig2 : x + (t : Int) ≤ 1099511627776 := by omega
            have LT := Lib.hid (late_ticks HXD.out BG.out (Int.natCast_nonneg t) hbig2)
            have hr := Dt.limit_range OK2.out
            have hk1 := KH.out.1
            have hk2 := KH.out.2
            clear hbig
            by_cases ha : (t : Int) ≤ mn
            · have hb : (t : Int) ≤ mx := by omega
              have hq : (t : Int) ≤ d2.limit := by omega
              have LQ := Lib.hid (show d2.late (x + (t : Int)) = false by rw [LT.out]; exact decide_eq_false (by omega))
              clear hr hk1 hk2 LT KH HXD OK2 BG
              go_wp2_with fail
              (with_reducible refine (O.out.late _).mono ?_)
              rintro e w14 ⟨rfl, hb⟩
              have O := Lib.hid (O.out.keep hb)
              clear hb
              rw [LQ.out]
              go_wp2_with fail
              (with_reducible refine (O.out.late _).mono ?_)
              rintro e w15 ⟨rfl, hb⟩
              have O := Lib.hid (O.out.keep hb)
              clear hb
              rw [LQ.out]
              go_wp2_with fail
              (with_reducible refine (O.out.limit).mono ?_)
              rintro e w16 ⟨rfl, hb⟩
              have O := Lib.hid (O.out.keep hb)
              clear hb
              go_wp2_with fail
              go_ret
              exact ⟨ret_bool (by rw [decide_eq_false (by omega)]; rfl), O.out.below⟩
            · have ha2 : mn < (t : Int) := by omega
              by_cases hc : mx < (t : Int)
              · have hq : d2.limit < (t : Int) := by omega
                have LQ := Lib.hid (show d2.late (x + (t : Int)) = true by rw [LT.out]; exact decide_eq_true (by omega))
                clear hr hk1 hk2 LT KH HXD OK2 BG
                go_wp2_with fail
                (with_reducible refine (O.out.late _).mono ?_)
                rintro e w17 ⟨rfl, hb⟩
                have O := Lib.hid (O.out.keep hb)
                clear hb
                rw [LQ.out]
                go_wp2_with fail
                (with_reducible refine (O.out.late _).mono ?_)
                rintro e w18 ⟨rfl, hb⟩
                have O := Lib.hid (O.out.keep hb)
                clear hb
                rw [LQ.out]
                go_wp2_with fail
                (with_reducible refine (O.out.limit).mono ?_)
                rintro e w19 ⟨rfl, hb⟩
                have O := Lib.hid (O.out.keep hb)
                clear hb
                go_wp2_with fail
                go_ret
                exact ⟨rfl, O.out.below⟩
              · have hc2 : (t : Int) ≤ mx := by omega
                by_cases hq : d2.limit < (t : Int)
                · skip
                  have LQ := Lib.hid (show d2.late (x + (t : Int)) = true by rw [LT.out]; exact decide_eq_true (by omega))
                  clear hr hk1 hk2 LT KH HXD OK2 BG
                  go_wp2_with fail
                  (with_reducible refine (O.out.late _).mono ?_)
                  rintro e w20 ⟨rfl, hb⟩
                  have O := Lib.hid (O.out.keep hb)
                  clear hb
                  rw [LQ.out]
                  go_wp2_with fail
                  (with_reducible refine (O.out.limit).mono ?_)
                  rintro e w21 ⟨rfl, hb⟩
                  have O := Lib.hid (O.out.keep hb)
                  clear hb
                  go_wp2_with fail
                  go_ret
                  exact ⟨rfl, O.out.below⟩
                · have hq2 : (t : Int) ≤ d2.limit := by omega
                  clear hq
                  have LQ := Lib.hid (show d2.late (x + (t : Int)) = false by rw [LT.out]; exact decide_eq_false (by omega))
                  clear hr hk1 hk2 LT KH HXD OK2 BG
                  go_wp2_with fail
                  (with_reducible refine (O.out.late _).mono ?_)
                  rintro e w22 ⟨rfl, hb⟩
                  have O := Lib.hid (O.out.keep hb)
                  clear hb
                  rw [LQ.out]
                  go_wp2_with fail
                  (with_reducible refine (O.out.limit).mono ?_)
                  rintro e w23 ⟨rfl, hb⟩
                  have O := Lib.hid (O.out.keep hb)
                  clear hb
                  go_wp2_with fail
                  go_ret
                  exact ⟨ret_bool (by rw [decide_eq_false (by omega)]; rfl), O.out.below⟩
end Go.Proofs.Ytbglghfdfigefaa
