/-
  A walk over a statement: what is late stays late, until somebody is heard. No statement is proved in this text; it holds for every input that its premises let by.
-/
import Derived.Test.YtbglghfdfigefaaAccJ
set_option maxRecDepth 20000
namespace Go.Proofs.Ytbglghfdfigefaa
open Go Go.RowKit
set_option maxHeartbeats 2000000 in
theorem later_any (mn mx wi : Int) (v : Value) (l : List St) (now later : Int) (w : World) (_r0 : -9223372036854775808 ≤ mn ∧ mn ≤ 9223372036854775807) (_r1 : -9223372036854775808 ≤ mx ∧ mx ≤ 9223372036854775807) (_r2 : -9223372036854775808 ≤ wi ∧ wi ≤ 9223372036854775807) (I3 : Rcs encS 2 w v l) (_R3 : ∀ s ∈ l, -9223372036854775808 ≤ s.2 ∧ s.2 ≤ 9223372036854775807) (_r4 : -9223372036854775808 ≤ now ∧ now ≤ 9223372036854775807) (_r5 : -9223372036854775808 ≤ later ∧ later ≤ 9223372036854775807) :
    Calls Try.prog 7 #[.int .i64 mn, .int .i64 mx, .int .i64 wi, v, .int .i64 now, .int .i64 later] w fun e w' => e = .returned (.bool true) ∧ Below w.heap.size w w' := by
  have HI := Lib.hid I3
  obtain ⟨A, c, rfl, hz⟩ := I3
  clear hz
  by_cases hl : 500 < l.length
  · have hl2 : (500 : Int) < (l.length : Int) := by omega
    go_enter Try.func7, Try.ntmps7
    go_wp2_with fail
    (with_reducible refine (works_any _).mono ?_)
    rintro e w1 ⟨rfl, hb⟩
    have B := Lib.hid hb
    clear hb
    go_wp2_with fail
    (with_reducible refine (works_any _).mono ?_)
    rintro e w2 ⟨rfl, hb⟩
    have B2 := Lib.hid (below_after B.out hb (Nat.le_refl _))
    clear hb
    go_wp2_with fail
    go_ret
    exact ⟨rfl, B2.out⟩
  · have hl2 : (l.length : Int) ≤ 500 := by omega
    have HL := Lib.hid hl
    clear hl
    cases hok : newOk mn mx wi
    · have HOK := Lib.hid hok
      clear hok
      go_enter Try.func7, Try.ntmps7
      go_wp2_with fail
      (with_reducible refine (works_any _).mono ?_)
      rintro e w1 ⟨rfl, hb⟩
      have B := Lib.hid hb
      clear hb
      go_wp2_with fail
      (with_reducible refine (run_no mn mx wi HOK.out _ l _ (HI.out.below B.out)).mono ?_)
      rintro e w2 ⟨rfl, hb⟩
      have B2 := Lib.hid (below_after B.out hb (Nat.le_refl _))
      clear hb
      go_wp2_with fail
      go_ret
      exact ⟨rfl, B2.out⟩
    · have HOK := Lib.hid hok
      clear hok
      by_cases hln : later < now
      · have HAB := Lib.hid (show later ≤ now by omega)
        go_enter Try.func7, Try.ntmps7
        go_wp2_with fail
        (with_reducible refine (works_any _).mono ?_)
        rintro e w1 ⟨rfl, hb⟩
        have B := Lib.hid hb
        clear hb
        go_wp2_with fail
        (with_reducible refine (run_yes mn mx wi HOK.out _ l w _ B.out (HI.out.below B.out) (by have := HL.out; omega)).mono ?_)
        rintro e w2 ⟨p, rfl, ho, -, -⟩
        have O := Lib.hid ho
        clear ho
        generalize runD (Dt.new mn mx wi) l = d at *
        go_wp2_with fail
        cases hla : d.late later
        · have LA := Lib.hid hla
          clear hla
          (with_reducible refine (O.out.late _).mono ?_)
          rintro e w11 ⟨rfl, hb⟩
          have O := Lib.hid (O.out.keep hb)
          clear hb
          rw [LA.out]
          go_wp2_with fail
          (with_reducible refine (O.out.limit).mono ?_)
          rintro e w12 ⟨rfl, hb⟩
          have O := Lib.hid (O.out.keep hb)
          clear hb
          go_wp2_with fail
          (with_reducible refine (O.out.start now).mono ?_)
          rintro e w13 hd
          obtain ⟨rfl, h1⟩ := O.out.done (Dt.start_ok O.out.ok _) hd
          have O := Lib.hid h1
          clear hd h1
          have EL := Lib.hid (limit_start d now)
          by_cases h0 : 0 < l.length
          · have h02 : (0 : Int) < (l.length : Int) := by omega
            go_wp2_with fail
            (with_reducible refine (O.out.limit).mono ?_)
            rintro e w14 ⟨rfl, hb⟩
            have O := Lib.hid (O.out.keep hb)
            clear hb
            rw [EL.out]
            go_wp2_with fail
            have LH := Lib.hid (late_heard O.out.ok now)
            (with_reducible refine (O.out.heard now).mono ?_)
            rintro e w15 hd
            obtain ⟨rfl, h1⟩ := O.out.done (Dt.heard_ok O.out.ok _) hd
            have O := Lib.hid h1
            clear hd h1
            go_wp2_with fail
            (with_reducible refine (O.out.late _).mono ?_)
            rintro e w16 ⟨rfl, hb⟩
            have O := Lib.hid (O.out.keep hb)
            clear hb
            rw [LH.out]
            go_wp2_with fail
            go_ret
            exact ⟨rfl, O.out.below⟩
          · have h02 : (l.length : Int) ≤ 0 := by omega
            go_wp2_with fail
            have LH := Lib.hid (late_heard O.out.ok now)
            (with_reducible refine (O.out.heard now).mono ?_)
            rintro e w17 hd
            obtain ⟨rfl, h1⟩ := O.out.done (Dt.heard_ok O.out.ok _) hd
            have O := Lib.hid h1
            clear hd h1
            go_wp2_with fail
            (with_reducible refine (O.out.late _).mono ?_)
            rintro e w18 ⟨rfl, hb⟩
            have O := Lib.hid (O.out.keep hb)
            clear hb
            rw [LH.out]
            go_wp2_with fail
            go_ret
            exact ⟨rfl, O.out.below⟩
        · have LA := Lib.hid hla
          clear hla
          (with_reducible refine (O.out.late _).mono ?_)
          rintro e w19 ⟨rfl, hb⟩
          have O := Lib.hid (O.out.keep hb)
          clear hb
          rw [LA.out]
          go_wp2_with fail
          (with_reducible refine (O.out.late _).mono ?_)
          rintro e w20 ⟨rfl, hb⟩
          have O := Lib.hid (O.out.keep hb)
          clear hb
          rw [late_mono HAB.out LA.out]
          go_wp2_with fail
          (with_reducible refine (O.out.limit).mono ?_)
          rintro e w21 ⟨rfl, hb⟩
          have O := Lib.hid (O.out.keep hb)
          clear hb
          go_wp2_with fail
          (with_reducible refine (O.out.start now).mono ?_)
          rintro e w22 hd
          obtain ⟨rfl, h1⟩ := O.out.done (Dt.start_ok O.out.ok _) hd
          have O := Lib.hid h1
          clear hd h1
          have EL := Lib.hid (limit_start d now)
          by_cases h0 : 0 < l.length
          · have h02 : (0 : Int) < (l.length : Int) := by omega
            go_wp2_with fail
            (with_reducible refine (O.out.limit).mono ?_)
            rintro e w23 ⟨rfl, hb⟩
            have O := Lib.hid (O.out.keep hb)
            clear hb
            rw [EL.out]
            go_wp2_with fail
            have LH := Lib.hid (late_heard O.out.ok now)
            (with_reducible refine (O.out.heard now).mono ?_)
            rintro e w24 hd
            obtain ⟨rfl, h1⟩ := O.out.done (Dt.heard_ok O.out.ok _) hd
            have O := Lib.hid h1
            clear hd h1
            go_wp2_with fail
            (with_reducible refine (O.out.late _).mono ?_)
            rintro e w25 ⟨rfl, hb⟩
            have O := Lib.hid (O.out.keep hb)
            clear hb
            rw [LH.out]
            go_wp2_with fail
            go_ret
            exact ⟨rfl, O.out.below⟩
          · have h02 : (l.length : Int) ≤ 0 := by omega
            go_wp2_with fail
            have LH := Lib.hid (late_heard O.out.ok now)
            (with_reducible refine (O.out.heard now).mono ?_)
            rintro e w26 hd
            obtain ⟨rfl, h1⟩ := O.out.done (Dt.heard_ok O.out.ok _) hd
            have O := Lib.hid h1
            clear hd h1
            go_wp2_with fail
            (with_reducible refine (O.out.late _).mono ?_)
            rintro e w27 ⟨rfl, hb⟩
            have O := Lib.hid (O.out.keep hb)
            clear hb
            rw [LH.out]
            go_wp2_with fail
            go_ret
            exact ⟨rfl, O.out.below⟩
      · have HAB := Lib.hid (show now ≤ later by omega)
        have hln2 : now ≤ later := by omega
        go_enter Try.func7, Try.ntmps7
        go_wp2_with fail
        (with_reducible refine (works_any _).mono ?_)
        rintro e w1 ⟨rfl, hb⟩
        have B := Lib.hid hb
        clear hb
        go_wp2_with fail
        (with_reducible refine (run_yes mn mx wi HOK.out _ l w _ B.out (HI.out.below B.out) (by have := HL.out; omega)).mono ?_)
        rintro e w2 ⟨p, rfl, ho, -, -⟩
        have O := Lib.hid ho
        clear ho
        generalize runD (Dt.new mn mx wi) l = d at *
        go_wp2_with fail
        cases hla : d.late now
        · have LA := Lib.hid hla
          clear hla
          (with_reducible refine (O.out.late _).mono ?_)
          rintro e w28 ⟨rfl, hb⟩
          have O := Lib.hid (O.out.keep hb)
          clear hb
          rw [LA.out]
          go_wp2_with fail
          (with_reducible refine (O.out.limit).mono ?_)
          rintro e w29 ⟨rfl, hb⟩
          have O := Lib.hid (O.out.keep hb)
          clear hb
          go_wp2_with fail
          (with_reducible refine (O.out.start later).mono ?_)
          rintro e w30 hd
          obtain ⟨rfl, h1⟩ := O.out.done (Dt.start_ok O.out.ok _) hd
          have O := Lib.hid h1
          clear hd h1
          have EL := Lib.hid (limit_start d later)
          by_cases h0 : 0 < l.length
          · have h02 : (0 : Int) < (l.length : Int) := by omega
            go_wp2_with fail
            (with_reducible refine (O.out.limit).mono ?_)
            rintro e w31 ⟨rfl, hb⟩
            have O := Lib.hid (O.out.keep hb)
            clear hb
            rw [EL.out]
            go_wp2_with fail
            have LH := Lib.hid (late_heard O.out.ok later)
            (with_reducible refine (O.out.heard later).mono ?_)
            rintro e w32 hd
            obtain ⟨rfl, h1⟩ := O.out.done (Dt.heard_ok O.out.ok _) hd
            have O := Lib.hid h1
            clear hd h1
            go_wp2_with fail
            (with_reducible refine (O.out.late _).mono ?_)
            rintro e w33 ⟨rfl, hb⟩
            have O := Lib.hid (O.out.keep hb)
            clear hb
            rw [LH.out]
            go_wp2_with fail
            go_ret
            exact ⟨rfl, O.out.below⟩
          · have h02 : (l.length : Int) ≤ 0 := by omega
            go_wp2_with fail
            have LH := Lib.hid (late_heard O.out.ok later)
            (with_reducible refine (O.out.heard later).mono ?_)
            rintro e w34 hd
            obtain ⟨rfl, h1⟩ := O.out.done (Dt.heard_ok O.out.ok _) hd
            have O := Lib.hid h1
            clear hd h1
            go_wp2_with fail
            (with_reducible refine (O.out.late _).mono ?_)
            rintro e w35 ⟨rfl, hb⟩
            have O := Lib.hid (O.out.keep hb)
            clear hb
            rw [LH.out]
            go_wp2_with fail
            go_ret
            exact ⟨rfl, O.out.below⟩
        · have LA := Lib.hid hla
          clear hla
          (with_reducible refine (O.out.late _).mono ?_)
          rintro e w36 ⟨rfl, hb⟩
          have O := Lib.hid (O.out.keep hb)
          clear hb
          rw [LA.out]
          go_wp2_with fail
          (with_reducible refine (O.out.late _).mono ?_)
          rintro e w37 ⟨rfl, hb⟩
          have O := Lib.hid (O.out.keep hb)
          clear hb
          rw [late_mono HAB.out LA.out]
          go_wp2_with fail
          (with_reducible refine (O.out.limit).mono ?_)
          rintro e w38 ⟨rfl, hb⟩
          have O := Lib.hid (O.out.keep hb)
          clear hb
          go_wp2_with fail
          (with_reducible refine (O.out.start later).mono ?_)
          rintro e w39 hd
          obtain ⟨rfl, h1⟩ := O.out.done (Dt.start_ok O.out.ok _) hd
          have O := Lib.hid h1
          clear hd h1
          have EL := Lib.hid (limit_start d later)
          by_cases h0 : 0 < l.length
          · have h02 : (0 : Int) < (l.length : Int) := by omega
            go_wp2_with fail
            (with_reducible refine (O.out.limit).mono ?_)
            rintro e w40 ⟨rfl, hb⟩
            have O := Lib.hid (O.out.keep hb)
            clear hb
            rw [EL.out]
            go_wp2_with fail
            have LH := Lib.hid (late_heard O.out.ok later)
            (with_reducible refine (O.out.heard later).mono ?_)
            rintro e w41 hd
            obtain ⟨rfl, h1⟩ := O.out.done (Dt.heard_ok O.out.ok _) hd
            have O := Lib.hid h1
            clear hd h1
            go_wp2_with fail
            (with_reducible refine (O.out.late _).mono ?_)
            rintro e w42 ⟨rfl, hb⟩
            have O := Lib.hid (O.out.keep hb)
            clear hb
            rw [LH.out]
            go_wp2_with fail
            go_ret
            exact ⟨rfl, O.out.below⟩
          · have h02 : (l.length : Int) ≤ 0 := by omega
            go_wp2_with fail
            have LH := Lib.hid (late_heard O.out.ok later)
            (with_reducible refine (O.out.heard later).mono ?_)
            rintro e w43 hd
            obtain ⟨rfl, h1⟩ := O.out.done (Dt.heard_ok O.out.ok _) hd
            have O := Lib.hid h1
            clear hd h1
            go_wp2_with fail
            (with_reducible refine (O.out.late _).mono ?_)
            rintro e w44 ⟨rfl, hb⟩
            have O := Lib.hid (O.out.keep hb)
            clear hb
            rw [LH.out]
            go_wp2_with fail
            go_ret
            exact ⟨rfl, O.out.below⟩
end Go.Proofs.Ytbglghfdfigefaa
