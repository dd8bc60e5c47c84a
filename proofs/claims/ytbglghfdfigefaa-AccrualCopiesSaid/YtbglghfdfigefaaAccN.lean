/-
  A walk over a statement: what is done to a copy is not seen. No statement is proved in this text; it holds for every input that its premises let by.
-/
import Derived.Test.YtbglghfdfigefaaAccJ
set_option maxRecDepth 20000
namespace Go.Proofs.Ytbglghfdfigefaa
open Go Go.RowKit
theorem runD_append (d : Dt) (l m : List St) : runD d (l ++ m) = runD (runD d l) m := List.foldl_append
set_option maxHeartbeats 2000000 in
theorem copies_any (mn mx wi : Int) (v : Value) (l : List St) (u : Value) (b : List St) (w : World) (_r0 : -9223372036854775808 ≤ mn ∧ mn ≤ 9223372036854775807) (_r1 : -9223372036854775808 ≤ mx ∧ mx ≤ 9223372036854775807) (_r2 : -9223372036854775808 ≤ wi ∧ wi ≤ 9223372036854775807) (I3 : Rcs encS 2 w v l) (_R3 : ∀ s ∈ l, -9223372036854775808 ≤ s.2 ∧ s.2 ≤ 9223372036854775807) (I4 : Rcs encS 2 w u b) (_R4 : ∀ s ∈ b, -9223372036854775808 ≤ s.2 ∧ s.2 ≤ 9223372036854775807) :
    Calls Try.prog 9 #[.int .i64 mn, .int .i64 mx, .int .i64 wi, v, u] w fun e w' => e = .returned (.bool true) ∧ Below w.heap.size w w' := by
  have HI := Lib.hid I3
  have HJ := Lib.hid I4
  obtain ⟨A, c, rfl, hz⟩ := I3
  obtain ⟨A2, c2, rfl, hz2⟩ := I4
  clear hz hz2 _r0 _r1 _r2 _R3 _R4
  by_cases hl : 300 < l.length
  · have hl2 : (300 : Int) < (l.length : Int) := by omega
    go_enter Try.func9, Try.ntmps9
    go_wp2_with fail
    (with_reducible refine (works_any _).mono ?_)
    rintro e w1 ⟨rfl, hb⟩
    have B := Lib.hid hb
    clear hb
    go_wp2_with fail
    (with_reducible refine (works_any _).mono ?_)
    rintro e w2 ⟨rfl, hb⟩
    have B2 := Lib.hid (below_after B.out hb (Nat.le_refl _))
    clear hb
    go_wp2_with fail
    go_ret
    exact ⟨rfl, B2.out⟩
  · have hl2 : (l.length : Int) ≤ 300 := by omega
    by_cases hm : 300 < b.length
    · have hm2 : (300 : Int) < (b.length : Int) := by omega
      go_enter Try.func9, Try.ntmps9
      go_wp2_with fail
      (with_reducible refine (works_any _).mono ?_)
      rintro e w1 ⟨rfl, hb⟩
      have B := Lib.hid hb
      clear hb
      go_wp2_with fail
      (with_reducible refine (works_any _).mono ?_)
      rintro e w2 ⟨rfl, hb⟩
      have B2 := Lib.hid (below_after B.out hb (Nat.le_refl _))
      clear hb
      go_wp2_with fail
      go_ret
      exact ⟨rfl, B2.out⟩
    · have hm2 : (b.length : Int) ≤ 300 := by omega
      have HL := Lib.hid hl
      have HM := Lib.hid hm
      clear hl hm
      cases hok : newOk mn mx wi
      · have HOK := Lib.hid hok
        clear hok
        go_enter Try.func9, Try.ntmps9
        go_wp2_with fail
        (with_reducible refine (works_any _).mono ?_)
        rintro e w1 ⟨rfl, hb⟩
        have B := Lib.hid hb
        clear hb
        go_wp2_with fail
        (with_reducible refine (run_no mn mx wi HOK.out _ l _ (HI.out.below B.out)).mono ?_)
        rintro e w2 ⟨rfl, hb⟩
        have B2 := Lib.hid (below_after B.out hb (Nat.le_refl _))
        clear hb
        go_wp2_with fail
        go_ret
        exact ⟨rfl, B2.out⟩
      · have HOK := Lib.hid hok
        clear hok
        go_enter Try.func9, Try.ntmps9
        go_wp2_with fail
        (with_reducible refine (works_any _).mono ?_)
        rintro e w1 ⟨rfl, hb⟩
        have B := Lib.hid hb
        clear hb
        go_wp2_with fail
        (with_reducible refine (run_yes mn mx wi HOK.out _ l w _ B.out (HI.out.below B.out) (by have := HL.out; omega)).mono ?_)
        rintro e w2 ⟨p, rfl, ho, -, -⟩
        have O1 := Lib.hid ho
        clear ho
        generalize runD (Dt.new mn mx wi) l = d at *
        go_wp2_with fail
        (with_reducible refine (O1.out.copy).mono ?_)
        rintro e w3 ⟨q, rfl, ho⟩
        have O := Lib.hid ho
        clear ho O1
        go_wp2_with fail
        (with_reducible refine (O.out.one.limit).mono ?_)
        rintro e w11 ⟨rfl, hb⟩
        have O := Lib.hid (O.out.keep hb)
        clear hb
        go_wp2_with fail
        (with_reducible refine (O.out.one.late _).mono ?_)
        rintro e w12 ⟨rfl, hb⟩
        have O := Lib.hid (O.out.keep hb)
        clear hb
        go_wp2_with fail
        have O2 := Lib.hid O.out.swap
        clear O
        go_loopw [16] (fun s16 wr => ∃ k : Nat, k ≤ b.length ∧ s16 = .int .i64 k ∧ Hid (Two w wr q (runD d (b.take k)) p d)) (fun s16 _ => b.length - (intOf s16).toNat)
        case atStart => exact ⟨0, by omega, rfl, O2⟩
        case round =>
          obtain ⟨k, hk, rfl, HO⟩ := hrel
          have i3 : (0 : Int) ≤ (k : Int) := by omega
          by_cases hlt : k < b.length
          · have hd : decide ((k : Int) < (b.length : Int)) = true := by simp; omega
            have i4 : (k : Int) < (b.length : Int) := by omega
            obtain ⟨ad, rfl⟩ := HJ.out.addr (Nat.lt_of_le_of_lt (Nat.zero_le _) hlt)
            have d0 := HJ.out.first HO.out.one.below hlt (u := .int .u8 b[k].1) rfl
            have d1 := HJ.out.cell HO.out.one.below hlt 1 (by decide) (u := .int .i64 b[k].2) rfl
            have ES := Lib.hid (runD_take (d := d) hlt)
            generalize hLk : b[k] = s at *
            generalize hLd : runD d (b.take k) = dk at *
            clear hLk hLd
            go_wp2_with fail
            (with_reducible refine (HO.out.one.step s).mono ?_)
            rintro e wq hd2
            obtain ⟨rfl, h2⟩ := HO.out.done (stepD_ok HO.out.one.ok s) hd2
            have O3 := Lib.hid h2
            clear h2 hd2
            go_wp2_with fail
            go_roundw
            case rel => exact ⟨k + 1, by omega, by go_num, Lib.hid (by rw [ES.out]; exact O3.out)⟩
            case measure => simp [intOf]; omega
          · obtain rfl : k = b.length := by omega
            have hd : decide ((b.length : Int) < (b.length : Int)) = false := by simp
            rw [List.take_length] at HO
            go_wp2_with fail
            have O := HO
            clear HO O2
            (with_reducible refine (O.out.one.limit).mono ?_)
            rintro e w13 ⟨rfl, hb⟩
            have O := Lib.hid (O.out.keep hb)
            clear hb
            go_wp2_with fail
            (with_reducible refine (O.out.two.limit).mono ?_)
            rintro e w14 ⟨rfl, hb⟩
            have O := Lib.hid (O.out.keep hb)
            clear hb
            go_wp2_with fail
            (with_reducible refine (O.out.two.late _).mono ?_)
            rintro e w15 ⟨rfl, hb⟩
            have O := Lib.hid (O.out.keep hb)
            clear hb
            go_wp2_with fail
            have O4 := Lib.hid O.out.swap
            clear O
            go_loopw [18] (fun s18 wr => ∃ k : Nat, k ≤ b.length ∧ s18 = .int .i64 k ∧ Hid (Two w wr p (runD d (b.take k)) q (runD d b))) (fun s18 _ => b.length - (intOf s18).toNat)
            case atStart => exact ⟨0, by omega, rfl, O4⟩
            case round =>
              obtain ⟨k, hk, rfl, HO⟩ := hrel
              have i3 : (0 : Int) ≤ (k : Int) := by omega
              by_cases hlt : k < b.length
              · have hd : decide ((k : Int) < (b.length : Int)) = true := by simp; omega
                have i4 : (k : Int) < (b.length : Int) := by omega
                obtain ⟨ad, rfl⟩ := HJ.out.addr (Nat.lt_of_le_of_lt (Nat.zero_le _) hlt)
                have d0 := HJ.out.first HO.out.one.below hlt (u := .int .u8 b[k].1) rfl
                have d1 := HJ.out.cell HO.out.one.below hlt 1 (by decide) (u := .int .i64 b[k].2) rfl
                have ES := Lib.hid (runD_take (d := d) hlt)
                generalize hLk : b[k] = s at *
                generalize hLd : runD d (b.take k) = dk at *
                clear hLk hLd
                go_wp2_with fail
                (with_reducible refine (HO.out.one.step s).mono ?_)
                rintro e wq hd2
                obtain ⟨rfl, h2⟩ := HO.out.done (stepD_ok HO.out.one.ok s) hd2
                have O3 := Lib.hid h2
                clear h2 hd2
                go_wp2_with fail
                go_roundw
                case rel => exact ⟨k + 1, by omega, by go_num, Lib.hid (by rw [ES.out]; exact O3.out)⟩
                case measure => simp [intOf]; omega
              · obtain rfl : k = b.length := by omega
                have hd : decide ((b.length : Int) < (b.length : Int)) = false := by simp
                rw [List.take_length] at HO
                go_wp2_with fail
                have O := HO
                clear HO O4
                (with_reducible refine (O.out.one.limit).mono ?_)
                rintro e w16 ⟨rfl, hb⟩
                have O := Lib.hid (O.out.keep hb)
                clear hb
                go_wp2_with fail
                (with_reducible refine (O.out.two.limit).mono ?_)
                rintro e w17 ⟨rfl, hb⟩
                have O := Lib.hid (O.out.keep hb)
                clear hb
                go_wp2_with fail
                (with_reducible refine (O.out.two.late _).mono ?_)
                rintro e w18 ⟨rfl, hb⟩
                have O := Lib.hid (O.out.keep hb)
                clear hb
                go_wp2_with fail
                (with_reducible refine (O.out.one.late _).mono ?_)
                rintro e w19 ⟨rfl, hb⟩
                have O := Lib.hid (O.out.keep hb)
                clear hb
                go_wp2_with fail
                go_ret
                exact ⟨ret_bool (by simp), O.out.one.below⟩
end Go.Proofs.Ytbglghfdfigefaa
