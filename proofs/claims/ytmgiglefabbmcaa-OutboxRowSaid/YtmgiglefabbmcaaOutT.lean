/-
  A walk: what is done to a copy is not seen, nor the other way about. No statement is proved in this text.
-/
import Derived.Test.YtmgiglefabbmcaaOutS
set_option maxRecDepth 20000
namespace Go.Proofs.Ytmgiglefabbmcaa
open Go Go.RowKit
theorem runL_all {mx : Int} {L : List Fr} {l : List Sq} {k : Nat} (h : k = l.length) : runL mx L (l.take k) = runL mx L l := by rw [h, List.take_length]
set_option maxHeartbeats 32000000 in
set_option maxRecDepth 100000 in
theorem copies_any (mx : Int) (v : Value) (l : List Sq) (v2 : Value) (l2 : List Sq) (w : World) (_hmx : -9223372036854775808 ≤ mx ∧ mx ≤ 9223372036854775807) (h : Rcs encS 15 w v l) (hs : (∀ s ∈ l, FR w s.2 ∧ WideV s.2.F.v) ∧ l.length ≤ 8796093022208) (h2 : Rcs encS 15 w v2 l2) (hs2 : (∀ s ∈ l2, FR w s.2 ∧ WideV s.2.F.v) ∧ l2.length ≤ 8796093022208) :
    Calls Try.prog 8 #[.int .i64 mx, v, v2] w fun e w' => e = .returned (.bool true) ∧ Below w.heap.size w w' := by
  have HI := Lib.hid h
  have HI2 := Lib.hid h2
  have HS := Lib.hid hs
  have HS2 := Lib.hid hs2
  obtain ⟨A, c, rfl, -, -, -⟩ := h
  obtain ⟨A2, c2, rfl, -, -, -⟩ := h2
  clear hs hs2
  go_enter Try.func8, Try.ntmps8
  go_wp2_with fail
  (with_reducible refine (works_any w).mono ?_)
  rintro e1 w1 ⟨rfl, hb⟩
  have B1 := Lib.hid hb
  clear hb
  have WK : Hid (∀ W, Below w.heap.size w W → Calls Try.prog 13 #[] W fun e w' => e = .returned (.bool true) ∧ Below w.heap.size w w') := Lib.hid fun W hW => (works_any W).mono fun e w' ⟨h1, h2⟩ => ⟨h1, below_after hW h2 (Nat.le_refl _)⟩
  go_wp2_with fail
  (with_reducible refine (large_any _ l w1 (HI.out.below B1.out) (fun s hs => ⟨(HS.out.1 s hs).1.below B1.out, (HS.out.1 s hs).2⟩) HS.out.2).mono ?_)
  rintro e2 w2 ⟨⟨z, rfl, hz⟩, hb⟩
  have B2 := Lib.hid (below_after B1.out hb (Nat.le_refl _))
  clear hb B1
  rcases z with _ | _
  case true =>
    clear hz
    go_wp2_with fail
    (with_reducible refine (WK.out w2 B2.out).mono ?_)
    rintro e3 w3 ⟨rfl, hb⟩
    go_wp2_with fail
    go_ret
    exact ⟨rfl, hb⟩
  case false =>
    have HL := Lib.hid (hz rfl)
    clear hz
    go_wp2_with fail
    (with_reducible refine (large_any _ l2 w2 (HI2.out.below B2.out) (fun s hs => ⟨(HS2.out.1 s hs).1.below B2.out, (HS2.out.1 s hs).2⟩) HS2.out.2).mono ?_)
    rintro e3 w3 ⟨⟨z, rfl, hz⟩, hb⟩
    have B3 := Lib.hid (below_after B2.out hb (Nat.le_refl _))
    clear hb B2
    rcases z with _ | _
    case true =>
      clear hz
      go_wp2_with fail
      (with_reducible refine (WK.out w3 B3.out).mono ?_)
      rintro e4 w4 ⟨rfl, hb⟩
      go_wp2_with fail
      go_ret
      exact ⟨rfl, hb⟩
    case false =>
      have HL2 := Lib.hid (hz rfl)
      clear hz
      go_wp2_with fail
      by_cases hm : 1 ≤ mx ∧ mx ≤ 4096
      case neg =>
        (with_reducible refine (new_no mx w3 hm).mono ?_)
        rintro e4 w4 ⟨rfl, rfl⟩
        go_wp2_with fail
        go_ret
        exact ⟨rfl, B3.out⟩
      case pos =>
        (with_reducible refine (bx_new (fun k => k < w.heap.size) mx w3 (fun k hk => Nat.lt_of_lt_of_le hk B3.out.size) hm).mono ?_)
        rintro e4 w4 ⟨rfl, hx, hb⟩
        have H4 := Lib.hid hx
        have B4 := Lib.hid (below_after B3.out hb (Nat.le_refl _))
        clear hx hb B3
        go_wp2_with fail
        obtain ⟨p, hp⟩ : ∃ p, p = w3.heap.size := ⟨_, rfl⟩
        rw [← hp] at H4
        rw [← hp]
        clear hp
        have l300 := HL.out.1
        have l301 := HL2.out.1
        go_loopw [10] (fun s10 wr => ∃ k : Nat, k ≤ l.length ∧ s10 = .int .i64 k ∧ Hid (Bx (fun k => k < w.heap.size) wr p mx (runL mx [] (l.take k))) ∧ Hid (Kept (fun k => k < w.heap.size) w4 wr)) (fun s10 _ => l.length - (intOf s10).toNat)
        case atStart => exact ⟨0, by omega, rfl, H4, Lib.hid (Kept.refl _ _)⟩
        case round =>
          obtain ⟨k, hkl, rfl, HX, HK⟩ := hrel
          have i3 : (0 : Int) ≤ (k : Int) := by omega
          by_cases hlt : k < l.length
          · have hd : decide ((k : Int) < (l.length : Int)) = true := by simp; omega
            have i4 : (k : Int) < (l.length : Int) := by omega
            obtain ⟨ad, hA⟩ := HI.out.addr (Nat.lt_of_le_of_lt (Nat.zero_le _) hlt)
            subst hA
            have BW := Lib.hid (B4.out.trans (HK.out.below fun k hk => hk))
            have HC := Lib.hid (rcs_whole HI.out BW.out hlt)
            have SS := Lib.hid (sc_size l[k])
            have FF := Lib.hid ((HS.out.1 _ (List.getElem_mem hlt)).1.below BW.out)
            have VV := Lib.hid (HL.out.2 _ (List.getElem_mem hlt))
            have RT := Lib.hid (runL_take (mx := mx) (L := []) hlt)
            go_wp2_with (refine wpList_load_recs rfl 54 (.tmp 44) rfl _ rfl (sc l[k]) _ HC.out Try.underlying54 rfl SS.out ?_)
            (with_reducible refine (do_any _ _ p mx _ HX.out l[k] FF.out VV.out).mono ?_)
            rintro e7 w7 ⟨rfl, hx, hk⟩
            have HX7 := Lib.hid hx
            rw [← RT.out] at HX7
            have HK7 := Lib.hid (HK.out.trans hk)
            clear hx hk HX HK HC
            go_wp2_with fail
            go_roundw
            case rel => exact ⟨k + 1, by omega, by go_num, HX7, HK7⟩
            case measure => simp [intOf]; omega
          · obtain rfl : k = l.length := by omega
            have hd : decide ((l.length : Int) < (l.length : Int)) = false := by simp
            rw [List.take_length] at HX
            obtain ⟨v1, hv1⟩ : ∃ v1, v1 = wr := ⟨_, rfl⟩
            rw [← hv1] at HX HK
            rw [← hv1]
            clear hv1
            have BV := Lib.hid (B4.out.trans (HK.out.below fun _ h => h))
            clear HK H4 B4
            generalize hL1 : runL mx [] l = L1 at *
            clear hL1
            go_wp2_with fail
            (with_reducible refine (bx_copy _ v1 p mx L1 HX.out).mono ?_)
            rintro e8 v2 ⟨p', rfl, hc, -, hb⟩
            have C2 := Lib.hid hc
            have N2 := Lib.hid hb
            clear hc hb
            go_wp2_with fail
            (with_reducible refine (bx_all _ v2 p mx L1 (HX.out.step N2.out)).mono ?_)
            rintro e9 v3 ⟨us1, vv1, rfl, hu, hf, -, hb⟩
            have U1 := Lib.hid hu
            have F1 := Lib.hid hf
            have N3 := Lib.hid hb
            have C3 := Lib.hid (C2.out.below hb)
            have BV3 := Lib.hid (below_after BV.out (below_after N2.out hb (Nat.le_refl _)) (Nat.le_refl _))
            have S2 := Lib.hid N2.out.size
            clear hu hf hb
            have HX0 := Lib.hid HX.out
            clear HX
            go_wp2_with fail
            go_loopw [13] (fun s13 wr => ∃ k : Nat, k ≤ l2.length ∧ s13 = .int .i64 k ∧ Hid (Bx (fun k => k < v1.heap.size ∨ (v2.heap.size ≤ k ∧ k < v3.heap.size)) wr p' mx (runL mx L1 (l2.take k))) ∧ Hid (Kept (fun k => k < v1.heap.size ∨ (v2.heap.size ≤ k ∧ k < v3.heap.size)) v3 wr)) (fun s13 _ => l2.length - (intOf s13).toNat)
            case atStart => exact ⟨0, by omega, rfl, C3, Lib.hid (Kept.refl _ _)⟩
            case round =>
              obtain ⟨k, hkl, rfl, HX, HK⟩ := hrel
              have i3 : (0 : Int) ≤ (k : Int) := by omega
              by_cases hlt : k < l2.length
              · have hd : decide ((k : Int) < (l2.length : Int)) = true := by simp; omega
                have i4 : (k : Int) < (l2.length : Int) := by omega
                obtain ⟨ad, hA⟩ := HI2.out.addr (Nat.lt_of_le_of_lt (Nat.zero_le _) hlt)
                subst hA
                have BW := Lib.hid (BV3.out.trans (HK.out.below fun k hk => .inl (Nat.lt_of_lt_of_le hk BV.out.size)))
                have HC := Lib.hid (rcs_whole HI2.out BW.out hlt)
                have SS := Lib.hid (sc_size l2[k])
                have FF := Lib.hid ((HS2.out.1 _ (List.getElem_mem hlt)).1.below BW.out)
                have VV := Lib.hid (HL2.out.2 _ (List.getElem_mem hlt))
                have RT := Lib.hid (runL_take (mx := mx) (L := L1) hlt)
                go_wp2_with (refine wpList_load_recs rfl 54 (.tmp 61) rfl _ rfl (sc l2[k]) _ HC.out Try.underlying54 rfl SS.out ?_)
                (with_reducible refine (do_any _ _ p' mx _ HX.out l2[k] FF.out VV.out).mono ?_)
                rintro e7 w7 ⟨rfl, hx, hk⟩
                have HX7 := Lib.hid hx
                rw [← RT.out] at HX7
                have HK7 := Lib.hid (HK.out.trans hk)
                clear hx hk HX HK HC
                go_wp2_with fail
                go_roundw
                case rel => exact ⟨k + 1, by omega, by go_num, HX7, HK7⟩
                case measure => simp [intOf]; omega
              · obtain rfl : k = l2.length := by omega
                have hd : decide ((l2.length : Int) < (l2.length : Int)) = false := by simp
                rw [List.take_length] at HX
                obtain ⟨v4, hv4⟩ : ∃ v4, v4 = wr := ⟨_, rfl⟩
                rw [← hv4] at HX HK
                rw [← hv4]
                clear hv4
                have HX4 := Lib.hid HX.out
                have HK4 := Lib.hid HK.out
                have BV4 := Lib.hid (BV3.out.trans (HK.out.below fun k hk => .inl (Nat.lt_of_lt_of_le hk BV.out.size)))
                have HV14 := Lib.hid (show Below v1.heap.size v1 v4 from (below_after N2.out N3.out (Nat.le_refl _)).trans (HK.out.below fun k hk => .inl hk))
                have F4 := Lib.hid (F1.out.on (HK.out.on.mono fun k hk => .inr hk))
                have HS4 := Lib.hid HK.out.size
                clear HX HK C3
                generalize hL2 : runL mx L1 l2 = L2 at *
                have HLL2 := Lib.hid hL2
                clear hL2
                go_wp2_with fail
                (with_reducible refine (bx_all _ v4 p' mx L2 HX4.out).mono ?_)
                rintro e10 v5 ⟨us2, vv2, rfl, hu, hf, -, hb⟩
                have U2 := Lib.hid hu
                have F2 := Lib.hid hf
                have N5 := Lib.hid hb
                clear hu hf hb
                -- the box that the copy was made of
                have HB5 := Lib.hid (HX0.out.below (below_after HV14.out N5.out (Nat.le_refl _)))
                have C5 := Lib.hid (HX4.out.step N5.out)
                have F5 := Lib.hid (F4.out.on (Below.on N5.out fun k hk => by have := hk.2; have := HS4.out; omega))
                have BV5 := Lib.hid (below_after BV4.out N5.out (Nat.le_refl _))
                go_wp2_with fail
                (with_reducible refine (bx_all _ v5 p mx L1 HB5.out).mono ?_)
                rintro e11 v6 ⟨us3, vv3, rfl, hu, hf, hx6, hb⟩
                have U3 := Lib.hid hu
                have F3 := Lib.hid hf
                have HB6 := Lib.hid hx6
                have N6 := Lib.hid hb
                have C6 := Lib.hid (C5.out.step hb)
                have F6 := Lib.hid (F5.out.on (Below.on hb fun k hk => by have := hk.2; have := HS4.out; have := N5.out.size; omega))
                have G6 := Lib.hid (F2.out.on (Below.on hb fun k hk => hk.2))
                have BV6 := Lib.hid (below_after BV5.out hb (Nat.le_refl _))
                clear hu hf hx6 hb
                go_wp2_with fail
                have FS := Lib.hid (frames_same vv3 vv1 us3 us1 v6 F3.out.rcs F6.out.rcs F3.out.each F6.out.each (U3.out.trans U1.out.symm) (fun q hq => HX0.out.fit _ (by rw [← U3.out]; exact List.mem_map_of_mem hq)) (by have := congrArg List.length U3.out; have := HX0.out.few; simp at *; omega))
                (with_reducible refine FS.out.mono ?_)
                rintro e12 v7 ⟨rfl, hb⟩
                have N7 := Lib.hid hb
                have BV7 := Lib.hid (below_after BV6.out hb (Nat.le_refl _))
                have C7 := Lib.hid (C6.out.step hb)
                have HB7 := Lib.hid (HB6.out.below hb)
                have G7 := Lib.hid (G6.out.on (Below.on hb fun k hk => Nat.lt_of_lt_of_le hk.2 N6.out.size))
                have SZ := Lib.hid (show v1.heap.size ≤ v4.heap.size ∧ v4.heap.size ≤ v5.heap.size ∧ v5.heap.size ≤ v6.heap.size ∧ v6.heap.size ≤ v7.heap.size from ⟨HV14.out.size, N5.out.size, N6.out.size, hb.size⟩)
                clear hb FS F3 F6 HB6 C6 HB5 C5 F5 G6
                have HB7' := Lib.hid (HB7.out.mono (E := fun k => k < w.heap.size ∨ (v1.heap.size ≤ k ∧ k < v7.heap.size)) fun k hk => by
                  have := SZ.out
                  rcases hk with hk | hk
                  · exact .inl (.inl (.inl hk))
                  · by_cases h1 : k < v5.heap.size
                    · exact .inl (.inl (.inr ⟨hk.1, h1⟩))
                    · by_cases h2 : k < v6.heap.size
                      · exact .inl (.inr ⟨by omega, h2⟩)
                      · exact .inr ⟨by omega, hk.2⟩)
                clear HB7
                go_wp2_with fail
                go_loopw [15] (fun s15 wr => ∃ k : Nat, k ≤ l2.length ∧ s15 = .int .i64 k ∧ Hid (Bx (fun k => k < w.heap.size ∨ (v1.heap.size ≤ k ∧ k < v7.heap.size)) wr p mx (runL mx L1 (l2.take k))) ∧ Hid (Kept (fun k => k < w.heap.size ∨ (v1.heap.size ≤ k ∧ k < v7.heap.size)) v7 wr)) (fun s15 _ => l2.length - (intOf s15).toNat)
                case atStart => exact ⟨0, by omega, rfl, HB7', Lib.hid (Kept.refl _ _)⟩
                case round =>
                  obtain ⟨k, hkl, rfl, HX, HK⟩ := hrel
                  have i3 : (0 : Int) ≤ (k : Int) := by omega
                  by_cases hlt : k < l2.length
                  · have hd : decide ((k : Int) < (l2.length : Int)) = true := by simp; omega
                    have i4 : (k : Int) < (l2.length : Int) := by omega
                    obtain ⟨ad, hA⟩ := HI2.out.addr (Nat.lt_of_le_of_lt (Nat.zero_le _) hlt)
                    subst hA
                    have BW := Lib.hid (BV7.out.trans (HK.out.below fun k hk => .inl hk))
                    have HC := Lib.hid (rcs_whole HI2.out BW.out hlt)
                    have SS := Lib.hid (sc_size l2[k])
                    have FF := Lib.hid ((HS2.out.1 _ (List.getElem_mem hlt)).1.below BW.out)
                    have VV := Lib.hid (HL2.out.2 _ (List.getElem_mem hlt))
                    have RT := Lib.hid (runL_take (mx := mx) (L := L1) hlt)
                    go_wp2_with (refine wpList_load_recs rfl 54 (.tmp 81) rfl _ rfl (sc l2[k]) _ HC.out Try.underlying54 rfl SS.out ?_)
                    (with_reducible refine (do_any _ _ p mx _ HX.out l2[k] FF.out VV.out).mono ?_)
                    rintro e7 w7 ⟨rfl, hx, hk⟩
                    have HX7 := Lib.hid hx
                    rw [← RT.out] at HX7
                    have HK7 := Lib.hid (HK.out.trans hk)
                    clear hx hk HX HK HC
                    go_wp2_with fail
                    go_roundw
                    case rel => exact ⟨k + 1, by omega, by go_num, HX7, HK7⟩
                    case measure => simp [intOf]; omega
                  · obtain rfl : k = l2.length := by omega
                    have hd : decide ((l2.length : Int) < (l2.length : Int)) = false := by simp
                    rw [List.take_length] at HX
                    rw [HLL2.out] at HX
                    obtain ⟨v8, hv8⟩ : ∃ v8, v8 = wr := ⟨_, rfl⟩
                    rw [← hv8] at HX HK
                    rw [← hv8]
                    clear hv8
                    have SE := SZ.out
                    have C8 := Lib.hid (C7.out.kept HK.out fun k hk hn => .inr ⟨by
                      rcases Nat.lt_or_ge k v1.heap.size with h | h
                      · exact absurd (Or.inl h) hn
                      · exact h, hk⟩)
                    have G8 := Lib.hid (G7.out.on (HK.out.on.mono fun k hk => .inr ⟨by have := hk.1; omega, by have := hk.2; omega⟩))
                    have BV8 := Lib.hid (BV7.out.trans (HK.out.below fun k hk => .inl hk))
                    have HB8 := Lib.hid HX.out
                    have K8 := Lib.hid HK.out.size
                    clear HX HK C7 G7 HB7'
                    go_wp2_with fail
                    (with_reducible refine (bx_all _ v8 p mx L2 HB8.out).mono ?_)
                    rintro e13 v9 ⟨us4, vv4, rfl, hu, hf, -, hb⟩
                    have U4 := Lib.hid hu
                    have F9 := Lib.hid hf
                    have BV9 := Lib.hid (below_after BV8.out hb (Nat.le_refl _))
                    have G9 := Lib.hid (G8.out.on (Below.on hb fun k hk => by have := hk.2; have := SZ.out; have := K8.out; omega))
                    have C9 := Lib.hid (C8.out.step hb)
                    have S9 := Lib.hid hb.size
                    clear hu hf hb
                    go_wp2_with fail
                    have FS := Lib.hid (frames_same vv4 vv2 us4 us2 v9 F9.out.rcs G9.out.rcs F9.out.each G9.out.each (U4.out.trans U2.out.symm) (fun q hq => HX4.out.fit _ (by rw [← U4.out]; exact List.mem_map_of_mem hq)) (by have := congrArg List.length U4.out; have := HX4.out.few; simp at *; omega))
                    (with_reducible refine FS.out.mono ?_)
                    rintro e14 v10 ⟨rfl, hb⟩
                    have BV10 := Lib.hid (below_after BV9.out hb (Nat.le_refl _))
                    have G10 := Lib.hid (G9.out.on (Below.on hb fun k hk => by have := hk.2; have := SZ.out; have := K8.out; have := S9.out; omega))
                    have C10 := Lib.hid (C9.out.step hb)
                    have S10 := Lib.hid hb.size
                    clear hb FS
                    go_wp2_with fail
                    (with_reducible refine (bx_all _ v10 p' mx L2 C10.out).mono ?_)
                    rintro e15 v11 ⟨us5, vv5, rfl, hu, hf, -, hb⟩
                    have U5 := Lib.hid hu
                    have F11 := Lib.hid hf
                    have BV11 := Lib.hid (below_after BV10.out hb (Nat.le_refl _))
                    have G11 := Lib.hid (G10.out.on (Below.on hb fun k hk => by have := hk.2; have := SZ.out; have := K8.out; have := S9.out; have := S10.out; omega))
                    clear hu hf hb
                    go_wp2_with fail
                    have FS := Lib.hid (frames_same vv5 vv2 us5 us2 v11 F11.out.rcs G11.out.rcs F11.out.each G11.out.each (U5.out.trans U2.out.symm) (fun q hq => HX4.out.fit _ (by rw [← U5.out]; exact List.mem_map_of_mem hq)) (by have := congrArg List.length U5.out; have := HX4.out.few; simp at *; omega))
                    (with_reducible refine FS.out.mono ?_)
                    rintro e16 v12 ⟨rfl, hb⟩
                    have BV12 := Lib.hid (below_after BV11.out hb (Nat.le_refl _))
                    clear hb FS
                    go_wp2_with fail
                    go_ret
                    exact ⟨rfl, BV12.out⟩
end Go.Proofs.Ytmgiglefabbmcaa
