/-
  A walk over the law of what is found in so many rounds. It holds for every input that its premises let by.
-/
import Derived.Test.YtbjknjbjldodlaaRingJ
namespace Go.Proofs.Ytbjknjbjldodlaa
open Go.RowKit Sets
set_option maxRecDepth 20000
set_option maxHeartbeats 8000000 in
theorem finds_any (v : Value) (l : List Id2) (u : Value) (bs : List Int) (n : Int) (w : World) (h : Ids w v l) (h2 : Rcs encU 1 w u bs) (hr : -9223372036854775808 ≤ n ∧ n ≤ 9223372036854775807) :
    Calls Try.prog 5 #[v, u, .int .i64 n] w fun e w' => e = .returned (.bool true) ∧ Below w.heap.size w w' := by
  obtain ⟨A, c, rfl, hz⟩ := id h
  obtain ⟨A2, c2, rfl, hz2⟩ := id h2
  clear hz hz2
  have HI := Lib.hid h
  have HJ := Lib.hid h2
  clear h h2
  go_enter Try.func5, Try.ntmps5
  go_wp2_with fail
  refine (rises_one _ l w HI.out).mono ?_
  rintro e w1 ⟨rfl, hb⟩
  have I1 := Lib.hid (HI.out.below hb)
  have J1 := Lib.hid (HJ.out.below hb)
  have B2 := Lib.hid hb
  clear hb HI HJ
  cases hg : good l with
  | false =>
    go_wp2_with fail
    refine (awake_any _).mono ?_
    rintro e w2 ⟨rfl, hb⟩
    have B3 := Lib.hid (below_after B2.out hb (Nat.le_refl _))
    clear hb
    go_wp2_with fail
    go_ret
    exact ⟨rfl, B3.out⟩
  | true =>
  have HR := Lib.hid (good_rises hg).2
  have hlen := (good_rises hg).1
  clear hg
  by_cases h20 : 20 < l.length
  · have hd : decide ((20 : Int) < (l.length : Int)) = true := by simp; omega
    go_wp2_with fail
    refine (awake_any _).mono ?_
    rintro e w2 ⟨rfl, hb⟩
    have B3 := Lib.hid (below_after B2.out hb (Nat.le_refl _))
    clear hb
    go_wp2_with fail
    go_ret
    exact ⟨rfl, B3.out⟩
  have hd : decide ((20 : Int) < (l.length : Int)) = false := by simp; omega
  by_cases hn : n < 1
  · have hd2 : decide (n < 1) = true := by simpa using hn
    go_wp2_with fail
    refine (awake_any _).mono ?_
    rintro e w2 ⟨rfl, hb⟩
    have B3 := Lib.hid (below_after B2.out hb (Nat.le_refl _))
    clear hb
    go_wp2_with fail
    go_ret
    exact ⟨rfl, B3.out⟩
  have hd2 : decide (n < 1) = false := by simpa using hn
  go_wp2_with fail
  refine (awake_any _).mono ?_
  rintro e w4 ⟨rfl, hb⟩
  have I4 := Lib.hid (I1.out.below hb)
  have J4 := Lib.hid (J1.out.below hb)
  have B5 := Lib.hid (below_after B2.out hb (Nat.le_refl _))
  clear hb I1 J1 B2 hd hd2
  go_wp2_with fail
  go_loopw [7, 8] (fun s7 s8 wr => ∃ k : Nat, k ≤ l.length ∧ s8 = .int .i64 k ∧ Owns wr w4.heap.size s7 (hereOf (l.take k) bs) ∧ Below w4.heap.size w4 wr) (fun _ s8 _ => l.length - (intOf s8).toNat)
  case atStart => exact ⟨0, by omega, rfl, owns_nil _ _, Below.refl _ _⟩
  case round =>
    obtain ⟨k, hkl, rfl, ho, hw⟩ := hrel
    have HO := Lib.hid ho
    have HW := Lib.hid hw
    have hol : (hereOf (l.take k) bs).length ≤ l.length := Nat.le_trans (hereOf_len _ _) (by simp; omega)
    clear ho hw
    have i3 : (0 : Int) ≤ (k : Int) := by omega
    by_cases hlt : k < l.length
    · have hd : decide ((k : Int) < (l.length : Int)) = true := by simp; omega
      have i4 : (k : Int) < (l.length : Int) := by omega
      have HT := Lib.hid (hereOf_take l bs hlt)
      by_cases hkb : k < bs.length
      · have hd2 : decide ((k : Int) < (bs.length : Int)) = true := by simp; omega
        have i5 : (k : Int) < (bs.length : Int) := by omega
        obtain ⟨ab, rfl⟩ := J4.out.addr (show 0 < bs.length by omega)
        have cb := byte_at J4.out HW.out hkb
        have HT2 := HT.out
        rw [dif_pos hkb] at HT2
        have HT := Lib.hid HT2
        clear HT2
        generalize bs[k] = b at *
        cases hs : b.tmod 2 == 1 with
        | false =>
          have HF := Lib.hid (show hereOf (l.take (k + 1)) bs = hereOf (l.take k) bs by rw [HT.out, show selB b = false from hs]; simp)
          go_wp2_with fail
          go_roundw
          case rel => exact ⟨k + 1, by omega, by go_num, by rw [HF.out]; exact HO.out, HW.out⟩
          case measure => simp [intOf]; omega
        | true =>
          have HF := Lib.hid (show hereOf (l.take (k + 1)) bs = hereOf (l.take k) bs ++ [(l[k].1, l[k].2)] by rw [HT.out, show selB b = true from hs]; simp)
          obtain ⟨ad, rfl, c1, c2⟩ := I4.out.at_ HW.out hlt
          generalize l[k].1 = x at *
          generalize l[k].2 = y at *
          go_wp2_with (at_builtin; refine wpList_append_one rfl (.tmp 54) (.tmp 59) rfl wr w4.heap.size u7 (hereOf (l.take k) bs) x y rfl rfl HO.out (by omega) HW.out.size ?_; intro v8 w8 h8 h9; have O8 := Lib.hid h8; have B8 := Lib.hid (HW.out.trans h9); clear h8 h9)
          go_roundw
          case rel => exact ⟨k + 1, by omega, by go_num, by rw [HF.out]; exact O8.out, B8.out⟩
          case measure => simp [intOf]; omega
      · have hd2 : decide ((k : Int) < (bs.length : Int)) = false := by simp; omega
        have HF := Lib.hid (show hereOf (l.take (k + 1)) bs = hereOf (l.take k) bs by rw [HT.out, dif_neg hkb]; simp)
        go_wp2_with fail
        go_roundw
        case rel => exact ⟨k + 1, by omega, by go_num, by rw [HF.out]; exact HO.out, HW.out⟩
        case measure => simp [intOf]; omega
    · have hd : decide ((k : Int) < (l.length : Int)) = false := by simp; omega
      have HH0 := Lib.hid (show Owns wr w4.heap.size u7 (hereOf l bs) by have := HO.out; rwa [List.take_of_length_le (by omega)] at this)
      have hhl := hereOf_len l bs
      have HIN := Lib.hid fun z (hz : z ∈ hereOf l bs) => mem_hereOf hz
      generalize hereOf l bs = H at *
      have HH1 := Lib.hid (ids_of_owns HH0.out)
      obtain ⟨Ah, ch, rfl, hz⟩ := id HH1.out
      clear hz HO HH0
      by_cases hnil : H.length = 0
      · have h0 : (((H.length : Nat) : Int) == 0) = true := by simp [hnil]
        go_wp2_with fail
        go_ret
        exact ⟨rfl, below_after B5.out HW.out (Nat.le_refl _)⟩
      have h0 : (((H.length : Nat) : Int) == 0) = false := by rw [beq_eq_false_iff_ne]; omega
      have HNE := Lib.hid (show H ≠ [] from fun e => hnil (by rw [e]; rfl))
      have hmk := run_makeN H.length (by omega)
      go_upto_region 12 with fail
      clear h0 hd hmk
      have NA0 := Lib.hid (notAt_made wr H.length)
      have hb := below_one wr (.cells (Array.replicate H.length (.slice none 0 0)) 25)
      have HH2 := Lib.hid (HH1.out.below hb)
      have BW := Lib.hid (HW.out.trans (hb.mono HW.out.size))
      have hgN := HW.out.size
      clear hb HH1 HW
      generalize wr.alloc (.cells (Array.replicate H.length (.slice none 0 0)) 25) = wm at *
      generalize wr.heap.size = gN at *
      go_wp2_with fail
      go_loopw [10] (fun s10 wr => ∃ (r : Nat) (vs : List Value) (nots : List (List Id2)), r ≤ l.length ∧ s10 = .int .i64 r ∧ Hid (NotAt wr gN vs nots) ∧ Hid (nots.length = H.length) ∧ Hid (∀ (j : Nat) (h1 : j < H.length) (h2 : j < nots.length), Row14 l H r H[j] nots[j]) ∧ Hid (Ids wr (.slice Ah H.length ch) H) ∧ Hid (Below w4.heap.size w4 wr)) (fun s10 _ => l.length - (intOf s10).toNat)
      case atStart => exact ⟨0, _, _, by omega, rfl, NA0, Lib.hid (by simp), Lib.hid (fun j h1 h2 => by rw [List.getElem_replicate]; exact Row14.zero _ _ _), HH2, BW⟩
      case round =>
        obtain ⟨r, vs, nots, hrl, rfl, NA, NL, NR, HH, HW⟩ := hrel
        have i6 : (0 : Int) ≤ (r : Int) := by omega
        by_cases hltr : r < l.length
        · have hd : decide ((r : Int) < (l.length : Int)) = true := by simp; omega
          go_wp2_with fail
          go_loopw [11] (fun s11 wr => ∃ (k : Nat) (vs : List Value) (nots : List (List Id2)), k ≤ H.length ∧ s11 = .int .i64 k ∧ Hid (NotAt wr gN vs nots) ∧ Hid (nots.length = H.length) ∧ Hid (∀ (j : Nat) (h1 : j < H.length) (h2 : j < nots.length), Row14 l H (if j < k then r + 1 else r) H[j] nots[j]) ∧ Hid (Ids wr (.slice Ah H.length ch) H) ∧ Hid (Below w4.heap.size w4 wr)) (fun s11 _ => H.length - (intOf s11).toNat)
          case atStart => exact ⟨0, vs, nots, by omega, rfl, NA, NL, Lib.hid (fun j h1 h2 => by rw [if_neg (by omega)]; exact NR.out j h1 h2), HH, HW⟩
          case round =>
            clear NA NL NR HH HW
            obtain ⟨k, vs, nots, hkl, rfl, NA, NL, NR, HH, HW⟩ := hrel
            have i7 : (0 : Int) ≤ (k : Int) := by omega
            by_cases hltk : k < H.length
            · have hd3 : decide ((k : Int) < (H.length : Int)) = true := by simp; omega
              have i8 : (k : Int) < (H.length : Int) := by omega
              have hkn : k < nots.length := by rw [NL.out]; exact hltk
              obtain ⟨ah, rfl, c1, c2⟩ := HH.out.at_ (Below.refl _ _) hltk
              have C1 := Lib.hid fun W' (hb : Below wr.heap.size wr W') => (And.intro (cell1 HH.out hb hltk) (cell2 HH.out hb hltk))
              obtain ⟨An, cn, c3, hin, _⟩ := NA.out.cell hkn
              have HIN2 := Lib.hid hin
              have RK := Lib.hid (show Row14 l H r H[k] nots[k] by have := NR.out k hltk hkn; rwa [if_neg (by omega)] at this)
              have STEP := Lib.hid (RK.out.step HR.out (n := n) (by omega))
              have hntl : (nots[k]).length ≤ l.length := len_of_mem RK.out.rises fun z hz => (RK.out.inl z hz).1
              have HNT := Lib.hid (show ∀ nt, (∀ (j : Nat) (h1 : j < H.length) (h2 : j < nots.length), True) → nt = nots[k] → nots.set k nt = nots from fun nt _ e => by rw [e]; exact List.set_getElem_self hkn)
              have HOTHER := Lib.hid NR.out
              have HKE : Hid (H[k] = (H[k].1, H[k].2)) := Lib.hid rfl
              have hc3 := fun W' (hb : Below wr.heap.size wr W') => (hb.cell (lots_lt NA.out.lots) : W'.cell? ⟨gN, k, none⟩ = _).trans c3
              have HC3 := Lib.hid hc3
              clear hc3 hin
              obtain ⟨nt, hnt⟩ : ∃ nt, nt = nots[k] := ⟨_, rfl⟩
              obtain ⟨me, hme⟩ : ∃ me, me = H[k] := ⟨_, rfl⟩
              rw [← hnt] at c3 HIN2 STEP hntl HC3
              rw [← hme] at STEP c1 c2 C1 
              obtain ⟨x, y⟩ := me
              dsimp only at c1 c2 C1
              have HNTE := Lib.hid hnt
              have HMEE := Lib.hid hme
              clear hnt hme HNT HKE
              have KS := Lib.hid fun w' (hb : Below wr.heap.size wr w') => (show ((w'.cell? (ah.add (k * 2)) = some (.int .i64 x) ∧ w'.cell? ⟨(ah.add (k * 2)).block, (ah.add (k * 2)).off + 1, none⟩ = some (.int .i64 y)) ∧ w'.cell? ⟨gN, k, none⟩ = some (.slice An nt.length cn)) ∧ Hid (Below wr.heap.size wr w') from ⟨⟨C1.out _ hb, HC3.out _ hb⟩, Lib.hid hb⟩)
              clear c1 c2 c3 C1 HC3
              go_wp2_with fail
              go_region_held3 (fun w' => ((w'.cell? (ah.add (k * 2)) = some (.int .i64 x) ∧ w'.cell? ⟨(ah.add (k * 2)).block, (ah.add (k * 2)).off + 1, none⟩ = some (.int .i64 y)) ∧ w'.cell? ⟨gN, k, none⟩ = some (.slice An nt.length cn)) ∧ Hid (Below wr.heap.size wr w'))
                (first | exact KS.out _ (Below.refl _ _).drew | exact KS.out _ KB.out)
                (first | (go_at_call 11; (with_reducible refine (watched_any _ _ l nt x y n _ (I4.out.below (HW.out.trans ((Below.refl wr.heap.size wr).drew.mono HW.out.size))) (HIN2.out.below (Below.refl _ _).drew) (by omega) (by omega) hr.1 hr.2).mono ?_); rintro e w6 ⟨vw, rfl, hi, hb⟩; have KB := Lib.hid (show Below wr.heap.size wr w6 from (Below.refl _ _).drew.trans hb); have LW := Lib.hid (show Ids w6 vw (watchL l (x, y) nt n) from hi); clear hi hb))
              have HH6 := Lib.hid (HH.out.below KB.out)
              have NA6 := Lib.hid (NA.out.below KB.out)
              have B6 := Lib.hid (HW.out.trans (KB.out.mono HW.out.size))
              have hwl := watchL_short HR.out (x, y) nt n
              have HWIN := Lib.hid fun z (hz : z ∈ watchL l (x, y) nt n) => (watchL_in hz).1
              generalize watchL l (x, y) nt n = L at *
              obtain ⟨Aw, cw, rfl, hz⟩ := id LW.out
              have NA7 := Lib.hid (show NotAt w6 gN vs (nots.set k (learn H nt (L.take 0))) from by rw [List.take_zero, show learn H nt [] = nt from rfl, HNTE.out, List.set_getElem_self]; exact NA6.out)
              have HNI := Lib.hid (show ∀ z ∈ nt, z ∈ l from fun z hz => by rw [HNTE.out] at hz; exact (RK.out.inl z hz).1)
              clear hz NA6 KB HH HW NA HIN2 KS
              go_wp2_with fail
              go_loopw [13] (fun s13 wr => ∃ (i : Nat) (vs : List Value), i ≤ L.length ∧ s13 = .int .i64 i ∧ Hid (NotAt wr gN vs (nots.set k (learn H nt (L.take i)))) ∧ Hid (Ids wr (.slice (some ah) H.length ch) H) ∧ Hid (Ids wr (.slice Aw L.length cw) L) ∧ Hid (Below w4.heap.size w4 wr)) (fun s13 _ => L.length - (intOf s13).toNat)
              case atStart => exact ⟨0, vs, by omega, rfl, NA7, HH6, LW, B6⟩
              case round =>
                clear NA7 HH6 LW B6
                obtain ⟨i, vs2, hil, rfl, NA, HH, HL, HW⟩ := hrel
                have i9 : (0 : Int) ≤ (i : Int) := by omega
                by_cases hlti : i < L.length
                · have hd4 : decide ((i : Int) < (L.length : Int)) = true := by simp; omega
                  have i10 : (i : Int) < (L.length : Int) := by omega
                  have hll : (learn H nt (L.take i)).length ≤ l.length := len_of_mem (learn_rises _ _ _ (by rw [HNTE.out]; exact RK.out.rises)) fun z hz => by
                    rcases (mem_learn H z _ _).1 hz with h1 | h1
                    · exact HNI.out z h1
                    · exact HWIN.out z (List.mem_of_mem_take h1.1)
                  obtain ⟨aw, rfl, c1, c2⟩ := HL.out.at_ (Below.refl _ _) hlti
                  have C1 := Lib.hid fun W' (hb : Below wr.heap.size wr W') => (And.intro (cell1 HL.out hb hlti) (cell2 HL.out hb hlti))
                  have HLT := Lib.hid (learn_take H nt L hlti)
                  generalize L[i].1 = x2 at *
                  generalize L[i].2 = y2 at *
                  go_wp2_with fail
                  refine (refHas_any _ H x2 y2 _ HH.out (by omega)).mono ?_
                  rintro e w7 ⟨rfl, hb⟩
                  have NA := Lib.hid (NA.out.below hb)
                  have HH := Lib.hid (HH.out.below hb)
                  have HL := Lib.hid (HL.out.below hb)
                  have HW := Lib.hid (HW.out.trans (hb.mono HW.out.size))
                  clear c1 c2
                  obtain ⟨c1, c2⟩ := C1.out _ hb
                  clear C1 hb
                  cases hh : hasB (x2, y2) H with
                  | true =>
                    have HLT := Lib.hid (show learn H nt (L.take (i + 1)) = learn H nt (L.take i) by rw [HLT.out, if_pos hh])
                    go_wp2_with fail
                    go_roundw
                    case rel => exact ⟨i + 1, vs2, by omega, by go_num, by rw [HLT.out]; exact NA, HH, HL, HW⟩
                    case measure => simp [intOf]; omega
                  | false =>
                    have HLT := Lib.hid (show learn H nt (L.take (i + 1)) = put (learn H nt (L.take i)) (x2, y2) by rw [HLT.out, if_neg (by rw [hh]; simp)])
                    have hkn2 : k < (nots.set k (learn H nt (L.take i))).length := by rw [List.length_set]; exact hkn
                    obtain ⟨Ap, cp, c3, hpv, f3⟩ := NA.out.cell hkn2
                    rw [List.getElem_set_self] at c3 hpv
                    have PV := Lib.hid hpv
                    clear hpv hh
                    go_wp2_with fail
                    refine wp_region_held_drew (S := (fun _ : World => True)) (by kernel_rfl) ?_ (fun hHeld => ?_)
                    · try trivial
                    (refine wpAnyH_take (i := 0) (oi := ⟨_, _, _, _, _, _⟩) (v := ?_) rfl (by kernel_rfl) (by kernel_rfl) (by kernel_rfl) (fun _ _ _ h => h) (Or.inl ⟨by rfl, ?_⟩) (by assumption) ?_; rotate_left 1; · (intro w hSw; (try dsimp only at hSw); go_simp; all_goals with_reducible rfl))
                    try simp only [Act.put, List.setIfInBounds_toArray, List.set_cons_zero, List.set_cons_succ]
                    (refine wpAnyH_take (i := 1) (oi := ⟨_, _, _, _, _, _⟩) (v := ?_) rfl (by kernel_rfl) (by kernel_rfl) (by kernel_rfl) (fun _ _ _ h => h) (Or.inl ⟨by rfl, ?_⟩) (by assumption) ?_; rotate_left 1; · (intro w hSw; (try dsimp only at hSw); go_simp; all_goals with_reducible rfl))
                    try simp only [Act.put, List.setIfInBounds_toArray, List.set_cons_zero, List.set_cons_succ]
                    (refine wpAnyH_take (i := 2) (oi := ⟨_, _, _, _, _, _⟩) (v := ?_) rfl (by kernel_rfl) (by kernel_rfl) (by kernel_rfl) (fun _ _ _ h => h) (Or.inl ⟨by rfl, ?_⟩) (by assumption) ?_; rotate_left 1; · (intro w hSw; (try dsimp only at hSw); go_simp; all_goals with_reducible rfl))
                    try simp only [Act.put, List.setIfInBounds_toArray, List.set_cons_zero, List.set_cons_succ]
                    (refine wpAnyH_take (i := 3) (oi := ⟨_, _, _, _, _, _⟩) (v := ?_) rfl (by kernel_rfl) (by kernel_rfl) (by kernel_rfl) (fun _ _ _ h => h) (Or.inl ⟨by rfl, ?_⟩) (by assumption) ?_; rotate_left 1; · (intro w hSw; (try dsimp only at hSw); go_simp; all_goals with_reducible rfl))
                    try simp only [Act.put, List.setIfInBounds_toArray, List.set_cons_zero, List.set_cons_succ]
                    (refine wpAnyH_take (i := 4) (oi := ⟨_, _, _, _, _, _⟩) (v := ?_) rfl (by kernel_rfl) (by kernel_rfl) (by kernel_rfl) (fun _ _ _ h => h) (Or.inl ⟨by rfl, ?_⟩) (by assumption) ?_; rotate_left 1; · (intro w hSw; (try dsimp only at hSw); go_simp; all_goals with_reducible rfl))
                    try simp only [Act.put, List.setIfInBounds_toArray, List.set_cons_zero, List.set_cons_succ]
                    (refine wpAnyH_take (i := 6) (oi := ⟨_, _, _, _, _, _⟩) (v := ?_) rfl (by kernel_rfl) (by kernel_rfl) (by kernel_rfl) (fun _ _ _ h => h) (Or.inl ⟨by rfl, ?_⟩) (by assumption) ?_; rotate_left 1; · (intro w hSw; (try dsimp only at hSw); go_simp; all_goals with_reducible rfl))
                    try simp only [Act.put, List.setIfInBounds_toArray, List.set_cons_zero, List.set_cons_succ]
                    (refine wpAnyH_take (i := 7) (oi := ⟨_, _, _, _, _, _⟩) (v := ?_) rfl (by kernel_rfl) (by kernel_rfl) (by kernel_rfl) (fun _ _ _ h => h) (Or.inl ⟨by rfl, ?_⟩) (by assumption) ?_; rotate_left 1; · (intro w hSw; (try dsimp only at hSw); go_simp; all_goals with_reducible rfl))
                    try simp only [Act.put, List.setIfInBounds_toArray, List.set_cons_zero, List.set_cons_succ]
                    (refine wpAnyH_take (i := 8) (oi := ⟨_, _, _, _, _, _⟩) (v := ?_) rfl (by kernel_rfl) (by kernel_rfl) (by kernel_rfl) (fun _ _ _ h => h) (Or.inl ⟨by rfl, ?_⟩) (by assumption) ?_; rotate_left 1; · (intro w hSw; (try dsimp only at hSw); go_simp; all_goals with_reducible rfl))
                    try simp only [Act.put, List.setIfInBounds_toArray, List.set_cons_zero, List.set_cons_succ]
                    refine wpAnyH_ready (rs := [5, 9]) (by kernel_rfl) (by simp) ?_
                    refine AllReadyH.cons (o := ⟨_, _, _, _, _, _⟩) rfl (fun Kq hKq => ?_) (AllReadyH.cons (o := ⟨_, _, _, _, _, _⟩) rfl (fun Kq hKq => ?_) (AllReadyH.nil))
                    · go_simp
                      clear hHeld
                      refine hKq.out _ _ ?_ (fun hHeld => ?_)
                      · (try dsimp only); try trivial
                      clear hKq Kq
                      try simp only [Act.put, List.setIfInBounds_toArray, List.set_cons_zero, List.set_cons_succ]
                      refine wpAnyH_ready (rs := [9]) (by kernel_rfl) (by simp) ?_
                      refine AllReadyH.cons (o := ⟨_, _, _, _, _, _⟩) rfl (fun Kq hKq => ?_) (AllReadyH.nil)
                      go_simp
                      clear hHeld
                      refine hKq.out _ _ ?_ (fun hHeld => ?_)
                      · (try dsimp only); try trivial
                      clear hKq Kq
                      try simp only [Act.put, List.setIfInBounds_toArray, List.set_cons_zero, List.set_cons_succ]
                      refine wpAnyH_ready (rs := [10]) (by kernel_rfl) (by simp) ?_
                      refine AllReadyH.cons (o := ⟨_, _, _, _, _, _⟩) rfl (fun Kq hKq => ?_) (AllReadyH.nil)
                      go_simp
                      clear hHeld
                      go_at_call 14; (with_reducible refine (docPut_any _ (learn H nt (L.take i)) x2 y2 _ (PV.out.below (Below.refl _ _).drew) (by omega)).mono ?_); rintro e w8 ⟨v8, rfl, hi, hb⟩; have KB := Lib.hid (show Below w7.heap.size w7 w8 from (Below.refl _ _).drew.trans hb); have V8 := Lib.hid hi; have N8 := Lib.hid (NA.out.below KB.out); obtain ⟨A8, c8, rfl, hz⟩ := hi; clear hz hb
                      refine hKq.out _ _ ?_ (fun hHeld => ?_)
                      · (try dsimp only); try trivial
                      clear hKq Kq
                      try simp only [Act.put, List.setIfInBounds_toArray, List.set_cons_zero, List.set_cons_succ]
                      (refine wpAnyH_take (i := 11) (oi := ⟨_, _, _, _, _, _⟩) (v := ?_) rfl (by kernel_rfl) (by kernel_rfl) (by kernel_rfl) (fun _ _ _ h => h) (Or.inl ⟨by rfl, ?_⟩) (by assumption) ?_; rotate_left 1; · (intro w hSw; (try dsimp only at hSw); go_simp; all_goals with_reducible rfl))
                      try simp only [Act.put, List.setIfInBounds_toArray, List.set_cons_zero, List.set_cons_succ]
                      refine wpAnyH_ready (rs := [12]) (by kernel_rfl) (by simp) ?_
                      refine AllReadyH.cons (o := ⟨_, _, _, _, _, _⟩) rfl (fun Kq hKq => ?_) (AllReadyH.nil)
                      obtain ⟨A9, c9, cX, _, fX⟩ := N8.out.cell hkn2
                      go_simp
                      clear hHeld
                      refine hKq.out _ _ ?_ (fun hHeld => ?_)
                      · (try dsimp only); try trivial
                      clear hKq Kq
                      try simp only [Act.put, List.setIfInBounds_toArray, List.set_cons_zero, List.set_cons_succ]
                      refine wpAnyH_done (by kernel_rfl) ?_ _
                      have FIN := Lib.hid (N8.out.set hkn2 V8.out)
                      have H9 := Lib.hid ((HH.out.below KB.out).stored cX (.slice A8 (put (learn H nt (L.take i)) (x2, y2)).length c8))
                      have L9 := Lib.hid ((HL.out.below KB.out).stored cX (.slice A8 (put (learn H nt (L.take i)) (x2, y2)).length c8))
                      have B9 := Lib.hid (((HW.out.trans (KB.out.mono HW.out.size)).setCell (p := ⟨gN, k, none⟩) hgN (.slice A8 (put (learn H nt (L.take i)) (x2, y2)).length c8)))
                      rw [List.set_set] at FIN
                      clear cX fX
                      generalize w8.setCell ⟨gN, k, none⟩ (.slice A8 (put (learn H nt (L.take i)) (x2, y2)).length c8) = w9 at *
                      go_wp2_with fail
                      go_roundw
                      case rel => exact ⟨i + 1, _, by omega, by go_num, (by rw [HLT.out]; exact FIN), H9, L9, B9⟩
                      case measure => simp [intOf]; omega
                    · go_simp
                      clear hHeld
                      refine hKq.out _ _ ?_ (fun hHeld => ?_)
                      · (try dsimp only); try trivial
                      clear hKq Kq
                      try simp only [Act.put, List.setIfInBounds_toArray, List.set_cons_zero, List.set_cons_succ]
                      refine wpAnyH_ready (rs := [5]) (by kernel_rfl) (by simp) ?_
                      refine AllReadyH.cons (o := ⟨_, _, _, _, _, _⟩) rfl (fun Kq hKq => ?_) (AllReadyH.nil)
                      go_simp
                      clear hHeld
                      refine hKq.out _ _ ?_ (fun hHeld => ?_)
                      · (try dsimp only); try trivial
                      clear hKq Kq
                      try simp only [Act.put, List.setIfInBounds_toArray, List.set_cons_zero, List.set_cons_succ]
                      refine wpAnyH_ready (rs := [10]) (by kernel_rfl) (by simp) ?_
                      refine AllReadyH.cons (o := ⟨_, _, _, _, _, _⟩) rfl (fun Kq hKq => ?_) (AllReadyH.nil)
                      go_simp
                      clear hHeld
                      go_at_call 14; (with_reducible refine (docPut_any _ (learn H nt (L.take i)) x2 y2 _ (PV.out.below (Below.refl _ _).drew) (by omega)).mono ?_); rintro e w8 ⟨v8, rfl, hi, hb⟩; have KB := Lib.hid (show Below w7.heap.size w7 w8 from (Below.refl _ _).drew.trans hb); have V8 := Lib.hid hi; have N8 := Lib.hid (NA.out.below KB.out); obtain ⟨A8, c8, rfl, hz⟩ := hi; clear hz hb
                      refine hKq.out _ _ ?_ (fun hHeld => ?_)
                      · (try dsimp only); try trivial
                      clear hKq Kq
                      try simp only [Act.put, List.setIfInBounds_toArray, List.set_cons_zero, List.set_cons_succ]
                      (refine wpAnyH_take (i := 11) (oi := ⟨_, _, _, _, _, _⟩) (v := ?_) rfl (by kernel_rfl) (by kernel_rfl) (by kernel_rfl) (fun _ _ _ h => h) (Or.inl ⟨by rfl, ?_⟩) (by assumption) ?_; rotate_left 1; · (intro w hSw; (try dsimp only at hSw); go_simp; all_goals with_reducible rfl))
                      try simp only [Act.put, List.setIfInBounds_toArray, List.set_cons_zero, List.set_cons_succ]
                      refine wpAnyH_ready (rs := [12]) (by kernel_rfl) (by simp) ?_
                      refine AllReadyH.cons (o := ⟨_, _, _, _, _, _⟩) rfl (fun Kq hKq => ?_) (AllReadyH.nil)
                      obtain ⟨A9, c9, cX, _, fX⟩ := N8.out.cell hkn2
                      go_simp
                      clear hHeld
                      refine hKq.out _ _ ?_ (fun hHeld => ?_)
                      · (try dsimp only); try trivial
                      clear hKq Kq
                      try simp only [Act.put, List.setIfInBounds_toArray, List.set_cons_zero, List.set_cons_succ]
                      refine wpAnyH_done (by kernel_rfl) ?_ _
                      have FIN := Lib.hid (N8.out.set hkn2 V8.out)
                      have H9 := Lib.hid ((HH.out.below KB.out).stored cX (.slice A8 (put (learn H nt (L.take i)) (x2, y2)).length c8))
                      have L9 := Lib.hid ((HL.out.below KB.out).stored cX (.slice A8 (put (learn H nt (L.take i)) (x2, y2)).length c8))
                      have B9 := Lib.hid (((HW.out.trans (KB.out.mono HW.out.size)).setCell (p := ⟨gN, k, none⟩) hgN (.slice A8 (put (learn H nt (L.take i)) (x2, y2)).length c8)))
                      rw [List.set_set] at FIN
                      clear cX fX
                      generalize w8.setCell ⟨gN, k, none⟩ (.slice A8 (put (learn H nt (L.take i)) (x2, y2)).length c8) = w9 at *
                      go_wp2_with fail
                      go_roundw
                      case rel => exact ⟨i + 1, _, by omega, by go_num, (by rw [HLT.out]; exact FIN), H9, L9, B9⟩
                      case measure => simp [intOf]; omega
                · have hd4 : decide ((i : Int) < (L.length : Int)) = false := by simp; omega
                  have NF := Lib.hid (show NotAt wr gN vs2 (nots.set k (learn H nt L)) by have := NA.out; rwa [List.take_of_length_le (by omega)] at this)
                  have ROWS := Lib.hid (show ∀ (j : Nat) (h1 : j < H.length) (h2 : j < (nots.set k (learn H nt L)).length), Row14 l H (if j < k + 1 then r + 1 else r) H[j] (nots.set k (learn H nt L))[j] from fun j h1 h2 => by
                    rw [List.getElem_set]
                    by_cases e : k = j
                    · subst e
                      rw [if_pos rfl, if_pos (by omega), ← HMEE.out]
                      exact STEP.out
                    · rw [if_neg e]
                      have := HOTHER.out j h1 (by rw [List.length_set] at h2; exact h2)
                      by_cases hj : j < k
                      · rw [if_pos hj] at this
                        rw [if_pos (by omega)]
                        exact this
                      · rw [if_neg hj] at this
                        rw [if_neg (by omega)]
                        exact this)
                  clear NA
                  go_wp2_with fail
                  go_roundw
                  case rel => exact ⟨k + 1, _, _, by omega, by go_num, NF, Lib.hid (by rw [List.length_set]; exact NL.out), ROWS, HH, HW⟩
                  case measure => simp [intOf]; omega
            · have hd3 : decide ((k : Int) < (H.length : Int)) = false := by simp; omega
              have ROWS := Lib.hid (show ∀ (j : Nat) (h1 : j < H.length) (h2 : j < nots.length), Row14 l H (r + 1) H[j] nots[j] from fun j h1 h2 => by
                have := NR.out j h1 h2
                rwa [if_pos (by omega)] at this)
              go_wp2_with fail
              go_roundw
              case rel => exact ⟨r + 1, _, _, by omega, by go_num, NA, NL, ROWS, HH, HW⟩
              case measure => simp [intOf]; omega
        · have hd : decide ((r : Int) < (l.length : Int)) = false := by simp; omega
          have ROWS := Lib.hid (show ∀ (j : Nat) (h1 : j < H.length) (h2 : j < nots.length), Row14 l H l.length H[j] nots[j] from fun j h1 h2 => by
            have := NR.out j h1 h2
            rwa [show r = l.length by omega] at this)
          have FOUND := Lib.hid fun z => found_all HR.out HIN.out HNE.out nots NL.out ROWS.out z
          have HIN3 := Lib.hid (show ∀ nt ∈ nots, ∀ z ∈ nt, z ∈ l from fun nt hnt z hz => ((FOUND.out z).1 ⟨nt, hnt, hz⟩).1)
          have HFL := Lib.hid fun k => foundK_len (nots := nots) HIN3.out k
          have hnl := NL.out
          have HNL := Lib.hid fun (j : Nat) (hj : j < nots.length) => len_of_mem ((ROWS.out j (by omega) hj).rises) fun z hz => HIN3.out _ (List.getElem_mem hj) z hz
          clear NR ROWS
          obtain ⟨wA, hwA⟩ : ∃ wA, wA = wr := ⟨_, rfl⟩
          have NA1 := Lib.hid (show NotAt wA gN vs nots by rw [hwA]; exact NA.out)
          have HH1 := Lib.hid (show Ids wA (.slice Ah H.length ch) H by rw [hwA]; exact HH.out)
          have HW1 := Lib.hid (show Below w4.heap.size w4 wA by rw [hwA]; exact HW.out)
          clear NA HH HW
          go_wp2_with fail
          rw [← hwA]
          clear hwA
          go_loopw [14, 15] (fun s14 s15 wr => ∃ k : Nat, k ≤ H.length ∧ s15 = .int .i64 k ∧ Ids wr s14 (foundK (nots.take k)) ∧ Below wA.heap.size wA wr) (fun _ s15 _ => H.length - (intOf s15).toNat)
          case atStart => exact ⟨0, by omega, rfl, Ids.nil _, Below.refl _ _⟩
          case round =>
            obtain ⟨k, hkl, rfl, hf, hw⟩ := hrel
            have HF := Lib.hid hf
            have HWK := Lib.hid hw
            have hfl := HFL.out k
            clear hf hw
            have i7 : (0 : Int) ≤ (k : Int) := by omega
            by_cases hltk : k < H.length
            · have hd3 : decide ((k : Int) < (H.length : Int)) = true := by simp; omega
              have i8 : (k : Int) < (H.length : Int) := by omega
              have hkn : k < nots.length := by omega
              obtain ⟨An, cn, c3, hin, _⟩ := (NA1.out.below HWK.out).cell hkn
              have HT := Lib.hid (foundK_take hkn)
              have HNK := HNL.out k hkn
              have HIN2 := Lib.hid hin
              clear hin
              generalize nots[k] = nt at *
              go_wp2_with fail
              refine (docJoin_any _ _ (foundK (nots.take k)) nt _ HF.out HIN2.out (by omega) (by omega)).mono ?_
              rw [← HT.out]
              rintro e w6 ⟨vf, rfl, hi, hb⟩
              have F6 := Lib.hid hi
              have B6 := Lib.hid (HWK.out.trans (hb.mono HWK.out.size))
              clear hi hb c3
              go_wp2_with fail
              go_roundw
              case rel => exact ⟨k + 1, by omega, by go_num, F6.out, B6.out⟩
              case measure => simp [intOf]; omega
            · have hd3 : decide ((k : Int) < (H.length : Int)) = false := by simp; omega
              have HF2 := Lib.hid (show Ids wr u14 (foundK nots) by have := HF.out; rwa [List.take_of_length_le (by omega)] at this)
              have hfl2 : (foundK nots).length ≤ l.length := by have := HFL.out nots.length; rwa [List.take_length] at this
              have I6 := Lib.hid (I4.out.below (HW1.out.trans (HWK.out.mono HW1.out.size)))
              have H6 := Lib.hid (HH1.out.below HWK.out)
              have B6 := Lib.hid (HW1.out.trans (HWK.out.mono HW1.out.size))
              obtain ⟨wB, hwB⟩ : ∃ wB, wB = wr := ⟨_, rfl⟩
              rw [← hwB] at HF2 I6 H6 B6
              clear HF HWK
              go_wp2_with (at_builtin; refine wpList_append_list rfl (.tmp 127) (.tmp 128) rfl _ wr.heap.size _ _ [] l rfl rfl (owns_made wr wr.heap.size (Nat.le_refl _)) (Ids.below (hwB ▸ I6.out) (below_one wr _)) (by simp; omega) (by simp) ?_; intro v8 w8 h8 h9; have O8 := Lib.hid (show Ids w8 v8 l from ids_of_owns h8); have B8 := Lib.hid (show Below wr.heap.size wr w8 from (below_one wr _).trans h9); clear h8 h9)
              rw [← hwB] at B8
              have HF8 := Lib.hid (HF2.out.below B8.out)
              have H8 := Lib.hid (H6.out.below B8.out)
              have B9 := Lib.hid (B6.out.trans (B8.out.mono B6.out.size))
              clear hwB hd3
              go_loopw [16, 17] (fun s16 s17 wr => ∃ k : Nat, k ≤ H.length ∧ s17 = .int .i64 k ∧ Ids wr s16 (leftK l (H.take k)) ∧ Below w8.heap.size w8 wr) (fun _ s17 _ => H.length - (intOf s17).toNat)
              case atStart => exact ⟨0, by omega, rfl, O8.out, Below.refl _ _⟩
              case round =>
                obtain ⟨k, hkl, rfl, hf, hw⟩ := hrel
                have HF := Lib.hid hf
                have HWK := Lib.hid hw
                have hfl := leftK_len (H.take k) l
                clear hf hw
                have i7 : (0 : Int) ≤ (k : Int) := by omega
                by_cases hltk : k < H.length
                · have hd3 : decide ((k : Int) < (H.length : Int)) = true := by simp; omega
                  have i8 : (k : Int) < (H.length : Int) := by omega
                  obtain ⟨ah, rfl, c1, c2⟩ := H8.out.at_ HWK.out hltk
                  have HT := Lib.hid (leftK_take (l := l) hltk)
                  generalize H[k].1 = x at *
                  generalize H[k].2 = y at *
                  go_wp2_with fail
                  refine (docDel_any _ (leftK l (H.take k)) x y _ HF.out (by omega)).mono ?_
                  rw [← HT.out]
                  rintro e w9 ⟨vl, rfl, hi, hb⟩
                  have F9 := Lib.hid hi
                  have BB := Lib.hid (HWK.out.trans (hb.mono HWK.out.size))
                  clear hi hb c1 c2
                  go_wp2_with fail
                  go_roundw
                  case rel => exact ⟨k + 1, by omega, by go_num, F9.out, BB.out⟩
                  case measure => simp [intOf]; omega
                · have hd3 : decide ((k : Int) < (H.length : Int)) = false := by simp; omega
                  have HF3 := Lib.hid (show Ids wr u16 (leftK l H) by have := HF.out; rwa [List.take_of_length_le (by omega)] at this)
                  have hfl3 := leftK_len H l
                  have HS := Lib.hid (show sameB (setOf (foundK nots)) (setOf (leftK l H)) = true from sameB_true fun z => by rw [mem_foundK, mem_leftK]; exact FOUND.out z)
                  have HFE := Lib.hid (HF8.out.below HWK.out)
                  have BE := Lib.hid (B9.out.trans (HWK.out.mono B9.out.size))
                  go_wp2_with fail
                  refine (refSame_any _ _ (foundK nots) (leftK l H) _ HFE.out HF3.out (by omega) (by omega)).mono ?_
                  rw [HS.out]
                  rintro e w12 ⟨rfl, hb⟩
                  have BX := Lib.hid (BE.out.trans (hb.mono BE.out.size))
                  clear hb
                  go_wp2_with fail
                  go_ret
                  exact ⟨rfl, below_after B5.out BX.out (Nat.le_refl _)⟩
end Go.Proofs.Ytbjknjbjldodlaa
