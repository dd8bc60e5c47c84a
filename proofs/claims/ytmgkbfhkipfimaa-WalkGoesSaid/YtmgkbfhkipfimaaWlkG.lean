/-
  The document's sets, in new memory; its row of peers. No statement is proved in this text; it holds for every input that its premises let by.
-/
import Derived.Test.YtmgkbfhkipfimaaWlkE
set_option maxRecDepth 20000
namespace Go.Proofs.Ytmgkbfhkipfimaa
open Go Go.RowKit Sets
/-- A list with an ID put in: the list that came in, or new memory. -/
def PutN (v : Value) (l : List Id2) (x : Id2) (w : World) (e : Ending) (w' : World) : Prop :=
  ((e = .returned v ∧ ins x l = l) ∨ ∃ v', e = .returned v' ∧ Owns w' w.heap.size v' (ins x l)) ∧ Below w.heap.size w w'
set_option maxHeartbeats 4000000 in
theorem refPut_new (v : Value) (l : List (Int × Int)) (a i : Int) (w : World) (h : Ids w v l) (hl : l.length ≤ 40000) :
    Calls Try.prog 37 #[v, .agg #[.int .i64 a, .int .i64 i]] w (PutN v l (a, i) w) := by
  have HI := Lib.hid h
  have HX := Lib.hid (box_new w a i)
  have HB := Lib.hid ((Below.refl w.heap.size w).alloc (Nat.le_refl _) (.cells #[.int .i64 a, .int .i64 i] 24))
  have HF := Lib.hid fun k hk => run_from h k hk
  have HG := Lib.hid fun k hk => run_to h k hk
  obtain ⟨A, c, rfl, hz⟩ := id h
  clear h hz
  go_enter Try.func37, Try.ntmps37
  go_wp2_with fail
  go_loopw [5] (fun s5 wr => ∃ k : Nat, k ≤ l.length ∧ s5 = .int .i64 k ∧ ins (a, i) l = l.take k ++ ins (a, i) (l.drop k) ∧ Box wr w.heap.size a i ∧ Below w.heap.size w wr) (fun s5 _ => l.length - (intOf s5).toNat)
  case atStart => exact ⟨0, by omega, rfl, rfl, HX.out, HB.out⟩
  case round =>
    obtain ⟨k, hkl, rfl, ht, hx, hw⟩ := hrel
    have HW := Lib.hid hw
    have HT := Lib.hid ht
    have HY := Lib.hid hx
    clear hw ht hx HX HB
    have i3 : (0 : Int) ≤ (k : Int) := by omega
    by_cases hlt : k < l.length
    · have hd : decide ((k : Int) < (l.length : Int)) = true := by simp; omega
      have i4 : (k : Int) < (l.length : Int) := by omega
      have HK0 := Lib.hid hlt
      obtain ⟨ad, rfl, c1, c2⟩ := HI.out.at_ HW.out hlt
      obtain ⟨c3, c4⟩ := box_cells HY.out
      have HS := Lib.hid fun w' (hb : Below w.heap.size w w') (hx : Box w' w.heap.size a i) => And.intro (And.intro (cell1 HI.out hb hlt) (cell2 HI.out hb hlt)) (And.intro (box_cells hx) (Lib.hid (And.intro hb hx)))
      have H1 := Lib.hid fun h => ins_next (x := (a, i)) hlt h HT.out
      have H2 := Lib.hid fun h hn => ins_in (x := (a, i)) hlt h hn HT.out
      have H3 := Lib.hid fun e1 e2 => ins_same (x := (a, i)) hlt e1 e2 HT.out
      have HD := Lib.hid fun (W : World) => refLess_any l[k].1 l[k].2 a i W
      generalize l[k].1 = b at *
      generalize l[k].2 = j at *
      cases hv : lss b j a i
      · have HV := Lib.hid hv
        clear hv
        go_wp2_with fail
        go_region_held3 (fun w' => (w'.cell? (ad.add (k * 2)) = some (.int .i64 b) ∧ w'.cell? ⟨(ad.add (k * 2)).block, (ad.add (k * 2)).off + 1, none⟩ = some (.int .i64 j)) ∧ (w'.cell? ⟨w.heap.size, 0, none⟩ = some (.int .i64 a) ∧ w'.cell? ⟨w.heap.size, 1, none⟩ = some (.int .i64 i)) ∧ Hid (Below w.heap.size w w' ∧ Box w' w.heap.size a i))
          (first | exact HS.out _ HW.out.drew HY.out | exact HS.out _ HK.out.1 HK.out.2)
          (first | (go_at_call 43; (with_reducible refine (HD.out _).mono ?_); rintro e w' ⟨rfl, hb⟩; rw [HV.out]; have HK := Lib.hid (And.intro (below_after (show Hid (Below w.heap.size w _ ∧ Box _ w.heap.size a i) by go_split_ands; assumption).out.1 hb (Nat.le_refl _)) (box_below (show Hid (Below w.heap.size w _ ∧ Box _ w.heap.size a i) by go_split_ands; assumption).out.2 hb)); clear hb))
        --C
        have B3 := Lib.hid HK.out.1
        have X3 := Lib.hid HK.out.2
        clear c1 c2 c3 c4
        obtain ⟨⟨c1, c2⟩, ⟨c3, c4⟩, _⟩ := HS.out _ B3.out X3.out
        by_cases hab : b = a
        · have hab := hab.symm
          subst hab
          by_cases hij : j = i
          · have hij := hij.symm
            subst hij
            have HR := Lib.hid (H3.out rfl rfl)
            clear H1 H2 H3 HV HS HD
            go_wp2_with fail
            go_quiet (fail)
            go_wp2_with fail
            go_ret
            exact ⟨.inl ⟨rfl, HR.out⟩, below_drewN B3.out⟩
          · have h2 : (j == i) = false := by simpa using hij
            have HR := Lib.hid (H2.out HV.out fun h => hij h.2)
            clear hij
            obtain ⟨U, hu, hU⟩ := HF.out k (by omega)
            obtain ⟨V, hv, hV⟩ := HG.out k (by omega)
            have HU := Lib.hid hU
            have HV2 := Lib.hid hV
            clear hU hV
            clear H1 H2 H3 HV HS HD HF HG
            go_wp2_with fail
            go_quiet (fail)
            clear c1 c2 c3 c4
            have B5 := Lib.hid (below_drewN (n := nq) B3.out)
            have X5 := Lib.hid (box_drewN (n := nq) X3.out)
            clear B3 X3 HK
            generalize w'.drewN nq = w5 at *
            have M5 := Lib.hid (owns_made w5 w5.heap.size (Nat.le_refl _))
            have B6 := Lib.hid (B5.out.alloc B5.out.size (.cells #[] 24))
            have X6 := Lib.hid (box_below X5.out ((Below.refl w5.heap.size w5).alloc (Nat.le_refl _) (.cells #[] 24)))
            have S6 := Lib.hid (show w5.heap.size ≤ (w5.alloc (.cells #[] 24)).heap.size by simp)
            go_wp2_with (first
              | (at_builtin; refine wpList_append_list rfl (.tmp 34) (.tmp 37) rfl _ w5.heap.size _ V [] (l.take k) rfl rfl M5.out (HV2.out.below B6.out) (by simp; omega) S6.out ?_; intro v7 w7 h1 h2; have O7 := Lib.hid h1; have B7 := Lib.hid (B6.out.trans (h2.mono B5.out.size)); have X7 := Lib.hid (box_after X5.out h2); have S7 := Lib.hid (Nat.le_trans S6.out h2.size); clear h1 h2; obtain ⟨q1, q2⟩ := box_cells X7.out)
              | (at_builtin; refine wpList_append_one rfl (.tmp 39) (.tmp 41) rfl w7 w5.heap.size v7 _ a i rfl rfl O7.out (by simp; omega) S7.out ?_; intro v8 w8 h1 h2; have O8 := Lib.hid h1; have B8 := Lib.hid (B7.out.trans (h2.mono B5.out.size)); have S8 := Lib.hid (Nat.le_trans S7.out h2.size); clear h1 h2 q1 q2)
              | (at_builtin; refine wpList_append_list rfl (.tmp 43) (.tmp 46) rfl w8 w5.heap.size v8 U _ (l.drop k) rfl rfl O8.out (HU.out.below B8.out) (by simp; omega) S8.out ?_; intro v9 w9 h1 h2; have O9 := Lib.hid h1; have B9 := Lib.hid (B8.out.trans (h2.mono B5.out.size)); clear h1 h2))
            go_ret
            exact ⟨.inr ⟨v9, rfl, by rw [HR.out]; exact Owns.mono O9.out B5.out.size⟩, B9.out⟩
        · have h2 : (b == a) = false := by simpa using hab
          have HR := Lib.hid (H2.out HV.out fun h => hab h.1)
          clear hab
          obtain ⟨U, hu, hU⟩ := HF.out k (by omega)
          obtain ⟨V, hv, hV⟩ := HG.out k (by omega)
          have HU := Lib.hid hU
          have HV2 := Lib.hid hV
          clear hU hV
          clear H1 H2 H3 HV HS HD HF HG
          go_wp2_with fail
          go_quiet (fail)
          clear c1 c2 c3 c4
          have B5 := Lib.hid (below_drewN (n := nq) B3.out)
          have X5 := Lib.hid (box_drewN (n := nq) X3.out)
          clear B3 X3 HK
          generalize w'.drewN nq = w5 at *
          have M5 := Lib.hid (owns_made w5 w5.heap.size (Nat.le_refl _))
          have B6 := Lib.hid (B5.out.alloc B5.out.size (.cells #[] 24))
          have X6 := Lib.hid (box_below X5.out ((Below.refl w5.heap.size w5).alloc (Nat.le_refl _) (.cells #[] 24)))
          have S6 := Lib.hid (show w5.heap.size ≤ (w5.alloc (.cells #[] 24)).heap.size by simp)
          go_wp2_with (first
            | (at_builtin; refine wpList_append_list rfl (.tmp 34) (.tmp 37) rfl _ w5.heap.size _ V [] (l.take k) rfl rfl M5.out (HV2.out.below B6.out) (by simp; omega) S6.out ?_; intro v7 w7 h1 h2; have O7 := Lib.hid h1; have B7 := Lib.hid (B6.out.trans (h2.mono B5.out.size)); have X7 := Lib.hid (box_after X5.out h2); have S7 := Lib.hid (Nat.le_trans S6.out h2.size); clear h1 h2; obtain ⟨q1, q2⟩ := box_cells X7.out)
            | (at_builtin; refine wpList_append_one rfl (.tmp 39) (.tmp 41) rfl w7 w5.heap.size v7 _ a i rfl rfl O7.out (by simp; omega) S7.out ?_; intro v8 w8 h1 h2; have O8 := Lib.hid h1; have B8 := Lib.hid (B7.out.trans (h2.mono B5.out.size)); have S8 := Lib.hid (Nat.le_trans S7.out h2.size); clear h1 h2 q1 q2)
            | (at_builtin; refine wpList_append_list rfl (.tmp 43) (.tmp 46) rfl w8 w5.heap.size v8 U _ (l.drop k) rfl rfl O8.out (HU.out.below B8.out) (by simp; omega) S8.out ?_; intro v9 w9 h1 h2; have O9 := Lib.hid h1; have B9 := Lib.hid (B8.out.trans (h2.mono B5.out.size)); clear h1 h2))
          go_ret
          exact ⟨.inr ⟨v9, rfl, by rw [HR.out]; exact Owns.mono O9.out B5.out.size⟩, B9.out⟩
      · have HV := Lib.hid hv
        clear hv
        go_wp2_with fail
        go_region_held3 (fun w' => (w'.cell? (ad.add (k * 2)) = some (.int .i64 b) ∧ w'.cell? ⟨(ad.add (k * 2)).block, (ad.add (k * 2)).off + 1, none⟩ = some (.int .i64 j)) ∧ (w'.cell? ⟨w.heap.size, 0, none⟩ = some (.int .i64 a) ∧ w'.cell? ⟨w.heap.size, 1, none⟩ = some (.int .i64 i)) ∧ Hid (Below w.heap.size w w' ∧ Box w' w.heap.size a i))
          (first | exact HS.out _ HW.out.drew HY.out | exact HS.out _ HK.out.1 HK.out.2)
          (first | (go_at_call 43; (with_reducible refine (HD.out _).mono ?_); rintro e w' ⟨rfl, hb⟩; rw [HV.out]; have HK := Lib.hid (And.intro (below_after (show Hid (Below w.heap.size w _ ∧ Box _ w.heap.size a i) by go_split_ands; assumption).out.1 hb (Nat.le_refl _)) (box_below (show Hid (Below w.heap.size w _ ∧ Box _ w.heap.size a i) by go_split_ands; assumption).out.2 hb)); clear hb))
        have B3 := Lib.hid HK.out.1
        have X3 := Lib.hid HK.out.2
        have HE := Lib.hid (H1.out HV.out)
        clear c1 c2 c3 c4 H1 H2 H3 HS HD HF HG
        go_wp2_with fail
        go_roundw
        case rel => exact ⟨k + 1, by omega, by go_num, HE.out, X3.out, B3.out⟩
        case measure => simp [intOf]; omega
    · have hd : decide ((k : Int) < (l.length : Int)) = false := by simp; omega
      have HR := Lib.hid (ins_end (by omega) HT.out)
      obtain ⟨U, hu, hU⟩ := HF.out k (by omega)
      obtain ⟨V, hv, hV⟩ := HG.out k (by omega)
      have HU := Lib.hid hU
      have HV2 := Lib.hid hV
      clear hU hV
      clear HF HG
      go_wp2_with fail
      go_quiet (fail)
      go_wp2_with fail
      have B4 := Lib.hid (below_drewN (n := nq) HW.out)
      have X4 := Lib.hid (box_drewN (n := nq) HY.out)
      generalize wr.drewN nq = w4 at *
      go_quiet (fail)
      have B5 := Lib.hid (below_drewN (n := nq) B4.out)
      have X5 := Lib.hid (box_drewN (n := nq) X4.out)
      generalize w4.drewN nq = w5 at *
      have M5 := Lib.hid (owns_made w5 w5.heap.size (Nat.le_refl _))
      have B6 := Lib.hid (B5.out.alloc B5.out.size (.cells #[] 24))
      have X6 := Lib.hid (box_below X5.out ((Below.refl w5.heap.size w5).alloc (Nat.le_refl _) (.cells #[] 24)))
      have S6 := Lib.hid (show w5.heap.size ≤ (w5.alloc (.cells #[] 24)).heap.size by simp)
      go_wp2_with (first
        | (at_builtin; refine wpList_append_list rfl (.tmp 34) (.tmp 37) rfl _ w5.heap.size _ V [] (l.take k) rfl rfl M5.out (HV2.out.below B6.out) (by simp; omega) S6.out ?_; intro v7 w7 h1 h2; have O7 := Lib.hid h1; have B7 := Lib.hid (B6.out.trans (h2.mono B5.out.size)); have X7 := Lib.hid (box_after X5.out h2); have S7 := Lib.hid (Nat.le_trans S6.out h2.size); clear h1 h2; obtain ⟨q1, q2⟩ := box_cells X7.out)
        | (at_builtin; refine wpList_append_one rfl (.tmp 39) (.tmp 41) rfl w7 w5.heap.size v7 _ a i rfl rfl O7.out (by simp; omega) S7.out ?_; intro v8 w8 h1 h2; have O8 := Lib.hid h1; have B8 := Lib.hid (B7.out.trans (h2.mono B5.out.size)); have S8 := Lib.hid (Nat.le_trans S7.out h2.size); clear h1 h2 q1 q2)
        | (at_builtin; refine wpList_append_list rfl (.tmp 43) (.tmp 46) rfl w8 w5.heap.size v8 U _ (l.drop k) rfl rfl O8.out (HU.out.below B8.out) (by simp; omega) S8.out ?_; intro v9 w9 h1 h2; have O9 := Lib.hid h1; have B9 := Lib.hid (B8.out.trans (h2.mono B5.out.size)); clear h1 h2))
      go_ret
      exact ⟨.inr ⟨v9, rfl, by rw [HR.out]; exact Owns.mono O9.out B5.out.size⟩, B9.out⟩
set_option maxHeartbeats 1000000 in
theorem refSet_new (v : Value) (l : List (Int × Int)) (w : World) (h : Ids w v l) (hl : l.length ≤ 40000) :
    Calls Try.prog 31 #[v] w (News (setOf l) w) := by
  have HI := Lib.hid h
  obtain ⟨A, c, rfl, hz⟩ := h
  clear hz
  go_enter Try.func31, Try.ntmps31
  go_wp2_with fail
  go_loopw [3, 4] (fun s3 s4 wr => ∃ k : Nat, k ≤ l.length ∧ s4 = .int .i64 k ∧ Owns wr w.heap.size s3 (setOf (l.take k)) ∧ Below w.heap.size w wr) (fun _ s4 _ => l.length - (intOf s4).toNat)
  case atStart => exact ⟨0, by omega, rfl, owns_nil _ _, Below.refl _ _⟩
  case round =>
    obtain ⟨k, hkl, rfl, ht, hw⟩ := hrel
    have HW := Lib.hid hw
    have HT := Lib.hid ht
    have hz := setOf_take_len l k
    clear hw ht
    have i3 : (0 : Int) ≤ (k : Int) := by omega
    by_cases hlt : k < l.length
    · have hd : decide ((k : Int) < (l.length : Int)) = true := by simp; omega
      have i4 : (k : Int) < (l.length : Int) := by omega
      obtain ⟨ad, rfl, c1, c2⟩ := HI.out.at_ HW.out hlt
      have HS := Lib.hid (setOf_snoc hlt)
      generalize l[k].1 = a at *
      generalize l[k].2 = i at *
      go_wp2_with fail
      refine (refPut_new u3 _ a i _ (ids_of_owns HT.out) (by omega)).mono ?_
      rintro e w1 ⟨hi, hb⟩
      have B1 := Lib.hid (below_after HW.out hb (Nat.le_refl _))
      obtain ⟨r, rfl, H1⟩ : ∃ r, e = .returned r ∧ Hid (Owns w1 w.heap.size r (setOf (l.take (k + 1)))) := by
        rcases hi with ⟨rfl, e1⟩ | ⟨r, rfl, ho⟩
        · exact ⟨u3, rfl, Lib.hid (by rw [HS.out, e1]; exact HT.out.below hb)⟩
        · exact ⟨r, rfl, Lib.hid (by rw [HS.out]; exact Owns.mono ho HW.out.size)⟩
      clear hi hb c1 c2
      go_wp2_with fail
      go_roundw
      case rel => exact ⟨k + 1, by omega, by go_num, H1.out, B1.out⟩
      case measure => simp [intOf]; omega
    · have hd : decide ((k : Int) < (l.length : Int)) = false := by simp; omega
      have HE := Lib.hid (show Owns wr w.heap.size u3 (setOf l) by have := HT.out; rwa [List.take_of_length_le (by omega)] at this)
      go_wp2_with fail
      go_ret
      exact ⟨_, rfl, HE.out, HW.out⟩
set_option maxHeartbeats 1000000 in
theorem refRow_any (v : Value) (l : List Id2) (d : Nat) (w : World) (h : Ids w v l) (hl : l.length ≤ 40000) (hd : d < 4294967296) :
    Calls Try.prog 21 #[v, .int .u32 d] w (RowN (rowP l d) w) := by
  have H := Lib.hid h
  have HL := Lib.hid hl
  have hsl := Nat.le_trans (setOf_len l) hl
  have HT := Lib.hid (show sh ((setOf l).length - 1) d (setOf l) = rowP l d from rfl)
  have HP := Lib.hid (rowP_len l d)
  clear h hl
  go_enter Try.func21, Try.ntmps21
  go_wp2_with fail
  refine (refSet_new v l _ H.out HL.out).mono ?_
  rintro e w1 ⟨r, rfl, ho, hb⟩
  have O1 := Lib.hid (rowV_owns ho)
  have B1 := Lib.hid hb
  clear ho hb H HL
  generalize setOf l = T at *
  generalize rowP l d = Z at *
  rcases O1.out with ⟨rfl, rfl⟩ | ⟨g, c, rfl, hc, hg, hR⟩
  · have hZ : Z = [] := List.eq_nil_of_length_eq_zero (by rw [HP.out]; rfl)
    subst hZ
    go_wp2_with fail
    go_loopw [7] (fun s7 wr => s7 = .int .i64 (-1) ∧ Hid (Below w.heap.size w wr)) (fun _ _ => 0)
    case atStart => exact ⟨rfl, B1⟩
    case round =>
      obtain ⟨rfl, HB⟩ := hrel
      go_wp2_with fail
      go_ret
      exact ⟨_, rfl, .inl ⟨rfl, rfl⟩, HB.out⟩
  · have i0 : IntKind.i64.wrap ((T.length : Int) - 1) = (T.length : Int) - 1 := IntWalk.i64_in _ ⟨by omega, by omega⟩
    have j0 : IntKind.u64.wrap (d : Int) = (d : Int) := by simp [IntKind.wrap, IntKind.bits, IntKind.signed]; omega
    have HG := Lib.hid hg
    have HC := Lib.hid hc
    have HS : Hid (Shf Z g T.length (T.length - 1) d w w1) := Lib.hid ⟨⟨T, hR, rfl, HT.out⟩, B1.out⟩
    clear hR hg hc HT O1 B1
    generalize T.length = n at *
    go_wp2_with fail
    go_loopw [6, 7] (fun s6 s7 wr => ∃ k d' : Nat, s6 = .int .u64 d' ∧ s7 = .int .i64 ((n : Int) - 1 - k) ∧ k ≤ n ∧ d' < 4294967296 ∧ Hid (Shf Z g n (n - 1 - k) d' w wr)) (fun _ s7 _ => (intOf s7).toNat)
    case atStart => exact ⟨0, d, rfl, by simp, by omega, hd, HS⟩
    case round =>
      obtain ⟨k, d', rfl, rfl, hkn, hd', HW⟩ := hrel
      by_cases hlt : k + 1 < n
      · obtain ⟨i, hi⟩ : ∃ i : Nat, n - 1 - k = i + 1 := ⟨n - 1 - k - 1, by omega⟩
        have e0 : (n : Int) - 1 - k = (i : Int) + 1 := by omega
        have e1 : (n : Int) - 1 - ((k + 1 : Nat) : Int) = (i : Int) := by omega
        rw [e0]
        have HX := Lib.hid e1
        have HI := Lib.hid hi
        obtain ⟨L, hL1, hL2, hL3⟩ := HW.out.row
        have HB := Lib.hid HW.out.below
        have HR := Lib.hid hL1
        have HQ := Lib.hid (show sh i (lcg d') (swp L (i + 1) (lcg d' / 65536 % (i + 2))) = Z by rw [hi] at hL3; exact hL3)
        have HN := Lib.hid hL2
        clear hL1 hL2 hL3 HW e0 e1
        have hx := lcg_lt d'
        have hin : i + 1 < n := by omega
        have J1 := Lib.hid (show ((d' : Int) * 1664525 + 1013904223) % 4294967296 = ((lcg d' : Nat) : Int) by unfold lcg; omega)
        generalize lcg d' = f at *
        obtain ⟨q, hq⟩ : ∃ q, f / 65536 % (i + 2) = q := ⟨_, rfl⟩
        rw [hq] at HQ
        have hqi : q < i + 2 := by rw [← hq]; exact Nat.mod_lt _ (by omega)
        have J2 := Lib.hid (show (f : Int) / 65536 % ((i : Int) + 1 + 1) = (q : Int) by rw [← hq, show (i : Int) + 1 + 1 = ((i + 2 : Nat) : Int) by omega, Int.natCast_emod, Int.natCast_ediv]; rfl)
        have J3 := Lib.hid (show wrap64 (q : Int) = (q : Int) from IntWalk.wrap64_in _ ⟨by omega, by omega⟩)
        have j4 : IntKind.i64.wrap ((i : Int) + 1 - 1) = (i : Int) := by rw [IntWalk.i64_in _ ⟨by omega, by omega⟩]; omega
        have i1 : decide ((1 : Int) ≤ (i : Int) + 1) = true := decide_eq_true (by omega)
        clear hq
        go_upto_region 8 with fail
        rw [J1.out, J2.out, J3.out]
        clear J1 J2 J3
        have i4 : (0 : Int) ≤ (i : Int) + 1 := by omega
        have i5 : (i : Int) + 1 < (n : Int) := by omega
        have i6 : (0 : Int) ≤ (q : Int) := by omega
        have i7 : (q : Int) < (n : Int) := by omega
        have i8 : ((i : Int) + 1).toNat = i + 1 := by omega
        have HJ := Lib.hid (rowJ_kept (rowJ_swp HR.out (p := i + 1) (q := q) (by have := HN.out; omega) (by have := HN.out; omega)) (Below.refl _ _).drew)
        have HH := Lib.hid (grown_below (grown_swp (World.grownBy.refl wr (some g)) (i + 1) q (.int .i64 L[q]!.1) (.int .i64 L[q]!.2) (.int .i64 L[i + 1]!.1) (.int .i64 L[i + 1]!.2)) (Below.refl _ _).drew)
        have HM := Lib.hid (show (swp L (i + 1) q).length = n by rw [swp_len]; exact HN.out)
        obtain ⟨⟨c1, c2⟩, f1, f2⟩ := rowJ_cells HR.out (k := i + 1) (by have := HN.out; omega)
        by_cases hpq : i + 1 = q
        · subst hpq
          generalize L[i + 1]!.1 = x1 at *
          generalize L[i + 1]!.2 = x2 at *
          go_wp2_with fail
          go_region
          go_wp2_with fail
          go_roundw
          case rel => exact ⟨k + 1, f, rfl, by rw [HX.out], by omega, hx, Lib.hid ⟨⟨_, HJ.out, HM.out, by rw [show n - 1 - (k + 1) = i by have := HI.out; omega]; exact HQ.out⟩, HB.out.trans (below_grown HH.out HG.out HB.out.size)⟩⟩
          case measure => simp [intOf]
        · have n2 : ¬ q = i + 1 := fun e => hpq e.symm
          obtain ⟨⟨d1, d2⟩, e1, e2⟩ := rowJ_cells HR.out (k := q) (by have := HN.out; omega)
          generalize L[i + 1]!.1 = x1 at *
          generalize L[i + 1]!.2 = x2 at *
          generalize L[q]!.1 = y1 at *
          generalize L[q]!.2 = y2 at *
          go_wp2_with fail
          go_region
          go_wp2_with fail
          go_roundw
          case rel => exact ⟨k + 1, f, rfl, by rw [HX.out], by omega, hx, Lib.hid ⟨⟨_, HJ.out, HM.out, by rw [show n - 1 - (k + 1) = i by have := HI.out; omega]; exact HQ.out⟩, HB.out.trans (below_grown HH.out HG.out HB.out.size)⟩⟩
          case measure => simp [intOf]
      · have hdd : decide ((1 : Int) ≤ (n : Int) - 1 - (k : Int)) = false := decide_eq_false (by omega)
        have hdd2 : ¬ (1 : Int) ≤ (n : Int) - 1 - (k : Int) := by omega
        obtain ⟨L, h1, h2, h3⟩ := HW.out.row
        have HB := Lib.hid HW.out.below
        rw [show n - 1 - k = 0 by omega] at h3
        have HR := Lib.hid (show RowJ wr g Z from (show L = Z from h3) ▸ h1)
        clear h1 h2 h3 HW
        go_wp2_with fail
        go_ret
        exact ⟨.slice (some ⟨g, 0, none⟩) n c, rfl, .inr ⟨g, c, by rw [HP.out], by rw [HP.out]; exact HC.out, HG.out, HR.out⟩, HB.out⟩
end Go.Proofs.Ytmgkbfhkipfimaa
