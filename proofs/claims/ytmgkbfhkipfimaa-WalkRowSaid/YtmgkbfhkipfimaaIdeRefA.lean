/-
  Carried over: contracts of this program's functions. No statement is proved in this text.
-/
import Derived.Test.YtmgkbfhkipfimaaIdeSetOps
set_option maxRecDepth 20000
set_option maxRecDepth 20000
namespace Go.Proofs.Ytmgkbfhkipfimaa
open Go.RowKit Sets
theorem ins_step {x y : Int × Int} (l : List (Int × Int)) (h : lss y.1 y.2 x.1 x.2 = true) : ins x (y :: l) = y :: ins x l := by
  have h := (lss_iff y x).1 h
  rw [ins, if_neg (lt_asymm h), if_neg (fun e : x = y => lt_irrefl x (by rw [← e] at h; exact h))]
theorem ins_stop {x y : Int × Int} (l : List (Int × Int)) (h : lss y.1 y.2 x.1 x.2 = false) (hn : ¬ (y.1 = x.1 ∧ y.2 = x.2)) : ins x (y :: l) = x :: y :: l := by
  have h := (lss_not y x).1 h
  rw [ins, if_pos]
  rcases lt_total x y with e | e | e
  · exact e
  · exact absurd ⟨by rw [e], by rw [e]⟩ hn
  · exact absurd e h
theorem ins_here {x y : Int × Int} (l : List (Int × Int)) (e1 : y.1 = x.1) (e2 : y.2 = x.2) : ins x (y :: l) = y :: l := by
  obtain rfl : y = x := Prod.ext e1 e2
  rw [ins, if_neg (lt_irrefl y), if_pos rfl]
theorem ins_next {x : Int × Int} {l : List (Int × Int)} {k : Nat} (hk : k < l.length) (h : lss l[k].1 l[k].2 x.1 x.2 = true) (he : ins x l = l.take k ++ ins x (l.drop k)) : ins x l = l.take (k + 1) ++ ins x (l.drop (k + 1)) := by
  rw [he, List.drop_eq_getElem_cons hk, ins_step _ h, List.take_succ_eq_append_getElem hk, List.append_assoc]
  rfl
theorem ins_in {x : Int × Int} {l : List (Int × Int)} {k : Nat} (hk : k < l.length) (h : lss l[k].1 l[k].2 x.1 x.2 = false) (hn : ¬ (l[k].1 = x.1 ∧ l[k].2 = x.2)) (he : ins x l = l.take k ++ ins x (l.drop k)) : ins x l = l.take k ++ [x] ++ l.drop k := by
  rw [he, List.drop_eq_getElem_cons hk, ins_stop _ h hn, List.append_assoc]
  rfl
theorem ins_same {x : Int × Int} {l : List (Int × Int)} {k : Nat} (hk : k < l.length) (e1 : l[k].1 = x.1) (e2 : l[k].2 = x.2) (he : ins x l = l.take k ++ ins x (l.drop k)) : ins x l = l := by
  rw [he, List.drop_eq_getElem_cons hk, ins_here _ e1 e2, ← List.drop_eq_getElem_cons hk, List.take_append_drop]
theorem ins_end {x : Int × Int} {l : List (Int × Int)} {k : Nat} (hk : l.length ≤ k) (he : ins x l = l.take k ++ ins x (l.drop k)) : ins x l = l.take k ++ [x] ++ l.drop k := by
  rw [he, List.drop_of_length_le hk, List.append_nil]
  rfl
theorem owns_made (w : World) (base : Nat) (hb : base ≤ w.heap.size) : Owns (w.alloc (.cells #[] 24)) base (.slice (some ⟨w.heap.size, 0, none⟩) 0 0) [] :=
  World.ownsRow_made w (base := base) (e := 24) (size := 2) #[] 0 hb (by decide) (by simp)
theorem box_after {w w1 : World} {o : Obj} {g : Nat} {a i : Int} (h : Box w g a i) (hb : Below w.heap.size (w.alloc o) w1) : Box w1 g a i := (hb.block g (box_lt h)).trans ((Below.heap_alloc w o g (box_lt h)).trans h)
set_option maxHeartbeats 4000000 in
theorem refPut_any (v : Value) (l : List (Int × Int)) (a i : Int) (w : World) (h : Ids w v l) (hl : l.length ≤ 40000) :
    Calls Try.prog 37 #[v, .agg #[.int .i64 a, .int .i64 i]] w (Lists (ins (a, i) l) w) := by
  have HI := Lib.hid h
  have HX := Lib.hid (box_new w a i)
  have HB := Lib.hid ((Below.refl w.heap.size w).alloc (Nat.le_refl _) (.cells #[.int .i64 a, .int .i64 i] 24))
  have HF := Lib.hid fun k hk => run_from h k hk
  have HG := Lib.hid fun k hk => run_to h k hk
  obtain ⟨A, c, rfl, hz⟩ := id h
  clear h hz
  go_enter Try.func37, Try.ntmps37
  go_wp2_with fail
  go_loopw [5] (fun s5 wr => ∃ k : Nat, k ≤ l.length ∧ s5 = .int .i64 k ∧ ins (a, i) l = l.take k ++ ins (a, i) (l.drop k) ∧ Box wr w.heap.size a i ∧ Below w.heap.size w wr) (fun s5 _ => l.length - (intOf s5).toNat)
  case atStart => exact ⟨0, by omega, rfl, rfl, HX.out, HB.out⟩
  case round =>
    obtain ⟨k, hkl, rfl, ht, hx, hw⟩ := hrel
    have HW := Lib.hid hw
    have HT := Lib.hid ht
    have HY := Lib.hid hx
    clear hw ht hx HX HB
    have i3 : (0 : Int) ≤ (k : Int) := by omega
    by_cases hlt : k < l.length
    · have hd : decide ((k : Int) < (l.length : Int)) = true := by simp; omega
      have i4 : (k : Int) < (l.length : Int) := by omega
      have HK0 := Lib.hid hlt
      obtain ⟨ad, rfl, c1, c2⟩ := HI.out.at_ HW.out hlt
      obtain ⟨c3, c4⟩ := box_cells HY.out
      have HS := Lib.hid fun w' (hb : Below w.heap.size w w') (hx : Box w' w.heap.size a i) => And.intro (And.intro (cell1 HI.out hb hlt) (cell2 HI.out hb hlt)) (And.intro (box_cells hx) (Lib.hid (And.intro hb hx)))
      have H1 := Lib.hid fun h => ins_next (x := (a, i)) hlt h HT.out
      have H2 := Lib.hid fun h hn => ins_in (x := (a, i)) hlt h hn HT.out
      have H3 := Lib.hid fun e1 e2 => ins_same (x := (a, i)) hlt e1 e2 HT.out
      have HD := Lib.hid fun (W : World) => refLess_any l[k].1 l[k].2 a i W
      generalize l[k].1 = b at *
      generalize l[k].2 = j at *
      cases hv : lss b j a i
      · have HV := Lib.hid hv
        clear hv
        go_wp2_with fail
        go_region_held3 (fun w' => (w'.cell? (ad.add (k * 2)) = some (.int .i64 b) ∧ w'.cell? ⟨(ad.add (k * 2)).block, (ad.add (k * 2)).off + 1, none⟩ = some (.int .i64 j)) ∧ (w'.cell? ⟨w.heap.size, 0, none⟩ = some (.int .i64 a) ∧ w'.cell? ⟨w.heap.size, 1, none⟩ = some (.int .i64 i)) ∧ Hid (Below w.heap.size w w' ∧ Box w' w.heap.size a i))
          (first | exact HS.out _ HW.out.drew HY.out | exact HS.out _ HK.out.1 HK.out.2)
          (first | (go_at_call 43; (with_reducible refine (HD.out _).mono ?_); rintro e w' ⟨rfl, hb⟩; rw [HV.out]; have HK := Lib.hid (And.intro (below_after (show Hid (Below w.heap.size w _ ∧ Box _ w.heap.size a i) by go_split_ands; assumption).out.1 hb (Nat.le_refl _)) (box_below (show Hid (Below w.heap.size w _ ∧ Box _ w.heap.size a i) by go_split_ands; assumption).out.2 hb)); clear hb))
        --C
        have B3 := Lib.hid HK.out.1
        have X3 := Lib.hid HK.out.2
        clear c1 c2 c3 c4
        obtain ⟨⟨c1, c2⟩, ⟨c3, c4⟩, _⟩ := HS.out _ B3.out X3.out
        by_cases hab : b = a
        · have hab := hab.symm
          subst hab
          by_cases hij : j = i
          · have hij := hij.symm
            subst hij
            have HR := Lib.hid (H3.out rfl rfl)
            clear H1 H2 H3 HV HS HD
            go_wp2_with fail
            go_quiet (fail)
            go_wp2_with fail
            go_ret
            exact ⟨_, rfl, by rw [HR.out]; exact HI.out.below (below_drewN B3.out), below_drewN B3.out⟩
          · have h2 : (j == i) = false := by simpa using hij
            have HR := Lib.hid (H2.out HV.out fun h => hij h.2)
            clear hij
            obtain ⟨U, hu, hU⟩ := HF.out k (by omega)
            obtain ⟨V, hv, hV⟩ := HG.out k (by omega)
            have HU := Lib.hid hU
            have HV2 := Lib.hid hV
            clear hU hV
            clear H1 H2 H3 HV HS HD HF HG
            go_wp2_with fail
            go_quiet (fail)
            clear c1 c2 c3 c4
            have B5 := Lib.hid (below_drewN (n := nq) B3.out)
            have X5 := Lib.hid (box_drewN (n := nq) X3.out)
            clear B3 X3 HK
            generalize w'.drewN nq = w5 at *
            have M5 := Lib.hid (owns_made w5 w5.heap.size (Nat.le_refl _))
            have B6 := Lib.hid (B5.out.alloc B5.out.size (.cells #[] 24))
            have X6 := Lib.hid (box_below X5.out ((Below.refl w5.heap.size w5).alloc (Nat.le_refl _) (.cells #[] 24)))
            have S6 := Lib.hid (show w5.heap.size ≤ (w5.alloc (.cells #[] 24)).heap.size by simp)
            go_wp2_with (first
              | (at_builtin; refine wpList_append_list rfl (.tmp 34) (.tmp 37) rfl _ w5.heap.size _ V [] (l.take k) rfl rfl M5.out (HV2.out.below B6.out) (by simp; omega) S6.out ?_; intro v7 w7 h1 h2; have O7 := Lib.hid h1; have B7 := Lib.hid (B6.out.trans (h2.mono B5.out.size)); have X7 := Lib.hid (box_after X5.out h2); have S7 := Lib.hid (Nat.le_trans S6.out h2.size); clear h1 h2; obtain ⟨q1, q2⟩ := box_cells X7.out)
              | (at_builtin; refine wpList_append_one rfl (.tmp 39) (.tmp 41) rfl w7 w5.heap.size v7 _ a i rfl rfl O7.out (by simp; omega) S7.out ?_; intro v8 w8 h1 h2; have O8 := Lib.hid h1; have B8 := Lib.hid (B7.out.trans (h2.mono B5.out.size)); have S8 := Lib.hid (Nat.le_trans S7.out h2.size); clear h1 h2 q1 q2)
              | (at_builtin; refine wpList_append_list rfl (.tmp 43) (.tmp 46) rfl w8 w5.heap.size v8 U _ (l.drop k) rfl rfl O8.out (HU.out.below B8.out) (by simp; omega) S8.out ?_; intro v9 w9 h1 h2; have O9 := Lib.hid h1; have B9 := Lib.hid (B8.out.trans (h2.mono B5.out.size)); clear h1 h2))
            go_ret
            exact ⟨v9, rfl, by rw [HR.out]; exact ids_of_owns O9.out, B9.out⟩
        · have h2 : (b == a) = false := by simpa using hab
          have HR := Lib.hid (H2.out HV.out fun h => hab h.1)
          clear hab
          obtain ⟨U, hu, hU⟩ := HF.out k (by omega)
          obtain ⟨V, hv, hV⟩ := HG.out k (by omega)
          have HU := Lib.hid hU
          have HV2 := Lib.hid hV
          clear hU hV
          clear H1 H2 H3 HV HS HD HF HG
          go_wp2_with fail
          go_quiet (fail)
          clear c1 c2 c3 c4
          have B5 := Lib.hid (below_drewN (n := nq) B3.out)
          have X5 := Lib.hid (box_drewN (n := nq) X3.out)
          clear B3 X3 HK
          generalize w'.drewN nq = w5 at *
          have M5 := Lib.hid (owns_made w5 w5.heap.size (Nat.le_refl _))
          have B6 := Lib.hid (B5.out.alloc B5.out.size (.cells #[] 24))
          have X6 := Lib.hid (box_below X5.out ((Below.refl w5.heap.size w5).alloc (Nat.le_refl _) (.cells #[] 24)))
          have S6 := Lib.hid (show w5.heap.size ≤ (w5.alloc (.cells #[] 24)).heap.size by simp)
          go_wp2_with (first
            | (at_builtin; refine wpList_append_list rfl (.tmp 34) (.tmp 37) rfl _ w5.heap.size _ V [] (l.take k) rfl rfl M5.out (HV2.out.below B6.out) (by simp; omega) S6.out ?_; intro v7 w7 h1 h2; have O7 := Lib.hid h1; have B7 := Lib.hid (B6.out.trans (h2.mono B5.out.size)); have X7 := Lib.hid (box_after X5.out h2); have S7 := Lib.hid (Nat.le_trans S6.out h2.size); clear h1 h2; obtain ⟨q1, q2⟩ := box_cells X7.out)
            | (at_builtin; refine wpList_append_one rfl (.tmp 39) (.tmp 41) rfl w7 w5.heap.size v7 _ a i rfl rfl O7.out (by simp; omega) S7.out ?_; intro v8 w8 h1 h2; have O8 := Lib.hid h1; have B8 := Lib.hid (B7.out.trans (h2.mono B5.out.size)); have S8 := Lib.hid (Nat.le_trans S7.out h2.size); clear h1 h2 q1 q2)
            | (at_builtin; refine wpList_append_list rfl (.tmp 43) (.tmp 46) rfl w8 w5.heap.size v8 U _ (l.drop k) rfl rfl O8.out (HU.out.below B8.out) (by simp; omega) S8.out ?_; intro v9 w9 h1 h2; have O9 := Lib.hid h1; have B9 := Lib.hid (B8.out.trans (h2.mono B5.out.size)); clear h1 h2))
          go_ret
          exact ⟨v9, rfl, by rw [HR.out]; exact ids_of_owns O9.out, B9.out⟩
      · have HV := Lib.hid hv
        clear hv
        go_wp2_with fail
        go_region_held3 (fun w' => (w'.cell? (ad.add (k * 2)) = some (.int .i64 b) ∧ w'.cell? ⟨(ad.add (k * 2)).block, (ad.add (k * 2)).off + 1, none⟩ = some (.int .i64 j)) ∧ (w'.cell? ⟨w.heap.size, 0, none⟩ = some (.int .i64 a) ∧ w'.cell? ⟨w.heap.size, 1, none⟩ = some (.int .i64 i)) ∧ Hid (Below w.heap.size w w' ∧ Box w' w.heap.size a i))
          (first | exact HS.out _ HW.out.drew HY.out | exact HS.out _ HK.out.1 HK.out.2)
          (first | (go_at_call 43; (with_reducible refine (HD.out _).mono ?_); rintro e w' ⟨rfl, hb⟩; rw [HV.out]; have HK := Lib.hid (And.intro (below_after (show Hid (Below w.heap.size w _ ∧ Box _ w.heap.size a i) by go_split_ands; assumption).out.1 hb (Nat.le_refl _)) (box_below (show Hid (Below w.heap.size w _ ∧ Box _ w.heap.size a i) by go_split_ands; assumption).out.2 hb)); clear hb))
        have B3 := Lib.hid HK.out.1
        have X3 := Lib.hid HK.out.2
        have HE := Lib.hid (H1.out HV.out)
        clear c1 c2 c3 c4 H1 H2 H3 HS HD HF HG
        go_wp2_with fail
        go_roundw
        case rel => exact ⟨k + 1, by omega, by go_num, HE.out, X3.out, B3.out⟩
        case measure => simp [intOf]; omega
    · have hd : decide ((k : Int) < (l.length : Int)) = false := by simp; omega
      have HR := Lib.hid (ins_end (by omega) HT.out)
      obtain ⟨U, hu, hU⟩ := HF.out k (by omega)
      obtain ⟨V, hv, hV⟩ := HG.out k (by omega)
      have HU := Lib.hid hU
      have HV2 := Lib.hid hV
      clear hU hV
      clear HF HG
      go_wp2_with fail
      go_quiet (fail)
      go_wp2_with fail
      have B4 := Lib.hid (below_drewN (n := nq) HW.out)
      have X4 := Lib.hid (box_drewN (n := nq) HY.out)
      generalize wr.drewN nq = w4 at *
      go_quiet (fail)
      have B5 := Lib.hid (below_drewN (n := nq) B4.out)
      have X5 := Lib.hid (box_drewN (n := nq) X4.out)
      generalize w4.drewN nq = w5 at *
      have M5 := Lib.hid (owns_made w5 w5.heap.size (Nat.le_refl _))
      have B6 := Lib.hid (B5.out.alloc B5.out.size (.cells #[] 24))
      have X6 := Lib.hid (box_below X5.out ((Below.refl w5.heap.size w5).alloc (Nat.le_refl _) (.cells #[] 24)))
      have S6 := Lib.hid (show w5.heap.size ≤ (w5.alloc (.cells #[] 24)).heap.size by simp)
      go_wp2_with (first
        | (at_builtin; refine wpList_append_list rfl (.tmp 34) (.tmp 37) rfl _ w5.heap.size _ V [] (l.take k) rfl rfl M5.out (HV2.out.below B6.out) (by simp; omega) S6.out ?_; intro v7 w7 h1 h2; have O7 := Lib.hid h1; have B7 := Lib.hid (B6.out.trans (h2.mono B5.out.size)); have X7 := Lib.hid (box_after X5.out h2); have S7 := Lib.hid (Nat.le_trans S6.out h2.size); clear h1 h2; obtain ⟨q1, q2⟩ := box_cells X7.out)
        | (at_builtin; refine wpList_append_one rfl (.tmp 39) (.tmp 41) rfl w7 w5.heap.size v7 _ a i rfl rfl O7.out (by simp; omega) S7.out ?_; intro v8 w8 h1 h2; have O8 := Lib.hid h1; have B8 := Lib.hid (B7.out.trans (h2.mono B5.out.size)); have S8 := Lib.hid (Nat.le_trans S7.out h2.size); clear h1 h2 q1 q2)
        | (at_builtin; refine wpList_append_list rfl (.tmp 43) (.tmp 46) rfl w8 w5.heap.size v8 U _ (l.drop k) rfl rfl O8.out (HU.out.below B8.out) (by simp; omega) S8.out ?_; intro v9 w9 h1 h2; have O9 := Lib.hid h1; have B9 := Lib.hid (B8.out.trans (h2.mono B5.out.size)); clear h1 h2))
      go_ret
      exact ⟨v9, rfl, by rw [HR.out]; exact ids_of_owns O9.out, B9.out⟩
end Go.Proofs.Ytmgkbfhkipfimaa
