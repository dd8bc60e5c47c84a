/-
  A walk over whether a clock is valid. No statement is proved in this text; it holds for every input that its premises let by.
-/
import Derived.Test.YtpmfanglgkohjaaWalksI
namespace Go.Proofs.Ytpmfanglgkohjaa
open Go.RowKit Sets Clocks
theorem may_any' (a i : Int) (w : World) (b : Bool) (h : vid a i = b) : Calls Try.prog 20 #[.agg #[.int .i64 a, .int .i64 i]] w fun e w' => e = .returned (.bool b) ∧ Below w.heap.size w w' := by
  rw [← h]
  exact may_any a i w
/-- May a tick be in a valid clock? -/
def okT (t : Tick) : Bool := vid t.1.1 t.1.2 && (decide (1 ≤ t.2) && decide (t.2 ≤ 1099511627776))
/-- Do the IDs rise? -/
def risesT : List Tick → Bool
  | x :: y :: l => lss x.1.1 x.1.2 y.1.1 y.1.2 && risesT (y :: l)
  | _ => true
theorem risesT_iff : ∀ l : List Tick, risesT l = true ↔ Rises (l.map (·.1))
  | [] => by simp [risesT, Rises]
  | [x] => by simp [risesT, Rises]
  | x :: y :: l => by
    rw [risesT, Bool.and_eq_true, lss_iff, risesT_iff (y :: l), List.map_cons, List.map_cons, rises_cons (x := x.1)]
    constructor
    · rintro ⟨h1, h2⟩
      refine ⟨fun z hz => ?_, h2⟩
      rcases List.mem_cons.1 hz with e | e
      · exact e ▸ h1
      · exact lt_trans h1 ((rises_cons.1 h2).1 z e)
    · rintro ⟨h1, h2⟩
      exact ⟨h1 y.1 (List.mem_cons_self ..), h2⟩
theorem risesT_take {l : List Tick} : ∀ {k : Nat} (h : k + 1 < l.length), risesT (l.take (k + 2)) = (risesT (l.take (k + 1)) && lss l[k].1.1 l[k].1.2 l[k+1].1.1 l[k+1].1.2) := by
  induction l with
  | nil => intro k h; simp at h
  | cons x l ih =>
    intro k h
    cases l with
    | nil => simp at h
    | cons y l =>
      cases k with
      | zero => simp [risesT]
      | succ k =>
        have := ih (k := k) (by simpa using h)
        simp only [List.take_succ_cons, risesT] at this ⊢
        rw [this, Bool.and_assoc]
        rfl
theorem risesT_not {l : List Tick} : ∀ {k : Nat} (h : k + 1 < l.length), lss l[k].1.1 l[k].1.2 l[k+1].1.1 l[k+1].1.2 = false → risesT l = false := by
  induction l with
  | nil => intro k h; simp at h
  | cons x l ih =>
    intro k h hv
    cases l with
    | nil => simp at h
    | cons y l =>
      cases k with
      | zero => simp only [risesT, Bool.and_eq_false_iff]; exact .inl hv
      | succ k => simp only [risesT, Bool.and_eq_false_iff]; exact .inr (ih (k := k) (by simpa using h) hv)
theorem risesT_one (l : List Tick) : risesT (l.take 1) = true := by
  cases l <;> rfl
/-- Is a clock valid? -/
def mayB (l : List Tick) : Bool := decide (l.length ≤ 64) && (l.all okT && risesT l)
theorem mayB_long {l : List Tick} (h : 64 < l.length) : mayB l = false := by
  unfold mayB
  rw [decide_eq_false (by omega)]
  rfl
theorem mayB_bad {l : List Tick} {k : Nat} (hk : k < l.length) (h : okT l[k] = false) : mayB l = false := by
  unfold mayB
  have : l.all okT = false := by
    rw [← Bool.not_eq_true, List.all_eq_true]
    exact fun h2 => by rw [h2 _ (List.getElem_mem hk)] at h; cases h
  rw [this]
  simp
theorem mayB_turn {l : List Tick} {k : Nat} (hk : k + 1 < l.length) (h : lss l[k].1.1 l[k].1.2 l[k+1].1.1 l[k+1].1.2 = false) : mayB l = false := by
  unfold mayB
  rw [risesT_not hk h]
  simp
theorem mayB_yes {l : List Tick} (h : l.length ≤ 64) (h1 : l.all okT = true) (h2 : risesT l = true) : mayB l = true := by
  unfold mayB
  rw [decide_eq_true h, h1, h2]
  rfl
theorem all_more {l : List Tick} {k : Nat} (hk : k < l.length) (h : (l.take k).all okT = true) (h2 : okT l[k] = true) : (l.take (k + 1)).all okT = true := by
  rw [List.take_succ_eq_append_getElem hk, List.all_append, h]
  simp [h2]
set_option maxHeartbeats 4000000 in
theorem mayClock_any (v : Value) (l : List Tick) (w : World) (h : Rcs encT 3 w v l) (hl : l.length ≤ 100000) :
    Calls Try.prog 13 #[v] w fun e w' => e = .returned (.bool (mayB l)) ∧ Below w.heap.size w w' := by
  have HI := Lib.hid h
  obtain ⟨A, c, rfl, hz⟩ := h
  clear hz
  by_cases h64 : 64 < l.length
  · have HF := Lib.hid (mayB_long h64)
    have hd : decide ((64 : Int) < (l.length : Int)) = true := by simp; omega
    go_enter Try.func13, Try.ntmps13
    go_wp2_with fail
    go_ret
    exact ⟨ret_bool HF.out.symm, Below.refl _ _⟩
  · have hd : decide ((64 : Int) < (l.length : Int)) = false := by simp; omega
    go_enter Try.func13, Try.ntmps13
    go_wp2_with fail
    go_loopw [10] (fun s3 wr => ∃ k : Nat, k ≤ l.length ∧ s3 = .int .i64 k ∧ Hid ((l.take k).all okT = true) ∧ Hid (risesT (l.take k) = true) ∧ Hid (Below w.heap.size w wr)) (fun s3 _ => l.length - (intOf s3).toNat)
    case atStart => exact ⟨0, by omega, rfl, Lib.hid (by simp), Lib.hid (by simp [risesT]), Lib.hid (Below.refl _ _)⟩
    case round =>
      obtain ⟨k, hkl, rfl, HA, HR, HW⟩ := hrel
      have i3 : (0 : Int) ≤ (k : Int) := by omega
      by_cases hlt : k < l.length
      · have hdk : decide ((k : Int) < (l.length : Int)) = true := by simp; omega
        have i4 : (k : Int) < (l.length : Int) := by omega
        obtain ⟨ad, rfl, c1, c2, c3⟩ := HI.out.tick HW.out hlt
        have HN := Lib.hid fun h => mayB_bad hlt h
        have HO := Lib.hid fun h => all_more hlt HA.out h
        have HX := Lib.hid (tbox_new wr l[k].1.1 l[k].1.2 l[k].2)
        have HB := Lib.hid (HW.out.alloc HW.out.size (.cells #[.int .i64 l[k].1.1, .int .i64 l[k].1.2, .int .i64 l[k].2] 35))
        have HL : Hid (∀ q, k = q + 1 → ∀ (hq : q < l.length) W, Calls Try.prog 21 #[.agg #[.int .i64 l[q].1.1, .int .i64 l[q].1.2], .agg #[.int .i64 l[k].1.1, .int .i64 l[k].1.2]] W fun e w' => e = .returned (.bool (lss l[q].1.1 l[q].1.2 l[k].1.1 l[k].1.2)) ∧ Below W.heap.size W w') := Lib.hid fun q _ hq W => less_any _ _ _ _ W
        have HT : Hid (∀ q, k = q + 1 → ∀ (hq : q < l.length), (lss l[q].1.1 l[q].1.2 l[k].1.1 l[k].1.2 = false → mayB l = false) ∧ (lss l[q].1.1 l[q].1.2 l[k].1.1 l[k].1.2 = true → risesT (l.take (k + 1)) = true)) := Lib.hid (by
          intro q e hq
          subst e
          exact ⟨fun h => mayB_turn hlt h, fun h => by rw [risesT_take hlt, HR.out, h]; rfl⟩)
        have HK : Hid (okT l[k] = (vid l[k].1.1 l[k].1.2 && (decide (1 ≤ l[k].2) && decide (l[k].2 ≤ 1099511627776)))) := Lib.hid rfl
        rw [HK.out] at HN HO
        clear HK
        generalize l[k].1.1 = a at *
        generalize l[k].1.2 = i at *
        generalize l[k].2 = n at *
        have HM := Lib.hid fun W b h => may_any' a i W b h
        cases hv : vid a i
        · have HF := Lib.hid (HN.out (by rw [hv]; rfl))
          have HV := Lib.hid hv
          clear hv
          go_wp2_with fail
          (with_reducible refine (HM.out _ _ HV.out).mono ?_)
          rintro e w2 ⟨rfl, hb⟩
          have B2 := Lib.hid (below_after HB.out hb (Nat.le_refl _))
          clear hb
          go_wp2_with fail
          go_ret
          exact ⟨ret_bool HF.out.symm, B2.out⟩
        · by_cases hn1 : n < 1
          · have HF := Lib.hid (HN.out (by rw [decide_eq_false (show ¬ 1 ≤ n by omega)]; simp))
            have hdn : decide (n < 1) = true := decide_eq_true hn1
            have HV := Lib.hid hv
            clear hv
            go_wp2_with fail
            (with_reducible refine (HM.out _ _ HV.out).mono ?_)
            rintro e w2 ⟨rfl, hb⟩
            have B2 := Lib.hid (below_after HB.out hb (Nat.le_refl _))
            have X2 := Lib.hid (tbox_below HX.out hb)
            clear hb c1 c2 c3
            obtain ⟨c1, c2, c3⟩ := tbox_cells X2.out
            go_wp2_with fail
            go_ret
            exact ⟨ret_bool HF.out.symm, B2.out⟩
          · have hdn : decide (n < 1) = false := decide_eq_false hn1
            by_cases hn2 : 1099511627776 < n
            · have HF := Lib.hid (HN.out (by rw [decide_eq_false (show ¬ n ≤ 1099511627776 by omega)]; simp))
              have hdm : decide (1099511627776 < n) = true := decide_eq_true hn2
              have HV := Lib.hid hv
              clear hv
              go_wp2_with fail
              (with_reducible refine (HM.out _ _ HV.out).mono ?_)
              rintro e w2 ⟨rfl, hb⟩
              have B2 := Lib.hid (below_after HB.out hb (Nat.le_refl _))
              have X2 := Lib.hid (tbox_below HX.out hb)
              clear hb c1 c2 c3
              obtain ⟨c1, c2, c3⟩ := tbox_cells X2.out
              go_wp2_with fail
              go_ret
              exact ⟨ret_bool HF.out.symm, B2.out⟩
            · have HG := Lib.hid (HO.out (by rw [hv, decide_eq_true (show 1 ≤ n by omega), decide_eq_true (show n ≤ 1099511627776 by omega)]; rfl))
              have hdm : decide (1099511627776 < n) = false := decide_eq_false hn2
              have HV := Lib.hid hv
              clear hv
              rcases Nat.eq_zero_or_pos k with hk0 | hk0
              · have HR1 := Lib.hid (show risesT (l.take (k + 1)) = true by rw [hk0]; exact risesT_one l)
                have hdz : decide ((0 : Int) < (k : Int)) = false := decide_eq_false (by omega)
                have hdz2 : decide (0 < k) = false := decide_eq_false (by omega)
                clear HL HT hk0
                go_wp2_with fail
                (with_reducible refine (HM.out _ _ HV.out).mono ?_)
                rintro e w2 ⟨rfl, hb⟩
                have B2 := Lib.hid (below_after HB.out hb (Nat.le_refl _))
                have X2 := Lib.hid (tbox_below HX.out hb)
                clear hb c1 c2 c3
                obtain ⟨c1, c2, c3⟩ := tbox_cells X2.out
                go_wp2_with fail
                refine wp_region_held_drew (S := fun w' => Hid (Below w.heap.size w w')) (by kernel_rfl) ?_ (fun hHeld => ?_)
                · exact Lib.hid B2.out.drew
                (refine wpAnyH_take (i := 0) (oi := ⟨_, _, _, _, _, _⟩) (v := ?_) rfl (by kernel_rfl) (by kernel_rfl) (by kernel_rfl) (fun _ _ _ h => h) (Or.inl ⟨by rfl, ?_⟩) (by assumption) ?_; rotate_left 1; · (intro w hSw; (try dsimp only at hSw); go_simp; all_goals with_reducible rfl))
                try simp only [Act.put, List.setIfInBounds_toArray, List.set_cons_zero, List.set_cons_succ]
                (refine wpAnyH_take (i := 1) (oi := ⟨_, _, _, _, _, _⟩) (v := ?_) rfl (by kernel_rfl) (by kernel_rfl) (by kernel_rfl) (fun _ _ _ h => h) (Or.inl ⟨by rfl, ?_⟩) (by assumption) ?_; rotate_left 1; · (intro w hSw; (try dsimp only at hSw); go_simp; all_goals with_reducible rfl))
                try simp only [Act.put, List.setIfInBounds_toArray, List.set_cons_zero, List.set_cons_succ]
                (refine wpAnyH_take (i := 2) (oi := ⟨_, _, _, _, _, _⟩) (v := ?_) rfl (by kernel_rfl) (by kernel_rfl) (by kernel_rfl) (fun _ _ _ h => h) (Or.inl ⟨by rfl, ?_⟩) (by assumption) ?_; rotate_left 1; · (intro w hSw; (try dsimp only at hSw); go_simp; all_goals with_reducible rfl))
                try simp only [Act.put, List.setIfInBounds_toArray, List.set_cons_zero, List.set_cons_succ]
                refine wpAnyH_take (i := 3) (oi := ⟨_, _, _, _, _, _⟩) (v := undef) rfl (by kernel_rfl) (by kernel_rfl) (by kernel_rfl) (fun _ _ _ h => h) (Or.inr ⟨by kernel_rfl, rfl⟩) (by assumption) ?_
                try simp only [Act.put, List.setIfInBounds_toArray, List.set_cons_zero, List.set_cons_succ]
                refine wpAnyH_take (i := 4) (oi := ⟨_, _, _, _, _, _⟩) (v := undef) rfl (by kernel_rfl) (by kernel_rfl) (by kernel_rfl) (fun _ _ _ h => h) (Or.inr ⟨by kernel_rfl, rfl⟩) (by assumption) ?_
                try simp only [Act.put, List.setIfInBounds_toArray, List.set_cons_zero, List.set_cons_succ]
                refine wpAnyH_take (i := 5) (oi := ⟨_, _, _, _, _, _⟩) (v := undef) rfl (by kernel_rfl) (by kernel_rfl) (by kernel_rfl) (fun _ _ _ h => h) (Or.inr ⟨by kernel_rfl, rfl⟩) (by assumption) ?_
                try simp only [Act.put, List.setIfInBounds_toArray, List.set_cons_zero, List.set_cons_succ]
                refine wpAnyH_take (i := 6) (oi := ⟨_, _, _, _, _, _⟩) (v := undef) rfl (by kernel_rfl) (by kernel_rfl) (by kernel_rfl) (fun _ _ _ h => h) (Or.inr ⟨by kernel_rfl, rfl⟩) (by assumption) ?_
                try simp only [Act.put, List.setIfInBounds_toArray, List.set_cons_zero, List.set_cons_succ]
                refine wpAnyH_take (i := 7) (oi := ⟨_, _, _, _, _, _⟩) (v := undef) rfl (by kernel_rfl) (by kernel_rfl) (by kernel_rfl) (fun _ _ _ h => h) (Or.inr ⟨by kernel_rfl, rfl⟩) (by assumption) ?_
                try simp only [Act.put, List.setIfInBounds_toArray, List.set_cons_zero, List.set_cons_succ]
                refine wpAnyH_take (i := 8) (oi := ⟨_, _, _, _, _, _⟩) (v := undef) rfl (by kernel_rfl) (by kernel_rfl) (by kernel_rfl) (fun _ _ _ h => h) (Or.inr ⟨by kernel_rfl, rfl⟩) (by assumption) ?_
                try simp only [Act.put, List.setIfInBounds_toArray, List.set_cons_zero, List.set_cons_succ]
                refine wpAnyH_take (i := 9) (oi := ⟨_, _, _, _, _, _⟩) (v := undef) rfl (by kernel_rfl) (by kernel_rfl) (by kernel_rfl) (fun _ _ _ h => h) (Or.inr ⟨by kernel_rfl, rfl⟩) (by assumption) ?_
                try simp only [Act.put, List.setIfInBounds_toArray, List.set_cons_zero, List.set_cons_succ]
                refine wpAnyH_take (i := 10) (oi := ⟨_, _, _, _, _, _⟩) (v := undef) rfl (by kernel_rfl) (by kernel_rfl) (by kernel_rfl) (fun _ _ _ h => h) (Or.inr ⟨by kernel_rfl, rfl⟩) (by assumption) ?_
                try simp only [Act.put, List.setIfInBounds_toArray, List.set_cons_zero, List.set_cons_succ]
                refine wpAnyH_take (i := 11) (oi := ⟨_, _, _, _, _, _⟩) (v := undef) rfl (by kernel_rfl) (by kernel_rfl) (by kernel_rfl) (fun _ _ _ h => h) (Or.inr ⟨by kernel_rfl, rfl⟩) (by assumption) ?_
                try simp only [Act.put, List.setIfInBounds_toArray, List.set_cons_zero, List.set_cons_succ]
                refine wpAnyH_take (i := 12) (oi := ⟨_, _, _, _, _, _⟩) (v := undef) rfl (by kernel_rfl) (by kernel_rfl) (by kernel_rfl) (fun _ _ _ h => h) (Or.inr ⟨by kernel_rfl, rfl⟩) (by assumption) ?_
                try simp only [Act.put, List.setIfInBounds_toArray, List.set_cons_zero, List.set_cons_succ]
                (refine wpAnyH_take (i := 13) (oi := ⟨_, _, _, _, _, _⟩) (v := ?_) rfl (by kernel_rfl) (by kernel_rfl) (by kernel_rfl) (fun _ _ _ h => h) (Or.inl ⟨by rfl, ?_⟩) (by assumption) ?_; rotate_left 1; · (intro w hSw; (try dsimp only at hSw); go_simp; all_goals with_reducible rfl))
                try simp only [Act.put, List.setIfInBounds_toArray, List.set_cons_zero, List.set_cons_succ]
                refine wpAnyH_done (by kernel_rfl) ?_ _
                go_wp2_with fail
                go_roundw
                case rel => exact ⟨k + 1, by omega, by go_num, HG, HR1, by assumption⟩
                case measure => simp [intOf]; omega
              · obtain ⟨q, rfl⟩ : ∃ q, k = q + 1 := ⟨k - 1, by omega⟩
                have hq : q < l.length := by omega
                have HS : Hid (∀ w', Below w.heap.size w w' → w'.cell? (ad.add (q * 3)) = some (.int .i64 l[q].1.1) ∧ w'.cell? ⟨(ad.add (q * 3)).block, (ad.add (q * 3)).off + 1, none⟩ = some (.int .i64 l[q].1.2)) := Lib.hid fun w' hb => ⟨HI.out.first hb hq rfl, HI.out.cell hb hq 1 (by omega) rfl⟩
                have HLL := Lib.hid (HL.out q rfl hq)
                have HTT := Lib.hid (HT.out q rfl hq)
                clear HL HT
                have i5 : (0 : Int) ≤ (q : Int) := by omega
                have i6 : (q : Int) < (l.length : Int) := by omega
                have i7 : ((q : Int) + 1).toNat = q + 1 := by omega
                have i8 : IntKind.i64.wrap ((q : Int) + 1 - 1) = (q : Int) := by rw [IntWalk.i64_in _ ⟨by omega, by omega⟩]; omega
                have i9 : IntKind.i64.wrap (q : Int) = (q : Int) := IntWalk.i64_in _ ⟨by omega, by omega⟩
                have hd0 : decide ((0 : Int) < (q : Int) + 1) = true := decide_eq_true (by omega)
                generalize l[q].1.1 = a0 at *
                generalize l[q].1.2 = i0 at *
                generalize l[q].2 = n0 at *
                cases hs : lss a0 i0 a i
                all_goals
                  rw [hs] at HTT HLL
                  clear hs
                  go_wp2_with fail
                  (with_reducible refine (HM.out _ _ HV.out).mono ?_)
                  rintro e w2 ⟨rfl, hb⟩
                  have B2 := Lib.hid (below_after HB.out hb (Nat.le_refl _))
                  have X2 := Lib.hid (tbox_below HX.out hb)
                  clear hb c1 c2 c3
                  obtain ⟨c1, c2, c3⟩ := tbox_cells X2.out
                  go_wp2_with fail
                  have HQ := Lib.hid fun w' (hb : Below w2.heap.size w2 w') => And.intro (HS.out w' (below_after B2.out hb (Nat.le_refl _))) (tbox_cells (tbox_below X2.out hb))
                  clear c1 c2 c3
                  go_region_held3 (fun w' => (w'.cell? (ad.add (q * 3)) = some (.int .i64 a0) ∧ w'.cell? ⟨(ad.add (q * 3)).block, (ad.add (q * 3)).off + 1, none⟩ = some (.int .i64 i0)) ∧ (w'.cell? ⟨wr.heap.size, 0, none⟩ = some (.int .i64 a) ∧ w'.cell? ⟨wr.heap.size, 1, none⟩ = some (.int .i64 i)) ∧ Hid (Below w2.heap.size w2 w'))
                    (first | exact ⟨(HQ.out _ (Below.refl _ _).drew).1, ⟨(HQ.out _ (Below.refl _ _).drew).2.1, (HQ.out _ (Below.refl _ _).drew).2.2.1⟩, Lib.hid (Below.refl _ _).drew⟩ | exact ⟨(HQ.out _ HJ.out).1, ⟨(HQ.out _ HJ.out).2.1, (HQ.out _ HJ.out).2.2.1⟩, HJ⟩)
                    (first | (go_at_call 21; (with_reducible refine (HLL.out _).mono ?_); rintro e w' ⟨rfl, hb⟩; have HJ := Lib.hid (below_after (Below.refl _ _).drew hb (Nat.le_refl _)); clear hb))
                  have B3 := Lib.hid (below_after B2.out HJ.out (Nat.le_refl _))
                  go_wp2_with fail
                · go_ret
                  exact ⟨ret_bool (HTT.out.1 (by simp)).symm, B3.out⟩
                · go_roundw
                  case rel => exact ⟨q + 1 + 1, by omega, by go_num, HG, Lib.hid (HTT.out.2 (by simp)), B3⟩
                  case measure => simp [intOf]; omega
      · have hdk : decide ((k : Int) < (l.length : Int)) = false := by simp; omega
        have HF := Lib.hid (mayB_yes (l := l) (by omega) (by have := HA.out; rwa [List.take_of_length_le (by omega)] at this) (by have := HR.out; rwa [List.take_of_length_le (by omega)] at this))
        go_wp2_with fail
        go_ret
        exact ⟨ret_bool HF.out.symm, HW.out⟩
end Go.Proofs.Ytpmfanglgkohjaa
