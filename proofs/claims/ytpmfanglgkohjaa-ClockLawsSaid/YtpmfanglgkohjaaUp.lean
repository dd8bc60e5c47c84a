/-
  A walk over the clock that says one more of an ID. No statement is proved in this text; it holds for every input that its premises let by.
-/
import Derived.Test.YtpmfanglgkohjaaGet
namespace Go.Proofs.Ytpmfanglgkohjaa
open Go.RowKit Sets Clocks
/-- What Up answers: the clock and the error's number. -/
def upR (l : List Tick) (z : Id2) : List Tick × Int :=
  if mayB l = true ∧ vid z.1 z.2 = true then (if says l z = 1099511627776 ∨ says l z = 0 ∧ l.length = 64 then ([], 40) else (up l z, 0)) else ([], 4)
theorem may_says {l : List Tick} (h : mayB l = true) (z : Id2) : says l z ≤ 1099511627776 := by
  unfold mayB at h
  rw [Bool.and_eq_true, Bool.and_eq_true, List.all_eq_true] at h
  rcases Int.lt_or_le 0 (says l z) with h1 | h1
  · have h2 := h.2.1 _ (says_mem h1)
    unfold okT at h2
    rw [Bool.and_eq_true, Bool.and_eq_true] at h2
    simpa using h2.2.2
  · omega
/-- A list and an error's number are answered. -/
def Raised (r : List Tick × Int) (w : World) (e : Ending) (w' : World) : Prop := ∃ v', e = .returned (.tuple #[v', .int .i64 r.2]) ∧ Rcs encT 3 w' v' r.1 ∧ Below w.heap.size w w'
theorem raised_none (k : Int) {w w' : World} (h : Below w.heap.size w w') : Raised ([], k) w (.returned (.tuple #[.slice none 0 0, .int .i64 k])) w' := ⟨_, rfl, Rcs.nil _, h⟩
set_option maxHeartbeats 2000000 in
theorem up_any (v : Value) (l : List Tick) (x y : Int) (w : World) (h : Rcs encT 3 w v l) (hl : l.length ≤ 39999) :
    Calls Try.prog 12 #[v, .agg #[.int .i64 x, .int .i64 y]] w (Raised (upR l (x, y)) w) := by
  have HI := Lib.hid h
  have HX := Lib.hid (box_new w x y)
  have HW := Lib.hid (show Below w.heap.size w (w.alloc (.cells #[.int .i64 x, .int .i64 y] 28)) from (Below.refl _ _).alloc (Nat.le_refl _) _)
  have HM := Lib.hid (fun W h => mayClock_any v l W h (by omega))
  have HV := Lib.hid fun W b h => may_any' x y W b h
  have HG := Lib.hid (fun W h => get_any v l x y W h (by omega))
  have HI1 := Lib.hid (HI.out.below HW.out)
  obtain ⟨A, c, rfl, hz⟩ := h
  clear hz
  cases hm : mayB l
  · have HF := Lib.hid (show upR l (x, y) = ([], 4) by simp [upR, hm])
    rw [hm] at HM
    clear hm
    go_enter Try.func12, Try.ntmps12
    go_wp2_with fail
    (with_reducible refine (HM.out _ HI1.out).mono ?_)
    rintro e w1 ⟨rfl, hb⟩
    have B1 := Lib.hid (below_after HW.out hb (Nat.le_refl _))
    clear hb
    go_wp2_with fail
    refine bodyPost_ret (v := .tuple #[.slice none 0 0, .int .i64 4]) (by simp [results, Try.results12, go_sem]) rfl ?_
    rw [HF.out]
    exact raised_none 4 B1.out
  · have HMS := Lib.hid (may_says hm (x, y))
    cases hv : vid x y
    · have HF := Lib.hid (show upR l (x, y) = ([], 4) by simp [upR, hv])
      rw [hm] at HM
      have HVV := Lib.hid hv
      clear hm hv
      go_enter Try.func12, Try.ntmps12
      go_wp2_with fail
      (with_reducible refine (HM.out _ HI1.out).mono ?_)
      rintro e w1 ⟨rfl, hb⟩
      have B1 := Lib.hid (below_after HW.out hb (Nat.le_refl _))
      have X1 := Lib.hid (box_below HX.out hb)
      clear hb
      obtain ⟨c1, c2⟩ := box_cells X1.out
      go_wp2_with fail
      (with_reducible refine (HV.out _ _ HVV.out).mono ?_)
      rintro e w2 ⟨rfl, hb⟩
      have B2 := Lib.hid (below_after B1.out hb (Nat.le_refl _))
      clear hb
      go_wp2_with fail
      refine bodyPost_ret (v := .tuple #[.slice none 0 0, .int .i64 4]) (by simp [results, Try.results12, go_sem]) rfl ?_
      rw [HF.out]
      exact raised_none 4 B2.out
    · have HR := Lib.hid (show upR l (x, y) = if says l (x, y) = 1099511627776 ∨ says l (x, y) = 0 ∧ l.length = 64 then ([], 40) else (up l (x, y), 0) by
        unfold upR
        rw [if_pos ⟨hm, hv⟩])
      have HU := Lib.hid (up_is l (x, y))
      have HP := Lib.hid (says_pos l (x, y))
      rw [hm] at HM
      have HVV := Lib.hid hv
      clear hm hv
      generalize says l (x, y) = s at *
      by_cases h1 : s = 1099511627776
      · subst h1
        go_enter Try.func12, Try.ntmps12
        go_wp2_with fail
        (with_reducible refine (HM.out _ HI1.out).mono ?_)
        rintro e w1 ⟨rfl, hb⟩
        have B1 := Lib.hid (below_after HW.out hb (Nat.le_refl _))
        have X1 := Lib.hid (box_below HX.out hb)
        have I1 := Lib.hid (HI1.out.below hb)
        clear hb
        obtain ⟨c1, c2⟩ := box_cells X1.out
        go_wp2_with fail
        (with_reducible refine (HV.out _ _ HVV.out).mono ?_)
        rintro e w2 ⟨rfl, hb⟩
        have B2 := Lib.hid (below_after B1.out hb (Nat.le_refl _))
        have X2 := Lib.hid (box_below X1.out hb)
        have I2 := Lib.hid (I1.out.below hb)
        clear hb c1 c2
        obtain ⟨c1, c2⟩ := box_cells X2.out
        go_wp2_with fail
        (with_reducible refine (HG.out _ I2.out).mono ?_)
        rintro e w3 ⟨rfl, hb⟩
        have B3 := Lib.hid (below_after B2.out hb (Nat.le_refl _))
        clear hb c1 c2
        go_wp2_with fail
        refine bodyPost_ret (v := .tuple #[.slice none 0 0, .int .i64 40]) (by simp [results, Try.results12, go_sem]) rfl ?_
        rw [HR.out, if_pos (.inl (by trivial))]
        exact raised_none 40 B3.out
      · have e1 : (s == 1099511627776) = false := by simpa using h1
        by_cases h2 : s = 0 ∧ l.length = 64
        · obtain ⟨rfl, h64⟩ := h2
          have e2 : ((l.length : Int) == 64) = true := by simp; omega
          have HZ := Lib.hid h64
          clear h64
          go_enter Try.func12, Try.ntmps12
          go_wp2_with fail
          (with_reducible refine (HM.out _ HI1.out).mono ?_)
          rintro e w1 ⟨rfl, hb⟩
          have B1 := Lib.hid (below_after HW.out hb (Nat.le_refl _))
          have X1 := Lib.hid (box_below HX.out hb)
          have I1 := Lib.hid (HI1.out.below hb)
          clear hb
          obtain ⟨c1, c2⟩ := box_cells X1.out
          go_wp2_with fail
          (with_reducible refine (HV.out _ _ HVV.out).mono ?_)
          rintro e w2 ⟨rfl, hb⟩
          have B2 := Lib.hid (below_after B1.out hb (Nat.le_refl _))
          have X2 := Lib.hid (box_below X1.out hb)
          have I2 := Lib.hid (I1.out.below hb)
          clear hb c1 c2
          obtain ⟨c1, c2⟩ := box_cells X2.out
          go_wp2_with fail
          (with_reducible refine (HG.out _ I2.out).mono ?_)
          rintro e w3 ⟨rfl, hb⟩
          have B3 := Lib.hid (below_after B2.out hb (Nat.le_refl _))
          clear hb c1 c2
          go_wp2_with fail
          refine bodyPost_ret (v := .tuple #[.slice none 0 0, .int .i64 40]) (by simp [results, Try.results12, go_sem]) rfl ?_
          rw [HR.out, if_pos (.inr ⟨by trivial, HZ.out⟩)]
          exact raised_none 40 B3.out
        · have HN := Lib.hid (show ¬ (s = 1099511627776 ∨ s = 0 ∧ l.length = 64) from fun h => h.elim h1 h2)
          have e3 : ((s == 0) = true ∧ ((l.length : Int) == 64) = false) ∨ (s == 0) = false := by
            by_cases h0 : s = 0
            · refine .inl ⟨by simpa using h0, ?_⟩
              simp
              exact fun e => h2 ⟨h0, by omega⟩
            · exact .inr (by simpa using h0)
          have iw : IntKind.i64.wrap (s + 1) = s + 1 := IntWalk.i64_in _ ⟨by have := HP.out; omega, by have := HMS.out; omega⟩
          clear h1 h2
          rcases e3 with ⟨e3, e4⟩ | e3
          all_goals
            go_enter Try.func12, Try.ntmps12
            go_wp2_with fail
            (with_reducible refine (HM.out _ HI1.out).mono ?_)
            rintro e w1 ⟨rfl, hb⟩
            have B1 := Lib.hid (below_after HW.out hb (Nat.le_refl _))
            have X1 := Lib.hid (box_below HX.out hb)
            have I1 := Lib.hid (HI1.out.below hb)
            clear hb
            obtain ⟨c1, c2⟩ := box_cells X1.out
            go_wp2_with fail
            (with_reducible refine (HV.out _ _ HVV.out).mono ?_)
            rintro e w2 ⟨rfl, hb⟩
            have B2 := Lib.hid (below_after B1.out hb (Nat.le_refl _))
            have X2 := Lib.hid (box_below X1.out hb)
            have I2 := Lib.hid (I1.out.below hb)
            clear hb c1 c2
            obtain ⟨c1, c2⟩ := box_cells X2.out
            go_wp2_with fail
            (with_reducible refine (HG.out _ I2.out).mono ?_)
            rintro e w3 ⟨rfl, hb⟩
            have B3 := Lib.hid (below_after B2.out hb (Nat.le_refl _))
            have X3 := Lib.hid (box_below X2.out hb)
            have I3 := Lib.hid (I2.out.below hb)
            clear hb c1 c2
            obtain ⟨c1, c2⟩ := box_cells X3.out
            go_wp2_with fail
            have B4 := Lib.hid (B3.out.alloc B3.out.size (.cells #[.int .i64 x, .int .i64 y, .int .i64 (s + 1)] 35))
            have I4 := Lib.hid (I3.out.below ((Below.refl _ _).alloc (Nat.le_refl _) (.cells #[.int .i64 x, .int .i64 y, .int .i64 (s + 1)] 35)))
            have J4 := Lib.hid (show Rcs encT 3 (w3.alloc (.cells #[.int .i64 x, .int .i64 y, .int .i64 (s + 1)] 35)) (.slice (some ⟨w3.heap.size, 0, none⟩) 1 1) [((x, y), s + 1)] from rcs_lit encT_len w3 [((x, y), s + 1)] #[.int .i64 x, .int .i64 y, .int .i64 (s + 1)] 35 rfl)
            (with_reducible refine (join_any _ _ l [((x, y), s + 1)] _ I4.out J4.out (by omega) (by simp)).mono ?_)
            rintro e w5 ⟨V, rfl, hr, hb⟩
            have R5 := Lib.hid hr
            have B5 := Lib.hid (below_after B4.out hb (Nat.le_refl _))
            clear hr hb
            go_wp2_with fail
            refine bodyPost_ret (v := .tuple #[V, .int .i64 0]) (by simp [results, Try.results12, go_sem]) rfl ?_
            rw [HR.out, if_neg HN.out]
            exact ⟨V, rfl, by rw [← HU.out]; exact R5.out, B5.out⟩
end Go.Proofs.Ytpmfanglgkohjaa
