/-
  Carried over and put together: contracts of this program's functions, and plain facts. No statement is proved in this text.
-/
import Derived.Deep.AppendLies
import Derived.Test.YtkoeplgkiogjlaaP03
set_option maxRecDepth 20000
namespace Go.Proofs.Ytkoeplgkiogjlaa
open Go Go.RowKit Sets
theorem rises_at {l : List Id2} (h : Rises l) {i j : Nat} (hj : j < l.length) (hij : i < j) : lt (l[i]'(by omega)) l[j] := List.pairwise_iff_getElem.1 h i j (by omega) hj hij
theorem lss_lt (x y : Id2) : lss x.1 x.2 y.1 y.2 = decide (lt x y) := by
  unfold lss lt
  by_cases h : x.1 < y.1 <;> by_cases h2 : x.1 = y.1 <;> by_cases h3 : x.2 < y.2 <;> simp [h, h2, h3]
theorem cmpZ_ltB {a i b j : Int} (h : lt (a, i) (b, j)) : cmpZ a i b j = -1 := by
  have : lss a i b j = true := by rw [lss_lt (a, i) (b, j)]; exact decide_eq_true h
  simp [cmpZ, this]
theorem cmpZ_geB {a i b j : Int} (h : ¬ lt (a, i) (b, j)) : ¬ cmpZ a i b j < 0 := by
  have : lss a i b j = false := by rw [lss_lt (a, i) (b, j)]; exact decide_eq_false h
  unfold cmpZ
  rw [this]
  cases lss b j a i <;> simp
theorem cmpZ_self (a i : Int) : cmpZ a i a i = 0 := by
  have : lss a i a i = false := by rw [lss_lt (a, i) (a, i)]; exact decide_eq_false (lt_irrefl _)
  simp [cmpZ, this]
theorem cmpZ_gt {a i b j : Int} (h : lt (b, j) (a, i)) : cmpZ a i b j = 1 := by
  have h1 : lss b j a i = true := by rw [lss_lt (b, j) (a, i)]; exact decide_eq_true h
  have h2 : lss a i b j = false := by rw [lss_lt (a, i) (b, j)]; exact decide_eq_false (lt_asymm h)
  simp [cmpZ, h1, h2]
theorem lt_totalROW {x y : Id2} (h : ¬ lt x y) (hne : x ≠ y) : lt y x := by
  unfold lt at *
  rcases Int.lt_trichotomy x.1 y.1 with h1 | h1 | h1
  · exact absurd (.inl h1) h
  · rcases Int.lt_trichotomy x.2 y.2 with h2 | h2 | h2
    · exact absurd (.inr ⟨h1, h2⟩) h
    · exact absurd (Prod.ext h1 h2) hne
    · exact .inr ⟨h1.symm, h2⟩
  · exact .inl h1
/-- Where an ID stands, or would stand. -/
def PlaceI (l : List Id2) (X : Id2) (k : Nat) : Prop := k ≤ l.length ∧ (∀ t (h : t < l.length), t < k → lt l[t] X) ∧ ∀ t (h : t < l.length), k ≤ t → ¬ lt l[t] X
theorem place_has {l : List Id2} {X : Id2} {k : Nat} (hk : k < l.length) (e : l[k] = X) : hasB X l = true := by
  unfold hasB
  exact decide_eq_true (e ▸ List.getElem_mem hk)
theorem place_not {l : List Id2} {X : Id2} {k : Nat} (hr : Rises l) (h : PlaceI l X k) (hk : k < l.length) (e : l[k] ≠ X) : hasB X l = false := by
  unfold hasB
  refine decide_eq_false fun hm => ?_
  obtain ⟨t, ht, e2⟩ := List.mem_iff_getElem.1 hm
  have hgt := lt_totalROW (h.2.2 k hk (Nat.le_refl _)) e
  rcases Nat.lt_trichotomy t k with h1 | h1 | h1
  · have := h.2.1 t ht h1
    rw [e2] at this
    exact lt_irrefl _ this
  · subst h1; exact e e2
  · have := rises_at hr ht h1
    rw [e2] at this
    exact lt_asymm this hgt
theorem place_end {l : List Id2} {X : Id2} {k : Nat} (h : PlaceI l X k) (hk : l.length ≤ k) : hasB X l = false := by
  unfold hasB
  refine decide_eq_false fun hm => ?_
  obtain ⟨t, ht, e2⟩ := List.mem_iff_getElem.1 hm
  have := h.2.1 t ht (by omega)
  rw [e2] at this
  exact lt_irrefl _ this
set_option maxHeartbeats 4000000 in
set_option maxRecDepth 100000 in
theorem bin_any (v : Value) (l : List Id2) (x y : Int) (w : World) (h : Ids w v l) (hr : Rises l) (hl : l.length ≤ 100000) :
    Calls Try.prog 52 #[v, .agg #[.int .i64 x, .int .i64 y], .func (.func 51) #[] #[]] w fun e w' => ∃ k : Nat, e = .returned (.tuple #[.int .i64 k, .bool (hasB (x, y) l)]) ∧ PlaceI l (x, y) k ∧ Below w.heap.size w w' := by
  have B0 := Lib.hid (below_one w (.cells #[.int .i64 x, .int .i64 y] 35))
  have X0 := Lib.hid (box_new w x y)
  have I0 := Lib.hid (h.below B0.out)
  have HR := Lib.hid hr
  obtain ⟨A, c, rfl, hz⟩ := id h
  clear hz h hr
  go_enter Try.func52, Try.ntmps52
  go_wp2_with fail
  generalize w.alloc (.cells #[.int .i64 x, .int .i64 y] 35) = wb at *
  go_loopw [9, 10] (fun s9 s10 wr => ∃ i j : Nat, s9 = .int .i64 i ∧ s10 = .int .i64 j ∧ i ≤ j ∧ j ≤ l.length ∧ Hid (∀ t (h : t < l.length), t < i → lt l[t] (x, y)) ∧ Hid (∀ t (h : t < l.length), j ≤ t → ¬ lt l[t] (x, y)) ∧ Hid (Below wb.heap.size wb wr)) (fun s9 s10 _ => (intOf s10).toNat - (intOf s9).toNat)
  case atStart => exact ⟨0, l.length, rfl, rfl, by omega, by omega, Lib.hid (fun t h h0 => absurd h0 (by omega)), Lib.hid (fun t h h0 => absurd h0 (by omega)), Lib.hid (Below.refl _ _)⟩
  case round =>
    obtain ⟨i, j, rfl, rfl, hij, hjl, HL, HU, HW⟩ := hrel
    have XR := Lib.hid (box_below X0.out HW.out)
    obtain ⟨x1, x2⟩ := box_cells XR.out
    by_cases hlt : i < j
    · have hd : decide ((i : Int) < (j : Int)) = true := decide_eq_true (by omega)
      obtain ⟨k, hk⟩ : ∃ k : Nat, ((i : Int) + (j : Int)) / 2 = (k : Int) := ⟨(i + j) / 2, by omega⟩
      have hk1 : k < l.length := by omega
      have i3 : (0 : Int) ≤ (k : Int) := by omega
      have i4 : (k : Int) < (l.length : Int) := by omega
      obtain ⟨ad, rfl, c1, c2⟩ := I0.out.at_ HW.out hk1
      have HF := Lib.hid fun W (hb : Below wr.heap.size wr W) => And.intro ((hb.cell (block_lt_of_cell c1)).trans c1) (And.intro ((hb.cell (block_lt_of_cell c2)).trans c2) (And.intro (box_cells (box_below XR.out hb)) (Lib.hid hb)))
      by_cases hc : lt l[k] (x, y)
      · have HC : Hid (∀ W, Calls Try.prog 51 #[.agg #[.int .i64 l[k].1, .int .i64 l[k].2], .agg #[.int .i64 x, .int .i64 y]] W fun e w' => e = .returned (.int .i64 (-1)) ∧ Below W.heap.size W w') := Lib.hid fun W => by
          have := compare_any l[k].1 l[k].2 x y W
          rw [cmpZ_ltB (show lt (l[k].1, l[k].2) (x, y) from hc)] at this
          exact this
        have HL2 : Hid (∀ t (h : t < l.length), t < k + 1 → lt l[t] (x, y)) := Lib.hid fun t h ht => by
          rcases Nat.lt_or_ge t k with h1 | h1
          · exact lt_trans (rises_at HR.out hk1 h1) hc
          · obtain rfl : t = k := by omega
            exact hc
        clear hc HL
        generalize l[k].1 = u at *
        generalize l[k].2 = v at *
        go_wp2_with fail
        refine wp_region_held_drew (S := fun w' => w'.cell? (ad.add (k * 2)) = some (.int .i64 u) ∧ w'.cell? ⟨(ad.add (k * 2)).block, (ad.add (k * 2)).off + 1, none⟩ = some (.int .i64 v) ∧ (w'.cell? ⟨w.heap.size, 0, none⟩ = some (.int .i64 x) ∧ w'.cell? ⟨w.heap.size, 1, none⟩ = some (.int .i64 y)) ∧ Hid (Below wr.heap.size wr w')) (by kernel_rfl) ?_ (fun hHeld => ?_)
        · exact HF.out _ (Below.drew (Below.refl _ _))
        (refine wpAnyH_take (i := 0) (oi := ⟨_, _, _, _, _, _⟩) (v := ?_) rfl (by kernel_rfl) (by kernel_rfl) (by kernel_rfl) (fun _ _ _ h => h) (Or.inl ⟨by rfl, ?_⟩) (by assumption) ?_; rotate_left 1; · (intro w hSw; (try dsimp only at hSw); go_simp; all_goals with_reducible rfl))
        try simp only [Act.put, List.setIfInBounds_toArray, List.set_cons_zero, List.set_cons_succ]
        (refine wpAnyH_take (i := 1) (oi := ⟨_, _, _, _, _, _⟩) (v := ?_) rfl (by kernel_rfl) (by kernel_rfl) (by kernel_rfl) (fun _ _ _ h => h) (Or.inl ⟨by rfl, ?_⟩) (by assumption) ?_; rotate_left 1; · (intro w hSw; (try dsimp only at hSw); go_simp; all_goals with_reducible rfl))
        try simp only [Act.put, List.setIfInBounds_toArray, List.set_cons_zero, List.set_cons_succ]
        (refine wpAnyH_take (i := 2) (oi := ⟨_, _, _, _, _, _⟩) (v := ?_) rfl (by kernel_rfl) (by kernel_rfl) (by kernel_rfl) (fun _ _ _ h => h) (Or.inl ⟨by rfl, ?_⟩) (by assumption) ?_; rotate_left 1; · (intro w hSw; (try dsimp only at hSw); go_simp; all_goals with_reducible rfl))
        try simp only [Act.put, List.setIfInBounds_toArray, List.set_cons_zero, List.set_cons_succ]
        (refine wpAnyH_take (i := 3) (oi := ⟨_, _, _, _, _, _⟩) (v := ?_) rfl (by kernel_rfl) (by kernel_rfl) (by kernel_rfl) (fun _ _ _ h => h) (Or.inl ⟨by rfl, ?_⟩) (by assumption) ?_; rotate_left 1; · (intro w hSw; (try dsimp only at hSw); go_simp; all_goals with_reducible rfl))
        try simp only [Act.put, List.setIfInBounds_toArray, List.set_cons_zero, List.set_cons_succ]
        (refine wpAnyH_take (i := 4) (oi := ⟨_, _, _, _, _, _⟩) (v := ?_) rfl (by kernel_rfl) (by kernel_rfl) (by kernel_rfl) (fun _ _ _ h => h) (Or.inl ⟨by rfl, ?_⟩) (by assumption) ?_; rotate_left 1; · (intro w hSw; (try dsimp only at hSw); go_simp; all_goals with_reducible rfl))
        try simp only [Act.put, List.setIfInBounds_toArray, List.set_cons_zero, List.set_cons_succ]
        (refine wpAnyH_take (i := 5) (oi := ⟨_, _, _, _, _, _⟩) (v := ?_) rfl (by kernel_rfl) (by kernel_rfl) (by kernel_rfl) (fun _ _ _ h => h) (Or.inl ⟨by rfl, ?_⟩) (by assumption) ?_; rotate_left 1; · (intro w hSw; (try dsimp only at hSw); go_simp; all_goals with_reducible rfl))
        try simp only [Act.put, List.setIfInBounds_toArray, List.set_cons_zero, List.set_cons_succ]
        refine wpAnyH_ready (rs := [6]) (by kernel_rfl) (by simp) ?_
        refine AllReadyH.cons (o := ⟨_, _, _, _, _, _⟩) rfl (fun Kq hKq => ?_) (AllReadyH.nil)
        go_simp
        clear hHeld
        go_at_call 51; (with_reducible refine (HC.out _).mono ?_); rintro e w7 ⟨rfl, hb⟩; have P7 := Lib.hid (below_after (Below.drew (Below.refl _ _)) hb (Nat.le_refl _)); clear hb c1 c2 x1 x2
        refine hKq.out _ _ ?_ (fun hHeld => ?_)
        · (try dsimp only); exact HF.out _ P7.out
        clear hKq Kq
        try simp only [Act.put, List.setIfInBounds_toArray, List.set_cons_zero, List.set_cons_succ]
        (refine wpAnyH_take (i := 7) (oi := ⟨_, _, _, _, _, _⟩) (v := ?_) rfl (by kernel_rfl) (by kernel_rfl) (by kernel_rfl) (fun _ _ _ h => h) (Or.inl ⟨by rfl, ?_⟩) (by assumption) ?_; rotate_left 1; · (intro w hSw; (try dsimp only at hSw); go_simp; all_goals with_reducible rfl))
        try simp only [Act.put, List.setIfInBounds_toArray, List.set_cons_zero, List.set_cons_succ]
        refine wpAnyH_done (by kernel_rfl) ?_ _
        go_wp2_with fail
        go_roundw
        case rel => exact ⟨k + 1, j, by go_num, rfl, by omega, by omega, HL2, HU, Lib.hid (below_after HW.out P7.out (Nat.le_refl _))⟩
        case measure => simp [intOf]; omega
      · obtain ⟨z, hz⟩ : ∃ z, z = cmpZ l[k].1 l[k].2 x y := ⟨_, rfl⟩
        have HC : Hid (∀ W, Calls Try.prog 51 #[.agg #[.int .i64 l[k].1, .int .i64 l[k].2], .agg #[.int .i64 x, .int .i64 y]] W fun e w' => e = .returned (.int .i64 z) ∧ Below W.heap.size W w') := Lib.hid fun W => by
          rw [hz]
          exact compare_any l[k].1 l[k].2 x y W
        have hzn : ¬ z < 0 := by rw [hz]; exact cmpZ_geB (show ¬ lt (l[k].1, l[k].2) (x, y) from hc)
        have hdz : decide (z < 0) = false := decide_eq_false hzn
        have HU2 : Hid (∀ t (h : t < l.length), k ≤ t → ¬ lt l[t] (x, y)) := Lib.hid fun t h ht => by
          rcases Nat.eq_or_lt_of_le ht with h1 | h1
          · subst h1; exact hc
          · exact fun h2 => hc (lt_trans (rises_at HR.out h h1) h2)
        clear hc HU hz hzn
        generalize l[k].1 = u at *
        generalize l[k].2 = v at *
        go_wp2_with fail
        refine wp_region_held_drew (S := fun w' => w'.cell? (ad.add (k * 2)) = some (.int .i64 u) ∧ w'.cell? ⟨(ad.add (k * 2)).block, (ad.add (k * 2)).off + 1, none⟩ = some (.int .i64 v) ∧ (w'.cell? ⟨w.heap.size, 0, none⟩ = some (.int .i64 x) ∧ w'.cell? ⟨w.heap.size, 1, none⟩ = some (.int .i64 y)) ∧ Hid (Below wr.heap.size wr w')) (by kernel_rfl) ?_ (fun hHeld => ?_)
        · exact HF.out _ (Below.drew (Below.refl _ _))
        (refine wpAnyH_take (i := 0) (oi := ⟨_, _, _, _, _, _⟩) (v := ?_) rfl (by kernel_rfl) (by kernel_rfl) (by kernel_rfl) (fun _ _ _ h => h) (Or.inl ⟨by rfl, ?_⟩) (by assumption) ?_; rotate_left 1; · (intro w hSw; (try dsimp only at hSw); go_simp; all_goals with_reducible rfl))
        try simp only [Act.put, List.setIfInBounds_toArray, List.set_cons_zero, List.set_cons_succ]
        (refine wpAnyH_take (i := 1) (oi := ⟨_, _, _, _, _, _⟩) (v := ?_) rfl (by kernel_rfl) (by kernel_rfl) (by kernel_rfl) (fun _ _ _ h => h) (Or.inl ⟨by rfl, ?_⟩) (by assumption) ?_; rotate_left 1; · (intro w hSw; (try dsimp only at hSw); go_simp; all_goals with_reducible rfl))
        try simp only [Act.put, List.setIfInBounds_toArray, List.set_cons_zero, List.set_cons_succ]
        (refine wpAnyH_take (i := 2) (oi := ⟨_, _, _, _, _, _⟩) (v := ?_) rfl (by kernel_rfl) (by kernel_rfl) (by kernel_rfl) (fun _ _ _ h => h) (Or.inl ⟨by rfl, ?_⟩) (by assumption) ?_; rotate_left 1; · (intro w hSw; (try dsimp only at hSw); go_simp; all_goals with_reducible rfl))
        try simp only [Act.put, List.setIfInBounds_toArray, List.set_cons_zero, List.set_cons_succ]
        (refine wpAnyH_take (i := 3) (oi := ⟨_, _, _, _, _, _⟩) (v := ?_) rfl (by kernel_rfl) (by kernel_rfl) (by kernel_rfl) (fun _ _ _ h => h) (Or.inl ⟨by rfl, ?_⟩) (by assumption) ?_; rotate_left 1; · (intro w hSw; (try dsimp only at hSw); go_simp; all_goals with_reducible rfl))
        try simp only [Act.put, List.setIfInBounds_toArray, List.set_cons_zero, List.set_cons_succ]
        (refine wpAnyH_take (i := 4) (oi := ⟨_, _, _, _, _, _⟩) (v := ?_) rfl (by kernel_rfl) (by kernel_rfl) (by kernel_rfl) (fun _ _ _ h => h) (Or.inl ⟨by rfl, ?_⟩) (by assumption) ?_; rotate_left 1; · (intro w hSw; (try dsimp only at hSw); go_simp; all_goals with_reducible rfl))
        try simp only [Act.put, List.setIfInBounds_toArray, List.set_cons_zero, List.set_cons_succ]
        (refine wpAnyH_take (i := 5) (oi := ⟨_, _, _, _, _, _⟩) (v := ?_) rfl (by kernel_rfl) (by kernel_rfl) (by kernel_rfl) (fun _ _ _ h => h) (Or.inl ⟨by rfl, ?_⟩) (by assumption) ?_; rotate_left 1; · (intro w hSw; (try dsimp only at hSw); go_simp; all_goals with_reducible rfl))
        try simp only [Act.put, List.setIfInBounds_toArray, List.set_cons_zero, List.set_cons_succ]
        refine wpAnyH_ready (rs := [6]) (by kernel_rfl) (by simp) ?_
        refine AllReadyH.cons (o := ⟨_, _, _, _, _, _⟩) rfl (fun Kq hKq => ?_) (AllReadyH.nil)
        go_simp
        clear hHeld
        go_at_call 51; (with_reducible refine (HC.out _).mono ?_); rintro e w7 ⟨rfl, hb⟩; have P7 := Lib.hid (below_after (Below.drew (Below.refl _ _)) hb (Nat.le_refl _)); clear hb c1 c2 x1 x2
        refine hKq.out _ _ ?_ (fun hHeld => ?_)
        · (try dsimp only); exact HF.out _ P7.out
        clear hKq Kq
        try simp only [Act.put, List.setIfInBounds_toArray, List.set_cons_zero, List.set_cons_succ]
        (refine wpAnyH_take (i := 7) (oi := ⟨_, _, _, _, _, _⟩) (v := ?_) rfl (by kernel_rfl) (by kernel_rfl) (by kernel_rfl) (fun _ _ _ h => h) (Or.inl ⟨by rfl, ?_⟩) (by assumption) ?_; rotate_left 1; · (intro w hSw; (try dsimp only at hSw); go_simp; all_goals with_reducible rfl))
        try simp only [Act.put, List.setIfInBounds_toArray, List.set_cons_zero, List.set_cons_succ]
        refine wpAnyH_done (by kernel_rfl) ?_ _
        go_wp2_with fail
        go_roundw
        case rel => exact ⟨i, k, rfl, rfl, by omega, by omega, HL, HU2, Lib.hid (below_after HW.out P7.out (Nat.le_refl _))⟩
        case measure => simp [intOf]; omega
    · obtain rfl : i = j := by omega
      have HP := Lib.hid (show PlaceI l (x, y) i from ⟨hjl, HL.out, HU.out⟩)
      clear HL HU
      have hd : decide ((i : Int) < (i : Int)) = false := decide_eq_false (by omega)
      by_cases hin : i < l.length
      · have hdn : decide ((i : Int) < (l.length : Int)) = true := decide_eq_true (by omega)
        have i3 : (0 : Int) ≤ (i : Int) := by omega
        have i4 : (i : Int) < (l.length : Int) := by omega
        obtain ⟨ad, rfl, c1, c2⟩ := I0.out.at_ HW.out hin
        have HF := Lib.hid fun W (hb : Below wr.heap.size wr W) => And.intro ((hb.cell (block_lt_of_cell c1)).trans c1) (And.intro ((hb.cell (block_lt_of_cell c2)).trans c2) (And.intro (box_cells (box_below XR.out hb)) (Lib.hid hb)))
        have hz : ∃ z, z = cmpZ l[i].1 l[i].2 x y ∧ decide (z = 0) = hasB (x, y) l := by
          refine ⟨_, rfl, ?_⟩
          by_cases e : l[i] = (x, y)
          · rw [place_has hin e, e]
            exact decide_eq_true (cmpZ_self x y)
          · rw [place_not HR.out HP.out hin e]
            rw [cmpZ_gt (show lt (x, y) (l[i].1, l[i].2) from lt_totalROW (HP.out.2.2 i hin (Nat.le_refl _)) e)]
            rfl
        obtain ⟨z, hz, hz2⟩ := hz
        have HC : Hid (∀ W, Calls Try.prog 51 #[.agg #[.int .i64 l[i].1, .int .i64 l[i].2], .agg #[.int .i64 x, .int .i64 y]] W fun e w' => e = .returned (.int .i64 z) ∧ Below W.heap.size W w') := Lib.hid fun W => by
          rw [hz]
          exact compare_any l[i].1 l[i].2 x y W
        have HZ := Lib.hid hz2
        clear hz hz2
        generalize l[i].1 = u at *
        generalize l[i].2 = v at *
        go_wp2_with fail
        refine wp_region_held_drew (S := fun w' => w'.cell? (ad.add (i * 2)) = some (.int .i64 u) ∧ w'.cell? ⟨(ad.add (i * 2)).block, (ad.add (i * 2)).off + 1, none⟩ = some (.int .i64 v) ∧ (w'.cell? ⟨w.heap.size, 0, none⟩ = some (.int .i64 x) ∧ w'.cell? ⟨w.heap.size, 1, none⟩ = some (.int .i64 y)) ∧ Hid (Below wr.heap.size wr w')) (by kernel_rfl) ?_ (fun hHeld => ?_)
        · exact HF.out _ (Below.drew (Below.refl _ _))
        (refine wpAnyH_take (i := 0) (oi := ⟨_, _, _, _, _, _⟩) (v := ?_) rfl (by kernel_rfl) (by kernel_rfl) (by kernel_rfl) (fun _ _ _ h => h) (Or.inl ⟨by rfl, ?_⟩) (by assumption) ?_; rotate_left 1; · (intro w hSw; (try dsimp only at hSw); go_simp; all_goals with_reducible rfl))
        try simp only [Act.put, List.setIfInBounds_toArray, List.set_cons_zero, List.set_cons_succ]
        (refine wpAnyH_take (i := 1) (oi := ⟨_, _, _, _, _, _⟩) (v := ?_) rfl (by kernel_rfl) (by kernel_rfl) (by kernel_rfl) (fun _ _ _ h => h) (Or.inl ⟨by rfl, ?_⟩) (by assumption) ?_; rotate_left 1; · (intro w hSw; (try dsimp only at hSw); go_simp; all_goals with_reducible rfl))
        try simp only [Act.put, List.setIfInBounds_toArray, List.set_cons_zero, List.set_cons_succ]
        (refine wpAnyH_take (i := 2) (oi := ⟨_, _, _, _, _, _⟩) (v := ?_) rfl (by kernel_rfl) (by kernel_rfl) (by kernel_rfl) (fun _ _ _ h => h) (Or.inl ⟨by rfl, ?_⟩) (by assumption) ?_; rotate_left 1; · (intro w hSw; (try dsimp only at hSw); go_simp; all_goals with_reducible rfl))
        try simp only [Act.put, List.setIfInBounds_toArray, List.set_cons_zero, List.set_cons_succ]
        (refine wpAnyH_take (i := 3) (oi := ⟨_, _, _, _, _, _⟩) (v := ?_) rfl (by kernel_rfl) (by kernel_rfl) (by kernel_rfl) (fun _ _ _ h => h) (Or.inl ⟨by rfl, ?_⟩) (by assumption) ?_; rotate_left 1; · (intro w hSw; (try dsimp only at hSw); go_simp; all_goals with_reducible rfl))
        try simp only [Act.put, List.setIfInBounds_toArray, List.set_cons_zero, List.set_cons_succ]
        (refine wpAnyH_take (i := 4) (oi := ⟨_, _, _, _, _, _⟩) (v := ?_) rfl (by kernel_rfl) (by kernel_rfl) (by kernel_rfl) (fun _ _ _ h => h) (Or.inl ⟨by rfl, ?_⟩) (by assumption) ?_; rotate_left 1; · (intro w hSw; (try dsimp only at hSw); go_simp; all_goals with_reducible rfl))
        try simp only [Act.put, List.setIfInBounds_toArray, List.set_cons_zero, List.set_cons_succ]
        first | (refine wpAnyH_take (i := 5) (oi := ⟨_, _, _, _, _, _⟩) (v := ?_) rfl (by kernel_rfl) (by kernel_rfl) (by kernel_rfl) (fun _ _ _ h => h) (Or.inl ⟨by rfl, ?_⟩) (by assumption) ?_; rotate_left 1; · (intro w hSw; (try dsimp only at hSw); go_simp; all_goals with_reducible rfl)) | refine wpAnyH_take (i := 5) (oi := ⟨_, _, _, _, _, _⟩) (v := undef) rfl (by kernel_rfl) (by kernel_rfl) (by kernel_rfl) (fun _ _ _ h => h) (Or.inr ⟨by kernel_rfl, rfl⟩) (by assumption) ?_
        try simp only [Act.put, List.setIfInBounds_toArray, List.set_cons_zero, List.set_cons_succ]
        first | (refine wpAnyH_take (i := 6) (oi := ⟨_, _, _, _, _, _⟩) (v := ?_) rfl (by kernel_rfl) (by kernel_rfl) (by kernel_rfl) (fun _ _ _ h => h) (Or.inl ⟨by rfl, ?_⟩) (by assumption) ?_; rotate_left 1; · (intro w hSw; (try dsimp only at hSw); go_simp; all_goals with_reducible rfl)) | refine wpAnyH_take (i := 6) (oi := ⟨_, _, _, _, _, _⟩) (v := undef) rfl (by kernel_rfl) (by kernel_rfl) (by kernel_rfl) (fun _ _ _ h => h) (Or.inr ⟨by kernel_rfl, rfl⟩) (by assumption) ?_
        try simp only [Act.put, List.setIfInBounds_toArray, List.set_cons_zero, List.set_cons_succ]
        first | (refine wpAnyH_take (i := 7) (oi := ⟨_, _, _, _, _, _⟩) (v := ?_) rfl (by kernel_rfl) (by kernel_rfl) (by kernel_rfl) (fun _ _ _ h => h) (Or.inl ⟨by rfl, ?_⟩) (by assumption) ?_; rotate_left 1; · (intro w hSw; (try dsimp only at hSw); go_simp; all_goals with_reducible rfl)) | refine wpAnyH_take (i := 7) (oi := ⟨_, _, _, _, _, _⟩) (v := undef) rfl (by kernel_rfl) (by kernel_rfl) (by kernel_rfl) (fun _ _ _ h => h) (Or.inr ⟨by kernel_rfl, rfl⟩) (by assumption) ?_
        try simp only [Act.put, List.setIfInBounds_toArray, List.set_cons_zero, List.set_cons_succ]
        first | (refine wpAnyH_take (i := 8) (oi := ⟨_, _, _, _, _, _⟩) (v := ?_) rfl (by kernel_rfl) (by kernel_rfl) (by kernel_rfl) (fun _ _ _ h => h) (Or.inl ⟨by rfl, ?_⟩) (by assumption) ?_; rotate_left 1; · (intro w hSw; (try dsimp only at hSw); go_simp; all_goals with_reducible rfl)) | refine wpAnyH_take (i := 8) (oi := ⟨_, _, _, _, _, _⟩) (v := undef) rfl (by kernel_rfl) (by kernel_rfl) (by kernel_rfl) (fun _ _ _ h => h) (Or.inr ⟨by kernel_rfl, rfl⟩) (by assumption) ?_
        try simp only [Act.put, List.setIfInBounds_toArray, List.set_cons_zero, List.set_cons_succ]
        first | (refine wpAnyH_take (i := 9) (oi := ⟨_, _, _, _, _, _⟩) (v := ?_) rfl (by kernel_rfl) (by kernel_rfl) (by kernel_rfl) (fun _ _ _ h => h) (Or.inl ⟨by rfl, ?_⟩) (by assumption) ?_; rotate_left 1; · (intro w hSw; (try dsimp only at hSw); go_simp; all_goals with_reducible rfl)) | refine wpAnyH_take (i := 9) (oi := ⟨_, _, _, _, _, _⟩) (v := undef) rfl (by kernel_rfl) (by kernel_rfl) (by kernel_rfl) (fun _ _ _ h => h) (Or.inr ⟨by kernel_rfl, rfl⟩) (by assumption) ?_
        try simp only [Act.put, List.setIfInBounds_toArray, List.set_cons_zero, List.set_cons_succ]
        first | (refine wpAnyH_take (i := 10) (oi := ⟨_, _, _, _, _, _⟩) (v := ?_) rfl (by kernel_rfl) (by kernel_rfl) (by kernel_rfl) (fun _ _ _ h => h) (Or.inl ⟨by rfl, ?_⟩) (by assumption) ?_; rotate_left 1; · (intro w hSw; (try dsimp only at hSw); go_simp; all_goals with_reducible rfl)) | refine wpAnyH_take (i := 10) (oi := ⟨_, _, _, _, _, _⟩) (v := undef) rfl (by kernel_rfl) (by kernel_rfl) (by kernel_rfl) (fun _ _ _ h => h) (Or.inr ⟨by kernel_rfl, rfl⟩) (by assumption) ?_
        try simp only [Act.put, List.setIfInBounds_toArray, List.set_cons_zero, List.set_cons_succ]
        refine wpAnyH_ready (rs := [11]) (by kernel_rfl) (by simp) ?_
        refine AllReadyH.cons (o := ⟨_, _, _, _, _, _⟩) rfl (fun Kq hKq => ?_) (AllReadyH.nil)
        go_simp
        clear hHeld
        go_at_call 51; (with_reducible refine (HC.out _).mono ?_); rintro e w7 ⟨rfl, hb⟩; have P7 := Lib.hid (below_after (Below.drew (Below.refl _ _)) hb (Nat.le_refl _)); clear hb c1 c2 x1 x2
        refine hKq.out _ _ ?_ (fun hHeld => ?_)
        · (try dsimp only); exact HF.out _ P7.out
        clear hKq Kq
        try simp only [Act.put, List.setIfInBounds_toArray, List.set_cons_zero, List.set_cons_succ]
        first | (refine wpAnyH_take (i := 12) (oi := ⟨_, _, _, _, _, _⟩) (v := ?_) rfl (by kernel_rfl) (by kernel_rfl) (by kernel_rfl) (fun _ _ _ h => h) (Or.inl ⟨by rfl, ?_⟩) (by assumption) ?_; rotate_left 1; · (intro w hSw; (try dsimp only at hSw); go_simp; all_goals with_reducible rfl)) | refine wpAnyH_take (i := 12) (oi := ⟨_, _, _, _, _, _⟩) (v := undef) rfl (by kernel_rfl) (by kernel_rfl) (by kernel_rfl) (fun _ _ _ h => h) (Or.inr ⟨by kernel_rfl, rfl⟩) (by assumption) ?_
        try simp only [Act.put, List.setIfInBounds_toArray, List.set_cons_zero, List.set_cons_succ]
        (refine wpAnyH_take (i := 13) (oi := ⟨_, _, _, _, _, _⟩) (v := ?_) rfl (by kernel_rfl) (by kernel_rfl) (by kernel_rfl) (fun _ _ _ h => h) (Or.inl ⟨by rfl, ?_⟩) (by assumption) ?_; rotate_left 1; · (intro w hSw; (try dsimp only at hSw); go_simp; all_goals with_reducible rfl))
        try simp only [Act.put, List.setIfInBounds_toArray, List.set_cons_zero, List.set_cons_succ]
        (refine wpAnyH_take (i := 14) (oi := ⟨_, _, _, _, _, _⟩) (v := ?_) rfl (by kernel_rfl) (by kernel_rfl) (by kernel_rfl) (fun _ _ _ h => h) (Or.inl ⟨by rfl, ?_⟩) (by assumption) ?_; rotate_left 1; · (intro w hSw; (try dsimp only at hSw); go_simp; all_goals with_reducible rfl))
        try simp only [Act.put, List.setIfInBounds_toArray, List.set_cons_zero, List.set_cons_succ]
        (refine wpAnyH_take (i := 15) (oi := ⟨_, _, _, _, _, _⟩) (v := ?_) rfl (by kernel_rfl) (by kernel_rfl) (by kernel_rfl) (fun _ _ _ h => h) (Or.inl ⟨by rfl, ?_⟩) (by assumption) ?_; rotate_left 1; · (intro w hSw; (try dsimp only at hSw); go_simp; all_goals with_reducible rfl))
        try simp only [Act.put, List.setIfInBounds_toArray, List.set_cons_zero, List.set_cons_succ]
        refine wpAnyH_done (by kernel_rfl) ?_ _
        go_wp2_with fail
        refine bodyPost_ret (v := .tuple #[.int .i64 i, .bool (z == 0)]) (by simp [results, Try.results52, go_sem]) rfl ?_
        exact ⟨i, by rw [← HZ.out]; rfl, HP.out, below_after B0.out (below_after HW.out P7.out (Nat.le_refl _)) (Nat.le_refl _)⟩
      · have hdn : decide ((i : Int) < (l.length : Int)) = false := decide_eq_false (by omega)
        have HN := Lib.hid (place_end HP.out (by omega))
        go_wp2_with fail
        go_quiet (fail)
        go_wp2_with fail
        refine bodyPost_ret (v := .tuple #[.int .i64 i, .bool false]) (by simp [results, Try.results52, go_sem]) rfl ?_
        exact ⟨i, by rw [HN.out], HP.out, below_after B0.out (below_drewN HW.out) (Nat.le_refl _)⟩
end Go.Proofs.Ytkoeplgkiogjlaa
namespace Go.Proofs.Ytkoeplgkiogjlaa
open Go Go.RowKit Sets
attribute [local go_sem] Oper.semAt_some
/-- What is kept between two marks. -/
def Span (lo hi : Nat) (w w' : World) : Prop := w.heap.size ≤ w'.heap.size ∧ ∀ k, lo ≤ k → k < hi → w'.heap[k]? = w.heap[k]?
theorem Span.refl (lo hi : Nat) (w : World) : Span lo hi w w := ⟨Nat.le_refl _, fun _ _ _ => rfl⟩
theorem Span.trans {lo hi : Nat} {a b c : World} (h : Span lo hi a b) (k : Span lo hi b c) : Span lo hi a c := ⟨Nat.le_trans h.1 k.1, fun i h1 h2 => (k.2 i h1 h2).trans (h.2 i h1 h2)⟩
theorem Span.grown {lo hi : Nat} {w a b : World} {row : Option Nat} (h : Span lo hi w a) (hg : a.grownBy b row) (hi2 : hi ≤ w.heap.size) (hr : ∀ g, row = some g → g < lo ∨ hi ≤ g) : Span lo hi w b :=
  ⟨Nat.le_trans h.1 hg.size, fun k h1 h2 => (hg.block k (Nat.lt_of_lt_of_le h2 (Nat.le_trans hi2 h.1)) (fun e => by have := hr k e.symm; omega)).trans (h.2 k h1 h2)⟩
theorem wpListIn_push {F : Fence} {m : Nat} {ops : Array Oper} {rest : List Oper} {o : Oper} {a : Act} {Q : Exit → Act → World → Prop} (hgd : o.guard = none) (s x : Operand)
    (ho : o.op = .call { callee := .builtin .append, args := #[s, x], argTypes := #[36, 36] })
    (wr : World) (base : Nat) (v : Value) (d : List (Int × Int)) (p q : Int) (hs : a.eval s = v) (hx : a.eval x = .slice (some ⟨wr.heap.size, 0, none⟩) 1 1)
    (hown : Owns wr base v d) (hl : d.length ≤ 99999) (hb : base ≤ wr.heap.size)
    (h : ∀ g cap w', Owns w' base (.slice (some ⟨g, 0, none⟩) (d.length + 1) cap) (d ++ [(p, q)]) → wr.grownBy w' v.ownBlock → (v.ownBlock = some g ∨ wr.heap.size ≤ g) → g < w'.heap.size → wpListIn F m Try.prog ops Q rest (a.put o.dst (.slice (some ⟨g, 0, none⟩) (d.length + 1) cap)) w') :
    wpListIn F m Try.prog ops Q (o :: rest) a (wr.alloc (.cells #[.int .i64 p, .int .i64 q] 35)) := by
  obtain ⟨i0, hi, hz0, hz1, hz2⟩ := info_parts info25
  refine wpListIn_plain hgd fun K hK' => ?_
  have hown2 : Owns (wr.alloc (.cells #[.int .i64 p, .int .i64 q] 35)) base v d := hown.below (below_one wr _)
  obtain ⟨g, cap, w', hrun, r1, r2, r3, r4⟩ := run_append_lies (P := Try.prog) (wr.alloc (.cells #[.int .i64 p, .int .i64 q] 35)) 36 o.type base 35 i0 (.agg #[.int .i64 0, .int .i64 0]) 2 16 Try.underlying36 hi hz0 hz1 hz2 rfl (by decide) v d.length (flat d) hown2
    ⟨wr.heap.size, 0, none⟩ 1 1 (flat [(p, q)]) (flat_len _) (World.news_of_block (cs := #[.int .i64 p, .int .i64 q]) (box_new wr p q)) (flat_one _) (by omega) (by unfold maxLen; omega) (by omega) (by simp; omega) _ rfl
  unfold Oper.wpIn
  refine ⟨?_, ?_⟩
  · simp [Oper.about, ho, resolve, Target.leads, Sem.run_pure]
  · rw [Oper.semAt_plain F _ _ (by rw [ho]; intro c hc'; cases hc')]
    simp [execOp, ho, resolve, invoke, builtin, hs, hx, hrun, Result.andThen]
    refine hK' _ _ (h g cap w' ?_ ?_ ?_ r4)
    · unfold Owns
      rw [flat_append, List.length_append]
      exact r1
    · refine ⟨r2.os, r2.tape, r2.output, Nat.le_trans (by simp) r2.size, fun k hk hne => ?_⟩
      rw [r2.block k (by simp; omega) hne, Below.heap_alloc _ _ _ hk]
    · rcases r3 with e | e
      · exact .inl e
      · right
        rw [e]
        simp
/-- A row in a box: where it lies. -/
def RowI (n0 lo X b : Nat) (A : World) (l : List Id2) : Prop := ∃ v, One A X 36 v ∧ Owns A b v l ∧ ∀ g, v.ownBlock = some g → g ≠ X ∧ (g < lo ∨ n0 + 2 ≤ g)
theorem Owns.kept {w w' : World} {base : Nat} {v : Value} {l : List (Int × Int)} {row : Option Nat} (h : Owns w base v l) (hg : w.grownBy w' row) (hr : ∀ g, v.ownBlock = some g → row ≠ some g) : Owns w' base v l :=
  World.ownsRow.kept h hg (by
    rcases ho : v.ownBlock with _ | g
    · exact .inl rfl
    · exact .inr fun e => hr g ho e.symm)
theorem One.grown {w w' : World} {g t : Nat} {v : Value} {row : Option Nat} (h : One w g t v) (hg : w.grownBy w' row) (hr : row ≠ some g) : One w' g t v := (hg.block g (one_lt h) (fun e => hr e.symm)).trans h
theorem Box.grown {w w' : World} {g : Nat} {a i : Int} {row : Option Nat} (h : Box w g a i) (hg : w.grownBy w' row) (hr : row ≠ some g) : Box w' g a i := (hg.block g (box_lt h) (fun e => hr e.symm)).trans h
theorem RowI.grown {n0 lo X b : Nat} {A B : World} {l : List Id2} {row : Option Nat} (h : RowI n0 lo X b A l) (hg : A.grownBy B row) (hX : row ≠ some X) (hr : ∀ g, row = some g → (lo ≤ g ∧ g < n0 + 2) ∨ g < b) : RowI n0 lo X b B l := by
  obtain ⟨v, h1, h2, h3⟩ := h
  exact ⟨v, h1.grown hg hX, h2.kept hg (fun g hv e => by have := h3 g hv; have := hr g e; have := (World.ownsRow.lt h2 g hv).1; omega), h3⟩
theorem one_set {w : World} {g t : Nat} {v : Value} (h : One w g t v) (u : Value) : One (w.setCell ⟨g, 0, none⟩ u) g t u := by
  unfold One at *
  simp [World.setCell, Array.getElem?_modify, h]
theorem grown_set (w : World) (g k : Nat) (v : Value) : w.grownBy (w.setCell ⟨g, k, none⟩ v) (some g) :=
  ⟨rfl, rfl, rfl, by simp, fun j _ hj => Below.heap_setCell _ _ _ _ (fun e => hj (by rw [e]))⟩
/-- What has been pushed: the box's new row. -/
theorem RowI.pushed {n0 lo X b g cap n : Nat} {w w' : World} {v : Value} {l' : List Id2} (hX : X < n0) (hn : n0 + 2 ≤ w.heap.size) (h1 : One w X 36 v) (h3 : ∀ g, v.ownBlock = some g → g ≠ X ∧ (g < lo ∨ n0 + 2 ≤ g))
    (p1 : Owns w' b (.slice (some ⟨g, 0, none⟩) n cap) l') (p2 : w.grownBy w' v.ownBlock) (p3 : v.ownBlock = some g ∨ w.heap.size ≤ g) : RowI n0 lo X b (w'.setCell ⟨X, 0, none⟩ (.slice (some ⟨g, 0, none⟩) n cap)) l' := by
  have hg : g ≠ X ∧ (g < lo ∨ n0 + 2 ≤ g) := by
    rcases p3 with e | e
    · exact h3 g e
    · exact ⟨by omega, .inr (by omega)⟩
  refine ⟨_, one_set (h1.grown p2 (fun e => by have := h3 X e; omega)) _, p1.kept (grown_set _ _ _ _) (fun g' e e2 => ?_), fun g' e => ?_⟩
  · injection e with e
    injection e2 with e2
    have e' : g = g' := e
    omega
  · injection e with e
    have e' : g = g' := e
    omega
theorem cells_deferred {w w' : World} {l : Nat} {d : Option (List Deferred)} (hl : w.heap[l]? = some (.deferred d)) (h : w.grownBy w' (some l)) : ∀ a v, w.cell? a = some v → w'.cell? a = some v := by
  intro a v hc
  have hlt := World.block_lt_of_cell? w _ hc
  by_cases e : a.block = l
  · exfalso
    rw [← e] at hl
    unfold World.cell? at hc
    rw [hl] at hc
    simp at hc
  · rw [World.cell?_of_block (h.block a.block hlt (fun e2 => e (by injection e2)))]
    exact hc
theorem Ids.cells {w w' : World} {v : Value} {l : List Id2} (h : Ids w v l) (hs : w.heap.size ≤ w'.heap.size) (hc : ∀ a v, w.cell? a = some v → w'.cell? a = some v) : Ids w' v l := by
  obtain ⟨A, c, hv, h0, hn, hk⟩ := h
  refine ⟨A, c, hv, h0, hn, fun k h => ?_⟩
  obtain ⟨ad, h1, h2, h3, h4⟩ := hk k h
  exact ⟨ad, h1, Nat.lt_of_lt_of_le h2 hs, hc _ _ h3, hc _ _ h4⟩
end Go.Proofs.Ytkoeplgkiogjlaa
namespace Go.Proofs.Ytkoeplgkiogjlaa
open Go.RowKit Sets
theorem ins_step {x y : Int × Int} (l : List (Int × Int)) (h : lss y.1 y.2 x.1 x.2 = true) : ins x (y :: l) = y :: ins x l := by
  have h := (lss_iff y x).1 h
  rw [ins, if_neg (lt_asymm h), if_neg (fun e : x = y => lt_irrefl x (by rw [← e] at h; exact h))]
theorem ins_stop {x y : Int × Int} (l : List (Int × Int)) (h : lss y.1 y.2 x.1 x.2 = false) (hn : ¬ (y.1 = x.1 ∧ y.2 = x.2)) : ins x (y :: l) = x :: y :: l := by
  have h := (lss_not y x).1 h
  rw [ins, if_pos]
  rcases lt_total x y with e | e | e
  · exact e
  · exact absurd ⟨by rw [e], by rw [e]⟩ hn
  · exact absurd e h
theorem ins_here {x y : Int × Int} (l : List (Int × Int)) (e1 : y.1 = x.1) (e2 : y.2 = x.2) : ins x (y :: l) = y :: l := by
  obtain rfl : y = x := Prod.ext e1 e2
  rw [ins, if_neg (lt_irrefl y), if_pos rfl]
theorem ins_next {x : Int × Int} {l : List (Int × Int)} {k : Nat} (hk : k < l.length) (h : lss l[k].1 l[k].2 x.1 x.2 = true) (he : ins x l = l.take k ++ ins x (l.drop k)) : ins x l = l.take (k + 1) ++ ins x (l.drop (k + 1)) := by
  rw [he, List.drop_eq_getElem_cons hk, ins_step _ h, List.take_succ_eq_append_getElem hk, List.append_assoc]
  rfl
theorem ins_in {x : Int × Int} {l : List (Int × Int)} {k : Nat} (hk : k < l.length) (h : lss l[k].1 l[k].2 x.1 x.2 = false) (hn : ¬ (l[k].1 = x.1 ∧ l[k].2 = x.2)) (he : ins x l = l.take k ++ ins x (l.drop k)) : ins x l = l.take k ++ [x] ++ l.drop k := by
  rw [he, List.drop_eq_getElem_cons hk, ins_stop _ h hn, List.append_assoc]
  rfl
theorem ins_same {x : Int × Int} {l : List (Int × Int)} {k : Nat} (hk : k < l.length) (e1 : l[k].1 = x.1) (e2 : l[k].2 = x.2) (he : ins x l = l.take k ++ ins x (l.drop k)) : ins x l = l := by
  rw [he, List.drop_eq_getElem_cons hk, ins_here _ e1 e2, ← List.drop_eq_getElem_cons hk, List.take_append_drop]
theorem ins_end {x : Int × Int} {l : List (Int × Int)} {k : Nat} (hk : l.length ≤ k) (he : ins x l = l.take k ++ ins x (l.drop k)) : ins x l = l.take k ++ [x] ++ l.drop k := by
  rw [he, List.drop_of_length_le hk, List.append_nil]
  rfl
theorem owns_made (w : World) (base : Nat) (hb : base ≤ w.heap.size) : Owns (w.alloc (.cells #[] 35)) base (.slice (some ⟨w.heap.size, 0, none⟩) 0 0) [] :=
  World.ownsRow_made w (base := base) (e := 35) (size := 2) #[] 0 hb (by decide) (by simp)
theorem box_after {w w1 : World} {o : Obj} {g : Nat} {a i : Int} (h : Box w g a i) (hb : Below w.heap.size (w.alloc o) w1) : Box w1 g a i := (hb.block g (box_lt h)).trans ((Below.heap_alloc w o g (box_lt h)).trans h)
set_option maxHeartbeats 4000000 in
theorem refPut_any (v : Value) (l : List (Int × Int)) (a i : Int) (w : World) (h : Ids w v l) (hl : l.length ≤ 40000) :
    Calls Try.prog 44 #[v, .agg #[.int .i64 a, .int .i64 i]] w (Lists (ins (a, i) l) w) := by
  have HI := Lib.hid h
  have HX := Lib.hid (box_new w a i)
  have HB := Lib.hid ((Below.refl w.heap.size w).alloc (Nat.le_refl _) (.cells #[.int .i64 a, .int .i64 i] 35))
  have HF := Lib.hid fun k hk => run_from h k hk
  have HG := Lib.hid fun k hk => run_to h k hk
  obtain ⟨A, c, rfl, hz⟩ := id h
  clear h hz
  go_enter Try.func44, Try.ntmps44
  go_wp2_with fail
  go_loopw [5] (fun s5 wr => ∃ k : Nat, k ≤ l.length ∧ s5 = .int .i64 k ∧ ins (a, i) l = l.take k ++ ins (a, i) (l.drop k) ∧ Box wr w.heap.size a i ∧ Below w.heap.size w wr) (fun s5 _ => l.length - (intOf s5).toNat)
  case atStart => exact ⟨0, by omega, rfl, rfl, HX.out, HB.out⟩
  case round =>
    obtain ⟨k, hkl, rfl, ht, hx, hw⟩ := hrel
    have HW := Lib.hid hw
    have HT := Lib.hid ht
    have HY := Lib.hid hx
    clear hw ht hx HX HB
    have i3 : (0 : Int) ≤ (k : Int) := by omega
    by_cases hlt : k < l.length
    · have hd : decide ((k : Int) < (l.length : Int)) = true := by simp; omega
      have i4 : (k : Int) < (l.length : Int) := by omega
      have HK0 := Lib.hid hlt
      obtain ⟨ad, rfl, c1, c2⟩ := HI.out.at_ HW.out hlt
      obtain ⟨c3, c4⟩ := box_cells HY.out
      have HS := Lib.hid fun w' (hb : Below w.heap.size w w') (hx : Box w' w.heap.size a i) => And.intro (And.intro (cell1 HI.out hb hlt) (cell2 HI.out hb hlt)) (And.intro (box_cells hx) (Lib.hid (And.intro hb hx)))
      have H1 := Lib.hid fun h => ins_next (x := (a, i)) hlt h HT.out
      have H2 := Lib.hid fun h hn => ins_in (x := (a, i)) hlt h hn HT.out
      have H3 := Lib.hid fun e1 e2 => ins_same (x := (a, i)) hlt e1 e2 HT.out
      have HD := Lib.hid fun (W : World) => refLess_any l[k].1 l[k].2 a i W
      generalize l[k].1 = b at *
      generalize l[k].2 = j at *
      cases hv : lss b j a i
      · have HV := Lib.hid hv
        clear hv
        go_wp2_with fail
        go_region_held3 (fun w' => (w'.cell? (ad.add (k * 2)) = some (.int .i64 b) ∧ w'.cell? ⟨(ad.add (k * 2)).block, (ad.add (k * 2)).off + 1, none⟩ = some (.int .i64 j)) ∧ (w'.cell? ⟨w.heap.size, 0, none⟩ = some (.int .i64 a) ∧ w'.cell? ⟨w.heap.size, 1, none⟩ = some (.int .i64 i)) ∧ Hid (Below w.heap.size w w' ∧ Box w' w.heap.size a i))
          (first | exact HS.out _ HW.out.drew HY.out | exact HS.out _ HK.out.1 HK.out.2)
          (first | (go_at_call 45; (with_reducible refine (HD.out _).mono ?_); rintro e w' ⟨rfl, hb⟩; rw [HV.out]; have HK := Lib.hid (And.intro (below_after (show Hid (Below w.heap.size w _ ∧ Box _ w.heap.size a i) by go_split_ands; assumption).out.1 hb (Nat.le_refl _)) (box_below (show Hid (Below w.heap.size w _ ∧ Box _ w.heap.size a i) by go_split_ands; assumption).out.2 hb)); clear hb))
        --C
        have B3 := Lib.hid HK.out.1
        have X3 := Lib.hid HK.out.2
        clear c1 c2 c3 c4
        obtain ⟨⟨c1, c2⟩, ⟨c3, c4⟩, _⟩ := HS.out _ B3.out X3.out
        by_cases hab : b = a
        · have hab := hab.symm
          subst hab
          by_cases hij : j = i
          · have hij := hij.symm
            subst hij
            have HR := Lib.hid (H3.out rfl rfl)
            clear H1 H2 H3 HV HS HD
            go_wp2_with fail
            go_quiet (fail)
            go_wp2_with fail
            go_ret
            exact ⟨_, rfl, by rw [HR.out]; exact HI.out.below (below_drewN B3.out), below_drewN B3.out⟩
          · have h2 : (j == i) = false := by simpa using hij
            have HR := Lib.hid (H2.out HV.out fun h => hij h.2)
            clear hij
            obtain ⟨U, hu, hU⟩ := HF.out k (by omega)
            obtain ⟨V, hv, hV⟩ := HG.out k (by omega)
            have HU := Lib.hid hU
            have HV2 := Lib.hid hV
            clear hU hV
            clear H1 H2 H3 HV HS HD HF HG
            go_wp2_with fail
            go_quiet (fail)
            clear c1 c2 c3 c4
            have B5 := Lib.hid (below_drewN (n := nq) B3.out)
            have X5 := Lib.hid (box_drewN (n := nq) X3.out)
            clear B3 X3 HK
            generalize w'.drewN nq = w5 at *
            have M5 := Lib.hid (owns_made w5 w5.heap.size (Nat.le_refl _))
            have B6 := Lib.hid (B5.out.alloc B5.out.size (.cells #[] 35))
            have X6 := Lib.hid (box_below X5.out ((Below.refl w5.heap.size w5).alloc (Nat.le_refl _) (.cells #[] 35)))
            have S6 := Lib.hid (show w5.heap.size ≤ (w5.alloc (.cells #[] 35)).heap.size by simp)
            go_wp2_with (first
              | (at_builtin; refine wpList_append_list rfl (.tmp 34) (.tmp 37) rfl _ w5.heap.size _ V [] (l.take k) rfl rfl M5.out (HV2.out.below B6.out) (by simp; omega) S6.out ?_; intro v7 w7 h1 h2; have O7 := Lib.hid h1; have B7 := Lib.hid (B6.out.trans (h2.mono B5.out.size)); have X7 := Lib.hid (box_after X5.out h2); have S7 := Lib.hid (Nat.le_trans S6.out h2.size); clear h1 h2; obtain ⟨q1, q2⟩ := box_cells X7.out)
              | (at_builtin; refine wpList_append_one rfl (.tmp 39) (.tmp 41) rfl w7 w5.heap.size v7 _ a i rfl rfl O7.out (by simp; omega) S7.out ?_; intro v8 w8 h1 h2; have O8 := Lib.hid h1; have B8 := Lib.hid (B7.out.trans (h2.mono B5.out.size)); have S8 := Lib.hid (Nat.le_trans S7.out h2.size); clear h1 h2 q1 q2)
              | (at_builtin; refine wpList_append_list rfl (.tmp 43) (.tmp 46) rfl w8 w5.heap.size v8 U _ (l.drop k) rfl rfl O8.out (HU.out.below B8.out) (by simp; omega) S8.out ?_; intro v9 w9 h1 h2; have O9 := Lib.hid h1; have B9 := Lib.hid (B8.out.trans (h2.mono B5.out.size)); clear h1 h2))
            go_ret
            exact ⟨v9, rfl, by rw [HR.out]; exact ids_of_owns O9.out, B9.out⟩
        · have h2 : (b == a) = false := by simpa using hab
          have HR := Lib.hid (H2.out HV.out fun h => hab h.1)
          clear hab
          obtain ⟨U, hu, hU⟩ := HF.out k (by omega)
          obtain ⟨V, hv, hV⟩ := HG.out k (by omega)
          have HU := Lib.hid hU
          have HV2 := Lib.hid hV
          clear hU hV
          clear H1 H2 H3 HV HS HD HF HG
          go_wp2_with fail
          go_quiet (fail)
          clear c1 c2 c3 c4
          have B5 := Lib.hid (below_drewN (n := nq) B3.out)
          have X5 := Lib.hid (box_drewN (n := nq) X3.out)
          clear B3 X3 HK
          generalize w'.drewN nq = w5 at *
          have M5 := Lib.hid (owns_made w5 w5.heap.size (Nat.le_refl _))
          have B6 := Lib.hid (B5.out.alloc B5.out.size (.cells #[] 35))
          have X6 := Lib.hid (box_below X5.out ((Below.refl w5.heap.size w5).alloc (Nat.le_refl _) (.cells #[] 35)))
          have S6 := Lib.hid (show w5.heap.size ≤ (w5.alloc (.cells #[] 35)).heap.size by simp)
          go_wp2_with (first
            | (at_builtin; refine wpList_append_list rfl (.tmp 34) (.tmp 37) rfl _ w5.heap.size _ V [] (l.take k) rfl rfl M5.out (HV2.out.below B6.out) (by simp; omega) S6.out ?_; intro v7 w7 h1 h2; have O7 := Lib.hid h1; have B7 := Lib.hid (B6.out.trans (h2.mono B5.out.size)); have X7 := Lib.hid (box_after X5.out h2); have S7 := Lib.hid (Nat.le_trans S6.out h2.size); clear h1 h2; obtain ⟨q1, q2⟩ := box_cells X7.out)
            | (at_builtin; refine wpList_append_one rfl (.tmp 39) (.tmp 41) rfl w7 w5.heap.size v7 _ a i rfl rfl O7.out (by simp; omega) S7.out ?_; intro v8 w8 h1 h2; have O8 := Lib.hid h1; have B8 := Lib.hid (B7.out.trans (h2.mono B5.out.size)); have S8 := Lib.hid (Nat.le_trans S7.out h2.size); clear h1 h2 q1 q2)
            | (at_builtin; refine wpList_append_list rfl (.tmp 43) (.tmp 46) rfl w8 w5.heap.size v8 U _ (l.drop k) rfl rfl O8.out (HU.out.below B8.out) (by simp; omega) S8.out ?_; intro v9 w9 h1 h2; have O9 := Lib.hid h1; have B9 := Lib.hid (B8.out.trans (h2.mono B5.out.size)); clear h1 h2))
          go_ret
          exact ⟨v9, rfl, by rw [HR.out]; exact ids_of_owns O9.out, B9.out⟩
      · have HV := Lib.hid hv
        clear hv
        go_wp2_with fail
        go_region_held3 (fun w' => (w'.cell? (ad.add (k * 2)) = some (.int .i64 b) ∧ w'.cell? ⟨(ad.add (k * 2)).block, (ad.add (k * 2)).off + 1, none⟩ = some (.int .i64 j)) ∧ (w'.cell? ⟨w.heap.size, 0, none⟩ = some (.int .i64 a) ∧ w'.cell? ⟨w.heap.size, 1, none⟩ = some (.int .i64 i)) ∧ Hid (Below w.heap.size w w' ∧ Box w' w.heap.size a i))
          (first | exact HS.out _ HW.out.drew HY.out | exact HS.out _ HK.out.1 HK.out.2)
          (first | (go_at_call 45; (with_reducible refine (HD.out _).mono ?_); rintro e w' ⟨rfl, hb⟩; rw [HV.out]; have HK := Lib.hid (And.intro (below_after (show Hid (Below w.heap.size w _ ∧ Box _ w.heap.size a i) by go_split_ands; assumption).out.1 hb (Nat.le_refl _)) (box_below (show Hid (Below w.heap.size w _ ∧ Box _ w.heap.size a i) by go_split_ands; assumption).out.2 hb)); clear hb))
        have B3 := Lib.hid HK.out.1
        have X3 := Lib.hid HK.out.2
        have HE := Lib.hid (H1.out HV.out)
        clear c1 c2 c3 c4 H1 H2 H3 HS HD HF HG
        go_wp2_with fail
        go_roundw
        case rel => exact ⟨k + 1, by omega, by go_num, HE.out, X3.out, B3.out⟩
        case measure => simp [intOf]; omega
    · have hd : decide ((k : Int) < (l.length : Int)) = false := by simp; omega
      have HR := Lib.hid (ins_end (by omega) HT.out)
      obtain ⟨U, hu, hU⟩ := HF.out k (by omega)
      obtain ⟨V, hv, hV⟩ := HG.out k (by omega)
      have HU := Lib.hid hU
      have HV2 := Lib.hid hV
      clear hU hV
      clear HF HG
      go_wp2_with fail
      go_quiet (fail)
      go_wp2_with fail
      have B4 := Lib.hid (below_drewN (n := nq) HW.out)
      have X4 := Lib.hid (box_drewN (n := nq) HY.out)
      generalize wr.drewN nq = w4 at *
      go_quiet (fail)
      have B5 := Lib.hid (below_drewN (n := nq) B4.out)
      have X5 := Lib.hid (box_drewN (n := nq) X4.out)
      generalize w4.drewN nq = w5 at *
      have M5 := Lib.hid (owns_made w5 w5.heap.size (Nat.le_refl _))
      have B6 := Lib.hid (B5.out.alloc B5.out.size (.cells #[] 35))
      have X6 := Lib.hid (box_below X5.out ((Below.refl w5.heap.size w5).alloc (Nat.le_refl _) (.cells #[] 35)))
      have S6 := Lib.hid (show w5.heap.size ≤ (w5.alloc (.cells #[] 35)).heap.size by simp)
      go_wp2_with (first
        | (at_builtin; refine wpList_append_list rfl (.tmp 34) (.tmp 37) rfl _ w5.heap.size _ V [] (l.take k) rfl rfl M5.out (HV2.out.below B6.out) (by simp; omega) S6.out ?_; intro v7 w7 h1 h2; have O7 := Lib.hid h1; have B7 := Lib.hid (B6.out.trans (h2.mono B5.out.size)); have X7 := Lib.hid (box_after X5.out h2); have S7 := Lib.hid (Nat.le_trans S6.out h2.size); clear h1 h2; obtain ⟨q1, q2⟩ := box_cells X7.out)
        | (at_builtin; refine wpList_append_one rfl (.tmp 39) (.tmp 41) rfl w7 w5.heap.size v7 _ a i rfl rfl O7.out (by simp; omega) S7.out ?_; intro v8 w8 h1 h2; have O8 := Lib.hid h1; have B8 := Lib.hid (B7.out.trans (h2.mono B5.out.size)); have S8 := Lib.hid (Nat.le_trans S7.out h2.size); clear h1 h2 q1 q2)
        | (at_builtin; refine wpList_append_list rfl (.tmp 43) (.tmp 46) rfl w8 w5.heap.size v8 U _ (l.drop k) rfl rfl O8.out (HU.out.below B8.out) (by simp; omega) S8.out ?_; intro v9 w9 h1 h2; have O9 := Lib.hid h1; have B9 := Lib.hid (B8.out.trans (h2.mono B5.out.size)); clear h1 h2))
      go_ret
      exact ⟨v9, rfl, by rw [HR.out]; exact ids_of_owns O9.out, B9.out⟩
end Go.Proofs.Ytkoeplgkiogjlaa
namespace Go.Proofs.Ytkoeplgkiogjlaa
open Go.RowKit Sets
theorem setOf_snoc {l : List (Int × Int)} {k : Nat} (hk : k < l.length) : setOf (l.take (k + 1)) = ins (l[k].1, l[k].2) (setOf (l.take k)) := by
  unfold setOf
  rw [List.take_succ_eq_append_getElem hk, List.foldl_append]
  rfl
theorem setOf_take_len (l : List (Int × Int)) (k : Nat) : (setOf (l.take k)).length ≤ l.length := by
  have h1 := setOf_len (l.take k)
  have h2 : (l.take k).length ≤ l.length := by simp; omega
  omega
set_option maxHeartbeats 1000000 in
theorem refSet_any (v : Value) (l : List (Int × Int)) (w : World) (h : Ids w v l) (hl : l.length ≤ 40000) :
    Calls Try.prog 38 #[v] w (Lists (setOf l) w) := by
  have HI := Lib.hid h
  obtain ⟨A, c, rfl, hz⟩ := h
  clear hz
  go_enter Try.func38, Try.ntmps38
  go_wp2_with fail
  go_loopw [3, 4] (fun s3 s4 wr => ∃ k : Nat, k ≤ l.length ∧ s4 = .int .i64 k ∧ Ids wr s3 (setOf (l.take k)) ∧ Below w.heap.size w wr) (fun _ s4 _ => l.length - (intOf s4).toNat)
  case atStart => exact ⟨0, by omega, rfl, Ids.nil _, Below.refl _ _⟩
  case round =>
    obtain ⟨k, hkl, rfl, ht, hw⟩ := hrel
    have HW := Lib.hid hw
    have HT := Lib.hid ht
    have hz := setOf_take_len l k
    clear hw ht
    have i3 : (0 : Int) ≤ (k : Int) := by omega
    by_cases hlt : k < l.length
    · have hd : decide ((k : Int) < (l.length : Int)) = true := by simp; omega
      have i4 : (k : Int) < (l.length : Int) := by omega
      obtain ⟨ad, rfl, c1, c2⟩ := HI.out.at_ HW.out hlt
      have HS := Lib.hid (setOf_snoc hlt)
      generalize l[k].1 = a at *
      generalize l[k].2 = i at *
      go_wp2_with fail
      refine (refPut_any u3 _ a i _ HT.out (by omega)).mono ?_
      rw [← HS.out]
      rintro e w1 ⟨r, rfl, hi, hb⟩
      have H1 := Lib.hid hi
      have B1 := Lib.hid (below_after HW.out hb (Nat.le_refl _))
      clear hi hb c1 c2
      go_wp2_with fail
      go_roundw
      case rel => exact ⟨k + 1, by omega, by go_num, H1.out, B1.out⟩
      case measure => simp [intOf]; omega
    · have hd : decide ((k : Int) < (l.length : Int)) = false := by simp; omega
      have HE := Lib.hid (show Ids wr u3 (setOf l) by have := HT.out; rwa [List.take_of_length_le (by omega)] at this)
      go_wp2_with fail
      go_ret
      exact ⟨_, rfl, HE.out, HW.out⟩
theorem refSame_any (v u : Value) (l m : List (Int × Int)) (w : World) (h : Ids w v l) (h2 : Ids w u m) (hl : l.length ≤ 40000) (hm : m.length ≤ 40000) :
    Calls Try.prog 17 #[v, u] w fun e w' => e = .returned (.bool (sameB (setOf l) (setOf m))) ∧ Below w.heap.size w w' := by
  have HI := Lib.hid h
  have HJ := Lib.hid h2
  have hl2 := setOf_len l
  clear h h2
  go_enter Try.func17, Try.ntmps17
  go_wp2_with fail
  refine (refSet_any v l _ HI.out hl).mono ?_
  rintro e w1 ⟨r, rfl, hi, hb⟩
  have H1 := Lib.hid hi
  have B1 := Lib.hid hb
  have J1 := Lib.hid (HJ.out.below hb)
  clear hi hb
  go_wp2_with fail
  refine (refSet_any u m _ J1.out hm).mono ?_
  rintro e w2 ⟨r2, rfl, hi, hb⟩
  have H2 := Lib.hid hi
  have B2 := Lib.hid (below_after B1.out hb (Nat.le_refl _))
  have K2 := Lib.hid (H1.out.below hb)
  clear hi hb
  go_wp2_with fail
  refine (ids_any r r2 _ _ _ K2.out H2.out (by omega)).mono ?_
  rintro e w3 ⟨rfl, hb⟩
  have B3 := Lib.hid (below_after B2.out hb (Nat.le_refl _))
  clear hb
  go_wp2_with fail
  go_ret
  exact ⟨rfl, B3.out⟩
end Go.Proofs.Ytkoeplgkiogjlaa
namespace Go.Proofs.Ytkoeplgkiogjlaa
open Go.RowKit Sets
theorem at_any (a : Int) (w : World) : Calls Try.prog 25 #[.int .i64 a] w fun e w' => e = .returned (.agg #[.int .i64 a, .int .i64 1]) ∧ Below w.heap.size w w' := by
  have HX := Lib.hid (box_new w a 1)
  have HB := Lib.hid (below_one w (.cells #[.int .i64 a, .int .i64 1] 35))
  obtain ⟨q0, q1⟩ := box_cells (box_new w a 1)
  go_enter Try.func25, Try.ntmps25
  go_wp2_with fail
  refine bodyPost_ret (v := .agg #[.int .i64 a, .int .i64 1]) (by simp [results, Try.results25, go_sem, q0, q1]) rfl ?_
  exact ⟨rfl, HB.out⟩
set_option maxHeartbeats 1000000 in
theorem docPut_any (v : Value) (l : List (Int × Int)) (a i : Int) (w : World) (h : Ids w v l) (hl : l.length ≤ 40000) :
    Calls Try.prog 43 #[v, .agg #[.int .i64 a, .int .i64 i]] w (Lists (put l (a, i)) w) := by
  have HX := Lib.hid (box_new w a i)
  have HB := Lib.hid (below_one w (.cells #[.int .i64 a, .int .i64 i] 35))
  have HI := Lib.hid (h.below HB.out)
  have hsl := Lib.hid (setOf_len l)
  obtain ⟨x1, x2⟩ := box_cells HX.out
  obtain ⟨A, c, rfl, hz⟩ := id h
  clear h hz
  go_enter Try.func43, Try.ntmps43
  go_wp2_with fail
  have HS := Lib.hid fun w' (hb : Below (w.alloc (.cells #[.int .i64 a, .int .i64 i] 35)).heap.size (w.alloc (.cells #[.int .i64 a, .int .i64 i] 35)) w') => (show (w'.cell? ⟨w.heap.size, 0, none⟩ = some (.int .i64 a) ∧ w'.cell? ⟨w.heap.size, 1, none⟩ = some (.int .i64 i)) ∧ Hid (Below (w.alloc (.cells #[.int .i64 a, .int .i64 i] 35)).heap.size (w.alloc (.cells #[.int .i64 a, .int .i64 i] 35)) w') from ⟨box_cells (box_below HX.out hb), Lib.hid hb⟩)
  go_region_held3 (fun w' => (w'.cell? ⟨w.heap.size, 0, none⟩ = some (.int .i64 a) ∧ w'.cell? ⟨w.heap.size, 1, none⟩ = some (.int .i64 i)) ∧ Hid (Below (w.alloc (.cells #[.int .i64 a, .int .i64 i] 35)).heap.size (w.alloc (.cells #[.int .i64 a, .int .i64 i] 35)) w'))
    (first | exact HS.out _ (Below.refl _ _).drew | exact HS.out _ HK.out)
    (first
      | (go_at_call 38; (with_reducible refine (refSet_any _ l _ (HI.out.below (Below.refl _ _).drew) hl).mono ?_); rintro e w1 ⟨v1, rfl, ho, hb⟩; have HK := Lib.hid (show Below (w.alloc (.cells #[.int .i64 a, .int .i64 i] 35)).heap.size (w.alloc (.cells #[.int .i64 a, .int .i64 i] 35)) w1 from (Below.refl _ _).drew.trans hb); have O1 := Lib.hid ho; clear hb ho)
      | (go_at_call 44; (with_reducible refine (refPut_any _ (setOf l) a i _ O1.out (Nat.le_trans hsl.out hl)).mono ?_); rintro e w2 ⟨v2, rfl, ho, hb⟩; have O2 := Lib.hid ho; have HK := Lib.hid (HK.out.trans (hb.mono HK.out.size)); clear hb ho))
  go_wp2_with fail
  go_ret
  exact ⟨_, rfl, by rw [put_ins]; exact O2.out, below_after HB.out HK.out (Nat.le_refl _)⟩
end Go.Proofs.Ytkoeplgkiogjlaa
