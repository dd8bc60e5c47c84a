/-
  Carried over: contracts of this program's functions. No statement is proved in this text.
-/
import Derived.Test.YtkoeplgkiogjlaaRowSetOps
import Derived.Test.YtkoeplgkiogjlaaRingA
set_option maxRecDepth 20000
namespace Go.Proofs.Ytkoeplgkiogjlaa
open Go Go.RowKit Sets
theorem rises_at {l : List Id2} (h : Rises l) {i j : Nat} (hj : j < l.length) (hij : i < j) : lt (l[i]'(by omega)) l[j] := List.pairwise_iff_getElem.1 h i j (by omega) hj hij
theorem lss_lt (x y : Id2) : lss x.1 x.2 y.1 y.2 = decide (lt x y) := by
  unfold lss lt
  by_cases h : x.1 < y.1 <;> by_cases h2 : x.1 = y.1 <;> by_cases h3 : x.2 < y.2 <;> simp [h, h2, h3]
theorem cmpZ_ltB {a i b j : Int} (h : lt (a, i) (b, j)) : cmpZ a i b j = -1 := by
  have : lss a i b j = true := by rw [lss_lt (a, i) (b, j)]; exact decide_eq_true h
  simp [cmpZ, this]
theorem cmpZ_geB {a i b j : Int} (h : ¬ lt (a, i) (b, j)) : ¬ cmpZ a i b j < 0 := by
  have : lss a i b j = false := by rw [lss_lt (a, i) (b, j)]; exact decide_eq_false h
  unfold cmpZ
  rw [this]
  cases lss b j a i <;> simp
theorem cmpZ_self (a i : Int) : cmpZ a i a i = 0 := by
  have : lss a i a i = false := by rw [lss_lt (a, i) (a, i)]; exact decide_eq_false (lt_irrefl _)
  simp [cmpZ, this]
theorem cmpZ_gt {a i b j : Int} (h : lt (b, j) (a, i)) : cmpZ a i b j = 1 := by
  have h1 : lss b j a i = true := by rw [lss_lt (b, j) (a, i)]; exact decide_eq_true h
  have h2 : lss a i b j = false := by rw [lss_lt (a, i) (b, j)]; exact decide_eq_false (lt_asymm h)
  simp [cmpZ, h1, h2]
theorem lt_totalROW {x y : Id2} (h : ¬ lt x y) (hne : x ≠ y) : lt y x := by
  unfold lt at *
  rcases Int.lt_trichotomy x.1 y.1 with h1 | h1 | h1
  · exact absurd (.inl h1) h
  · rcases Int.lt_trichotomy x.2 y.2 with h2 | h2 | h2
    · exact absurd (.inr ⟨h1, h2⟩) h
    · exact absurd (Prod.ext h1 h2) hne
    · exact .inr ⟨h1.symm, h2⟩
  · exact .inl h1
/-- Where an ID stands, or would stand. -/
def PlaceI (l : List Id2) (X : Id2) (k : Nat) : Prop := k ≤ l.length ∧ (∀ t (h : t < l.length), t < k → lt l[t] X) ∧ ∀ t (h : t < l.length), k ≤ t → ¬ lt l[t] X
theorem place_has {l : List Id2} {X : Id2} {k : Nat} (hk : k < l.length) (e : l[k] = X) : hasB X l = true := by
  unfold hasB
  exact decide_eq_true (e ▸ List.getElem_mem hk)
theorem place_not {l : List Id2} {X : Id2} {k : Nat} (hr : Rises l) (h : PlaceI l X k) (hk : k < l.length) (e : l[k] ≠ X) : hasB X l = false := by
  unfold hasB
  refine decide_eq_false fun hm => ?_
  obtain ⟨t, ht, e2⟩ := List.mem_iff_getElem.1 hm
  have hgt := lt_totalROW (h.2.2 k hk (Nat.le_refl _)) e
  rcases Nat.lt_trichotomy t k with h1 | h1 | h1
  · have := h.2.1 t ht h1
    rw [e2] at this
    exact lt_irrefl _ this
  · subst h1; exact e e2
  · have := rises_at hr ht h1
    rw [e2] at this
    exact lt_asymm this hgt
theorem place_end {l : List Id2} {X : Id2} {k : Nat} (h : PlaceI l X k) (hk : l.length ≤ k) : hasB X l = false := by
  unfold hasB
  refine decide_eq_false fun hm => ?_
  obtain ⟨t, ht, e2⟩ := List.mem_iff_getElem.1 hm
  have := h.2.1 t ht (by omega)
  rw [e2] at this
  exact lt_irrefl _ this
set_option maxHeartbeats 4000000 in
set_option maxRecDepth 100000 in
theorem bin_any (v : Value) (l : List Id2) (x y : Int) (w : World) (h : Ids w v l) (hr : Rises l) (hl : l.length ≤ 100000) :
    Calls Try.prog 52 #[v, .agg #[.int .i64 x, .int .i64 y], .func (.func 51) #[] #[]] w fun e w' => ∃ k : Nat, e = .returned (.tuple #[.int .i64 k, .bool (hasB (x, y) l)]) ∧ PlaceI l (x, y) k ∧ Below w.heap.size w w' := by
  have B0 := Lib.hid (below_one w (.cells #[.int .i64 x, .int .i64 y] 35))
  have X0 := Lib.hid (box_new w x y)
  have I0 := Lib.hid (h.below B0.out)
  have HR := Lib.hid hr
  obtain ⟨A, c, rfl, hz⟩ := id h
  clear hz h hr
  go_enter Try.func52, Try.ntmps52
  go_wp2_with fail
  generalize w.alloc (.cells #[.int .i64 x, .int .i64 y] 35) = wb at *
  go_loopw [9, 10] (fun s9 s10 wr => ∃ i j : Nat, s9 = .int .i64 i ∧ s10 = .int .i64 j ∧ i ≤ j ∧ j ≤ l.length ∧ Hid (∀ t (h : t < l.length), t < i → lt l[t] (x, y)) ∧ Hid (∀ t (h : t < l.length), j ≤ t → ¬ lt l[t] (x, y)) ∧ Hid (Below wb.heap.size wb wr)) (fun s9 s10 _ => (intOf s10).toNat - (intOf s9).toNat)
  case atStart => exact ⟨0, l.length, rfl, rfl, by omega, by omega, Lib.hid (fun t h h0 => absurd h0 (by omega)), Lib.hid (fun t h h0 => absurd h0 (by omega)), Lib.hid (Below.refl _ _)⟩
  case round =>
    obtain ⟨i, j, rfl, rfl, hij, hjl, HL, HU, HW⟩ := hrel
    have XR := Lib.hid (box_below X0.out HW.out)
    obtain ⟨x1, x2⟩ := box_cells XR.out
    by_cases hlt : i < j
    · have hd : decide ((i : Int) < (j : Int)) = true := decide_eq_true (by omega)
      obtain ⟨k, hk⟩ : ∃ k : Nat, ((i : Int) + (j : Int)) / 2 = (k : Int) := ⟨(i + j) / 2, by omega⟩
      have hk1 : k < l.length := by omega
      have i3 : (0 : Int) ≤ (k : Int) := by omega
      have i4 : (k : Int) < (l.length : Int) := by omega
      obtain ⟨ad, rfl, c1, c2⟩ := I0.out.at_ HW.out hk1
      have HF := Lib.hid fun W (hb : Below wr.heap.size wr W) => And.intro ((hb.cell (block_lt_of_cell c1)).trans c1) (And.intro ((hb.cell (block_lt_of_cell c2)).trans c2) (And.intro (box_cells (box_below XR.out hb)) (Lib.hid hb)))
      by_cases hc : lt l[k] (x, y)
      · have HC : Hid (∀ W, Calls Try.prog 51 #[.agg #[.int .i64 l[k].1, .int .i64 l[k].2], .agg #[.int .i64 x, .int .i64 y]] W fun e w' => e = .returned (.int .i64 (-1)) ∧ Below W.heap.size W w') := Lib.hid fun W => by
          have := compare_any l[k].1 l[k].2 x y W
          rw [cmpZ_ltB (show lt (l[k].1, l[k].2) (x, y) from hc)] at this
          exact this
        have HL2 : Hid (∀ t (h : t < l.length), t < k + 1 → lt l[t] (x, y)) := Lib.hid fun t h ht => by
          rcases Nat.lt_or_ge t k with h1 | h1
          · exact lt_trans (rises_at HR.out hk1 h1) hc
          · obtain rfl : t = k := by omega
            exact hc
        clear hc HL
        generalize l[k].1 = u at *
        generalize l[k].2 = v at *
        go_wp2_with fail
        refine wp_region_held_drew (S := fun w' => w'.cell? (ad.add (k * 2)) = some (.int .i64 u) ∧ w'.cell? ⟨(ad.add (k * 2)).block, (ad.add (k * 2)).off + 1, none⟩ = some (.int .i64 v) ∧ (w'.cell? ⟨w.heap.size, 0, none⟩ = some (.int .i64 x) ∧ w'.cell? ⟨w.heap.size, 1, none⟩ = some (.int .i64 y)) ∧ Hid (Below wr.heap.size wr w')) (by kernel_rfl) ?_ (fun hHeld => ?_)
        · exact HF.out _ (Below.drew (Below.refl _ _))
        (refine wpAnyH_take (i := 0) (oi := ⟨_, _, _, _, _, _⟩) (v := ?_) rfl (by kernel_rfl) (by kernel_rfl) (by kernel_rfl) (fun _ _ _ h => h) (Or.inl ⟨by rfl, ?_⟩) (by assumption) ?_; rotate_left 1; · (intro w hSw; (try dsimp only at hSw); go_simp; all_goals with_reducible rfl))
        try simp only [Act.put, List.setIfInBounds_toArray, List.set_cons_zero, List.set_cons_succ]
        (refine wpAnyH_take (i := 1) (oi := ⟨_, _, _, _, _, _⟩) (v := ?_) rfl (by kernel_rfl) (by kernel_rfl) (by kernel_rfl) (fun _ _ _ h => h) (Or.inl ⟨by rfl, ?_⟩) (by assumption) ?_; rotate_left 1; · (intro w hSw; (try dsimp only at hSw); go_simp; all_goals with_reducible rfl))
        try simp only [Act.put, List.setIfInBounds_toArray, List.set_cons_zero, List.set_cons_succ]
        (refine wpAnyH_take (i := 2) (oi := ⟨_, _, _, _, _, _⟩) (v := ?_) rfl (by kernel_rfl) (by kernel_rfl) (by kernel_rfl) (fun _ _ _ h => h) (Or.inl ⟨by rfl, ?_⟩) (by assumption) ?_; rotate_left 1; · (intro w hSw; (try dsimp only at hSw); go_simp; all_goals with_reducible rfl))
        try simp only [Act.put, List.setIfInBounds_toArray, List.set_cons_zero, List.set_cons_succ]
        (refine wpAnyH_take (i := 3) (oi := ⟨_, _, _, _, _, _⟩) (v := ?_) rfl (by kernel_rfl) (by kernel_rfl) (by kernel_rfl) (fun _ _ _ h => h) (Or.inl ⟨by rfl, ?_⟩) (by assumption) ?_; rotate_left 1; · (intro w hSw; (try dsimp only at hSw); go_simp; all_goals with_reducible rfl))
        try simp only [Act.put, List.setIfInBounds_toArray, List.set_cons_zero, List.set_cons_succ]
        (refine wpAnyH_take (i := 4) (oi := ⟨_, _, _, _, _, _⟩) (v := ?_) rfl (by kernel_rfl) (by kernel_rfl) (by kernel_rfl) (fun _ _ _ h => h) (Or.inl ⟨by rfl, ?_⟩) (by assumption) ?_; rotate_left 1; · (intro w hSw; (try dsimp only at hSw); go_simp; all_goals with_reducible rfl))
        try simp only [Act.put, List.setIfInBounds_toArray, List.set_cons_zero, List.set_cons_succ]
        (refine wpAnyH_take (i := 5) (oi := ⟨_, _, _, _, _, _⟩) (v := ?_) rfl (by kernel_rfl) (by kernel_rfl) (by kernel_rfl) (fun _ _ _ h => h) (Or.inl ⟨by rfl, ?_⟩) (by assumption) ?_; rotate_left 1; · (intro w hSw; (try dsimp only at hSw); go_simp; all_goals with_reducible rfl))
        try simp only [Act.put, List.setIfInBounds_toArray, List.set_cons_zero, List.set_cons_succ]
        refine wpAnyH_ready (rs := [6]) (by kernel_rfl) (by simp) ?_
        refine AllReadyH.cons (o := ⟨_, _, _, _, _, _⟩) rfl (fun Kq hKq => ?_) (AllReadyH.nil)
        go_simp
        clear hHeld
        go_at_call 51; (with_reducible refine (HC.out _).mono ?_); rintro e w7 ⟨rfl, hb⟩; have P7 := Lib.hid (below_after (Below.drew (Below.refl _ _)) hb (Nat.le_refl _)); clear hb c1 c2 x1 x2
        refine hKq.out _ _ ?_ (fun hHeld => ?_)
        · (try dsimp only); exact HF.out _ P7.out
        clear hKq Kq
        try simp only [Act.put, List.setIfInBounds_toArray, List.set_cons_zero, List.set_cons_succ]
        (refine wpAnyH_take (i := 7) (oi := ⟨_, _, _, _, _, _⟩) (v := ?_) rfl (by kernel_rfl) (by kernel_rfl) (by kernel_rfl) (fun _ _ _ h => h) (Or.inl ⟨by rfl, ?_⟩) (by assumption) ?_; rotate_left 1; · (intro w hSw; (try dsimp only at hSw); go_simp; all_goals with_reducible rfl))
        try simp only [Act.put, List.setIfInBounds_toArray, List.set_cons_zero, List.set_cons_succ]
        refine wpAnyH_done (by kernel_rfl) ?_ _
        go_wp2_with fail
        go_roundw
        case rel => exact ⟨k + 1, j, by go_num, rfl, by omega, by omega, HL2, HU, Lib.hid (below_after HW.out P7.out (Nat.le_refl _))⟩
        case measure => simp [intOf]; omega
      · obtain ⟨z, hz⟩ : ∃ z, z = cmpZ l[k].1 l[k].2 x y := ⟨_, rfl⟩
        have HC : Hid (∀ W, Calls Try.prog 51 #[.agg #[.int .i64 l[k].1, .int .i64 l[k].2], .agg #[.int .i64 x, .int .i64 y]] W fun e w' => e = .returned (.int .i64 z) ∧ Below W.heap.size W w') := Lib.hid fun W => by
          rw [hz]
          exact compare_any l[k].1 l[k].2 x y W
        have hzn : ¬ z < 0 := by rw [hz]; exact cmpZ_geB (show ¬ lt (l[k].1, l[k].2) (x, y) from hc)
        have hdz : decide (z < 0) = false := decide_eq_false hzn
        have HU2 : Hid (∀ t (h : t < l.length), k ≤ t → ¬ lt l[t] (x, y)) := Lib.hid fun t h ht => by
          rcases Nat.eq_or_lt_of_le ht with h1 | h1
          · subst h1; exact hc
          · exact fun h2 => hc (lt_trans (rises_at HR.out h h1) h2)
        clear hc HU hz hzn
        generalize l[k].1 = u at *
        generalize l[k].2 = v at *
        go_wp2_with fail
        refine wp_region_held_drew (S := fun w' => w'.cell? (ad.add (k * 2)) = some (.int .i64 u) ∧ w'.cell? ⟨(ad.add (k * 2)).block, (ad.add (k * 2)).off + 1, none⟩ = some (.int .i64 v) ∧ (w'.cell? ⟨w.heap.size, 0, none⟩ = some (.int .i64 x) ∧ w'.cell? ⟨w.heap.size, 1, none⟩ = some (.int .i64 y)) ∧ Hid (Below wr.heap.size wr w')) (by kernel_rfl) ?_ (fun hHeld => ?_)
        · exact HF.out _ (Below.drew (Below.refl _ _))
        (refine wpAnyH_take (i := 0) (oi := ⟨_, _, _, _, _, _⟩) (v := ?_) rfl (by kernel_rfl) (by kernel_rfl) (by kernel_rfl) (fun _ _ _ h => h) (Or.inl ⟨by rfl, ?_⟩) (by assumption) ?_; rotate_left 1; · (intro w hSw; (try dsimp only at hSw); go_simp; all_goals with_reducible rfl))
        try simp only [Act.put, List.setIfInBounds_toArray, List.set_cons_zero, List.set_cons_succ]
        (refine wpAnyH_take (i := 1) (oi := ⟨_, _, _, _, _, _⟩) (v := ?_) rfl (by kernel_rfl) (by kernel_rfl) (by kernel_rfl) (fun _ _ _ h => h) (Or.inl ⟨by rfl, ?_⟩) (by assumption) ?_; rotate_left 1; · (intro w hSw; (try dsimp only at hSw); go_simp; all_goals with_reducible rfl))
        try simp only [Act.put, List.setIfInBounds_toArray, List.set_cons_zero, List.set_cons_succ]
        (refine wpAnyH_take (i := 2) (oi := ⟨_, _, _, _, _, _⟩) (v := ?_) rfl (by kernel_rfl) (by kernel_rfl) (by kernel_rfl) (fun _ _ _ h => h) (Or.inl ⟨by rfl, ?_⟩) (by assumption) ?_; rotate_left 1; · (intro w hSw; (try dsimp only at hSw); go_simp; all_goals with_reducible rfl))
        try simp only [Act.put, List.setIfInBounds_toArray, List.set_cons_zero, List.set_cons_succ]
        (refine wpAnyH_take (i := 3) (oi := ⟨_, _, _, _, _, _⟩) (v := ?_) rfl (by kernel_rfl) (by kernel_rfl) (by kernel_rfl) (fun _ _ _ h => h) (Or.inl ⟨by rfl, ?_⟩) (by assumption) ?_; rotate_left 1; · (intro w hSw; (try dsimp only at hSw); go_simp; all_goals with_reducible rfl))
        try simp only [Act.put, List.setIfInBounds_toArray, List.set_cons_zero, List.set_cons_succ]
        (refine wpAnyH_take (i := 4) (oi := ⟨_, _, _, _, _, _⟩) (v := ?_) rfl (by kernel_rfl) (by kernel_rfl) (by kernel_rfl) (fun _ _ _ h => h) (Or.inl ⟨by rfl, ?_⟩) (by assumption) ?_; rotate_left 1; · (intro w hSw; (try dsimp only at hSw); go_simp; all_goals with_reducible rfl))
        try simp only [Act.put, List.setIfInBounds_toArray, List.set_cons_zero, List.set_cons_succ]
        (refine wpAnyH_take (i := 5) (oi := ⟨_, _, _, _, _, _⟩) (v := ?_) rfl (by kernel_rfl) (by kernel_rfl) (by kernel_rfl) (fun _ _ _ h => h) (Or.inl ⟨by rfl, ?_⟩) (by assumption) ?_; rotate_left 1; · (intro w hSw; (try dsimp only at hSw); go_simp; all_goals with_reducible rfl))
        try simp only [Act.put, List.setIfInBounds_toArray, List.set_cons_zero, List.set_cons_succ]
        refine wpAnyH_ready (rs := [6]) (by kernel_rfl) (by simp) ?_
        refine AllReadyH.cons (o := ⟨_, _, _, _, _, _⟩) rfl (fun Kq hKq => ?_) (AllReadyH.nil)
        go_simp
        clear hHeld
        go_at_call 51; (with_reducible refine (HC.out _).mono ?_); rintro e w7 ⟨rfl, hb⟩; have P7 := Lib.hid (below_after (Below.drew (Below.refl _ _)) hb (Nat.le_refl _)); clear hb c1 c2 x1 x2
        refine hKq.out _ _ ?_ (fun hHeld => ?_)
        · (try dsimp only); exact HF.out _ P7.out
        clear hKq Kq
        try simp only [Act.put, List.setIfInBounds_toArray, List.set_cons_zero, List.set_cons_succ]
        (refine wpAnyH_take (i := 7) (oi := ⟨_, _, _, _, _, _⟩) (v := ?_) rfl (by kernel_rfl) (by kernel_rfl) (by kernel_rfl) (fun _ _ _ h => h) (Or.inl ⟨by rfl, ?_⟩) (by assumption) ?_; rotate_left 1; · (intro w hSw; (try dsimp only at hSw); go_simp; all_goals with_reducible rfl))
        try simp only [Act.put, List.setIfInBounds_toArray, List.set_cons_zero, List.set_cons_succ]
        refine wpAnyH_done (by kernel_rfl) ?_ _
        go_wp2_with fail
        go_roundw
        case rel => exact ⟨i, k, rfl, rfl, by omega, by omega, HL, HU2, Lib.hid (below_after HW.out P7.out (Nat.le_refl _))⟩
        case measure => simp [intOf]; omega
    · obtain rfl : i = j := by omega
      have HP := Lib.hid (show PlaceI l (x, y) i from ⟨hjl, HL.out, HU.out⟩)
      clear HL HU
      have hd : decide ((i : Int) < (i : Int)) = false := decide_eq_false (by omega)
      by_cases hin : i < l.length
      · have hdn : decide ((i : Int) < (l.length : Int)) = true := decide_eq_true (by omega)
        have i3 : (0 : Int) ≤ (i : Int) := by omega
        have i4 : (i : Int) < (l.length : Int) := by omega
        obtain ⟨ad, rfl, c1, c2⟩ := I0.out.at_ HW.out hin
        have HF := Lib.hid fun W (hb : Below wr.heap.size wr W) => And.intro ((hb.cell (block_lt_of_cell c1)).trans c1) (And.intro ((hb.cell (block_lt_of_cell c2)).trans c2) (And.intro (box_cells (box_below XR.out hb)) (Lib.hid hb)))
        have hz : ∃ z, z = cmpZ l[i].1 l[i].2 x y ∧ decide (z = 0) = hasB (x, y) l := by
          refine ⟨_, rfl, ?_⟩
          by_cases e : l[i] = (x, y)
          · rw [place_has hin e, e]
            exact decide_eq_true (cmpZ_self x y)
          · rw [place_not HR.out HP.out hin e]
            rw [cmpZ_gt (show lt (x, y) (l[i].1, l[i].2) from lt_totalROW (HP.out.2.2 i hin (Nat.le_refl _)) e)]
            rfl
        obtain ⟨z, hz, hz2⟩ := hz
        have HC : Hid (∀ W, Calls Try.prog 51 #[.agg #[.int .i64 l[i].1, .int .i64 l[i].2], .agg #[.int .i64 x, .int .i64 y]] W fun e w' => e = .returned (.int .i64 z) ∧ Below W.heap.size W w') := Lib.hid fun W => by
          rw [hz]
          exact compare_any l[i].1 l[i].2 x y W
        have HZ := Lib.hid hz2
        clear hz hz2
        generalize l[i].1 = u at *
        generalize l[i].2 = v at *
        go_wp2_with fail
        refine wp_region_held_drew (S := fun w' => w'.cell? (ad.add (i * 2)) = some (.int .i64 u) ∧ w'.cell? ⟨(ad.add (i * 2)).block, (ad.add (i * 2)).off + 1, none⟩ = some (.int .i64 v) ∧ (w'.cell? ⟨w.heap.size, 0, none⟩ = some (.int .i64 x) ∧ w'.cell? ⟨w.heap.size, 1, none⟩ = some (.int .i64 y)) ∧ Hid (Below wr.heap.size wr w')) (by kernel_rfl) ?_ (fun hHeld => ?_)
        · exact HF.out _ (Below.drew (Below.refl _ _))
        (refine wpAnyH_take (i := 0) (oi := ⟨_, _, _, _, _, _⟩) (v := ?_) rfl (by kernel_rfl) (by kernel_rfl) (by kernel_rfl) (fun _ _ _ h => h) (Or.inl ⟨by rfl, ?_⟩) (by assumption) ?_; rotate_left 1; · (intro w hSw; (try dsimp only at hSw); go_simp; all_goals with_reducible rfl))
        try simp only [Act.put, List.setIfInBounds_toArray, List.set_cons_zero, List.set_cons_succ]
        (refine wpAnyH_take (i := 1) (oi := ⟨_, _, _, _, _, _⟩) (v := ?_) rfl (by kernel_rfl) (by kernel_rfl) (by kernel_rfl) (fun _ _ _ h => h) (Or.inl ⟨by rfl, ?_⟩) (by assumption) ?_; rotate_left 1; · (intro w hSw; (try dsimp only at hSw); go_simp; all_goals with_reducible rfl))
        try simp only [Act.put, List.setIfInBounds_toArray, List.set_cons_zero, List.set_cons_succ]
        (refine wpAnyH_take (i := 2) (oi := ⟨_, _, _, _, _, _⟩) (v := ?_) rfl (by kernel_rfl) (by kernel_rfl) (by kernel_rfl) (fun _ _ _ h => h) (Or.inl ⟨by rfl, ?_⟩) (by assumption) ?_; rotate_left 1; · (intro w hSw; (try dsimp only at hSw); go_simp; all_goals with_reducible rfl))
        try simp only [Act.put, List.setIfInBounds_toArray, List.set_cons_zero, List.set_cons_succ]
        (refine wpAnyH_take (i := 3) (oi := ⟨_, _, _, _, _, _⟩) (v := ?_) rfl (by kernel_rfl) (by kernel_rfl) (by kernel_rfl) (fun _ _ _ h => h) (Or.inl ⟨by rfl, ?_⟩) (by assumption) ?_; rotate_left 1; · (intro w hSw; (try dsimp only at hSw); go_simp; all_goals with_reducible rfl))
        try simp only [Act.put, List.setIfInBounds_toArray, List.set_cons_zero, List.set_cons_succ]
        (refine wpAnyH_take (i := 4) (oi := ⟨_, _, _, _, _, _⟩) (v := ?_) rfl (by kernel_rfl) (by kernel_rfl) (by kernel_rfl) (fun _ _ _ h => h) (Or.inl ⟨by rfl, ?_⟩) (by assumption) ?_; rotate_left 1; · (intro w hSw; (try dsimp only at hSw); go_simp; all_goals with_reducible rfl))
        try simp only [Act.put, List.setIfInBounds_toArray, List.set_cons_zero, List.set_cons_succ]
        first | (refine wpAnyH_take (i := 5) (oi := ⟨_, _, _, _, _, _⟩) (v := ?_) rfl (by kernel_rfl) (by kernel_rfl) (by kernel_rfl) (fun _ _ _ h => h) (Or.inl ⟨by rfl, ?_⟩) (by assumption) ?_; rotate_left 1; · (intro w hSw; (try dsimp only at hSw); go_simp; all_goals with_reducible rfl)) | refine wpAnyH_take (i := 5) (oi := ⟨_, _, _, _, _, _⟩) (v := undef) rfl (by kernel_rfl) (by kernel_rfl) (by kernel_rfl) (fun _ _ _ h => h) (Or.inr ⟨by kernel_rfl, rfl⟩) (by assumption) ?_
        try simp only [Act.put, List.setIfInBounds_toArray, List.set_cons_zero, List.set_cons_succ]
        first | (refine wpAnyH_take (i := 6) (oi := ⟨_, _, _, _, _, _⟩) (v := ?_) rfl (by kernel_rfl) (by kernel_rfl) (by kernel_rfl) (fun _ _ _ h => h) (Or.inl ⟨by rfl, ?_⟩) (by assumption) ?_; rotate_left 1; · (intro w hSw; (try dsimp only at hSw); go_simp; all_goals with_reducible rfl)) | refine wpAnyH_take (i := 6) (oi := ⟨_, _, _, _, _, _⟩) (v := undef) rfl (by kernel_rfl) (by kernel_rfl) (by kernel_rfl) (fun _ _ _ h => h) (Or.inr ⟨by kernel_rfl, rfl⟩) (by assumption) ?_
        try simp only [Act.put, List.setIfInBounds_toArray, List.set_cons_zero, List.set_cons_succ]
        first | (refine wpAnyH_take (i := 7) (oi := ⟨_, _, _, _, _, _⟩) (v := ?_) rfl (by kernel_rfl) (by kernel_rfl) (by kernel_rfl) (fun _ _ _ h => h) (Or.inl ⟨by rfl, ?_⟩) (by assumption) ?_; rotate_left 1; · (intro w hSw; (try dsimp only at hSw); go_simp; all_goals with_reducible rfl)) | refine wpAnyH_take (i := 7) (oi := ⟨_, _, _, _, _, _⟩) (v := undef) rfl (by kernel_rfl) (by kernel_rfl) (by kernel_rfl) (fun _ _ _ h => h) (Or.inr ⟨by kernel_rfl, rfl⟩) (by assumption) ?_
        try simp only [Act.put, List.setIfInBounds_toArray, List.set_cons_zero, List.set_cons_succ]
        first | (refine wpAnyH_take (i := 8) (oi := ⟨_, _, _, _, _, _⟩) (v := ?_) rfl (by kernel_rfl) (by kernel_rfl) (by kernel_rfl) (fun _ _ _ h => h) (Or.inl ⟨by rfl, ?_⟩) (by assumption) ?_; rotate_left 1; · (intro w hSw; (try dsimp only at hSw); go_simp; all_goals with_reducible rfl)) | refine wpAnyH_take (i := 8) (oi := ⟨_, _, _, _, _, _⟩) (v := undef) rfl (by kernel_rfl) (by kernel_rfl) (by kernel_rfl) (fun _ _ _ h => h) (Or.inr ⟨by kernel_rfl, rfl⟩) (by assumption) ?_
        try simp only [Act.put, List.setIfInBounds_toArray, List.set_cons_zero, List.set_cons_succ]
        first | (refine wpAnyH_take (i := 9) (oi := ⟨_, _, _, _, _, _⟩) (v := ?_) rfl (by kernel_rfl) (by kernel_rfl) (by kernel_rfl) (fun _ _ _ h => h) (Or.inl ⟨by rfl, ?_⟩) (by assumption) ?_; rotate_left 1; · (intro w hSw; (try dsimp only at hSw); go_simp; all_goals with_reducible rfl)) | refine wpAnyH_take (i := 9) (oi := ⟨_, _, _, _, _, _⟩) (v := undef) rfl (by kernel_rfl) (by kernel_rfl) (by kernel_rfl) (fun _ _ _ h => h) (Or.inr ⟨by kernel_rfl, rfl⟩) (by assumption) ?_
        try simp only [Act.put, List.setIfInBounds_toArray, List.set_cons_zero, List.set_cons_succ]
        first | (refine wpAnyH_take (i := 10) (oi := ⟨_, _, _, _, _, _⟩) (v := ?_) rfl (by kernel_rfl) (by kernel_rfl) (by kernel_rfl) (fun _ _ _ h => h) (Or.inl ⟨by rfl, ?_⟩) (by assumption) ?_; rotate_left 1; · (intro w hSw; (try dsimp only at hSw); go_simp; all_goals with_reducible rfl)) | refine wpAnyH_take (i := 10) (oi := ⟨_, _, _, _, _, _⟩) (v := undef) rfl (by kernel_rfl) (by kernel_rfl) (by kernel_rfl) (fun _ _ _ h => h) (Or.inr ⟨by kernel_rfl, rfl⟩) (by assumption) ?_
        try simp only [Act.put, List.setIfInBounds_toArray, List.set_cons_zero, List.set_cons_succ]
        refine wpAnyH_ready (rs := [11]) (by kernel_rfl) (by simp) ?_
        refine AllReadyH.cons (o := ⟨_, _, _, _, _, _⟩) rfl (fun Kq hKq => ?_) (AllReadyH.nil)
        go_simp
        clear hHeld
        go_at_call 51; (with_reducible refine (HC.out _).mono ?_); rintro e w7 ⟨rfl, hb⟩; have P7 := Lib.hid (below_after (Below.drew (Below.refl _ _)) hb (Nat.le_refl _)); clear hb c1 c2 x1 x2
        refine hKq.out _ _ ?_ (fun hHeld => ?_)
        · (try dsimp only); exact HF.out _ P7.out
        clear hKq Kq
        try simp only [Act.put, List.setIfInBounds_toArray, List.set_cons_zero, List.set_cons_succ]
        first | (refine wpAnyH_take (i := 12) (oi := ⟨_, _, _, _, _, _⟩) (v := ?_) rfl (by kernel_rfl) (by kernel_rfl) (by kernel_rfl) (fun _ _ _ h => h) (Or.inl ⟨by rfl, ?_⟩) (by assumption) ?_; rotate_left 1; · (intro w hSw; (try dsimp only at hSw); go_simp; all_goals with_reducible rfl)) | refine wpAnyH_take (i := 12) (oi := ⟨_, _, _, _, _, _⟩) (v := undef) rfl (by kernel_rfl) (by kernel_rfl) (by kernel_rfl) (fun _ _ _ h => h) (Or.inr ⟨by kernel_rfl, rfl⟩) (by assumption) ?_
        try simp only [Act.put, List.setIfInBounds_toArray, List.set_cons_zero, List.set_cons_succ]
        (refine wpAnyH_take (i := 13) (oi := ⟨_, _, _, _, _, _⟩) (v := ?_) rfl (by kernel_rfl) (by kernel_rfl) (by kernel_rfl) (fun _ _ _ h => h) (Or.inl ⟨by rfl, ?_⟩) (by assumption) ?_; rotate_left 1; · (intro w hSw; (try dsimp only at hSw); go_simp; all_goals with_reducible rfl))
        try simp only [Act.put, List.setIfInBounds_toArray, List.set_cons_zero, List.set_cons_succ]
        (refine wpAnyH_take (i := 14) (oi := ⟨_, _, _, _, _, _⟩) (v := ?_) rfl (by kernel_rfl) (by kernel_rfl) (by kernel_rfl) (fun _ _ _ h => h) (Or.inl ⟨by rfl, ?_⟩) (by assumption) ?_; rotate_left 1; · (intro w hSw; (try dsimp only at hSw); go_simp; all_goals with_reducible rfl))
        try simp only [Act.put, List.setIfInBounds_toArray, List.set_cons_zero, List.set_cons_succ]
        (refine wpAnyH_take (i := 15) (oi := ⟨_, _, _, _, _, _⟩) (v := ?_) rfl (by kernel_rfl) (by kernel_rfl) (by kernel_rfl) (fun _ _ _ h => h) (Or.inl ⟨by rfl, ?_⟩) (by assumption) ?_; rotate_left 1; · (intro w hSw; (try dsimp only at hSw); go_simp; all_goals with_reducible rfl))
        try simp only [Act.put, List.setIfInBounds_toArray, List.set_cons_zero, List.set_cons_succ]
        refine wpAnyH_done (by kernel_rfl) ?_ _
        go_wp2_with fail
        refine bodyPost_ret (v := .tuple #[.int .i64 i, .bool (z == 0)]) (by simp [results, Try.results52, go_sem]) rfl ?_
        exact ⟨i, by rw [← HZ.out]; rfl, HP.out, below_after B0.out (below_after HW.out P7.out (Nat.le_refl _)) (Nat.le_refl _)⟩
      · have hdn : decide ((i : Int) < (l.length : Int)) = false := decide_eq_false (by omega)
        have HN := Lib.hid (place_end HP.out (by omega))
        go_wp2_with fail
        go_quiet (fail)
        go_wp2_with fail
        refine bodyPost_ret (v := .tuple #[.int .i64 i, .bool false]) (by simp [results, Try.results52, go_sem]) rfl ?_
        exact ⟨i, by rw [HN.out], HP.out, below_after B0.out (below_drewN HW.out) (Nat.le_refl _)⟩
end Go.Proofs.Ytkoeplgkiogjlaa
