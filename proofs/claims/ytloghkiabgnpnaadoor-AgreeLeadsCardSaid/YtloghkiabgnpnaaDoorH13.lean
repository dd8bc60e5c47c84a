/-
  Carried over and put together: contracts of this program's functions, and plain facts. No statement is proved in this text.
-/
import Derived.Lib.AppendZerosOnto
import Derived.Laws.NewBlocks
import Derived.ArgAppend
import Derived.Test.YtloghkiabgnpnaaDoorH00
import Derived.Test.YtloghkiabgnpnaaDoorH05
import Derived.Test.YtloghkiabgnpnaaDoorH06
import Derived.Test.YtloghkiabgnpnaaDoorH12
set_option maxRecDepth 20000
namespace Go.Proofs.YtloghkiabgnpnaaDoor
open Go Go.RowKit Sets RowSets
theorem rises_at {l : List Id2} (h : Rises l) {i j : Nat} (hj : j < l.length) (hij : i < j) : lt (l[i]'(by omega)) l[j] := List.pairwise_iff_getElem.1 h i j (by omega) hj hij
theorem lss_lt (x y : Id2) : lss x.1 x.2 y.1 y.2 = decide (lt x y) := by
  unfold lss lt
  by_cases h : x.1 < y.1 <;> by_cases h2 : x.1 = y.1 <;> by_cases h3 : x.2 < y.2 <;> simp [h, h2, h3]
theorem cmpZ_ltB {a i b j : Int} (h : lt (a, i) (b, j)) : cmpZ a i b j = -1 := by
  have : lss a i b j = true := by rw [lss_lt (a, i) (b, j)]; exact decide_eq_true h
  simp [cmpZ, this]
theorem cmpZ_geB {a i b j : Int} (h : ¬ lt (a, i) (b, j)) : ¬ cmpZ a i b j < 0 := by
  have : lss a i b j = false := by rw [lss_lt (a, i) (b, j)]; exact decide_eq_false h
  unfold cmpZ
  rw [this]
  cases lss b j a i <;> simp
theorem cmpZ_self (a i : Int) : cmpZ a i a i = 0 := by
  have : lss a i a i = false := by rw [lss_lt (a, i) (a, i)]; exact decide_eq_false (lt_irrefl _)
  simp [cmpZ, this]
theorem cmpZ_gt {a i b j : Int} (h : lt (b, j) (a, i)) : cmpZ a i b j = 1 := by
  have h1 : lss b j a i = true := by rw [lss_lt (b, j) (a, i)]; exact decide_eq_true h
  have h2 : lss a i b j = false := by rw [lss_lt (a, i) (b, j)]; exact decide_eq_false (lt_asymm h)
  simp [cmpZ, h1, h2]
theorem lt_total {x y : Id2} (h : ¬ lt x y) (hne : x ≠ y) : lt y x := by
  unfold lt at *
  rcases Int.lt_trichotomy x.1 y.1 with h1 | h1 | h1
  · exact absurd (.inl h1) h
  · rcases Int.lt_trichotomy x.2 y.2 with h2 | h2 | h2
    · exact absurd (.inr ⟨h1, h2⟩) h
    · exact absurd (Prod.ext h1 h2) hne
    · exact .inr ⟨h1.symm, h2⟩
  · exact .inl h1
/-- Where an ID stands, or would stand. -/
def PlaceI (l : List Id2) (X : Id2) (k : Nat) : Prop := k ≤ l.length ∧ (∀ t (h : t < l.length), t < k → lt l[t] X) ∧ ∀ t (h : t < l.length), k ≤ t → ¬ lt l[t] X
theorem place_has {l : List Id2} {X : Id2} {k : Nat} (hk : k < l.length) (e : l[k] = X) : hasB X l = true := by
  unfold hasB
  exact decide_eq_true (e ▸ List.getElem_mem hk)
theorem place_not {l : List Id2} {X : Id2} {k : Nat} (hr : Rises l) (h : PlaceI l X k) (hk : k < l.length) (e : l[k] ≠ X) : hasB X l = false := by
  unfold hasB
  refine decide_eq_false fun hm => ?_
  obtain ⟨t, ht, e2⟩ := List.mem_iff_getElem.1 hm
  have hgt := lt_total (h.2.2 k hk (Nat.le_refl _)) e
  rcases Nat.lt_trichotomy t k with h1 | h1 | h1
  · have := h.2.1 t ht h1
    rw [e2] at this
    exact lt_irrefl _ this
  · subst h1; exact e e2
  · have := rises_at hr ht h1
    rw [e2] at this
    exact lt_asymm this hgt
theorem place_end {l : List Id2} {X : Id2} {k : Nat} (h : PlaceI l X k) (hk : l.length ≤ k) : hasB X l = false := by
  unfold hasB
  refine decide_eq_false fun hm => ?_
  obtain ⟨t, ht, e2⟩ := List.mem_iff_getElem.1 hm
  have := h.2.1 t ht (by omega)
  rw [e2] at this
  exact lt_irrefl _ this
set_option maxHeartbeats 4000000 in
set_option maxRecDepth 1000000 in
theorem bin_any (v : Value) (l : List Id2) (x y : Int) (w : World) (h : Ids w v l) (hr : Rises l) (hl : l.length ≤ 1000000) :
    Calls Tryd.prog 42 #[v, .agg #[.int .i64 x, .int .i64 y], .func (.func 43) #[] #[]] w fun e w' => ∃ k : Nat, e = .returned (.tuple #[.int .i64 k, .bool (hasB (x, y) l)]) ∧ PlaceI l (x, y) k ∧ Below w.heap.size w w' := by
  have B0 := Lib.hid (below_one w (.cells #[.int .i64 x, .int .i64 y] 32))
  have X0 := Lib.hid (box_new w x y)
  have I0 := Lib.hid (h.below B0.out)
  have HR := Lib.hid hr
  obtain ⟨A, c, rfl, hz⟩ := id h
  clear hz h hr
  go_enter Tryd.func42, Tryd.ntmps42
  go_wp2_with fail
  generalize w.alloc (.cells #[.int .i64 x, .int .i64 y] 32) = wb at *
  go_loopw [9, 10] (fun s9 s10 wr => ∃ i j : Nat, s9 = .int .i64 i ∧ s10 = .int .i64 j ∧ i ≤ j ∧ j ≤ l.length ∧ Hid (∀ t (h : t < l.length), t < i → lt l[t] (x, y)) ∧ Hid (∀ t (h : t < l.length), j ≤ t → ¬ lt l[t] (x, y)) ∧ Hid (Below wb.heap.size wb wr)) (fun s9 s10 _ => (intOf s10).toNat - (intOf s9).toNat)
  case atStart => exact ⟨0, l.length, rfl, rfl, by omega, by omega, Lib.hid (fun t h h0 => absurd h0 (by omega)), Lib.hid (fun t h h0 => absurd h0 (by omega)), Lib.hid (Below.refl _ _)⟩
  case round =>
    obtain ⟨i, j, rfl, rfl, hij, hjl, HL, HU, HW⟩ := hrel
    have XR := Lib.hid (box_below X0.out HW.out)
    obtain ⟨x1, x2⟩ := box_cells XR.out
    by_cases hlt : i < j
    · have hd : decide ((i : Int) < (j : Int)) = true := decide_eq_true (by omega)
      obtain ⟨k, hk⟩ : ∃ k : Nat, ((i : Int) + (j : Int)) / 2 = (k : Int) := ⟨(i + j) / 2, by omega⟩
      have hk1 : k < l.length := by omega
      have i3 : (0 : Int) ≤ (k : Int) := by omega
      have i4 : (k : Int) < (l.length : Int) := by omega
      obtain ⟨ad, rfl, c1, c2⟩ := I0.out.at_ HW.out hk1
      have HF := Lib.hid fun W (hb : Below wr.heap.size wr W) => And.intro ((hb.cell (block_lt_of_cell c1)).trans c1) (And.intro ((hb.cell (block_lt_of_cell c2)).trans c2) (And.intro (box_cells (box_below XR.out hb)) (Lib.hid hb)))
      by_cases hc : lt l[k] (x, y)
      · have HC : Hid (∀ W, Calls Tryd.prog 43 #[.agg #[.int .i64 l[k].1, .int .i64 l[k].2], .agg #[.int .i64 x, .int .i64 y]] W fun e w' => e = .returned (.int .i64 (-1)) ∧ Below W.heap.size W w') := Lib.hid fun W => by
          have := compare_any l[k].1 l[k].2 x y W
          rw [cmpZ_ltB (show lt (l[k].1, l[k].2) (x, y) from hc)] at this
          exact this
        have HL2 : Hid (∀ t (h : t < l.length), t < k + 1 → lt l[t] (x, y)) := Lib.hid fun t h ht => by
          rcases Nat.lt_or_ge t k with h1 | h1
          · exact lt_trans (rises_at HR.out hk1 h1) hc
          · obtain rfl : t = k := by omega
            exact hc
        clear hc HL
        generalize l[k].1 = u at *
        generalize l[k].2 = v at *
        go_wp2_with fail
        refine wp_region_held_drew (S := fun w' => w'.cell? (ad.add (k * 2)) = some (.int .i64 u) ∧ w'.cell? ⟨(ad.add (k * 2)).block, (ad.add (k * 2)).off + 1, none⟩ = some (.int .i64 v) ∧ (w'.cell? ⟨w.heap.size, 0, none⟩ = some (.int .i64 x) ∧ w'.cell? ⟨w.heap.size, 1, none⟩ = some (.int .i64 y)) ∧ Hid (Below wr.heap.size wr w')) (by kernel_rfl) ?_ (fun hHeld => ?_)
        · exact HF.out _ (Below.drew (Below.refl _ _))
        (refine wpAnyH_take (i := 0) (oi := ⟨_, _, _, _, _, _⟩) (v := ?_) rfl (by kernel_rfl) (by kernel_rfl) (by kernel_rfl) (fun _ _ _ h => h) (Or.inl ⟨by rfl, ?_⟩) (by assumption) ?_; rotate_left 1; · (intro w hSw; (try dsimp only at hSw); go_simp; all_goals with_reducible rfl))
        try simp only [Act.put, List.setIfInBounds_toArray, List.set_cons_zero, List.set_cons_succ]
        (refine wpAnyH_take (i := 1) (oi := ⟨_, _, _, _, _, _⟩) (v := ?_) rfl (by kernel_rfl) (by kernel_rfl) (by kernel_rfl) (fun _ _ _ h => h) (Or.inl ⟨by rfl, ?_⟩) (by assumption) ?_; rotate_left 1; · (intro w hSw; (try dsimp only at hSw); go_simp; all_goals with_reducible rfl))
        try simp only [Act.put, List.setIfInBounds_toArray, List.set_cons_zero, List.set_cons_succ]
        (refine wpAnyH_take (i := 2) (oi := ⟨_, _, _, _, _, _⟩) (v := ?_) rfl (by kernel_rfl) (by kernel_rfl) (by kernel_rfl) (fun _ _ _ h => h) (Or.inl ⟨by rfl, ?_⟩) (by assumption) ?_; rotate_left 1; · (intro w hSw; (try dsimp only at hSw); go_simp; all_goals with_reducible rfl))
        try simp only [Act.put, List.setIfInBounds_toArray, List.set_cons_zero, List.set_cons_succ]
        (refine wpAnyH_take (i := 3) (oi := ⟨_, _, _, _, _, _⟩) (v := ?_) rfl (by kernel_rfl) (by kernel_rfl) (by kernel_rfl) (fun _ _ _ h => h) (Or.inl ⟨by rfl, ?_⟩) (by assumption) ?_; rotate_left 1; · (intro w hSw; (try dsimp only at hSw); go_simp; all_goals with_reducible rfl))
        try simp only [Act.put, List.setIfInBounds_toArray, List.set_cons_zero, List.set_cons_succ]
        (refine wpAnyH_take (i := 4) (oi := ⟨_, _, _, _, _, _⟩) (v := ?_) rfl (by kernel_rfl) (by kernel_rfl) (by kernel_rfl) (fun _ _ _ h => h) (Or.inl ⟨by rfl, ?_⟩) (by assumption) ?_; rotate_left 1; · (intro w hSw; (try dsimp only at hSw); go_simp; all_goals with_reducible rfl))
        try simp only [Act.put, List.setIfInBounds_toArray, List.set_cons_zero, List.set_cons_succ]
        (refine wpAnyH_take (i := 5) (oi := ⟨_, _, _, _, _, _⟩) (v := ?_) rfl (by kernel_rfl) (by kernel_rfl) (by kernel_rfl) (fun _ _ _ h => h) (Or.inl ⟨by rfl, ?_⟩) (by assumption) ?_; rotate_left 1; · (intro w hSw; (try dsimp only at hSw); go_simp; all_goals with_reducible rfl))
        try simp only [Act.put, List.setIfInBounds_toArray, List.set_cons_zero, List.set_cons_succ]
        refine wpAnyH_ready (rs := [6]) (by kernel_rfl) (by simp) ?_
        refine AllReadyH.cons (o := ⟨_, _, _, _, _, _⟩) rfl (fun Kq hKq => ?_) (AllReadyH.nil)
        go_simp
        clear hHeld
        go_at_call 43; (with_reducible refine (HC.out _).mono ?_); rintro e w7 ⟨rfl, hb⟩; have P7 := Lib.hid (below_after (Below.drew (Below.refl _ _)) hb (Nat.le_refl _)); clear hb c1 c2 x1 x2
        refine hKq.out _ _ ?_ (fun hHeld => ?_)
        · (try dsimp only); exact HF.out _ P7.out
        clear hKq Kq
        try simp only [Act.put, List.setIfInBounds_toArray, List.set_cons_zero, List.set_cons_succ]
        (refine wpAnyH_take (i := 7) (oi := ⟨_, _, _, _, _, _⟩) (v := ?_) rfl (by kernel_rfl) (by kernel_rfl) (by kernel_rfl) (fun _ _ _ h => h) (Or.inl ⟨by rfl, ?_⟩) (by assumption) ?_; rotate_left 1; · (intro w hSw; (try dsimp only at hSw); go_simp; all_goals with_reducible rfl))
        try simp only [Act.put, List.setIfInBounds_toArray, List.set_cons_zero, List.set_cons_succ]
        refine wpAnyH_done (by kernel_rfl) ?_ _
        go_wp2_with fail
        go_roundw
        case rel => exact ⟨k + 1, j, by go_num, rfl, by omega, by omega, HL2, HU, Lib.hid (below_after HW.out P7.out (Nat.le_refl _))⟩
        case measure => simp [intOf]; omega
      · obtain ⟨z, hz⟩ : ∃ z, z = cmpZ l[k].1 l[k].2 x y := ⟨_, rfl⟩
        have HC : Hid (∀ W, Calls Tryd.prog 43 #[.agg #[.int .i64 l[k].1, .int .i64 l[k].2], .agg #[.int .i64 x, .int .i64 y]] W fun e w' => e = .returned (.int .i64 z) ∧ Below W.heap.size W w') := Lib.hid fun W => by
          rw [hz]
          exact compare_any l[k].1 l[k].2 x y W
        have hzn : ¬ z < 0 := by rw [hz]; exact cmpZ_geB (show ¬ lt (l[k].1, l[k].2) (x, y) from hc)
        have hdz : decide (z < 0) = false := decide_eq_false hzn
        have HU2 : Hid (∀ t (h : t < l.length), k ≤ t → ¬ lt l[t] (x, y)) := Lib.hid fun t h ht => by
          rcases Nat.eq_or_lt_of_le ht with h1 | h1
          · subst h1; exact hc
          · exact fun h2 => hc (lt_trans (rises_at HR.out h h1) h2)
        clear hc HU hz hzn
        generalize l[k].1 = u at *
        generalize l[k].2 = v at *
        go_wp2_with fail
        refine wp_region_held_drew (S := fun w' => w'.cell? (ad.add (k * 2)) = some (.int .i64 u) ∧ w'.cell? ⟨(ad.add (k * 2)).block, (ad.add (k * 2)).off + 1, none⟩ = some (.int .i64 v) ∧ (w'.cell? ⟨w.heap.size, 0, none⟩ = some (.int .i64 x) ∧ w'.cell? ⟨w.heap.size, 1, none⟩ = some (.int .i64 y)) ∧ Hid (Below wr.heap.size wr w')) (by kernel_rfl) ?_ (fun hHeld => ?_)
        · exact HF.out _ (Below.drew (Below.refl _ _))
        (refine wpAnyH_take (i := 0) (oi := ⟨_, _, _, _, _, _⟩) (v := ?_) rfl (by kernel_rfl) (by kernel_rfl) (by kernel_rfl) (fun _ _ _ h => h) (Or.inl ⟨by rfl, ?_⟩) (by assumption) ?_; rotate_left 1; · (intro w hSw; (try dsimp only at hSw); go_simp; all_goals with_reducible rfl))
        try simp only [Act.put, List.setIfInBounds_toArray, List.set_cons_zero, List.set_cons_succ]
        (refine wpAnyH_take (i := 1) (oi := ⟨_, _, _, _, _, _⟩) (v := ?_) rfl (by kernel_rfl) (by kernel_rfl) (by kernel_rfl) (fun _ _ _ h => h) (Or.inl ⟨by rfl, ?_⟩) (by assumption) ?_; rotate_left 1; · (intro w hSw; (try dsimp only at hSw); go_simp; all_goals with_reducible rfl))
        try simp only [Act.put, List.setIfInBounds_toArray, List.set_cons_zero, List.set_cons_succ]
        (refine wpAnyH_take (i := 2) (oi := ⟨_, _, _, _, _, _⟩) (v := ?_) rfl (by kernel_rfl) (by kernel_rfl) (by kernel_rfl) (fun _ _ _ h => h) (Or.inl ⟨by rfl, ?_⟩) (by assumption) ?_; rotate_left 1; · (intro w hSw; (try dsimp only at hSw); go_simp; all_goals with_reducible rfl))
        try simp only [Act.put, List.setIfInBounds_toArray, List.set_cons_zero, List.set_cons_succ]
        (refine wpAnyH_take (i := 3) (oi := ⟨_, _, _, _, _, _⟩) (v := ?_) rfl (by kernel_rfl) (by kernel_rfl) (by kernel_rfl) (fun _ _ _ h => h) (Or.inl ⟨by rfl, ?_⟩) (by assumption) ?_; rotate_left 1; · (intro w hSw; (try dsimp only at hSw); go_simp; all_goals with_reducible rfl))
        try simp only [Act.put, List.setIfInBounds_toArray, List.set_cons_zero, List.set_cons_succ]
        (refine wpAnyH_take (i := 4) (oi := ⟨_, _, _, _, _, _⟩) (v := ?_) rfl (by kernel_rfl) (by kernel_rfl) (by kernel_rfl) (fun _ _ _ h => h) (Or.inl ⟨by rfl, ?_⟩) (by assumption) ?_; rotate_left 1; · (intro w hSw; (try dsimp only at hSw); go_simp; all_goals with_reducible rfl))
        try simp only [Act.put, List.setIfInBounds_toArray, List.set_cons_zero, List.set_cons_succ]
        (refine wpAnyH_take (i := 5) (oi := ⟨_, _, _, _, _, _⟩) (v := ?_) rfl (by kernel_rfl) (by kernel_rfl) (by kernel_rfl) (fun _ _ _ h => h) (Or.inl ⟨by rfl, ?_⟩) (by assumption) ?_; rotate_left 1; · (intro w hSw; (try dsimp only at hSw); go_simp; all_goals with_reducible rfl))
        try simp only [Act.put, List.setIfInBounds_toArray, List.set_cons_zero, List.set_cons_succ]
        refine wpAnyH_ready (rs := [6]) (by kernel_rfl) (by simp) ?_
        refine AllReadyH.cons (o := ⟨_, _, _, _, _, _⟩) rfl (fun Kq hKq => ?_) (AllReadyH.nil)
        go_simp
        clear hHeld
        go_at_call 43; (with_reducible refine (HC.out _).mono ?_); rintro e w7 ⟨rfl, hb⟩; have P7 := Lib.hid (below_after (Below.drew (Below.refl _ _)) hb (Nat.le_refl _)); clear hb c1 c2 x1 x2
        refine hKq.out _ _ ?_ (fun hHeld => ?_)
        · (try dsimp only); exact HF.out _ P7.out
        clear hKq Kq
        try simp only [Act.put, List.setIfInBounds_toArray, List.set_cons_zero, List.set_cons_succ]
        (refine wpAnyH_take (i := 7) (oi := ⟨_, _, _, _, _, _⟩) (v := ?_) rfl (by kernel_rfl) (by kernel_rfl) (by kernel_rfl) (fun _ _ _ h => h) (Or.inl ⟨by rfl, ?_⟩) (by assumption) ?_; rotate_left 1; · (intro w hSw; (try dsimp only at hSw); go_simp; all_goals with_reducible rfl))
        try simp only [Act.put, List.setIfInBounds_toArray, List.set_cons_zero, List.set_cons_succ]
        refine wpAnyH_done (by kernel_rfl) ?_ _
        go_wp2_with fail
        go_roundw
        case rel => exact ⟨i, k, rfl, rfl, by omega, by omega, HL, HU2, Lib.hid (below_after HW.out P7.out (Nat.le_refl _))⟩
        case measure => simp [intOf]; omega
    · obtain rfl : i = j := by omega
      have HP := Lib.hid (show PlaceI l (x, y) i from ⟨hjl, HL.out, HU.out⟩)
      clear HL HU
      have hd : decide ((i : Int) < (i : Int)) = false := decide_eq_false (by omega)
      by_cases hin : i < l.length
      · have hdn : decide ((i : Int) < (l.length : Int)) = true := decide_eq_true (by omega)
        have i3 : (0 : Int) ≤ (i : Int) := by omega
        have i4 : (i : Int) < (l.length : Int) := by omega
        obtain ⟨ad, rfl, c1, c2⟩ := I0.out.at_ HW.out hin
        have HF := Lib.hid fun W (hb : Below wr.heap.size wr W) => And.intro ((hb.cell (block_lt_of_cell c1)).trans c1) (And.intro ((hb.cell (block_lt_of_cell c2)).trans c2) (And.intro (box_cells (box_below XR.out hb)) (Lib.hid hb)))
        have hz : ∃ z, z = cmpZ l[i].1 l[i].2 x y ∧ decide (z = 0) = hasB (x, y) l := by
          refine ⟨_, rfl, ?_⟩
          by_cases e : l[i] = (x, y)
          · rw [place_has hin e, e]
            exact decide_eq_true (cmpZ_self x y)
          · rw [place_not HR.out HP.out hin e]
            rw [cmpZ_gt (show lt (x, y) (l[i].1, l[i].2) from lt_total (HP.out.2.2 i hin (Nat.le_refl _)) e)]
            rfl
        obtain ⟨z, hz, hz2⟩ := hz
        have HC : Hid (∀ W, Calls Tryd.prog 43 #[.agg #[.int .i64 l[i].1, .int .i64 l[i].2], .agg #[.int .i64 x, .int .i64 y]] W fun e w' => e = .returned (.int .i64 z) ∧ Below W.heap.size W w') := Lib.hid fun W => by
          rw [hz]
          exact compare_any l[i].1 l[i].2 x y W
        have HZ := Lib.hid hz2
        clear hz hz2
        generalize l[i].1 = u at *
        generalize l[i].2 = v at *
        go_wp2_with fail
        refine wp_region_held_drew (S := fun w' => w'.cell? (ad.add (i * 2)) = some (.int .i64 u) ∧ w'.cell? ⟨(ad.add (i * 2)).block, (ad.add (i * 2)).off + 1, none⟩ = some (.int .i64 v) ∧ (w'.cell? ⟨w.heap.size, 0, none⟩ = some (.int .i64 x) ∧ w'.cell? ⟨w.heap.size, 1, none⟩ = some (.int .i64 y)) ∧ Hid (Below wr.heap.size wr w')) (by kernel_rfl) ?_ (fun hHeld => ?_)
        · exact HF.out _ (Below.drew (Below.refl _ _))
        (refine wpAnyH_take (i := 0) (oi := ⟨_, _, _, _, _, _⟩) (v := ?_) rfl (by kernel_rfl) (by kernel_rfl) (by kernel_rfl) (fun _ _ _ h => h) (Or.inl ⟨by rfl, ?_⟩) (by assumption) ?_; rotate_left 1; · (intro w hSw; (try dsimp only at hSw); go_simp; all_goals with_reducible rfl))
        try simp only [Act.put, List.setIfInBounds_toArray, List.set_cons_zero, List.set_cons_succ]
        (refine wpAnyH_take (i := 1) (oi := ⟨_, _, _, _, _, _⟩) (v := ?_) rfl (by kernel_rfl) (by kernel_rfl) (by kernel_rfl) (fun _ _ _ h => h) (Or.inl ⟨by rfl, ?_⟩) (by assumption) ?_; rotate_left 1; · (intro w hSw; (try dsimp only at hSw); go_simp; all_goals with_reducible rfl))
        try simp only [Act.put, List.setIfInBounds_toArray, List.set_cons_zero, List.set_cons_succ]
        (refine wpAnyH_take (i := 2) (oi := ⟨_, _, _, _, _, _⟩) (v := ?_) rfl (by kernel_rfl) (by kernel_rfl) (by kernel_rfl) (fun _ _ _ h => h) (Or.inl ⟨by rfl, ?_⟩) (by assumption) ?_; rotate_left 1; · (intro w hSw; (try dsimp only at hSw); go_simp; all_goals with_reducible rfl))
        try simp only [Act.put, List.setIfInBounds_toArray, List.set_cons_zero, List.set_cons_succ]
        (refine wpAnyH_take (i := 3) (oi := ⟨_, _, _, _, _, _⟩) (v := ?_) rfl (by kernel_rfl) (by kernel_rfl) (by kernel_rfl) (fun _ _ _ h => h) (Or.inl ⟨by rfl, ?_⟩) (by assumption) ?_; rotate_left 1; · (intro w hSw; (try dsimp only at hSw); go_simp; all_goals with_reducible rfl))
        try simp only [Act.put, List.setIfInBounds_toArray, List.set_cons_zero, List.set_cons_succ]
        (refine wpAnyH_take (i := 4) (oi := ⟨_, _, _, _, _, _⟩) (v := ?_) rfl (by kernel_rfl) (by kernel_rfl) (by kernel_rfl) (fun _ _ _ h => h) (Or.inl ⟨by rfl, ?_⟩) (by assumption) ?_; rotate_left 1; · (intro w hSw; (try dsimp only at hSw); go_simp; all_goals with_reducible rfl))
        try simp only [Act.put, List.setIfInBounds_toArray, List.set_cons_zero, List.set_cons_succ]
        first | (refine wpAnyH_take (i := 5) (oi := ⟨_, _, _, _, _, _⟩) (v := ?_) rfl (by kernel_rfl) (by kernel_rfl) (by kernel_rfl) (fun _ _ _ h => h) (Or.inl ⟨by rfl, ?_⟩) (by assumption) ?_; rotate_left 1; · (intro w hSw; (try dsimp only at hSw); go_simp; all_goals with_reducible rfl)) | refine wpAnyH_take (i := 5) (oi := ⟨_, _, _, _, _, _⟩) (v := undef) rfl (by kernel_rfl) (by kernel_rfl) (by kernel_rfl) (fun _ _ _ h => h) (Or.inr ⟨by kernel_rfl, rfl⟩) (by assumption) ?_
        try simp only [Act.put, List.setIfInBounds_toArray, List.set_cons_zero, List.set_cons_succ]
        first | (refine wpAnyH_take (i := 6) (oi := ⟨_, _, _, _, _, _⟩) (v := ?_) rfl (by kernel_rfl) (by kernel_rfl) (by kernel_rfl) (fun _ _ _ h => h) (Or.inl ⟨by rfl, ?_⟩) (by assumption) ?_; rotate_left 1; · (intro w hSw; (try dsimp only at hSw); go_simp; all_goals with_reducible rfl)) | refine wpAnyH_take (i := 6) (oi := ⟨_, _, _, _, _, _⟩) (v := undef) rfl (by kernel_rfl) (by kernel_rfl) (by kernel_rfl) (fun _ _ _ h => h) (Or.inr ⟨by kernel_rfl, rfl⟩) (by assumption) ?_
        try simp only [Act.put, List.setIfInBounds_toArray, List.set_cons_zero, List.set_cons_succ]
        first | (refine wpAnyH_take (i := 7) (oi := ⟨_, _, _, _, _, _⟩) (v := ?_) rfl (by kernel_rfl) (by kernel_rfl) (by kernel_rfl) (fun _ _ _ h => h) (Or.inl ⟨by rfl, ?_⟩) (by assumption) ?_; rotate_left 1; · (intro w hSw; (try dsimp only at hSw); go_simp; all_goals with_reducible rfl)) | refine wpAnyH_take (i := 7) (oi := ⟨_, _, _, _, _, _⟩) (v := undef) rfl (by kernel_rfl) (by kernel_rfl) (by kernel_rfl) (fun _ _ _ h => h) (Or.inr ⟨by kernel_rfl, rfl⟩) (by assumption) ?_
        try simp only [Act.put, List.setIfInBounds_toArray, List.set_cons_zero, List.set_cons_succ]
        first | (refine wpAnyH_take (i := 8) (oi := ⟨_, _, _, _, _, _⟩) (v := ?_) rfl (by kernel_rfl) (by kernel_rfl) (by kernel_rfl) (fun _ _ _ h => h) (Or.inl ⟨by rfl, ?_⟩) (by assumption) ?_; rotate_left 1; · (intro w hSw; (try dsimp only at hSw); go_simp; all_goals with_reducible rfl)) | refine wpAnyH_take (i := 8) (oi := ⟨_, _, _, _, _, _⟩) (v := undef) rfl (by kernel_rfl) (by kernel_rfl) (by kernel_rfl) (fun _ _ _ h => h) (Or.inr ⟨by kernel_rfl, rfl⟩) (by assumption) ?_
        try simp only [Act.put, List.setIfInBounds_toArray, List.set_cons_zero, List.set_cons_succ]
        first | (refine wpAnyH_take (i := 9) (oi := ⟨_, _, _, _, _, _⟩) (v := ?_) rfl (by kernel_rfl) (by kernel_rfl) (by kernel_rfl) (fun _ _ _ h => h) (Or.inl ⟨by rfl, ?_⟩) (by assumption) ?_; rotate_left 1; · (intro w hSw; (try dsimp only at hSw); go_simp; all_goals with_reducible rfl)) | refine wpAnyH_take (i := 9) (oi := ⟨_, _, _, _, _, _⟩) (v := undef) rfl (by kernel_rfl) (by kernel_rfl) (by kernel_rfl) (fun _ _ _ h => h) (Or.inr ⟨by kernel_rfl, rfl⟩) (by assumption) ?_
        try simp only [Act.put, List.setIfInBounds_toArray, List.set_cons_zero, List.set_cons_succ]
        first | (refine wpAnyH_take (i := 10) (oi := ⟨_, _, _, _, _, _⟩) (v := ?_) rfl (by kernel_rfl) (by kernel_rfl) (by kernel_rfl) (fun _ _ _ h => h) (Or.inl ⟨by rfl, ?_⟩) (by assumption) ?_; rotate_left 1; · (intro w hSw; (try dsimp only at hSw); go_simp; all_goals with_reducible rfl)) | refine wpAnyH_take (i := 10) (oi := ⟨_, _, _, _, _, _⟩) (v := undef) rfl (by kernel_rfl) (by kernel_rfl) (by kernel_rfl) (fun _ _ _ h => h) (Or.inr ⟨by kernel_rfl, rfl⟩) (by assumption) ?_
        try simp only [Act.put, List.setIfInBounds_toArray, List.set_cons_zero, List.set_cons_succ]
        refine wpAnyH_ready (rs := [11]) (by kernel_rfl) (by simp) ?_
        refine AllReadyH.cons (o := ⟨_, _, _, _, _, _⟩) rfl (fun Kq hKq => ?_) (AllReadyH.nil)
        go_simp
        clear hHeld
        go_at_call 43; (with_reducible refine (HC.out _).mono ?_); rintro e w7 ⟨rfl, hb⟩; have P7 := Lib.hid (below_after (Below.drew (Below.refl _ _)) hb (Nat.le_refl _)); clear hb c1 c2 x1 x2
        refine hKq.out _ _ ?_ (fun hHeld => ?_)
        · (try dsimp only); exact HF.out _ P7.out
        clear hKq Kq
        try simp only [Act.put, List.setIfInBounds_toArray, List.set_cons_zero, List.set_cons_succ]
        first | (refine wpAnyH_take (i := 12) (oi := ⟨_, _, _, _, _, _⟩) (v := ?_) rfl (by kernel_rfl) (by kernel_rfl) (by kernel_rfl) (fun _ _ _ h => h) (Or.inl ⟨by rfl, ?_⟩) (by assumption) ?_; rotate_left 1; · (intro w hSw; (try dsimp only at hSw); go_simp; all_goals with_reducible rfl)) | refine wpAnyH_take (i := 12) (oi := ⟨_, _, _, _, _, _⟩) (v := undef) rfl (by kernel_rfl) (by kernel_rfl) (by kernel_rfl) (fun _ _ _ h => h) (Or.inr ⟨by kernel_rfl, rfl⟩) (by assumption) ?_
        try simp only [Act.put, List.setIfInBounds_toArray, List.set_cons_zero, List.set_cons_succ]
        (refine wpAnyH_take (i := 13) (oi := ⟨_, _, _, _, _, _⟩) (v := ?_) rfl (by kernel_rfl) (by kernel_rfl) (by kernel_rfl) (fun _ _ _ h => h) (Or.inl ⟨by rfl, ?_⟩) (by assumption) ?_; rotate_left 1; · (intro w hSw; (try dsimp only at hSw); go_simp; all_goals with_reducible rfl))
        try simp only [Act.put, List.setIfInBounds_toArray, List.set_cons_zero, List.set_cons_succ]
        (refine wpAnyH_take (i := 14) (oi := ⟨_, _, _, _, _, _⟩) (v := ?_) rfl (by kernel_rfl) (by kernel_rfl) (by kernel_rfl) (fun _ _ _ h => h) (Or.inl ⟨by rfl, ?_⟩) (by assumption) ?_; rotate_left 1; · (intro w hSw; (try dsimp only at hSw); go_simp; all_goals with_reducible rfl))
        try simp only [Act.put, List.setIfInBounds_toArray, List.set_cons_zero, List.set_cons_succ]
        (refine wpAnyH_take (i := 15) (oi := ⟨_, _, _, _, _, _⟩) (v := ?_) rfl (by kernel_rfl) (by kernel_rfl) (by kernel_rfl) (fun _ _ _ h => h) (Or.inl ⟨by rfl, ?_⟩) (by assumption) ?_; rotate_left 1; · (intro w hSw; (try dsimp only at hSw); go_simp; all_goals with_reducible rfl))
        try simp only [Act.put, List.setIfInBounds_toArray, List.set_cons_zero, List.set_cons_succ]
        refine wpAnyH_done (by kernel_rfl) ?_ _
        go_wp2_with fail
        refine bodyPost_ret (v := .tuple #[.int .i64 i, .bool (z == 0)]) (by simp [results, Tryd.results42, go_sem]) rfl ?_
        exact ⟨i, by rw [← HZ.out]; rfl, HP.out, below_after B0.out (below_after HW.out P7.out (Nat.le_refl _)) (Nat.le_refl _)⟩
      · have hdn : decide ((i : Int) < (l.length : Int)) = false := decide_eq_false (by omega)
        have HN := Lib.hid (place_end HP.out (by omega))
        go_wp2_with fail
        go_quiet (fail)
        go_wp2_with fail
        refine bodyPost_ret (v := .tuple #[.int .i64 i, .bool false]) (by simp [results, Tryd.results42, go_sem]) rfl ?_
        exact ⟨i, by rw [HN.out], HP.out, below_after B0.out (below_drewN HW.out) (Nat.le_refl _)⟩
end Go.Proofs.YtloghkiabgnpnaaDoor
namespace Go.Proofs.YtloghkiabgnpnaaDoor
open Go Go.RowKit
theorem both_new (v u : Value) (l m : List (Int × Int)) (w : World) (h : Ids w v l) (h2 : Ids w u m) (hl : l.length ≤ 400000) (hm : m.length ≤ 400000) :
    Calls Tryd.prog 45 #[v, u] w (News (Sets.both l m) w) := by
  have HI := Lib.hid h
  have HJ := Lib.hid h2
  clear h h2
  go_enter Tryd.func45, Tryd.ntmps45
  go_wp2_with fail
  refine (chosen_new 60 _ keeps_and v u l m _ HI.out HJ.out hl hm).mono ?_
  rw [mrg_and]
  rintro e w3 ⟨r3, rfl, hi, hb⟩
  have H3 := Lib.hid hi
  have B3 := Lib.hid hb
  clear hi hb
  go_wp2_with fail
  go_ret
  exact ⟨r3, rfl, H3.out, B3.out⟩
/-- A function that says which statuses are in question. -/
structure AsksU (K : Nat) (caps : Array Value) (p : Int → Bool) (S : World → Prop) : Prop where
  enters : ∀ args W, (callFunc K args).run Tryd.prog W = .ok (.enter K args) W
  call : ∀ s W, S W → Calls Tryd.prog K (#[.int .u8 s] ++ caps) W fun e w' => e = .returned (.bool (p s)) ∧ Below W.heap.size W w'
  kept : ∀ W W', S W → Below W.heap.size W W' → S W'
theorem low_asks : AsksU 41 #[] (fun s => decide (s < 6)) (fun _ => True) where
  enters := fun args W => enters_fn Tryd.func41 (by kernel_rfl) rfl args W
  call := fun s W _ => by
    show Calls Tryd.prog 41 #[.int .u8 s] W _
    go_enter Tryd.func41, Tryd.ntmps41
    go_wp2_with fail
    go_ret
    exact ⟨rfl, Below.refl _ _⟩
  kept := fun _ _ _ _ => trivial
theorem all_asks : AsksU 46 #[] (fun _ => true) (fun _ => True) where
  enters := fun args W => enters_fn Tryd.func46 (by kernel_rfl) rfl args W
  call := fun s W _ => by
    show Calls Tryd.prog 46 #[.int .u8 s] W _
    go_enter Tryd.func46, Tryd.ntmps46
    go_wp2_with fail
    go_ret
    exact ⟨rfl, Below.refl _ _⟩
  kept := fun _ _ _ _ => trivial
theorem await_asks : AsksU 48 #[] Agr.awaitB (fun _ => True) where
  enters := fun args W => enters_fn Tryd.func48 (by kernel_rfl) rfl args W
  call := fun s W _ => by
    show Calls Tryd.prog 48 #[.int .u8 s] W _
    by_cases h : s = 5
    · subst h
      go_enter Tryd.func48, Tryd.ntmps48
      go_wp2_with fail
      go_ret
      exact ⟨rfl, Below.refl _ _⟩
    · have h1 : (s == 5) = false := by simpa using h
      have h2 : (s != 5) = true := by simpa using h
      by_cases k : s = 6
      · subst k
        clear h h1 h2
        go_enter Tryd.func48, Tryd.ntmps48
        go_wp2_with fail
        go_ret
        exact ⟨rfl, Below.refl _ _⟩
      · have k1 : (s == 6) = false := by simpa using k
        have k2 : (s != 6) = true := by simpa using k
        have HR := Lib.hid (show true = Agr.awaitB s by simp [Agr.awaitB, h, k])
        clear h k
        go_enter Tryd.func48, Tryd.ntmps48
        go_wp2_with fail
        go_ret
        exact ⟨ret_bool HR.out, Below.refl _ _⟩
  kept := fun _ _ _ _ => trivial
theorem voter_asks : AsksU 50 #[] Agr.voterB (fun _ => True) where
  enters := fun args W => enters_fn Tryd.func50 (by kernel_rfl) rfl args W
  call := fun s W _ => by
    show Calls Tryd.prog 50 #[.int .u8 s] W _
    by_cases h : s = 3
    · subst h
      go_enter Tryd.func50, Tryd.ntmps50
      go_wp2_with fail
      go_ret
      exact ⟨rfl, Below.refl _ _⟩
    · have h1 : (s == 3) = false := by simpa using h
      by_cases k : s = 4
      · subst k
        clear h h1
        go_enter Tryd.func50, Tryd.ntmps50
        go_wp2_with fail
        go_ret
        exact ⟨rfl, Below.refl _ _⟩
      · have k1 : (s == 4) = false := by simpa using k
        have HR := Lib.hid (show false = Agr.voterB s by simp [Agr.voterB, h, k])
        clear h k
        go_enter Tryd.func50, Tryd.ntmps50
        go_wp2_with fail
        go_ret
        exact ⟨ret_bool HR.out, Below.refl _ _⟩
  kept := fun _ _ _ _ => trivial
/-- A block that holds the first and the last status of a rank. -/
def RBox (w : World) (g : Nat) (a b : Int) : Prop := w.heap[g]? = some (.cells #[.int .u8 a, .int .u8 b] 62 (0, 0))
theorem rbox_cells {w : World} {g : Nat} {a b : Int} (h : RBox w g a b) : w.cell? ⟨g, 0, none⟩ = some (.int .u8 a) ∧ w.cell? ⟨g, 1, none⟩ = some (.int .u8 b) := by
  unfold RBox at h
  constructor <;> simp [World.cell?, h]
theorem rbox_lt {w : World} {g : Nat} {a b : Int} (h : RBox w g a b) : g < w.heap.size := row_lt h
theorem rbox_below {w w' : World} {g : Nat} {a b : Int} (h : RBox w g a b) (hb : Below w.heap.size w w') : RBox w' g a b := (hb.block _ (rbox_lt h)).trans h
theorem rank_asks (X : Nat) (a b : Int) : AsksU 36 #[.pointer (some ⟨X, 0, none⟩)] (Agr.rankP a b) (fun W => RBox W X a b) where
  enters := fun args W => enters_fn Tryd.func36 (by kernel_rfl) rfl args W
  call := fun s W hS => by
    show Calls Tryd.prog 36 #[.int .u8 s, .pointer (some ⟨X, 0, none⟩)] W _
    obtain ⟨c1, c2⟩ := rbox_cells hS
    clear hS
    by_cases h : a ≤ s
    · have h1 : decide (a ≤ s) = true := decide_eq_true h
      have HR := Lib.hid (show decide (s ≤ b) = Agr.rankP a b s by simp [Agr.rankP, h1])
      clear h
      go_enter Tryd.func36, Tryd.ntmps36
      go_wp2_with fail
      go_ret
      exact ⟨ret_bool HR.out, Below.refl _ _⟩
    · have h1 : decide (a ≤ s) = false := decide_eq_false h
      have HR := Lib.hid (show false = Agr.rankP a b s by simp [Agr.rankP, h1])
      clear h
      go_enter Tryd.func36, Tryd.ntmps36
      go_wp2_with fail
      go_ret
      exact ⟨ret_bool HR.out, Below.refl _ _⟩
  kept := fun _ _ h hb => rbox_below h hb
/-- A slice of members that stands, and reads. -/
theorem chosen_next {p : Int → Bool} {l : List Agr.Mm} {k : Nat} (hk : k < l.length) : ((l.take (k + 1)).filter fun x => p x.2.1).map (·.1) = ((l.take k).filter fun x => p x.2.1).map (·.1) ++ if p l[k].2.1 then [l[k].1] else [] := by
  rw [List.take_succ_eq_append_getElem hk, List.filter_append, List.map_append]
  congr 1
  rcases h : p l[k].2.1 with _ | _ <;> simp [h]
set_option maxHeartbeats 2000000 in
theorem agrChosen_any {K : Nat} {caps : Array Value} {p : Int → Bool} {S : World → Prop} (hP : AsksU K caps p S) (v : Value) (V : Vw) (w : World) (h : VAt w v V) (hS : S w) (hl : V.m.length ≤ 100000) :
    Calls Tryd.prog 35 #[v, .func (.func K) #[] caps] w (News (Agr.chosenL p V.m) w) := by
  obtain ⟨a, b, c, d, e, rfl, hr⟩ := h
  have HP := Lib.hid hP
  have hK := hP.enters
  have X1 := Lib.hid (vbox_new w a b c d e)
  have BB := Lib.hid (below_one w (.cells #[.slice a.1 a.2.1 a.2.2, .slice b.1 b.2.1 b.2.2, .slice c.1 c.2.1 c.2.2, .slice d.1 d.2.1 d.2.2, .slice e.1 e.2.1 e.2.2] 29))
  have RA := Lib.hid (hr.below BB.out)
  have S1 := Lib.hid (hP.kept _ _ hS BB.out)
  obtain ⟨p0, p1, p2, p3, p4⟩ := vbox_cells X1.out
  clear hr hP hS
  go_enter Tryd.func35, Tryd.ntmps35
  go_wp2_with fail
  clear p0 p1 p2 p3 p4
  (with_reducible refine (firsts_any _ V.m _ RA.out.m hl).mono ?_)
  rintro e2 w1 ⟨v1, rfl, hm, hb⟩
  obtain ⟨A, N, cap, hv, hN⟩ : ∃ A N cap, v1 = .slice A N cap ∧ N = (firstsL V.m).length := by
    obtain ⟨A, cap, hv, -⟩ := hm
    exact ⟨A, _, cap, hv, rfl⟩
  subst hv
  have HM := Lib.hid hm
  have B1 := Lib.hid (below_after BB.out hb (Nat.le_refl _))
  have S2 := Lib.hid (HP.out.kept _ _ S1.out hb)
  have HN := Lib.hid hN
  have hNl : N ≤ 100000 := by have := firstsL_len V.m; omega
  clear hm hb hN S1 X1 RA
  have HC : Hid (Agr.chosenL p V.m = ((firstsL V.m).filter fun x => p x.2.1).map (·.1)) := Lib.hid rfl
  generalize firstsL V.m = F at *
  go_wp2_with fail
  go_loopw [12, 5] (fun s12 s5 wr => ∃ k : Nat, s12 = .int .i64 k ∧ k ≤ N ∧ Hid (Owns wr w1.heap.size s5 (((F.take k).filter fun x => p x.2.1).map (·.1))) ∧ Hid (Below w1.heap.size w1 wr) ∧ Hid (Below w.heap.size w wr)) (fun s12 _ _ => N - (intOf s12).toNat)
  case atStart => exact ⟨0, rfl, by omega, Lib.hid (owns_nil _ _), Lib.hid (Below.refl _ _), B1⟩
  case round =>
    obtain ⟨k, rfl, hk, HO, HB, HW⟩ := hrel
    by_cases hlt : k < N
    · have hd : decide ((k : Int) < (N : Int)) = true := decide_eq_true (by omega)
      have i3 : (0 : Int) ≤ (k : Int) := by omega
      have i4 : (k : Int) < (N : Int) := by omega
      have hkF : k < F.length := by have := HN.out; omega
      obtain ⟨ad, rfl, c1, c2, c3, c4⟩ := HM.out.at_ HB.out hkF
      have HNx := Lib.hid (chosen_next (p := p) hkF)
      have S3 := Lib.hid (HP.out.kept _ _ S2.out HB.out)
      have HCall := Lib.hid fun W (hs : S W) => HP.out.call F[k].2.1 W hs
      have HX := Lib.hid (mbox_new wr F[k].1.1 F[k].1.2 F[k].2.1 F[k].2.2)
      have BX := Lib.hid (below_one wr (.cells #[.int .i64 F[k].1.1, .int .i64 F[k].1.2, .int .u8 F[k].2.1, .int .i64 F[k].2.2] 52))
      have SX := Lib.hid (HP.out.kept _ _ S3.out BX.out)
      have HE : Hid (F[k].1 = (F[k].1.1, F[k].1.2)) := Lib.hid rfl
      rw [HE.out] at HNx
      have hOl : (((F.take k).filter fun x => p x.2.1).map (·.1)).length ≤ k := by
        rw [List.length_map]
        exact Nat.le_trans (List.length_filter_le _ _) (List.length_take_le _ _)
      have HOl := Lib.hid hOl
      clear HE hOl
      generalize F[k].1.1 = x1 at *
      generalize F[k].1.2 = x2 at *
      generalize F[k].2.1 = x3 at *
      generalize F[k].2.2 = x4 at *
      clear hkF
      rcases hp : p x3 with _ | _
      · rw [hp] at HNx HCall
        clear hp
        go_wp2_with fail
        (with_reducible refine (HCall.out _ SX.out).mono ?_)
        rintro e3 w2 ⟨rfl, hb⟩
        have B2 := Lib.hid (below_after BX.out hb (Nat.le_refl _))
        have O2 := Lib.hid (HO.out.below B2.out)
        clear hb
        have HNy := Lib.hid (HNx.out.trans (List.append_nil _))
        go_wp2_with fail
        go_roundw
        case rel => exact ⟨k + 1, by go_num, by omega, Lib.hid (by rw [HNy.out]; exact O2.out), Lib.hid (below_after HB.out B2.out (Nat.le_refl _)), Lib.hid (below_after HW.out B2.out (Nat.le_refl _))⟩
        case measure => simp [intOf]; omega
      · rw [hp] at HNx HCall
        clear hp
        go_wp2_with fail
        (with_reducible refine (HCall.out _ SX.out).mono ?_)
        rintro e3 w2 ⟨rfl, hb⟩
        have B2 := Lib.hid (below_after BX.out hb (Nat.le_refl _))
        have O2 := Lib.hid (HO.out.below B2.out)
        have X2 := Lib.hid (mbox_below HX.out hb)
        have W2 := Lib.hid (below_after HW.out B2.out (Nat.le_refl _))
        have Z2 := Lib.hid (below_after HB.out B2.out (Nat.le_refl _))
        obtain ⟨m1, m2, m3, m4⟩ := mbox_cells X2.out
        clear hb c1 c2 c3 c4
        go_wp2_with (first | (at_builtin; refine wpList_append_one rfl (.tmp 20) (.tmp 23) rfl w2 w1.heap.size _ _ x1 x2 rfl rfl O2.out (by have := HOl.out; omega) Z2.out.size ?_; intro v9 w9 h1 h2))
        have HNy := Lib.hid (HNx.out.trans (show _ = _ ++ [(x1, x2)] from rfl))
        refine ⟨⟨k + 1, by go_num, by omega, Lib.hid (by rw [HNy.out]; exact h1), Lib.hid (Z2.out.trans h2), Lib.hid (W2.out.trans (h2.mono B1.out.size))⟩, by simp [intOf]; omega⟩
    · have hd : decide ((k : Int) < (N : Int)) = false := decide_eq_false (by omega)
      go_wp2_with fail
      go_ret
      exact ⟨_, rfl, by
        rw [HC.out]
        have := HO.out
        rw [List.take_of_length_le (show F.length ≤ k by have := HN.out; omega)] at this
        exact this.mono B1.out.size, HW.out⟩
end Go.Proofs.YtloghkiabgnpnaaDoor
