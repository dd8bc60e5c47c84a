/-
  Plain mathematics of rows: two lists gone through ID by ID; a row set in rows in whatever order; who is removed, by floors in order. Nothing of the program; no statement is proved in this text.
-/
import Derived.Test.YtofanciaacdjfaaRowSets
namespace Go.Proofs.Ytofanciaacdjfaa.RowSets
open Go.Proofs.Ytofanciaacdjfaa.Sets
/-- The first row, if it is this ID's. -/
def hd (x : Id2) : List Row → Option Row
  | [] => none
  | r :: _ => if r.1 = x then some r else none
def tl (x : Id2) : List Row → List Row
  | [] => []
  | r :: l => if r.1 = x then l else r :: l
theorem hd_cons (x : Id2) (r : Row) (l : List Row) : hd x (r :: l) = if r.1 = x then some r else none := rfl
theorem tl_cons (x : Id2) (r : Row) (l : List Row) : tl x (r :: l) = if r.1 = x then l else r :: l := rfl
theorem tl_len (x : Id2) (l : List Row) : (tl x l).length ≤ l.length := by
  cases l with
  | nil => exact Nat.le_refl _
  | cons r l =>
    rw [tl_cons]
    split
    · simp
    · exact Nat.le_refl _
/-- Two lists of rows, gone through by these IDs. -/
def pairsL : List Id2 → List Row → List Row → List (Option Row × Option Row)
  | [], _, _ => []
  | x :: xs, a, b => (hd x a, hd x b) :: pairsL xs (tl x a) (tl x b)
theorem pairsL_len : ∀ (xs : List Id2) (a b : List Row), (pairsL xs a b).length = xs.length
  | [], _, _ => rfl
  | x :: xs, a, b => by rw [pairsL, List.length_cons, pairsL_len xs, List.length_cons]
/-- The row of an ID. -/
def rowOf (l : List Row) (x : Id2) : Option Row := (get l x).map fun s => (x, s)
theorem hd_is {x : Id2} {xs : List Id2} {a : List Row} (ha : Up a) (hx : Rises (x :: xs)) (hs : ∀ y ∈ ids a, y ∈ x :: xs) : hd x a = rowOf a x := by
  cases a with
  | nil => rfl
  | cons r a =>
    rw [hd_cons]
    unfold rowOf
    rw [RowSets.get]
    by_cases e : r.1 = x
    · rw [if_pos e, if_pos e, ← e]
      rfl
    · rw [if_neg e, if_neg e]
      have hr : lt x r.1 := by
        have h1 := hs r.1 (by simp [ids])
        rcases List.mem_cons.1 h1 with h2 | h2
        · exact absurd h2 e
        · exact (rises_cons.1 hx).1 _ h2
      have hn : get a x = none := get_none.2 fun hm => by
        obtain ⟨u, hu, eu⟩ := List.mem_map.1 hm
        have h3 := (up_cons.1 ha).1 u hu
        rw [eu] at h3
        exact lt_asymm hr h3
      rw [hn]
      rfl
theorem tl_up {x : Id2} {a : List Row} (ha : Up a) : Up (tl x a) := by
  cases a with
  | nil => exact ha
  | cons r a =>
    rw [tl_cons]
    split
    · exact (up_cons.1 ha).2
    · exact ha
theorem tl_sub {x : Id2} {xs : List Id2} {a : List Row} (ha : Up a) (hx : Rises (x :: xs)) (hs : ∀ y ∈ ids a, y ∈ x :: xs) : ∀ y ∈ ids (tl x a), y ∈ xs := by
  cases a with
  | nil => intro y hy; simp [tl, ids] at hy
  | cons r a =>
    have h1 := hs r.1 (by simp [ids])
    rw [tl_cons]
    by_cases e : r.1 = x
    · rw [if_pos e]
      intro y hy
      rcases List.mem_cons.1 (hs y (List.mem_cons_of_mem _ hy)) with h2 | h2
      · obtain ⟨u, hu, eu⟩ := List.mem_map.1 hy
        have h3 := (up_cons.1 ha).1 u hu
        rw [eu, h2, e] at h3
        exact absurd h3 (lt_irrefl _)
      · exact h2
    · rw [if_neg e]
      have hr : lt x r.1 := by
        rcases List.mem_cons.1 h1 with h2 | h2
        · exact absurd h2 e
        · exact (rises_cons.1 hx).1 _ h2
      intro y hy
      rcases List.mem_cons.1 (hs y hy) with h2 | h2
      · rcases List.mem_cons.1 (show y ∈ r.1 :: ids a from hy) with h3 | h3
        · exact absurd (h3.symm.trans h2) e
        · obtain ⟨u, hu, eu⟩ := List.mem_map.1 h3
          have h4 := (up_cons.1 ha).1 u hu
          rw [eu, h2] at h4
          exact absurd h4 (lt_asymm hr)
      · exact h2
theorem tl_get {x y : Id2} (h : y ≠ x) (a : List Row) : get (tl x a) y = get a y := by
  cases a with
  | nil => rfl
  | cons r a =>
    rw [tl_cons]
    by_cases e : r.1 = x
    · rw [if_pos e, RowSets.get, if_neg (fun h2 => h (h2.symm.trans e))]
    · rw [if_neg e]
theorem pairsL_is : ∀ {xs : List Id2} {a b : List Row}, Rises xs → Up a → Up b → (∀ y ∈ ids a, y ∈ xs) → (∀ y ∈ ids b, y ∈ xs) → pairsL xs a b = xs.map fun x => (rowOf a x, rowOf b x)
  | [], _, _, _, _, _, _, _ => rfl
  | x :: xs, a, b, hx, ha, hb, hsa, hsb => by
    rw [pairsL, List.map_cons, hd_is ha hx hsa, hd_is hb hx hsb, pairsL_is (rises_cons.1 hx).2 (tl_up ha) (tl_up hb) (tl_sub ha hx hsa) (tl_sub hb hx hsb)]
    congr 1
    refine List.map_congr_left fun y hy => ?_
    have hne : y ≠ x := fun e => lt_irrefl x (by have := (rises_cons.1 hx).1 y hy; rwa [e] at this)
    unfold rowOf
    rw [tl_get hne, tl_get hne]
/-- What counts of two rows of one ID. -/
def joinedO : Option Row → Option Row → Row
  | some r, none => r
  | none, some s => s
  | some r, some s => if s.2.1 < r.2.1 then r else if r.2.1 < s.2.1 then s else (r.1, r.2.1, join r.2.2 s.2.2)
  | none, none => ((0, 0), 0, [])
theorem joined_two {a b : List Row} {x : Id2} (h : x ∈ ids a ∨ x ∈ ids b) : two (get a x) (get b x) = some (joinedO (rowOf a x) (rowOf b x)).2 ∧ (joinedO (rowOf a x) (rowOf b x)).1 = x := by
  unfold rowOf
  rcases ha : get a x with _ | s
  · rcases hb : get b x with _ | t
    · rcases h with h | h
      · exact absurd h (get_none.1 ha)
      · exact absurd h (get_none.1 hb)
    · exact ⟨rfl, rfl⟩
  · rcases hb : get b x with _ | t
    · exact ⟨rfl, rfl⟩
    · simp only [two, Option.map_some, joinedO]
      by_cases h1 : t.1 < s.1
      · rw [if_pos h1, if_pos h1]; exact ⟨rfl, rfl⟩
      · by_cases h2 : s.1 < t.1
        · rw [if_neg h1, if_neg h1, if_pos h2, if_pos h2]; exact ⟨rfl, rfl⟩
        · rw [if_neg h1, if_neg h1, if_neg h2, if_neg h2]; exact ⟨rfl, rfl⟩
theorem filterMap_map {f : Id2 → Option Row} {g : Id2 → Row} : ∀ {l : List Id2}, (∀ x ∈ l, f x = some (g x)) → l.filterMap f = l.map g
  | [], _ => rfl
  | x :: l, h => by
    rw [List.filterMap_cons_some (h x (List.mem_cons_self ..)), List.map_cons, filterMap_map fun y hy => h y (List.mem_cons_of_mem _ hy)]
theorem mem_pairs_sub (a b : List Row) : (∀ y ∈ ids a, y ∈ join (ids a) (ids b)) ∧ ∀ y ∈ ids b, y ∈ join (ids a) (ids b) := ⟨fun _ hy => (mem_join _ _ _).2 (.inl hy), fun _ hy => (mem_join _ _ _).2 (.inr hy)⟩
/-- Gone through ID by ID, joined. -/
theorem joinR_pairs {a b : List Row} (ha : Up a) (hb : Up b) : (pairsL (join (ids a) (ids b)) a b).map (fun p => joinedO p.1 p.2) = joinR a b := by
  rw [pairsL_is (rises_join _ _) ha hb (mem_pairs_sub a b).1 (mem_pairs_sub a b).2, List.map_map]
  unfold joinR table join
  rw [filterMap_map (g := fun x => joinedO (rowOf a x) (rowOf b x))]
  · rfl
  · intro x hx
    have hm := (mem_setOf _ _).1 hx
    obtain ⟨h1, h2⟩ := joined_two (List.mem_append.1 hm)
    show (two (get a x) (get b x)).map (fun s => (x, s)) = _
    rw [h1]
    show some (x, (joinedO (rowOf a x) (rowOf b x)).2) = _
    congr 1
    exact Prod.ext h2.symm rfl
theorem pairs_some {a b : List Row} (ha : Up a) (hb : Up b) : ∀ p ∈ pairsL (join (ids a) (ids b)) a b, p.1 ≠ none ∨ p.2 ≠ none := by
  rw [pairsL_is (rises_join _ _) ha hb (mem_pairs_sub a b).1 (mem_pairs_sub a b).2]
  intro p hp
  obtain ⟨x, hx, rfl⟩ := List.mem_map.1 hp
  rcases (mem_join _ _ _).1 hx with h | h
  · obtain ⟨s, hs⟩ := get_some h
    exact .inl (by simp [rowOf, hs])
  · obtain ⟨s, hs⟩ := get_some h
    exact .inr (by simp [rowOf, hs])
/-- A row put ahead of the first one that is not less. -/
def insertG (r : Row) : List Row → List Row
  | [] => [r]
  | u :: l => if lt u.1 r.1 then u :: insertG r l else r :: u :: l
/-- What the first row of an ID says, set. -/
def changeG (x : Id2) (s : Says) : List Row → List Row
  | [] => []
  | u :: l => if u.1 = x then (x, s) :: l else u :: changeG x s l
/-- Rows, in whatever order, with that of an ID set. -/
def setG (l : List Row) (of : Id2) (not : List Id2) : List Row :=
  match get l of with
  | none => if del not of = [] then l else insertG (of, 1, del not of) l
  | some s => if setOf s.2 = del not of then l else changeG of (s.1 + 1, del not of) l
theorem place_insert {r : Row} : ∀ {l : List Row}, r.1 ∉ ids l → place r l = insertG r l
  | [], _ => rfl
  | u :: l, h => by
    have h1 : u.1 ≠ r.1 := fun e => h (by simp [ids, e])
    have h2 : r.1 ∉ ids l := fun hm => h (List.mem_cons_of_mem _ hm)
    rw [place, insertG, if_neg h1, place_insert h2]
theorem place_change {x : Id2} {s : Says} : ∀ {l : List Row}, Up l → x ∈ ids l → place (x, s) l = changeG x s l
  | [], _, h => by simp [ids] at h
  | u :: l, hl, h => by
    rw [place, changeG]
    by_cases e : u.1 = x
    · rw [if_pos e, if_pos e]
    · have h2 : x ∈ ids l := by
        rcases List.mem_cons.1 (show x ∈ u.1 :: ids l from h) with h | h
        · exact absurd h.symm e
        · exact h
      have h3 : lt u.1 x := by
        obtain ⟨v, hv, ev⟩ := List.mem_map.1 h2
        rw [← ev]
        exact (up_cons.1 hl).1 v hv
      rw [if_neg e, if_neg e, if_pos h3, place_change (up_cons.1 hl).2 h2]
theorem setG_up {l : List Row} (of : Id2) (not : List Id2) (h : Up l) : setG l of not = setR l of not := by
  unfold setG setR
  rcases hg : get l of with _ | s
  · show (if del not of = [] then l else insertG (of, 1, del not of) l) = if setOf (nots none) = wanted of not then l else place (of, vers none + 1, wanted of not) l
    by_cases e : del not of = []
    · rw [if_pos e, if_pos (show setOf (nots none) = wanted of not from e.symm)]
    · rw [if_neg e, if_neg (fun h2 : setOf (nots none) = wanted of not => e h2.symm), place_insert (get_none.1 hg)]
      rfl
  · show (if setOf s.2 = del not of then l else changeG of (s.1 + 1, del not of) l) = if setOf (nots (some s)) = wanted of not then l else place (of, vers (some s) + 1, wanted of not) l
    have hm : of ∈ ids l := List.mem_map_of_mem (get_mem hg)
    by_cases e : setOf s.2 = del not of
    · rw [if_pos e, if_pos (show setOf (nots (some s)) = wanted of not from e)]
    · rw [if_neg e, if_neg (show ¬ setOf (nots (some s)) = wanted of not from e), place_change h hm]
      rfl
theorem insertG_len (r : Row) (l : List Row) : (insertG r l).length = l.length + 1 := by
  induction l with
  | nil => rfl
  | cons u l ih =>
    rw [insertG]
    split
    · rw [List.length_cons, ih, List.length_cons]
    · rfl
/-- Is an ID removed, by floors in order: the next floor is one of its address. -/
theorem rem_next {fl : List Id2} {s : List Id2} (hs : Rises s) (hm : ∀ z, z ∈ s ↔ z ∈ fl) {x : Id2} {k : Nat} (hlo : ∀ i (h : i < s.length), i < k → lt s[i] x) (hhi : ∀ i (h : i < s.length), k ≤ i → ¬ lt s[i] x) :
    rem fl x = if h : k < s.length then decide (s[k].1 = x.1) else false := by
  by_cases hk : k < s.length
  · rw [dif_pos hk]
    have hnl := hhi k hk (Nat.le_refl _)
    by_cases e : s[k].1 = x.1
    · rw [decide_eq_true e]
      refine List.any_eq_true.2 ⟨s[k], (hm _).1 (List.getElem_mem hk), ?_⟩
      have : x.2 ≤ s[k].2 := by unfold lt at hnl; omega
      rw [decide_eq_true e, decide_eq_true this]
      rfl
    · rw [decide_eq_false e]
      refine List.any_eq_false.2 fun f hf => ?_
      intro hc
      rw [Bool.and_eq_true, decide_eq_true_iff, decide_eq_true_iff] at hc
      obtain ⟨i, hi, ei⟩ := List.mem_iff_getElem.1 ((hm f).2 hf)
      have h1 : k ≤ i := by
        rcases Nat.lt_or_ge i k with h | h
        · have := hlo i hi h
          rw [ei] at this
          unfold lt at this
          omega
        · exact h
      have h2 : s[k] = f ∨ lt s[k] f := by
        rcases Nat.lt_or_ge k i with h | h
        · right
          rw [← ei]
          exact List.pairwise_iff_getElem.1 hs k i hk hi h
        · left
          rw [← ei]
          congr 1
          omega
      rcases h2 with h2 | h2
      · exact e (by rw [h2]; exact hc.1)
      · unfold lt at h2 hnl
        omega
  · rw [dif_neg hk]
    refine List.any_eq_false.2 fun f hf => ?_
    intro hc
    rw [Bool.and_eq_true, decide_eq_true_iff, decide_eq_true_iff] at hc
    obtain ⟨i, hi, ei⟩ := List.mem_iff_getElem.1 ((hm f).2 hf)
    have := hlo i hi (by omega)
    rw [ei] at this
    unfold lt at this
    omega
/-- All who are in the row of one of some IDs. -/
def notL (l : List Row) (of : List Id2) : List Id2 := setOf ((l.filter fun r => decide (r.1 ∈ of)).flatMap (·.2.2))
theorem notL_one {l : List Row} (h : Up l) (x : Id2) : notL l [x] = setOf (nots (get l x)) := by
  unfold notL
  refine setOf_ext fun z => ?_
  rw [List.mem_flatMap]
  constructor
  · rintro ⟨r, hr, hz⟩
    obtain ⟨h1, h2⟩ := List.mem_filter.1 hr
    have e : r.1 = x := by simpa using h2
    have := get_of_mem h h1
    rw [e] at this
    rw [this]
    exact hz
  · intro hz
    rcases hg : get l x with _ | s
    · rw [hg] at hz
      simp [nots] at hz
    · rw [hg] at hz
      exact ⟨(x, s), List.mem_filter.2 ⟨get_mem hg, by simp⟩, hz⟩
end Go.Proofs.Ytofanciaacdjfaa.RowSets
