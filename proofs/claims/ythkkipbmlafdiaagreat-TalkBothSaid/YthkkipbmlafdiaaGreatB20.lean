/-
  Contracts and plain facts.
-/
import Derived.Test.YthkkipbmlafdiaaGreatOy
import Derived.Test.YthkkipbmlafdiaaGreatB01
import Derived.Test.YthkkipbmlafdiaaGreatB19
set_option maxRecDepth 20000
namespace Go.Proofs.YthkkipbmlafdiaaGreat
namespace RowSets
open Go.Proofs.YthkkipbmlafdiaaGreat.Sets
def hd (x : Id2) : List Row → Option Row
 | [] => none
 | r :: _ => if r.1 = x then some r else none
def tl (x : Id2) : List Row → List Row
 | [] => []
 | r :: l => if r.1 = x then l else r :: l
theorem hd_cons (x : Id2) (r : Row) (l : List Row) : hd x (r :: l) = if r.1 = x then some r else none := rfl
theorem tl_cons (x : Id2) (r : Row) (l : List Row) : tl x (r :: l) = if r.1 = x then l else r :: l := rfl
def pairsL : List Id2 → List Row → List Row → List (Option Row × Option Row)
 | [], _, _ => []
 | x :: xs, a, b => (hd x a, hd x b) :: pairsL xs (tl x a) (tl x b)
def rowOf (l : List Row) (x : Id2) : Option Row := (get l x).map fun s => (x, s)
theorem hd_is {x : Id2} {xs : List Id2} {a : List Row} (ha : Up a) (hx : Rises (x :: xs)) (hs : ∀ y ∈ ids a, y ∈ x :: xs) : hd x a = rowOf a x := by
 cases a with
 | nil => rfl
 | cons r a =>
  rw [hd_cons];unfold rowOf;rw [RowSets.get];by_cases e : r.1 = x
  ·rw [if_pos e, if_pos e, ← e]
   rfl
  ·rw [if_neg e, if_neg e]
   have hr : lt x r.1 := by
    have h1 := hs r.1 (by simp [ids])
    rcases List.mem_cons.1 h1 with h2 | h2
    ·exact absurd h2 e
    ·exact (ax_.1 hx).1 _ h2
   have hn : get a x = none := get_none.2 fun hm => by
    obtain ⟨u, hu, eu⟩ := List.mem_map.1 hm;have h3 := (up_cons.1 ha).1 u hu;rw [eu] at h3;exact lt_asymm hr h3
   rw [hn];rfl
theorem tl_up {x : Id2} {a : List Row} (ha : Up a) : Up (tl x a) := by
 cases a with
 | nil => exact ha
 | cons r a =>
  rw [tl_cons];split
  ·exact (up_cons.1 ha).2
  ·exact ha
theorem tl_sub {x : Id2} {xs : List Id2} {a : List Row} (ha : Up a) (hx : Rises (x :: xs)) (hs : ∀ y ∈ ids a, y ∈ x :: xs) : ∀ y ∈ ids (tl x a), y ∈ xs := by
 cases a with
 | nil => intro y hy; simp [tl, ids] at hy
 | cons r a =>
  have h1 := hs r.1 (by simp [ids])
  rw [tl_cons];by_cases e : r.1 = x
  ·rw [if_pos e]
   intro y hy;rcases List.mem_cons.1 (hs y (List.mem_cons_of_mem _ hy)) with h2 | h2
   ·obtain ⟨u, hu, eu⟩ := List.mem_map.1 hy
    have h3 := (up_cons.1 ha).1 u hu;rw [eu, h2, e] at h3;exact absurd h3 (ap_ _)
   ·exact h2
  ·rw [if_neg e]
   have hr : lt x r.1 := by
    rcases List.mem_cons.1 h1 with h2 | h2
    ·exact absurd h2 e
    ·exact (ax_.1 hx).1 _ h2
   intro y hy;rcases List.mem_cons.1 (hs y hy) with h2 | h2
   ·rcases List.mem_cons.1 (show y ∈ r.1 :: ids a from hy) with h3 | h3
    ·exact absurd (h3.symm.trans h2) e
    ·obtain ⟨u, hu, eu⟩ := List.mem_map.1 h3
     have h4 := (up_cons.1 ha).1 u hu;rw [eu, h2] at h4;exact absurd h4 (lt_asymm hr)
   ·exact h2
theorem tl_get {x y : Id2} (h : y ≠ x) (a : List Row) : get (tl x a) y = get a y := by
 cases a with
 | nil => rfl
 | cons r a =>
  rw [tl_cons];by_cases e : r.1 = x
  ·rw [if_pos e, RowSets.get, if_neg (fun h2 => h (h2.symm.trans e))]
  ·rw [if_neg e]
theorem pairsL_is : ∀ {xs : List Id2} {a b : List Row}, Rises xs → Up a → Up b → (∀ y ∈ ids a, y ∈ xs) → (∀ y ∈ ids b, y ∈ xs) → pairsL xs a b = xs.map fun x => (rowOf a x, rowOf b x)
 | [], _, _, _, _, _, _, _ => rfl
 | x :: xs, a, b, hx, ha, hb, hsa, hsb => by
  rw [pairsL, List.map_cons, hd_is ha hx hsa, hd_is hb hx hsb, pairsL_is (ax_.1 hx).2 (tl_up ha) (tl_up hb) (tl_sub ha hx hsa) (tl_sub hb hx hsb)];congr 1
  refine List.map_congr_left fun y hy => ?_
  have hne : y ≠ x := fun e => ap_ x (by have := (ax_.1 hx).1 y hy; rwa [e] at this)
  unfold rowOf;rw [tl_get hne, tl_get hne]
def joinedO : Option Row → Option Row → Row
 | some r, none => r
 | none, some s => s
 | some r, some s => if s.2.1 < r.2.1 then r else if r.2.1 < s.2.1 then s else (r.1, r.2.1, join r.2.2 s.2.2)
 | none, none => ((0, 0), 0, [])
theorem joined_two {a b : List Row} {x : Id2} (h : x ∈ ids a ∨ x ∈ ids b) : two (get a x) (get b x) = some (joinedO (rowOf a x) (rowOf b x)).2 ∧ (joinedO (rowOf a x) (rowOf b x)).1 = x := by
 unfold rowOf;rcases ha : get a x with _ | s
 ·rcases hb : get b x with _ | t
  ·rcases h with h | h
   ·exact absurd h (get_none.1 ha)
   ·exact absurd h (get_none.1 hb)
  ·exact ⟨rfl, rfl⟩
 ·rcases hb : get b x with _ | t
  ·exact ⟨rfl, rfl⟩
  ·simp only [two, Option.map_some, joinedO]
   by_cases h1 : t.1 < s.1
   ·rw [if_pos h1, if_pos h1]; exact ⟨rfl, rfl⟩
   ·by_cases h2 : s.1 < t.1
    ·rw [if_neg h1, if_neg h1, if_pos h2, if_pos h2]; exact ⟨rfl, rfl⟩
    ·rw [if_neg h1, if_neg h1, if_neg h2, if_neg h2]; exact ⟨rfl, rfl⟩
theorem filterMap_map {f : Id2 → Option Row} {g : Id2 → Row} : ∀ {l : List Id2}, (∀ x ∈ l, f x = some (g x)) → l.filterMap f = l.map g
 | [], _ => rfl
 | x :: l, h => by
  rw [List.filterMap_cons_some (h x (List.mem_cons_self ..)), List.map_cons, filterMap_map fun y hy => h y (List.mem_cons_of_mem _ hy)]
theorem mem_pairs_sub (a b : List Row) : (∀ y ∈ ids a, y ∈ join (ids a) (ids b)) ∧ ∀ y ∈ ids b, y ∈ join (ids a) (ids b) := ⟨fun _ hy => (mem_join _ _ _).2 (.inl hy), fun _ hy => (mem_join _ _ _).2 (.inr hy)⟩
theorem joinR_pairs {a b : List Row} (ha : Up a) (hb : Up b) : (pairsL (join (ids a) (ids b)) a b).map (fun p => joinedO p.1 p.2) = joinR a b := by
 rw [pairsL_is (rises_join _ _) ha hb (mem_pairs_sub a b).1 (mem_pairs_sub a b).2, List.map_map];unfold joinR table join;rw [filterMap_map (g := fun x => joinedO (rowOf a x) (rowOf b x))]
 ·rfl
 ·intro x hx
  have hm := (mem_setOf _ _).1 hx;obtain ⟨h1, h2⟩ := joined_two (List.mem_append.1 hm);show (two (get a x) (get b x)).map (fun s => (x, s)) = _
  rw [h1];show some (x, (joinedO (rowOf a x) (rowOf b x)).2) = _
  congr 1
  exact Prod.ext h2.symm rfl
theorem pairs_some {a b : List Row} (ha : Up a) (hb : Up b) : ∀ p ∈ pairsL (join (ids a) (ids b)) a b, p.1 ≠ none ∨ p.2 ≠ none := by
 rw [pairsL_is (rises_join _ _) ha hb (mem_pairs_sub a b).1 (mem_pairs_sub a b).2];intro p hp;obtain ⟨x, hx, rfl⟩ := List.mem_map.1 hp;rcases (mem_join _ _ _).1 hx with h | h
 ·obtain ⟨s, hs⟩ := get_some h
  exact .inl (by simp [rowOf, hs])
 ·obtain ⟨s, hs⟩ := get_some h
  exact .inr (by simp [rowOf, hs])
def insertG (r : Row) : List Row → List Row
 | [] => [r]
 | u :: l => if lt u.1 r.1 then u :: insertG r l else r :: u :: l
def changeG (x : Id2) (s : Says) : List Row → List Row
 | [] => []
 | u :: l => if u.1 = x then (x, s) :: l else u :: changeG x s l
def setG (l : List Row) (of : Id2) (not : List Id2) : List Row :=
 match get l of with
 | none => if del not of = [] then l else insertG (of, 1, del not of) l
 | some s => if setOf s.2 = del not of then l else changeG of (s.1 + 1, del not of) l
theorem place_insert {r : Row} : ∀ {l : List Row}, r.1 ∉ ids l → place r l = insertG r l
 | [], _ => rfl
 | u :: l, h => by
  have h1 : u.1 ≠ r.1 := fun e => h (by simp [ids, e])
  have h2 : r.1 ∉ ids l := fun hm => h (List.mem_cons_of_mem _ hm)
  rw [place, insertG, if_neg h1, place_insert h2]
theorem place_change {x : Id2} {s : Says} : ∀ {l : List Row}, Up l → x ∈ ids l → place (x, s) l = changeG x s l
 | [], _, h => by simp [ids] at h
 | u :: l, hl, h => by
  rw [place, changeG];by_cases e : u.1 = x
  ·rw [if_pos e, if_pos e]
  ·have h2 : x ∈ ids l := by
    rcases List.mem_cons.1 (show x ∈ u.1 :: ids l from h) with h | h
    ·exact absurd h.symm e
    ·exact h
   have h3 : lt u.1 x := by
    obtain ⟨v, hv, ev⟩ := List.mem_map.1 h2;rw [← ev];exact (up_cons.1 hl).1 v hv
   rw [if_neg e, if_neg e, if_pos h3, place_change (up_cons.1 hl).2 h2]
theorem setG_up {l : List Row} (of : Id2) (not : List Id2) (h : Up l) : setG l of not = setR l of not := by
 unfold setG setR;rcases hg : get l of with _ | s
 ·show (if del not of = [] then l else insertG (of, 1, del not of) l) = if setOf (nots none) = wanted of not then l else place (of, vers none + 1, wanted of not) l
  by_cases e : del not of = []
  ·rw [if_pos e, if_pos (show setOf (nots none) = wanted of not from e.symm)]
  ·rw [if_neg e, if_neg (fun h2 : setOf (nots none) = wanted of not => e h2.symm), place_insert (get_none.1 hg)]
   rfl
 ·show (if setOf s.2 = del not of then l else changeG of (s.1 + 1, del not of) l) = if setOf (nots (some s)) = wanted of not then l else place (of, vers (some s) + 1, wanted of not) l
  have hm : of ∈ ids l := List.mem_map_of_mem (get_mem hg)
  by_cases e : setOf s.2 = del not of
  ·rw [if_pos e, if_pos (show setOf (nots (some s)) = wanted of not from e)]
  ·rw [if_neg e, if_neg (show ¬ setOf (nots (some s)) = wanted of not from e), place_change h hm]
   rfl
theorem rem_next {fl : List Id2} {s : List Id2} (hs : Rises s) (hm : ∀ z, z ∈ s ↔ z ∈ fl) {x : Id2} {k : Nat} (hlo : ∀ i (h : i < s.length), i < k → lt s[i] x) (hhi : ∀ i (h : i < s.length), k ≤ i → ¬ lt s[i] x) :
  rem fl x = if h : k < s.length then decide (s[k].1 = x.1) else false := by
 by_cases hk : k < s.length
 ·rw [dif_pos hk]
  have hnl := hhi k hk (Nat.le_refl _);by_cases e : s[k].1 = x.1
  ·rw [decide_eq_true e]
   refine List.any_eq_true.2 ⟨s[k], (hm _).1 (List.getElem_mem hk), ?_⟩
   have : x.2 ≤ s[k].2 := by unfold lt at hnl; omega
   rw [decide_eq_true e, decide_eq_true this];rfl
  ·rw [decide_eq_false e]
   refine List.any_eq_false.2 fun f hf => ?_
   intro hc;rw [Bool.and_eq_true, decide_eq_true_iff, decide_eq_true_iff] at hc;obtain ⟨i, hi, ei⟩ := List.mem_iff_getElem.1 ((hm f).2 hf)
   have h1 : k ≤ i := by
    rcases Nat.lt_or_ge i k with h | h
    ·have := hlo i hi h
     rw [ei] at this;unfold lt at this;omega
    ·exact h
   have h2 : s[k] = f ∨ lt s[k] f := by
    rcases Nat.lt_or_ge k i with h | h
    ·right
     rw [← ei];exact List.pairwise_iff_getElem.1 hs k i hk hi h
    ·left
     rw [← ei];congr 1
     omega
   rcases h2 with h2 | h2
   ·exact e (by rw [h2]; exact hc.1)
   ·unfold lt at h2 hnl
    omega
 ·rw [dif_neg hk]
  refine List.any_eq_false.2 fun f hf => ?_
  intro hc;rw [Bool.and_eq_true, decide_eq_true_iff, decide_eq_true_iff] at hc;obtain ⟨i, hi, ei⟩ := List.mem_iff_getElem.1 ((hm f).2 hf);have := hlo i hi (by omega)
  rw [ei] at this;unfold lt at this;omega
end RowSets
section
open Go Go.RowKit Sets RowSets
def PRaw (w : World) (p : Option Addr) (q : Raw) : Prop := ∃ ad, p = some ad ∧ ad.block < w.heap.size ∧ w.cell? ad = some (.int .i64 q.1.1) ∧ w.cell? ⟨ad.block, ad.off + 1, none⟩ = some (.int .i64 q.1.2) ∧ w.cell? ⟨ad.block, ad.off + 2, none⟩ = some (.int .i64 q.2.1) ∧ w.cell? ⟨ad.block, ad.off + 3, none⟩ = some (.slice q.2.2.1 q.2.2.2.1 q.2.2.2.2)
theorem PRaw.below {w w' : World} {p : Option Addr} {q : Raw} (h : PRaw w p q) (hb : Below w.heap.size w w') : PRaw w' p q := by
 obtain ⟨ad, rfl, h1, c1, c2, c3, c4⟩ := h;exact ⟨ad, rfl, Nat.lt_of_lt_of_le h1 hb.size, (hb.cell h1).trans c1, (hb.cell (by show ad.block < _; exact h1)).trans c2, (hb.cell (by show ad.block < _; exact h1)).trans c3, (hb.cell (by show ad.block < _; exact h1)).trans c4⟩
def PRow (w : World) (p : Option Addr) : Option Row → Prop
 | none => p = none
 | some r => ∃ q, PRaw w p q ∧ Reads w q r
theorem PRow.below {w w' : World} {p : Option Addr} {o : Option Row} (h : PRow w p o) (hb : Below w.heap.size w w') : PRow w' p o := by
 cases o with
 | none => exact h
 | some r =>
  obtain ⟨q, h1, h2⟩ := h;exact ⟨q, h1.below hb, h2.below hb⟩
def GivesRow (r : Row) (w : World) (e : Ending) (w' : World) : Prop := ∃ B m c, e = .returned (.agg #[.int .i64 r.1.1, .int .i64 r.1.2, .int .i64 r.2.1, .slice B m c]) ∧ OwnsI w' w.heap.size (.slice B m c) r.2.2 ∧ Below w.heap.size w w'
theorem copied_gives (q : Raw) (r : Row) (w : World) (h : Reads w q r) (hl : r.2.2.length ≤ 100000) :
  Calls Tryz.prog 153 #[.agg #[.int .i64 q.1.1, .int .i64 q.1.2, .int .i64 q.2.1, .slice q.2.2.1 q.2.2.2.1 q.2.2.2.2]] w fun e w' => ∃ B m c, e = .returned (.agg #[.int .i64 r.1.1, .int .i64 r.1.2, .int .i64 r.2.1, .slice B m c]) ∧ OwnsI w' w.heap.size (.slice B m c) r.2.2 ∧ Below w.heap.size w w' := by
 rw [← h.1, ← h.2.1];exact copied_any q.1.1 q.1.2 q.2.1 q.2.2.1 q.2.2.2.1 q.2.2.2.2 r.2.2 w h.2.2 hl
set_option maxHeartbeats 2000000 in
theorem joined_left (px : Option Addr) (r : Row) (w : World) (h1 : PRow w px (some r)) (hl : r.2.2.length ≤ 100000) :
  Calls Tryz.prog 126 #[.pointer px, .pointer none] w (GivesRow r w) := by
 have B0 := hd_ (ad_ w (.cells #[.int .i64 0, .int .i64 0, .int .i64 0, .slice none 0 0] 68));have X0 := hd_ (av_ w 0 0 0 (.slice none 0 0));obtain ⟨q, hp, hr⟩ := h1;have HR := hd_ hr;obtain ⟨ad, rfl, hb0, c1, c2, c3, c4⟩ := hp.below B0.out;have HC := hd_ fun W (hb : Below w.heap.size w W) => copied_gives q r W (HR.out.below hb) hl
 clear hr hp hb0;generalize q.1.1 = a at *;generalize q.1.2 = i at *;generalize q.2.1 = n at *;generalize q.2.2.1 = A at *;generalize q.2.2.2.1 = m at *;generalize q.2.2.2.2 = c at *;clear HR;go_enter Tryz.func126, Tryz.ntmps126
 go_wp2_with fail;go_quiet (fail)
 have B1 := hd_ (below_drewN (n := nq) B0.out);have X1 := hd_ (show WBox ((w.alloc (.cells #[.int .i64 0, .int .i64 0, .int .i64 0, .slice none 0 0] 68)).drewN nq) w.heap.size 0 0 0 (.slice none 0 0) from X0.out)
 go_wp2_with fail;(with_reducible refine (HC.out _ B1.out).mono ?_)
 rintro e w2 ⟨B, m', c', rfl, ho, hb⟩;have B2 := hd_ (ba_ B1.out hb);have X2 := hd_ (ay_ X1.out hb);have O2 := hd_ (ho.mono (show w.heap.size + 1 ≤ _ by simp [World.drewN]))
 clear ho hb c1 c2 c3 c4;obtain ⟨y1, y2, y3, y4⟩ := ai_ X2.out;obtain ⟨f1, f2, f3, f4⟩ := wbox_free X2.out;have X3 := hd_ (wbox_set X2.out r.1.1 r.1.2 r.2.1 (.slice B m' c'));have B3 := hd_ (below_set4 (g := w.heap.size) B2.out (Nat.le_refl _) (.int .i64 r.1.1) (.int .i64 r.1.2) (.int .i64 r.2.1) (.slice B m' c'));have O3 := hd_ (O2.out.grown (grown_set4 (World.grownBy.refl _ (some w.heap.size)) (.int .i64 r.1.1) (.int .i64 r.1.2) (.int .i64 r.2.1) (.slice B m' c')) (ownsR_ne O2.out (by omega)))
 go_wp2_with fail;obtain ⟨q0, q1, q2, q3⟩ := ai_ X3.out;refine bodyPost_ret (v := .agg #[.int .i64 r.1.1, .int .i64 r.1.2, .int .i64 r.2.1, .slice B m' c']) (by simp [results, Tryz.results126, go_sem, q0, q1, q2, q3]) rfl ?_
 exact ⟨B, m', c', rfl, O3.out.mono (by omega), B3.out⟩
set_option maxHeartbeats 2000000 in
theorem joined_right (px : Option Addr) (r : Row) (w : World) (h1 : PRow w px (some r)) (hl : r.2.2.length ≤ 100000) :
  Calls Tryz.prog 126 #[.pointer none, .pointer px] w (GivesRow r w) := by
 have B0 := hd_ (ad_ w (.cells #[.int .i64 0, .int .i64 0, .int .i64 0, .slice none 0 0] 68));have X0 := hd_ (av_ w 0 0 0 (.slice none 0 0));obtain ⟨q, hp, hr⟩ := h1;have HR := hd_ hr;obtain ⟨ad, rfl, hb0, c1, c2, c3, c4⟩ := hp.below B0.out;have HC := hd_ fun W (hb : Below w.heap.size w W) => copied_gives q r W (HR.out.below hb) hl
 clear hr hp hb0;generalize q.1.1 = a at *;generalize q.1.2 = i at *;generalize q.2.1 = n at *;generalize q.2.2.1 = A at *;generalize q.2.2.2.1 = m at *;generalize q.2.2.2.2 = c at *;clear HR;go_enter Tryz.func126, Tryz.ntmps126
 go_wp2_with fail;go_quiet (fail)
 generalize nq = n0;go_wp2_with fail;go_quiet (fail)
 have B1 := hd_ (below_drewN (n := n0 + nq) B0.out);have X1 := hd_ (show WBox ((w.alloc (.cells #[.int .i64 0, .int .i64 0, .int .i64 0, .slice none 0 0] 68)).drewN (n0 + nq)) w.heap.size 0 0 0 (.slice none 0 0) from X0.out)
 go_wp2_with fail;(with_reducible refine (HC.out _ B1.out).mono ?_)
 rintro e w2 ⟨B, m', c', rfl, ho, hb⟩;have B2 := hd_ (ba_ B1.out hb);have X2 := hd_ (ay_ X1.out hb);have O2 := hd_ (ho.mono (show w.heap.size + 1 ≤ _ by simp [World.drewN]))
 clear ho hb c1 c2 c3 c4;obtain ⟨y1, y2, y3, y4⟩ := ai_ X2.out;obtain ⟨f1, f2, f3, f4⟩ := wbox_free X2.out;have X3 := hd_ (wbox_set X2.out r.1.1 r.1.2 r.2.1 (.slice B m' c'));have B3 := hd_ (below_set4 (g := w.heap.size) B2.out (Nat.le_refl _) (.int .i64 r.1.1) (.int .i64 r.1.2) (.int .i64 r.2.1) (.slice B m' c'));have O3 := hd_ (O2.out.grown (grown_set4 (World.grownBy.refl _ (some w.heap.size)) (.int .i64 r.1.1) (.int .i64 r.1.2) (.int .i64 r.2.1) (.slice B m' c')) (ownsR_ne O2.out (by omega)))
 go_wp2_with fail;obtain ⟨q0, q1, q2, q3⟩ := ai_ X3.out;refine bodyPost_ret (v := .agg #[.int .i64 r.1.1, .int .i64 r.1.2, .int .i64 r.2.1, .slice B m' c']) (by simp [results, Tryz.results126, go_sem, q0, q1, q2, q3]) rfl ?_
 exact ⟨B, m', c', rfl, O3.out.mono (by omega), B3.out⟩
set_option maxHeartbeats 4000000 in
theorem joined_more (px py : Option Addr) (r s : Row) (w : World) (h1 : PRow w px (some r)) (h2 : PRow w py (some s)) (hl : r.2.2.length ≤ 100000) (hv : s.2.1 < r.2.1) :
  Calls Tryz.prog 126 #[.pointer px, .pointer py] w (GivesRow r w) := by
 have B0 := hd_ (ad_ w (.cells #[.int .i64 0, .int .i64 0, .int .i64 0, .slice none 0 0] 68));have X0 := hd_ (av_ w 0 0 0 (.slice none 0 0));obtain ⟨q, hp, hr⟩ := h1;obtain ⟨q', hp', hr'⟩ := h2;have HR := hd_ hr;have e1 : q.2.1 = r.2.1 := hr.2.1
 have e2 : q'.2.1 = s.2.1 := hr'.2.1
 obtain ⟨ad, rfl, hb0, c1, c2, c3, c4⟩ := hp.below B0.out;obtain ⟨ae, rfl, hb0', d1, d2, d3, d4⟩ := hp'.below B0.out;have HC := hd_ fun W (hb : Below w.heap.size w W) => copied_gives q r W (HR.out.below hb) hl
 clear hr hp hb0 hr' hp' hb0' HR;generalize q.1.1 = a1 at *;generalize q.1.2 = i1 at *;generalize q.2.1 = n1 at *;generalize q.2.2.1 = A1 at *;generalize q.2.2.2.1 = m1 at *;generalize q.2.2.2.2 = k1 at *;generalize q'.1.1 = a2 at *;generalize q'.1.2 = i2 at *;generalize q'.2.1 = n2 at *;generalize q'.2.2.1 = A2 at *;generalize q'.2.2.2.1 = m2 at *;generalize q'.2.2.2.2 = k2 at *;have hd : decide (n2 < n1) = true := decide_eq_true (by rw [e1, e2]; exact hv)
 clear e1 e2;go_enter Tryz.func126, Tryz.ntmps126
 go_wp2_with fail;go_quiet (fail)
 have B1 := hd_ (below_drewN (n := nq) B0.out);have X1 := hd_ (show WBox ((w.alloc (.cells #[.int .i64 0, .int .i64 0, .int .i64 0, .slice none 0 0] 68)).drewN nq) w.heap.size 0 0 0 (.slice none 0 0) from X0.out)
 go_wp2_with fail;(with_reducible refine (HC.out _ B1.out).mono ?_)
 rintro e w2 ⟨B, m', c', rfl, ho, hb⟩;have B2 := hd_ (ba_ B1.out hb);have X2 := hd_ (ay_ X1.out hb);have O2 := hd_ (ho.mono (show w.heap.size + 1 ≤ _ by simp [World.drewN]))
 clear ho hb c1 c2 c3 c4 d1 d2 d3 d4;obtain ⟨y1, y2, y3, y4⟩ := ai_ X2.out;obtain ⟨f1, f2, f3, f4⟩ := wbox_free X2.out;have X3 := hd_ (wbox_set X2.out r.1.1 r.1.2 r.2.1 (.slice B m' c'));have B3 := hd_ (below_set4 (g := w.heap.size) B2.out (Nat.le_refl _) (.int .i64 r.1.1) (.int .i64 r.1.2) (.int .i64 r.2.1) (.slice B m' c'));have O3 := hd_ (O2.out.grown (grown_set4 (World.grownBy.refl _ (some w.heap.size)) (.int .i64 r.1.1) (.int .i64 r.1.2) (.int .i64 r.2.1) (.slice B m' c')) (ownsR_ne O2.out (by omega)))
 go_wp2_with fail;obtain ⟨q0, q1, q2, q3⟩ := ai_ X3.out;refine bodyPost_ret (v := .agg #[.int .i64 r.1.1, .int .i64 r.1.2, .int .i64 r.2.1, .slice B m' c']) (by simp [results, Tryz.results126, go_sem, q0, q1, q2, q3]) rfl ?_
 exact ⟨B, m', c', rfl, O3.out.mono (by omega), B3.out⟩
set_option maxHeartbeats 4000000 in
theorem joined_less (px py : Option Addr) (r s : Row) (w : World) (h1 : PRow w px (some s)) (h2 : PRow w py (some r)) (hl : r.2.2.length ≤ 100000) (hv : s.2.1 < r.2.1) :
  Calls Tryz.prog 126 #[.pointer px, .pointer py] w (GivesRow r w) := by
 have B0 := hd_ (ad_ w (.cells #[.int .i64 0, .int .i64 0, .int .i64 0, .slice none 0 0] 68));have X0 := hd_ (av_ w 0 0 0 (.slice none 0 0));obtain ⟨q, hp, hr⟩ := h1;obtain ⟨q', hp', hr'⟩ := h2;have HR := hd_ hr';have e1 : q.2.1 = s.2.1 := hr.2.1
 have e2 : q'.2.1 = r.2.1 := hr'.2.1
 obtain ⟨ad, rfl, hb0, c1, c2, c3, c4⟩ := hp.below B0.out;obtain ⟨ae, rfl, hb0', d1, d2, d3, d4⟩ := hp'.below B0.out;have HC := hd_ fun W (hb : Below w.heap.size w W) => copied_gives q' r W (HR.out.below hb) hl
 clear hr hp hb0 hr' hp' hb0' HR;generalize q.1.1 = a1 at *;generalize q.1.2 = i1 at *;generalize q.2.1 = n1 at *;generalize q.2.2.1 = A1 at *;generalize q.2.2.2.1 = m1 at *;generalize q.2.2.2.2 = k1 at *;generalize q'.1.1 = a2 at *;generalize q'.1.2 = i2 at *;generalize q'.2.1 = n2 at *;generalize q'.2.2.1 = A2 at *;generalize q'.2.2.2.1 = m2 at *;generalize q'.2.2.2.2 = k2 at *;have hd : decide (n2 < n1) = false := decide_eq_false (by rw [e1, e2]; omega)
 have hd2 : decide (n1 < n2) = true := decide_eq_true (by rw [e1, e2]; exact hv)
 clear e1 e2;go_enter Tryz.func126, Tryz.ntmps126
 go_wp2_with fail;go_quiet (fail)
 generalize nq = n0;go_wp2_with fail;go_quiet (fail)
 have B1 := hd_ (below_drewN (n := n0 + nq) B0.out);have X1 := hd_ (show WBox ((w.alloc (.cells #[.int .i64 0, .int .i64 0, .int .i64 0, .slice none 0 0] 68)).drewN (n0 + nq)) w.heap.size 0 0 0 (.slice none 0 0) from X0.out)
 go_wp2_with fail;(with_reducible refine (HC.out _ B1.out).mono ?_)
 rintro e w2 ⟨B, m', c', rfl, ho, hb⟩;have B2 := hd_ (ba_ B1.out hb);have X2 := hd_ (ay_ X1.out hb);have O2 := hd_ (ho.mono (show w.heap.size + 1 ≤ _ by simp [World.drewN]))
 clear ho hb c1 c2 c3 c4 d1 d2 d3 d4;obtain ⟨y1, y2, y3, y4⟩ := ai_ X2.out;obtain ⟨f1, f2, f3, f4⟩ := wbox_free X2.out;have X3 := hd_ (wbox_set X2.out r.1.1 r.1.2 r.2.1 (.slice B m' c'));have B3 := hd_ (below_set4 (g := w.heap.size) B2.out (Nat.le_refl _) (.int .i64 r.1.1) (.int .i64 r.1.2) (.int .i64 r.2.1) (.slice B m' c'));have O3 := hd_ (O2.out.grown (grown_set4 (World.grownBy.refl _ (some w.heap.size)) (.int .i64 r.1.1) (.int .i64 r.1.2) (.int .i64 r.2.1) (.slice B m' c')) (ownsR_ne O2.out (by omega)))
 go_wp2_with fail;obtain ⟨q0, q1, q2, q3⟩ := ai_ X3.out;refine bodyPost_ret (v := .agg #[.int .i64 r.1.1, .int .i64 r.1.2, .int .i64 r.2.1, .slice B m' c']) (by simp [results, Tryz.results126, go_sem, q0, q1, q2, q3]) rfl ?_
 exact ⟨B, m', c', rfl, O3.out.mono (by omega), B3.out⟩
set_option maxHeartbeats 4000000 in
theorem joined_equal (px py : Option Addr) (r s : Row) (w : World) (h1 : PRow w px (some r)) (h2 : PRow w py (some s)) (hl : r.2.2.length ≤ 20000) (hl2 : s.2.2.length ≤ 20000) (hv : s.2.1 = r.2.1) :
  Calls Tryz.prog 126 #[.pointer px, .pointer py] w (GivesRow ((r.1.1, r.1.2), r.2.1, join r.2.2 s.2.2) w) := by
 have B0 := hd_ (ad_ w (.cells #[.int .i64 0, .int .i64 0, .int .i64 0, .slice none 0 0] 68));have X0 := hd_ (av_ w 0 0 0 (.slice none 0 0));obtain ⟨q, hp, hr⟩ := h1;obtain ⟨q', hp', hr'⟩ := h2;have HR := hd_ hr;have HR' := hd_ hr'
 have e1 : q.2.1 = r.2.1 := hr.2.1
 have e2 : q'.2.1 = r.2.1 := by rw [hr'.2.1, hv]
 have e3 : q.1.1 = r.1.1 := by rw [hr.1]
 have e4 : q.1.2 = r.1.2 := by rw [hr.1]
 have HP := hd_ hp;have HP' := hd_ hp'
 obtain ⟨ad, rfl, hb0, c1, c2, c3, c4⟩ := hp.below B0.out;obtain ⟨ae, rfl, hb0', d1, d2, d3, d4⟩ := hp'.below B0.out;have HS := hd_ fun w' (hb : Below w.heap.size w w') => And.intro (HP.out.below hb) (And.intro (HP'.out.below hb) (hd_ hb))
 have HC := hd_ fun W (hb : Below w.heap.size w W) => join_new (.slice q.2.2.1 q.2.2.2.1 q.2.2.2.2) (.slice q'.2.2.1 q'.2.2.2.1 q'.2.2.2.2) r.2.2 s.2.2 W (show Ids W _ _ from HR.out.2.2.below hb) (show Ids W _ _ from HR'.out.2.2.below hb) (by omega) (by omega)
 clear hr hp hb0 hr' hp' hb0' HR HR';rw [e1] at c3;rw [e2] at d3;rw [e3] at c1;rw [e4] at c2
 have HF := hd_ fun w' (hb : Below w.heap.size w w') => (show (w'.cell? ad = some (.int .i64 r.1.1) ∧ w'.cell? ⟨ad.block, ad.off + 1, none⟩ = some (.int .i64 r.1.2) ∧ w'.cell? ⟨ad.block, ad.off + 2, none⟩ = some (.int .i64 r.2.1) ∧ w'.cell? ⟨ad.block, ad.off + 3, none⟩ = some (.slice q.2.2.1 q.2.2.2.1 q.2.2.2.2)) ∧ (w'.cell? ae = some (.int .i64 q'.1.1) ∧ w'.cell? ⟨ae.block, ae.off + 1, none⟩ = some (.int .i64 q'.1.2) ∧ w'.cell? ⟨ae.block, ae.off + 2, none⟩ = some (.int .i64 r.2.1) ∧ w'.cell? ⟨ae.block, ae.off + 3, none⟩ = some (.slice q'.2.2.1 q'.2.2.2.1 q'.2.2.2.2)) ∧ Hid (Below w.heap.size w w') from by
  obtain ⟨⟨x, ex, _, x1, x2, x3, x4⟩, ⟨y, ey, _, y1, y2, y3, y4⟩, hh⟩ := HS.out w' hb;injection ex with ex
  injection ey with ey
  subst ex ey;rw [← e1, ← e3, ← e4];refine ⟨⟨x1, x2, x3, x4⟩, ⟨y1, y2, ?_, y4⟩, hh⟩
  rw [e1, ← e2];exact y3)
 clear HS HP HP' e1 e2 e3 e4;generalize q.2.2.1 = A1 at *;generalize q.2.2.2.1 = m1 at *;generalize q.2.2.2.2 = k1 at *;generalize q'.1.1 = a2 at *;generalize q'.1.2 = i2 at *;generalize q'.2.2.1 = A2 at *;generalize q'.2.2.2.1 = m2 at *;generalize q'.2.2.2.2 = k2 at *;generalize r.1.1 = a1 at *;generalize r.1.2 = i1 at *;generalize r.2.1 = n at *;have hd : decide (n < n) = false := decide_eq_false (by omega)
 go_enter Tryz.func126, Tryz.ntmps126
 go_wp2_with fail;go_quiet (fail)
 generalize nq = n0;go_wp2_with fail;go_quiet (fail)
 have B1 := hd_ (below_drewN (n := nq) (below_drewN (n := n0) B0.out));have X1 := hd_ (show WBox (((w.alloc (.cells #[.int .i64 0, .int .i64 0, .int .i64 0, .slice none 0 0] 68)).drewN n0).drewN nq) w.heap.size 0 0 0 (.slice none 0 0) from X0.out)
 have Z1 := hd_ (show w.heap.size + 1 ≤ (((w.alloc (.cells #[.int .i64 0, .int .i64 0, .int .i64 0, .slice none 0 0] 68)).drewN n0).drewN nq).heap.size by simp [World.drewN])
 go_wp2_with fail;refine wp_region_held_drew (S := fun w' => (w'.cell? ad = some (.int .i64 a1) ∧ w'.cell? ⟨ad.block, ad.off + 1, none⟩ = some (.int .i64 i1) ∧ w'.cell? ⟨ad.block, ad.off + 2, none⟩ = some (.int .i64 n) ∧ w'.cell? ⟨ad.block, ad.off + 3, none⟩ = some (.slice A1 m1 k1)) ∧ (w'.cell? ae = some (.int .i64 a2) ∧ w'.cell? ⟨ae.block, ae.off + 1, none⟩ = some (.int .i64 i2) ∧ w'.cell? ⟨ae.block, ae.off + 2, none⟩ = some (.int .i64 n) ∧ w'.cell? ⟨ae.block, ae.off + 3, none⟩ = some (.slice A2 m2 k2)) ∧ Hid (Below w.heap.size w w')) (by kernel_rfl) ?_ (fun hHeld => ?_)
 ·exact HF.out _ B1.out.drew
 refine ty_ 0 ?_;refine ty_ 1 ?_;refine ty_ 2 ?_;refine ty_ 3 ?_;refine ty_ 4 ?_;refine ty_ 5 ?_;refine ty_ 6 ?_;refine ty_ 7 ?_;refine ty_ 8 ?_;refine ty_ 9 ?_;refine ty_ 10 ?_;refine ty_ 11 ?_;refine ty_ 12 ?_;refine ty_ 13 ?_;refine ty_ 14 ?_;refine ty_ 15 ?_;(try simp only [Act.put, si0, si1, si2]);refine a1_ 16 fun Kq hKq => ?_;go_simp;clear hHeld;go_at_call 128; (with_reducible refine (HC.out _ (below_drewN (n := n0 + nq + 1) B0.out)).mono ?_); rintro e w2 ⟨v2, rfl, ho, hb⟩; have B2 := hd_ (ah_ (below_drewN (n := n0 + nq + 1) B0.out) hb (Nat.le_refl _)); have X2 := hd_ (ay_ (show WBox ((w.alloc (.cells #[.int .i64 0, .int .i64 0, .int .i64 0, .slice none 0 0] 68)).drewN (n0 + nq + 1)) w.heap.size 0 0 0 (.slice none 0 0) from X0.out) hb); have O2 := hd_ ((ownsI_of ho).mono (show w.heap.size + 1 ≤ _ by simp [World.drewN])); have HK := hd_ B2.out; clear hb ho; obtain ⟨B, m', c', rfl⟩ := slice_of_owns O2.out
 refine hKq.out _ _ ?_ (fun hHeld => ?_)
 ·(try dsimp only); exact HF.out _ HK.out
 clear hKq Kq;(try simp only [Act.put, si0, si1, si2]);refine ty_ 17 ?_;(try simp only [Act.put, si0, si1, si2]);refine a1_ 18 fun Kq hKq => ?_;obtain ⟨y1, y2, y3, y4⟩ := ai_ X2.out;obtain ⟨f1, f2, f3, f4⟩ := wbox_free X2.out;go_simp;clear hHeld;have X3 := hd_ (wbox_set X2.out a1 i1 n (.slice B m' c')); have B3 := hd_ (below_set4 (g := w.heap.size) B2.out (Nat.le_refl _) (.int .i64 a1) (.int .i64 i1) (.int .i64 n) (.slice B m' c')); have O3 := hd_ (O2.out.grown (grown_set4 (World.grownBy.refl _ (some w.heap.size)) (.int .i64 a1) (.int .i64 i1) (.int .i64 n) (.slice B m' c')) (ownsR_ne O2.out (by omega))); have HK := hd_ B3.out; clear y1 y2 y3 y4 f1 f2 f3 f4
 refine hKq.out _ _ ?_ (fun hHeld => ?_)
 ·(try dsimp only); exact HF.out _ HK.out
 clear hKq Kq;(try simp only [Act.put, si0, si1, si2]);refine wd_ ?_;go_wp2_with fail;obtain ⟨q0, q1, q2, q3⟩ := ai_ X3.out;refine bodyPost_ret (v := .agg #[.int .i64 a1, .int .i64 i1, .int .i64 n, .slice B m' c']) (by simp [results, Tryz.results126, go_sem, q0, q1, q2, q3]) rfl ?_
 exact ⟨B, m', c', rfl, O3.out.mono (by omega), B3.out⟩
end
end Go.Proofs.YthkkipbmlafdiaaGreat
