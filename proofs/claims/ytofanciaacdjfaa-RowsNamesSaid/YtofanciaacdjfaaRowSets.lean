/-
  Plain mathematics of rows: lists of an ID, a version and whom it does not reach; joined, without those that are removed, set. Nothing of the program; no statement is proved in this text.
  For a seat: put the seat's Name for Ytofanciaacdjfaa; Sets.lean stands beside it.
-/
import Derived.Test.YtofanciaacdjfaaSets
namespace Go.Proofs.Ytofanciaacdjfaa.RowSets
open Go.Proofs.Ytofanciaacdjfaa.Sets
/-- What a row says: its version, and whom its ID does not reach. -/
abbrev Says := Int × List Id2
abbrev Row := Id2 × Says
/-- The row of an ID: the first one. -/
def get : List Row → Id2 → Option Says
  | [], _ => none
  | r :: l, x => if r.1 = x then some r.2 else get l x
/-- The IDs of rows. -/
def ids (l : List Row) : List Id2 := l.map (·.1)
theorem get_none {l : List Row} {x : Id2} : get l x = none ↔ x ∉ ids l := by
  induction l with
  | nil => simp [get, ids]
  | cons r l ih =>
    rw [get]
    by_cases e : r.1 = x
    · rw [if_pos e]
      simp [ids, e]
    · rw [if_neg e, ih]
      unfold ids
      rw [List.map_cons, List.mem_cons, not_or]
      exact ⟨fun h => ⟨fun k => e k.symm, h⟩, fun h => h.2⟩
theorem get_mem {l : List Row} {x : Id2} {s : Says} (h : get l x = some s) : (x, s) ∈ l := by
  induction l with
  | nil => simp [get] at h
  | cons r l ih =>
    rw [get] at h
    by_cases e : r.1 = x
    · rw [if_pos e] at h
      rw [← Option.some.inj h, ← e]
      exact List.mem_cons_self ..
    · rw [if_neg e] at h
      exact List.mem_cons_of_mem _ (ih h)
theorem get_some {l : List Row} {x : Id2} (h : x ∈ ids l) : ∃ s, get l x = some s := by
  rcases hg : get l x with _ | s
  · exact absurd h (get_none.1 hg)
  · exact ⟨s, rfl⟩
/-- Rows whose IDs rise. -/
def Up (l : List Row) : Prop := Rises (ids l)
theorem up_nil : Up [] := rises_nil
theorem up_cons {r : Row} {l : List Row} : Up (r :: l) ↔ (∀ u ∈ l, lt r.1 u.1) ∧ Up l := by
  unfold Up ids
  rw [List.map_cons, rises_cons]
  constructor
  · rintro ⟨h1, h2⟩
    exact ⟨fun u hu => h1 _ (List.mem_map_of_mem hu), h2⟩
  · rintro ⟨h1, h2⟩
    exact ⟨fun y hy => by obtain ⟨u, hu, rfl⟩ := List.mem_map.1 hy; exact h1 u hu, h2⟩
theorem get_of_mem {l : List Row} (h : Up l) {r : Row} (hr : r ∈ l) : get l r.1 = some r.2 := by
  induction l with
  | nil => cases hr
  | cons u l ih =>
    obtain ⟨h1, h2⟩ := up_cons.1 h
    rw [get]
    rcases List.mem_cons.1 hr with rfl | hr
    · rw [if_pos rfl]
    · rw [if_neg (fun e => absurd (e ▸ h1 r hr) (lt_irrefl _))]
      exact ih h2 hr
theorem mem_iff_get {l : List Row} (h : Up l) (r : Row) : r ∈ l ↔ get l r.1 = some r.2 := ⟨get_of_mem h, fun e => by have := get_mem e; exact this⟩
/-- Rows that rise and say the same are the same. -/
theorem up_ext : ∀ {a b : List Row}, Up a → Up b → (∀ x, get a x = get b x) → a = b
  | [], [], _, _, _ => rfl
  | [], u :: b, _, hb, h => by
    have := h u.1
    rw [get_of_mem hb (List.mem_cons_self ..)] at this
    simp [get] at this
  | r :: a, [], ha, _, h => by
    have := h r.1
    rw [get_of_mem ha (List.mem_cons_self ..)] at this
    simp [get] at this
  | r :: a, u :: b, ha, hb, h => by
    obtain ⟨a1, a2⟩ := up_cons.1 ha
    obtain ⟨b1, b2⟩ := up_cons.1 hb
    have hm : ∀ v, v ∈ r :: a ↔ v ∈ u :: b := fun v => by rw [mem_iff_get ha, mem_iff_get hb, h]
    have e : r = u := by
      rcases List.mem_cons.1 ((hm r).1 (List.mem_cons_self ..)) with e | e
      · exact e
      · rcases List.mem_cons.1 ((hm u).2 (List.mem_cons_self ..)) with e2 | e2
        · exact e2.symm
        · exact absurd (a1 u e2) (lt_asymm (b1 r e))
    subst e
    congr 1
    refine up_ext a2 b2 fun x => ?_
    have hx := h x
    rw [get, get] at hx
    by_cases e : r.1 = x
    · subst e
      rw [get_none.2 fun hi => ?_, get_none.2 fun hi => ?_]
      · obtain ⟨v, hv, e⟩ := List.mem_map.1 hi
        exact absurd (e ▸ b1 v hv) (lt_irrefl _)
      · obtain ⟨v, hv, e⟩ := List.mem_map.1 hi
        exact absurd (e ▸ a1 v hv) (lt_irrefl _)
    · rwa [if_neg e, if_neg e] at hx
/-- The rows of these IDs, as f says. -/
def table (f : Id2 → Option Says) (l : List Id2) : List Row := (setOf l).filterMap fun x => (f x).map fun s => (x, s)
theorem filterMap_ids (f : Id2 → Option Says) (l : List Id2) : (l.filterMap fun x => (f x).map fun s => (x, s)).map (·.1) = l.filter fun x => (f x).isSome := by
  induction l with
  | nil => rfl
  | cons x l ih =>
    rcases h : f x with _ | s
    · rw [List.filterMap_cons_none (by rw [h]; rfl), List.filter_cons_of_neg (by rw [h]; simp), ih]
    · rw [List.filterMap_cons_some (by rw [h]; rfl), List.filter_cons_of_pos (by rw [h]; rfl), List.map_cons, ih]
theorem up_table (f : Id2 → Option Says) (l : List Id2) : Up (table f l) := by
  unfold Up ids table
  rw [filterMap_ids]
  exact List.Pairwise.filter _ (rises_setOf l)
theorem get_table {f : Id2 → Option Says} {l : List Id2} (h : ∀ x s, f x = some s → x ∈ l) (x : Id2) : get (table f l) x = f x := by
  rcases hf : f x with _ | s
  · rw [get_none]
    intro hi
    unfold ids table at hi
    rw [filterMap_ids, List.mem_filter] at hi
    rw [hf] at hi
    simp at hi
  · have hm : (x, s) ∈ table f l := List.mem_filterMap.2 ⟨x, (mem_setOf l x).2 (h x s hf), by rw [hf]; rfl⟩
    exact get_of_mem (up_table f l) hm
theorem table_len (f : Id2 → Option Says) (l : List Id2) : (table f l).length ≤ l.length := Nat.le_trans (List.length_filterMap_le _ _) (setOf_len l)
/-- Of two rows of one ID: the newer one; of one version: all that are in either. -/
def two : Option Says → Option Says → Option Says
  | none, s => s
  | some r, none => some r
  | some r, some s => if s.1 < r.1 then some r else if r.1 < s.1 then some s else some (r.1, join r.2 s.2)
theorem two_none (r : Option Says) : two r none = r := by cases r <;> rfl
theorem two_comm (r s : Option Says) : two r s = two s r := by
  cases r with
  | none => rw [two_none]; rfl
  | some r =>
    cases s with
    | none => rfl
    | some s =>
      simp only [two]
      by_cases h1 : s.1 < r.1
      · rw [if_pos h1, if_neg (by omega), if_pos h1]
      · by_cases h2 : r.1 < s.1
        · rw [if_neg h1, if_pos h2, if_pos h2]
        · rw [if_neg h1, if_neg h2, if_neg h2, if_neg h1, join_comm, show r.1 = s.1 by omega]
theorem two_assoc (r s t : Option Says) : two (two r s) t = two r (two s t) := by
  cases r with
  | none => rfl
  | some r =>
    cases s with
    | none => rfl
    | some s =>
      cases t with
      | none => rw [two_none, two_none]
      | some t =>
        simp only [two]
        by_cases h1 : s.1 < r.1
        · rw [if_pos h1]
          by_cases h2 : t.1 < s.1
          · rw [if_pos h2]
            dsimp only
            rw [if_pos (by omega), if_pos h1]
          · by_cases h3 : s.1 < t.1
            · rw [if_neg h2, if_pos h3]
            · rw [if_neg h2, if_neg h3]
              dsimp only
              rw [if_pos (by omega), if_pos h1]
        · by_cases h2 : r.1 < s.1
          · rw [if_neg h1, if_pos h2]
            by_cases h3 : t.1 < s.1
            · rw [if_pos h3]
              dsimp only
              rw [if_pos h3, if_neg h1, if_pos h2]
            · by_cases h4 : s.1 < t.1
              · rw [if_neg h3, if_pos h4]
                dsimp only
                rw [if_neg h3, if_pos h4, if_neg (by omega), if_pos (by omega)]
              · rw [if_neg h3, if_neg h4]
                dsimp only
                rw [if_neg h3, if_neg h4, if_neg h1, if_pos h2]
          · rw [if_neg h1, if_neg h2]
            have e : r.1 = s.1 := by omega
            by_cases h3 : t.1 < s.1
            · rw [if_pos h3]
              dsimp only
              rw [if_pos (by omega), if_neg h1, if_neg h2]
            · by_cases h4 : s.1 < t.1
              · rw [if_neg h3, if_pos h4]
                dsimp only
                rw [if_neg (by omega), if_pos (by omega), if_neg (by omega), if_pos (by omega)]
              · rw [if_neg h3, if_neg h4]
                dsimp only
                rw [if_neg (by omega), if_neg (by omega), if_neg h1, if_neg h2, join_assoc]
/-- Two lists of rows, joined. -/
def joinR (a b : List Row) : List Row := table (fun x => two (get a x) (get b x)) (ids a ++ ids b)
theorem get_joinR (a b : List Row) (x : Id2) : get (joinR a b) x = two (get a x) (get b x) := by
  refine get_table (f := fun x => two (get a x) (get b x)) (fun y s h => ?_) x
  rw [List.mem_append]
  refine Decidable.byContradiction fun hn => ?_
  rw [not_or] at hn
  rw [get_none.2 hn.1, get_none.2 hn.2] at h
  cases h
theorem up_joinR (a b : List Row) : Up (joinR a b) := up_table _ _
theorem joinR_len (a b : List Row) : (joinR a b).length ≤ a.length + b.length := Nat.le_trans (table_len _ _) (by simp [ids])
theorem joinR_comm (a b : List Row) : joinR a b = joinR b a := up_ext (up_joinR _ _) (up_joinR _ _) fun x => by rw [get_joinR, get_joinR, two_comm]
theorem joinR_assoc (a b c : List Row) : joinR (joinR a b) c = joinR a (joinR b c) := up_ext (up_joinR _ _) (up_joinR _ _) fun x => by simp only [get_joinR, two_assoc]
/-- Rows whose IDs rise, and whose lists are sets. -/
def Norm (l : List Row) : Prop := Up l ∧ ∀ r ∈ l, Rises r.2.2
theorem two_self {l : List Row} (h : Norm l) (x : Id2) : two (get l x) (get l x) = get l x := by
  rcases hg : get l x with _ | s
  · rfl
  · have := h.2 _ (get_mem hg)
    simp only [two]
    rw [if_neg (by omega), if_neg (by omega), join_self, setOf_self this]
theorem joinR_self {a : List Row} (h : Norm a) : joinR a a = a := up_ext (up_joinR _ _) h.1 fun x => by rw [get_joinR, two_self h]
theorem joinR_nil {a : List Row} (h : Up a) : joinR a [] = a := up_ext (up_joinR _ _) h fun x => by rw [get_joinR, show get [] x = none from rfl, two_none]
theorem norm_joinR {a b : List Row} (ha : Norm a) (hb : Norm b) : Norm (joinR a b) := by
  refine ⟨up_joinR a b, fun r hr => ?_⟩
  have h := get_of_mem (up_joinR a b) hr
  rw [get_joinR] at h
  rcases h1 : get a r.1 with _ | s
  · rw [h1] at h
    exact hb.2 _ (get_mem (show get b r.1 = some r.2 from h))
  · rcases h2 : get b r.1 with _ | t
    · rw [h1, h2, two_none] at h
      rw [← Option.some.inj h]
      exact ha.2 _ (get_mem h1)
    · rw [h1, h2] at h
      simp only [two] at h
      split at h
      · rw [← Option.some.inj h]; exact ha.2 _ (get_mem h1)
      · split at h
        · rw [← Option.some.inj h]; exact hb.2 _ (get_mem h2)
        · rw [← Option.some.inj h]; exact rises_join _ _
/-- Joined once more with what is in it, nothing changes. -/
theorem joinR_again {a b : List Row} (ha : Norm a) : joinR (joinR a b) a = joinR a b := by
  rw [joinR_comm a b, joinR_assoc, joinR_self ha]
/-- Is an ID removed? -/
def rem (fl : List Id2) (x : Id2) : Bool := fl.any fun f => decide (f.1 = x.1) && decide (x.2 ≤ f.2)
def keepN (fl : List Id2) (l : List Id2) : List Id2 := l.filter fun x => !rem fl x
/-- Rows without those that are removed. -/
def gone (fl : List Id2) (l : List Row) : List Row := (l.filter fun r => !rem fl r.1).map fun r => (r.1, r.2.1, keepN fl r.2.2)
theorem get_gone (fl : List Id2) (l : List Row) (x : Id2) : get (gone fl l) x = if rem fl x = true then none else (get l x).map fun s => (s.1, keepN fl s.2) := by
  induction l with
  | nil => simp [gone, get]
  | cons r l ih =>
    unfold gone at ih ⊢
    by_cases h : rem fl r.1 = true
    · rw [List.filter_cons_of_neg (by rw [h]; simp), ih, get]
      by_cases e : r.1 = x
      · subst e
        rw [if_pos h, if_pos h]
      · rw [if_neg e]
    · rw [List.filter_cons_of_pos (by simpa using h), List.map_cons, get, get, ih]
      by_cases e : r.1 = x
      · subst e
        rw [if_pos rfl, if_pos rfl, if_neg h]
        rfl
      · rw [if_neg e, if_neg e]
theorem ids_gone (fl : List Id2) (l : List Row) : ids (gone fl l) = (ids l).filter fun x => !rem fl x := by
  unfold ids gone
  rw [List.map_map, List.filter_map]
  rfl
theorem up_gone {l : List Row} (fl : List Id2) (h : Up l) : Up (gone fl l) := by
  unfold Up
  rw [ids_gone]
  exact List.Pairwise.filter _ h
theorem keepN_join (fl : List Id2) (l m : List Id2) : keepN fl (join l m) = join (keepN fl l) (keepN fl m) := by
  refine rises_ext (List.Pairwise.filter _ (rises_join l m)) (rises_join _ _) fun x => ?_
  unfold keepN
  rw [List.mem_filter, mem_join, mem_join, List.mem_filter, List.mem_filter, or_and_right]
theorem keepN_keepN (fl : List Id2) (l : List Id2) : keepN fl (keepN fl l) = keepN fl l := by
  unfold keepN
  rw [List.filter_filter]
  simp
theorem rises_keepN {fl l : List Id2} (h : Rises l) : Rises (keepN fl l) := List.Pairwise.filter _ h
theorem two_keep (fl : List Id2) (r s : Option Says) : (two r s).map (fun s => (s.1, keepN fl s.2)) = two (r.map fun s => (s.1, keepN fl s.2)) (s.map fun s => (s.1, keepN fl s.2)) := by
  cases r with
  | none => rfl
  | some r =>
    cases s with
    | none => rfl
    | some s =>
      simp only [two, Option.map_some]
      by_cases h1 : s.1 < r.1
      · rw [if_pos h1, if_pos h1]; rfl
      · by_cases h2 : r.1 < s.1
        · rw [if_neg h1, if_pos h2, if_neg h1, if_pos h2]; rfl
        · rw [if_neg h1, if_neg h2, if_neg h1, if_neg h2, Option.map_some, keepN_join]
/-- Joined and then without those removed, or the other way about. -/
theorem gone_join (fl : List Id2) (a b : List Row) : gone fl (joinR a b) = joinR (gone fl a) (gone fl b) := by
  refine up_ext (up_gone fl (up_joinR a b)) (up_joinR _ _) fun x => ?_
  rw [get_joinR, get_gone, get_gone, get_gone, get_joinR]
  by_cases h : rem fl x = true
  · rw [if_pos h, if_pos h, if_pos h]; rfl
  · rw [if_neg h, if_neg h, if_neg h, two_keep]
theorem gone_gone (fl : List Id2) (l : List Row) : gone fl (gone fl l) = gone fl l := by
  unfold gone
  rw [List.filter_map, List.map_map, List.filter_filter]
  congr 1
  · funext r
    simp only [Function.comp, keepN_keepN]
  · congr 1
    funext r
    simp
theorem gone_late (fl : List Id2) (a b : List Row) : gone fl (joinR (gone fl a) b) = gone fl (joinR a b) := by
  rw [gone_join, gone_join, gone_gone]
theorem gone_ids {fl : List Id2} {l : List Row} {x : Id2} (h : rem fl x = true) : x ∉ ids (gone fl l) := by
  rw [ids_gone, List.mem_filter]
  rintro ⟨_, h2⟩
  rw [h] at h2
  cases h2
theorem gone_nots {fl : List Id2} {l : List Row} {x : Id2} (h : rem fl x = true) {r : Row} (hr : r ∈ gone fl l) : x ∉ r.2.2 := by
  unfold gone at hr
  obtain ⟨u, _, rfl⟩ := List.mem_map.1 hr
  simp only [keepN, List.mem_filter]
  rintro ⟨_, h2⟩
  rw [h] at h2
  cases h2
/-- Whom a row does not reach; of none, nobody. -/
def nots (o : Option Says) : List Id2 := match o with
  | none => []
  | some s => s.2
def vers (o : Option Says) : Int := match o with
  | none => 0
  | some s => s.1
/-- Those whom an ID is not to reach. -/
def wanted (of : Id2) (not : List Id2) : List Id2 := setOf (not.filter fun x => decide (x ≠ of))
/-- A row put in its place. -/
def place (r : Row) : List Row → List Row
  | [] => [r]
  | u :: l => if u.1 = r.1 then r :: l else if lt u.1 r.1 then u :: place r l else r :: u :: l
/-- Rows with that of an ID set. -/
def setR (l : List Row) (of : Id2) (not : List Id2) : List Row := if setOf (nots (get l of)) = wanted of not then l else place (of, vers (get l of) + 1, wanted of not) l
theorem ids_place {r : Row} {l : List Row} (x : Id2) : x ∈ ids (place r l) ↔ x = r.1 ∨ x ∈ ids l := by
  induction l with
  | nil => simp [place, ids]
  | cons u l ih =>
    rw [place]
    split
    · rename_i e
      simp [ids, e]
    · split
      · unfold ids at ih ⊢
        simp only [List.map_cons, List.mem_cons, ih]
        constructor
        · rintro (h | h | h)
          · exact .inr (.inl h)
          · exact .inl h
          · exact .inr (.inr h)
        · rintro (h | h | h)
          · exact .inr (.inl h)
          · exact .inl h
          · exact .inr (.inr h)
      · simp [ids]
theorem up_place {l : List Row} (r : Row) (h : Up l) : Up (place r l) := by
  induction l with
  | nil => exact up_cons.2 ⟨fun u hu => (by cases hu), up_nil⟩
  | cons u l ih =>
    obtain ⟨h1, h2⟩ := up_cons.1 h
    rw [place]
    by_cases e : u.1 = r.1
    · rw [if_pos e]
      exact up_cons.2 ⟨fun v hv => e ▸ h1 v hv, h2⟩
    · rw [if_neg e]
      by_cases k : lt u.1 r.1
      · rw [if_pos k]
        refine up_cons.2 ⟨fun v hv => ?_, ih h2⟩
        have hi : v.1 ∈ ids (place r l) := List.mem_map_of_mem hv
        rcases (ids_place _).1 hi with e2 | e2
        · rw [e2]; exact k
        · obtain ⟨v', hv', e3⟩ := List.mem_map.1 e2
          rw [← e3]; exact h1 v' hv'
      · rw [if_neg k]
        have k2 : lt r.1 u.1 := by
          rcases lt_total u.1 r.1 with h3 | h3 | h3
          · exact absurd h3 k
          · exact absurd h3 e
          · exact h3
        refine up_cons.2 ⟨fun v hv => ?_, h⟩
        rcases List.mem_cons.1 hv with rfl | hv
        · exact k2
        · exact lt_trans k2 (h1 v hv)
theorem get_place {l : List Row} (r : Row) (h : Up l) (x : Id2) : get (place r l) x = if r.1 = x then some r.2 else get l x := by
  induction l with
  | nil => simp only [place, get]
  | cons u l ih =>
    obtain ⟨h1, h2⟩ := up_cons.1 h
    rw [place]
    by_cases e : u.1 = r.1
    · rw [if_pos e, get, get, e]
      by_cases ex : r.1 = x
      · rw [if_pos ex, if_pos ex]
      · rw [if_neg ex, if_neg ex, if_neg ex]
    · rw [if_neg e]
      by_cases k : lt u.1 r.1
      · rw [if_pos k, get, get, ih h2]
        by_cases ex : r.1 = x
        · subst ex
          rw [if_pos rfl, if_neg e, if_pos rfl]
        · rw [if_neg ex, if_neg ex]
      · rw [if_neg k, get]
theorem place_len (r : Row) (l : List Row) : l.length ≤ (place r l).length ∧ (place r l).length ≤ l.length + 1 := by
  induction l with
  | nil => simp [place]
  | cons u l ih =>
    rw [place]
    split
    · simp
    · split
      · simp only [List.length_cons]
        omega
      · simp
theorem get_setR {l : List Row} (of : Id2) (not : List Id2) (h : Up l) (x : Id2) : get (setR l of not) x = if setOf (nots (get l of)) = wanted of not then get l x else if of = x then some (vers (get l of) + 1, wanted of not) else get l x := by
  unfold setR
  split
  · rfl
  · rw [get_place _ h]
theorem up_setR {l : List Row} (of : Id2) (not : List Id2) (h : Up l) : Up (setR l of not) := by
  unfold setR
  split
  · exact h
  · exact up_place _ h
theorem setR_len (l : List Row) (of : Id2) (not : List Id2) : (setR l of not).length ≤ l.length + 1 := by
  unfold setR
  split
  · omega
  · exact (place_len _ _).2
/-- What was set is what is told. -/
theorem nots_setR {l : List Row} (of : Id2) (not : List Id2) (h : Up l) : setOf (nots (get (setR l of not) of)) = wanted of not := by
  rw [get_setR of not h]
  split
  · rename_i e
    exact e
  · rw [if_pos rfl]
    exact setOf_setOf _
theorem setR_again {l : List Row} (of : Id2) (not : List Id2) (h : Up l) : setR (setR l of not) of not = setR l of not := by
  have e := nots_setR of not h
  generalize setR l of not = m at *
  unfold setR
  rw [if_pos e]
theorem vers_setR {l : List Row} (of : Id2) (not : List Id2) (h : Up l) : vers (get l of) ≤ vers (get (setR l of not) of) := by
  rw [get_setR of not h]
  split
  · exact Int.le_refl _
  · rw [if_pos rfl]
    show vers (get l of) ≤ vers (get l of) + 1
    omega
theorem other_setR {l : List Row} {of x : Id2} (not : List Id2) (h : Up l) (hx : x ≠ of) : get (setR l of not) x = get l x := by
  rw [get_setR of not h]
  split
  · rfl
  · rw [if_neg (fun e => hx e.symm)]
theorem norm_setR {l : List Row} (of : Id2) (not : List Id2) (h : Norm l) : Norm (setR l of not) := by
  refine ⟨up_setR of not h.1, fun r hr => ?_⟩
  have e := get_of_mem (up_setR of not h.1) hr
  rw [get_setR of not h.1] at e
  split at e
  · exact h.2 _ (get_mem e)
  · split at e
    · rw [← Option.some.inj e]
      exact rises_setOf _
    · exact h.2 _ (get_mem e)
end Go.Proofs.Ytofanciaacdjfaa.RowSets
