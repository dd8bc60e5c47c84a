/-
  Contracts and plain facts.
-/
import Derived.Test.YthkkipbmlafdiaaGreatOy
import Derived.Test.YthkkipbmlafdiaaGreatRows
import Derived.WalkKit
import Derived.WalkSpells
import Derived.WalkLawsBesides
import Derived.OwnWalk
import Derived.Deep.AppendLies
import Derived.Outline
import Derived.IntWalk
import Derived.Deep.LoopGhost
import Derived.Handy
import Derived.Lib.Hide
import Derived.Deep.RegionWith
import Derived.Deep.RegionHeld3
import Derived.BigQuiet
import Derived.Deep.QuietTactic
import Derived.Test.YthkkipbmlafdiaaGreatB00
set_option maxRecDepth 20000
namespace Go.Proofs.YthkkipbmlafdiaaGreat
namespace RowSets
open Go.Proofs.YthkkipbmlafdiaaGreat.Sets
abbrev Says := Int × List Id2
abbrev Row := Id2 × Says
def get : List Row → Id2 → Option Says
 | [], _ => none
 | r :: l, x => if r.1 = x then some r.2 else get l x
def ids (l : List Row) : List Id2 := l.map (·.1)
theorem get_none {l : List Row} {x : Id2} : get l x = none ↔ x ∉ ids l := by
 induction l with
 | nil => simp [get, ids]
 | cons r l ih =>
  rw [get];by_cases e : r.1 = x
  ·rw [if_pos e]
   simp [ids, e]
  ·rw [if_neg e, ih]
   unfold ids;rw [List.map_cons, List.mem_cons, not_or];exact ⟨fun h => ⟨fun k => e k.symm, h⟩, fun h => h.2⟩
theorem get_mem {l : List Row} {x : Id2} {s : Says} (h : get l x = some s) : (x, s) ∈ l := by
 induction l with
 | nil => simp [get] at h
 | cons r l ih =>
  rw [get] at h;by_cases e : r.1 = x
  ·rw [if_pos e] at h
   rw [← Option.some.inj h, ← e];exact List.mem_cons_self ..
  ·rw [if_neg e] at h
   exact List.mem_cons_of_mem _ (ih h)
theorem get_some {l : List Row} {x : Id2} (h : x ∈ ids l) : ∃ s, get l x = some s := by
 rcases hg : get l x with _ | s
 ·exact absurd h (get_none.1 hg)
 ·exact ⟨s, rfl⟩
def Up (l : List Row) : Prop := Rises (ids l)
theorem up_nil : Up [] := rises_nil
theorem up_cons {r : Row} {l : List Row} : Up (r :: l) ↔ (∀ u ∈ l, lt r.1 u.1) ∧ Up l := by
 unfold Up ids;rw [List.map_cons, ax_];constructor
 ·rintro ⟨h1, h2⟩
  exact ⟨fun u hu => h1 _ (List.mem_map_of_mem hu), h2⟩
 ·rintro ⟨h1, h2⟩
  exact ⟨fun y hy => by obtain ⟨u, hu, rfl⟩ := List.mem_map.1 hy; exact h1 u hu, h2⟩
theorem get_of_mem {l : List Row} (h : Up l) {r : Row} (hr : r ∈ l) : get l r.1 = some r.2 := by
 induction l with
 | nil => cases hr
 | cons u l ih =>
  obtain ⟨h1, h2⟩ := up_cons.1 h;rw [get];rcases List.mem_cons.1 hr with rfl | hr
  ·rw [if_pos rfl]
  ·rw [if_neg (fun e => absurd (e ▸ h1 r hr) (ap_ _))]
   exact ih h2 hr
theorem mem_iff_get {l : List Row} (h : Up l) (r : Row) : r ∈ l ↔ get l r.1 = some r.2 := ⟨get_of_mem h, fun e => by have := get_mem e; exact this⟩
theorem up_ext : ∀ {a b : List Row}, Up a → Up b → (∀ x, get a x = get b x) → a = b
 | [], [], _, _, _ => rfl
 | [], u :: b, _, hb, h => by
  have := h u.1
  rw [get_of_mem hb (List.mem_cons_self ..)] at this;simp [get] at this
 | r :: a, [], ha, _, h => by
  have := h r.1
  rw [get_of_mem ha (List.mem_cons_self ..)] at this;simp [get] at this
 | r :: a, u :: b, ha, hb, h => by
  obtain ⟨a1, a2⟩ := up_cons.1 ha;obtain ⟨b1, b2⟩ := up_cons.1 hb;have hm : ∀ v, v ∈ r :: a ↔ v ∈ u :: b := fun v => by rw [mem_iff_get ha, mem_iff_get hb, h]
  have e : r = u := by
   rcases List.mem_cons.1 ((hm r).1 (List.mem_cons_self ..)) with e | e
   ·exact e
   ·rcases List.mem_cons.1 ((hm u).2 (List.mem_cons_self ..)) with e2 | e2
    ·exact e2.symm
    ·exact absurd (a1 u e2) (lt_asymm (b1 r e))
  subst e;congr 1
  refine up_ext a2 b2 fun x => ?_
  have hx := h x;rw [get, get] at hx;by_cases e : r.1 = x
  ·subst e
   rw [get_none.2 fun hi => ?_, get_none.2 fun hi => ?_]
   ·obtain ⟨v, hv, e⟩ := List.mem_map.1 hi
    exact absurd (e ▸ b1 v hv) (ap_ _)
   ·obtain ⟨v, hv, e⟩ := List.mem_map.1 hi
    exact absurd (e ▸ a1 v hv) (ap_ _)
  ·rwa [if_neg e, if_neg e] at hx
def table (f : Id2 → Option Says) (l : List Id2) : List Row := (setOf l).filterMap fun x => (f x).map fun s => (x, s)
theorem filterMap_ids (f : Id2 → Option Says) (l : List Id2) : (l.filterMap fun x => (f x).map fun s => (x, s)).map (·.1) = l.filter fun x => (f x).isSome := by
 induction l with
 | nil => rfl
 | cons x l ih =>
  rcases h : f x with _ | s
  ·rw [List.filterMap_cons_none (by rw [h]; rfl), List.filter_cons_of_neg (by rw [h]; simp), ih]
  ·rw [List.filterMap_cons_some (by rw [h]; rfl), List.filter_cons_of_pos (by rw [h]; rfl), List.map_cons, ih]
theorem up_table (f : Id2 → Option Says) (l : List Id2) : Up (table f l) := by
 unfold Up ids table;rw [filterMap_ids];exact List.Pairwise.filter _ (rises_setOf l)
theorem get_table {f : Id2 → Option Says} {l : List Id2} (h : ∀ x s, f x = some s → x ∈ l) (x : Id2) : get (table f l) x = f x := by
 rcases hf : f x with _ | s
 ·rw [get_none]
  intro hi;unfold ids table at hi;rw [filterMap_ids, List.mem_filter] at hi;rw [hf] at hi;simp at hi
 ·have hm : (x, s) ∈ table f l := List.mem_filterMap.2 ⟨x, (mem_setOf l x).2 (h x s hf), by rw [hf]; rfl⟩
  exact get_of_mem (up_table f l) hm
theorem table_len (f : Id2 → Option Says) (l : List Id2) : (table f l).length ≤ l.length := Nat.le_trans (List.length_filterMap_le _ _) (setOf_len l)
def two : Option Says → Option Says → Option Says
 | none, s => s
 | some r, none => some r
 | some r, some s => if s.1 < r.1 then some r else if r.1 < s.1 then some s else some (r.1, join r.2 s.2)
theorem two_none (r : Option Says) : two r none = r := by cases r <;> rfl
theorem two_comm (r s : Option Says) : two r s = two s r := by
 cases r with
 | none => rw [two_none]; rfl
 | some r =>
  cases s with
  | none => rfl
  | some s =>
   simp only [two];by_cases h1 : s.1 < r.1
   ·rw [if_pos h1, if_neg (by omega), if_pos h1]
   ·by_cases h2 : r.1 < s.1
    ·rw [if_neg h1, if_pos h2, if_pos h2]
    ·rw [if_neg h1, if_neg h2, if_neg h2, if_neg h1, join_comm, show r.1 = s.1 by omega]
theorem two_assoc (r s t : Option Says) : two (two r s) t = two r (two s t) := by
 cases r with
 | none => rfl
 | some r =>
  cases s with
  | none => rfl
  | some s =>
   cases t with
   | none => rw [two_none, two_none]
   | some t =>
    simp only [two];by_cases h1 : s.1 < r.1
    ·rw [if_pos h1]
     by_cases h2 : t.1 < s.1
     ·rw [if_pos h2]
      dsimp only;rw [if_pos (by omega), if_pos h1]
     ·by_cases h3 : s.1 < t.1
      ·rw [if_neg h2, if_pos h3]
      ·rw [if_neg h2, if_neg h3]
       dsimp only;rw [if_pos (by omega), if_pos h1]
    ·by_cases h2 : r.1 < s.1
     ·rw [if_neg h1, if_pos h2]
      by_cases h3 : t.1 < s.1
      ·rw [if_pos h3]
       dsimp only;rw [if_pos h3, if_neg h1, if_pos h2]
      ·by_cases h4 : s.1 < t.1
       ·rw [if_neg h3, if_pos h4]
        dsimp only;rw [if_neg h3, if_pos h4, if_neg (by omega), if_pos (by omega)]
       ·rw [if_neg h3, if_neg h4]
        dsimp only;rw [if_neg h3, if_neg h4, if_neg h1, if_pos h2]
     ·rw [if_neg h1, if_neg h2]
      have e : r.1 = s.1 := by omega
      by_cases h3 : t.1 < s.1
      ·rw [if_pos h3]
       dsimp only;rw [if_pos (by omega), if_neg h1, if_neg h2]
      ·by_cases h4 : s.1 < t.1
       ·rw [if_neg h3, if_pos h4]
        dsimp only;rw [if_neg (by omega), if_pos (by omega), if_neg (by omega), if_pos (by omega)]
       ·rw [if_neg h3, if_neg h4]
        dsimp only;rw [if_neg (by omega), if_neg (by omega), if_neg h1, if_neg h2, join_assoc]
def joinR (a b : List Row) : List Row := table (fun x => two (get a x) (get b x)) (ids a ++ ids b)
theorem get_joinR (a b : List Row) (x : Id2) : get (joinR a b) x = two (get a x) (get b x) := by
 refine get_table (f := fun x => two (get a x) (get b x)) (fun y s h => ?_) x
 rw [List.mem_append];refine Decidable.byContradiction fun hn => ?_
 rw [not_or] at hn;rw [get_none.2 hn.1, get_none.2 hn.2] at h;cases h
theorem up_joinR (a b : List Row) : Up (joinR a b) := up_table _ _
theorem joinR_len (a b : List Row) : (joinR a b).length ≤ a.length + b.length := Nat.le_trans (table_len _ _) (by simp [ids])
theorem joinR_comm (a b : List Row) : joinR a b = joinR b a := up_ext (up_joinR _ _) (up_joinR _ _) fun x => by rw [get_joinR, get_joinR, two_comm]
theorem joinR_assoc (a b c : List Row) : joinR (joinR a b) c = joinR a (joinR b c) := up_ext (up_joinR _ _) (up_joinR _ _) fun x => by simp only [get_joinR, two_assoc]
def Norm (l : List Row) : Prop := Up l ∧ ∀ r ∈ l, Rises r.2.2
theorem two_self {l : List Row} (h : Norm l) (x : Id2) : two (get l x) (get l x) = get l x := by
 rcases hg : get l x with _ | s
 ·rfl
 ·have := h.2 _ (get_mem hg)
  simp only [two];rw [if_neg (by omega), if_neg (by omega), join_self, setOf_self this]
theorem joinR_self {a : List Row} (h : Norm a) : joinR a a = a := up_ext (up_joinR _ _) h.1 fun x => by rw [get_joinR, two_self h]
theorem norm_joinR {a b : List Row} (ha : Norm a) (hb : Norm b) : Norm (joinR a b) := by
 refine ⟨up_joinR a b, fun r hr => ?_⟩
 have h := get_of_mem (up_joinR a b) hr;rw [get_joinR] at h;rcases h1 : get a r.1 with _ | s
 ·rw [h1] at h
  exact hb.2 _ (get_mem (show get b r.1 = some r.2 from h))
 ·rcases h2 : get b r.1 with _ | t
  ·rw [h1, h2, two_none] at h
   rw [← Option.some.inj h];exact ha.2 _ (get_mem h1)
  ·rw [h1, h2] at h
   simp only [two] at h;split at h
   ·rw [← Option.some.inj h]; exact ha.2 _ (get_mem h1)
   ·split at h
    ·rw [← Option.some.inj h]; exact hb.2 _ (get_mem h2)
    ·rw [← Option.some.inj h]; exact rises_join _ _
def rem (fl : List Id2) (x : Id2) : Bool := fl.any fun f => decide (f.1 = x.1) && decide (x.2 ≤ f.2)
def keepN (fl : List Id2) (l : List Id2) : List Id2 := l.filter fun x => !rem fl x
def gone (fl : List Id2) (l : List Row) : List Row := (l.filter fun r => !rem fl r.1).map fun r => (r.1, r.2.1, keepN fl r.2.2)
theorem get_gone (fl : List Id2) (l : List Row) (x : Id2) : get (gone fl l) x = if rem fl x = true then none else (get l x).map fun s => (s.1, keepN fl s.2) := by
 induction l with
 | nil => simp [gone, get]
 | cons r l ih =>
  unfold gone at ih ⊢;by_cases h : rem fl r.1 = true
  ·rw [List.filter_cons_of_neg (by rw [h]; simp), ih, get]
   by_cases e : r.1 = x
   ·subst e
    rw [if_pos h, if_pos h]
   ·rw [if_neg e]
  ·rw [List.filter_cons_of_pos (by simpa using h), List.map_cons, get, get, ih]
   by_cases e : r.1 = x
   ·subst e
    rw [if_pos rfl, if_pos rfl, if_neg h];rfl
   ·rw [if_neg e, if_neg e]
theorem ids_gone (fl : List Id2) (l : List Row) : ids (gone fl l) = (ids l).filter fun x => !rem fl x := by
 unfold ids gone;rw [List.map_map, List.filter_map];rfl
theorem up_gone {l : List Row} (fl : List Id2) (h : Up l) : Up (gone fl l) := by
 unfold Up;rw [ids_gone];exact List.Pairwise.filter _ h
theorem keepN_join (fl : List Id2) (l m : List Id2) : keepN fl (join l m) = join (keepN fl l) (keepN fl m) := by
 refine rises_ext (List.Pairwise.filter _ (rises_join l m)) (rises_join _ _) fun x => ?_
 unfold keepN;rw [List.mem_filter, mem_join, mem_join, List.mem_filter, List.mem_filter, or_and_right]
theorem keepN_keepN (fl : List Id2) (l : List Id2) : keepN fl (keepN fl l) = keepN fl l := by
 unfold keepN;rw [List.filter_filter];simp
theorem rises_keepN {fl l : List Id2} (h : Rises l) : Rises (keepN fl l) := List.Pairwise.filter _ h
theorem two_keep (fl : List Id2) (r s : Option Says) : (two r s).map (fun s => (s.1, keepN fl s.2)) = two (r.map fun s => (s.1, keepN fl s.2)) (s.map fun s => (s.1, keepN fl s.2)) := by
 cases r with
 | none => rfl
 | some r =>
  cases s with
  | none => rfl
  | some s =>
   simp only [two, Option.map_some];by_cases h1 : s.1 < r.1
   ·rw [if_pos h1, if_pos h1]; rfl
   ·by_cases h2 : r.1 < s.1
    ·rw [if_neg h1, if_pos h2, if_neg h1, if_pos h2]; rfl
    ·rw [if_neg h1, if_neg h2, if_neg h1, if_neg h2, Option.map_some, keepN_join]
theorem gone_join (fl : List Id2) (a b : List Row) : gone fl (joinR a b) = joinR (gone fl a) (gone fl b) := by
 refine up_ext (up_gone fl (up_joinR a b)) (up_joinR _ _) fun x => ?_
 rw [get_joinR, get_gone, get_gone, get_gone, get_joinR];by_cases h : rem fl x = true
 ·rw [if_pos h, if_pos h, if_pos h]; rfl
 ·rw [if_neg h, if_neg h, if_neg h, two_keep]
theorem gone_gone (fl : List Id2) (l : List Row) : gone fl (gone fl l) = gone fl l := by
 unfold gone;rw [List.filter_map, List.map_map, List.filter_filter];congr 1
 ·funext r
  simp only [Function.comp, keepN_keepN]
 ·congr 1
  funext r
  simp
theorem gone_late (fl : List Id2) (a b : List Row) : gone fl (joinR (gone fl a) b) = gone fl (joinR a b) := by
 rw [gone_join, gone_join, gone_gone]
def nots (o : Option Says) : List Id2 := match o with
 | none => []
 | some s => s.2
def vers (o : Option Says) : Int := match o with
 | none => 0
 | some s => s.1
def wanted (of : Id2) (not : List Id2) : List Id2 := setOf (not.filter fun x => decide (x ≠ of))
def place (r : Row) : List Row → List Row
 | [] => [r]
 | u :: l => if u.1 = r.1 then r :: l else if lt u.1 r.1 then u :: place r l else r :: u :: l
def setR (l : List Row) (of : Id2) (not : List Id2) : List Row := if setOf (nots (get l of)) = wanted of not then l else place (of, vers (get l of) + 1, wanted of not) l
theorem ids_place {r : Row} {l : List Row} (x : Id2) : x ∈ ids (place r l) ↔ x = r.1 ∨ x ∈ ids l := by
 induction l with
 | nil => simp [place, ids]
 | cons u l ih =>
  rw [place];split
  ·rename_i e
   simp [ids, e]
  ·split
   ·unfold ids at ih ⊢
    simp only [List.map_cons, List.mem_cons, ih];constructor
    ·rintro (h | h | h)
     ·exact .inr (.inl h)
     ·exact .inl h
     ·exact .inr (.inr h)
    ·rintro (h | h | h)
     ·exact .inr (.inl h)
     ·exact .inl h
     ·exact .inr (.inr h)
   ·simp [ids]
theorem up_place {l : List Row} (r : Row) (h : Up l) : Up (place r l) := by
 induction l with
 | nil => exact up_cons.2 ⟨fun u hu => (by cases hu), up_nil⟩
 | cons u l ih =>
  obtain ⟨h1, h2⟩ := up_cons.1 h;rw [place];by_cases e : u.1 = r.1
  ·rw [if_pos e]
   exact up_cons.2 ⟨fun v hv => e ▸ h1 v hv, h2⟩
  ·rw [if_neg e]
   by_cases k : lt u.1 r.1
   ·rw [if_pos k]
    refine up_cons.2 ⟨fun v hv => ?_, ih h2⟩
    have hi : v.1 ∈ ids (place r l) := List.mem_map_of_mem hv
    rcases (ids_place _).1 hi with e2 | e2
    ·rw [e2]; exact k
    ·obtain ⟨v', hv', e3⟩ := List.mem_map.1 e2
     rw [← e3]; exact h1 v' hv'
   ·rw [if_neg k]
    have k2 : lt r.1 u.1 := by
     rcases lt_total u.1 r.1 with h3 | h3 | h3
     ·exact absurd h3 k
     ·exact absurd h3 e
     ·exact h3
    refine up_cons.2 ⟨fun v hv => ?_, h⟩
    rcases List.mem_cons.1 hv with rfl | hv
    ·exact k2
    ·exact lt_trans k2 (h1 v hv)
theorem get_place {l : List Row} (r : Row) (h : Up l) (x : Id2) : get (place r l) x = if r.1 = x then some r.2 else get l x := by
 induction l with
 | nil => simp only [place, get]
 | cons u l ih =>
  obtain ⟨h1, h2⟩ := up_cons.1 h;rw [place];by_cases e : u.1 = r.1
  ·rw [if_pos e, get, get, e]
   by_cases ex : r.1 = x
   ·rw [if_pos ex, if_pos ex]
   ·rw [if_neg ex, if_neg ex, if_neg ex]
  ·rw [if_neg e]
   by_cases k : lt u.1 r.1
   ·rw [if_pos k, get, get, ih h2]
    by_cases ex : r.1 = x
    ·subst ex
     rw [if_pos rfl, if_neg e, if_pos rfl]
    ·rw [if_neg ex, if_neg ex]
   ·rw [if_neg k, get]
theorem place_len (r : Row) (l : List Row) : l.length ≤ (place r l).length ∧ (place r l).length ≤ l.length + 1 := by
 induction l with
 | nil => simp [place]
 | cons u l ih =>
  rw [place];split
  ·simp
  ·split
   ·simp only [List.length_cons]
    omega
   ·simp
theorem get_setR {l : List Row} (of : Id2) (not : List Id2) (h : Up l) (x : Id2) : get (setR l of not) x = if setOf (nots (get l of)) = wanted of not then get l x else if of = x then some (vers (get l of) + 1, wanted of not) else get l x := by
 unfold setR;split
 ·rfl
 ·rw [get_place _ h]
theorem up_setR {l : List Row} (of : Id2) (not : List Id2) (h : Up l) : Up (setR l of not) := by
 unfold setR;split
 ·exact h
 ·exact up_place _ h
theorem setR_len (l : List Row) (of : Id2) (not : List Id2) : (setR l of not).length ≤ l.length + 1 := by
 unfold setR;split
 ·omega
 ·exact (place_len _ _).2
theorem norm_setR {l : List Row} (of : Id2) (not : List Id2) (h : Norm l) : Norm (setR l of not) := by
 refine ⟨up_setR of not h.1, fun r hr => ?_⟩
 have e := get_of_mem (up_setR of not h.1) hr;rw [get_setR of not h.1] at e;split at e
 ·exact h.2 _ (get_mem e)
 ·split at e
  ·rw [← Option.some.inj e]
   exact rises_setOf _
  ·exact h.2 _ (get_mem e)
end RowSets
section
open Sets
def lss (a i b j : Int) : Bool := decide (a < b ∨ a = b ∧ i < j)
theorem lss_iff (x y : Id2) : lss x.1 x.2 y.1 y.2 = true ↔ lt x y := by simp [lss, lt]
def cmpZ (a i b j : Int) : Int := if lss a i b j = true then -1 else if lss b j a i = true then 1 else 0
theorem cmpZ_eq (x y : Id2) : cmpZ x.1 x.2 y.1 y.2 = if lt x y then -1 else if lt y x then 1 else 0 := by
 unfold cmpZ;simp only [lss_iff]
def risesB : List Id2 → Bool
 | x :: y :: l => lss x.1 x.2 y.1 y.2 && risesB (y :: l)
 | _ => true
theorem risesB_iff : ∀ l : List Id2, risesB l = true ↔ Rises l
 | [] => by simp [risesB, Rises]
 | [x] => by simp [risesB, Rises]
 | x :: y :: l => by
  rw [risesB, Bool.and_eq_true, lss_iff, risesB_iff (y :: l), ax_ (x := x)];constructor
  ·rintro ⟨h1, h2⟩
   refine ⟨fun z hz => ?_, h2⟩
   rcases List.mem_cons.1 hz with e | e
   ·exact e ▸ h1
   ·exact lt_trans h1 ((ax_.1 h2).1 z e)
  ·rintro ⟨h1, h2⟩
   exact ⟨h1 y (List.mem_cons_self ..), h2⟩
theorem risesB_take {l : List Id2} : ∀ {k : Nat} (h : k + 1 < l.length), risesB (l.take (k + 2)) = (risesB (l.take (k + 1)) && lss l[k].1 l[k].2 l[k+1].1 l[k+1].2) := by
 induction l with
 | nil => intro k h; simp at h
 | cons x l ih =>
  intro k h;cases l with
  | nil => simp at h
  | cons y l =>
   cases k with
   | zero => simp [risesB]
   | succ k =>
    have := ih (k := k) (by simpa using h)
    simp only [List.take_succ_cons, risesB] at this ⊢;rw [this, Bool.and_assoc];rfl
theorem risesB_not {l : List Id2} : ∀ {k : Nat} (h : k + 1 < l.length), lss l[k].1 l[k].2 l[k+1].1 l[k+1].2 = false → risesB l = false := by
 induction l with
 | nil => intro k h; simp at h
 | cons x l ih =>
  intro k h hv;cases l with
  | nil => simp at h
  | cons y l =>
   cases k with
   | zero => simp only [risesB, Bool.and_eq_false_iff]; exact .inl hv
   | succ k => simp only [risesB, Bool.and_eq_false_iff]; exact .inr (ih (k := k) (by simpa using h) hv)
theorem risesB_one (l : List Id2) : risesB (l.take 1) = true := by
 cases l <;> rfl
def headZ : List Id2 → List Id2 → Int
 | _, [] => -1
 | [], _ :: _ => 1
 | x :: _, y :: _ => cmpZ x.1 x.2 y.1 y.2
def stepL (l m : List Id2) : List Id2 := if headZ l m ≤ 0 then l.tail else l
def stepM (l m : List Id2) : List Id2 := if 0 ≤ headZ l m then m.tail else m
def stepX (l m : List Id2) : Id2 := if 0 ≤ headZ l m then m.headD (0, 0) else l.headD (0, 0)
theorem step_less (l m : List Id2) (h : ¬ (l = [] ∧ m = [])) : (stepL l m).length + (stepM l m).length < l.length + m.length := by
 unfold stepL stepM;cases l with
 | nil =>
  cases m with
  | nil => exact absurd ⟨rfl, rfl⟩ h
  | cons y m => simp [headZ]
 | cons x l =>
  cases m with
  | nil => simp [headZ]
  | cons y m =>
   by_cases h1 : headZ (x :: l) (y :: m) ≤ 0
   ·by_cases h2 : 0 ≤ headZ (x :: l) (y :: m)
    ·rw [if_pos h1, if_pos h2]
     simp only [List.tail, List.length_cons];omega
    ·rw [if_pos h1, if_neg h2]
     simp only [List.tail, List.length_cons];omega
   ·rw [if_neg h1, if_pos (by omega)]
    simp only [List.tail, List.length_cons];omega
def mrgN (k : Bool → Bool → Bool) : Nat → List Id2 → List Id2 → List Id2
 | 0, _, _ => []
 | n + 1, l, m => if l = [] ∧ m = [] then [] else (if k (decide (headZ l m ≤ 0)) (decide (0 ≤ headZ l m)) = true then [stepX l m] else []) ++ mrgN k n (stepL l m) (stepM l m)
def mrg (k : Bool → Bool → Bool) (l m : List Id2) : List Id2 := mrgN k (l.length + m.length) l m
theorem mrgN_none (k : Bool → Bool → Bool) (n : Nat) : mrgN k n [] [] = [] := by
 cases n with
 | zero => rfl
 | succ n => rw [mrgN, if_pos ⟨rfl, rfl⟩]
theorem both_none {l m : List Id2} (h : l.length + m.length ≤ 0) : l = [] ∧ m = [] := ⟨List.eq_nil_of_length_eq_zero (by omega), List.eq_nil_of_length_eq_zero (by omega)⟩
theorem mrgN_same (k : Bool → Bool → Bool) : ∀ (a b : Nat) (l m : List Id2), l.length + m.length ≤ a → l.length + m.length ≤ b → mrgN k a l m = mrgN k b l m := by
 intro a;induction a with
 | zero =>
  intro b l m h _;obtain ⟨rfl, rfl⟩ := both_none h;rw [mrgN_none, mrgN_none]
 | succ a ih =>
  intro b l m h h2;cases b with
  | zero =>
   obtain ⟨rfl, rfl⟩ := both_none h2;rw [mrgN_none, mrgN_none]
  | succ b =>
   rw [mrgN, mrgN];by_cases hn : l = [] ∧ m = []
   ·rw [if_pos hn, if_pos hn]
   ·have := step_less l m hn
    rw [if_neg hn, if_neg hn, ih b (stepL l m) (stepM l m) (by omega) (by omega)]
theorem mrg_none (k : Bool → Bool → Bool) : mrg k [] [] = [] := rfl
theorem mrg_step (k : Bool → Bool → Bool) (l m : List Id2) (h : ¬ (l = [] ∧ m = [])) :
  mrg k l m = (if k (decide (headZ l m ≤ 0)) (decide (0 ≤ headZ l m)) = true then [stepX l m] else []) ++ mrg k (stepL l m) (stepM l m) := by
 have hs := step_less l m h;unfold mrg;obtain ⟨n, hn⟩ : ∃ n, l.length + m.length = n + 1 := ⟨l.length + m.length - 1, by omega⟩
 rw [hn, mrgN, if_neg h, mrgN_same k n _ (stepL l m) (stepM l m) (by omega) (Nat.le_refl _)]
theorem mrg_left {k : Bool → Bool → Bool} {x : Id2} {l m : List Id2} (h : headZ (x :: l) m = -1) : mrg k (x :: l) m = (if k true false = true then [x] else []) ++ mrg k l m := by
 rw [mrg_step k (x :: l) m (by simp)]
 unfold stepX stepL stepM;rw [h];rfl
theorem mrg_same {k : Bool → Bool → Bool} {x y : Id2} {l m : List Id2} (h : headZ (x :: l) (y :: m) = 0) : mrg k (x :: l) (y :: m) = (if k true true = true then [y] else []) ++ mrg k l m := by
 rw [mrg_step k (x :: l) (y :: m) (by simp)]
 unfold stepX stepL stepM;rw [h];rfl
theorem mrg_right {k : Bool → Bool → Bool} {y : Id2} {l m : List Id2} (h : headZ l (y :: m) = 1) : mrg k l (y :: m) = (if k false true = true then [y] else []) ++ mrg k l m := by
 rw [mrg_step k l (y :: m) (by simp)]
 unfold stepX stepL stepM;rw [h];rfl
def Kept (k : Bool → Bool → Bool) (l m r : List Id2) : Prop := Rises r ∧ ∀ z, z ∈ r ↔ (z ∈ l ∨ z ∈ m) ∧ k (decide (z ∈ l)) (decide (z ∈ m)) = true
theorem kept_one {k : Bool → Bool → Bool} {l m l' m' r : List Id2} {x : Id2} {p q : Bool} (ih : Kept k l' m' r) (hl : ∀ z, z ∈ l ↔ (z = x ∧ p = true) ∨ z ∈ l') (hm : ∀ z, z ∈ m ↔ (z = x ∧ q = true) ∨ z ∈ m')
  (hpq : p = true ∨ q = true) (h1 : ∀ z ∈ l', lt x z) (h2 : ∀ z ∈ m', lt x z) : Kept k l m ((if k p q = true then [x] else []) ++ r) := by
 obtain ⟨i1, i2⟩ := ih;have xl : x ∉ l' := fun h => ap_ x (h1 x h)
 have xm : x ∉ m' := fun h => ap_ x (h2 x h)
 have dl : decide (x ∈ l) = p := by
  cases p
  ·exact decide_eq_false fun h => by rcases (hl x).1 h with e | e; exact absurd e.2 (by decide); exact xl e
  ·exact decide_eq_true ((hl x).2 (.inl ⟨rfl, rfl⟩))
 have dm : decide (x ∈ m) = q := by
  cases q
  ·exact decide_eq_false fun h => by rcases (hm x).1 h with e | e; exact absurd e.2 (by decide); exact xm e
  ·exact decide_eq_true ((hm x).2 (.inl ⟨rfl, rfl⟩))
 have hx : x ∈ l ∨ x ∈ m := by
  rcases hpq with e | e
  ·exact .inl ((hl x).2 (.inl ⟨rfl, e⟩))
  ·exact .inr ((hm x).2 (.inl ⟨rfl, e⟩))
 have xr : x ∉ r := fun h => by
  rcases ((i2 x).1 h).1 with e | e
  ·exact xl e
  ·exact xm e
 have other : ∀ z, z ≠ x → ((z ∈ l ↔ z ∈ l') ∧ (z ∈ m ↔ z ∈ m')) := fun z hz => by
  rw [hl z, hm z];simp [hz]
 have hmem : ∀ z, z ≠ x → (z ∈ r ↔ (z ∈ l ∨ z ∈ m) ∧ k (decide (z ∈ l)) (decide (z ∈ m)) = true) := fun z hz => by
  rw [i2 z];have h3 := other z hz;have e1 : decide (z ∈ l) = decide (z ∈ l') := by rw [Bool.eq_iff_iff, decide_eq_true_iff, decide_eq_true_iff]; exact h3.1
  have e2 : decide (z ∈ m) = decide (z ∈ m') := by rw [Bool.eq_iff_iff, decide_eq_true_iff, decide_eq_true_iff]; exact h3.2
  rw [e1, e2, h3.1, h3.2]
 by_cases hk : k p q = true
 ·rw [if_pos hk]
  refine ⟨ax_.2 ⟨fun z hz => ?_, i1⟩, fun z => ?_⟩
  ·rcases ((i2 z).1 hz).1 with e | e
   ·exact h1 z e
   ·exact h2 z e
  ·by_cases hz : z = x
   ·subst hz
    rw [dl, dm];exact ⟨fun _ => ⟨hx, hk⟩, fun _ => List.mem_cons_self ..⟩
   ·rw [← hmem z hz]
    simp [hz]
 ·rw [if_neg hk]
  refine ⟨i1, fun z => ?_⟩
  by_cases hz : z = x
  ·subst hz
   rw [dl, dm];exact ⟨fun h => absurd h xr, fun h => absurd h.2 hk⟩
  ·rw [← hmem z hz]
   simp
theorem mrg_kept (k : Bool → Bool → Bool) : ∀ (n : Nat) (l m : List Id2), l.length + m.length ≤ n → Rises l → Rises m → Kept k l m (mrg k l m) := by
 intro n;induction n with
 | zero =>
  intro l m h _ _;obtain ⟨rfl, rfl⟩ := both_none h;exact ⟨rises_nil, by simp [mrg_none]⟩
 | succ n ih =>
  intro l m h hl hm;cases l with
  | nil =>
   cases m with
   | nil => exact ⟨rises_nil, by simp [mrg_none]⟩
   | cons y m =>
    have h2 := ax_.1 hm;rw [mrg_right rfl];exact kept_one (ih [] m (by simp at h ⊢; omega) hl h2.2) (by simp) (by simp) (.inr rfl) (by simp) h2.1
  | cons x l =>
   have h1 := ax_.1 hl;cases m with
   | nil =>
    rw [mrg_left rfl];exact kept_one (ih l [] (by simp at h ⊢; omega) h1.2 hm) (by simp) (by simp) (.inl rfl) h1.1 (by simp)
   | cons y m =>
    have h2 := ax_.1 hm;have hz : headZ (x :: l) (y :: m) = cmpZ x.1 x.2 y.1 y.2 := rfl
    rw [cmpZ_eq] at hz;by_cases hlt : lt x y
    ·rw [if_pos hlt] at hz
     rw [mrg_left hz];refine kept_one (ih l (y :: m) (by simp at h ⊢; omega) h1.2 hm) (by simp) (by simp) (.inl rfl) h1.1 fun z hz => ?_
     rcases List.mem_cons.1 hz with e | e
     ·exact e ▸ hlt
     ·exact lt_trans hlt (h2.1 z e)
    ·rw [if_neg hlt] at hz
     by_cases hgt : lt y x
     ·rw [if_pos hgt] at hz
      rw [mrg_right hz];refine kept_one (ih (x :: l) m (by simp at h ⊢; omega) hl h2.2) (by simp) (by simp) (.inr rfl) (fun z hz => ?_) h2.1
      rcases List.mem_cons.1 hz with e | e
      ·exact e ▸ hgt
      ·exact lt_trans hgt (h1.1 z e)
     ·rw [if_neg hgt] at hz
      have exy : x = y := by
       rcases lt_total x y with e | e | e
       ·exact absurd e hlt
       ·exact e
       ·exact absurd e hgt
      subst exy;rw [mrg_same hz];exact kept_one (ih l m (by simp at h ⊢; omega) h1.2 h2.2) (by simp) (by simp) (.inl rfl) h1.1 h2.1
theorem mrg_is (k : Bool → Bool → Bool) (l m : List Id2) (hl : Rises l) (hm : Rises m) :
  Rises (mrg k l m) ∧ ∀ z, z ∈ mrg k l m ↔ (z ∈ l ∨ z ∈ m) ∧ k (decide (z ∈ l)) (decide (z ∈ m)) = true := mrg_kept k _ l m (Nat.le_refl _) hl hm
theorem mrg_all (l m : List Id2) : mrg (fun _ _ => true) (setOf l) (setOf m) = join l m := by
 obtain ⟨h1, h2⟩ := mrg_is (fun _ _ => true) _ _ (rises_setOf l) (rises_setOf m)
 exact rises_ext h1 (rises_join _ _) fun z => by rw [h2, mem_join, mem_setOf, mem_setOf]; simp
theorem mrg_or (l m : List Id2) : mrg (fun a b => a || b) (setOf l) (setOf m) = join l m := by
 obtain ⟨h1, h2⟩ := mrg_is (fun a b => a || b) _ _ (rises_setOf l) (rises_setOf m)
 exact rises_ext h1 (rises_join _ _) fun z => by
  rw [h2, mem_join];simp only [Bool.or_eq_true, decide_eq_true_eq];rw [mem_setOf, mem_setOf, and_self]
theorem mrg_not (l m : List Id2) : mrg (fun a b => a && !b) (setOf l) (setOf m) = without l m := by
 obtain ⟨h1, h2⟩ := mrg_is (fun a b => a && !b) _ _ (rises_setOf l) (rises_setOf m)
 exact rises_ext h1 (rises_without _ _) fun z => by
  rw [h2, mem_without];simp only [Bool.and_eq_true, decide_eq_true_eq, Bool.not_eq_true', decide_eq_false_iff_not];rw [mem_setOf, mem_setOf];exact ⟨fun h => h.2, fun h => ⟨.inl h.1, h⟩⟩
theorem join_halves (l : List Id2) (k : Nat) : join (l.take k) (l.drop k) = setOf l := by
 unfold join;rw [List.take_append_drop]
theorem del_is (l : List Id2) (x : Id2) : without l [x] = del l x := rises_ext (rises_without _ _) (rises_del _ _) fun z => by
 rw [mem_without, mem_del, List.mem_singleton]
theorem len_join (l m : List Id2) : (join l m).length ≤ l.length + m.length := by
 have := setOf_len (l ++ m)
 simpa [join] using this
end
section
open Go.RowKit
theorem ret_int {k : IntKind} {a b : Int} (h : a = b) : Ending.returned (.int k a) = .returned (.int k b) := by rw [h]
theorem af_ {a b : Bool} (h : a = b) : Ending.returned (.bool a) = .returned (.bool b) := by rw [h]
theorem ah_ {B : Nat} {w w1 w2 : World} (h : Below B w w1) (k : Below w1.heap.size w1 w2) (hB : B ≤ w.heap.size) : Below B w w2 := h.trans (k.mono (Nat.le_trans hB h.size))
theorem below_boxed {B : Nat} {w w1 w2 : World} {o : Obj} (h : Below B w w1) (k : Below (w1.alloc o).heap.size (w1.alloc o) w2) (hB : B ≤ w.heap.size) : Below B w w2 :=
 (h.alloc (Nat.le_trans hB h.size) o).trans (k.mono (by have := h.size; simp; omega))
theorem below_drewN {B n : Nat} {w w1 : World} (h : Below B w w1) : Below B w (w1.drewN n) := ⟨h.os, h.tape, h.output, h.size, h.block⟩
theorem row_lt {w : World} {g : Nat} {o : Obj} (h : w.heap[g]? = some o) : g < w.heap.size := by
 rcases Nat.lt_or_ge g w.heap.size with hlt | hge
 ·exact hlt
 ·rw [Array.getElem?_eq_none hge] at h; cases h
def Box (w : World) (g : Nat) (a i : Int) : Prop := w.heap[g]? = some (.cells #[.int .i64 a, .int .i64 i] 29 (0, 0))
theorem ae_ {w : World} {g : Nat} {a i : Int} (h : Box w g a i) : w.cell? ⟨g, 0, none⟩ = some (.int .i64 a) ∧ w.cell? ⟨g, 1, none⟩ = some (.int .i64 i) := by
 unfold Box at h;exact ⟨by rw [cell_of_row _ _ 0 _ _ _ h]; rfl, by rw [cell_of_row _ _ 1 _ _ _ h]; rfl⟩
theorem ao_ (w : World) (a i : Int) : Box (w.alloc (.cells #[.int .i64 a, .int .i64 i] 29)) w.heap.size a i := heap_alloc_new w _
theorem box_lt {w : World} {g : Nat} {a i : Int} (h : Box w g a i) : g < w.heap.size := row_lt h
theorem ag_ {w w' : World} {g : Nat} {a i : Int} (h : Box w g a i) (hb : Below w.heap.size w w') : Box w' g a i := (hb.block _ (box_lt h)).trans h
def vidROW (a i : Int) : Bool := decide (1 ≤ a ∧ a ≤ 12 ∧ 1 ≤ i ∧ i ≤ 1048576)
theorem may_any (a i : Int) (w : World) :
  Calls Tryz.prog 64 #[.agg #[.int .i64 a, .int .i64 i]] w fun e w' => e = .returned (.bool (vidROW a i)) ∧ Below w.heap.size w w' := by
 by_cases h1 : 1 ≤ a
 ·by_cases h2 : a ≤ 12
  ·by_cases h3 : 1 ≤ i
   ·by_cases h4 : i ≤ 1048576
    ·have h5 := hd_ (show vidROW a i = true by simp [vidROW]; omega)
     go_enter Tryz.func64, Tryz.ntmps64
     go_wp2_with fail;go_ret;exact ⟨by rw [h5.out]; rfl, (Below.refl _ _).alloc (Nat.le_refl _) _⟩
    ·have h5 := hd_ (show vidROW a i = false by simp [vidROW]; omega)
     go_enter Tryz.func64, Tryz.ntmps64
     go_wp2_with fail;go_ret;exact ⟨by rw [h5.out]; rfl, (Below.refl _ _).alloc (Nat.le_refl _) _⟩
   ·have h5 := hd_ (show vidROW a i = false by simp [vidROW]; omega)
    go_enter Tryz.func64, Tryz.ntmps64
    go_wp2_with fail;go_ret;exact ⟨by rw [h5.out]; rfl, (Below.refl _ _).alloc (Nat.le_refl _) _⟩
  ·have h5 := hd_ (show vidROW a i = false by simp [vidROW]; omega)
   go_enter Tryz.func64, Tryz.ntmps64
   go_wp2_with fail;go_ret;exact ⟨by rw [h5.out]; rfl, (Below.refl _ _).alloc (Nat.le_refl _) _⟩
 ·have h5 := hd_ (show vidROW a i = false by simp [vidROW]; omega)
  go_enter Tryz.func64, Tryz.ntmps64
  go_wp2_with fail;go_ret;exact ⟨by rw [h5.out]; rfl, (Below.refl _ _).alloc (Nat.le_refl _) _⟩
theorem less_any (a i b j : Int) (w : World) :
  Calls Tryz.prog 97 #[.agg #[.int .i64 a, .int .i64 i], .agg #[.int .i64 b, .int .i64 j]] w fun e w' => e = .returned (.bool (lss a i b j)) ∧ Below w.heap.size w w' := by
 have hb := hd_ (fun o o' : Obj => (((Below.refl w.heap.size w).alloc (Nat.le_refl _) o).alloc (by simp) o'))
 by_cases h1 : a < b
 ·have h5 := hd_ (show lss a i b j = true by simp [lss]; omega)
  go_enter Tryz.func97, Tryz.ntmps97
  go_wp2_with fail;go_ret;exact ⟨by rw [h5.out]; rfl, hb.out _ _⟩
 ·by_cases h2 : a = b
  ·subst h2
   by_cases h3 : i < j
   ·have h5 := hd_ (show lss a i a j = true by simp [lss]; omega)
    go_enter Tryz.func97, Tryz.ntmps97
    go_wp2_with fail;go_ret;exact ⟨by rw [h5.out]; rfl, hb.out _ _⟩
   ·have h5 := hd_ (show lss a i a j = false by simp [lss]; omega)
    go_enter Tryz.func97, Tryz.ntmps97
    go_wp2_with fail;go_ret;exact ⟨by rw [h5.out]; rfl, hb.out _ _⟩
  ·have h5 := hd_ (show lss a i b j = false by simp [lss]; omega)
   have h3 : (a == b) = false := by simpa using h2
   go_enter Tryz.func97, Tryz.ntmps97
   go_wp2_with fail;go_ret;exact ⟨by rw [h5.out]; rfl, hb.out _ _⟩
theorem two_boxes (w : World) (a i b j : Int) : Box ((w.alloc (.cells #[.int .i64 a, .int .i64 i] 29)).alloc (.cells #[.int .i64 b, .int .i64 j] 29)) w.heap.size a i ∧ Box ((w.alloc (.cells #[.int .i64 a, .int .i64 i] 29)).alloc (.cells #[.int .i64 b, .int .i64 j] 29)) (w.heap.size + 1) b j := by
 refine ⟨(Below.heap_alloc _ _ _ (by simp)).trans (ao_ w a i), ?_⟩
 have := ao_ (w.alloc (.cells #[.int .i64 a, .int .i64 i] 29)) b j
 simpa using this
theorem below_two (w : World) (o o' : Obj) : Below w.heap.size w ((w.alloc o).alloc o') := ((Below.refl w.heap.size w).alloc (Nat.le_refl _) o).alloc (by simp) o'
set_option maxHeartbeats 1000000 in
theorem compare_any (a i b j : Int) (w : World) :
  Calls Tryz.prog 102 #[.agg #[.int .i64 a, .int .i64 i], .agg #[.int .i64 b, .int .i64 j]] w fun e w' => e = .returned (.int .i64 (cmpZ a i b j)) ∧ Below w.heap.size w w' := by
 have X0 := hd_ (two_boxes w a i b j);have B0 := hd_ (below_two w (.cells #[.int .i64 a, .int .i64 i] 29) (.cells #[.int .i64 b, .int .i64 j] 29));cases h1 : lss a i b j
 ·cases h2 : lss b j a i
  ·have h5 := hd_ (show cmpZ a i b j = 0 by simp [cmpZ, h1, h2])
   have H1 := hd_ h1;have H2 := hd_ h2;clear h1 h2;go_enter Tryz.func102, Tryz.ntmps102
   go_wp2_with fail;refine (less_any _ _ _ _ _).mono ?_
   rintro e w1 ⟨rfl, h⟩;rw [H1.out];have X1 := hd_ (And.intro (ag_ X0.out.1 h) (ag_ X0.out.2 h));have B1 := hd_ (ba_ B0.out h);clear h;obtain ⟨c1, c2⟩ := ae_ X1.out.1;obtain ⟨c3, c4⟩ := ae_ X1.out.2;go_wp2_with fail;refine (less_any _ _ _ _ _).mono ?_
   rintro e w2 ⟨rfl, h⟩;rw [H2.out];have B2 := hd_ (ba_ B1.out h);clear h c1 c2 c3 c4;go_wp2_with fail;go_ret;exact ⟨ret_int h5.out.symm, B2.out⟩
  ·have h5 := hd_ (show cmpZ a i b j = 1 by simp [cmpZ, h1, h2])
   have H1 := hd_ h1;have H2 := hd_ h2;clear h1 h2;go_enter Tryz.func102, Tryz.ntmps102
   go_wp2_with fail;refine (less_any _ _ _ _ _).mono ?_
   rintro e w1 ⟨rfl, h⟩;rw [H1.out];have X1 := hd_ (And.intro (ag_ X0.out.1 h) (ag_ X0.out.2 h));have B1 := hd_ (ba_ B0.out h);clear h;obtain ⟨c1, c2⟩ := ae_ X1.out.1;obtain ⟨c3, c4⟩ := ae_ X1.out.2;go_wp2_with fail;refine (less_any _ _ _ _ _).mono ?_
   rintro e w2 ⟨rfl, h⟩;rw [H2.out];have B2 := hd_ (ba_ B1.out h);clear h c1 c2 c3 c4;go_wp2_with fail;go_ret;exact ⟨ret_int h5.out.symm, B2.out⟩
 ·have h5 := hd_ (show cmpZ a i b j = -1 by simp [cmpZ, h1])
  have H1 := hd_ h1;clear h1;go_enter Tryz.func102, Tryz.ntmps102
  go_wp2_with fail;refine (less_any _ _ _ _ _).mono ?_
  rintro e w1 ⟨rfl, h⟩;rw [H1.out];have B1 := hd_ (ba_ B0.out h);clear h;go_wp2_with fail;go_ret;exact ⟨ret_int h5.out.symm, B1.out⟩
def Keeps (K : Nat) (k : Bool → Bool → Bool) : Prop := (K = 186 ∧ k = fun _ _ => true) ∨ (K = 167 ∧ k = fun a b => a || b) ∨ (K = 193 ∧ k = fun a b => a && !b)
theorem keeps_all : Keeps 186 (fun _ _ => true) := .inl ⟨rfl, rfl⟩
theorem keeps_or : Keeps 167 (fun a b => a || b) := .inr (.inl ⟨rfl, rfl⟩)
theorem keeps_not : Keeps 193 (fun a b => a && !b) := .inr (.inr ⟨rfl, rfl⟩)
theorem keep186 (x y : Bool) (w : World) : Calls Tryz.prog 186 #[.bool x, .bool y] w fun e w' => e = .returned (.bool true) ∧ w = w' := by
 go_enter Tryz.func186, Tryz.ntmps186
 go_wp2_with fail;go_ret;exact ⟨rfl, rfl⟩
theorem keep167 (x y : Bool) (w : World) : Calls Tryz.prog 167 #[.bool x, .bool y] w fun e w' => e = .returned (.bool (x || y)) ∧ w = w' := by
 cases x <;> cases y
 all_goals
  go_enter Tryz.func167, Tryz.ntmps167
  go_wp2_with fail;go_ret;exact ⟨rfl, rfl⟩
theorem keep193 (x y : Bool) (w : World) : Calls Tryz.prog 193 #[.bool x, .bool y] w fun e w' => e = .returned (.bool (x && !y)) ∧ w = w' := by
 cases x <;> cases y
 all_goals
  go_enter Tryz.func193, Tryz.ntmps193
  go_wp2_with fail;go_ret;exact ⟨rfl, rfl⟩
theorem keeps_any {K : Nat} {k : Bool → Bool → Bool} (h : Keeps K k) (x y : Bool) (w : World) : Calls Tryz.prog K #[.bool x, .bool y] w fun e w' => e = .returned (.bool (k x y)) ∧ w = w' := by
 rcases h with ⟨rfl, rfl⟩ | ⟨rfl, rfl⟩ | ⟨rfl, rfl⟩
 ·exact keep186 x y w
 ·exact keep167 x y w
 ·exact keep193 x y w
end
end Go.Proofs.YthkkipbmlafdiaaGreat
