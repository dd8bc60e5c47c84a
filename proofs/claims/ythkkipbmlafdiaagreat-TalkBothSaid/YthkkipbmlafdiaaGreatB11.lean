/-
  Contracts and plain facts.
-/
import Derived.Test.YthkkipbmlafdiaaGreatOy
import Derived.WalkKit
import Derived.WalkSpells
import Derived.WalkLawsBesides
import Derived.OwnWalk
import Derived.Deep.AppendLies
import Derived.Outline
import Derived.IntWalk
import Derived.Deep.LoopGhost
import Derived.Handy
import Derived.Lib.Hide
import Derived.Deep.RegionWith
import Derived.Deep.RegionHeld3
import Derived.BigQuiet
import Derived.Deep.QuietTactic
import Derived.Sort.Grow
import Derived.Test.YthkkipbmlafdiaaGreatRows
import Derived.ProofKit
import Derived.SizedLaws
import Derived.Below
import Derived.Carry
import Derived.Laws.AppendOwnNone
import Derived.Deep.Slices
import Derived.Test.YthkkipbmlafdiaaGreatB00
import Derived.Test.YthkkipbmlafdiaaGreatB01
set_option maxRecDepth 20000
namespace Go.Proofs.YthkkipbmlafdiaaGreat
namespace Clocks
open Go.Proofs.YthkkipbmlafdiaaGreat.Sets
abbrev Tick := Id2 × Int
def says : List Tick → Id2 → Int
 | [], _ => 0
 | t :: c, x => if t.1 = x then max t.2 (says c x) else says c x
theorem says_pos (c : List Tick) (x : Id2) : 0 ≤ says c x := by
 induction c with
 | nil => exact Int.le_refl _
 | cons t c ih =>
  rw [says];split <;> omega
theorem says_append (a b : List Tick) (x : Id2) : says (a ++ b) x = max (says a x) (says b x) := by
 induction a with
 | nil => have := says_pos b x; simp only [List.nil_append, says]; omega
 | cons t a ih =>
  simp only [List.cons_append, says, ih];split <;> omega
theorem says_mem {c : List Tick} {x : Id2} (h : 0 < says c x) : (x, says c x) ∈ c := by
 induction c with
 | nil => simp [says] at h
 | cons t c ih =>
  rw [says] at h ⊢;by_cases e : t.1 = x
  ·rw [if_pos e] at h ⊢
   rcases Int.le_total t.2 (says c x) with h1 | h1
   ·rw [Int.max_eq_right h1] at h ⊢
    exact List.mem_cons_of_mem _ (ih h)
   ·rw [Int.max_eq_left h1, ← e]
    exact List.mem_cons_self ..
  ·rw [if_neg e] at h ⊢
   exact List.mem_cons_of_mem _ (ih h)
theorem says_zero {c : List Tick} {x : Id2} (h : ∀ t ∈ c, t.1 = x → t.2 ≤ 0) : says c x = 0 := by
 rcases Int.lt_or_le 0 (says c x) with h1 | h1
 ·have := h _ (says_mem h1) rfl
  simp at this
  omega
 ·have := says_pos c x
  omega
def Norm (c : List Tick) : Prop := Rises (c.map (·.1)) ∧ ∀ t ∈ c, 0 < t.2
theorem norm_nil : Norm [] := ⟨rises_nil, fun _ h => by cases h⟩
theorem norm_cons {t : Tick} {c : List Tick} : Norm (t :: c) ↔ (∀ u ∈ c, lt t.1 u.1) ∧ 0 < t.2 ∧ Norm c := by
 unfold Norm;rw [List.map_cons, ax_];constructor
 ·rintro ⟨⟨h1, h2⟩, h3⟩
  exact ⟨fun u hu => h1 _ (List.mem_map_of_mem hu), h3 t (List.mem_cons_self ..), h2, fun u hu => h3 u (List.mem_cons_of_mem _ hu)⟩
 ·rintro ⟨h1, h2, h3, h4⟩
  refine ⟨⟨fun y hy => ?_, h3⟩, fun u hu => ?_⟩
  ·obtain ⟨u, hu, rfl⟩ := List.mem_map.1 hy
   exact h1 u hu
  ·rcases List.mem_cons.1 hu with rfl | hu
   ·exact h2
   ·exact h4 u hu
theorem norm_says {c : List Tick} (h : Norm c) {t : Tick} (ht : t ∈ c) : says c t.1 = t.2 := by
 induction c with
 | nil => cases ht
 | cons u c ih =>
  obtain ⟨h1, h2, h3⟩ := norm_cons.1 h;rw [says];rcases List.mem_cons.1 ht with rfl | ht
  ·rw [if_pos rfl, says_zero (fun v hv e => absurd (e ▸ h1 v hv) (ap_ _))]
   omega
  ·rw [if_neg (fun e => absurd (e ▸ h1 t ht) (ap_ _))]
   exact ih h3 ht
theorem norm_mem {c : List Tick} (h : Norm c) (t : Tick) : t ∈ c ↔ 0 < t.2 ∧ says c t.1 = t.2 := by
 constructor
 ·exact fun ht => ⟨h.2 t ht, norm_says h ht⟩
 ·rintro ⟨h1, h2⟩
  have := says_mem (c := c) (x := t.1) (by omega)
  rw [h2] at this;exact this
theorem norm_ext : ∀ {a b : List Tick}, Norm a → Norm b → (∀ x, says a x = says b x) → a = b
 | [], [], _, _, _ => rfl
 | [], u :: b, _, hb, h => by
  have h1 := (norm_mem hb u).1 (List.mem_cons_self ..);have := h u.1
  rw [h1.2] at this;simp only [says] at this;omega
 | t :: a, [], ha, _, h => by
  have h1 := (norm_mem ha t).1 (List.mem_cons_self ..);have := h t.1
  rw [h1.2] at this;simp only [says] at this;omega
 | t :: a, u :: b, ha, hb, h => by
  obtain ⟨a1, a2, a3⟩ := norm_cons.1 ha;obtain ⟨b1, b2, b3⟩ := norm_cons.1 hb;have hm : ∀ v, v ∈ t :: a ↔ v ∈ u :: b := fun v => by rw [norm_mem ha, norm_mem hb, h]
  have e : t = u := by
   rcases List.mem_cons.1 ((hm t).1 (List.mem_cons_self ..)) with e | e
   ·exact e
   ·rcases List.mem_cons.1 ((hm u).2 (List.mem_cons_self ..)) with e2 | e2
    ·exact e2.symm
    ·exact absurd (a1 u e2) (lt_asymm (b1 t e))
  subst e;congr 1
  refine norm_ext a3 b3 fun x => ?_
  have hx := h x;rw [says, says] at hx;by_cases e : t.1 = x
  ·subst e
   rw [says_zero (fun v hv e => absurd (e ▸ a1 v hv) (ap_ _)), says_zero (fun v hv e => absurd (e ▸ b1 v hv) (ap_ _))]
  ·rwa [if_neg e, if_neg e] at hx
def clk (f : Id2 → Int) (ids : List Id2) : List Tick := ((setOf ids).filter fun x => decide (0 < f x)).map fun x => (x, f x)
theorem clk_ids (f : Id2 → Int) (ids : List Id2) : (clk f ids).map (·.1) = (setOf ids).filter fun x => decide (0 < f x) := by
 unfold clk;rw [List.map_map];exact List.map_id _
theorem norm_clk (f : Id2 → Int) (ids : List Id2) : Norm (clk f ids) := by
 refine ⟨?_, fun t ht => ?_⟩
 ·rw [clk_ids]
  exact List.Pairwise.filter _ (rises_setOf ids)
 ·obtain ⟨x, hx, rfl⟩ := List.mem_map.1 ht
  simpa using (List.mem_filter.1 hx).2
theorem says_clk {f : Id2 → Int} {ids : List Id2} (h0 : ∀ x, 0 ≤ f x) (h : ∀ x, 0 < f x → x ∈ ids) (x : Id2) : says (clk f ids) x = f x := by
 rcases Int.lt_or_le 0 (f x) with h1 | h1
 ·have hm : (x, f x) ∈ clk f ids := List.mem_map.2 ⟨x, List.mem_filter.2 ⟨(mem_setOf ids x).2 (h x h1), by simpa using h1⟩, rfl⟩
  exact norm_says (norm_clk f ids) hm
 ·have h2 := h0 x
  have h3 : f x = 0 := by omega
  rw [h3];refine says_zero fun t ht e => ?_
  obtain ⟨y, hy, rfl⟩ := List.mem_map.1 ht;simp only at e ⊢
  subst e;omega
def joinC (a b : List Tick) : List Tick := clk (fun x => max (says a x) (says b x)) ((a ++ b).map (·.1))
theorem says_ids {c : List Tick} {x : Id2} (h : 0 < says c x) : x ∈ c.map (·.1) := List.mem_map.2 ⟨_, says_mem h, rfl⟩
theorem says_join (a b : List Tick) (x : Id2) : says (joinC a b) x = max (says a x) (says b x) := by
 refine says_clk (fun x => by have := says_pos a x; omega) (fun x h => ?_) x
 rw [← says_append] at h;exact says_ids h
theorem norm_join (a b : List Tick) : Norm (joinC a b) := norm_clk _ _
theorem join_comm (a b : List Tick) : joinC a b = joinC b a := norm_ext (norm_join _ _) (norm_join _ _) fun x => by rw [says_join, says_join]; omega
theorem join_assoc (a b c : List Tick) : joinC (joinC a b) c = joinC a (joinC b c) := norm_ext (norm_join _ _) (norm_join _ _) fun x => by simp only [says_join]; omega
theorem join_self {a : List Tick} (h : Norm a) : joinC a a = a := norm_ext (norm_join _ _) h fun x => by rw [says_join]; omega
theorem clk_len (f : Id2 → Int) (ids : List Id2) : (clk f ids).length ≤ ids.length := by
 unfold clk;rw [List.length_map];exact Nat.le_trans (List.length_filter_le _ _) (setOf_len ids)
theorem join_len (a b : List Tick) : (joinC a b).length ≤ a.length + b.length := Nat.le_trans (clk_len _ _) (by simp)
def more (a b : List Tick) : Bool := a.any fun t => decide (says b t.1 < says a t.1)
theorem more_iff (a b : List Tick) : more a b = true ↔ ∃ x, says b x < says a x := by
 unfold more;rw [List.any_eq_true];constructor
 ·rintro ⟨t, _, h⟩
  exact ⟨t.1, by simpa using h⟩
 ·rintro ⟨x, h⟩
  have := says_pos b x
  exact ⟨_, says_mem (c := a) (x := x) (by omega), by simpa using h⟩
theorem more_not (a b : List Tick) : more a b = false ↔ ∀ x, says a x ≤ says b x := by
 rw [← Bool.not_eq_true, more_iff];constructor
 ·exact fun h x => by rcases Int.lt_or_le (says b x) (says a x) with h1 | h1; exact absurd ⟨x, h1⟩ h; exact h1
 ·rintro h ⟨x, hx⟩
  have := h x
  omega
def cmpB (x y : Bool) : Nat := if x then (if y then 4 else 3) else (if y then 2 else 1)
def cmp (a b : List Tick) : Nat := cmpB (more a b) (more b a)
theorem cmp_same (a b : List Tick) : cmp a b = 1 ↔ ∀ x, says a x = says b x := by
 unfold cmp cmpB;rcases h1 : more a b with _ | _ <;> rcases h2 : more b a with _ | _
 ·rw [more_not] at h1 h2
  simp only [if_neg Bool.false_ne_true, true_iff];exact fun x => by have := h1 x; have := h2 x; omega
 ·obtain ⟨x, hx⟩ := (more_iff _ _).1 h2
  simp only [if_neg Bool.false_ne_true, if_true];exact ⟨fun h => by omega, fun h => by have := h x; omega⟩
 ·obtain ⟨x, hx⟩ := (more_iff _ _).1 h1
  simp only [if_neg Bool.false_ne_true, if_true];exact ⟨fun h => by omega, fun h => by have := h x; omega⟩
 ·obtain ⟨x, hx⟩ := (more_iff _ _).1 h1
  simp only [if_true];exact ⟨fun h => by omega, fun h => by have := h x; omega⟩
def above (a b : List Tick) : Bool := !more b a
theorem cmp_behind (a b : List Tick) : cmp a b = 2 ↔ (∀ x, says a x ≤ says b x) ∧ ∃ x, says a x < says b x := by
 rw [← more_not, ← more_iff b a];unfold cmp cmpB;rcases more a b with _ | _ <;> rcases more b a with _ | _ <;> simp
theorem cmp_ahead (a b : List Tick) : cmp a b = 3 ↔ (∀ x, says b x ≤ says a x) ∧ ∃ x, says b x < says a x := by
 rw [← more_not, ← more_iff a b];unfold cmp cmpB;rcases more a b with _ | _ <;> rcases more b a with _ | _ <;> simp
theorem cmp_apart (a b : List Tick) : cmp a b = 4 ↔ (∃ x, says b x < says a x) ∧ ∃ x, says a x < says b x := by
 rw [← more_iff a b, ← more_iff b a];unfold cmp cmpB;rcases more a b with _ | _ <;> rcases more b a with _ | _ <;> simp
def up (c : List Tick) (y : Id2) : List Tick := clk (fun x => if x = y then says c x + 1 else says c x) (y :: c.map (·.1))
theorem says_up (c : List Tick) (y x : Id2) : says (up c y) x = if x = y then says c x + 1 else says c x := by
 refine says_clk (f := fun x => if x = y then says c x + 1 else says c x) (fun x => ?_) (fun x h => ?_) x
 ·have := says_pos c x
  split <;> omega
 ·split at h
  ·rename_i e; rw [e]; exact List.mem_cons_self ..
  ·exact List.mem_cons_of_mem _ (says_ids h)
theorem norm_up (c : List Tick) (y : Id2) : Norm (up c y) := norm_clk _ _
theorem cmp_self (a : List Tick) : cmp a a = 1 := (cmp_same a a).2 fun _ => rfl
theorem cmp_turned (a b : List Tick) : cmp b a = if cmp a b = 2 then 3 else if cmp a b = 3 then 2 else cmp a b := by
 unfold cmp cmpB;rcases more a b with _ | _ <;> rcases more b a with _ | _ <;> rfl
theorem cmp_range (a b : List Tick) : 1 ≤ cmp a b ∧ cmp a b ≤ 4 := by
 unfold cmp cmpB;rcases more a b with _ | _ <;> rcases more b a with _ | _ <;> decide
end Clocks
section
open Sets Clocks
def cmpI (a b : Int) : Int := if a < b then -1 else if b < a then 1 else 0
def orI (a b : Int) : Int := if a = 0 then b else a
def cmpT (s t : Tick) : Int := orI (cmpZ s.1.1 s.1.2 t.1.1 t.1.2) (cmpI t.2 s.2)
def tlt (s t : Tick) : Prop := lt s.1 t.1 ∨ s.1 = t.1 ∧ t.2 < s.2
theorem cmpT_neg (s t : Tick) : cmpT s t < 0 ↔ tlt s t := by
 unfold cmpT tlt orI cmpI;rw [cmpZ_eq];rcases lt_total s.1 t.1 with h | h | h
 ·have h2 := lt_asymm h
  rw [if_pos h];simp [h]
 ·rw [h, if_neg (ap_ _), if_neg (ap_ _), if_pos rfl]
  have h2 := ap_ t.1;simp only [h2, false_or, true_and];split
  ·rename_i h3; simp [h3]
  ·rename_i h3
   split <;> simp [h3]
 ·have h2 := lt_asymm h
  rw [if_neg h2, if_pos h];have h3 : s.1 ≠ t.1 := fun e => ap_ _ (e ▸ h)
  simp [h2, h3]
theorem tlt_irrefl (s : Tick) : ¬ tlt s s := by
 rintro (h | ⟨_, h⟩)
 ·exact ap_ _ h
 ·omega
theorem tlt_trans {a b c : Tick} (h : tlt a b) (k : tlt b c) : tlt a c := by
 unfold tlt at *;rcases h with h | ⟨h1, h2⟩
 ·rcases k with k | ⟨k1, k2⟩
  ·exact .inl (lt_trans h k)
  ·exact .inl (k1 ▸ h)
 ·rcases k with k | ⟨k1, k2⟩
  ·exact .inl (h1 ▸ k)
  ·exact .inr ⟨h1.trans k1, by omega⟩
theorem tlt_ntrans {a b c : Tick} (h : ¬ tlt a b) (k : ¬ tlt b c) : ¬ tlt a c := by
 unfold tlt at *;rcases lt_total a.1 b.1 with e | e | e
 ·exact absurd (.inl e) h
 ·rcases lt_total b.1 c.1 with e2 | e2 | e2
  ·exact absurd (.inl e2) k
  ·rintro (h3 | ⟨_, h3⟩)
   ·exact ap_ _ (e2 ▸ e ▸ h3)
   ·by_cases h4 : b.2 < a.2
    ·exact h (.inr ⟨e, h4⟩)
    ·exact k (.inr ⟨e2, by omega⟩)
  ·rintro (h3 | ⟨h3, _⟩)
   ·exact lt_asymm e2 (e ▸ h3)
   ·exact ap_ _ (e.symm.trans h3 ▸ e2)
 ·rcases lt_total b.1 c.1 with e2 | e2 | e2
  ·exact absurd (.inl e2) k
  ·rintro (h3 | ⟨h3, _⟩)
   ·exact lt_asymm e (e2 ▸ h3)
   ·exact ap_ _ ((h3.trans e2.symm) ▸ e)
  ·rintro (h3 | ⟨h3, _⟩)
   ·exact lt_asymm (lt_trans e2 e) h3
   ·exact ap_ _ (h3 ▸ lt_trans e2 e)
def SortedCLK (l : List Tick) : Prop := l.Pairwise (fun s t => ¬ tlt t s) ∧ ∀ t ∈ l, 0 < t.2
def cpt (p : Option Id2) : List Tick → List Tick
 | [] => []
 | t :: l => if p = some t.1 then cpt p l else t :: cpt (some t.1) l
theorem not_tlt_ids {s t : Tick} (h : ¬ tlt t s) : s.1 = t.1 ∧ t.2 ≤ s.2 ∨ lt s.1 t.1 := by
 unfold tlt at h;rcases lt_total s.1 t.1 with e | e | e
 ·exact .inr e
 ·refine .inl ⟨e, ?_⟩
  rcases Int.lt_or_le s.2 t.2 with h2 | h2
  ·exact absurd (.inr ⟨e.symm, h2⟩) h
  ·exact h2
 ·exact absurd (.inl e) h
theorem cpt_spec : ∀ (l : List Tick) (p : Option Tick), (match p with | none => SortedCLK l | some s => SortedCLK (s :: l)) →
  Norm (cpt (p.map (·.1)) l) ∧ (∀ t ∈ cpt (p.map (·.1)) l, ∀ s, p = some s → lt s.1 t.1) ∧ (∀ x, (∀ s, p = some s → s.1 ≠ x) → says (cpt (p.map (·.1)) l) x = says l x) := by
 intro l;induction l with
 | nil => exact fun p _ => ⟨norm_nil, fun t ht => (by cases ht), fun _ _ => rfl⟩
 | cons t l ih =>
  intro p hp
  have ht : SortedCLK (t :: l) := by
   cases p with
   | none => exact hp
   | some s => exact ⟨(List.pairwise_cons.1 hp.1).2, fun u hu => hp.2 u (List.mem_cons_of_mem _ hu)⟩
  obtain ⟨i1, i2, i3⟩ := ih (some t) ht;rw [cpt];by_cases e : p.map (·.1) = some t.1
  ·rw [if_pos e, e]
   obtain ⟨s, rfl, hs⟩ := Option.map_eq_some_iff.1 e;have hs' : s.1 = t.1 := hs
   refine ⟨i1, fun u hu s' h' => ?_, fun x hx => ?_⟩
   ·obtain rfl := Option.some.inj h'
    rw [hs'];exact i2 u hu t rfl
   ·have h1 := hx s rfl
    rw [says, if_neg (fun h => h1 (hs'.trans h))]
    refine i3 x fun s' h' => ?_
    obtain rfl := Option.some.inj h';exact fun h => h1 (hs'.trans h)
  ·rw [if_neg e]
   refine ⟨norm_cons.2 ⟨fun u hu => i2 u hu t rfl, ht.2 t (List.mem_cons_self ..), i1⟩, fun u hu s h' => ?_, fun x hx => ?_⟩
   ·subst h'
    have h1 := (List.pairwise_cons.1 hp.1).1 t (List.mem_cons_self ..)
    have h2 : lt s.1 t.1 := by
     rcases not_tlt_ids h1 with ⟨h2, _⟩ | h2
     ·exact absurd (by simp [h2]) e
     ·exact h2
    rcases List.mem_cons.1 hu with rfl | hu
    ·exact h2
    ·exact lt_trans h2 (i2 u hu t rfl)
   ·rw [says, says]
    by_cases h1 : t.1 = x
    ·rw [if_pos h1, if_pos h1]
     have h2 : says (cpt (some t.1) l) x = 0 := says_zero fun u hu h => absurd (h ▸ h1 ▸ i2 u hu t rfl) (ap_ _)
     rw [h2]
     have h3 : says l x ≤ t.2 := by
      rcases Int.lt_or_le 0 (says l x) with h4 | h4
      ·have h5 := says_mem h4
       have h6 := (List.pairwise_cons.1 ht.1).1 _ h5;rcases not_tlt_ids h6 with ⟨_, h7⟩ | h7
       ·exact h7
       ·exact absurd (h1 ▸ h7) (ap_ _)
      ·have := ht.2 t (List.mem_cons_self ..)
       omega
     have := says_pos l x
     omega
    ·rw [if_neg h1, if_neg h1]
     refine i3 x fun s' h' => ?_
     obtain rfl := Option.some.inj h';exact h1
def nrm (c : List Tick) : List Tick := clk (says c) (c.map (·.1))
theorem norm_nrm (c : List Tick) : Norm (nrm c) := norm_clk _ _
theorem says_nrm (c : List Tick) (x : Id2) : says (nrm c) x = says c x := says_clk (says_pos c) (fun _ h => says_ids h) x
theorem nrm_len (c : List Tick) : (nrm c).length ≤ c.length := Nat.le_trans (clk_len _ _) (by simp)
theorem says_perm {a b : List Tick} (h : a.Perm b) (x : Id2) : says a x = says b x := by
 induction h with
 | nil => rfl
 | cons t _ ih => simp only [says, ih]
 | swap s t l =>
  simp only [says];split <;> split <;> omega
 | trans _ _ i1 i2 => exact i1.trans i2
theorem says_above (c : List Tick) (x : Id2) : says (c.filter fun t => !decide (t.2 ≤ 0)) x = says c x := by
 induction c with
 | nil => rfl
 | cons t c ih =>
  rw [List.filter_cons];by_cases h : t.2 ≤ 0
  ·rw [if_neg (by simpa using h), ih, says]
   have := says_pos c x
   split <;> omega
  ·rw [if_pos (by simpa using h), says, says, ih]
theorem said_is {c d : List Tick} (hp : d.Perm (c.filter fun t => !decide (t.2 ≤ 0))) (hs : d.Pairwise fun s t => ¬ tlt t s) : cpt none d = nrm c := by
 have h1 : ∀ t ∈ d, 0 < t.2 := fun t ht => by
  have := (List.mem_filter.1 ((hp.mem_iff).1 ht)).2
  simpa using this
 obtain ⟨n1, _, n3⟩ := cpt_spec d none ⟨hs, h1⟩;refine norm_ext n1 (norm_nrm c) fun x => ?_
 rw [says_nrm, ← says_above c x, ← says_perm hp x];exact n3 x (fun _ h => by cases h)
abbrev Visit := Id2 × Int × Int
def fstI : List Tick → List Tick → Id2
 | [], [] => (0, 0)
 | s :: _, [] => s.1
 | [], t :: _ => t.1
 | s :: _, t :: _ => if lt s.1 t.1 then s.1 else t.1
def tkN (x : Id2) : List Tick → Int
 | [] => 0
 | t :: _ => if t.1 = x then t.2 else 0
def tkL (x : Id2) : List Tick → List Tick
 | [] => []
 | t :: l => if t.1 = x then l else t :: l
def mg : Nat → List Tick → List Tick → List Visit
 | 0, _, _ => []
 | n + 1, a, b => if a = [] ∧ b = [] then [] else (fstI a b, tkN (fstI a b) a, tkN (fstI a b) b) :: mg n (tkL (fstI a b) a) (tkL (fstI a b) b)
theorem tkL_len (x : Id2) (l : List Tick) : (tkL x l).length ≤ l.length := by
 cases l with
 | nil => exact Nat.le_refl _
 | cons t l =>
  rw [tkL];split <;> simp
theorem tk_less {a b : List Tick} (h : ¬ (a = [] ∧ b = [])) : (tkL (fstI a b) a).length + (tkL (fstI a b) b).length < a.length + b.length := by
 cases a with
 | nil =>
  cases b with
  | nil => exact absurd ⟨rfl, rfl⟩ h
  | cons t b => simp [fstI, tkL]
 | cons s a =>
  cases b with
  | nil => simp [fstI, tkL]
  | cons t b =>
   rw [fstI];by_cases e : lt s.1 t.1
   ·rw [if_pos e, tkL, if_pos rfl]
    have := tkL_len s.1 (t :: b)
    simp only [List.length_cons] at *;omega
   ·rw [if_neg e, show tkL t.1 (t :: b) = b by rw [tkL, if_pos rfl]]
    have := tkL_len t.1 (s :: a)
    simp only [List.length_cons] at *;omega
def Leads (x : Id2) (l : List Tick) : Prop := ∀ t ∈ l, x = t.1 ∨ lt x t.1
theorem norm_leads {t : Tick} {l : List Tick} (h : Norm (t :: l)) : Leads t.1 (t :: l) := fun u hu => by
 rcases List.mem_cons.1 hu with rfl | hu
 ·exact .inl rfl
 ·exact .inr ((norm_cons.1 h).1 u hu)
theorem leads_fst {a b : List Tick} (ha : Norm a) (hb : Norm b) : Leads (fstI a b) a ∧ Leads (fstI a b) b := by
 cases a with
 | nil =>
  cases b with
  | nil => exact ⟨fun t h => (by cases h), fun t h => (by cases h)⟩
  | cons t b => exact ⟨fun t h => (by cases h), norm_leads hb⟩
 | cons s a =>
  cases b with
  | nil => exact ⟨norm_leads ha, fun t h => (by cases h)⟩
  | cons t b =>
   rw [fstI];by_cases e : lt s.1 t.1
   ·rw [if_pos e]
    refine ⟨norm_leads ha, fun u hu => .inr ?_⟩
    rcases norm_leads hb u hu with h | h
    ·exact h ▸ e
    ·exact lt_trans e h
   ·rw [if_neg e]
    refine ⟨fun u hu => ?_, norm_leads hb⟩
    have e2 : t.1 = s.1 ∨ lt t.1 s.1 := by
     rcases lt_total s.1 t.1 with h | h | h
     ·exact absurd h e
     ·exact .inl h.symm
     ·exact .inr h
    rcases norm_leads ha u hu with h | h
    ·exact h ▸ e2
    ·rcases e2 with e2 | e2
     ·exact .inr (e2 ▸ h)
     ·exact .inr (lt_trans e2 h)
theorem says_lead {x : Id2} {l : List Tick} (h : ∀ t ∈ l, lt x t.1) : says l x = 0 := says_zero fun t ht e => absurd (e ▸ h t ht) (ap_ _)
theorem tk_spec {x : Id2} {l : List Tick} (hn : Norm l) (hx : Leads x l) : tkN x l = says l x ∧ Norm (tkL x l) ∧ (∀ t ∈ tkL x l, lt x t.1) ∧ ∀ y, y ≠ x → says (tkL x l) y = says l y := by
 cases l with
 | nil => exact ⟨rfl, norm_nil, fun t h => (by cases h), fun _ _ => rfl⟩
 | cons t l =>
  obtain ⟨h1, h2, h3⟩ := norm_cons.1 hn;rw [tkN, tkL];by_cases e : t.1 = x
  ·subst e
   rw [if_pos rfl, if_pos rfl];refine ⟨?_, h3, h1, fun y hy => ?_⟩
   ·rw [says, if_pos rfl, says_lead h1]; omega
   ·rw [says, if_neg (fun h => hy h.symm)]
  ·rw [if_neg e, if_neg e]
   have hl : ∀ u ∈ t :: l, lt x u.1 := fun u hu => by
    have ht : lt x t.1 := by
     rcases hx t (List.mem_cons_self ..) with h | h
     ·exact absurd h.symm e
     ·exact h
    rcases List.mem_cons.1 hu with rfl | hu
    ·exact ht
    ·exact lt_trans ht (h1 u hu)
   exact ⟨(says_lead hl).symm, hn, hl, fun _ _ => rfl⟩
theorem fst_pos {a b : List Tick} (ha : Norm a) (hb : Norm b) (h : ¬ (a = [] ∧ b = [])) : 0 < says a (fstI a b) ∨ 0 < says b (fstI a b) := by
 cases a with
 | nil =>
  cases b with
  | nil => exact absurd ⟨rfl, rfl⟩ h
  | cons t b =>
   have := (norm_mem hb t).1 (List.mem_cons_self ..)
   exact .inr (by rw [fstI, this.2]; exact this.1)
 | cons s a =>
  have h1 := (norm_mem ha s).1 (List.mem_cons_self ..);cases b with
  | nil => exact .inl (by rw [fstI, h1.2]; exact h1.1)
  | cons t b =>
   have h2 := (norm_mem hb t).1 (List.mem_cons_self ..);rw [fstI];split
   ·exact .inl (by rw [h1.2]; exact h1.1)
   ·exact .inr (by rw [h2.2]; exact h2.1)
theorem mg_spec : ∀ (n : Nat) (a b : List Tick), a.length + b.length ≤ n → Norm a → Norm b →
  (∀ e ∈ mg n a b, e.2.1 = says a e.1 ∧ e.2.2 = says b e.1 ∧ (0 < e.2.1 ∨ 0 < e.2.2)) ∧ (∀ x, 0 < says a x ∨ 0 < says b x → ∃ e ∈ mg n a b, e.1 = x) ∧ Rises ((mg n a b).map (·.1)) := by
 intro n;induction n with
 | zero =>
  intro a b h _ _;have h1 : a = [] := List.eq_nil_of_length_eq_zero (by omega)
  have h2 : b = [] := List.eq_nil_of_length_eq_zero (by omega)
  subst h1 h2;exact ⟨fun e he => (by cases he), fun x h => (by simp [says] at h), rises_nil⟩
 | succ n ih =>
  intro a b h ha hb;rw [mg];by_cases e : a = [] ∧ b = []
  ·rw [if_pos e]
   obtain ⟨rfl, rfl⟩ := e;exact ⟨fun e he => (by cases he), fun x h => (by simp [says] at h), rises_nil⟩
  ·rw [if_neg e]
   have hl := leads_fst ha hb;have hless := tk_less e;have hp := fst_pos ha hb e;generalize fstI a b = x at *;obtain ⟨a1, a2, a3, a4⟩ := tk_spec ha hl.1;obtain ⟨b1, b2, b3, b4⟩ := tk_spec hb hl.2;obtain ⟨i1, i2, i3⟩ := ih (tkL x a) (tkL x b) (by omega) a2 b2
   have far : ∀ e ∈ mg n (tkL x a) (tkL x b), lt x e.1 := fun e he => by
    obtain ⟨j1, j2, j3⟩ := i1 e he;rcases j3 with j3 | j3
    ·rw [j1] at j3; exact a3 _ (says_mem j3)
    ·rw [j2] at j3; exact b3 _ (says_mem j3)
   refine ⟨fun e he => ?_, fun y hy => ?_, ?_⟩
   ·rcases List.mem_cons.1 he with rfl | he
    ·exact ⟨a1, b1, by rw [a1, b1]; exact hp⟩
    ·have hne : e.1 ≠ x := fun h => ap_ _ (h ▸ far e he)
     obtain ⟨j1, j2, j3⟩ := i1 e he;exact ⟨by rw [j1, a4 _ hne], by rw [j2, b4 _ hne], j3⟩
   ·by_cases hxy : y = x
    ·subst hxy
     exact ⟨_, List.mem_cons_self .., rfl⟩
    ·rw [← a4 y hxy, ← b4 y hxy] at hy
     obtain ⟨e, he, h2⟩ := i2 y hy;exact ⟨e, List.mem_cons_of_mem _ he, h2⟩
   ·rw [List.map_cons, ax_]
    exact ⟨fun y hy => by obtain ⟨e, he, rfl⟩ := List.mem_map.1 hy; exact far e he, i3⟩
def both (a b : List Tick) : List Visit := mg ((nrm a).length + (nrm b).length) (nrm a) (nrm b)
theorem both_spec (a b : List Tick) : (∀ e ∈ both a b, e.2.1 = says a e.1 ∧ e.2.2 = says b e.1 ∧ (0 < e.2.1 ∨ 0 < e.2.2)) ∧ (∀ x, 0 < says a x ∨ 0 < says b x → ∃ e ∈ both a b, e.1 = x) ∧ Rises ((both a b).map (·.1)) := by
 have h := mg_spec _ (nrm a) (nrm b) (Nat.le_refl _) (norm_nrm a) (norm_nrm b);simp only [says_nrm] at h;exact h
def tickOf (e : Visit) : Tick := (e.1, max e.2.1 e.2.2)
theorem both_join (a b : List Tick) : (both a b).map tickOf = joinC a b := by
 obtain ⟨h1, h2, h3⟩ := both_spec a b
 have hn : Norm ((both a b).map tickOf) := by
  refine ⟨by rw [List.map_map]; exact h3, fun t ht => ?_⟩
  obtain ⟨e, he, rfl⟩ := List.mem_map.1 ht;have := (h1 e he).2.2
  simp only [tickOf];omega
 refine norm_ext hn (norm_join a b) fun x => ?_
 rw [says_join];by_cases hx : 0 < says a x ∨ 0 < says b x
 ·obtain ⟨e, he, rfl⟩ := h2 x hx
  have := norm_says hn (List.mem_map_of_mem he)
  rw [show (tickOf e).1 = e.1 from rfl] at this
  rw [this];have h4 := h1 e he;simp only [tickOf];rw [h4.1, h4.2.1]
 ·have e1 := says_pos a x
  have e2 := says_pos b x;rw [says_zero]
  ·omega
  ·intro t ht e
   exfalso
   obtain ⟨v, hv, rfl⟩ := List.mem_map.1 ht;obtain ⟨j1, j2, j3⟩ := h1 v hv;have e' : v.1 = x := e
   rw [e'] at j1 j2;omega
theorem both_less (a b : List Tick) : (both a b).any (fun e => decide (e.2.1 < e.2.2)) = more b a := by
 obtain ⟨h1, h2, _⟩ := both_spec a b;rw [Bool.eq_iff_iff, List.any_eq_true, more_iff];constructor
 ·rintro ⟨e, he, h⟩
  have := h1 e he
  exact ⟨e.1, by rw [← this.1, ← this.2.1]; simpa using h⟩
 ·rintro ⟨x, hx⟩
  have := says_pos a x
  obtain ⟨e, he, rfl⟩ := h2 x (.inr (by omega))
  have h4 := h1 e he;exact ⟨e, he, by rw [h4.1, h4.2.1]; simpa using hx⟩
theorem both_more (a b : List Tick) : (both a b).any (fun e => decide (e.2.2 < e.2.1)) = more a b := by
 obtain ⟨h1, h2, _⟩ := both_spec a b;rw [Bool.eq_iff_iff, List.any_eq_true, more_iff];constructor
 ·rintro ⟨e, he, h⟩
  have := h1 e he
  exact ⟨e.1, by rw [← this.1, ← this.2.1]; simpa using h⟩
 ·rintro ⟨x, hx⟩
  have := says_pos b x
  obtain ⟨e, he, rfl⟩ := h2 x (.inl (by omega))
  have h4 := h1 e he;exact ⟨e, he, by rw [h4.1, h4.2.1]; simpa using hx⟩
theorem up_is (c : List Tick) (y : Id2) : joinC c [(y, says c y + 1)] = up c y := by
 refine norm_ext (norm_join _ _) (norm_up c y) fun x => ?_
 rw [says_join, says_up];have h1 := says_pos c x;have h2 := says_pos c y;simp only [says];by_cases e : x = y
 ·subst e
  rw [if_pos rfl, if_pos rfl];omega
 ·rw [if_neg (fun h => e h.symm), if_neg e]
  omega
end
section
open Go.RowKit Sets Clocks
def vidCLK (a i : Int) : Bool := decide (1 ≤ a ∧ a ≤ 12 ∧ 1 ≤ i ∧ i ≤ 1048576)
theorem may_anyCLK (a i : Int) (w : World) :
  Calls Tryz.prog 64 #[.agg #[.int .i64 a, .int .i64 i]] w fun e w' => e = .returned (.bool (vidCLK a i)) ∧ Below w.heap.size w w' := by
 by_cases h1 : 1 ≤ a
 ·by_cases h2 : a ≤ 12
  ·by_cases h3 : 1 ≤ i
   ·by_cases h4 : i ≤ 1048576
    ·have h5 := hd_ (show vidCLK a i = true by simp [vidCLK]; omega)
     go_enter Tryz.func64, Tryz.ntmps64
     go_wp2_with fail;go_ret;exact ⟨by rw [h5.out]; rfl, (Below.refl _ _).alloc (Nat.le_refl _) _⟩
    ·have h5 := hd_ (show vidCLK a i = false by simp [vidCLK]; omega)
     go_enter Tryz.func64, Tryz.ntmps64
     go_wp2_with fail;go_ret;exact ⟨by rw [h5.out]; rfl, (Below.refl _ _).alloc (Nat.le_refl _) _⟩
   ·have h5 := hd_ (show vidCLK a i = false by simp [vidCLK]; omega)
    go_enter Tryz.func64, Tryz.ntmps64
    go_wp2_with fail;go_ret;exact ⟨by rw [h5.out]; rfl, (Below.refl _ _).alloc (Nat.le_refl _) _⟩
  ·have h5 := hd_ (show vidCLK a i = false by simp [vidCLK]; omega)
   go_enter Tryz.func64, Tryz.ntmps64
   go_wp2_with fail;go_ret;exact ⟨by rw [h5.out]; rfl, (Below.refl _ _).alloc (Nat.le_refl _) _⟩
 ·have h5 := hd_ (show vidCLK a i = false by simp [vidCLK]; omega)
  go_enter Tryz.func64, Tryz.ntmps64
  go_wp2_with fail;go_ret;exact ⟨by rw [h5.out]; rfl, (Below.refl _ _).alloc (Nat.le_refl _) _⟩
def Grew (w w' : World) : Prop := ∃ q os, w' = Go.Sort.grow (w.drewN q) os
theorem Grew.refl (w : World) : Grew w w := ⟨0, #[], by rw [Go.Sort.grow_empty]; rfl⟩
theorem Grew.drew {w w' : World} (h : Grew w w') : Grew w w'.drew := by
 obtain ⟨q, os, rfl⟩ := h;exact ⟨q + 1, os, rfl⟩
theorem Grew.drewN {w w' : World} (h : Grew w w') (n : Nat) : Grew w (w'.drewN n) := by
 obtain ⟨q, os, rfl⟩ := h;refine ⟨q + n, os, ?_⟩
 simp [World.drewN, Go.Sort.grow, Nat.add_assoc]
theorem Grew.grow {w w' : World} (h : Grew w w') (os : Array Obj) : Grew w (Go.Sort.grow w' os) := by
 obtain ⟨q, os', rfl⟩ := h;exact ⟨q, os' ++ os, Go.Sort.grow_grow _ _ _⟩
theorem Grew.alloc {w w' : World} (h : Grew w w') (o : Obj) : Grew w (w'.alloc o) := by rw [Go.Sort.alloc_eq_grow]; exact h.grow _
theorem Grew.trans {w w' w'' : World} (h : Grew w w') (k : Grew w' w'') : Grew w w'' := by
 obtain ⟨q, os, rfl⟩ := k;exact (h.drewN q).grow os
theorem Grew.below {w w' : World} (h : Grew w w') : Below w.heap.size w w' := by
 obtain ⟨q, os, rfl⟩ := h;exact ⟨rfl, rfl, rfl, by simp [Go.Sort.grow, World.drewN], fun k hk => Go.Sort.heap_grow_old (w.drewN q) os hk⟩
theorem grew_two (w : World) (o o' : Obj) : Grew w ((w.alloc o).alloc o') := ((Grew.refl w).alloc o).alloc o'
theorem less_grew (a i b j : Int) (w : World) :
  Calls Tryz.prog 97 #[.agg #[.int .i64 a, .int .i64 i], .agg #[.int .i64 b, .int .i64 j]] w fun e w' => e = .returned (.bool (lss a i b j)) ∧ Grew w w' := by
 have hb := hd_ (grew_two w);by_cases h1 : a < b
 ·have h5 := hd_ (show lss a i b j = true by simp [lss]; omega)
  go_enter Tryz.func97, Tryz.ntmps97
  go_wp2_with fail;go_ret;exact ⟨by rw [h5.out]; rfl, hb.out _ _⟩
 ·by_cases h2 : a = b
  ·subst h2
   by_cases h3 : i < j
   ·have h5 := hd_ (show lss a i a j = true by simp [lss]; omega)
    go_enter Tryz.func97, Tryz.ntmps97
    go_wp2_with fail;go_ret;exact ⟨by rw [h5.out]; rfl, hb.out _ _⟩
   ·have h5 := hd_ (show lss a i a j = false by simp [lss]; omega)
    go_enter Tryz.func97, Tryz.ntmps97
    go_wp2_with fail;go_ret;exact ⟨by rw [h5.out]; rfl, hb.out _ _⟩
  ·have h5 := hd_ (show lss a i b j = false by simp [lss]; omega)
   have h3 : (a == b) = false := by simpa using h2
   go_enter Tryz.func97, Tryz.ntmps97
   go_wp2_with fail;go_ret;exact ⟨by rw [h5.out]; rfl, hb.out _ _⟩
theorem less_anyCLK (a i b j : Int) (w : World) :
  Calls Tryz.prog 97 #[.agg #[.int .i64 a, .int .i64 i], .agg #[.int .i64 b, .int .i64 j]] w fun e w' => e = .returned (.bool (lss a i b j)) ∧ Below w.heap.size w w' :=
 (less_grew a i b j w).mono fun _ _ ⟨h1, h2⟩ => ⟨h1, h2.below⟩
set_option maxHeartbeats 1000000 in
theorem compare_grew (a i b j : Int) (w : World) :
  Calls Tryz.prog 102 #[.agg #[.int .i64 a, .int .i64 i], .agg #[.int .i64 b, .int .i64 j]] w fun e w' => e = .returned (.int .i64 (cmpZ a i b j)) ∧ Grew w w' := by
 have X0 := hd_ (two_boxes w a i b j);have B0 := hd_ (grew_two w (.cells #[.int .i64 a, .int .i64 i] 29) (.cells #[.int .i64 b, .int .i64 j] 29));cases h1 : lss a i b j
 ·cases h2 : lss b j a i
  ·have h5 := hd_ (show cmpZ a i b j = 0 by simp [cmpZ, h1, h2])
   have H1 := hd_ h1;have H2 := hd_ h2;clear h1 h2;go_enter Tryz.func102, Tryz.ntmps102
   go_wp2_with fail;refine (less_grew _ _ _ _ _).mono ?_
   rintro e w1 ⟨rfl, h⟩;rw [H1.out];have X1 := hd_ (And.intro (ag_ X0.out.1 h.below) (ag_ X0.out.2 h.below));have B1 := hd_ (B0.out.trans h);clear h;obtain ⟨c1, c2⟩ := ae_ X1.out.1;obtain ⟨c3, c4⟩ := ae_ X1.out.2;go_wp2_with fail;refine (less_grew _ _ _ _ _).mono ?_
   rintro e w2 ⟨rfl, h⟩;rw [H2.out];have B2 := hd_ (B1.out.trans h);clear h c1 c2 c3 c4;go_wp2_with fail;go_ret;exact ⟨ret_int h5.out.symm, B2.out⟩
  ·have h5 := hd_ (show cmpZ a i b j = 1 by simp [cmpZ, h1, h2])
   have H1 := hd_ h1;have H2 := hd_ h2;clear h1 h2;go_enter Tryz.func102, Tryz.ntmps102
   go_wp2_with fail;refine (less_grew _ _ _ _ _).mono ?_
   rintro e w1 ⟨rfl, h⟩;rw [H1.out];have X1 := hd_ (And.intro (ag_ X0.out.1 h.below) (ag_ X0.out.2 h.below));have B1 := hd_ (B0.out.trans h);clear h;obtain ⟨c1, c2⟩ := ae_ X1.out.1;obtain ⟨c3, c4⟩ := ae_ X1.out.2;go_wp2_with fail;refine (less_grew _ _ _ _ _).mono ?_
   rintro e w2 ⟨rfl, h⟩;rw [H2.out];have B2 := hd_ (B1.out.trans h);clear h c1 c2 c3 c4;go_wp2_with fail;go_ret;exact ⟨ret_int h5.out.symm, B2.out⟩
 ·have h5 := hd_ (show cmpZ a i b j = -1 by simp [cmpZ, h1])
  have H1 := hd_ h1;clear h1;go_enter Tryz.func102, Tryz.ntmps102
  go_wp2_with fail;refine (less_grew _ _ _ _ _).mono ?_
  rintro e w1 ⟨rfl, h⟩;rw [H1.out];have B1 := hd_ (B0.out.trans h);clear h;go_wp2_with fail;go_ret;exact ⟨ret_int h5.out.symm, B1.out⟩
def encT (t : Tick) : List Value := [.int .i64 t.1.1, .int .i64 t.1.2, .int .i64 t.2]
theorem encT_len (t : Tick) : (encT t).length = 3 := rfl
theorem encT_one (t : Tick) : ∀ u ∈ encT t, u.oneCell' = true := by
 intro u hu;simp [encT] at hu
 rcases hu with rfl | rfl | rfl <;> rfl
def TBox (w : World) (g : Nat) (a i n : Int) : Prop := w.heap[g]? = some (.cells #[.int .i64 a, .int .i64 i, .int .i64 n] 53 (0, 0))
theorem tbox_cells {w : World} {g : Nat} {a i n : Int} (h : TBox w g a i n) : w.cell? ⟨g, 0, none⟩ = some (.int .i64 a) ∧ w.cell? ⟨g, 1, none⟩ = some (.int .i64 i) ∧ w.cell? ⟨g, 2, none⟩ = some (.int .i64 n) := by
 unfold TBox at h;exact ⟨by rw [cell_of_row _ _ 0 _ _ _ h]; rfl, by rw [cell_of_row _ _ 1 _ _ _ h]; rfl, by rw [cell_of_row _ _ 2 _ _ _ h]; rfl⟩
theorem tbox_new (w : World) (a i n : Int) : TBox (w.alloc (.cells #[.int .i64 a, .int .i64 i, .int .i64 n] 53)) w.heap.size a i n := heap_alloc_new w _
theorem tbox_lt {w : World} {g : Nat} {a i n : Int} (h : TBox w g a i n) : g < w.heap.size := row_lt h
theorem tbox_below {w w' : World} {g : Nat} {a i n : Int} (h : TBox w g a i n) (hb : Below w.heap.size w w') : TBox w' g a i n := (hb.block _ (tbox_lt h)).trans h
theorem nan_any (a : Int) (w : World) : Calls Tryz.prog 199 #[.int .i64 a] w fun e w' => e = .returned (.bool false) ∧ w = w' := by
 go_enter Tryz.func199, Tryz.ntmps199
 go_wp2_with fail;go_ret;exact ⟨by simp, rfl⟩
theorem cmpI_any (a b : Int) (w : World) : Calls Tryz.prog 182 #[.int .i64 a, .int .i64 b] w fun e w' => e = .returned (.int .i64 (cmpI a b)) ∧ w = w' := by
 by_cases h1 : a < b
 ·have h5 := hd_ (show cmpI a b = -1 by simp [cmpI, h1])
  go_enter Tryz.func182, Tryz.ntmps182
  go_wp2_with (first | (go_at_call 199; refine (nan_any _ _).mono ?_; rintro e w' ⟨rfl, rfl⟩))
  go_ret;exact ⟨ret_int h5.out.symm, rfl⟩
 ·by_cases h2 : b < a
  ·have h5 := hd_ (show cmpI a b = 1 by simp [cmpI, h1, h2])
   go_enter Tryz.func182, Tryz.ntmps182
   go_wp2_with (first | (go_at_call 199; refine (nan_any _ _).mono ?_; rintro e w' ⟨rfl, rfl⟩))
   go_ret;exact ⟨ret_int h5.out.symm, rfl⟩
  ·have h5 := hd_ (show cmpI a b = 0 by simp [cmpI, h1, h2])
   go_enter Tryz.func182, Tryz.ntmps182
   go_wp2_with (first | (go_at_call 199; refine (nan_any _ _).mono ?_; rintro e w' ⟨rfl, rfl⟩))
   go_ret;exact ⟨ret_int h5.out.symm, rfl⟩
def Two (w : World) (g : Nat) (a b : Int) : Prop := w.heap[g]? = some (.cells #[.int .i64 a, .int .i64 b] 3 (0, 0))
theorem two_cells {w : World} {g : Nat} {a b : Int} (h : Two w g a b) : w.cell? ⟨g, 0, none⟩ = some (.int .i64 a) ∧ w.cell? ⟨g, 1, none⟩ = some (.int .i64 b) := by
 unfold Two at h;exact ⟨by rw [cell_of_row _ _ 0 _ _ _ h]; rfl, by rw [cell_of_row _ _ 1 _ _ _ h]; rfl⟩
theorem or_any (g : Nat) (a b : Int) (w : World) (h : Two w g a b) : Calls Tryz.prog 181 #[.slice (some ⟨g, 0, none⟩) 2 2] w fun e w' => e = .returned (.int .i64 (orI a b)) ∧ w = w' := by
 obtain ⟨c1, c2⟩ := two_cells h;clear h;by_cases h1 : a = 0
 ·subst h1
  have h5 := hd_ (show orI 0 b = b by simp [orI])
  by_cases h2 : b = 0
  ·subst h2
   go_enter Tryz.func181, Tryz.ntmps181
   go_wp2_with fail;refine wp_loop_rounds 3 ?_
   rw [rounds_succ];go_wp2_with fail;rw [rounds_succ];go_wp2_with fail;rw [rounds_succ];go_wp2_with fail;go_ret;exact ⟨ret_int h5.out.symm, rfl⟩
  ·have h3 : (b != 0) = true := by simpa using h2
   go_enter Tryz.func181, Tryz.ntmps181
   go_wp2_with fail;refine wp_loop_rounds 3 ?_
   rw [rounds_succ];go_wp2_with fail;rw [rounds_succ];go_wp2_with fail;go_ret;exact ⟨ret_int h5.out.symm, rfl⟩
 ·have h5 := hd_ (show orI a b = a by simp [orI, h1])
  have h3 : (a != 0) = true := by simpa using h1
  go_enter Tryz.func181, Tryz.ntmps181
  go_wp2_with fail;refine wp_loop_rounds 3 ?_
  rw [rounds_succ];go_wp2_with fail;go_ret;exact ⟨ret_int h5.out.symm, rfl⟩
theorem zeroN_any (a i n : Int) (w : World) : Calls Tryz.prog 178 #[.agg #[.int .i64 a, .int .i64 i, .int .i64 n]] w fun e w' => e = .returned (.bool (decide (n ≤ 0))) ∧ Below w.heap.size w w' := by
 go_enter Tryz.func178, Tryz.ntmps178
 go_wp2_with fail;go_ret;exact ⟨rfl, (Below.refl _ _).alloc (Nat.le_refl _) _⟩
theorem sameI_anyCLK (a i n b j m : Int) (w : World) : Calls Tryz.prog 184 #[.agg #[.int .i64 a, .int .i64 i, .int .i64 n], .agg #[.int .i64 b, .int .i64 j, .int .i64 m]] w fun e w' => e = .returned (.bool (decide ((a, i) = (b, j)))) ∧ Below w.heap.size w w' := by
 have hb := hd_ fun o o' => (grew_two w o o').below
 by_cases h1 : a = b
 ·subst h1
  by_cases h2 : i = j
  ·subst h2
   go_enter Tryz.func184, Tryz.ntmps184
   go_wp2_with fail;go_ret;exact ⟨by simp, hb.out _ _⟩
  ·have h3 : (i == j) = false := by simpa using h2
   go_enter Tryz.func184, Tryz.ntmps184
   go_wp2_with fail;go_ret;exact ⟨by simp [h2], hb.out _ _⟩
 ·have h3 : (a == b) = false := by simpa using h1
  go_enter Tryz.func184, Tryz.ntmps184
  go_wp2_with fail;go_ret;exact ⟨by simp [h1], hb.out _ _⟩
end
end Go.Proofs.YthkkipbmlafdiaaGreat
