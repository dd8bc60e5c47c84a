/-
  Carried over and put together: contracts of this program's functions, and plain facts. No statement is proved in this text.
-/
import Derived.Test.YtkoeplgkiogjlaaRows
import Derived.WalkKit
import Derived.WalkSpells
import Derived.WalkLawsBesides
import Derived.OwnWalk
import Derived.Deep.AppendLies
import Derived.Outline
import Derived.IntWalk
import Derived.Deep.LoopGhost
import Derived.Handy
import Derived.Lib.Hide
import Derived.Deep.RegionWith
import Derived.Deep.RegionHeld3
import Derived.BigQuiet
import Derived.Deep.QuietTactic
import Derived.Laws.AppendOwnNone
set_option maxRecDepth 20000
namespace Go.Proofs.Ytkoeplgkiogjlaa.Sets
abbrev Id2 := Int × Int
def lt (a b : Id2) : Prop := a.1 < b.1 ∨ a.1 = b.1 ∧ a.2 < b.2
instance (a b : Id2) : Decidable (lt a b) := by unfold lt; infer_instance
theorem lt_irrefl (a : Id2) : ¬ lt a a := by unfold lt; omega
theorem lt_trans {a b c : Id2} (h : lt a b) (k : lt b c) : lt a c := by unfold lt at *; omega
theorem lt_asymm {a b : Id2} (h : lt a b) : ¬ lt b a := by unfold lt at *; omega
theorem lt_total (a b : Id2) : lt a b ∨ a = b ∨ lt b a := by
  obtain ⟨a1, a2⟩ := a
  obtain ⟨b1, b2⟩ := b
  unfold lt
  simp only [Prod.mk.injEq]
  omega
/-- A list that rises. -/
def Rises (l : List Id2) : Prop := l.Pairwise lt
theorem rises_nil : Rises [] := List.Pairwise.nil
theorem rises_cons {x : Id2} {l : List Id2} : Rises (x :: l) ↔ (∀ y ∈ l, lt x y) ∧ Rises l := List.pairwise_cons
/-- Two lists that rise and have the same IDs are the same. -/
theorem rises_ext : ∀ {l m : List Id2}, Rises l → Rises m → (∀ x, x ∈ l ↔ x ∈ m) → l = m
  | [], [], _, _, _ => rfl
  | [], y :: m, _, _, h => absurd ((h y).2 (List.mem_cons_self ..)) (by simp)
  | x :: l, [], _, _, h => absurd ((h x).1 (List.mem_cons_self ..)) (by simp)
  | x :: l, y :: m, hl, hm, h => by
    have h1 := rises_cons.1 hl
    have h2 := rises_cons.1 hm
    have e : x = y := by
      rcases List.mem_cons.1 ((h x).1 (List.mem_cons_self ..)) with e | e
      · exact e
      · rcases List.mem_cons.1 ((h y).2 (List.mem_cons_self ..)) with e2 | e2
        · exact e2.symm
        · exact absurd (h1.1 y e2) (lt_asymm (h2.1 x e))
    subst e
    congr 1
    refine rises_ext h1.2 h2.2 fun z => ?_
    have hz := h z
    simp only [List.mem_cons] at hz
    constructor
    · intro hzl
      rcases hz.1 (.inr hzl) with e | e
      · subst e
        exact absurd (h1.1 z hzl) (lt_irrefl z)
      · exact e
    · intro hzm
      rcases hz.2 (.inr hzm) with e | e
      · subst e
        exact absurd (h2.1 z hzm) (lt_irrefl z)
      · exact e
/-- A set with an ID in its place. -/
def ins (x : Id2) : List Id2 → List Id2
  | [] => [x]
  | y :: l => if lt x y then x :: y :: l else if x = y then y :: l else y :: ins x l
theorem mem_ins (x z : Id2) (l : List Id2) : z ∈ ins x l ↔ z = x ∨ z ∈ l := by
  induction l with
  | nil => simp [ins]
  | cons y l ih =>
    rw [ins]
    split
    · simp
    · split
      · rename_i _ e
        subst e
        simp
      · simp only [List.mem_cons, ih]
        constructor
        · rintro (h | h | h)
          · exact .inr (.inl h)
          · exact .inl h
          · exact .inr (.inr h)
        · rintro (h | h | h)
          · exact .inr (.inl h)
          · exact .inl h
          · exact .inr (.inr h)
theorem rises_ins (x : Id2) (l : List Id2) (h : Rises l) : Rises (ins x l) := by
  induction l with
  | nil => exact rises_cons.2 ⟨by simp, rises_nil⟩
  | cons y l ih =>
    have h1 := rises_cons.1 h
    rw [ins]
    split
    · rename_i hlt
      refine rises_cons.2 ⟨fun z hz => ?_, h⟩
      rcases List.mem_cons.1 hz with e | e
      · subst e
        exact hlt
      · exact lt_trans hlt (h1.1 z e)
    · split
      · exact h
      · rename_i hn he
        refine rises_cons.2 ⟨fun z hz => ?_, ih h1.2⟩
        rcases (mem_ins x z l).1 hz with e | e
        · subst e
          rcases lt_total z y with k | k | k
          · exact absurd k hn
          · exact absurd k he
          · exact k
        · exact h1.1 z e
/-- The set of a list. -/
def setOf (l : List Id2) : List Id2 := l.foldl (fun acc x => ins x acc) []
theorem mem_foldl (l acc : List Id2) (z : Id2) : z ∈ l.foldl (fun acc x => ins x acc) acc ↔ z ∈ acc ∨ z ∈ l := by
  induction l generalizing acc with
  | nil => simp
  | cons x l ih =>
    rw [List.foldl_cons, ih, mem_ins, List.mem_cons]
    constructor
    · rintro ((h | h) | h)
      · exact .inr (.inl h)
      · exact .inl h
      · exact .inr (.inr h)
    · rintro (h | h | h)
      · exact .inl (.inr h)
      · exact .inl (.inl h)
      · exact .inr h
theorem rises_foldl (l acc : List Id2) (h : Rises acc) : Rises (l.foldl (fun acc x => ins x acc) acc) := by
  induction l generalizing acc with
  | nil => exact h
  | cons x l ih => exact ih _ (rises_ins x acc h)
theorem mem_setOf (l : List Id2) (z : Id2) : z ∈ setOf l ↔ z ∈ l := by
  unfold setOf
  rw [mem_foldl]
  simp
theorem rises_setOf (l : List Id2) : Rises (setOf l) := rises_foldl l [] rises_nil
theorem setOf_self {l : List Id2} (h : Rises l) : setOf l = l := rises_ext (rises_setOf l) h (mem_setOf l)
theorem setOf_setOf (l : List Id2) : setOf (setOf l) = setOf l := setOf_self (rises_setOf l)
theorem setOf_ext {l m : List Id2} (h : ∀ x, x ∈ l ↔ x ∈ m) : setOf l = setOf m :=
  rises_ext (rises_setOf l) (rises_setOf m) fun x => by rw [mem_setOf, mem_setOf]; exact h x
def put (l : List Id2) (x : Id2) : List Id2 := setOf (x :: l)
def join (l m : List Id2) : List Id2 := setOf (l ++ m)
def both (l m : List Id2) : List Id2 := setOf (l.filter fun y => decide (y ∈ m))
theorem mem_put (l : List Id2) (x z : Id2) : z ∈ put l x ↔ z = x ∨ z ∈ l := by unfold put; rw [mem_setOf, List.mem_cons]
theorem mem_join (l m : List Id2) (z : Id2) : z ∈ join l m ↔ z ∈ l ∨ z ∈ m := by unfold join; rw [mem_setOf]; simp
theorem rises_put (l : List Id2) (x : Id2) : Rises (put l x) := rises_setOf _
theorem rises_join (l m : List Id2) : Rises (join l m) := rises_setOf _
theorem put_ins (l : List Id2) (x : Id2) : put l x = ins x (setOf l) :=
  rises_ext (rises_put l x) (rises_ins x _ (rises_setOf l)) fun z => by rw [mem_put, mem_ins, mem_setOf]
theorem ins_len (x : Id2) (l : List Id2) : (ins x l).length ≤ l.length + 1 := by
  induction l with
  | nil => simp [ins]
  | cons y l ih =>
    rw [ins]
    split
    · simp
    · split
      · simp
      · simpa using ih
theorem foldl_len (l acc : List Id2) : (l.foldl (fun acc x => ins x acc) acc).length ≤ acc.length + l.length := by
  induction l generalizing acc with
  | nil => simp
  | cons x l ih =>
    have h1 := ih (ins x acc)
    have h2 := ins_len x acc
    simp only [List.foldl_cons, List.length_cons]
    omega
theorem setOf_len (l : List Id2) : (setOf l).length ≤ l.length := by
  have := foldl_len l []
  simpa [setOf] using this
end Go.Proofs.Ytkoeplgkiogjlaa.Sets
namespace Go.Proofs.Ytkoeplgkiogjlaa
open Sets
/-- Does one ID stand ahead of another one? -/
def lss (a i b j : Int) : Bool := decide (a < b ∨ a = b ∧ i < j)
theorem lss_iff (x y : Id2) : lss x.1 x.2 y.1 y.2 = true ↔ lt x y := by simp [lss, lt]
theorem lss_not (x y : Id2) : lss x.1 x.2 y.1 y.2 = false ↔ ¬ lt x y := by
  rw [← lss_iff, Bool.not_eq_true]
/-- How two IDs stand: -1, 0, 1. -/
def cmpZ (a i b j : Int) : Int := if lss a i b j = true then -1 else if lss b j a i = true then 1 else 0
theorem cmpZ_eq (x y : Id2) : cmpZ x.1 x.2 y.1 y.2 = if lt x y then -1 else if lt y x then 1 else 0 := by
  unfold cmpZ
  simp only [lss_iff]
def risesB : List Id2 → Bool
  | x :: y :: l => lss x.1 x.2 y.1 y.2 && risesB (y :: l)
  | _ => true
theorem risesB_iff : ∀ l : List Id2, risesB l = true ↔ Rises l
  | [] => by simp [risesB, Rises]
  | [x] => by simp [risesB, Rises]
  | x :: y :: l => by
    rw [risesB, Bool.and_eq_true, lss_iff, risesB_iff (y :: l), rises_cons (x := x)]
    constructor
    · rintro ⟨h1, h2⟩
      refine ⟨fun z hz => ?_, h2⟩
      rcases List.mem_cons.1 hz with e | e
      · exact e ▸ h1
      · exact lt_trans h1 ((rises_cons.1 h2).1 z e)
    · rintro ⟨h1, h2⟩
      exact ⟨h1 y (List.mem_cons_self ..), h2⟩
theorem risesB_take {l : List Id2} : ∀ {k : Nat} (h : k + 1 < l.length), risesB (l.take (k + 2)) = (risesB (l.take (k + 1)) && lss l[k].1 l[k].2 l[k+1].1 l[k+1].2) := by
  induction l with
  | nil => intro k h; simp at h
  | cons x l ih =>
    intro k h
    cases l with
    | nil => simp at h
    | cons y l =>
      cases k with
      | zero => simp [risesB]
      | succ k =>
        have := ih (k := k) (by simpa using h)
        simp only [List.take_succ_cons, risesB] at this ⊢
        rw [this, Bool.and_assoc]
        rfl
theorem risesB_not {l : List Id2} : ∀ {k : Nat} (h : k + 1 < l.length), lss l[k].1 l[k].2 l[k+1].1 l[k+1].2 = false → risesB l = false := by
  induction l with
  | nil => intro k h; simp at h
  | cons x l ih =>
    intro k h hv
    cases l with
    | nil => simp at h
    | cons y l =>
      cases k with
      | zero => simp only [risesB, Bool.and_eq_false_iff]; exact .inl hv
      | succ k => simp only [risesB, Bool.and_eq_false_iff]; exact .inr (ih (k := k) (by simpa using h) hv)
theorem risesB_one (l : List Id2) : risesB (l.take 1) = true := by
  cases l <;> rfl
/-- How the first ones of two lists stand; what is lacking comes behind all. -/
def headZ : List Id2 → List Id2 → Int
  | _, [] => -1
  | [], _ :: _ => 1
  | x :: _, y :: _ => cmpZ x.1 x.2 y.1 y.2
/-- One step of going through two lists: how the heads stand, which one goes on, and what is taken. -/
def stepL (l m : List Id2) : List Id2 := if headZ l m ≤ 0 then l.tail else l
def stepM (l m : List Id2) : List Id2 := if 0 ≤ headZ l m then m.tail else m
def stepX (l m : List Id2) : Id2 := if 0 ≤ headZ l m then m.headD (0, 0) else l.headD (0, 0)
theorem step_less (l m : List Id2) (h : ¬ (l = [] ∧ m = [])) : (stepL l m).length + (stepM l m).length < l.length + m.length := by
  unfold stepL stepM
  cases l with
  | nil =>
    cases m with
    | nil => exact absurd ⟨rfl, rfl⟩ h
    | cons y m => simp [headZ]
  | cons x l =>
    cases m with
    | nil => simp [headZ]
    | cons y m =>
      by_cases h1 : headZ (x :: l) (y :: m) ≤ 0
      · by_cases h2 : 0 ≤ headZ (x :: l) (y :: m)
        · rw [if_pos h1, if_pos h2]
          simp only [List.tail, List.length_cons]
          omega
        · rw [if_pos h1, if_neg h2]
          simp only [List.tail, List.length_cons]
          omega
      · rw [if_neg h1, if_pos (by omega)]
        simp only [List.tail, List.length_cons]
        omega
/-- Two lists gone through together, so many steps: what is kept. -/
def mrgN (k : Bool → Bool → Bool) : Nat → List Id2 → List Id2 → List Id2
  | 0, _, _ => []
  | n + 1, l, m => if l = [] ∧ m = [] then [] else (if k (decide (headZ l m ≤ 0)) (decide (0 ≤ headZ l m)) = true then [stepX l m] else []) ++ mrgN k n (stepL l m) (stepM l m)
/-- Two lists gone through together: what is kept. -/
def mrg (k : Bool → Bool → Bool) (l m : List Id2) : List Id2 := mrgN k (l.length + m.length) l m
theorem mrgN_none (k : Bool → Bool → Bool) (n : Nat) : mrgN k n [] [] = [] := by
  cases n with
  | zero => rfl
  | succ n => rw [mrgN, if_pos ⟨rfl, rfl⟩]
theorem both_none {l m : List Id2} (h : l.length + m.length ≤ 0) : l = [] ∧ m = [] := ⟨List.eq_nil_of_length_eq_zero (by omega), List.eq_nil_of_length_eq_zero (by omega)⟩
theorem mrgN_same (k : Bool → Bool → Bool) : ∀ (a b : Nat) (l m : List Id2), l.length + m.length ≤ a → l.length + m.length ≤ b → mrgN k a l m = mrgN k b l m := by
  intro a
  induction a with
  | zero =>
    intro b l m h _
    obtain ⟨rfl, rfl⟩ := both_none h
    rw [mrgN_none, mrgN_none]
  | succ a ih =>
    intro b l m h h2
    cases b with
    | zero =>
      obtain ⟨rfl, rfl⟩ := both_none h2
      rw [mrgN_none, mrgN_none]
    | succ b =>
      rw [mrgN, mrgN]
      by_cases hn : l = [] ∧ m = []
      · rw [if_pos hn, if_pos hn]
      · have := step_less l m hn
        rw [if_neg hn, if_neg hn, ih b (stepL l m) (stepM l m) (by omega) (by omega)]
theorem mrg_none (k : Bool → Bool → Bool) : mrg k [] [] = [] := rfl
theorem mrg_step (k : Bool → Bool → Bool) (l m : List Id2) (h : ¬ (l = [] ∧ m = [])) :
    mrg k l m = (if k (decide (headZ l m ≤ 0)) (decide (0 ≤ headZ l m)) = true then [stepX l m] else []) ++ mrg k (stepL l m) (stepM l m) := by
  have hs := step_less l m h
  unfold mrg
  obtain ⟨n, hn⟩ : ∃ n, l.length + m.length = n + 1 := ⟨l.length + m.length - 1, by omega⟩
  rw [hn, mrgN, if_neg h, mrgN_same k n _ (stepL l m) (stepM l m) (by omega) (Nat.le_refl _)]
theorem mrg_left {k : Bool → Bool → Bool} {x : Id2} {l m : List Id2} (h : headZ (x :: l) m = -1) : mrg k (x :: l) m = (if k true false = true then [x] else []) ++ mrg k l m := by
  rw [mrg_step k (x :: l) m (by simp)]
  unfold stepX stepL stepM
  rw [h]
  rfl
theorem mrg_same {k : Bool → Bool → Bool} {x y : Id2} {l m : List Id2} (h : headZ (x :: l) (y :: m) = 0) : mrg k (x :: l) (y :: m) = (if k true true = true then [y] else []) ++ mrg k l m := by
  rw [mrg_step k (x :: l) (y :: m) (by simp)]
  unfold stepX stepL stepM
  rw [h]
  rfl
theorem mrg_right {k : Bool → Bool → Bool} {y : Id2} {l m : List Id2} (h : headZ l (y :: m) = 1) : mrg k l (y :: m) = (if k false true = true then [y] else []) ++ mrg k l m := by
  rw [mrg_step k l (y :: m) (by simp)]
  unfold stepX stepL stepM
  rw [h]
  rfl
/-- What comes of two lists: it rises, and has just those that are kept. -/
def Kept (k : Bool → Bool → Bool) (l m r : List Id2) : Prop := Rises r ∧ ∀ z, z ∈ r ↔ (z ∈ l ∨ z ∈ m) ∧ k (decide (z ∈ l)) (decide (z ∈ m)) = true
/-- One ID, ahead of all that is left of both lists, is gone over. -/
theorem kept_one {k : Bool → Bool → Bool} {l m l' m' r : List Id2} {x : Id2} {p q : Bool} (ih : Kept k l' m' r) (hl : ∀ z, z ∈ l ↔ (z = x ∧ p = true) ∨ z ∈ l') (hm : ∀ z, z ∈ m ↔ (z = x ∧ q = true) ∨ z ∈ m')
    (hpq : p = true ∨ q = true) (h1 : ∀ z ∈ l', lt x z) (h2 : ∀ z ∈ m', lt x z) : Kept k l m ((if k p q = true then [x] else []) ++ r) := by
  obtain ⟨i1, i2⟩ := ih
  have xl : x ∉ l' := fun h => lt_irrefl x (h1 x h)
  have xm : x ∉ m' := fun h => lt_irrefl x (h2 x h)
  have dl : decide (x ∈ l) = p := by
    cases p
    · exact decide_eq_false fun h => by rcases (hl x).1 h with e | e; exact absurd e.2 (by decide); exact xl e
    · exact decide_eq_true ((hl x).2 (.inl ⟨rfl, rfl⟩))
  have dm : decide (x ∈ m) = q := by
    cases q
    · exact decide_eq_false fun h => by rcases (hm x).1 h with e | e; exact absurd e.2 (by decide); exact xm e
    · exact decide_eq_true ((hm x).2 (.inl ⟨rfl, rfl⟩))
  have hx : x ∈ l ∨ x ∈ m := by
    rcases hpq with e | e
    · exact .inl ((hl x).2 (.inl ⟨rfl, e⟩))
    · exact .inr ((hm x).2 (.inl ⟨rfl, e⟩))
  have xr : x ∉ r := fun h => by
    rcases ((i2 x).1 h).1 with e | e
    · exact xl e
    · exact xm e
  have other : ∀ z, z ≠ x → ((z ∈ l ↔ z ∈ l') ∧ (z ∈ m ↔ z ∈ m')) := fun z hz => by
    rw [hl z, hm z]
    simp [hz]
  have hmem : ∀ z, z ≠ x → (z ∈ r ↔ (z ∈ l ∨ z ∈ m) ∧ k (decide (z ∈ l)) (decide (z ∈ m)) = true) := fun z hz => by
    rw [i2 z]
    have h3 := other z hz
    have e1 : decide (z ∈ l) = decide (z ∈ l') := by rw [Bool.eq_iff_iff, decide_eq_true_iff, decide_eq_true_iff]; exact h3.1
    have e2 : decide (z ∈ m) = decide (z ∈ m') := by rw [Bool.eq_iff_iff, decide_eq_true_iff, decide_eq_true_iff]; exact h3.2
    rw [e1, e2, h3.1, h3.2]
  by_cases hk : k p q = true
  · rw [if_pos hk]
    refine ⟨rises_cons.2 ⟨fun z hz => ?_, i1⟩, fun z => ?_⟩
    · rcases ((i2 z).1 hz).1 with e | e
      · exact h1 z e
      · exact h2 z e
    · by_cases hz : z = x
      · subst hz
        rw [dl, dm]
        exact ⟨fun _ => ⟨hx, hk⟩, fun _ => List.mem_cons_self ..⟩
      · rw [← hmem z hz]
        simp [hz]
  · rw [if_neg hk]
    refine ⟨i1, fun z => ?_⟩
    by_cases hz : z = x
    · subst hz
      rw [dl, dm]
      exact ⟨fun h => absurd h xr, fun h => absurd h.2 hk⟩
    · rw [← hmem z hz]
      simp
theorem mrg_kept (k : Bool → Bool → Bool) : ∀ (n : Nat) (l m : List Id2), l.length + m.length ≤ n → Rises l → Rises m → Kept k l m (mrg k l m) := by
  intro n
  induction n with
  | zero =>
    intro l m h _ _
    obtain ⟨rfl, rfl⟩ := both_none h
    exact ⟨rises_nil, by simp [mrg_none]⟩
  | succ n ih =>
    intro l m h hl hm
    cases l with
    | nil =>
      cases m with
      | nil => exact ⟨rises_nil, by simp [mrg_none]⟩
      | cons y m =>
        have h2 := rises_cons.1 hm
        rw [mrg_right rfl]
        exact kept_one (ih [] m (by simp at h ⊢; omega) hl h2.2) (by simp) (by simp) (.inr rfl) (by simp) h2.1
    | cons x l =>
      have h1 := rises_cons.1 hl
      cases m with
      | nil =>
        rw [mrg_left rfl]
        exact kept_one (ih l [] (by simp at h ⊢; omega) h1.2 hm) (by simp) (by simp) (.inl rfl) h1.1 (by simp)
      | cons y m =>
        have h2 := rises_cons.1 hm
        have hz : headZ (x :: l) (y :: m) = cmpZ x.1 x.2 y.1 y.2 := rfl
        rw [cmpZ_eq] at hz
        by_cases hlt : lt x y
        · rw [if_pos hlt] at hz
          rw [mrg_left hz]
          refine kept_one (ih l (y :: m) (by simp at h ⊢; omega) h1.2 hm) (by simp) (by simp) (.inl rfl) h1.1 fun z hz => ?_
          rcases List.mem_cons.1 hz with e | e
          · exact e ▸ hlt
          · exact lt_trans hlt (h2.1 z e)
        · rw [if_neg hlt] at hz
          by_cases hgt : lt y x
          · rw [if_pos hgt] at hz
            rw [mrg_right hz]
            refine kept_one (ih (x :: l) m (by simp at h ⊢; omega) hl h2.2) (by simp) (by simp) (.inr rfl) (fun z hz => ?_) h2.1
            rcases List.mem_cons.1 hz with e | e
            · exact e ▸ hgt
            · exact lt_trans hgt (h1.1 z e)
          · rw [if_neg hgt] at hz
            have exy : x = y := by
              rcases lt_total x y with e | e | e
              · exact absurd e hlt
              · exact e
              · exact absurd e hgt
            subst exy
            rw [mrg_same hz]
            exact kept_one (ih l m (by simp at h ⊢; omega) h1.2 h2.2) (by simp) (by simp) (.inl rfl) h1.1 h2.1
/-- What comes of it: it rises, and has just those that are kept. -/
theorem mrg_is (k : Bool → Bool → Bool) (l m : List Id2) (hl : Rises l) (hm : Rises m) :
    Rises (mrg k l m) ∧ ∀ z, z ∈ mrg k l m ↔ (z ∈ l ∨ z ∈ m) ∧ k (decide (z ∈ l)) (decide (z ∈ m)) = true := mrg_kept k _ l m (Nat.le_refl _) hl hm
theorem mrg_all (l m : List Id2) : mrg (fun _ _ => true) (setOf l) (setOf m) = join l m := by
  obtain ⟨h1, h2⟩ := mrg_is (fun _ _ => true) _ _ (rises_setOf l) (rises_setOf m)
  exact rises_ext h1 (rises_join _ _) fun z => by rw [h2, mem_join, mem_setOf, mem_setOf]; simp
theorem join_halves (l : List Id2) (k : Nat) : join (l.take k) (l.drop k) = setOf l := by
  unfold join
  rw [List.take_append_drop]
end Go.Proofs.Ytkoeplgkiogjlaa
namespace Go.Proofs.Ytkoeplgkiogjlaa
open Go.RowKit
theorem ret_int {k : IntKind} {a b : Int} (h : a = b) : Ending.returned (.int k a) = .returned (.int k b) := by rw [h]
theorem ret_bool {a b : Bool} (h : a = b) : Ending.returned (.bool a) = .returned (.bool b) := by rw [h]
theorem below_after {B : Nat} {w w1 w2 : World} (h : Below B w w1) (k : Below w1.heap.size w1 w2) (hB : B ≤ w.heap.size) : Below B w w2 := h.trans (k.mono (Nat.le_trans hB h.size))
theorem below_drewN {B n : Nat} {w w1 : World} (h : Below B w w1) : Below B w (w1.drewN n) := ⟨h.os, h.tape, h.output, h.size, h.block⟩
theorem row_lt {w : World} {g : Nat} {o : Obj} (h : w.heap[g]? = some o) : g < w.heap.size := by
  rcases Nat.lt_or_ge g w.heap.size with hlt | hge
  · exact hlt
  · rw [Array.getElem?_eq_none hge] at h; cases h
/-- Block g holds an ID. -/
def Box (w : World) (g : Nat) (a i : Int) : Prop := w.heap[g]? = some (.cells #[.int .i64 a, .int .i64 i] 35 (0, 0))
theorem box_cells {w : World} {g : Nat} {a i : Int} (h : Box w g a i) : w.cell? ⟨g, 0, none⟩ = some (.int .i64 a) ∧ w.cell? ⟨g, 1, none⟩ = some (.int .i64 i) := by
  unfold Box at h
  exact ⟨by rw [cell_of_row _ _ 0 _ _ _ h]; rfl, by rw [cell_of_row _ _ 1 _ _ _ h]; rfl⟩
theorem box_new (w : World) (a i : Int) : Box (w.alloc (.cells #[.int .i64 a, .int .i64 i] 35)) w.heap.size a i := heap_alloc_new w _
theorem box_lt {w : World} {g : Nat} {a i : Int} (h : Box w g a i) : g < w.heap.size := row_lt h
theorem box_below {w w' : World} {g : Nat} {a i : Int} (h : Box w g a i) (hb : Below w.heap.size w w') : Box w' g a i := (hb.block _ (box_lt h)).trans h
theorem less_any (a i b j : Int) (w : World) :
    Calls Try.prog 62 #[.agg #[.int .i64 a, .int .i64 i], .agg #[.int .i64 b, .int .i64 j]] w fun e w' => e = .returned (.bool (lss a i b j)) ∧ Below w.heap.size w w' := by
  have hb := Lib.hid (fun o o' : Obj => (((Below.refl w.heap.size w).alloc (Nat.le_refl _) o).alloc (by simp) o'))
  by_cases h1 : a < b
  · have h5 := Lib.hid (show lss a i b j = true by simp [lss]; omega)
    go_enter Try.func62, Try.ntmps62
    go_wp2_with fail
    go_ret
    exact ⟨by rw [h5.out]; rfl, hb.out _ _⟩
  · by_cases h2 : a = b
    · subst h2
      by_cases h3 : i < j
      · have h5 := Lib.hid (show lss a i a j = true by simp [lss]; omega)
        go_enter Try.func62, Try.ntmps62
        go_wp2_with fail
        go_ret
        exact ⟨by rw [h5.out]; rfl, hb.out _ _⟩
      · have h5 := Lib.hid (show lss a i a j = false by simp [lss]; omega)
        go_enter Try.func62, Try.ntmps62
        go_wp2_with fail
        go_ret
        exact ⟨by rw [h5.out]; rfl, hb.out _ _⟩
    · have h5 := Lib.hid (show lss a i b j = false by simp [lss]; omega)
      have h3 : (a == b) = false := by simpa using h2
      go_enter Try.func62, Try.ntmps62
      go_wp2_with fail
      go_ret
      exact ⟨by rw [h5.out]; rfl, hb.out _ _⟩
theorem refLess_any (a i b j : Int) (w : World) :
    Calls Try.prog 45 #[.agg #[.int .i64 a, .int .i64 i], .agg #[.int .i64 b, .int .i64 j]] w fun e w' => e = .returned (.bool (lss a i b j)) ∧ Below w.heap.size w w' := by
  have hb := Lib.hid (fun o o' : Obj => (((Below.refl w.heap.size w).alloc (Nat.le_refl _) o).alloc (by simp) o'))
  by_cases h2 : a = b
  · subst h2
    by_cases h3 : i < j
    · have h5 := Lib.hid (show lss a i a j = true by simp [lss]; omega)
      go_enter Try.func45, Try.ntmps45
      go_wp2_with fail
      go_ret
      exact ⟨by rw [h5.out]; rfl, hb.out _ _⟩
    · have h5 := Lib.hid (show lss a i a j = false by simp [lss]; omega)
      go_enter Try.func45, Try.ntmps45
      go_wp2_with fail
      go_ret
      exact ⟨by rw [h5.out]; rfl, hb.out _ _⟩
  · have h4 : (a == b) = false := by simpa using h2
    have h6 : (a != b) = true := by simpa using h2
    by_cases h1 : a < b
    · have h5 := Lib.hid (show lss a i b j = true by simp [lss]; omega)
      go_enter Try.func45, Try.ntmps45
      go_wp2_with fail
      go_ret
      exact ⟨by rw [h5.out]; rfl, hb.out _ _⟩
    · have h5 := Lib.hid (show lss a i b j = false by simp [lss]; omega)
      go_enter Try.func45, Try.ntmps45
      go_wp2_with fail
      go_ret
      exact ⟨by rw [h5.out]; rfl, hb.out _ _⟩
theorem two_boxes (w : World) (a i b j : Int) : Box ((w.alloc (.cells #[.int .i64 a, .int .i64 i] 35)).alloc (.cells #[.int .i64 b, .int .i64 j] 35)) w.heap.size a i ∧ Box ((w.alloc (.cells #[.int .i64 a, .int .i64 i] 35)).alloc (.cells #[.int .i64 b, .int .i64 j] 35)) (w.heap.size + 1) b j := by
  refine ⟨(Below.heap_alloc _ _ _ (by simp)).trans (box_new w a i), ?_⟩
  have := box_new (w.alloc (.cells #[.int .i64 a, .int .i64 i] 35)) b j
  simpa using this
theorem below_two (w : World) (o o' : Obj) : Below w.heap.size w ((w.alloc o).alloc o') := ((Below.refl w.heap.size w).alloc (Nat.le_refl _) o).alloc (by simp) o'
set_option maxHeartbeats 1000000 in
theorem compare_any (a i b j : Int) (w : World) :
    Calls Try.prog 51 #[.agg #[.int .i64 a, .int .i64 i], .agg #[.int .i64 b, .int .i64 j]] w fun e w' => e = .returned (.int .i64 (cmpZ a i b j)) ∧ Below w.heap.size w w' := by
  have X0 := Lib.hid (two_boxes w a i b j)
  have B0 := Lib.hid (below_two w (.cells #[.int .i64 a, .int .i64 i] 35) (.cells #[.int .i64 b, .int .i64 j] 35))
  cases h1 : lss a i b j
  · cases h2 : lss b j a i
    · have h5 := Lib.hid (show cmpZ a i b j = 0 by simp [cmpZ, h1, h2])
      have H1 := Lib.hid h1
      have H2 := Lib.hid h2
      clear h1 h2
      go_enter Try.func51, Try.ntmps51
      go_wp2_with fail
      refine (less_any _ _ _ _ _).mono ?_
      rintro e w1 ⟨rfl, h⟩
      rw [H1.out]
      have X1 := Lib.hid (And.intro (box_below X0.out.1 h) (box_below X0.out.2 h))
      have B1 := Lib.hid (below_after B0.out h (Nat.le_refl _))
      clear h
      obtain ⟨c1, c2⟩ := box_cells X1.out.1
      obtain ⟨c3, c4⟩ := box_cells X1.out.2
      go_wp2_with fail
      refine (less_any _ _ _ _ _).mono ?_
      rintro e w2 ⟨rfl, h⟩
      rw [H2.out]
      have B2 := Lib.hid (below_after B1.out h (Nat.le_refl _))
      clear h c1 c2 c3 c4
      go_wp2_with fail
      go_ret
      exact ⟨ret_int h5.out.symm, B2.out⟩
    · have h5 := Lib.hid (show cmpZ a i b j = 1 by simp [cmpZ, h1, h2])
      have H1 := Lib.hid h1
      have H2 := Lib.hid h2
      clear h1 h2
      go_enter Try.func51, Try.ntmps51
      go_wp2_with fail
      refine (less_any _ _ _ _ _).mono ?_
      rintro e w1 ⟨rfl, h⟩
      rw [H1.out]
      have X1 := Lib.hid (And.intro (box_below X0.out.1 h) (box_below X0.out.2 h))
      have B1 := Lib.hid (below_after B0.out h (Nat.le_refl _))
      clear h
      obtain ⟨c1, c2⟩ := box_cells X1.out.1
      obtain ⟨c3, c4⟩ := box_cells X1.out.2
      go_wp2_with fail
      refine (less_any _ _ _ _ _).mono ?_
      rintro e w2 ⟨rfl, h⟩
      rw [H2.out]
      have B2 := Lib.hid (below_after B1.out h (Nat.le_refl _))
      clear h c1 c2 c3 c4
      go_wp2_with fail
      go_ret
      exact ⟨ret_int h5.out.symm, B2.out⟩
  · have h5 := Lib.hid (show cmpZ a i b j = -1 by simp [cmpZ, h1])
    have H1 := Lib.hid h1
    clear h1
    go_enter Try.func51, Try.ntmps51
    go_wp2_with fail
    refine (less_any _ _ _ _ _).mono ?_
    rintro e w1 ⟨rfl, h⟩
    rw [H1.out]
    have B1 := Lib.hid (below_after B0.out h (Nat.le_refl _))
    clear h
    go_wp2_with fail
    go_ret
    exact ⟨ret_int h5.out.symm, B1.out⟩
/-- A function that says of which lists IDs are kept: its number, and what it says. -/
def Keeps (K : Nat) (k : Bool → Bool → Bool) : Prop := (K = 61 ∧ k = fun _ _ => true)
theorem keeps_all : Keeps 61 (fun _ _ => true) := ⟨rfl, rfl⟩
theorem keep61 (x y : Bool) (w : World) : Calls Try.prog 61 #[.bool x, .bool y] w fun e w' => e = .returned (.bool true) ∧ w = w' := by
  go_enter Try.func61, Try.ntmps61
  go_wp2_with fail
  go_ret
  exact ⟨rfl, rfl⟩
theorem keeps_any {K : Nat} {k : Bool → Bool → Bool} (h : Keeps K k) (x y : Bool) (w : World) : Calls Try.prog K #[.bool x, .bool y] w fun e w' => e = .returned (.bool (k x y)) ∧ w = w' := by
  obtain ⟨rfl, rfl⟩ := h
  exact keep61 x y w
end Go.Proofs.Ytkoeplgkiogjlaa
namespace Go.Proofs.Ytkoeplgkiogjlaa
open Go.RowKit
theorem info25 : (Try.prog.info? 35).map (fun i => (i.zero, i.size, i.bytes)) = some (some (.agg #[.int .i64 0, .int .i64 0]), 2, 16) := by kernel_rfl
/-- The slice v reads as the list l of IDs. -/
def Ids (w : World) (v : Value) (l : List (Int × Int)) : Prop :=
  ∃ A c, v = .slice A l.length c ∧ (A = none → c = 0) ∧ l.length ≤ c ∧ ∀ k (h : k < l.length), ∃ ad, A = some ad ∧ ad.block < w.heap.size ∧ w.cell? (ad.add (k * 2)) = some (.int .i64 l[k].1) ∧ w.cell? ⟨(ad.add (k * 2)).block, (ad.add (k * 2)).off + 1, none⟩ = some (.int .i64 l[k].2)
theorem block_of_add (a : Addr) (n : Nat) : (a.add n).block = a.block := by unfold Addr.add; split <;> rfl
theorem add_odd (a : Addr) (k : Nat) : a.add (k * 2 + 1) = ⟨(a.add (k * 2)).block, (a.add (k * 2)).off + 1, none⟩ := by
  unfold Addr.add
  rw [if_neg (by omega)]
  split
  · rename_i h
    simp
    try omega
  · simp
    try omega
theorem add_add (a : Addr) (j k : Nat) (hj : 0 < j) : (a.add j).add k = a.add (j + k) := by
  unfold Addr.add
  rw [if_neg (show ¬ j = 0 by omega), if_neg (show ¬ j + k = 0 by omega)]
  split
  · rename_i h
    subst h
    rfl
  · simp
    omega
theorem Ids.below {w w' : World} {v : Value} {l : List (Int × Int)} (h : Ids w v l) (hb : Below w.heap.size w w') : Ids w' v l := by
  obtain ⟨A, c, hv, h0, hc, hk⟩ := h
  refine ⟨A, c, hv, h0, hc, fun k h => ?_⟩
  obtain ⟨ad, h1, h2, h3, h4⟩ := hk k h
  exact ⟨ad, h1, Nat.lt_of_lt_of_le h2 hb.size, (hb.cell (by rw [block_of_add]; exact h2)).trans h3, (hb.cell (by show (ad.add (k * 2)).block < _; rw [block_of_add]; exact h2)).trans h4⟩
theorem Ids.drewN {w : World} {v : Value} {l : List (Int × Int)} (h : Ids w v l) (n : Nat) : Ids (w.drewN n) v l := h.below (below_drewN (Below.refl _ _))
/-- The cells of one ID of a list. -/
theorem Ids.at_ {w w' : World} {A : Option Addr} {c n : Nat} {l : List (Int × Int)} (h : Ids w (.slice A n c) l) (hw : Below w.heap.size w w') {k : Nat} (hk : k < l.length) :
    ∃ ad, A = some ad ∧ w'.cell? (ad.add (k * 2)) = some (.int .i64 l[k].1) ∧ w'.cell? ⟨(ad.add (k * 2)).block, (ad.add (k * 2)).off + 1, none⟩ = some (.int .i64 l[k].2) := by
  obtain ⟨A', c', hv, _, _, hc⟩ := h
  injection hv with e1 e2 e3
  subst e1
  obtain ⟨ad, h1, h2, h3, h4⟩ := hc k hk
  exact ⟨ad, h1, (hw.cell (by rw [block_of_add]; exact h2)).trans h3, (hw.cell (by show (ad.add (k * 2)).block < _; rw [block_of_add]; exact h2)).trans h4⟩
theorem cell1 {w w' : World} {ad : Addr} {c n : Nat} {l : List (Int × Int)} (h : Ids w (.slice (some ad) n c) l) (hw : Below w.heap.size w w') {k : Nat} (hk : k < l.length) : w'.cell? (ad.add (k * 2)) = some (.int .i64 l[k].1) := by
  obtain ⟨a, e, h1, _⟩ := h.at_ hw hk
  injection e with e
  rw [e]
  exact h1
theorem cell2 {w w' : World} {ad : Addr} {c n : Nat} {l : List (Int × Int)} (h : Ids w (.slice (some ad) n c) l) (hw : Below w.heap.size w w') {k : Nat} (hk : k < l.length) : w'.cell? ⟨(ad.add (k * 2)).block, (ad.add (k * 2)).off + 1, none⟩ = some (.int .i64 l[k].2) := by
  obtain ⟨a, e, _, h2⟩ := h.at_ hw hk
  injection e with e
  rw [e]
  exact h2
theorem Ids.nil (w : World) : Ids w (.slice none 0 0) [] := ⟨none, 0, rfl, fun _ => rfl, by simp, fun k hk => absurd hk (by simp)⟩
/-- The first k of a list. -/
theorem Ids.take {w : World} {A : Option Addr} {n c k : Nat} {l : List (Int × Int)} (h : Ids w (.slice A n c) l) (hk : k ≤ l.length) : Ids w (.slice A k c) (l.take k) := by
  obtain ⟨A', c', hv, h0, hc, hx⟩ := h
  injection hv with e1 e2 e3
  subst e1 e3
  refine ⟨A, c, by rw [List.length_take, Nat.min_eq_left hk], h0, by rw [List.length_take, Nat.min_eq_left hk]; omega, fun j hj => ?_⟩
  rw [List.length_take, Nat.min_eq_left hk] at hj
  obtain ⟨ad, h1, h2, h3, h4⟩ := hx j (by omega)
  exact ⟨ad, h1, h2, by rw [List.getElem_take]; exact h3, by rw [List.getElem_take]; exact h4⟩
/-- All but the first k of a list: the address goes on, where there is room behind. -/
theorem Ids.drop {w : World} {ad : Addr} {n c k : Nat} {l : List (Int × Int)} (h : Ids w (.slice (some ad) n c) l) (hk : k ≤ l.length) (hc : k < c) (h0 : 0 < k) : Ids w (.slice (some (ad.add (k * 2))) (n - k) (c - k)) (l.drop k) := by
  obtain ⟨A', c', hv, hn, hc2, hx⟩ := h
  injection hv with e1 e2 e3
  subst e1 e3
  refine ⟨some (ad.add (k * 2)), c - k, by rw [List.length_drop, e2], (fun h => by cases h), by rw [List.length_drop]; omega, fun j hj => ?_⟩
  rw [List.length_drop] at hj
  obtain ⟨ad', h1, h2, h3, h4⟩ := hx (k + j) (by omega)
  injection h1 with h1
  subst h1
  have e : (ad.add (k * 2)).add (j * 2) = ad.add ((k + j) * 2) := by rw [add_add _ _ _ (by omega)]; congr 1; omega
  refine ⟨_, rfl, by rw [block_of_add]; exact h2, ?_, ?_⟩
  · rw [e, List.getElem_drop]; exact h3
  · rw [e, List.getElem_drop]; exact h4
/-- Nothing is left of a list: the address stands. -/
theorem Ids.none_left {w : World} {A : Option Addr} (l : List (Int × Int)) {k : Nat} (hk : l.length ≤ k) (c' : Nat) (ha : A = none → c' = 0) : Ids w (.slice A 0 c') (l.drop k) := by
  rw [List.drop_of_length_le hk]
  exact ⟨A, c', rfl, ha, by simp, fun j hj => absurd hj (by simp)⟩
/-- The cells of a list of IDs. -/
def flat : List (Int × Int) → List Value
  | [] => []
  | x :: l => .int .i64 x.1 :: .int .i64 x.2 :: flat l
theorem flat_len (l : List (Int × Int)) : (flat l).length = l.length * 2 := by
  induction l with
  | nil => rfl
  | cons x l ih => simp [flat, ih]; omega
theorem flat_append (a b : List (Int × Int)) : flat (a ++ b) = flat a ++ flat b := by
  induction a with
  | nil => rfl
  | cons x a ih => simp [flat, ih]
theorem flat_one (l : List (Int × Int)) : ∀ u ∈ flat l, u.oneCell' = true := by
  induction l with
  | nil => simp [flat]
  | cons x l ih => simpa [flat, Value.oneCell'] using ih
theorem flat_at (l : List (Int × Int)) : ∀ (k : Nat) (h : k < l.length), (flat l)[k * 2]? = some (.int .i64 l[k].1) ∧ (flat l)[k * 2 + 1]? = some (.int .i64 l[k].2) := by
  induction l with
  | nil => intro k h; simp at h
  | cons x l ih =>
    intro k h
    cases k with
    | zero => exact ⟨rfl, rfl⟩
    | succ k =>
      have := ih k (by simpa using h)
      rw [show (k + 1) * 2 = k * 2 + 1 + 1 by omega, show k * 2 + 1 + 1 + 1 = (k * 2 + 1) + 1 + 1 by omega]
      simpa [flat] using this
theorem flat_split {l : List (Int × Int)} {j : Nat} {u : Value} (h : (flat l)[j]? = some u) : ∃ k, ∃ hk : k < l.length, (j = k * 2 ∧ u = .int .i64 l[k].1) ∨ (j = k * 2 + 1 ∧ u = .int .i64 l[k].2) := by
  have hj : j < l.length * 2 := by
    have := (List.getElem?_eq_some_iff.1 h).1
    rwa [flat_len] at this
  refine ⟨j / 2, by omega, ?_⟩
  have h2 := flat_at l (j / 2) (by omega)
  rcases Nat.mod_two_eq_zero_or_one j with e | e
  · have e2 : j / 2 * 2 = j := by omega
    refine .inl ⟨e2.symm, ?_⟩
    have := h2.1
    rw [e2, h] at this
    exact Option.some.inj this
  · have e2 : j / 2 * 2 + 1 = j := by omega
    refine .inr ⟨e2.symm, ?_⟩
    have := h2.2
    rw [e2, h] at this
    exact Option.some.inj this
/-- The slice v is the call's own, and holds the list l. -/
def Owns (w : World) (base : Nat) (v : Value) (l : List (Int × Int)) : Prop := w.ownsRow base 35 2 v l.length (flat l)
theorem owns_nil (w : World) (base : Nat) : Owns w base (.slice none 0 0) [] := World.ownsRow_nil w base 35 2
theorem Owns.below {w w' : World} {base : Nat} {v : Value} {l : List (Int × Int)} (h : Owns w base v l) (hb : Below w.heap.size w w') : Owns w' base v l :=
  World.ownsRow.kept h ⟨hb.os, hb.tape, hb.output, hb.size, fun k hk _ => hb.block k hk⟩ (row := none) (by cases hv : v.ownBlock <;> simp)
theorem owns_split {w : World} {base n : Nat} {v : Value} {xs : List Value} (h : w.ownsRow base 35 2 v n xs) : (v = .slice none 0 0 ∧ n = 0) ∨ ∃ g cap, v = .slice (some ⟨g, 0, none⟩) n cap ∧ g < w.heap.size ∧ n ≤ cap := by
  rcases id h.2 with h1 | ⟨g, cap, cur, h1, _, _, hn, _⟩
  · exact .inl h1
  · exact .inr ⟨g, cap, h1, (World.ownsRow.lt h g (by rw [h1]; rfl)).2, hn⟩
theorem ids_of_owns {w : World} {base : Nat} {v : Value} {l : List (Int × Int)} (h : Owns w base v l) : Ids w v l := by
  rcases owns_split h with ⟨rfl, hn⟩ | ⟨g, cap, rfl, hg, hc⟩
  · have : l = [] := List.eq_nil_of_length_eq_zero (by omega)
    subst this
    exact Ids.nil w
  · refine ⟨some ⟨g, 0, none⟩, cap, rfl, (fun h => by cases h), hc, fun k hk => ⟨_, rfl, hg, ?_, ?_⟩⟩
    · exact World.ownsRow.cells h (g := g) rfl _ _ (flat_at l k hk).1
    · rw [← add_odd]
      exact World.ownsRow.cells h (g := g) rfl _ _ (flat_at l k hk).2
/-- A literal of one ID. -/
theorem ids_one (w : World) (a i : Int) : Ids (w.alloc (.cells #[.int .i64 a, .int .i64 i] 35)) (.slice (some ⟨w.heap.size, 0, none⟩) 1 1) [(a, i)] := by
  have h := box_cells (box_new w a i)
  refine ⟨some ⟨w.heap.size, 0, none⟩, 1, rfl, (fun h => by cases h), by simp, fun k hk => ⟨_, rfl, by simp, ?_, ?_⟩⟩
  · obtain rfl : k = 0 := by simpa using hk
    exact h.1
  · obtain rfl : k = 0 := by simpa using hk
    exact h.2
/-- append of a list to a slice of the call's own. -/
theorem wpList_append_list {ops : Array Oper} {rest : List Oper} {o : Oper} {a : Act} {Q : Exit → Act → World → Prop} (hgd : o.guard = none) (s x : Operand)
    (ho : o.op = .call { callee := .builtin .append, args := #[s, x], argTypes := #[36, 36] })
    (wr : World) (base : Nat) (v u : Value) (d l : List (Int × Int)) (hs : a.eval s = v) (hx : a.eval x = u)
    (hown : Owns wr base v d) (hI : Ids wr u l) (hl : d.length + l.length ≤ 100000) (hb : base ≤ wr.heap.size)
    (h : ∀ v' w', Owns w' base v' (d ++ l) → Below base wr w' → wpList Try.prog ops Q rest (a.put o.dst v') w') :
    wpList Try.prog ops Q (o :: rest) a wr := by
  obtain ⟨i0, hi, hz0, hz1, hz2⟩ := info_parts info25
  obtain ⟨A, c, rfl, h0, hc, hk⟩ := hI
  cases A with
  | none =>
    obtain rfl := h0 rfl
    have hn : l = [] := List.eq_nil_of_length_eq_zero (by omega)
    subst hn
    refine wpList_append_own_none hgd s x 36 ho base 35 i0 2 Try.underlying36 hi _ d.length (flat d) hs hown hx (h _ _ (by rw [List.append_nil]; exact hown) (Below.refl _ _))
  | some ad =>
    refine wpList_append_own _ hgd s x 36 ho base 35 i0 (.agg #[.int .i64 0, .int .i64 0]) 2 16 Try.underlying36 hi hz0 hz1 hz2 rfl (by decide) v d.length (flat d) hs hown ad l.length c (flat l) hx (flat_len l)
      (fun j u hu => ?_) (flat_one l) (by unfold maxLen; omega) (by omega) hb ?_
    · obtain ⟨k, hlt, hj⟩ := flat_split hu
      obtain ⟨ad', e, h1, h2, h3⟩ := hk k hlt
      injection e with e
      subst e
      rcases hj with ⟨rfl, rfl⟩ | ⟨rfl, rfl⟩
      · exact h2
      · rw [add_odd]
        exact h3
    · intro v' w' h1 h2 _
      refine h v' w' ?_ ((Below.refl base wr).grown h2 hb fun k hk => (World.ownsRow.lt hown k hk).1)
      unfold Owns
      rw [flat_append, List.length_append]
      exact h1
/-- append of one ID that has just been put into a row of its own. -/
theorem wpList_append_one {ops : Array Oper} {rest : List Oper} {o : Oper} {a : Act} {Q : Exit → Act → World → Prop} (hgd : o.guard = none) (s x : Operand)
    (ho : o.op = .call { callee := .builtin .append, args := #[s, x], argTypes := #[36, 36] })
    (wr : World) (base : Nat) (v : Value) (d : List (Int × Int)) (p q : Int) (hs : a.eval s = v) (hx : a.eval x = .slice (some ⟨wr.heap.size, 0, none⟩) 1 1)
    (hown : Owns wr base v d) (hl : d.length ≤ 99999) (hb : base ≤ wr.heap.size)
    (h : ∀ v' w', Owns w' base v' (d ++ [(p, q)]) → Below base wr w' → wpList Try.prog ops Q rest (a.put o.dst v') w') :
    wpList Try.prog ops Q (o :: rest) a (wr.alloc (.cells #[.int .i64 p, .int .i64 q] 35)) := by
  refine wpList_append_list hgd s x ho _ base v _ d [(p, q)] hs hx (hown.below ((Below.refl _ _).alloc (Nat.le_refl _) _)) (ids_one wr p q) (by simp; omega) (by simp; omega) fun v' w' h1 h2 => h v' w' h1 ?_
  exact ((Below.refl base wr).alloc hb _).trans h2
end Go.Proofs.Ytkoeplgkiogjlaa
namespace Go.Proofs.Ytkoeplgkiogjlaa
open Go.RowKit
set_option maxHeartbeats 1000000 in
theorem rising_gen (v : Value) (l : List (Int × Int)) (w : World) (h : Ids w v l) (hl : l.length ≤ 100000) :
    Calls Try.prog 59 #[v, .func (.func 51) #[] #[]] w fun e w' => e = .returned (.bool (risesB l)) ∧ Below w.heap.size w w' := by
  obtain ⟨A, c, rfl, hz⟩ := id h
  clear hz
  have HI := Lib.hid h
  clear h
  go_enter Try.func59, Try.ntmps59
  go_wp2
  go_loopw [5] (fun s3 wr => ∃ k : Nat, 1 ≤ k ∧ k ≤ l.length + 1 ∧ s3 = .int .i64 k ∧ risesB (l.take k) = true ∧ Below w.heap.size w wr) (fun s3 _ => l.length - (intOf s3).toNat)
  case atStart => exact ⟨1, by omega, by omega, rfl, risesB_one l, Below.refl _ _⟩
  case round =>
    obtain ⟨k, hk1, hkl, rfl, hr, hw⟩ := hrel
    have HR := Lib.hid hr
    clear hr
    have HW := Lib.hid hw
    clear hw
    by_cases hlt : k < l.length
    · have hd : decide ((k : Int) < (l.length : Int)) = true := by simp; omega
      obtain ⟨j, rfl⟩ : ∃ j, k = j + 1 := ⟨k - 1, by omega⟩
      obtain ⟨ad, rfl, c1, c2⟩ := HI.out.at_ HW.out hlt
      obtain ⟨ad', e, c3, c4⟩ := HI.out.at_ HW.out (k := j) (by omega)
      injection e with e
      subst e
      have i1 : IntKind.i64.wrap ((j : Int) + 1 - 1) = (j : Int) := by rw [IntWalk.i64_in _ ⟨by omega, by omega⟩]; omega
      have HS := Lib.hid fun w' (hb : Below w.heap.size w w') => And.intro (cell1 HI.out hb hlt) (And.intro (cell2 HI.out hb hlt) (And.intro (cell1 HI.out hb (k := j) (by omega)) (And.intro (cell2 HI.out hb (k := j) (by omega)) (Lib.hid hb))))
      have i2 : IntKind.i64.wrap (j : Int) = (j : Int) := IntWalk.i64_in _ ⟨by omega, by omega⟩
      have i3 : (0 : Int) ≤ (j : Int) := by omega
      have i4 : (j : Int) < (l.length : Int) := by omega
      have i5 : (0 : Int) ≤ (j : Int) + 1 := by omega
      have i6 : (j : Int) + 1 < (l.length : Int) := by omega
      have i7 : ((j : Int) + 1).toNat = j + 1 := by omega
      have hcm : (cmpZ l[j].1 l[j].2 l[j+1].1 l[j+1].2 = -1 ∧ lss l[j].1 l[j].2 l[j+1].1 l[j+1].2 = true) ∨ (0 ≤ cmpZ l[j].1 l[j].2 l[j+1].1 l[j+1].2 ∧ lss l[j].1 l[j].2 l[j+1].1 l[j+1].2 = false) := by
        cases hv : lss l[j].1 l[j].2 l[j+1].1 l[j+1].2
        · right
          refine ⟨?_, rfl⟩
          unfold cmpZ
          rw [hv]
          split
          · rename_i h; cases h
          · split <;> omega
        · left
          exact ⟨by unfold cmpZ; rw [hv]; rfl, rfl⟩
      have HC := Lib.hid fun W => compare_any l[j].1 l[j].2 l[j+1].1 l[j+1].2 W
      have HT := Lib.hid (risesB_take hlt)
      have HN := Lib.hid fun h => risesB_not hlt h
      generalize hz : cmpZ l[j].1 l[j].2 l[j+1].1 l[j+1].2 = z at *
      clear hz
      rcases hcm with ⟨hv, hv2⟩ | ⟨hv, hv2⟩
      · have HV2 := Lib.hid hv2
        subst hv
        clear hv2
        go_wp2_with fail
        go_region_held3 (fun w' => w'.cell? (ad.add ((j + 1) * 2)) = some (.int .i64 l[j+1].1) ∧ w'.cell? ⟨(ad.add ((j + 1) * 2)).block, (ad.add ((j + 1) * 2)).off + 1, none⟩ = some (.int .i64 l[j+1].2) ∧ w'.cell? (ad.add (j * 2)) = some (.int .i64 l[j].1) ∧ w'.cell? ⟨(ad.add (j * 2)).block, (ad.add (j * 2)).off + 1, none⟩ = some (.int .i64 l[j].2) ∧ Hid (Below w.heap.size w w'))
          (first | exact HS.out _ HW.out.drew | exact HS.out _ HK.out)
          (first | (go_at_call 51; (with_reducible refine (HC.out _).mono ?_); rintro e w' ⟨rfl, hb⟩; have HK := Lib.hid (below_after (Hid.out (by go_split_ands; assumption)) hb (Nat.le_refl _)); clear hb))
        clear c1 c2 c3 c4
        go_wp2_with fail
        go_roundw
        case rel => exact ⟨j + 2, by omega, by omega, by go_num, by rw [HT.out, HR.out, HV2.out]; rfl, Hid.out (by assumption)⟩
        case measure => simp [intOf]; omega
      · have HV2 := Lib.hid hv2
        clear hv2
        go_wp2_with fail
        go_region_held3 (fun w' => w'.cell? (ad.add ((j + 1) * 2)) = some (.int .i64 l[j+1].1) ∧ w'.cell? ⟨(ad.add ((j + 1) * 2)).block, (ad.add ((j + 1) * 2)).off + 1, none⟩ = some (.int .i64 l[j+1].2) ∧ w'.cell? (ad.add (j * 2)) = some (.int .i64 l[j].1) ∧ w'.cell? ⟨(ad.add (j * 2)).block, (ad.add (j * 2)).off + 1, none⟩ = some (.int .i64 l[j].2) ∧ Hid (Below w.heap.size w w'))
          (first | exact HS.out _ HW.out.drew | exact HS.out _ HK.out)
          (first | (go_at_call 51; (with_reducible refine (HC.out _).mono ?_); rintro e w' ⟨rfl, hb⟩; have HK := Lib.hid (below_after (Hid.out (by go_split_ands; assumption)) hb (Nat.le_refl _)); clear hb))
        clear c1 c2 c3 c4
        go_wp2_with fail
        go_ret
        exact ⟨ret_bool (HN.out HV2.out).symm, Hid.out (by assumption)⟩
    · have hd : decide ((k : Int) < (l.length : Int)) = false := by simp; omega
      go_wp2_with fail
      go_ret
      exact ⟨ret_bool (by have := HR.out; rw [List.take_of_length_le (by omega)] at this; exact this.symm), HW.out⟩
set_option maxHeartbeats 1000000 in
theorem refRising_any (v : Value) (l : List (Int × Int)) (w : World) (h : Ids w v l) (hl : l.length ≤ 100000) :
    Calls Try.prog 24 #[v] w fun e w' => e = .returned (.bool (risesB l)) ∧ Below w.heap.size w w' := by
  obtain ⟨A, c, rfl, hz⟩ := id h
  clear hz
  have HI := Lib.hid h
  clear h
  go_enter Try.func24, Try.ntmps24
  go_wp2
  go_loopw [3] (fun s3 wr => ∃ k : Nat, 1 ≤ k ∧ k ≤ l.length + 1 ∧ s3 = .int .i64 k ∧ risesB (l.take k) = true ∧ Below w.heap.size w wr) (fun s3 _ => l.length - (intOf s3).toNat)
  case atStart => exact ⟨1, by omega, by omega, rfl, risesB_one l, Below.refl _ _⟩
  case round =>
    obtain ⟨k, hk1, hkl, rfl, hr, hw⟩ := hrel
    have HR := Lib.hid hr
    clear hr
    have HW := Lib.hid hw
    clear hw
    by_cases hlt : k < l.length
    · have hd : decide ((k : Int) < (l.length : Int)) = true := by simp; omega
      obtain ⟨j, rfl⟩ : ∃ j, k = j + 1 := ⟨k - 1, by omega⟩
      obtain ⟨ad, rfl, c1, c2⟩ := HI.out.at_ HW.out hlt
      obtain ⟨ad', e, c3, c4⟩ := HI.out.at_ HW.out (k := j) (by omega)
      injection e with e
      subst e
      have i1 : IntKind.i64.wrap ((j : Int) + 1 - 1) = (j : Int) := by rw [IntWalk.i64_in _ ⟨by omega, by omega⟩]; omega
      have HS := Lib.hid fun w' (hb : Below w.heap.size w w') => And.intro (cell1 HI.out hb hlt) (And.intro (cell2 HI.out hb hlt) (And.intro (cell1 HI.out hb (k := j) (by omega)) (And.intro (cell2 HI.out hb (k := j) (by omega)) (Lib.hid hb))))
      have i2 : IntKind.i64.wrap (j : Int) = (j : Int) := IntWalk.i64_in _ ⟨by omega, by omega⟩
      have i3 : (0 : Int) ≤ (j : Int) := by omega
      have i4 : (j : Int) < (l.length : Int) := by omega
      have i5 : (0 : Int) ≤ (j : Int) + 1 := by omega
      have i6 : (j : Int) + 1 < (l.length : Int) := by omega
      have i7 : ((j : Int) + 1).toNat = j + 1 := by omega
      have HC := Lib.hid fun W => refLess_any l[j].1 l[j].2 l[j+1].1 l[j+1].2 W
      have HT := Lib.hid (risesB_take hlt)
      have HN := Lib.hid fun h => risesB_not hlt h
      cases hv : lss l[j].1 l[j].2 l[j+1].1 l[j+1].2
      · have HV := Lib.hid hv
        clear hv
        go_wp2_with fail
        go_region_held3 (fun w' => w'.cell? (ad.add ((j + 1) * 2)) = some (.int .i64 l[j+1].1) ∧ w'.cell? ⟨(ad.add ((j + 1) * 2)).block, (ad.add ((j + 1) * 2)).off + 1, none⟩ = some (.int .i64 l[j+1].2) ∧ w'.cell? (ad.add (j * 2)) = some (.int .i64 l[j].1) ∧ w'.cell? ⟨(ad.add (j * 2)).block, (ad.add (j * 2)).off + 1, none⟩ = some (.int .i64 l[j].2) ∧ Hid (Below w.heap.size w w'))
          (first | exact HS.out _ HW.out.drew | exact HS.out _ HK.out)
          (first | (go_at_call 45; (with_reducible refine (HC.out _).mono ?_); rintro e w' ⟨rfl, hb⟩; rw [HV.out]; have HK := Lib.hid (below_after (Hid.out (by go_split_ands; assumption)) hb (Nat.le_refl _)); clear hb))
        clear c1 c2 c3 c4
        go_wp2_with fail
        go_ret
        exact ⟨ret_bool (HN.out HV.out).symm, Hid.out (by assumption)⟩
      · have HV := Lib.hid hv
        clear hv
        go_wp2_with fail
        go_region_held3 (fun w' => w'.cell? (ad.add ((j + 1) * 2)) = some (.int .i64 l[j+1].1) ∧ w'.cell? ⟨(ad.add ((j + 1) * 2)).block, (ad.add ((j + 1) * 2)).off + 1, none⟩ = some (.int .i64 l[j+1].2) ∧ w'.cell? (ad.add (j * 2)) = some (.int .i64 l[j].1) ∧ w'.cell? ⟨(ad.add (j * 2)).block, (ad.add (j * 2)).off + 1, none⟩ = some (.int .i64 l[j].2) ∧ Hid (Below w.heap.size w w'))
          (first | exact HS.out _ HW.out.drew | exact HS.out _ HK.out)
          (first | (go_at_call 45; (with_reducible refine (HC.out _).mono ?_); rintro e w' ⟨rfl, hb⟩; rw [HV.out]; have HK := Lib.hid (below_after (Hid.out (by go_split_ands; assumption)) hb (Nat.le_refl _)); clear hb))
        clear c1 c2 c3 c4
        go_wp2_with fail
        go_roundw
        case rel => exact ⟨j + 2, by omega, by omega, by go_num, by rw [HT.out, HR.out, HV.out]; rfl, Hid.out (by assumption)⟩
        case measure => simp [intOf]; omega
    · have hd : decide ((k : Int) < (l.length : Int)) = false := by simp; omega
      go_wp2_with fail
      go_ret
      exact ⟨ret_bool (by have := HR.out; rw [List.take_of_length_le (by omega)] at this; exact this.symm), HW.out⟩
end Go.Proofs.Ytkoeplgkiogjlaa
namespace Go.Proofs.Ytkoeplgkiogjlaa
open Go.RowKit
/-- Are two lists the same? -/
def sameB (l m : List (Int × Int)) : Bool := decide (l = m)
theorem sameB_len {l m : List (Int × Int)} (h : l.length ≠ m.length) : sameB l m = false := by
  unfold sameB
  exact decide_eq_false fun e => h (by rw [e])
theorem sameB_at {l m : List (Int × Int)} {k : Nat} (h : k < l.length) (h2 : k < m.length) (hn : ¬ (l[k].1 = m[k].1 ∧ l[k].2 = m[k].2)) : sameB l m = false := by
  unfold sameB
  refine decide_eq_false fun e => hn ?_
  subst e
  exact ⟨rfl, rfl⟩
theorem take_same {l m : List (Int × Int)} {k : Nat} (h : k < l.length) (h2 : k < m.length) (ht : l.take k = m.take k) (e1 : l[k].1 = m[k].1) (e2 : l[k].2 = m[k].2) : l.take (k + 1) = m.take (k + 1) := by
  rw [List.take_succ_eq_append_getElem h, List.take_succ_eq_append_getElem h2, ht, Prod.ext e1 e2]
theorem sameB_all {l m : List (Int × Int)} {k : Nat} (hl : l.length = m.length) (hk : l.length ≤ k) (ht : l.take k = m.take k) : sameB l m = true := by
  rw [List.take_of_length_le hk, List.take_of_length_le (by omega)] at ht
  unfold sameB
  exact decide_eq_true ht
set_option maxHeartbeats 1000000 in
theorem ids_any (v u : Value) (l m : List (Int × Int)) (w : World) (h : Ids w v l) (k : Ids w u m) (hl : l.length ≤ 100000) :
    Calls Try.prog 37 #[v, u] w fun e w' => e = .returned (.bool (sameB l m)) ∧ Below w.heap.size w w' := by
  obtain ⟨A, c, rfl, hz⟩ := id h
  obtain ⟨B, d, rfl, hz2⟩ := id k
  clear hz hz2
  have HI := Lib.hid h
  have HJ := Lib.hid k
  clear h k
  by_cases hlm : l.length = m.length
  · have hd : ((l.length : Int) != (m.length : Int)) = false := by simp; omega
    have HL := Lib.hid hlm
    go_enter Try.func37, Try.ntmps37
    clear hlm
    go_wp2_with fail
    clear hd
    go_loopw [5] (fun s5 wr => ∃ k : Nat, k ≤ l.length ∧ s5 = .int .i64 k ∧ l.take k = m.take k ∧ Below w.heap.size w wr) (fun s5 _ => l.length - (intOf s5).toNat)
    case atStart => exact ⟨0, by omega, rfl, rfl, Below.refl _ _⟩
    case round =>
      obtain ⟨k, hkl, rfl, ht, hw⟩ := hrel
      have HW := Lib.hid hw
      have HT := Lib.hid ht
      clear hw ht
      by_cases hlt : k < l.length
      · have hd : decide ((k : Int) < (l.length : Int)) = true := by simp; omega
        have hlt2 : k < m.length := by have := HL.out; omega
        have i3 : (0 : Int) ≤ (k : Int) := by omega
        have i4 : (k : Int) < (l.length : Int) := by omega
        have i5 : (k : Int) < (m.length : Int) := by omega
        obtain ⟨ad, rfl, c1, c2⟩ := HI.out.at_ HW.out hlt
        obtain ⟨ae, rfl, c3, c4⟩ := HJ.out.at_ HW.out hlt2
        have HN := Lib.hid fun hn => sameB_at hlt hlt2 hn
        have HS := Lib.hid fun e1 e2 => take_same hlt hlt2 HT.out e1 e2
        generalize l[k].1 = a at *
        generalize l[k].2 = i at *
        generalize m[k].1 = b at *
        generalize m[k].2 = j at *
        by_cases hab : a = b
        · subst hab
          by_cases hij : i = j
          · subst hij
            go_wp2_with fail
            go_quiet (fail)
            go_wp2_with fail
            go_roundw
            case rel => exact ⟨k + 1, by omega, by go_num, by first | exact HS.out rfl rfl | exact HS.out trivial trivial, below_drewN HW.out⟩
            case measure => simp [intOf]; omega
          · have h2 : (i == j) = false := by simpa using hij
            go_wp2_with fail
            go_quiet (fail)
            go_wp2_with fail
            go_ret
            exact ⟨ret_bool (HN.out fun h => hij h.2).symm, below_drewN HW.out⟩
        · have h2 : (a == b) = false := by simpa using hab
          go_wp2_with fail
          go_quiet (fail)
          go_wp2_with fail
          go_ret
          exact ⟨ret_bool (HN.out fun h => hab h.1).symm, below_drewN HW.out⟩
      · have hd : decide ((k : Int) < (l.length : Int)) = false := by simp; omega
        have HS := Lib.hid (sameB_all HL.out (by omega) HT.out)
        go_wp2_with fail
        go_ret
        exact ⟨ret_bool HS.out.symm, HW.out⟩
  · have hd : ((l.length : Int) != (m.length : Int)) = true := by simp; omega
    have HS := Lib.hid (sameB_len hlm)
    clear hlm
    go_enter Try.func37, Try.ntmps37
    go_wp2_with fail
    go_ret
    exact ⟨ret_bool HS.out.symm, Below.refl _ _⟩
end Go.Proofs.Ytkoeplgkiogjlaa
namespace Go.Proofs.Ytkoeplgkiogjlaa
open Go.RowKit
/-- Is an ID in a list? -/
def hasB (x : Int × Int) (l : List (Int × Int)) : Bool := decide (x ∈ l)
theorem box_drewN {w : World} {g n : Nat} {a i : Int} (h : Box w g a i) : Box (w.drewN n) g a i := h
end Go.Proofs.Ytkoeplgkiogjlaa
namespace Go.Proofs.Ytkoeplgkiogjlaa
open Go.RowKit
theorem elem29 : Try.prog.elem 36 = 35 := by kernel_rfl
theorem size25 (W : World) : (sizeOf 35).run Try.prog W = .ok 2 W := by kernel_rfl
theorem under29 : Try.prog.underlying 36 = some (.slice (Try.prog.elem 36)) := by rw [elem29]; exact Try.underlying36
theorem add_zero' (a : Addr) : a.add 0 = a := by unfold Addr.add; rw [if_pos rfl]
theorem Ids.sliced {w : World} {A : Option Addr} {c k h : Nat} {l : List (Int × Int)} (hi : Ids w (.slice A l.length c) l) (h1 : k ≤ h) (h2 : h ≤ l.length) : Ids w (sliced A k h c 2) ((l.take h).drop k) := by
  have ht := hi.take h2
  obtain ⟨A', c', hv, h0, hc, _⟩ := id hi
  injection hv with e1 e2 e3
  subst e1 e3
  unfold Go.sliced
  have hl : (l.take h).length = h := by rw [List.length_take, Nat.min_eq_left h2]
  split
  · rename_i e
    have hk : h - k = 0 := by omega
    rw [hk]
    exact Ids.none_left _ (by omega) _ fun hn => by rw [e]; omega
  · rename_i e
    cases A with
    | none => exact absurd (h0 rfl) (by omega)
    | some ad =>
      rcases Nat.eq_zero_or_pos k with rfl | hk
      · simp only [Option.map, Nat.zero_mul, Nat.sub_zero, List.drop_zero, add_zero']
        exact ht
      · have := Ids.drop ht (k := k) (by omega) (by omega) hk
        exact this
/-- What stands from place k on. -/
theorem run_from {w : World} {v : Value} {l : List (Int × Int)} (h : Ids w v l) (k : Nat) (hk : k ≤ l.length) :
    ∃ V, (∀ W, (Instr.slice 36 v (some (.int .i64 (k : Int))) none none).run Try.prog W = .ok V W) ∧ Ids w V (l.drop k) := by
  obtain ⟨A, c, rfl, h0, hc, hx⟩ := id h
  refine ⟨sliced A k l.length c 2, fun W => ?_, ?_⟩
  · rw [run_slice_l (w := W) (P := Try.prog) 36 A l.length c under29 .i64 (k : Int) (by omega) (by omega)]
    rw [elem29, size25]
    rfl
  · have := h.sliced hk (Nat.le_refl _)
    rwa [List.take_length] at this
/-- What stands ahead of place k. -/
theorem run_to {w : World} {v : Value} {l : List (Int × Int)} (h : Ids w v l) (k : Nat) (hk : k ≤ l.length) :
    ∃ V, (∀ W, (Instr.slice 36 v none (some (.int .i64 (k : Int))) none).run Try.prog W = .ok V W) ∧ Ids w V (l.take k) := by
  obtain ⟨A, c, rfl, h0, hc, hx⟩ := id h
  refine ⟨sliced A 0 k c 2, fun W => ?_, ?_⟩
  · rw [run_slice_h (w := W) (P := Try.prog) 36 A l.length c under29 .i64 (k : Int) (by omega) (by omega)]
    rw [elem29, size25]
    rfl
  · exact h.sliced (Nat.zero_le _) hk
/-- The first one of a list. -/
theorem Ids.head {w : World} {v : Value} {x : Int × Int} {l : List (Int × Int)} (h : Ids w v (x :: l)) :
    ∃ ad c, v = .slice (some ad) (l.length + 1) c ∧ ∀ w', Below w.heap.size w w' → w'.cell? ad = some (.int .i64 x.1) ∧ w'.cell? ⟨ad.block, ad.off + 1, none⟩ = some (.int .i64 x.2) := by
  obtain ⟨A, c, rfl, h0, hc, hx⟩ := id h
  obtain ⟨ad, rfl, _⟩ := hx 0 (by simp)
  refine ⟨ad, c, rfl, fun w' hb => ?_⟩
  have h1 := cell1 h hb (k := 0) (by simp)
  have h2 := cell2 h hb (k := 0) (by simp)
  rw [Nat.zero_mul, add_zero'] at h1 h2
  exact ⟨h1, h2⟩
set_option maxHeartbeats 1000000 in
theorem first_any (v u : Value) (l m : List (Int × Int)) (w : World) (h : Ids w v l) (k : Ids w u m) (hl : l.length ≤ 100000) (hm : m.length ≤ 100000) :
    Calls Try.prog 64 #[v, u, .func (.func 51) #[] #[]] w fun e w' => e = .returned (.int .i64 (headZ l m)) ∧ Below w.heap.size w w' := by
  cases m with
  | nil =>
    obtain ⟨B, d, rfl, hz⟩ := id k
    clear hz k h
    have h5 := Lib.hid (show headZ l [] = -1 by cases l <;> rfl)
    go_enter Try.func64, Try.ntmps64
    go_wp2_with fail
    go_ret
    exact ⟨ret_int h5.out.symm, Below.refl _ _⟩
  | cons y m =>
    obtain ⟨ae, d, rfl, hm2⟩ := k.head
    have HM := Lib.hid hm2
    clear hm2
    have hd1 : ((m.length : Int) + 1 == 0) = false := by simp; omega
    cases l with
    | nil =>
      obtain ⟨A, c, rfl, hz⟩ := id h
      clear hz k h
      go_enter Try.func64, Try.ntmps64
      go_wp2_with fail
      go_ret
      exact ⟨rfl, Below.refl _ _⟩
    | cons x l =>
      obtain ⟨ad, c, rfl, hl2⟩ := h.head
      have HL := Lib.hid hl2
      clear hl2 h k
      have hd2 : ((l.length : Int) + 1 == 0) = false := by simp; omega
      have HS := Lib.hid fun w' (hb : Below w.heap.size w w') => And.intro (HL.out w' hb) (And.intro (HM.out w' hb) (Lib.hid hb))
      have HR := Lib.hid (show headZ (x :: l) (y :: m) = cmpZ x.1 x.2 y.1 y.2 from rfl)
      have i3 : (0 : Int) < (l.length : Int) + 1 := by omega
      have i4 : (0 : Int) < (m.length : Int) + 1 := by omega
      go_enter Try.func64, Try.ntmps64
      go_wp2_with fail
      go_region_held3 (fun w' => (w'.cell? ad = some (.int .i64 x.1) ∧ w'.cell? ⟨ad.block, ad.off + 1, none⟩ = some (.int .i64 x.2)) ∧ (w'.cell? ae = some (.int .i64 y.1) ∧ w'.cell? ⟨ae.block, ae.off + 1, none⟩ = some (.int .i64 y.2)) ∧ Hid (Below w.heap.size w w'))
          (first | exact HS.out _ (Below.refl _ _).drew | exact HS.out _ (Below.refl _ _) | exact HS.out _ HK.out)
          (first | (go_at_call 51; (with_reducible refine (compare_any _ _ _ _ _).mono ?_); rintro e w' ⟨rfl, hb⟩; have HK := Lib.hid (below_after (Hid.out (by go_split_ands; assumption)) hb (Nat.le_refl _)); clear hb))
      go_wp2_with fail
      go_ret
      exact ⟨ret_int HR.out.symm, Hid.out (by assumption)⟩
end Go.Proofs.Ytkoeplgkiogjlaa
