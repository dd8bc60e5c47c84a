/-
  Carried over: contracts of this program's functions. No statement is proved in this text.
-/
import Derived.Test.YtmgkbfhkipfimaaIdeSets
set_option maxRecDepth 20000
set_option maxRecDepth 20000
namespace Go.Proofs.Ytmgkbfhkipfimaa
open Sets
/-- Does one ID stand ahead of another one? -/
def lss (a i b j : Int) : Bool := decide (a < b ∨ a = b ∧ i < j)
theorem lss_iff (x y : Id2) : lss x.1 x.2 y.1 y.2 = true ↔ lt x y := by simp [lss, lt]
theorem lss_not (x y : Id2) : lss x.1 x.2 y.1 y.2 = false ↔ ¬ lt x y := by
  rw [← lss_iff, Bool.not_eq_true]
/-- How two IDs stand: -1, 0, 1. -/
def cmpZ (a i b j : Int) : Int := if lss a i b j = true then -1 else if lss b j a i = true then 1 else 0
theorem cmpZ_eq (x y : Id2) : cmpZ x.1 x.2 y.1 y.2 = if lt x y then -1 else if lt y x then 1 else 0 := by
  unfold cmpZ
  simp only [lss_iff]
def risesB : List Id2 → Bool
  | x :: y :: l => lss x.1 x.2 y.1 y.2 && risesB (y :: l)
  | _ => true
theorem risesB_iff : ∀ l : List Id2, risesB l = true ↔ Rises l
  | [] => by simp [risesB, Rises]
  | [x] => by simp [risesB, Rises]
  | x :: y :: l => by
    rw [risesB, Bool.and_eq_true, lss_iff, risesB_iff (y :: l), rises_cons (x := x)]
    constructor
    · rintro ⟨h1, h2⟩
      refine ⟨fun z hz => ?_, h2⟩
      rcases List.mem_cons.1 hz with e | e
      · exact e ▸ h1
      · exact lt_trans h1 ((rises_cons.1 h2).1 z e)
    · rintro ⟨h1, h2⟩
      exact ⟨h1 y (List.mem_cons_self ..), h2⟩
theorem risesB_not_iff (l : List Id2) : risesB l = false ↔ ¬ Rises l := by rw [← risesB_iff, Bool.not_eq_true]
theorem risesB_take {l : List Id2} : ∀ {k : Nat} (h : k + 1 < l.length), risesB (l.take (k + 2)) = (risesB (l.take (k + 1)) && lss l[k].1 l[k].2 l[k+1].1 l[k+1].2) := by
  induction l with
  | nil => intro k h; simp at h
  | cons x l ih =>
    intro k h
    cases l with
    | nil => simp at h
    | cons y l =>
      cases k with
      | zero => simp [risesB]
      | succ k =>
        have := ih (k := k) (by simpa using h)
        simp only [List.take_succ_cons, risesB] at this ⊢
        rw [this, Bool.and_assoc]
        rfl
theorem risesB_not {l : List Id2} : ∀ {k : Nat} (h : k + 1 < l.length), lss l[k].1 l[k].2 l[k+1].1 l[k+1].2 = false → risesB l = false := by
  induction l with
  | nil => intro k h; simp at h
  | cons x l ih =>
    intro k h hv
    cases l with
    | nil => simp at h
    | cons y l =>
      cases k with
      | zero => simp only [risesB, Bool.and_eq_false_iff]; exact .inl hv
      | succ k => simp only [risesB, Bool.and_eq_false_iff]; exact .inr (ih (k := k) (by simpa using h) hv)
theorem risesB_one (l : List Id2) : risesB (l.take 1) = true := by
  cases l <;> rfl
/-- How the first ones of two lists stand; what is lacking comes behind all. -/
def headZ : List Id2 → List Id2 → Int
  | _, [] => -1
  | [], _ :: _ => 1
  | x :: _, y :: _ => cmpZ x.1 x.2 y.1 y.2
/-- One step of going through two lists: how the heads stand, which one goes on, and what is taken. -/
def stepL (l m : List Id2) : List Id2 := if headZ l m ≤ 0 then l.tail else l
def stepM (l m : List Id2) : List Id2 := if 0 ≤ headZ l m then m.tail else m
def stepX (l m : List Id2) : Id2 := if 0 ≤ headZ l m then m.headD (0, 0) else l.headD (0, 0)
theorem cmpZ_same (x : Id2) : cmpZ x.1 x.2 x.1 x.2 = 0 := by
  rw [cmpZ_eq, if_neg (lt_irrefl x), if_neg (lt_irrefl x)]
theorem step_less (l m : List Id2) (h : ¬ (l = [] ∧ m = [])) : (stepL l m).length + (stepM l m).length < l.length + m.length := by
  unfold stepL stepM
  cases l with
  | nil =>
    cases m with
    | nil => exact absurd ⟨rfl, rfl⟩ h
    | cons y m => simp [headZ]
  | cons x l =>
    cases m with
    | nil => simp [headZ]
    | cons y m =>
      by_cases h1 : headZ (x :: l) (y :: m) ≤ 0
      · by_cases h2 : 0 ≤ headZ (x :: l) (y :: m)
        · rw [if_pos h1, if_pos h2]
          simp only [List.tail, List.length_cons]
          omega
        · rw [if_pos h1, if_neg h2]
          simp only [List.tail, List.length_cons]
          omega
      · rw [if_neg h1, if_pos (by omega)]
        simp only [List.tail, List.length_cons]
        omega
/-- Two lists gone through together, so many steps: what is kept. -/
def mrgN (k : Bool → Bool → Bool) : Nat → List Id2 → List Id2 → List Id2
  | 0, _, _ => []
  | n + 1, l, m => if l = [] ∧ m = [] then [] else (if k (decide (headZ l m ≤ 0)) (decide (0 ≤ headZ l m)) = true then [stepX l m] else []) ++ mrgN k n (stepL l m) (stepM l m)
/-- Two lists gone through together: what is kept. -/
def mrg (k : Bool → Bool → Bool) (l m : List Id2) : List Id2 := mrgN k (l.length + m.length) l m
theorem mrgN_none (k : Bool → Bool → Bool) (n : Nat) : mrgN k n [] [] = [] := by
  cases n with
  | zero => rfl
  | succ n => rw [mrgN, if_pos ⟨rfl, rfl⟩]
theorem both_none {l m : List Id2} (h : l.length + m.length ≤ 0) : l = [] ∧ m = [] := ⟨List.eq_nil_of_length_eq_zero (by omega), List.eq_nil_of_length_eq_zero (by omega)⟩
theorem mrgN_same (k : Bool → Bool → Bool) : ∀ (a b : Nat) (l m : List Id2), l.length + m.length ≤ a → l.length + m.length ≤ b → mrgN k a l m = mrgN k b l m := by
  intro a
  induction a with
  | zero =>
    intro b l m h _
    obtain ⟨rfl, rfl⟩ := both_none h
    rw [mrgN_none, mrgN_none]
  | succ a ih =>
    intro b l m h h2
    cases b with
    | zero =>
      obtain ⟨rfl, rfl⟩ := both_none h2
      rw [mrgN_none, mrgN_none]
    | succ b =>
      rw [mrgN, mrgN]
      by_cases hn : l = [] ∧ m = []
      · rw [if_pos hn, if_pos hn]
      · have := step_less l m hn
        rw [if_neg hn, if_neg hn, ih b (stepL l m) (stepM l m) (by omega) (by omega)]
theorem mrg_none (k : Bool → Bool → Bool) : mrg k [] [] = [] := rfl
theorem mrg_step (k : Bool → Bool → Bool) (l m : List Id2) (h : ¬ (l = [] ∧ m = [])) :
    mrg k l m = (if k (decide (headZ l m ≤ 0)) (decide (0 ≤ headZ l m)) = true then [stepX l m] else []) ++ mrg k (stepL l m) (stepM l m) := by
  have hs := step_less l m h
  unfold mrg
  obtain ⟨n, hn⟩ : ∃ n, l.length + m.length = n + 1 := ⟨l.length + m.length - 1, by omega⟩
  rw [hn, mrgN, if_neg h, mrgN_same k n _ (stepL l m) (stepM l m) (by omega) (Nat.le_refl _)]
theorem mrg_left {k : Bool → Bool → Bool} {x : Id2} {l m : List Id2} (h : headZ (x :: l) m = -1) : mrg k (x :: l) m = (if k true false = true then [x] else []) ++ mrg k l m := by
  rw [mrg_step k (x :: l) m (by simp)]
  unfold stepX stepL stepM
  rw [h]
  rfl
theorem mrg_same {k : Bool → Bool → Bool} {x y : Id2} {l m : List Id2} (h : headZ (x :: l) (y :: m) = 0) : mrg k (x :: l) (y :: m) = (if k true true = true then [y] else []) ++ mrg k l m := by
  rw [mrg_step k (x :: l) (y :: m) (by simp)]
  unfold stepX stepL stepM
  rw [h]
  rfl
theorem mrg_right {k : Bool → Bool → Bool} {y : Id2} {l m : List Id2} (h : headZ l (y :: m) = 1) : mrg k l (y :: m) = (if k false true = true then [y] else []) ++ mrg k l m := by
  rw [mrg_step k l (y :: m) (by simp)]
  unfold stepX stepL stepM
  rw [h]
  rfl
/-- What comes of two lists: it rises, and has just those that are kept. -/
def Kept (k : Bool → Bool → Bool) (l m r : List Id2) : Prop := Rises r ∧ ∀ z, z ∈ r ↔ (z ∈ l ∨ z ∈ m) ∧ k (decide (z ∈ l)) (decide (z ∈ m)) = true
/-- One ID, ahead of all that is left of both lists, is gone over. -/
theorem kept_one {k : Bool → Bool → Bool} {l m l' m' r : List Id2} {x : Id2} {p q : Bool} (ih : Kept k l' m' r) (hl : ∀ z, z ∈ l ↔ (z = x ∧ p = true) ∨ z ∈ l') (hm : ∀ z, z ∈ m ↔ (z = x ∧ q = true) ∨ z ∈ m')
    (hpq : p = true ∨ q = true) (h1 : ∀ z ∈ l', lt x z) (h2 : ∀ z ∈ m', lt x z) : Kept k l m ((if k p q = true then [x] else []) ++ r) := by
  obtain ⟨i1, i2⟩ := ih
  have xl : x ∉ l' := fun h => lt_irrefl x (h1 x h)
  have xm : x ∉ m' := fun h => lt_irrefl x (h2 x h)
  have dl : decide (x ∈ l) = p := by
    cases p
    · exact decide_eq_false fun h => by rcases (hl x).1 h with e | e; exact absurd e.2 (by decide); exact xl e
    · exact decide_eq_true ((hl x).2 (.inl ⟨rfl, rfl⟩))
  have dm : decide (x ∈ m) = q := by
    cases q
    · exact decide_eq_false fun h => by rcases (hm x).1 h with e | e; exact absurd e.2 (by decide); exact xm e
    · exact decide_eq_true ((hm x).2 (.inl ⟨rfl, rfl⟩))
  have hx : x ∈ l ∨ x ∈ m := by
    rcases hpq with e | e
    · exact .inl ((hl x).2 (.inl ⟨rfl, e⟩))
    · exact .inr ((hm x).2 (.inl ⟨rfl, e⟩))
  have xr : x ∉ r := fun h => by
    rcases ((i2 x).1 h).1 with e | e
    · exact xl e
    · exact xm e
  have other : ∀ z, z ≠ x → ((z ∈ l ↔ z ∈ l') ∧ (z ∈ m ↔ z ∈ m')) := fun z hz => by
    rw [hl z, hm z]
    simp [hz]
  have hmem : ∀ z, z ≠ x → (z ∈ r ↔ (z ∈ l ∨ z ∈ m) ∧ k (decide (z ∈ l)) (decide (z ∈ m)) = true) := fun z hz => by
    rw [i2 z]
    have h3 := other z hz
    have e1 : decide (z ∈ l) = decide (z ∈ l') := by rw [Bool.eq_iff_iff, decide_eq_true_iff, decide_eq_true_iff]; exact h3.1
    have e2 : decide (z ∈ m) = decide (z ∈ m') := by rw [Bool.eq_iff_iff, decide_eq_true_iff, decide_eq_true_iff]; exact h3.2
    rw [e1, e2, h3.1, h3.2]
  by_cases hk : k p q = true
  · rw [if_pos hk]
    refine ⟨rises_cons.2 ⟨fun z hz => ?_, i1⟩, fun z => ?_⟩
    · rcases ((i2 z).1 hz).1 with e | e
      · exact h1 z e
      · exact h2 z e
    · by_cases hz : z = x
      · subst hz
        rw [dl, dm]
        exact ⟨fun _ => ⟨hx, hk⟩, fun _ => List.mem_cons_self ..⟩
      · rw [← hmem z hz]
        simp [hz]
  · rw [if_neg hk]
    refine ⟨i1, fun z => ?_⟩
    by_cases hz : z = x
    · subst hz
      rw [dl, dm]
      exact ⟨fun h => absurd h xr, fun h => absurd h.2 hk⟩
    · rw [← hmem z hz]
      simp
theorem mrg_kept (k : Bool → Bool → Bool) : ∀ (n : Nat) (l m : List Id2), l.length + m.length ≤ n → Rises l → Rises m → Kept k l m (mrg k l m) := by
  intro n
  induction n with
  | zero =>
    intro l m h _ _
    obtain ⟨rfl, rfl⟩ := both_none h
    exact ⟨rises_nil, by simp [mrg_none]⟩
  | succ n ih =>
    intro l m h hl hm
    cases l with
    | nil =>
      cases m with
      | nil => exact ⟨rises_nil, by simp [mrg_none]⟩
      | cons y m =>
        have h2 := rises_cons.1 hm
        rw [mrg_right rfl]
        exact kept_one (ih [] m (by simp at h ⊢; omega) hl h2.2) (by simp) (by simp) (.inr rfl) (by simp) h2.1
    | cons x l =>
      have h1 := rises_cons.1 hl
      cases m with
      | nil =>
        rw [mrg_left rfl]
        exact kept_one (ih l [] (by simp at h ⊢; omega) h1.2 hm) (by simp) (by simp) (.inl rfl) h1.1 (by simp)
      | cons y m =>
        have h2 := rises_cons.1 hm
        have hz : headZ (x :: l) (y :: m) = cmpZ x.1 x.2 y.1 y.2 := rfl
        rw [cmpZ_eq] at hz
        by_cases hlt : lt x y
        · rw [if_pos hlt] at hz
          rw [mrg_left hz]
          refine kept_one (ih l (y :: m) (by simp at h ⊢; omega) h1.2 hm) (by simp) (by simp) (.inl rfl) h1.1 fun z hz => ?_
          rcases List.mem_cons.1 hz with e | e
          · exact e ▸ hlt
          · exact lt_trans hlt (h2.1 z e)
        · rw [if_neg hlt] at hz
          by_cases hgt : lt y x
          · rw [if_pos hgt] at hz
            rw [mrg_right hz]
            refine kept_one (ih (x :: l) m (by simp at h ⊢; omega) hl h2.2) (by simp) (by simp) (.inr rfl) (fun z hz => ?_) h2.1
            rcases List.mem_cons.1 hz with e | e
            · exact e ▸ hgt
            · exact lt_trans hgt (h1.1 z e)
          · rw [if_neg hgt] at hz
            have exy : x = y := by
              rcases lt_total x y with e | e | e
              · exact absurd e hlt
              · exact e
              · exact absurd e hgt
            subst exy
            rw [mrg_same hz]
            exact kept_one (ih l m (by simp at h ⊢; omega) h1.2 h2.2) (by simp) (by simp) (.inl rfl) h1.1 h2.1
/-- What comes of it: it rises, and has just those that are kept. -/
theorem mrg_is (k : Bool → Bool → Bool) (l m : List Id2) (hl : Rises l) (hm : Rises m) :
    Rises (mrg k l m) ∧ ∀ z, z ∈ mrg k l m ↔ (z ∈ l ∨ z ∈ m) ∧ k (decide (z ∈ l)) (decide (z ∈ m)) = true := mrg_kept k _ l m (Nat.le_refl _) hl hm
theorem mrg_all (l m : List Id2) : mrg (fun _ _ => true) (setOf l) (setOf m) = join l m := by
  obtain ⟨h1, h2⟩ := mrg_is (fun _ _ => true) _ _ (rises_setOf l) (rises_setOf m)
  exact rises_ext h1 (rises_join _ _) fun z => by rw [h2, mem_join, mem_setOf, mem_setOf]; simp
theorem mrg_or (l m : List Id2) : mrg (fun a b => a || b) (setOf l) (setOf m) = join l m := by
  obtain ⟨h1, h2⟩ := mrg_is (fun a b => a || b) _ _ (rises_setOf l) (rises_setOf m)
  exact rises_ext h1 (rises_join _ _) fun z => by
    rw [h2, mem_join]
    simp only [Bool.or_eq_true, decide_eq_true_eq]
    rw [mem_setOf, mem_setOf, and_self]
theorem mrg_and (l m : List Id2) : mrg (fun a b => a && b) (setOf l) (setOf m) = both l m := by
  obtain ⟨h1, h2⟩ := mrg_is (fun a b => a && b) _ _ (rises_setOf l) (rises_setOf m)
  exact rises_ext h1 (rises_both _ _) fun z => by
    rw [h2, mem_both]
    simp only [Bool.and_eq_true, decide_eq_true_eq]
    rw [mem_setOf, mem_setOf]
    exact ⟨fun h => h.2, fun h => ⟨.inl h.1, h⟩⟩
theorem mrg_not (l m : List Id2) : mrg (fun a b => a && !b) (setOf l) (setOf m) = without l m := by
  obtain ⟨h1, h2⟩ := mrg_is (fun a b => a && !b) _ _ (rises_setOf l) (rises_setOf m)
  exact rises_ext h1 (rises_without _ _) fun z => by
    rw [h2, mem_without]
    simp only [Bool.and_eq_true, decide_eq_true_eq, Bool.not_eq_true', decide_eq_false_iff_not]
    rw [mem_setOf, mem_setOf]
    exact ⟨fun h => h.2, fun h => ⟨.inl h.1, h⟩⟩
theorem join_halves (l : List Id2) (k : Nat) : join (l.take k) (l.drop k) = setOf l := by
  unfold join
  rw [List.take_append_drop]
theorem put_is (l : List Id2) (x : Id2) : join l [x] = put l x := rises_ext (rises_join _ _) (rises_put _ _) fun z => by
  rw [mem_join, mem_put, List.mem_singleton]
  exact Or.comm
theorem del_is (l : List Id2) (x : Id2) : without l [x] = del l x := rises_ext (rises_without _ _) (rises_del _ _) fun z => by
  rw [mem_without, mem_del, List.mem_singleton]
theorem len_join (l m : List Id2) : (join l m).length ≤ l.length + m.length := by
  have := setOf_len (l ++ m)
  simpa [join] using this
theorem len_both (l m : List Id2) : (both l m).length ≤ l.length := by
  have h1 := setOf_len (l.filter fun y => decide (y ∈ m))
  have h2 := List.length_filter_le (fun y => decide (y ∈ m)) l
  unfold both
  omega
theorem len_without (l m : List Id2) : (without l m).length ≤ l.length := by
  have h1 := setOf_len (l.filter fun y => decide (y ∉ m))
  have h2 := List.length_filter_le (fun y => decide (y ∉ m)) l
  unfold without
  omega
theorem len_put (l : List Id2) (x : Id2) : (put l x).length ≤ l.length + 1 := by
  have := setOf_len (x :: l)
  simpa [put] using this
theorem len_del (l : List Id2) (x : Id2) : (del l x).length ≤ l.length := by
  have h1 := setOf_len (l.filter fun y => decide (y ≠ x))
  have h2 := List.length_filter_le (fun y => decide (y ≠ x)) l
  unfold del
  omega
end Go.Proofs.Ytmgkbfhkipfimaa
