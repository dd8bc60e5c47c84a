/-
  Plain mathematics for stage 3: two lists that rise, gone through together. Nothing of the program; no statement is proved in this text.
-/
import Derived.Test.YtdkmdaklnjomhaaSets
namespace Go.Proofs.Ytdkmdaklnjomhaa
open Sets
/-- Does one ID stand ahead of another one? -/
def lss (a i b j : Int) : Bool := decide (a < b ∨ a = b ∧ i < j)
theorem lss_iff (x y : Id2) : lss x.1 x.2 y.1 y.2 = true ↔ lt x y := by simp [lss, lt]
theorem lss_not (x y : Id2) : lss x.1 x.2 y.1 y.2 = false ↔ ¬ lt x y := by
  rw [← lss_iff, Bool.not_eq_true]
/-- How two IDs stand: -1, 0, 1. -/
def cmpZ (a i b j : Int) : Int := if lss a i b j = true then -1 else if lss b j a i = true then 1 else 0
theorem cmpZ_eq (x y : Id2) : cmpZ x.1 x.2 y.1 y.2 = if lt x y then -1 else if lt y x then 1 else 0 := by
  unfold cmpZ
  simp only [lss_iff]
def risesB : List Id2 → Bool
  | x :: y :: l => lss x.1 x.2 y.1 y.2 && risesB (y :: l)
  | _ => true
theorem risesB_iff : ∀ l : List Id2, risesB l = true ↔ Rises l
  | [] => by simp [risesB, Rises]
  | [x] => by simp [risesB, Rises]
  | x :: y :: l => by
    rw [risesB, Bool.and_eq_true, lss_iff, risesB_iff (y :: l), rises_cons (x := x)]
    constructor
    · rintro ⟨h1, h2⟩
      refine ⟨fun z hz => ?_, h2⟩
      rcases List.mem_cons.1 hz with e | e
      · exact e ▸ h1
      · exact lt_trans h1 ((rises_cons.1 h2).1 z e)
    · rintro ⟨h1, h2⟩
      exact ⟨h1 y (List.mem_cons_self ..), h2⟩
theorem risesB_not_iff (l : List Id2) : risesB l = false ↔ ¬ Rises l := by rw [← risesB_iff, Bool.not_eq_true]
theorem risesB_take {l : List Id2} : ∀ {k : Nat} (h : k + 1 < l.length), risesB (l.take (k + 2)) = (risesB (l.take (k + 1)) && lss l[k].1 l[k].2 l[k+1].1 l[k+1].2) := by
  induction l with
  | nil => intro k h; simp at h
  | cons x l ih =>
    intro k h
    cases l with
    | nil => simp at h
    | cons y l =>
      cases k with
      | zero => simp [risesB]
      | succ k =>
        have := ih (k := k) (by simpa using h)
        simp only [List.take_succ_cons, risesB] at this ⊢
        rw [this, Bool.and_assoc]
        rfl
theorem risesB_not {l : List Id2} : ∀ {k : Nat} (h : k + 1 < l.length), lss l[k].1 l[k].2 l[k+1].1 l[k+1].2 = false → risesB l = false := by
  induction l with
  | nil => intro k h; simp at h
  | cons x l ih =>
    intro k h hv
    cases l with
    | nil => simp at h
    | cons y l =>
      cases k with
      | zero => simp only [risesB, Bool.and_eq_false_iff]; exact .inl hv
      | succ k => simp only [risesB, Bool.and_eq_false_iff]; exact .inr (ih (k := k) (by simpa using h) hv)
theorem risesB_one (l : List Id2) : risesB (l.take 1) = true := by
  cases l <;> rfl
/-- How the first ones of two lists stand; what is lacking comes behind all. -/
def headZ : List Id2 → List Id2 → Int
  | _, [] => -1
  | [], _ :: _ => 1
  | x :: _, y :: _ => cmpZ x.1 x.2 y.1 y.2
/-- Two lists gone through together: what is kept. -/
def mrg (k : Bool → Bool → Bool) : List Id2 → List Id2 → List Id2
  | [], [] => []
  | x :: l, [] => if k true false = true then x :: mrg k l [] else mrg k l []
  | [], y :: m => if k false true = true then y :: mrg k [] m else mrg k [] m
  | x :: l, y :: m =>
    if lt x y then (if k true false = true then x :: mrg k l (y :: m) else mrg k l (y :: m))
    else if lt y x then (if k false true = true then y :: mrg k (x :: l) m else mrg k (x :: l) m)
    else (if k true true = true then y :: mrg k l m else mrg k l m)
termination_by l m => l.length + m.length
/-- One step of going through two lists: how the heads stand, which one goes on, and what is taken. -/
def stepL (l m : List Id2) : List Id2 := if headZ l m ≤ 0 then l.tail else l
def stepM (l m : List Id2) : List Id2 := if 0 ≤ headZ l m then m.tail else m
def stepX (l m : List Id2) : Id2 := if 0 ≤ headZ l m then m.headD (0, 0) else l.headD (0, 0)
theorem cmpZ_same (x : Id2) : cmpZ x.1 x.2 x.1 x.2 = 0 := by
  rw [cmpZ_eq, if_neg (lt_irrefl x), if_neg (lt_irrefl x)]
theorem mrg_step (k : Bool → Bool → Bool) (l m : List Id2) (h : ¬ (l = [] ∧ m = [])) :
    mrg k l m = (if k (decide (headZ l m ≤ 0)) (decide (0 ≤ headZ l m)) = true then [stepX l m] else []) ++ mrg k (stepL l m) (stepM l m) := by
  unfold stepX stepL stepM
  cases l with
  | nil =>
    cases m with
    | nil => exact absurd ⟨rfl, rfl⟩ h
    | cons y m =>
      rw [mrg]
      simp only [headZ, List.headD, List.tail]
      split <;> simp_all
  | cons x l =>
    cases m with
    | nil =>
      rw [mrg]
      simp only [headZ, List.headD, List.tail]
      split <;> simp_all
    | cons y m =>
      rw [mrg]
      simp only [headZ, List.headD, List.tail, cmpZ_eq]
      split
      · split <;> simp_all
      · split
        · split <;> simp_all
        · split <;> simp_all
theorem step_less (l m : List Id2) (h : ¬ (l = [] ∧ m = [])) : (stepL l m).length + (stepM l m).length < l.length + m.length := by
  unfold stepL stepM
  cases l with
  | nil =>
    cases m with
    | nil => exact absurd ⟨rfl, rfl⟩ h
    | cons y m => simp [headZ]
  | cons x l =>
    cases m with
    | nil => simp [headZ]
    | cons y m =>
      by_cases h1 : headZ (x :: l) (y :: m) ≤ 0
      · by_cases h2 : 0 ≤ headZ (x :: l) (y :: m)
        · rw [if_pos h1, if_pos h2]
          simp only [List.tail, List.length_cons]
          omega
        · rw [if_pos h1, if_neg h2]
          simp only [List.tail, List.length_cons]
          omega
      · rw [if_neg h1, if_pos (by omega)]
        simp only [List.tail, List.length_cons]
        omega
theorem mrg_len (k : Bool → Bool → Bool) (l m : List Id2) : (mrg k l m).length ≤ l.length + m.length := by
  fun_induction mrg k l m <;> simp_all <;> omega
/-- What comes of it: it rises, and has just those that are kept. -/
theorem mrg_is (k : Bool → Bool → Bool) (l m : List Id2) (hl : Rises l) (hm : Rises m) :
    Rises (mrg k l m) ∧ ∀ z, z ∈ mrg k l m ↔ (z ∈ l ∨ z ∈ m) ∧ k (decide (z ∈ l)) (decide (z ∈ m)) = true := by
  fun_induction mrg k l m with
  | case1 => exact ⟨rises_nil, by simp⟩
  | case2 x l hk ih =>
    have h1 := rises_cons.1 hl
    obtain ⟨i1, i2⟩ := ih h1.2 hm
    refine ⟨rises_cons.2 ⟨fun y hy => h1.1 y (by have := (i2 y).1 hy; simpa using this.1), i1⟩, fun z => ?_⟩
    have hx : z = x → z ∉ l := fun e hz => lt_irrefl x (h1.1 x (e ▸ hz))
    rw [List.mem_cons, i2 z]
    by_cases e : z = x <;> by_cases e2 : z ∈ l <;> simp_all
  | case3 x l hk ih =>
    have h1 := rises_cons.1 hl
    obtain ⟨i1, i2⟩ := ih h1.2 hm
    refine ⟨i1, fun z => ?_⟩
    have hx : z = x → z ∉ l := fun e hz => lt_irrefl x (h1.1 x (e ▸ hz))
    rw [i2 z]
    by_cases e : z = x <;> by_cases e2 : z ∈ l <;> simp_all
  | case4 y m hk ih =>
    have h1 := rises_cons.1 hm
    obtain ⟨i1, i2⟩ := ih hl h1.2
    refine ⟨rises_cons.2 ⟨fun z hz => h1.1 z (by have := (i2 z).1 hz; simpa using this.1), i1⟩, fun z => ?_⟩
    have hx : z = y → z ∉ m := fun e hz => lt_irrefl y (h1.1 y (e ▸ hz))
    rw [List.mem_cons, i2 z]
    by_cases e : z = y <;> by_cases e2 : z ∈ m <;> simp_all
  | case5 y m hk ih =>
    have h1 := rises_cons.1 hm
    obtain ⟨i1, i2⟩ := ih hl h1.2
    refine ⟨i1, fun z => ?_⟩
    have hx : z = y → z ∉ m := fun e hz => lt_irrefl y (h1.1 y (e ▸ hz))
    rw [i2 z]
    by_cases e : z = y <;> by_cases e2 : z ∈ m <;> simp_all
  | case6 x l y m hlt hk ih =>
    have h1 := rises_cons.1 hl
    have h2 := rises_cons.1 hm
    obtain ⟨i1, i2⟩ := ih h1.2 hm
    have hxm : x ∉ y :: m := fun hz => by
      rcases List.mem_cons.1 hz with e | e
      · exact lt_irrefl x (e ▸ hlt)
      · exact lt_irrefl x (lt_trans hlt (h2.1 x e))
    have hxl : x ∉ l := fun hz => lt_irrefl x (h1.1 x hz)
    refine ⟨rises_cons.2 ⟨fun z hz => ?_, i1⟩, fun z => ?_⟩
    · rcases ((i2 z).1 hz).1 with e | e
      · exact h1.1 z e
      · rcases List.mem_cons.1 e with e | e
        · exact e ▸ hlt
        · exact lt_trans hlt (h2.1 z e)
    · rw [List.mem_cons, i2 z]
      by_cases e : z = x
      · subst e
        simp_all
      · simp [e]
  | case7 x l y m hlt hk ih =>
    have h1 := rises_cons.1 hl
    have h2 := rises_cons.1 hm
    obtain ⟨i1, i2⟩ := ih h1.2 hm
    have hxm : x ∉ y :: m := fun hz => by
      rcases List.mem_cons.1 hz with e | e
      · exact lt_irrefl x (e ▸ hlt)
      · exact lt_irrefl x (lt_trans hlt (h2.1 x e))
    have hxl : x ∉ l := fun hz => lt_irrefl x (h1.1 x hz)
    refine ⟨i1, fun z => ?_⟩
    rw [i2 z]
    by_cases e : z = x
    · subst e
      simp_all
    · simp [e]
  | case8 x l y m hlt hgt hk ih =>
    have h1 := rises_cons.1 hl
    have h2 := rises_cons.1 hm
    obtain ⟨i1, i2⟩ := ih hl h2.2
    have hym : y ∉ x :: l := fun hz => by
      rcases List.mem_cons.1 hz with e | e
      · exact lt_irrefl y (e ▸ hgt)
      · exact lt_irrefl y (lt_trans hgt (h1.1 y e))
    have hyl : y ∉ m := fun hz => lt_irrefl y (h2.1 y hz)
    refine ⟨rises_cons.2 ⟨fun z hz => ?_, i1⟩, fun z => ?_⟩
    · rcases ((i2 z).1 hz).1 with e | e
      · rcases List.mem_cons.1 e with e | e
        · exact e ▸ hgt
        · exact lt_trans hgt (h1.1 z e)
      · exact h2.1 z e
    · rw [List.mem_cons, i2 z]
      by_cases e : z = y
      · subst e
        simp_all
      · simp [e]
  | case9 x l y m hlt hgt hk ih =>
    have h1 := rises_cons.1 hl
    have h2 := rises_cons.1 hm
    obtain ⟨i1, i2⟩ := ih hl h2.2
    have hym : y ∉ x :: l := fun hz => by
      rcases List.mem_cons.1 hz with e | e
      · exact lt_irrefl y (e ▸ hgt)
      · exact lt_irrefl y (lt_trans hgt (h1.1 y e))
    have hyl : y ∉ m := fun hz => lt_irrefl y (h2.1 y hz)
    refine ⟨i1, fun z => ?_⟩
    rw [i2 z]
    by_cases e : z = y
    · subst e
      simp_all
    · simp [e]
  | case10 x l y m hlt hgt hk ih =>
    have h1 := rises_cons.1 hl
    have h2 := rises_cons.1 hm
    obtain ⟨i1, i2⟩ := ih h1.2 h2.2
    have exy : x = y := by
      rcases lt_total x y with e | e | e
      · exact absurd e hlt
      · exact e
      · exact absurd e hgt
    subst exy
    have hxl : x ∉ l := fun hz => lt_irrefl x (h1.1 x hz)
    have hxm : x ∉ m := fun hz => lt_irrefl x (h2.1 x hz)
    refine ⟨rises_cons.2 ⟨fun z hz => ?_, i1⟩, fun z => ?_⟩
    · rcases ((i2 z).1 hz).1 with e | e
      · exact h1.1 z e
      · exact h2.1 z e
    · rw [List.mem_cons, i2 z]
      by_cases e : z = x
      · subst e
        simp_all
      · simp [e]
  | case11 x l y m hlt hgt hk ih =>
    have h1 := rises_cons.1 hl
    have h2 := rises_cons.1 hm
    obtain ⟨i1, i2⟩ := ih h1.2 h2.2
    have exy : x = y := by
      rcases lt_total x y with e | e | e
      · exact absurd e hlt
      · exact e
      · exact absurd e hgt
    subst exy
    have hxl : x ∉ l := fun hz => lt_irrefl x (h1.1 x hz)
    have hxm : x ∉ m := fun hz => lt_irrefl x (h2.1 x hz)
    refine ⟨i1, fun z => ?_⟩
    rw [i2 z]
    by_cases e : z = x
    · subst e
      simp_all
    · simp [e]
theorem mrg_all (l m : List Id2) : mrg (fun _ _ => true) (setOf l) (setOf m) = join l m := by
  obtain ⟨h1, h2⟩ := mrg_is (fun _ _ => true) _ _ (rises_setOf l) (rises_setOf m)
  exact rises_ext h1 (rises_join _ _) fun z => by rw [h2, mem_join, mem_setOf, mem_setOf]; simp
theorem mrg_or (l m : List Id2) : mrg (fun a b => a || b) (setOf l) (setOf m) = join l m := by
  obtain ⟨h1, h2⟩ := mrg_is (fun a b => a || b) _ _ (rises_setOf l) (rises_setOf m)
  exact rises_ext h1 (rises_join _ _) fun z => by
    rw [h2, mem_join]
    simp only [Bool.or_eq_true, decide_eq_true_eq]
    rw [mem_setOf, mem_setOf, and_self]
theorem mrg_and (l m : List Id2) : mrg (fun a b => a && b) (setOf l) (setOf m) = both l m := by
  obtain ⟨h1, h2⟩ := mrg_is (fun a b => a && b) _ _ (rises_setOf l) (rises_setOf m)
  exact rises_ext h1 (rises_both _ _) fun z => by
    rw [h2, mem_both]
    simp only [Bool.and_eq_true, decide_eq_true_eq]
    rw [mem_setOf, mem_setOf]
    exact ⟨fun h => h.2, fun h => ⟨.inl h.1, h⟩⟩
theorem mrg_not (l m : List Id2) : mrg (fun a b => a && !b) (setOf l) (setOf m) = without l m := by
  obtain ⟨h1, h2⟩ := mrg_is (fun a b => a && !b) _ _ (rises_setOf l) (rises_setOf m)
  exact rises_ext h1 (rises_without _ _) fun z => by
    rw [h2, mem_without]
    simp only [Bool.and_eq_true, decide_eq_true_eq, Bool.not_eq_true', decide_eq_false_iff_not]
    rw [mem_setOf, mem_setOf]
    exact ⟨fun h => h.2, fun h => ⟨.inl h.1, h⟩⟩
theorem join_halves (l : List Id2) (k : Nat) : join (l.take k) (l.drop k) = setOf l := by
  unfold join
  rw [List.take_append_drop]
theorem put_is (l : List Id2) (x : Id2) : join l [x] = put l x := rises_ext (rises_join _ _) (rises_put _ _) fun z => by
  rw [mem_join, mem_put, List.mem_singleton]
  exact Or.comm
theorem del_is (l : List Id2) (x : Id2) : without l [x] = del l x := rises_ext (rises_without _ _) (rises_del _ _) fun z => by
  rw [mem_without, mem_del, List.mem_singleton]
theorem len_join (l m : List Id2) : (join l m).length ≤ l.length + m.length := by
  have := setOf_len (l ++ m)
  simpa [join] using this
theorem len_both (l m : List Id2) : (both l m).length ≤ l.length := by
  have h1 := setOf_len (l.filter fun y => decide (y ∈ m))
  have h2 := List.length_filter_le (fun y => decide (y ∈ m)) l
  unfold both
  omega
theorem len_without (l m : List Id2) : (without l m).length ≤ l.length := by
  have h1 := setOf_len (l.filter fun y => decide (y ∉ m))
  have h2 := List.length_filter_le (fun y => decide (y ∉ m)) l
  unfold without
  omega
theorem len_put (l : List Id2) (x : Id2) : (put l x).length ≤ l.length + 1 := by
  have := setOf_len (x :: l)
  simpa [put] using this
theorem len_del (l : List Id2) (x : Id2) : (del l x).length ≤ l.length := by
  have h1 := setOf_len (l.filter fun y => decide (y ≠ x))
  have h2 := List.length_filter_le (fun y => decide (y ≠ x)) l
  unfold del
  omega
end Go.Proofs.Ytdkmdaklnjomhaa
