/-
  Carried over and put together: contracts of this program's functions, and plain facts. No statement is proved in this text.
-/

set_option maxRecDepth 20000
namespace Go.Proofs.YtloghkiabgnpnaaDoor.Sets
abbrev Id2 := Int × Int
def lt (a b : Id2) : Prop := a.1 < b.1 ∨ a.1 = b.1 ∧ a.2 < b.2
instance (a b : Id2) : Decidable (lt a b) := by unfold lt; infer_instance
theorem lt_irrefl (a : Id2) : ¬ lt a a := by unfold lt; omega
theorem lt_trans {a b c : Id2} (h : lt a b) (k : lt b c) : lt a c := by unfold lt at *; omega
theorem lt_asymm {a b : Id2} (h : lt a b) : ¬ lt b a := by unfold lt at *; omega
theorem lt_total (a b : Id2) : lt a b ∨ a = b ∨ lt b a := by
  obtain ⟨a1, a2⟩ := a
  obtain ⟨b1, b2⟩ := b
  unfold lt
  simp only [Prod.mk.injEq]
  omega
/-- A list that rises. -/
def Rises (l : List Id2) : Prop := l.Pairwise lt
theorem rises_nil : Rises [] := List.Pairwise.nil
theorem rises_cons {x : Id2} {l : List Id2} : Rises (x :: l) ↔ (∀ y ∈ l, lt x y) ∧ Rises l := List.pairwise_cons
/-- Two lists that rise and have the same IDs are the same. -/
theorem rises_ext : ∀ {l m : List Id2}, Rises l → Rises m → (∀ x, x ∈ l ↔ x ∈ m) → l = m
  | [], [], _, _, _ => rfl
  | [], y :: m, _, _, h => absurd ((h y).2 (List.mem_cons_self ..)) (by simp)
  | x :: l, [], _, _, h => absurd ((h x).1 (List.mem_cons_self ..)) (by simp)
  | x :: l, y :: m, hl, hm, h => by
    have h1 := rises_cons.1 hl
    have h2 := rises_cons.1 hm
    have e : x = y := by
      rcases List.mem_cons.1 ((h x).1 (List.mem_cons_self ..)) with e | e
      · exact e
      · rcases List.mem_cons.1 ((h y).2 (List.mem_cons_self ..)) with e2 | e2
        · exact e2.symm
        · exact absurd (h1.1 y e2) (lt_asymm (h2.1 x e))
    subst e
    congr 1
    refine rises_ext h1.2 h2.2 fun z => ?_
    have hz := h z
    simp only [List.mem_cons] at hz
    constructor
    · intro hzl
      rcases hz.1 (.inr hzl) with e | e
      · subst e
        exact absurd (h1.1 z hzl) (lt_irrefl z)
      · exact e
    · intro hzm
      rcases hz.2 (.inr hzm) with e | e
      · subst e
        exact absurd (h2.1 z hzm) (lt_irrefl z)
      · exact e
/-- A set with an ID in its place. -/
def ins (x : Id2) : List Id2 → List Id2
  | [] => [x]
  | y :: l => if lt x y then x :: y :: l else if x = y then y :: l else y :: ins x l
theorem mem_ins (x z : Id2) (l : List Id2) : z ∈ ins x l ↔ z = x ∨ z ∈ l := by
  induction l with
  | nil => simp [ins]
  | cons y l ih =>
    rw [ins]
    split
    · simp
    · split
      · rename_i _ e
        subst e
        simp
      · simp only [List.mem_cons, ih]
        constructor
        · rintro (h | h | h)
          · exact .inr (.inl h)
          · exact .inl h
          · exact .inr (.inr h)
        · rintro (h | h | h)
          · exact .inr (.inl h)
          · exact .inl h
          · exact .inr (.inr h)
theorem rises_ins (x : Id2) (l : List Id2) (h : Rises l) : Rises (ins x l) := by
  induction l with
  | nil => exact rises_cons.2 ⟨by simp, rises_nil⟩
  | cons y l ih =>
    have h1 := rises_cons.1 h
    rw [ins]
    split
    · rename_i hlt
      refine rises_cons.2 ⟨fun z hz => ?_, h⟩
      rcases List.mem_cons.1 hz with e | e
      · subst e
        exact hlt
      · exact lt_trans hlt (h1.1 z e)
    · split
      · exact h
      · rename_i hn he
        refine rises_cons.2 ⟨fun z hz => ?_, ih h1.2⟩
        rcases (mem_ins x z l).1 hz with e | e
        · subst e
          rcases lt_total z y with k | k | k
          · exact absurd k hn
          · exact absurd k he
          · exact k
        · exact h1.1 z e
/-- The set of a list. -/
def setOf (l : List Id2) : List Id2 := l.foldl (fun acc x => ins x acc) []
theorem mem_foldl (l acc : List Id2) (z : Id2) : z ∈ l.foldl (fun acc x => ins x acc) acc ↔ z ∈ acc ∨ z ∈ l := by
  induction l generalizing acc with
  | nil => simp
  | cons x l ih =>
    rw [List.foldl_cons, ih, mem_ins, List.mem_cons]
    constructor
    · rintro ((h | h) | h)
      · exact .inr (.inl h)
      · exact .inl h
      · exact .inr (.inr h)
    · rintro (h | h | h)
      · exact .inl (.inr h)
      · exact .inl (.inl h)
      · exact .inr h
theorem rises_foldl (l acc : List Id2) (h : Rises acc) : Rises (l.foldl (fun acc x => ins x acc) acc) := by
  induction l generalizing acc with
  | nil => exact h
  | cons x l ih => exact ih _ (rises_ins x acc h)
theorem mem_setOf (l : List Id2) (z : Id2) : z ∈ setOf l ↔ z ∈ l := by
  unfold setOf
  rw [mem_foldl]
  simp
theorem rises_setOf (l : List Id2) : Rises (setOf l) := rises_foldl l [] rises_nil
theorem setOf_self {l : List Id2} (h : Rises l) : setOf l = l := rises_ext (rises_setOf l) h (mem_setOf l)
theorem rises_iff_self (l : List Id2) : Rises l ↔ setOf l = l := ⟨setOf_self, fun h => h ▸ rises_setOf l⟩
theorem setOf_setOf (l : List Id2) : setOf (setOf l) = setOf l := setOf_self (rises_setOf l)
theorem setOf_ext {l m : List Id2} (h : ∀ x, x ∈ l ↔ x ∈ m) : setOf l = setOf m :=
  rises_ext (rises_setOf l) (rises_setOf m) fun x => by rw [mem_setOf, mem_setOf]; exact h x
theorem setOf_eq_iff (l m : List Id2) : setOf l = setOf m ↔ ∀ x, x ∈ l ↔ x ∈ m :=
  ⟨fun h x => by rw [← mem_setOf l, ← mem_setOf m, h], setOf_ext⟩
def put (l : List Id2) (x : Id2) : List Id2 := setOf (x :: l)
def del (l : List Id2) (x : Id2) : List Id2 := setOf (l.filter fun y => decide (y ≠ x))
def join (l m : List Id2) : List Id2 := setOf (l ++ m)
def both (l m : List Id2) : List Id2 := setOf (l.filter fun y => decide (y ∈ m))
def without (l m : List Id2) : List Id2 := setOf (l.filter fun y => decide (y ∉ m))
theorem mem_put (l : List Id2) (x z : Id2) : z ∈ put l x ↔ z = x ∨ z ∈ l := by unfold put; rw [mem_setOf, List.mem_cons]
theorem mem_del (l : List Id2) (x z : Id2) : z ∈ del l x ↔ z ∈ l ∧ z ≠ x := by unfold del; rw [mem_setOf]; simp
theorem mem_join (l m : List Id2) (z : Id2) : z ∈ join l m ↔ z ∈ l ∨ z ∈ m := by unfold join; rw [mem_setOf]; simp
theorem mem_both (l m : List Id2) (z : Id2) : z ∈ both l m ↔ z ∈ l ∧ z ∈ m := by unfold both; rw [mem_setOf]; simp
theorem mem_without (l m : List Id2) (z : Id2) : z ∈ without l m ↔ z ∈ l ∧ z ∉ m := by unfold without; rw [mem_setOf]; simp
theorem rises_put (l : List Id2) (x : Id2) : Rises (put l x) := rises_setOf _
theorem rises_del (l : List Id2) (x : Id2) : Rises (del l x) := rises_setOf _
theorem rises_join (l m : List Id2) : Rises (join l m) := rises_setOf _
theorem rises_both (l m : List Id2) : Rises (both l m) := rises_setOf _
theorem rises_without (l m : List Id2) : Rises (without l m) := rises_setOf _
theorem put_ins (l : List Id2) (x : Id2) : put l x = ins x (setOf l) :=
  rises_ext (rises_put l x) (rises_ins x _ (rises_setOf l)) fun z => by rw [mem_put, mem_ins, mem_setOf]
theorem join_comm (a b : List Id2) : join a b = join b a := setOf_ext fun x => by simp only [List.mem_append]; exact Or.comm
theorem both_comm (a b : List Id2) : both a b = both b a := rises_ext (rises_both _ _) (rises_both _ _) fun x => by rw [mem_both, mem_both]; exact And.comm
theorem join_assoc (a b c : List Id2) : join (join a b) c = join a (join b c) := rises_ext (rises_join _ _) (rises_join _ _) fun x => by simp only [mem_join]; exact or_assoc
theorem both_assoc (a b c : List Id2) : both (both a b) c = both a (both b c) := rises_ext (rises_both _ _) (rises_both _ _) fun x => by simp only [mem_both]; exact and_assoc
theorem join_self (a : List Id2) : join a a = setOf a := rises_ext (rises_join _ _) (rises_setOf _) fun x => by rw [mem_join, mem_setOf, or_self]
theorem both_self (a : List Id2) : both a a = setOf a := rises_ext (rises_both _ _) (rises_setOf _) fun x => by rw [mem_both, mem_setOf, and_self]
theorem join_both (a b c : List Id2) : join a (both b c) = both (join a b) (join a c) := rises_ext (rises_join _ _) (rises_both _ _) fun x => by
  simp only [mem_join, mem_both]
  exact or_and_left
theorem without_join (a b c : List Id2) : without a (join b c) = without (without a b) c := rises_ext (rises_without _ _) (rises_without _ _) fun x => by
  simp only [mem_without, mem_join, not_or, and_assoc]
theorem both_without (a b : List Id2) : join (both a b) (without a b) = setOf a := rises_ext (rises_join _ _) (rises_setOf _) fun x => by
  simp only [mem_join, mem_both, mem_without, mem_setOf, ← and_or_left]
  constructor
  · exact fun h => h.1
  · exact fun h => ⟨h, Decidable.em _⟩
theorem without_self (a : List Id2) : without a a = [] := rises_ext (rises_without _ _) rises_nil fun x => by
  rw [mem_without]
  simp
theorem ins_len (x : Id2) (l : List Id2) : (ins x l).length ≤ l.length + 1 := by
  induction l with
  | nil => simp [ins]
  | cons y l ih =>
    rw [ins]
    split
    · simp
    · split
      · simp
      · simpa using ih
theorem foldl_len (l acc : List Id2) : (l.foldl (fun acc x => ins x acc) acc).length ≤ acc.length + l.length := by
  induction l generalizing acc with
  | nil => simp
  | cons x l ih =>
    have h1 := ih (ins x acc)
    have h2 := ins_len x acc
    simp only [List.foldl_cons, List.length_cons]
    omega
theorem setOf_len (l : List Id2) : (setOf l).length ≤ l.length := by
  have := foldl_len l []
  simpa [setOf] using this
end Go.Proofs.YtloghkiabgnpnaaDoor.Sets
set_option maxRecDepth 20000
namespace Go.Proofs.YtloghkiabgnpnaaDoor
open Sets
/-- Does one ID stand ahead of another one? -/
def lss (a i b j : Int) : Bool := decide (a < b ∨ a = b ∧ i < j)
theorem lss_iff (x y : Id2) : lss x.1 x.2 y.1 y.2 = true ↔ lt x y := by simp [lss, lt]
theorem lss_not (x y : Id2) : lss x.1 x.2 y.1 y.2 = false ↔ ¬ lt x y := by
  rw [← lss_iff, Bool.not_eq_true]
/-- How two IDs stand: -1, 0, 1. -/
def cmpZ (a i b j : Int) : Int := if lss a i b j = true then -1 else if lss b j a i = true then 1 else 0
theorem cmpZ_eq (x y : Id2) : cmpZ x.1 x.2 y.1 y.2 = if lt x y then -1 else if lt y x then 1 else 0 := by
  unfold cmpZ
  simp only [lss_iff]
def risesB : List Id2 → Bool
  | x :: y :: l => lss x.1 x.2 y.1 y.2 && risesB (y :: l)
  | _ => true
theorem risesB_iff : ∀ l : List Id2, risesB l = true ↔ Rises l
  | [] => by simp [risesB, Rises]
  | [x] => by simp [risesB, Rises]
  | x :: y :: l => by
    rw [risesB, Bool.and_eq_true, lss_iff, risesB_iff (y :: l), rises_cons (x := x)]
    constructor
    · rintro ⟨h1, h2⟩
      refine ⟨fun z hz => ?_, h2⟩
      rcases List.mem_cons.1 hz with e | e
      · exact e ▸ h1
      · exact lt_trans h1 ((rises_cons.1 h2).1 z e)
    · rintro ⟨h1, h2⟩
      exact ⟨h1 y (List.mem_cons_self ..), h2⟩
theorem risesB_not_iff (l : List Id2) : risesB l = false ↔ ¬ Rises l := by rw [← risesB_iff, Bool.not_eq_true]
theorem risesB_take {l : List Id2} : ∀ {k : Nat} (h : k + 1 < l.length), risesB (l.take (k + 2)) = (risesB (l.take (k + 1)) && lss l[k].1 l[k].2 l[k+1].1 l[k+1].2) := by
  induction l with
  | nil => intro k h; simp at h
  | cons x l ih =>
    intro k h
    cases l with
    | nil => simp at h
    | cons y l =>
      cases k with
      | zero => simp [risesB]
      | succ k =>
        have := ih (k := k) (by simpa using h)
        simp only [List.take_succ_cons, risesB] at this ⊢
        rw [this, Bool.and_assoc]
        rfl
theorem risesB_not {l : List Id2} : ∀ {k : Nat} (h : k + 1 < l.length), lss l[k].1 l[k].2 l[k+1].1 l[k+1].2 = false → risesB l = false := by
  induction l with
  | nil => intro k h; simp at h
  | cons x l ih =>
    intro k h hv
    cases l with
    | nil => simp at h
    | cons y l =>
      cases k with
      | zero => simp only [risesB, Bool.and_eq_false_iff]; exact .inl hv
      | succ k => simp only [risesB, Bool.and_eq_false_iff]; exact .inr (ih (k := k) (by simpa using h) hv)
theorem risesB_one (l : List Id2) : risesB (l.take 1) = true := by
  cases l <;> rfl
/-- How the first ones of two lists stand; what is lacking comes behind all. -/
def headZ : List Id2 → List Id2 → Int
  | _, [] => -1
  | [], _ :: _ => 1
  | x :: _, y :: _ => cmpZ x.1 x.2 y.1 y.2
/-- One step of going through two lists: how the heads stand, which one goes on, and what is taken. -/
def stepL (l m : List Id2) : List Id2 := if headZ l m ≤ 0 then l.tail else l
def stepM (l m : List Id2) : List Id2 := if 0 ≤ headZ l m then m.tail else m
def stepX (l m : List Id2) : Id2 := if 0 ≤ headZ l m then m.headD (0, 0) else l.headD (0, 0)
theorem cmpZ_same (x : Id2) : cmpZ x.1 x.2 x.1 x.2 = 0 := by
  rw [cmpZ_eq, if_neg (lt_irrefl x), if_neg (lt_irrefl x)]
theorem step_less (l m : List Id2) (h : ¬ (l = [] ∧ m = [])) : (stepL l m).length + (stepM l m).length < l.length + m.length := by
  unfold stepL stepM
  cases l with
  | nil =>
    cases m with
    | nil => exact absurd ⟨rfl, rfl⟩ h
    | cons y m => simp [headZ]
  | cons x l =>
    cases m with
    | nil => simp [headZ]
    | cons y m =>
      by_cases h1 : headZ (x :: l) (y :: m) ≤ 0
      · by_cases h2 : 0 ≤ headZ (x :: l) (y :: m)
        · rw [if_pos h1, if_pos h2]
          simp only [List.tail, List.length_cons]
          omega
        · rw [if_pos h1, if_neg h2]
          simp only [List.tail, List.length_cons]
          omega
      · rw [if_neg h1, if_pos (by omega)]
        simp only [List.tail, List.length_cons]
        omega
/-- Two lists gone through together, so many steps: what is kept. -/
def mrgN (k : Bool → Bool → Bool) : Nat → List Id2 → List Id2 → List Id2
  | 0, _, _ => []
  | n + 1, l, m => if l = [] ∧ m = [] then [] else (if k (decide (headZ l m ≤ 0)) (decide (0 ≤ headZ l m)) = true then [stepX l m] else []) ++ mrgN k n (stepL l m) (stepM l m)
/-- Two lists gone through together: what is kept. -/
def mrg (k : Bool → Bool → Bool) (l m : List Id2) : List Id2 := mrgN k (l.length + m.length) l m
theorem mrgN_none (k : Bool → Bool → Bool) (n : Nat) : mrgN k n [] [] = [] := by
  cases n with
  | zero => rfl
  | succ n => rw [mrgN, if_pos ⟨rfl, rfl⟩]
theorem both_none {l m : List Id2} (h : l.length + m.length ≤ 0) : l = [] ∧ m = [] := ⟨List.eq_nil_of_length_eq_zero (by omega), List.eq_nil_of_length_eq_zero (by omega)⟩
theorem mrgN_same (k : Bool → Bool → Bool) : ∀ (a b : Nat) (l m : List Id2), l.length + m.length ≤ a → l.length + m.length ≤ b → mrgN k a l m = mrgN k b l m := by
  intro a
  induction a with
  | zero =>
    intro b l m h _
    obtain ⟨rfl, rfl⟩ := both_none h
    rw [mrgN_none, mrgN_none]
  | succ a ih =>
    intro b l m h h2
    cases b with
    | zero =>
      obtain ⟨rfl, rfl⟩ := both_none h2
      rw [mrgN_none, mrgN_none]
    | succ b =>
      rw [mrgN, mrgN]
      by_cases hn : l = [] ∧ m = []
      · rw [if_pos hn, if_pos hn]
      · have := step_less l m hn
        rw [if_neg hn, if_neg hn, ih b (stepL l m) (stepM l m) (by omega) (by omega)]
theorem mrg_none (k : Bool → Bool → Bool) : mrg k [] [] = [] := rfl
theorem mrg_step (k : Bool → Bool → Bool) (l m : List Id2) (h : ¬ (l = [] ∧ m = [])) :
    mrg k l m = (if k (decide (headZ l m ≤ 0)) (decide (0 ≤ headZ l m)) = true then [stepX l m] else []) ++ mrg k (stepL l m) (stepM l m) := by
  have hs := step_less l m h
  unfold mrg
  obtain ⟨n, hn⟩ : ∃ n, l.length + m.length = n + 1 := ⟨l.length + m.length - 1, by omega⟩
  rw [hn, mrgN, if_neg h, mrgN_same k n _ (stepL l m) (stepM l m) (by omega) (Nat.le_refl _)]
theorem mrg_left {k : Bool → Bool → Bool} {x : Id2} {l m : List Id2} (h : headZ (x :: l) m = -1) : mrg k (x :: l) m = (if k true false = true then [x] else []) ++ mrg k l m := by
  rw [mrg_step k (x :: l) m (by simp)]
  unfold stepX stepL stepM
  rw [h]
  rfl
theorem mrg_same {k : Bool → Bool → Bool} {x y : Id2} {l m : List Id2} (h : headZ (x :: l) (y :: m) = 0) : mrg k (x :: l) (y :: m) = (if k true true = true then [y] else []) ++ mrg k l m := by
  rw [mrg_step k (x :: l) (y :: m) (by simp)]
  unfold stepX stepL stepM
  rw [h]
  rfl
theorem mrg_right {k : Bool → Bool → Bool} {y : Id2} {l m : List Id2} (h : headZ l (y :: m) = 1) : mrg k l (y :: m) = (if k false true = true then [y] else []) ++ mrg k l m := by
  rw [mrg_step k l (y :: m) (by simp)]
  unfold stepX stepL stepM
  rw [h]
  rfl
/-- What comes of two lists: it rises, and has just those that are kept. -/
def Kept (k : Bool → Bool → Bool) (l m r : List Id2) : Prop := Rises r ∧ ∀ z, z ∈ r ↔ (z ∈ l ∨ z ∈ m) ∧ k (decide (z ∈ l)) (decide (z ∈ m)) = true
/-- One ID, ahead of all that is left of both lists, is gone over. -/
theorem kept_one {k : Bool → Bool → Bool} {l m l' m' r : List Id2} {x : Id2} {p q : Bool} (ih : Kept k l' m' r) (hl : ∀ z, z ∈ l ↔ (z = x ∧ p = true) ∨ z ∈ l') (hm : ∀ z, z ∈ m ↔ (z = x ∧ q = true) ∨ z ∈ m')
    (hpq : p = true ∨ q = true) (h1 : ∀ z ∈ l', lt x z) (h2 : ∀ z ∈ m', lt x z) : Kept k l m ((if k p q = true then [x] else []) ++ r) := by
  obtain ⟨i1, i2⟩ := ih
  have xl : x ∉ l' := fun h => lt_irrefl x (h1 x h)
  have xm : x ∉ m' := fun h => lt_irrefl x (h2 x h)
  have dl : decide (x ∈ l) = p := by
    cases p
    · exact decide_eq_false fun h => by rcases (hl x).1 h with e | e; exact absurd e.2 (by decide); exact xl e
    · exact decide_eq_true ((hl x).2 (.inl ⟨rfl, rfl⟩))
  have dm : decide (x ∈ m) = q := by
    cases q
    · exact decide_eq_false fun h => by rcases (hm x).1 h with e | e; exact absurd e.2 (by decide); exact xm e
    · exact decide_eq_true ((hm x).2 (.inl ⟨rfl, rfl⟩))
  have hx : x ∈ l ∨ x ∈ m := by
    rcases hpq with e | e
    · exact .inl ((hl x).2 (.inl ⟨rfl, e⟩))
    · exact .inr ((hm x).2 (.inl ⟨rfl, e⟩))
  have xr : x ∉ r := fun h => by
    rcases ((i2 x).1 h).1 with e | e
    · exact xl e
    · exact xm e
  have other : ∀ z, z ≠ x → ((z ∈ l ↔ z ∈ l') ∧ (z ∈ m ↔ z ∈ m')) := fun z hz => by
    rw [hl z, hm z]
    simp [hz]
  have hmem : ∀ z, z ≠ x → (z ∈ r ↔ (z ∈ l ∨ z ∈ m) ∧ k (decide (z ∈ l)) (decide (z ∈ m)) = true) := fun z hz => by
    rw [i2 z]
    have h3 := other z hz
    have e1 : decide (z ∈ l) = decide (z ∈ l') := by rw [Bool.eq_iff_iff, decide_eq_true_iff, decide_eq_true_iff]; exact h3.1
    have e2 : decide (z ∈ m) = decide (z ∈ m') := by rw [Bool.eq_iff_iff, decide_eq_true_iff, decide_eq_true_iff]; exact h3.2
    rw [e1, e2, h3.1, h3.2]
  by_cases hk : k p q = true
  · rw [if_pos hk]
    refine ⟨rises_cons.2 ⟨fun z hz => ?_, i1⟩, fun z => ?_⟩
    · rcases ((i2 z).1 hz).1 with e | e
      · exact h1 z e
      · exact h2 z e
    · by_cases hz : z = x
      · subst hz
        rw [dl, dm]
        exact ⟨fun _ => ⟨hx, hk⟩, fun _ => List.mem_cons_self ..⟩
      · rw [← hmem z hz]
        simp [hz]
  · rw [if_neg hk]
    refine ⟨i1, fun z => ?_⟩
    by_cases hz : z = x
    · subst hz
      rw [dl, dm]
      exact ⟨fun h => absurd h xr, fun h => absurd h.2 hk⟩
    · rw [← hmem z hz]
      simp
theorem mrg_kept (k : Bool → Bool → Bool) : ∀ (n : Nat) (l m : List Id2), l.length + m.length ≤ n → Rises l → Rises m → Kept k l m (mrg k l m) := by
  intro n
  induction n with
  | zero =>
    intro l m h _ _
    obtain ⟨rfl, rfl⟩ := both_none h
    exact ⟨rises_nil, by simp [mrg_none]⟩
  | succ n ih =>
    intro l m h hl hm
    cases l with
    | nil =>
      cases m with
      | nil => exact ⟨rises_nil, by simp [mrg_none]⟩
      | cons y m =>
        have h2 := rises_cons.1 hm
        rw [mrg_right rfl]
        exact kept_one (ih [] m (by simp at h ⊢; omega) hl h2.2) (by simp) (by simp) (.inr rfl) (by simp) h2.1
    | cons x l =>
      have h1 := rises_cons.1 hl
      cases m with
      | nil =>
        rw [mrg_left rfl]
        exact kept_one (ih l [] (by simp at h ⊢; omega) h1.2 hm) (by simp) (by simp) (.inl rfl) h1.1 (by simp)
      | cons y m =>
        have h2 := rises_cons.1 hm
        have hz : headZ (x :: l) (y :: m) = cmpZ x.1 x.2 y.1 y.2 := rfl
        rw [cmpZ_eq] at hz
        by_cases hlt : lt x y
        · rw [if_pos hlt] at hz
          rw [mrg_left hz]
          refine kept_one (ih l (y :: m) (by simp at h ⊢; omega) h1.2 hm) (by simp) (by simp) (.inl rfl) h1.1 fun z hz => ?_
          rcases List.mem_cons.1 hz with e | e
          · exact e ▸ hlt
          · exact lt_trans hlt (h2.1 z e)
        · rw [if_neg hlt] at hz
          by_cases hgt : lt y x
          · rw [if_pos hgt] at hz
            rw [mrg_right hz]
            refine kept_one (ih (x :: l) m (by simp at h ⊢; omega) hl h2.2) (by simp) (by simp) (.inr rfl) (fun z hz => ?_) h2.1
            rcases List.mem_cons.1 hz with e | e
            · exact e ▸ hgt
            · exact lt_trans hgt (h1.1 z e)
          · rw [if_neg hgt] at hz
            have exy : x = y := by
              rcases lt_total x y with e | e | e
              · exact absurd e hlt
              · exact e
              · exact absurd e hgt
            subst exy
            rw [mrg_same hz]
            exact kept_one (ih l m (by simp at h ⊢; omega) h1.2 h2.2) (by simp) (by simp) (.inl rfl) h1.1 h2.1
/-- What comes of it: it rises, and has just those that are kept. -/
theorem mrg_is (k : Bool → Bool → Bool) (l m : List Id2) (hl : Rises l) (hm : Rises m) :
    Rises (mrg k l m) ∧ ∀ z, z ∈ mrg k l m ↔ (z ∈ l ∨ z ∈ m) ∧ k (decide (z ∈ l)) (decide (z ∈ m)) = true := mrg_kept k _ l m (Nat.le_refl _) hl hm
theorem mrg_all (l m : List Id2) : mrg (fun _ _ => true) (setOf l) (setOf m) = join l m := by
  obtain ⟨h1, h2⟩ := mrg_is (fun _ _ => true) _ _ (rises_setOf l) (rises_setOf m)
  exact rises_ext h1 (rises_join _ _) fun z => by rw [h2, mem_join, mem_setOf, mem_setOf]; simp
theorem mrg_or (l m : List Id2) : mrg (fun a b => a || b) (setOf l) (setOf m) = join l m := by
  obtain ⟨h1, h2⟩ := mrg_is (fun a b => a || b) _ _ (rises_setOf l) (rises_setOf m)
  exact rises_ext h1 (rises_join _ _) fun z => by
    rw [h2, mem_join]
    simp only [Bool.or_eq_true, decide_eq_true_eq]
    rw [mem_setOf, mem_setOf, and_self]
theorem mrg_and (l m : List Id2) : mrg (fun a b => a && b) (setOf l) (setOf m) = both l m := by
  obtain ⟨h1, h2⟩ := mrg_is (fun a b => a && b) _ _ (rises_setOf l) (rises_setOf m)
  exact rises_ext h1 (rises_both _ _) fun z => by
    rw [h2, mem_both]
    simp only [Bool.and_eq_true, decide_eq_true_eq]
    rw [mem_setOf, mem_setOf]
    exact ⟨fun h => h.2, fun h => ⟨.inl h.1, h⟩⟩
theorem mrg_not (l m : List Id2) : mrg (fun a b => a && !b) (setOf l) (setOf m) = without l m := by
  obtain ⟨h1, h2⟩ := mrg_is (fun a b => a && !b) _ _ (rises_setOf l) (rises_setOf m)
  exact rises_ext h1 (rises_without _ _) fun z => by
    rw [h2, mem_without]
    simp only [Bool.and_eq_true, decide_eq_true_eq, Bool.not_eq_true', decide_eq_false_iff_not]
    rw [mem_setOf, mem_setOf]
    exact ⟨fun h => h.2, fun h => ⟨.inl h.1, h⟩⟩
theorem join_halves (l : List Id2) (k : Nat) : join (l.take k) (l.drop k) = setOf l := by
  unfold join
  rw [List.take_append_drop]
theorem put_is (l : List Id2) (x : Id2) : join l [x] = put l x := rises_ext (rises_join _ _) (rises_put _ _) fun z => by
  rw [mem_join, mem_put, List.mem_singleton]
  exact Or.comm
theorem del_is (l : List Id2) (x : Id2) : without l [x] = del l x := rises_ext (rises_without _ _) (rises_del _ _) fun z => by
  rw [mem_without, mem_del, List.mem_singleton]
theorem len_join (l m : List Id2) : (join l m).length ≤ l.length + m.length := by
  have := setOf_len (l ++ m)
  simpa [join] using this
theorem len_both (l m : List Id2) : (both l m).length ≤ l.length := by
  have h1 := setOf_len (l.filter fun y => decide (y ∈ m))
  have h2 := List.length_filter_le (fun y => decide (y ∈ m)) l
  unfold both
  omega
theorem len_without (l m : List Id2) : (without l m).length ≤ l.length := by
  have h1 := setOf_len (l.filter fun y => decide (y ∉ m))
  have h2 := List.length_filter_le (fun y => decide (y ∉ m)) l
  unfold without
  omega
theorem len_put (l : List Id2) (x : Id2) : (put l x).length ≤ l.length + 1 := by
  have := setOf_len (x :: l)
  simpa [put] using this
theorem len_del (l : List Id2) (x : Id2) : (del l x).length ≤ l.length := by
  have h1 := setOf_len (l.filter fun y => decide (y ≠ x))
  have h2 := List.length_filter_le (fun y => decide (y ≠ x)) l
  unfold del
  omega
end Go.Proofs.YtloghkiabgnpnaaDoor
namespace Go.Proofs.YtloghkiabgnpnaaDoor
namespace Stab
open Sets
theorem not_lt_trans {a b c : Id2} (h : ¬ lt b a) (k : ¬ lt c b) : ¬ lt c a := by unfold lt at *; omega
theorem lt_of_lt_of_le {a b c : Id2} (h : lt a b) (k : ¬ lt c b) : lt a c := by unfold lt at *; omega
theorem lt_of_le_of_lt {a b c : Id2} (h : ¬ lt b a) (k : lt b c) : lt a c := by unfold lt at *; omega
theorem lt_ne {a b : Id2} (h : lt a b) : a ≠ b := fun e => lt_irrefl a (by rw [← e] at h; exact h)
section
variable {α : Type} (key : α → Id2)
/-- The keys do not fall. -/
def Sorted (l : List α) : Prop := l.Pairwise fun x y => ¬ lt (key y) (key x)
/-- Two lists have the same elements of each key, in one row. -/
def Same (l m : List α) : Prop := l.length = m.length ∧ ∀ y, l.filter (fun x => decide (key x = y)) = m.filter (fun x => decide (key x = y))
variable {key}
theorem Same.refl (l : List α) : Same key l l := ⟨rfl, fun _ => rfl⟩
theorem Same.symm {l m : List α} (h : Same key l m) : Same key m l := ⟨h.1.symm, fun y => (h.2 y).symm⟩
theorem Same.trans {l m n : List α} (h : Same key l m) (k : Same key m n) : Same key l n := ⟨h.1.trans k.1, fun y => (h.2 y).trans (k.2 y)⟩
theorem Same.app {l m l' m' : List α} (h : Same key l m) (k : Same key l' m') : Same key (l ++ l') (m ++ m') :=
  ⟨by simp [h.1, k.1], fun y => by rw [List.filter_append, List.filter_append, h.2, k.2]⟩
theorem Same.mem {l m : List α} (h : Same key l m) {x : α} : x ∈ l ↔ x ∈ m := by
  have := h.2 (key x)
  constructor
  · intro hx
    have h1 : x ∈ l.filter (fun z => decide (key z = key x)) := List.mem_filter.2 ⟨hx, by simp⟩
    rw [this] at h1
    exact (List.mem_filter.1 h1).1
  · intro hx
    have h1 : x ∈ m.filter (fun z => decide (key z = key x)) := List.mem_filter.2 ⟨hx, by simp⟩
    rw [← this] at h1
    exact (List.mem_filter.1 h1).1
theorem same_swap {X Y : List α} (h : ∀ x ∈ X, ∀ y ∈ Y, key x ≠ key y) : Same key (X ++ Y) (Y ++ X) := by
  refine ⟨by simp; omega, fun z => ?_⟩
  rw [List.filter_append, List.filter_append]
  by_cases c : ∃ x ∈ X, key x = z
  · obtain ⟨x, hx, rfl⟩ := c
    have : Y.filter (fun y => decide (key y = key x)) = [] := List.filter_eq_nil_iff.2 fun y hy => by simpa using fun e => h x hx y hy e.symm
    rw [this]
    simp
  · have : X.filter (fun x => decide (key x = z)) = [] := List.filter_eq_nil_iff.2 fun x hx => by simpa using fun e => c ⟨x, hx, e⟩
    rw [this]
    simp
theorem sorted_app {X Y : List α} : Sorted key (X ++ Y) ↔ Sorted key X ∧ Sorted key Y ∧ ∀ x ∈ X, ∀ y ∈ Y, ¬ lt (key y) (key x) := List.pairwise_append
theorem sorted_nil : Sorted key ([] : List α) := List.Pairwise.nil
theorem sorted_one (x : α) : Sorted key [x] := List.pairwise_singleton _ _
theorem sorted_cons {x : α} {X : List α} : Sorted key (x :: X) ↔ (∀ y ∈ X, ¬ lt (key y) (key x)) ∧ Sorted key X := List.pairwise_cons
theorem Sorted.at_ [Inhabited α] {X : List α} (h : Sorted key X) {i j : Nat} (hij : i ≤ j) (hj : j < X.length) : ¬ lt (key X[j]!) (key X[i]!) := by
  rw [getElem!_pos X j hj, getElem!_pos X i (by omega)]
  by_cases e : i = j
  · subst e
    exact lt_irrefl _
  · exact List.pairwise_iff_getElem.1 h i j (by omega) hj (by omega)
/-- What stands ahead of a place, and from there on. -/
theorem mem_take_at [Inhabited α] {X : List α} {k : Nat} {x : α} (h : x ∈ X.take k) : ∃ i, i < k ∧ i < X.length ∧ x = X[i]! := by
  obtain ⟨i, hi, e⟩ := List.mem_iff_getElem.1 h
  have h1 : i < k ∧ i < X.length := by rw [List.length_take] at hi; omega
  exact ⟨i, h1.1, h1.2, by rw [getElem!_pos X i h1.2, ← e, List.getElem_take]⟩
theorem mem_drop_at [Inhabited α] {X : List α} {k : Nat} {x : α} (h : x ∈ X.drop k) : ∃ i, k ≤ i ∧ i < X.length ∧ x = X[i]! := by
  obtain ⟨i, hi, e⟩ := List.mem_iff_getElem.1 h
  have h1 : k + i < X.length := by simp at hi; omega
  exact ⟨k + i, by omega, h1, by rw [getElem!_pos X _ h1, ← e, List.getElem_drop]⟩
theorem Sorted.take {X : List α} (h : Sorted key X) (k : Nat) : Sorted key (X.take k) := List.Pairwise.sublist (List.take_sublist _ _) h
theorem Sorted.drop {X : List α} (h : Sorted key X) (k : Nat) : Sorted key (X.drop k) := List.Pairwise.sublist (List.drop_sublist _ _) h
/-- An element goes down to its place. -/
theorem insert_sorted {S1 S2 : List α} {x : α} (h : Sorted key (S1 ++ S2)) (h2 : ∀ y ∈ S2, lt (key x) (key y)) (h1 : ∀ y ∈ S1, ¬ lt (key x) (key y)) : Sorted key (S1 ++ x :: S2) := by
  obtain ⟨a, b, c⟩ := sorted_app.1 h
  refine sorted_app.2 ⟨a, sorted_cons.2 ⟨fun y hy => lt_asymm (h2 y hy), b⟩, fun y hy z hz => ?_⟩
  rcases List.mem_cons.1 hz with rfl | hz
  · exact h1 y hy
  · exact c y hy z hz
theorem insert_same {S1 S2 : List α} {x : α} (h2 : ∀ y ∈ S2, lt (key x) (key y)) : Same key (S1 ++ S2 ++ [x]) (S1 ++ x :: S2) := by
  have h := same_swap (key := key) (X := S2) (Y := [x]) (fun y hy z hz => by
    obtain rfl : z = x := by simpa using hz
    exact fun e => lt_ne (h2 y hy) e.symm)
  have := (Same.refl (key := key) S1).app h
  simpa using this
/-- The last one of those ahead is not greater: none is. -/
theorem below_last {S : List α} {y x : α} (h : Sorted key (S ++ [y])) (hx : ¬ lt (key x) (key y)) : ∀ z ∈ S ++ [y], ¬ lt (key x) (key z) := by
  intro z hz
  rcases List.mem_append.1 hz with hz | hz
  · exact not_lt_trans ((sorted_app.1 h).2.2 z hz y (by simp)) hx
  · obtain rfl : z = y := by simpa using hz
    exact hx
/-- An element goes up to its place. -/
theorem raise_sorted {Y : List α} {x : α} {k : Nat} (h : Sorted key Y) (h1 : ∀ y ∈ Y.take k, lt (key y) (key x)) (h2 : ∀ y ∈ Y.drop k, ¬ lt (key y) (key x)) : Sorted key (Y.take k ++ x :: Y.drop k) ∧ Same key (x :: Y) (Y.take k ++ x :: Y.drop k) := by
  constructor
  · rw [← List.take_append_drop k Y] at h
    obtain ⟨a, b, c⟩ := sorted_app.1 h
    refine sorted_app.2 ⟨a, sorted_cons.2 ⟨h2, b⟩, fun y hy z hz => ?_⟩
    rcases List.mem_cons.1 hz with rfl | hz
    · exact lt_asymm (h1 y hy)
    · exact c y hy z hz
  · have h := same_swap (key := key) (X := [x]) (Y := Y.take k) (fun z hz y hy => by
      obtain rfl : z = x := by simpa using hz
      exact fun e => lt_ne (h1 y hy) e.symm)
    have := h.app (Same.refl (key := key) (Y.drop k))
    simpa [List.take_append_drop] using this
/-- What a search finds in a list that is sorted: all ahead of the place are less, all from there on are not. -/
theorem place_low [Inhabited α] {Y : List α} {x : α} {i : Nat} (h : Sorted key Y) (hi : i ≤ Y.length) (h1 : i = 0 ∨ lt (key Y[i - 1]!) (key x)) : ∀ y ∈ Y.take i, lt (key y) (key x) := by
  intro y hy
  obtain ⟨j, hj, hl, rfl⟩ := mem_take_at hy
  rcases h1 with h1 | h1
  · omega
  · exact lt_of_le_of_lt (h.at_ (show j ≤ i - 1 by omega) (by omega)) h1
theorem place_high [Inhabited α] {Y : List α} {x : α} {i : Nat} (h : Sorted key Y) (h1 : i = Y.length ∨ ¬ lt (key Y[i]!) (key x)) : ∀ y ∈ Y.drop i, ¬ lt (key y) (key x) := by
  intro y hy
  obtain ⟨j, hj, hl, rfl⟩ := mem_drop_at hy
  rcases h1 with h1 | h1
  · omega
  · exact not_lt_trans h1 (h.at_ hj hl)
theorem place_low' [Inhabited α] {Y : List α} {x : α} {i : Nat} (h : Sorted key Y) (hi : i ≤ Y.length) (h1 : i = 0 ∨ ¬ lt (key x) (key Y[i - 1]!)) : ∀ y ∈ Y.take i, ¬ lt (key x) (key y) := by
  intro y hy
  obtain ⟨j, hj, hl, rfl⟩ := mem_take_at hy
  rcases h1 with h1 | h1
  · omega
  · exact not_lt_trans (h.at_ (show j ≤ i - 1 by omega) (by omega)) h1
theorem place_high' [Inhabited α] {Y : List α} {x : α} {i : Nat} (h : Sorted key Y) (h1 : i = Y.length ∨ lt (key x) (key Y[i]!)) : ∀ y ∈ Y.drop i, lt (key x) (key y) := by
  intro y hy
  obtain ⟨j, hj, hl, rfl⟩ := mem_drop_at hy
  rcases h1 with h1 | h1
  · omega
  · exact lt_of_lt_of_le h1 (h.at_ hj hl)
/-- Two sorted parts that were cut, and turned about in the middle. -/
theorem cut_merge {X Y M1 M2 : List α} {i j : Nat} (hX : Sorted key X) (hY : Sorted key Y)
    (hs : ∀ x ∈ X.drop i, ∀ y ∈ Y.take j, lt (key y) (key x)) (hl : ∀ x ∈ X.take i, ∀ y ∈ Y.drop j, ¬ lt (key y) (key x))
    (s1 : Sorted key M1) (s2 : Sorted key M2) (k1 : Same key (X.take i ++ Y.take j) M1) (k2 : Same key (X.drop i ++ Y.drop j) M2) : Sorted key (M1 ++ M2) ∧ Same key (X ++ Y) (M1 ++ M2) := by
  have hX2 := hX
  have hY2 := hY
  rw [← List.take_append_drop i X] at hX2
  rw [← List.take_append_drop j Y] at hY2
  constructor
  · refine sorted_app.2 ⟨s1, s2, fun x hx y hy => ?_⟩
    have hx := List.mem_append.1 (k1.mem.2 hx)
    have hy := List.mem_append.1 (k2.mem.2 hy)
    rcases hx with hx | hx <;> rcases hy with hy | hy
    · exact (sorted_app.1 hX2).2.2 x hx y hy
    · exact hl x hx y hy
    · exact lt_asymm (hs y hy x hx)
    · exact (sorted_app.1 hY2).2.2 x hx y hy
  · have h := same_swap (key := key) (X := X.drop i) (Y := Y.take j) (fun x hx y hy e => lt_ne (hs x hx y hy) e.symm)
    have h2 := ((Same.refl (key := key) (X.take i)).app h).app (Same.refl (key := key) (Y.drop j))
    have h3 : X.take i ++ (X.drop i ++ Y.take j) ++ Y.drop j = X ++ Y := by
      have e1 := List.take_append_drop i X
      have e2 := List.take_append_drop j Y
      calc X.take i ++ (X.drop i ++ Y.take j) ++ Y.drop j = (X.take i ++ X.drop i) ++ (Y.take j ++ Y.drop j) := by simp only [List.append_assoc]
        _ = X ++ Y := by rw [e1, e2]
    rw [h3] at h2
    refine h2.trans ?_
    have h4 : X.take i ++ (Y.take j ++ X.drop i) ++ Y.drop j = (X.take i ++ Y.take j) ++ (X.drop i ++ Y.drop j) := by simp
    rw [h4]
    exact k1.app k2
end
theorem cut_strict {α : Type} [Inhabited α] {key : α → Id2} {X Y : List α} {i j : Nat} (hX : Sorted key X) (hY : Sorted key Y) (hj : j ≤ Y.length) (h : X.length ≤ i ∨ j = 0 ∨ lt (key Y[j - 1]!) (key X[i]!)) : ∀ x ∈ X.drop i, ∀ y ∈ Y.take j, lt (key y) (key x) := by
  intro x hx y hy
  obtain ⟨k, hk, hl, rfl⟩ := mem_drop_at hx
  obtain ⟨u, hu, hv, rfl⟩ := mem_take_at hy
  rcases h with h | h | h
  · omega
  · omega
  · exact lt_of_le_of_lt (hY.at_ (show u ≤ j - 1 by omega) (by omega)) (lt_of_lt_of_le h (hX.at_ hk hl))
theorem cut_low {α : Type} [Inhabited α] {key : α → Id2} {X Y : List α} {i j : Nat} (hX : Sorted key X) (hY : Sorted key Y) (hi : i ≤ X.length) (h : i = 0 ∨ Y.length ≤ j ∨ ¬ lt (key Y[j]!) (key X[i - 1]!)) : ∀ x ∈ X.take i, ∀ y ∈ Y.drop j, ¬ lt (key y) (key x) := by
  intro x hx y hy
  obtain ⟨k, hk, hl, rfl⟩ := mem_take_at hx
  obtain ⟨u, hu, hv, rfl⟩ := mem_drop_at hy
  rcases h with h | h | h
  · omega
  · omega
  · exact not_lt_trans (hX.at_ (show k ≤ i - 1 by omega) (by omega)) (not_lt_trans h (hY.at_ hu hv))
end Stab
end Go.Proofs.YtloghkiabgnpnaaDoor
