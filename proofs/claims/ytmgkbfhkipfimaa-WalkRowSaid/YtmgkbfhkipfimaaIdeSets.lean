/-
  Carried over: contracts of this program's functions. No statement is proved in this text.
-/

set_option maxRecDepth 20000
set_option maxRecDepth 20000
namespace Go.Proofs.Ytmgkbfhkipfimaa.Sets
abbrev Id2 := Int × Int
def lt (a b : Id2) : Prop := a.1 < b.1 ∨ a.1 = b.1 ∧ a.2 < b.2
instance (a b : Id2) : Decidable (lt a b) := by unfold lt; infer_instance
theorem lt_irrefl (a : Id2) : ¬ lt a a := by unfold lt; omega
theorem lt_trans {a b c : Id2} (h : lt a b) (k : lt b c) : lt a c := by unfold lt at *; omega
theorem lt_asymm {a b : Id2} (h : lt a b) : ¬ lt b a := by unfold lt at *; omega
theorem lt_total (a b : Id2) : lt a b ∨ a = b ∨ lt b a := by
  obtain ⟨a1, a2⟩ := a
  obtain ⟨b1, b2⟩ := b
  unfold lt
  simp only [Prod.mk.injEq]
  omega
/-- A list that rises. -/
def Rises (l : List Id2) : Prop := l.Pairwise lt
theorem rises_nil : Rises [] := List.Pairwise.nil
theorem rises_cons {x : Id2} {l : List Id2} : Rises (x :: l) ↔ (∀ y ∈ l, lt x y) ∧ Rises l := List.pairwise_cons
/-- Two lists that rise and have the same IDs are the same. -/
theorem rises_ext : ∀ {l m : List Id2}, Rises l → Rises m → (∀ x, x ∈ l ↔ x ∈ m) → l = m
  | [], [], _, _, _ => rfl
  | [], y :: m, _, _, h => absurd ((h y).2 (List.mem_cons_self ..)) (by simp)
  | x :: l, [], _, _, h => absurd ((h x).1 (List.mem_cons_self ..)) (by simp)
  | x :: l, y :: m, hl, hm, h => by
    have h1 := rises_cons.1 hl
    have h2 := rises_cons.1 hm
    have e : x = y := by
      rcases List.mem_cons.1 ((h x).1 (List.mem_cons_self ..)) with e | e
      · exact e
      · rcases List.mem_cons.1 ((h y).2 (List.mem_cons_self ..)) with e2 | e2
        · exact e2.symm
        · exact absurd (h1.1 y e2) (lt_asymm (h2.1 x e))
    subst e
    congr 1
    refine rises_ext h1.2 h2.2 fun z => ?_
    have hz := h z
    simp only [List.mem_cons] at hz
    constructor
    · intro hzl
      rcases hz.1 (.inr hzl) with e | e
      · subst e
        exact absurd (h1.1 z hzl) (lt_irrefl z)
      · exact e
    · intro hzm
      rcases hz.2 (.inr hzm) with e | e
      · subst e
        exact absurd (h2.1 z hzm) (lt_irrefl z)
      · exact e
/-- A set with an ID in its place. -/
def ins (x : Id2) : List Id2 → List Id2
  | [] => [x]
  | y :: l => if lt x y then x :: y :: l else if x = y then y :: l else y :: ins x l
theorem mem_ins (x z : Id2) (l : List Id2) : z ∈ ins x l ↔ z = x ∨ z ∈ l := by
  induction l with
  | nil => simp [ins]
  | cons y l ih =>
    rw [ins]
    split
    · simp
    · split
      · rename_i _ e
        subst e
        simp
      · simp only [List.mem_cons, ih]
        constructor
        · rintro (h | h | h)
          · exact .inr (.inl h)
          · exact .inl h
          · exact .inr (.inr h)
        · rintro (h | h | h)
          · exact .inr (.inl h)
          · exact .inl h
          · exact .inr (.inr h)
theorem rises_ins (x : Id2) (l : List Id2) (h : Rises l) : Rises (ins x l) := by
  induction l with
  | nil => exact rises_cons.2 ⟨by simp, rises_nil⟩
  | cons y l ih =>
    have h1 := rises_cons.1 h
    rw [ins]
    split
    · rename_i hlt
      refine rises_cons.2 ⟨fun z hz => ?_, h⟩
      rcases List.mem_cons.1 hz with e | e
      · subst e
        exact hlt
      · exact lt_trans hlt (h1.1 z e)
    · split
      · exact h
      · rename_i hn he
        refine rises_cons.2 ⟨fun z hz => ?_, ih h1.2⟩
        rcases (mem_ins x z l).1 hz with e | e
        · subst e
          rcases lt_total z y with k | k | k
          · exact absurd k hn
          · exact absurd k he
          · exact k
        · exact h1.1 z e
/-- The set of a list. -/
def setOf (l : List Id2) : List Id2 := l.foldl (fun acc x => ins x acc) []
theorem mem_foldl (l acc : List Id2) (z : Id2) : z ∈ l.foldl (fun acc x => ins x acc) acc ↔ z ∈ acc ∨ z ∈ l := by
  induction l generalizing acc with
  | nil => simp
  | cons x l ih =>
    rw [List.foldl_cons, ih, mem_ins, List.mem_cons]
    constructor
    · rintro ((h | h) | h)
      · exact .inr (.inl h)
      · exact .inl h
      · exact .inr (.inr h)
    · rintro (h | h | h)
      · exact .inl (.inr h)
      · exact .inl (.inl h)
      · exact .inr h
theorem rises_foldl (l acc : List Id2) (h : Rises acc) : Rises (l.foldl (fun acc x => ins x acc) acc) := by
  induction l generalizing acc with
  | nil => exact h
  | cons x l ih => exact ih _ (rises_ins x acc h)
theorem mem_setOf (l : List Id2) (z : Id2) : z ∈ setOf l ↔ z ∈ l := by
  unfold setOf
  rw [mem_foldl]
  simp
theorem rises_setOf (l : List Id2) : Rises (setOf l) := rises_foldl l [] rises_nil
theorem setOf_self {l : List Id2} (h : Rises l) : setOf l = l := rises_ext (rises_setOf l) h (mem_setOf l)
theorem rises_iff_self (l : List Id2) : Rises l ↔ setOf l = l := ⟨setOf_self, fun h => h ▸ rises_setOf l⟩
theorem setOf_setOf (l : List Id2) : setOf (setOf l) = setOf l := setOf_self (rises_setOf l)
theorem setOf_ext {l m : List Id2} (h : ∀ x, x ∈ l ↔ x ∈ m) : setOf l = setOf m :=
  rises_ext (rises_setOf l) (rises_setOf m) fun x => by rw [mem_setOf, mem_setOf]; exact h x
theorem setOf_eq_iff (l m : List Id2) : setOf l = setOf m ↔ ∀ x, x ∈ l ↔ x ∈ m :=
  ⟨fun h x => by rw [← mem_setOf l, ← mem_setOf m, h], setOf_ext⟩
def put (l : List Id2) (x : Id2) : List Id2 := setOf (x :: l)
def del (l : List Id2) (x : Id2) : List Id2 := setOf (l.filter fun y => decide (y ≠ x))
def join (l m : List Id2) : List Id2 := setOf (l ++ m)
def both (l m : List Id2) : List Id2 := setOf (l.filter fun y => decide (y ∈ m))
def without (l m : List Id2) : List Id2 := setOf (l.filter fun y => decide (y ∉ m))
theorem mem_put (l : List Id2) (x z : Id2) : z ∈ put l x ↔ z = x ∨ z ∈ l := by unfold put; rw [mem_setOf, List.mem_cons]
theorem mem_del (l : List Id2) (x z : Id2) : z ∈ del l x ↔ z ∈ l ∧ z ≠ x := by unfold del; rw [mem_setOf]; simp
theorem mem_join (l m : List Id2) (z : Id2) : z ∈ join l m ↔ z ∈ l ∨ z ∈ m := by unfold join; rw [mem_setOf]; simp
theorem mem_both (l m : List Id2) (z : Id2) : z ∈ both l m ↔ z ∈ l ∧ z ∈ m := by unfold both; rw [mem_setOf]; simp
theorem mem_without (l m : List Id2) (z : Id2) : z ∈ without l m ↔ z ∈ l ∧ z ∉ m := by unfold without; rw [mem_setOf]; simp
theorem rises_put (l : List Id2) (x : Id2) : Rises (put l x) := rises_setOf _
theorem rises_del (l : List Id2) (x : Id2) : Rises (del l x) := rises_setOf _
theorem rises_join (l m : List Id2) : Rises (join l m) := rises_setOf _
theorem rises_both (l m : List Id2) : Rises (both l m) := rises_setOf _
theorem rises_without (l m : List Id2) : Rises (without l m) := rises_setOf _
theorem put_ins (l : List Id2) (x : Id2) : put l x = ins x (setOf l) :=
  rises_ext (rises_put l x) (rises_ins x _ (rises_setOf l)) fun z => by rw [mem_put, mem_ins, mem_setOf]
theorem join_comm (a b : List Id2) : join a b = join b a := setOf_ext fun x => by simp only [List.mem_append]; exact Or.comm
theorem both_comm (a b : List Id2) : both a b = both b a := rises_ext (rises_both _ _) (rises_both _ _) fun x => by rw [mem_both, mem_both]; exact And.comm
theorem join_assoc (a b c : List Id2) : join (join a b) c = join a (join b c) := rises_ext (rises_join _ _) (rises_join _ _) fun x => by simp only [mem_join]; exact or_assoc
theorem both_assoc (a b c : List Id2) : both (both a b) c = both a (both b c) := rises_ext (rises_both _ _) (rises_both _ _) fun x => by simp only [mem_both]; exact and_assoc
theorem join_self (a : List Id2) : join a a = setOf a := rises_ext (rises_join _ _) (rises_setOf _) fun x => by rw [mem_join, mem_setOf, or_self]
theorem both_self (a : List Id2) : both a a = setOf a := rises_ext (rises_both _ _) (rises_setOf _) fun x => by rw [mem_both, mem_setOf, and_self]
theorem join_both (a b c : List Id2) : join a (both b c) = both (join a b) (join a c) := rises_ext (rises_join _ _) (rises_both _ _) fun x => by
  simp only [mem_join, mem_both]
  exact or_and_left
theorem without_join (a b c : List Id2) : without a (join b c) = without (without a b) c := rises_ext (rises_without _ _) (rises_without _ _) fun x => by
  simp only [mem_without, mem_join, not_or, and_assoc]
theorem both_without (a b : List Id2) : join (both a b) (without a b) = setOf a := rises_ext (rises_join _ _) (rises_setOf _) fun x => by
  simp only [mem_join, mem_both, mem_without, mem_setOf, ← and_or_left]
  constructor
  · exact fun h => h.1
  · exact fun h => ⟨h, Decidable.em _⟩
theorem without_self (a : List Id2) : without a a = [] := rises_ext (rises_without _ _) rises_nil fun x => by
  rw [mem_without]
  simp
theorem ins_len (x : Id2) (l : List Id2) : (ins x l).length ≤ l.length + 1 := by
  induction l with
  | nil => simp [ins]
  | cons y l ih =>
    rw [ins]
    split
    · simp
    · split
      · simp
      · simpa using ih
theorem foldl_len (l acc : List Id2) : (l.foldl (fun acc x => ins x acc) acc).length ≤ acc.length + l.length := by
  induction l generalizing acc with
  | nil => simp
  | cons x l ih =>
    have h1 := ih (ins x acc)
    have h2 := ins_len x acc
    simp only [List.foldl_cons, List.length_cons]
    omega
theorem setOf_len (l : List Id2) : (setOf l).length ≤ l.length := by
  have := foldl_len l []
  simpa [setOf] using this
end Go.Proofs.Ytmgkbfhkipfimaa.Sets
