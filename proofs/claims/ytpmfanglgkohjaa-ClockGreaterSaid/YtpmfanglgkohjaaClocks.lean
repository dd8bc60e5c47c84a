/-
  Plain mathematics of clocks: lists of an ID and a count; what they say, how two stand, what comes of two. Nothing of the program; no statement is proved in this text.
  For a seat: put the seat's Name for Ytpmfanglgkohjaa; Sets.lean stands beside it.
-/
import Derived.Test.YtpmfanglgkohjaaSets
namespace Go.Proofs.Ytpmfanglgkohjaa.Clocks
open Go.Proofs.Ytpmfanglgkohjaa.Sets
abbrev Tick := Id2 × Int
/-- What a list says of an ID: the greatest count, 0 at least. -/
def says : List Tick → Id2 → Int
  | [], _ => 0
  | t :: c, x => if t.1 = x then max t.2 (says c x) else says c x
theorem says_nil (x : Id2) : says [] x = 0 := rfl
theorem says_pos (c : List Tick) (x : Id2) : 0 ≤ says c x := by
  induction c with
  | nil => exact Int.le_refl _
  | cons t c ih =>
    rw [says]
    split <;> omega
theorem says_append (a b : List Tick) (x : Id2) : says (a ++ b) x = max (says a x) (says b x) := by
  induction a with
  | nil => have := says_pos b x; simp only [List.nil_append, says]; omega
  | cons t a ih =>
    simp only [List.cons_append, says, ih]
    split <;> omega
theorem says_mem {c : List Tick} {x : Id2} (h : 0 < says c x) : (x, says c x) ∈ c := by
  induction c with
  | nil => simp [says] at h
  | cons t c ih =>
    rw [says] at h ⊢
    by_cases e : t.1 = x
    · rw [if_pos e] at h ⊢
      rcases Int.le_total t.2 (says c x) with h1 | h1
      · rw [Int.max_eq_right h1] at h ⊢
        exact List.mem_cons_of_mem _ (ih h)
      · rw [Int.max_eq_left h1, ← e]
        exact List.mem_cons_self ..
    · rw [if_neg e] at h ⊢
      exact List.mem_cons_of_mem _ (ih h)
theorem says_ge {c : List Tick} {t : Tick} (h : t ∈ c) : t.2 ≤ says c t.1 := by
  induction c with
  | nil => cases h
  | cons u c ih =>
    rw [says]
    rcases List.mem_cons.1 h with rfl | h
    · rw [if_pos rfl]; omega
    · have := ih h
      split <;> omega
theorem says_zero {c : List Tick} {x : Id2} (h : ∀ t ∈ c, t.1 = x → t.2 ≤ 0) : says c x = 0 := by
  rcases Int.lt_or_le 0 (says c x) with h1 | h1
  · have := h _ (says_mem h1) rfl
    simp at this
    omega
  · have := says_pos c x
    omega
/-- IDs that rise, each with a count above 0. -/
def Norm (c : List Tick) : Prop := Rises (c.map (·.1)) ∧ ∀ t ∈ c, 0 < t.2
theorem norm_nil : Norm [] := ⟨rises_nil, fun _ h => by cases h⟩
theorem norm_cons {t : Tick} {c : List Tick} : Norm (t :: c) ↔ (∀ u ∈ c, lt t.1 u.1) ∧ 0 < t.2 ∧ Norm c := by
  unfold Norm
  rw [List.map_cons, rises_cons]
  constructor
  · rintro ⟨⟨h1, h2⟩, h3⟩
    exact ⟨fun u hu => h1 _ (List.mem_map_of_mem hu), h3 t (List.mem_cons_self ..), h2, fun u hu => h3 u (List.mem_cons_of_mem _ hu)⟩
  · rintro ⟨h1, h2, h3, h4⟩
    refine ⟨⟨fun y hy => ?_, h3⟩, fun u hu => ?_⟩
    · obtain ⟨u, hu, rfl⟩ := List.mem_map.1 hy
      exact h1 u hu
    · rcases List.mem_cons.1 hu with rfl | hu
      · exact h2
      · exact h4 u hu
theorem norm_says {c : List Tick} (h : Norm c) {t : Tick} (ht : t ∈ c) : says c t.1 = t.2 := by
  induction c with
  | nil => cases ht
  | cons u c ih =>
    obtain ⟨h1, h2, h3⟩ := norm_cons.1 h
    rw [says]
    rcases List.mem_cons.1 ht with rfl | ht
    · rw [if_pos rfl, says_zero (fun v hv e => absurd (e ▸ h1 v hv) (lt_irrefl _))]
      omega
    · rw [if_neg (fun e => absurd (e ▸ h1 t ht) (lt_irrefl _))]
      exact ih h3 ht
theorem norm_mem {c : List Tick} (h : Norm c) (t : Tick) : t ∈ c ↔ 0 < t.2 ∧ says c t.1 = t.2 := by
  constructor
  · exact fun ht => ⟨h.2 t ht, norm_says h ht⟩
  · rintro ⟨h1, h2⟩
    have := says_mem (c := c) (x := t.1) (by omega)
    rw [h2] at this
    exact this
/-- Two such lists that say the same are the same. -/
theorem norm_ext : ∀ {a b : List Tick}, Norm a → Norm b → (∀ x, says a x = says b x) → a = b
  | [], [], _, _, _ => rfl
  | [], u :: b, _, hb, h => by
    have h1 := (norm_mem hb u).1 (List.mem_cons_self ..)
    have := h u.1
    rw [h1.2] at this
    simp only [says] at this
    omega
  | t :: a, [], ha, _, h => by
    have h1 := (norm_mem ha t).1 (List.mem_cons_self ..)
    have := h t.1
    rw [h1.2] at this
    simp only [says] at this
    omega
  | t :: a, u :: b, ha, hb, h => by
    obtain ⟨a1, a2, a3⟩ := norm_cons.1 ha
    obtain ⟨b1, b2, b3⟩ := norm_cons.1 hb
    have hm : ∀ v, v ∈ t :: a ↔ v ∈ u :: b := fun v => by rw [norm_mem ha, norm_mem hb, h]
    have e : t = u := by
      rcases List.mem_cons.1 ((hm t).1 (List.mem_cons_self ..)) with e | e
      · exact e
      · rcases List.mem_cons.1 ((hm u).2 (List.mem_cons_self ..)) with e2 | e2
        · exact e2.symm
        · exact absurd (a1 u e2) (lt_asymm (b1 t e))
    subst e
    congr 1
    refine norm_ext a3 b3 fun x => ?_
    have hx := h x
    rw [says, says] at hx
    by_cases e : t.1 = x
    · subst e
      rw [says_zero (fun v hv e => absurd (e ▸ a1 v hv) (lt_irrefl _)), says_zero (fun v hv e => absurd (e ▸ b1 v hv) (lt_irrefl _))]
    · rwa [if_neg e, if_neg e] at hx
/-- The clock that says of these IDs what f says. -/
def clk (f : Id2 → Int) (ids : List Id2) : List Tick := ((setOf ids).filter fun x => decide (0 < f x)).map fun x => (x, f x)
theorem clk_ids (f : Id2 → Int) (ids : List Id2) : (clk f ids).map (·.1) = (setOf ids).filter fun x => decide (0 < f x) := by
  unfold clk
  rw [List.map_map]
  exact List.map_id _
theorem norm_clk (f : Id2 → Int) (ids : List Id2) : Norm (clk f ids) := by
  refine ⟨?_, fun t ht => ?_⟩
  · rw [clk_ids]
    exact List.Pairwise.filter _ (rises_setOf ids)
  · obtain ⟨x, hx, rfl⟩ := List.mem_map.1 ht
    simpa using (List.mem_filter.1 hx).2
theorem says_clk {f : Id2 → Int} {ids : List Id2} (h0 : ∀ x, 0 ≤ f x) (h : ∀ x, 0 < f x → x ∈ ids) (x : Id2) : says (clk f ids) x = f x := by
  rcases Int.lt_or_le 0 (f x) with h1 | h1
  · have hm : (x, f x) ∈ clk f ids := List.mem_map.2 ⟨x, List.mem_filter.2 ⟨(mem_setOf ids x).2 (h x h1), by simpa using h1⟩, rfl⟩
    exact norm_says (norm_clk f ids) hm
  · have h2 := h0 x
    have h3 : f x = 0 := by omega
    rw [h3]
    refine says_zero fun t ht e => ?_
    obtain ⟨y, hy, rfl⟩ := List.mem_map.1 ht
    simp only at e ⊢
    subst e
    omega
/-- Join. -/
def joinC (a b : List Tick) : List Tick := clk (fun x => max (says a x) (says b x)) ((a ++ b).map (·.1))
theorem says_ids {c : List Tick} {x : Id2} (h : 0 < says c x) : x ∈ c.map (·.1) := List.mem_map.2 ⟨_, says_mem h, rfl⟩
theorem says_join (a b : List Tick) (x : Id2) : says (joinC a b) x = max (says a x) (says b x) := by
  refine says_clk (fun x => by have := says_pos a x; omega) (fun x h => ?_) x
  rw [← says_append] at h
  exact says_ids h
theorem norm_join (a b : List Tick) : Norm (joinC a b) := norm_clk _ _
theorem join_comm (a b : List Tick) : joinC a b = joinC b a := norm_ext (norm_join _ _) (norm_join _ _) fun x => by rw [says_join, says_join]; omega
theorem join_assoc (a b c : List Tick) : joinC (joinC a b) c = joinC a (joinC b c) := norm_ext (norm_join _ _) (norm_join _ _) fun x => by simp only [says_join]; omega
theorem join_self {a : List Tick} (h : Norm a) : joinC a a = a := norm_ext (norm_join _ _) h fun x => by rw [says_join]; omega
theorem join_nil {a : List Tick} (h : Norm a) : joinC a [] = a := norm_ext (norm_join _ _) h fun x => by rw [says_join]; have := says_pos a x; simp only [says]; omega
theorem clk_len (f : Id2 → Int) (ids : List Id2) : (clk f ids).length ≤ ids.length := by
  unfold clk
  rw [List.length_map]
  exact Nat.le_trans (List.length_filter_le _ _) (setOf_len ids)
theorem join_len (a b : List Tick) : (joinC a b).length ≤ a.length + b.length := Nat.le_trans (clk_len _ _) (by simp)
/-- Does a say more than b of some ID? -/
def more (a b : List Tick) : Bool := a.any fun t => decide (says b t.1 < says a t.1)
theorem more_iff (a b : List Tick) : more a b = true ↔ ∃ x, says b x < says a x := by
  unfold more
  rw [List.any_eq_true]
  constructor
  · rintro ⟨t, _, h⟩
    exact ⟨t.1, by simpa using h⟩
  · rintro ⟨x, h⟩
    have := says_pos b x
    exact ⟨_, says_mem (c := a) (x := x) (by omega), by simpa using h⟩
theorem more_not (a b : List Tick) : more a b = false ↔ ∀ x, says a x ≤ says b x := by
  rw [← Bool.not_eq_true, more_iff]
  constructor
  · exact fun h x => by rcases Int.lt_or_le (says b x) (says a x) with h1 | h1; exact absurd ⟨x, h1⟩ h; exact h1
  · rintro h ⟨x, hx⟩
    have := h x
    omega
/-- How two clocks stand: 1 the same, 2 behind, 3 ahead, 4 apart. -/
def cmpB (x y : Bool) : Nat := if x then (if y then 4 else 3) else (if y then 2 else 1)
def cmp (a b : List Tick) : Nat := cmpB (more a b) (more b a)
theorem cmp_turn (a b : List Tick) : cmp b a = cmpB (more b a) (more a b) := rfl
theorem cmp_same (a b : List Tick) : cmp a b = 1 ↔ ∀ x, says a x = says b x := by
  unfold cmp cmpB
  rcases h1 : more a b with _ | _ <;> rcases h2 : more b a with _ | _
  · rw [more_not] at h1 h2
    simp only [if_neg Bool.false_ne_true, true_iff]
    exact fun x => by have := h1 x; have := h2 x; omega
  · obtain ⟨x, hx⟩ := (more_iff _ _).1 h2
    simp only [if_neg Bool.false_ne_true, if_true]
    exact ⟨fun h => by omega, fun h => by have := h x; omega⟩
  · obtain ⟨x, hx⟩ := (more_iff _ _).1 h1
    simp only [if_neg Bool.false_ne_true, if_true]
    exact ⟨fun h => by omega, fun h => by have := h x; omega⟩
  · obtain ⟨x, hx⟩ := (more_iff _ _).1 h1
    simp only [if_true]
    exact ⟨fun h => by omega, fun h => by have := h x; omega⟩
/-- Not behind, nor apart. -/
def above (a b : List Tick) : Bool := !more b a
theorem above_iff (a b : List Tick) : above a b = true ↔ ∀ x, says b x ≤ says a x := by
  unfold above
  rw [Bool.not_eq_true', more_not]
theorem cmp_above (a b : List Tick) : (cmp a b = 3 ∨ cmp a b = 1) ↔ above a b = true := by
  unfold cmp cmpB above
  rcases more a b with _ | _ <;> rcases more b a with _ | _ <;> simp
theorem cmp_behind (a b : List Tick) : cmp a b = 2 ↔ (∀ x, says a x ≤ says b x) ∧ ∃ x, says a x < says b x := by
  rw [← more_not, ← more_iff b a]
  unfold cmp cmpB
  rcases more a b with _ | _ <;> rcases more b a with _ | _ <;> simp
theorem cmp_ahead (a b : List Tick) : cmp a b = 3 ↔ (∀ x, says b x ≤ says a x) ∧ ∃ x, says b x < says a x := by
  rw [← more_not, ← more_iff a b]
  unfold cmp cmpB
  rcases more a b with _ | _ <;> rcases more b a with _ | _ <;> simp
theorem cmp_apart (a b : List Tick) : cmp a b = 4 ↔ (∃ x, says b x < says a x) ∧ ∃ x, says a x < says b x := by
  rw [← more_iff a b, ← more_iff b a]
  unfold cmp cmpB
  rcases more a b with _ | _ <;> rcases more b a with _ | _ <;> simp
/-- One more of an ID. -/
def up (c : List Tick) (y : Id2) : List Tick := clk (fun x => if x = y then says c x + 1 else says c x) (y :: c.map (·.1))
theorem says_up (c : List Tick) (y x : Id2) : says (up c y) x = if x = y then says c x + 1 else says c x := by
  refine says_clk (f := fun x => if x = y then says c x + 1 else says c x) (fun x => ?_) (fun x h => ?_) x
  · have := says_pos c x
    split <;> omega
  · split at h
    · rename_i e; rw [e]; exact List.mem_cons_self ..
    · exact List.mem_cons_of_mem _ (says_ids h)
theorem norm_up (c : List Tick) (y : Id2) : Norm (up c y) := norm_clk _ _
theorem up_len (c : List Tick) (y : Id2) : (up c y).length ≤ c.length + 1 := Nat.le_trans (clk_len _ _) (by simp)
/-- The stage's theorem, plainly. -/
theorem apart_up (c : List Tick) {a b : Id2} (h : a ≠ b) : cmp (up c a) (up c b) = 4 := by
  rw [cmp_apart]
  refine ⟨⟨a, ?_⟩, ⟨b, ?_⟩⟩
  · rw [says_up, says_up, if_pos rfl, if_neg h]; omega
  · rw [says_up, says_up, if_pos rfl, if_neg (Ne.symm h)]; omega
theorem behind_left (c : List Tick) {a b : Id2} (h : a ≠ b) : cmp (up c a) (joinC (up c a) (up c b)) = 2 := by
  rw [cmp_behind]
  refine ⟨fun x => by rw [says_join]; omega, b, ?_⟩
  rw [says_join, says_up, says_up, if_pos rfl, if_neg (Ne.symm h)]; omega
theorem behind_right (c : List Tick) {a b : Id2} (h : a ≠ b) : cmp (up c b) (joinC (up c a) (up c b)) = 2 := by
  rw [join_comm]
  exact behind_left c (Ne.symm h)
theorem up_up (c : List Tick) {a b : Id2} (h : a ≠ b) : up (up c a) b = joinC (up c a) (up c b) :=
  norm_ext (norm_up _ _) (norm_join _ _) fun x => by
    simp only [says_join, says_up]
    by_cases e1 : x = a
    · rw [if_neg (e1 ▸ h), if_pos e1, if_neg (e1 ▸ h)]; omega
    · by_cases e2 : x = b
      · rw [if_pos e2, if_neg e1, if_pos e2]; omega
      · rw [if_neg e2, if_neg e1, if_neg e2]; omega
theorem cmp_self (a : List Tick) : cmp a a = 1 := (cmp_same a a).2 fun _ => rfl
theorem behind_trans {a b c : List Tick} (h : cmp a b = 2) (k : cmp b c = 2) : cmp a c = 2 := by
  rw [cmp_behind] at *
  obtain ⟨h1, x, h2⟩ := h
  refine ⟨fun y => ?_, x, ?_⟩
  · have := h1 y; have := k.1 y; omega
  · have := k.1 x; omega
theorem join_above (a b : List Tick) : above (joinC a b) a = true := (above_iff _ _).2 fun x => by rw [says_join]; omega
theorem join_above' (a b : List Tick) : above (joinC a b) b = true := (above_iff _ _).2 fun x => by rw [says_join]; omega
theorem above_join {a b c : List Tick} (h : above c a = true) (k : above c b = true) : above c (joinC a b) = true := by
  rw [above_iff] at *
  intro x
  have := h x
  have := k x
  rw [says_join]
  omega
theorem behind_or_same (a b : List Tick) : (cmp a b = 2 ∨ cmp a b = 1) ↔ ∀ x, says a x ≤ says b x := by
  rw [← more_not]
  unfold cmp cmpB
  rcases more a b with _ | _ <;> rcases more b a with _ | _ <;> simp
theorem join_same_iff (a b : List Tick) : (cmp a b = 2 ∨ cmp a b = 1) ↔ cmp (joinC a b) b = 1 := by
  rw [behind_or_same, cmp_same]
  refine forall_congr' fun x => ?_
  rw [says_join]
  omega
theorem join_behind {a b : List Tick} (h : cmp a b = 2) (hb : Norm b) : joinC a b = b :=
  norm_ext (norm_join _ _) hb fun x => by
    have := ((cmp_behind a b).1 h).1 x
    rw [says_join]
    omega
theorem cmp_turned (a b : List Tick) : cmp b a = if cmp a b = 2 then 3 else if cmp a b = 3 then 2 else cmp a b := by
  unfold cmp cmpB
  rcases more a b with _ | _ <;> rcases more b a with _ | _ <;> rfl
theorem cmp_range (a b : List Tick) : 1 ≤ cmp a b ∧ cmp a b ≤ 4 := by
  unfold cmp cmpB
  rcases more a b with _ | _ <;> rcases more b a with _ | _ <;> decide
end Go.Proofs.Ytpmfanglgkohjaa.Clocks
