/-
  What is known of rows that may be, and of such joined. Plain mathematics; no statement is proved in this text.
-/
import Derived.Test.YtofanciaacdjfaaMays
namespace Go.Proofs.Ytofanciaacdjfaa
open Go Go.RowKit Sets RowSets
theorem allV_iff (l : List Id2) : allV l = true ↔ ∀ x ∈ l, vid x.1 x.2 = true := by
  unfold allV
  rw [Bool.not_eq_true', List.any_eq_false]
  constructor
  · intro h x hx
    have := h x hx
    unfold badI at this
    simpa using this
  · intro h x hx
    unfold badI
    rw [h x hx]
    simp
/-- May a row be? -/
def MayRow (r : Row) : Prop := vid r.1.1 r.1.2 = true ∧ 1 ≤ r.2.1 ∧ r.2.1 ≤ 1099511627776 ∧ (∀ x ∈ r.2.2, vid x.1 x.2 = true) ∧ Rises r.2.2 ∧ r.1 ∉ r.2.2
theorem mayRow_iff (r : Row) : mayRowB r = true ↔ MayRow r := by
  unfold mayRowB MayRow hasB
  simp only [Bool.and_eq_true, decide_eq_true_eq, allV_iff, risesB_iff, Bool.not_eq_true', decide_eq_false_iff_not]
/-- May rows be? -/
def MayRows (l : List Row) : Prop := l.length ≤ 64 ∧ (∀ r ∈ l, MayRow r) ∧ Up l
theorem may_iff (l : List Row) : mayB l = true ↔ MayRows l := by
  unfold mayB MayRows Up
  simp only [Bool.and_eq_true, decide_eq_true_eq, risesB_iff, List.all_eq_true, mayRow_iff]
theorem may_norm {l : List Row} (h : MayRows l) : Norm l := ⟨h.2.2, fun r hr => (h.2.1 r hr).2.2.2.2.1⟩
theorem joinR_cases {a b : List Row} {r : Row} (h : r ∈ joinR a b) : r ∈ a ∨ r ∈ b ∨ ∃ s t, (r.1, r.2.1, s) ∈ a ∧ (r.1, r.2.1, t) ∈ b ∧ r.2.2 = join s t := by
  have h := get_of_mem (up_joinR a b) h
  rw [get_joinR] at h
  rcases h1 : get a r.1 with _ | s
  · rw [h1] at h
    exact .inr (.inl (get_mem (show get b r.1 = some r.2 from h)))
  · rcases h2 : get b r.1 with _ | t
    · rw [h1, h2, two_none] at h
      exact .inl (by have := get_mem h1; rw [Option.some.inj h] at this; exact this)
    · rw [h1, h2] at h
      simp only [two] at h
      split at h
      · exact .inl (by have := get_mem h1; rw [Option.some.inj h] at this; exact this)
      · split at h
        · exact .inr (.inl (by have := get_mem h2; rw [Option.some.inj h] at this; exact this))
        · have e := Option.some.inj h
          have e1 : r.2.1 = s.1 := by rw [← e]
          have e2 : r.2.2 = join s.2 t.2 := by rw [← e]
          have e3 : t.1 = s.1 := by omega
          refine .inr (.inr ⟨s.2, t.2, ?_, ?_, e2⟩)
          · rw [e1]; exact get_mem h1
          · rw [e1, ← e3]; exact get_mem h2
theorem may_joinR {a b : List Row} (ha : MayRows a) (hb : MayRows b) (hl : (joinR a b).length ≤ 64) : MayRows (joinR a b) := by
  refine ⟨hl, fun r hr => ?_, up_joinR a b⟩
  rcases joinR_cases hr with h | h | ⟨s, t, h1, h2, e⟩
  · exact ha.2.1 r h
  · exact hb.2.1 r h
  · obtain ⟨a1, a2, a3, a4, a5, a6⟩ := ha.2.1 _ h1
    obtain ⟨_, _, _, b4, b5, b6⟩ := hb.2.1 _ h2
    refine ⟨a1, a2, a3, ?_, ?_, ?_⟩
    · intro x hx
      rw [e, mem_join] at hx
      rcases hx with hx | hx
      · exact a4 x hx
      · exact b4 x hx
    · rw [e]; exact rises_join _ _
    · rw [e, mem_join]
      rintro (hx | hx)
      · exact a6 hx
      · exact b6 hx
theorem join_len (s t : List Id2) : (join s t).length ≤ s.length + t.length := by
  unfold join
  exact Nat.le_trans (setOf_len _) (by simp)
theorem nots_joinR {a b : List Row} {n m : Nat} (ha : ∀ r ∈ a, r.2.2.length ≤ n) (hb : ∀ r ∈ b, r.2.2.length ≤ m) : ∀ r ∈ joinR a b, r.2.2.length ≤ n + m := by
  intro r hr
  rcases joinR_cases hr with h | h | ⟨s, t, h1, h2, e⟩
  · have := ha r h; omega
  · have := hb r h; omega
  · have h3 := ha _ h1
    have h4 := hb _ h2
    have h5 := join_len s t
    rw [e]
    dsimp only at h3 h4
    omega
/-- Rows that are not too many, nor those in them. -/
def Lens (n m : Nat) (l : List Row) : Prop := l.length ≤ n ∧ ∀ r ∈ l, r.2.2.length ≤ m
theorem Lens.joinR {a b : List Row} {n m n' m' : Nat} (ha : Lens n m a) (hb : Lens n' m' b) : Lens (n + n') (m + m') (joinR a b) := ⟨Nat.le_trans (joinR_len a b) (by have := ha.1; have := hb.1; omega), nots_joinR ha.2 hb.2⟩
theorem lens_long {l : List Row} (h : longB l = false) : Lens 80 80 l := ⟨longB_len h, longB_nots h⟩
theorem Lens.small {l : List Row} {n m : Nat} (h : Lens n m l) (hn : n ≤ 1000) (hm : m ≤ 20000) : Small l := ⟨Nat.le_trans h.1 hn, fun r hr => Nat.le_trans (h.2 r hr) hm⟩
theorem Lens.nots {l : List Row} {n m : Nat} (h : Lens n m l) {k : Nat} (hm : m ≤ k) : ∀ r ∈ l, r.2.2.length ≤ k := fun r hr => Nat.le_trans (h.2 r hr) hm
theorem rises_sub : ∀ {l m : List Id2}, Rises l → Rises m → (∀ x ∈ l, x ∈ m) → l.length ≤ m.length
  | [], m, _, _, _ => by simp
  | x :: l, [], _, _, h => by have := h x (List.mem_cons_self ..); cases this
  | x :: l, y :: m, hl, hm, h => by
    obtain ⟨l1, l2⟩ := rises_cons.1 hl
    obtain ⟨m1, m2⟩ := rises_cons.1 hm
    by_cases e : x = y
    · subst e
      have := rises_sub l2 m2 fun z hz => by
        rcases List.mem_cons.1 (h z (List.mem_cons_of_mem _ hz)) with e | e
        · subst e; exact absurd (l1 z hz) (lt_irrefl _)
        · exact e
      simp only [List.length_cons]; omega
    · have hx : x ∈ m := by
        rcases List.mem_cons.1 (h x (List.mem_cons_self ..)) with e2 | e2
        · exact absurd e2 e
        · exact e2
      have := rises_sub hl m2 fun z hz => by
        rcases List.mem_cons.1 (h z hz) with e2 | e2
        · subst e2
          rcases List.mem_cons.1 hz with e3 | e3
          · exact absurd e3.symm e
          · exact absurd (l1 z e3) (lt_asymm (m1 x hx))
        · exact e2
      simp only [List.length_cons] at this ⊢; omega
theorem ids_joinR (a b : List Row) (x : Id2) : x ∈ ids (joinR a b) ↔ x ∈ ids a ∨ x ∈ ids b := by
  have h := get_joinR a b x
  constructor
  · intro hx
    refine Decidable.byContradiction fun hn => ?_
    rw [not_or] at hn
    rw [get_none.2 hn.1, get_none.2 hn.2] at h
    exact (get_none.1 h) hx
  · intro hx
    refine Decidable.byContradiction fun hn => ?_
    rw [get_none.2 hn] at h
    rcases hx with hx | hx
    · obtain ⟨s, hs⟩ := get_some hx
      rw [hs] at h
      cases hb : get b x with
      | none => rw [hb] at h; cases h
      | some t =>
        rw [hb] at h
        simp only [two] at h
        split at h
        · cases h
        · split at h <;> cases h
    · obtain ⟨s, hs⟩ := get_some hx
      rw [hs] at h
      cases hb : get a x with
      | none => rw [hb] at h; cases h
      | some t =>
        rw [hb] at h
        simp only [two] at h
        split at h
        · cases h
        · split at h <;> cases h
theorem joinR_more {a b : List Row} (ha : Up a) : a.length ≤ (joinR a b).length := by
  have := rises_sub ha (up_joinR a b) fun x hx => (ids_joinR a b x).2 (.inl hx)
  simpa [ids] using this
theorem joinR_more' {a b : List Row} (hb : Up b) : b.length ≤ (joinR a b).length := by
  have := rises_sub hb (up_joinR a b) fun x hx => (ids_joinR a b x).2 (.inr hx)
  simpa [ids] using this
end Go.Proofs.Ytofanciaacdjfaa
