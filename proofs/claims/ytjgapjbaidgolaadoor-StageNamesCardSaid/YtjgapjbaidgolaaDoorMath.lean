/-
  Plain mathematics of statuses, edges and ways: no program is walked here. No statement is proved in this text.
-/
import Derived.Test.YtjgapjbaidgolaaDoorBase
namespace Go.Proofs.YtjgapjbaidgolaaDoor
open Go.RowKit
/-- The numbers of the table of edges. -/
def edgL : List Nat := edgeCells.map fun v => (intOf v).toNat
/-- By whom an edge is followed. -/
def edg (a b : Nat) : Nat := if a < 8 ∧ b < 8 then edgL.getD (8 * a + b) 0 else 0
/-- Is it a status? -/
def mayB (a : Nat) : Bool := decide (1 ≤ a ∧ a ≤ 7)
def stats : List Nat := [1, 2, 3, 4, 5, 6, 7]
/-- The statuses that an edge leads to. -/
def nxt (a : Nat) : List Nat := stats.filter fun b => edg a b != 0
def wayF : Nat → Nat → Nat → List (List Nat)
  | 0, _, _ => []
  | f + 1, a, t => if a = t then [[]] else (nxt a).flatMap fun b => (wayF f b t).map fun l => b :: l
/-- All ways. -/
def ways (a t : Nat) : List (List Nat) := wayF 9 a t
theorem edgL_is : edgeCells = edgL.map fun n : Nat => Value.int .u8 (n : Int) := by kernel_rfl
theorem edgL_len : edgL.length = 64 := by kernel_rfl
theorem edg_le : ∀ a b, a < 8 → b < 8 → edg a b ≤ 8 := by
  have : ((List.range 8).all fun a => (List.range 8).all fun b => decide (edg a b ≤ 8)) = true := by kernel_rfl
  intro a b ha hb
  have h1 := List.all_eq_true.1 this a (List.mem_range.2 ha)
  have h2 := List.all_eq_true.1 h1 b (List.mem_range.2 hb)
  simpa using h2
theorem edg_out {a b : Nat} (h : ¬ (a < 8 ∧ b < 8)) : edg a b = 0 := by
  unfold edg
  rw [if_neg h]
theorem nxt_out {a : Nat} (h : 8 ≤ a) : nxt a = [] := by
  unfold nxt
  rw [List.filter_eq_nil_iff]
  intro b _
  rw [edg_out (by omega)]
  decide
theorem nxt_mem {a b : Nat} : b ∈ nxt a ↔ b ∈ stats ∧ edg a b ≠ 0 := by
  unfold nxt
  rw [List.mem_filter]
  simp
/-- A fact of two statuses, by looking at them all. -/
theorem two_all {p : Nat → Nat → Bool} (h : ((List.range 8).all fun a => (List.range 8).all fun b => p a b) = true) {a b : Nat} (ha : a < 8) (hb : b < 8) : p a b = true :=
  List.all_eq_true.1 (List.all_eq_true.1 h a (List.mem_range.2 ha)) b (List.mem_range.2 hb)
theorem nxt_up {a b : Nat} (h : b ∈ nxt a) : a < b ∧ b < 8 ∧ a < 8 := by
  have ha : a < 8 := by
    rcases Nat.lt_or_ge a 8 with h1 | h1
    · exact h1
    · rw [nxt_out h1] at h; cases h
  have hb : b < 8 := by
    have := (nxt_mem.1 h).1
    simp [stats] at this
    omega
  have h1 := two_all (p := fun a b => decide (b ∈ nxt a → a < b)) (by kernel_rfl) ha hb
  exact ⟨of_decide_eq_true h1 h, hb, ha⟩
/-- More steps than statuses are left change nothing. -/
theorem wayF_more (t : Nat) : ∀ (n a : Nat), 8 - a ≤ n → ∀ f g, 8 - a < f → 8 - a < g → wayF f a t = wayF g a t := by
  intro n
  induction n with
  | zero =>
    intro a h f g hf hg
    obtain ⟨f, rfl⟩ : ∃ k, f = k + 1 := ⟨f - 1, by omega⟩
    obtain ⟨g, rfl⟩ : ∃ k, g = k + 1 := ⟨g - 1, by omega⟩
    simp only [wayF, nxt_out (show 8 ≤ a by omega), List.flatMap_nil]
  | succ n ih =>
    intro a h f g hf hg
    obtain ⟨f, rfl⟩ : ∃ k, f = k + 1 := ⟨f - 1, by omega⟩
    obtain ⟨g, rfl⟩ : ∃ k, g = k + 1 := ⟨g - 1, by omega⟩
    simp only [wayF]
    congr 1
    refine flatMap_congr' _ fun b hb => ?_
    have := nxt_up hb
    rw [ih b (by omega) f g (by omega) (by omega)]
theorem ways_eq {t : Nat} : ways t t = [[]] := by simp [ways, wayF]
theorem ways_ne {a t : Nat} (h : a ≠ t) : ways a t = (nxt a).flatMap fun b => (ways b t).map fun l => b :: l := by
  unfold ways
  rw [wayF, if_neg h]
  refine flatMap_congr' _ fun b hb => ?_
  have := nxt_up hb
  rw [wayF_more t 9 b (by omega) 8 9 (by omega) (by omega)]
theorem ways_out {a t : Nat} (h : 8 ≤ a) (hn : a ≠ t) : ways a t = [] := by rw [ways_ne hn, nxt_out h]; rfl
theorem wayF_far (t : Nat) (ht : 8 ≤ t) : ∀ f a, a < 8 → wayF f a t = [] := by
  intro f
  induction f with
  | zero => intro a _; rfl
  | succ f ih =>
    intro a ha
    rw [wayF, if_neg (by omega)]
    rw [List.flatMap_eq_nil_iff]
    intro b hb
    rw [ih b (nxt_up hb).2.1]
    rfl
theorem ways_far {a t : Nat} (ha : a < 8) (ht : 8 ≤ t) : ways a t = [] := wayF_far t ht 9 a ha
/-- A fact of all ways, by looking at those between statuses. -/
theorem ways_all {p : Nat → Nat → List (List Nat) → Bool} (h : ((List.range 8).all fun a => (List.range 8).all fun b => p a b (ways a b)) = true) (he : ∀ a, p a a [[]] = true) (hn : ∀ a t, a ≠ t → (8 ≤ a ∨ 8 ≤ t) → p a t [] = true) (a t : Nat) : p a t (ways a t) = true := by
  by_cases e : a = t
  · subst e
    rw [ways_eq]
    exact he a
  · rcases Nat.lt_or_ge a 8 with h1 | h1
    · rcases Nat.lt_or_ge t 8 with h2 | h2
      · exact two_all (p := fun a b => p a b (ways a b)) h h1 h2
      · rw [ways_far h1 h2]; exact hn a t e (.inr h2)
    · rw [ways_out h1 e]; exact hn a t e (.inl h1)
theorem ways_few (a t : Nat) : (ways a t).length ≤ 40 := by
  have := ways_all (p := fun _ _ l => decide (l.length ≤ 40)) (by kernel_rfl) (fun _ => rfl) (fun _ _ _ _ => rfl) a t
  simpa using this
theorem ways_short (a t : Nat) {l : List Nat} (hl : l ∈ ways a t) : l.length ≤ 7 ∧ ∀ x ∈ l, x < 8 := by
  have := ways_all (p := fun _ _ l => l.all fun k => decide (k.length ≤ 7) && k.all fun x => decide (x < 8)) (by kernel_rfl) (fun _ => rfl) (fun _ _ _ _ => rfl) a t
  have h := List.all_eq_true.1 this l hl
  rw [Bool.and_eq_true, decide_eq_true_eq] at h
  exact ⟨h.1, fun x hx => by simpa using List.all_eq_true.1 h.2 x hx⟩
end Go.Proofs.YtjgapjbaidgolaaDoor
