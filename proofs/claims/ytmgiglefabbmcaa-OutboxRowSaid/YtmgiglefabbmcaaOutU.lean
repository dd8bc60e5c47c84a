/-
  The row in which frames are taken, plain. No statement is proved in this text.
-/
import Derived.Test.YtmgiglefabbmcaaOutT
set_option maxRecDepth 20000
namespace Go.Proofs.Ytmgiglefabbmcaa
/-- That one has been met. -/
def upd (M : Nat → Bool) (j : Nat) : Nat → Bool := fun x => if x = j then true else M x
/-- What waits when i have been put, which have been met, and the last one that was taken. -/
structure RowI (ks : List Int) (i : Nat) (L : List Fr) (M : Nat → Bool) (last : Int) : Prop where
  each : ∀ F ∈ L, ∃ j : Nat, F.n = j ∧ j < i ∧ (∃ h : j < ks.length, F.k = ks[j]) ∧ M j = false ∧ last < j
  up : L.Pairwise (fun F G => F.n < G.n)
  later : ∀ j, i ≤ j → M j = false
  lo : -1 ≤ last ∧ last < i
theorem RowI.more {ks : List Int} {i : Nat} {L : List Fr} {M : Nat → Bool} {last : Int} (h : RowI ks i L M last) (hi : i < ks.length) : RowI ks (i + 1) (L ++ [bF ks[i] i]) M last := by
  refine ⟨fun F hF => ?_, List.pairwise_append.2 ⟨h.up, List.pairwise_singleton _ _, fun F hF G hG => ?_⟩, fun j hj => h.later j (by omega), by have := h.lo; omega⟩
  · rcases List.mem_append.1 hF with hF | hF
    · obtain ⟨j, h1, h2, h3, h4, h5⟩ := h.each F hF
      exact ⟨j, h1, by omega, h3, h4, h5⟩
    · rw [List.mem_singleton.1 hF]
      exact ⟨i, rfl, by omega, ⟨hi, rfl⟩, h.later i (Nat.le_refl _), h.lo.2⟩
  · obtain ⟨j, h1, h2, _⟩ := h.each F hF
    rw [List.mem_singleton.1 hG, h1]
    show (j : Int) < (i : Int)
    omega
theorem RowI.less {ks : List Int} {i : Nat} {L : List Fr} {M : Nat → Bool} {last : Int} (h : RowI ks i L M last) (f : Nat) (hf : f < L.length) : ∃ j : Nat, L[f].n = j ∧ j < i ∧ (∃ h : j < ks.length, L[f].k = ks[j]) ∧ M j = false ∧ last < j ∧ RowI ks i (L.eraseIdx f) (upd M j) last := by
  obtain ⟨j, h1, h2, h3, h4, h5⟩ := h.each _ (List.getElem_mem hf)
  refine ⟨j, h1, h2, h3, h4, h5, fun F hF => ?_, h.up.sublist (List.eraseIdx_sublist _ _), fun x hx => ?_, h.lo⟩
  · obtain ⟨x, k1, k2, k3, k4, k5⟩ := h.each F (List.mem_of_mem_eraseIdx hF)
    refine ⟨x, k1, k2, k3, ?_, k5⟩
    have hne : F.n ≠ L[f].n := by
      have hup := h.up
      have e : L = L.take f ++ L[f] :: L.drop (f + 1) := by rw [← List.drop_eq_getElem_cons hf, List.take_append_drop]
      rw [e] at hup
      obtain ⟨_, u2, u3⟩ := List.pairwise_append.1 hup
      rw [List.eraseIdx_eq_take_drop_succ] at hF
      rcases List.mem_append.1 hF with hF | hF
      · have := u3 F hF L[f] (List.mem_cons_self)
        omega
      · have := (List.pairwise_cons.1 u2).1 F hF
        omega
    unfold upd
    rw [if_neg (by rw [k1, h1] at hne; omega)]
    exact k4
  · unfold upd
    rw [if_neg (by omega)]
    exact h.later x hx
/-- A put. -/
theorem RowI.put {ks : List Int} {i : Nat} {L : List Fr} {M : Nat → Bool} {last mx : Int} (h : RowI ks i L M last) (hi : i < ks.length) :
    ((putL mx L (bF ks[i] i)).2.2 = false ∧ (putL mx L (bF ks[i] i)).1.length = L.length + 1 ∧ RowI ks (i + 1) (putL mx L (bF ks[i] i)).1 M last) ∨
    ((putL mx L (bF ks[i] i)).2.2 = true ∧ (putL mx L (bF ks[i] i)).1.length = L.length ∧ ∃ j : Nat, (putL mx L (bF ks[i] i)).2.1.n = j ∧ j ≤ i ∧ (∃ h : j < ks.length, (putL mx L (bF ks[i] i)).2.1.k = ks[j]) ∧ M j = false ∧ RowI ks (i + 1) (putL mx L (bF ks[i] i)).1 (upd M j) last) := by
  unfold putL
  by_cases h1 : (L.length : Int) < mx
  · rw [if_pos h1]
    exact .inl ⟨rfl, by simp, h.more hi⟩
  · rw [if_neg h1]
    by_cases h2 : fi L < L.length
    · rw [dif_pos h2]
      obtain ⟨j, k1, k2, k3, k4, k5, k6⟩ := h.less (fi L) h2
      refine .inr ⟨rfl, by simp [List.length_eraseIdx_of_lt h2]; omega, j, k1, by omega, k3, k4, k6.more hi⟩
    · rw [dif_neg h2]
      refine .inr ⟨rfl, rfl, i, rfl, Nat.le_refl _, ⟨hi, rfl⟩, h.later i (Nat.le_refl _), fun F hF => ?_, h.up, fun x hx => ?_, by have := h.lo; omega⟩
      · obtain ⟨x, k1, k2, k3, k4, k5⟩ := h.each F hF
        refine ⟨x, k1, by omega, k3, ?_, k5⟩
        unfold upd
        rw [if_neg (by omega)]
        exact k4
      · unfold upd
        rw [if_neg (by omega)]
        exact h.later x (by omega)
/-- One is taken. -/
theorem RowI.take {ks : List Int} {i : Nat} {L : List Fr} {M : Nat → Bool} {last : Int} (h : RowI ks i L M last) (h0 : 0 < L.length) : ∃ j : Nat, (hdF L).n = j ∧ j < i ∧ (∃ h : j < ks.length, (hdF L).k = ks[j]) ∧ M j = false ∧ last < j ∧ RowI ks i L.tail (upd M j) j := by
  cases L with
  | nil => simp at h0
  | cons F r =>
    obtain ⟨j, k1, k2, k3, k4, k5, k6⟩ := h.less 0 (by simp)
    simp only [List.getElem_cons_zero, List.eraseIdx_cons_zero] at k1 k3 k6
    refine ⟨j, k1, k2, k3, k4, k5, fun G hG => ?_, k6.up, k6.later, by omega⟩
    obtain ⟨x, m1, m2, m3, m4, m5⟩ := k6.each G hG
    have := (List.pairwise_cons.1 h.up).1 G hG
    exact ⟨x, m1, m2, m3, m4, by rw [k1, m1] at this; omega⟩
/-- What waits, one by one. -/
theorem RowI.at_ {ks : List Int} {i : Nat} {L : List Fr} {M : Nat → Bool} {last : Int} (h : RowI ks i L M last) {k : Nat} (hk : k < L.length) : ∃ j : Nat, L[k].n = j ∧ j < i ∧ j < ks.length ∧ M j = false ∧ last < j := by
  obtain ⟨j, h1, h2, ⟨h3, _⟩, h4, h5⟩ := h.each _ (List.getElem_mem hk)
  exact ⟨j, h1, h2, h3, h4, h5⟩
theorem RowI.lt {ks : List Int} {i : Nat} {L : List Fr} {M : Nat → Bool} {last : Int} (h : RowI ks i L M last) {k : Nat} (hk : k + 1 < L.length) : L[k].n < L[k + 1].n :=
  List.pairwise_iff_getElem.1 h.up k (k + 1) (by omega) hk (by omega)
end Go.Proofs.Ytmgiglefabbmcaa
