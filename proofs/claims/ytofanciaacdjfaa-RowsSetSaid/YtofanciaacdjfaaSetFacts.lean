/-
  What is known of rows in which an ID was set. Plain mathematics; no statement is proved in this text.
-/
import Derived.Test.YtofanciaacdjfaaGotN
import Derived.Test.YtofanciaacdjfaaRowMath
namespace Go.Proofs.Ytofanciaacdjfaa
open Go Go.RowKit Sets RowSets
theorem setE_ok {l m : List Row} {of : Id2} {not : List Id2} (h : setE l of not = (m, 0)) : (vid of.1 of.2 && allV not) = true := by
  rcases hv : (vid of.1 of.2 && allV not) with _ | _
  · rw [setE_bad hv] at h
    have := congrArg Prod.snd h
    simp at this
  · rfl
theorem setE_less {l m : List Row} {of : Id2} {not : List Id2} {s : Says} (h : setE l of not = (m, 0)) (hg : get l of = some s) (e : setOf s.2 ≠ del not of) : s.1 < 1099511627776 := by
  refine Decidable.byContradiction fun hn => ?_
  rw [setE_large (setE_ok h) hg e (by omega)] at h
  have := congrArg Prod.snd h
  simp at this
theorem setR_mem {l : List Row} (of : Id2) (not : List Id2) (h : Norm l) {r : Row} (hr : r ∈ setR l of not) : r ∈ l ∨ (setOf (nots (get l of)) ≠ del not of ∧ r = (of, vers (get l of) + 1, del not of)) := by
  have h1 := get_of_mem (norm_setR of not h).1 hr
  rw [get_setR of not h.1] at h1
  split at h1
  · exact .inl (get_mem h1)
  · rename_i hne
    split at h1
    · rename_i e
      refine .inr ⟨hne, ?_⟩
      have e2 := Option.some.inj h1
      exact Prod.ext e.symm e2.symm
    · exact .inl (get_mem h1)
theorem may_setR {l m : List Row} {of : Id2} {not : List Id2} (h : MayRows l) (he : setE l of not = (m, 0)) (hl : (setR l of not).length ≤ 64) : MayRows (setR l of not) := by
  have hok := setE_ok he
  rw [Bool.and_eq_true] at hok
  refine ⟨hl, fun r hr => ?_, (norm_setR of not (may_norm h)).1⟩
  rcases setR_mem of not (may_norm h) hr with h1 | ⟨hne, rfl⟩
  · exact h.2.1 r h1
  · refine ⟨hok.1, ?_, ?_, ?_, rises_del _ _, ?_⟩
    · rcases hg : get l of with _ | s
      · simp [vers]
      · have := (h.2.1 _ (get_mem hg)).2.1
        show 1 ≤ s.1 + 1
        dsimp only at this
        omega
    · rcases hg : get l of with _ | s
      · simp [vers]
      · have := setE_less he hg (by rw [hg] at hne; exact hne)
        show s.1 + 1 ≤ 1099511627776
        omega
    · intro x hx
      exact (allV_iff not).1 hok.2 x ((mem_del _ _ _).1 hx).1
    · intro hx
      exact ((mem_del _ _ _).1 hx).2 rfl
/-- Set to the same once more. -/
theorem setE_again {l m : List Row} {of : Id2} {not : List Id2} (h : Up l) (he : setE l of not = (m, 0)) : setE (setR l of not) of not = (setR l of not, 0) := by
  have e : setOf (nots (get (setR l of not) of)) = del not of := nots_setR of not h
  rcases hg : get (setR l of not) of with _ | s
  · rw [setE_none (setE_ok he) hg]
    rw [hg] at e
    rw [setG_none_nil hg e.symm]
  · rw [hg] at e
    exact setE_same (setE_ok he) hg e
theorem set_stays {l : List Row} (of : Id2) (not : List Id2) (h : Up l) (hg : (get l of).isSome = true) : (get (setR l of not) of).isSome = true := by
  rw [get_setR of not h]
  split
  · exact hg
  · rw [if_pos rfl]
    rfl
theorem set_has {l : List Row} {of z : Id2} {not : List Id2} (h : Up l) (hz : z ∈ not) (hne : z ≠ of) : z ∈ nots (get (setR l of not) of) := by
  have e : setOf (nots (get (setR l of not) of)) = del not of := nots_setR of not h
  rw [← mem_setOf, e]
  exact (mem_del _ _ _).2 ⟨hz, hne⟩
theorem set_only {l : List Row} {of z : Id2} {not : List Id2} (h : Up l) (hz : z ∈ nots (get (setR l of not) of)) : z ∈ not := by
  have e : setOf (nots (get (setR l of not) of)) = del not of := nots_setR of not h
  rw [← mem_setOf, e] at hz
  exact ((mem_del _ _ _).1 hz).1
end Go.Proofs.Ytofanciaacdjfaa
