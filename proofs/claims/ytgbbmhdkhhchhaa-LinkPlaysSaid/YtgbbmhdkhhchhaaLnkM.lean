/-
  Plain: what no step takes back; what is refused for good; what is of one address alone. No statement is proved in this text.
-/
import Derived.Test.YtgbbmhdkhhchhaaLnkA
namespace Go.Proofs.Ytgbbmhdkhhchhaa
theorem takeE_zero {M : Int → Pr} {F : Fm} {m1 m2 : Int} (h : takeE M F m1 m2 = 0) : refuse (M F.f1) F m1 m2 = 0 ∧ (after (M F.f1) F).2 = 0 := by
  unfold takeE at h
  split at h
  · rename_i h0
    exact ⟨h0, h⟩
  · rename_i h0
    exact absurd h h0
theorem refuse_zero {p : Pr} {F : Fm} {m1 m2 : Int} (h : refuse p F m1 m2 = 0) : mayI F.f1 F.f2 = true ∧ p.nw ≤ F.f2 ∧ p.fe < F.f2 := by
  unfold refuse at h
  split at h
  · simp at h
  · rename_i h1
    split at h
    · simp at h
    · rename_i h2
      split at h
      · simp at h
      · rename_i h3
        refine ⟨?_, ?_, by omega⟩
        · cases hm : mayI F.f1 F.f2
          · exact absurd (.inl hm) h1
          · rfl
        · rcases Int.lt_or_le F.f2 p.nw with h4 | h4
          · exact absurd (.inr h4) h2
          · exact h4
/-- Nothing is taken back. -/
def Upto (M N : Int → Pr) : Prop := ∀ k, (M k).nw ≤ (N k).nw ∧ (M k).fe ≤ (N k).fe
theorem Upto.refl (M : Int → Pr) : Upto M M := fun _ => ⟨Int.le_refl _, Int.le_refl _⟩
theorem Upto.trans {M N K : Int → Pr} (h : Upto M N) (k : Upto N K) : Upto M K := fun j => ⟨Int.le_trans (h j).1 (k j).1, Int.le_trans (h j).2 (k j).2⟩
theorem put_upto {M : Int → Pr} {a : Int} {p : Pr} (h1 : (M a).nw ≤ p.nw) (h2 : (M a).fe ≤ p.fe) : Upto M (put M a p) := by
  intro k
  by_cases e : k = a
  · subst e
    rw [put_same]
    exact ⟨h1, h2⟩
  · rw [put_other M p e]
    exact ⟨Int.le_refl _, Int.le_refl _⟩
theorem takeM_upto (M : Int → Pr) (F : Fm) (m1 m2 : Int) : Upto M (takeM M F m1 m2) := by
  by_cases h : takeE M F m1 m2 = 0
  · rw [takeM_yes h]
    obtain ⟨h1, h2, h3⟩ := after_nw (takeE_zero h).2
    exact put_upto h1 (by omega)
  · rw [takeM_no h]
    exact Upto.refl M
theorem fenceM_upto (M : Int → Pr) (a i : Int) : Upto M (fenceM M a i) := by
  unfold fenceM
  split
  · exact put_upto (Int.le_refl _) (by show (M a).fe ≤ max (M a).fe i; omega)
  · exact Upto.refl M
theorem step_upto (m1 m2 : Int) (M : Int → Pr) (s : Sp) : Upto M (step m1 m2 M s) := by
  unfold step
  split
  · exact fenceM_upto M _ _
  · exact takeM_upto M _ _ _
theorem plays_upto (m1 m2 : Int) (l : List Sp) : ∀ M, Upto M (plays m1 m2 M l) := by
  induction l with
  | nil => intro M; exact Upto.refl M
  | cons s l ih => intro M; exact (step_upto m1 m2 M s).trans (ih _)
/-- A frame of an older life, or of a fenced one, is refused. -/
theorem older_refused {K : Int → Pr} {F : Fm} {m1 m2 : Int} (h : F.f2 < (K F.f1).nw ∨ F.f2 ≤ (K F.f1).fe) : takeE K F m1 m2 ≠ 0 := by
  intro e
  obtain ⟨_, h1, h2⟩ := refuse_zero (takeE_zero e).1
  omega
theorem fence_done {M : Int → Pr} {a i : Int} (h : fenceE a i = 0) : i ≤ (fenceM M a i a).fe ∧ mayI a i = true := by
  unfold fenceE at h
  split at h
  · rename_i hm
    unfold fenceM
    rw [if_pos hm, put_same]
    exact ⟨by show i ≤ max (M a).fe i; omega, hm⟩
  · simp at h
theorem take_done {M : Int → Pr} {F : Fm} {m1 m2 : Int} (h : takeE M F m1 m2 = 0) : F.f2 ≤ (takeM M F m1 m2 F.f1).nw ∧ mayI F.f1 F.f2 = true := by
  rw [takeM_yes h, put_same]
  exact ⟨(after_nw (takeE_zero h).2).2.1, (refuse_zero (takeE_zero h).1).1⟩
/-- What was there of a life, of a Kind. -/
def had (k : Int) (p : Pr) : Int := if k = 5 then p.be else p.re
def Had (k f2 n : Int) (p : Pr) : Prop := f2 < p.nw ∨ (p.nw = f2 ∧ n ≤ had k p)
theorem had_after {k f2 n : Int} {p : Pr} {F : Fm} (hk : k = 5 ∨ k = 6) (h : Had k f2 n p) (h0 : (after p F).2 = 0) (h1 : p.nw ≤ F.f2) : Had k f2 n (after p F).1 := by
  unfold Had had at *
  unfold after newer at *
  rcases hk with rfl | rfl
  all_goals
    (repeat' split at h0)
    all_goals (first | (simp at h0; done) | skip)
    all_goals (simp [*] at h ⊢ <;> omega)
theorem had_step {k a f2 n : Int} {M : Int → Pr} (hk : k = 5 ∨ k = 6) (m1 m2 : Int) (s : Sp) (h : Had k f2 n (M a)) : Had k f2 n (step m1 m2 M s a) := by
  unfold step
  split
  · unfold fenceM
    split
    · by_cases e : a = s.F.f1
      · subst e
        rw [put_same]
        exact h
      · rw [put_other M _ e]
        exact h
    · exact h
  · by_cases h0 : takeE M s.F m1 m2 = 0
    · rw [takeM_yes h0]
      by_cases e : a = s.F.f1
      · subst e
        rw [put_same]
        exact had_after hk h (takeE_zero h0).2 (refuse_zero (takeE_zero h0).1).2.1
      · rw [put_other M _ e]
        exact h
    · rw [takeM_no h0]
      exact h
theorem had_plays {k a f2 n : Int} (hk : k = 5 ∨ k = 6) (m1 m2 : Int) (l : List Sp) : ∀ M : Int → Pr, Had k f2 n (M a) → Had k f2 n (plays m1 m2 M l a) := by
  induction l with
  | nil => intro M h; exact h
  | cons s l ih => intro M h; exact ih _ (had_step hk m1 m2 s h)
theorem had_taken {M : Int → Pr} {F : Fm} {m1 m2 : Int} (hk : F.k = 5 ∨ F.k = 6) (h : takeE M F m1 m2 = 0) : Had F.k F.f2 F.n (takeM M F m1 m2 F.f1) := by
  rw [takeM_yes h, put_same]
  obtain ⟨h1, h2⟩ := takeE_zero h
  obtain ⟨_, h3, _⟩ := refuse_zero h1
  generalize M F.f1 = p at *
  unfold Had had
  unfold after newer at *
  rcases hk with hk | hk
  all_goals
    rw [hk] at h2 ⊢
    (repeat' split at h2)
    all_goals (first | (simp at h2; done) | skip)
    all_goals (simp [*] <;> omega)
theorem had_refused {K : Int → Pr} {F : Fm} {k m1 m2 n d : Int} (hk : F.k = 5 ∨ F.k = 6) (hF : F.k = k) (h : Had k F.f2 n (K F.f1)) (hd : d ≤ n) : takeE K ⟨F.k, F.f1, F.f2, F.t1, F.t2, d⟩ m1 m2 ≠ 0 := by
  intro e
  obtain ⟨h1, h2⟩ := takeE_zero e
  obtain ⟨_, h3, _⟩ := refuse_zero h1
  subst hF
  dsimp only at h2 h3
  generalize K F.f1 = p at *
  unfold Had had at h
  unfold after newer at h2
  dsimp only at h2
  rcases hk with hk | hk
  all_goals
    rw [hk] at h2 h
    (repeat' split at h2)
    all_goals (first | (simp at h2; done) | skip)
    all_goals (simp at * <;> omega)
/-- What comes from one address changes nothing of others. -/
theorem step_other (m1 m2 : Int) (M : Int → Pr) (s : Sp) {k : Int} (h : k ≠ s.F.f1) : step m1 m2 M s k = M k := by
  unfold step
  split
  · unfold fenceM
    split
    · exact put_other M _ h
    · rfl
  · by_cases h0 : takeE M s.F m1 m2 = 0
    · rw [takeM_yes h0]
      exact put_other M _ h
    · rw [takeM_no h0]
theorem takeE_same {M N : Int → Pr} {F : Fm} {m1 m2 : Int} (h : N F.f1 = M F.f1) : takeE N F m1 m2 = takeE M F m1 m2 := by
  unfold takeE
  rw [h]
theorem fencedB_same {M N : Int → Pr} {a i : Int} (h : N a = M a) : fencedB N a i = fencedB M a i := by
  unfold fencedB
  rw [h]
end Go.Proofs.Ytgbbmhdkhhchhaa
