/-
  Plain mathematics of sequences that are shuffled by numbers that are drawn, and of a walk through peers. No statement is proved in this text.
-/
import Derived.Test.YtmgkbfhkipfimaaIdeMath
import Derived.Test.YtmgkbfhkipfimaaIdeWalksD
namespace Go.Proofs.Ytmgkbfhkipfimaa
open Sets
/-- The number behind a draw. -/
def lcg (d : Nat) : Nat := (1664525 * d + 1013904223) % 4294967296
theorem lcg_lt (d : Nat) : lcg d < 4294967296 := Nat.mod_lt _ (by decide)
/-- Two exchanged. -/
def swp (l : List Id2) (i j : Nat) : List Id2 := (l.set i l[j]!).set j l[i]!
theorem swp_len (l : List Id2) (i j : Nat) : (swp l i j).length = l.length := by simp [swp]
theorem swp_self (l : List Id2) {i : Nat} (hi : i < l.length) : swp l i i = l := by
  unfold swp
  rw [List.set_set, getElem!_pos l i hi, List.set_getElem_self]
theorem swp_perm (l : List Id2) {i j : Nat} (hi : i < l.length) (hj : j < l.length) : (swp l i j).Perm l := by
  unfold swp
  rw [getElem!_pos l i hi, getElem!_pos l j hj]
  exact List.set_set_perm hi hj
/-- The places from the i-th down to the second one are filled, one behind the other. -/
def sh : Nat → Nat → List Id2 → List Id2
  | 0, _, l => l
  | i + 1, d, l => sh i (lcg d) (swp l (i + 1) (lcg d / 65536 % (i + 2)))
theorem sh_perm : ∀ (i d : Nat) (l : List Id2), i < l.length ∨ i = 0 → (sh i d l).Perm l
  | 0, _, _, _ => List.Perm.refl _
  | i + 1, d, l, h => by
    have h1 : i + 1 < l.length := by omega
    have h2 : lcg d / 65536 % (i + 2) < i + 2 := Nat.mod_lt _ (by omega)
    have h3 := swp_perm l h1 (show lcg d / 65536 % (i + 2) < l.length by omega)
    exact (sh_perm i (lcg d) _ (.inl (by rw [swp_len]; omega))).trans h3
/-- A sequence of peers, for a draw. -/
def rowP (l : List Id2) (d : Nat) : List Id2 := sh ((setOf l).length - 1) d (setOf l)
theorem rowP_perm (l : List Id2) (d : Nat) : (rowP l d).Perm (setOf l) := sh_perm _ _ _ (by omega)
theorem rowP_len (l : List Id2) (d : Nat) : (rowP l d).length = (setOf l).length := (rowP_perm l d).length_eq
theorem mem_rowP (l : List Id2) (d : Nat) (x : Id2) : x ∈ rowP l d ↔ x ∈ l := by rw [(rowP_perm l d).mem_iff, mem_setOf]
theorem nodup_setOf (l : List Id2) : (setOf l).Nodup := List.Pairwise.imp (fun {a b} (h : lt a b) (e : a = b) => lt_irrefl b (by rwa [e] at h)) (rises_setOf l)
theorem nodup_le : ∀ {l m : List Id2}, l.Nodup → (∀ x ∈ l, x ∈ m) → l.length ≤ m.length
  | [], _, _, _ => Nat.zero_le _
  | x :: l, m, hn, hs => by
    obtain ⟨h1, h2⟩ := List.nodup_cons.1 hn
    have hx : x ∈ m := hs x (by simp)
    have := nodup_le (m := m.erase x) h2 fun y hy => (List.mem_erase_of_ne (fun (e : y = x) => h1 (e ▸ hy))).2 (hs y (by simp [hy]))
    have h3 := List.length_erase_of_mem hx
    have h4 : 0 < m.length := List.length_pos_of_mem hx
    simp
    omega
theorem nodup_rowP (l : List Id2) (d : Nat) : (rowP l d).Nodup := (rowP_perm l d).nodup_iff.2 (nodup_setOf l)
theorem set_rowP (l : List Id2) (d : Nat) : setOf (rowP l d) = setOf l := setOf_ext fun x => mem_rowP l d x
theorem setOf_ne {l : List Id2} (h : l ≠ []) : setOf l ≠ [] := fun e => by
  obtain ⟨x, r, rfl⟩ := List.exists_cons_of_ne_nil h
  have := (mem_setOf (x :: r) x).2 (by simp)
  rw [e] at this
  cases this
theorem rowP_ne {l : List Id2} (h : l ≠ []) (d : Nat) : rowP l d ≠ [] := fun e => by
  have h1 := rowP_len l d
  rw [e] at h1
  exact setOf_ne h (List.eq_nil_of_length_eq_zero h1.symm)
/-- What is left of a sequence, but those at its beginning that are no peers. -/
def skip (ps : List Id2) : List Id2 → List Id2
  | [] => []
  | x :: r => if hasB x ps = true then x :: r else skip ps r
theorem skip_cons {ps r : List Id2} {x : Id2} (h : hasB x ps = false) : skip ps (x :: r) = skip ps r := by simp [skip, h]
theorem skip_here {ps r : List Id2} {x : Id2} (h : hasB x ps = true) : skip ps (x :: r) = x :: r := by simp [skip, h]
theorem skip_len (ps : List Id2) : ∀ l : List Id2, (skip ps l).length ≤ l.length
  | [] => Nat.le_refl _
  | x :: r => by
    cases h : hasB x ps
    · rw [skip_cons h]
      have := skip_len ps r
      simp
      omega
    · rw [skip_here h]
      exact Nat.le_refl _
theorem skip_head {ps : List Id2} : ∀ {l r : List Id2} {x : Id2}, skip ps l = x :: r → hasB x ps = true
  | [], _, _, h => by cases h
  | y :: l, r, x, h => by
    cases k : hasB y ps
    · rw [skip_cons k] at h
      exact skip_head h
    · rw [skip_here k] at h
      injection h with h1 h2
      rwa [← h1]
theorem skip_suffix (ps : List Id2) : ∀ l : List Id2, skip ps l <:+ l
  | [] => List.suffix_refl _
  | x :: r => by
    cases h : hasB x ps
    · rw [skip_cons h]
      exact (skip_suffix ps r).trans (List.suffix_cons _ _)
    · rw [skip_here h]
      exact List.suffix_refl _
/-- What the next one is taken from: what is left, or a new sequence. -/
def nx (l ps : List Id2) (d : Nat) : List Id2 := if (skip ps l).isEmpty = true then rowP ps d else skip ps l
theorem nx_new {l ps : List Id2} {d : Nat} (h : skip ps l = []) : nx l ps d = rowP ps d := by simp [nx, h]
theorem nx_old {l ps r : List Id2} {x : Id2} {d : Nat} (h : skip ps l = x :: r) : nx l ps d = x :: r := by simp [nx, h]
theorem nx_ne {ps : List Id2} (h : ps ≠ []) (l : List Id2) (d : Nat) : nx l ps d ≠ [] := by
  cases k : skip ps l with
  | nil => rw [nx_new k]; exact rowP_ne h d
  | cons x r => rw [nx_old k]; exact fun e => by cases e
theorem nx_cons {ps : List Id2} (h : ps ≠ []) (l : List Id2) (d : Nat) : ∃ x r, nx l ps d = x :: r := List.exists_cons_of_ne_nil (nx_ne h l d)
theorem nx_in {l ps r : List Id2} {x : Id2} {d : Nat} (h : nx l ps d = x :: r) : hasB x ps = true := by
  cases k : skip ps l with
  | nil =>
    rw [nx_new k] at h
    have := (mem_rowP ps d x).1 (by rw [h]; simp)
    simpa [hasB] using this
  | cons y s =>
    rw [nx_old k] at h
    injection h with h1 h2
    rw [← h1]
    exact skip_head k
theorem nx_len (l ps : List Id2) (d : Nat) : (nx l ps d).length ≤ l.length + ps.length := by
  cases k : skip ps l with
  | nil =>
    rw [nx_new k, rowP_len]
    have := setOf_len ps
    omega
  | cons x r =>
    rw [nx_old k, ← k]
    have := skip_len ps l
    omega
/-- No more than the greatest row there was, or what was left. -/
theorem nx_max {l ps : List Id2} {d N : Nat} (h : l.length ≤ N) (k : ps.length ≤ N) : (nx l ps d).length ≤ N := by
  cases e : skip ps l with
  | nil =>
    rw [nx_new e, rowP_len]
    have := setOf_len ps
    omega
  | cons x r =>
    rw [nx_old e, ← e]
    have := skip_len ps l
    omega
theorem nx_nodup {l ps : List Id2} {d : Nat} (h : l.Nodup) : (nx l ps d).Nodup := by
  cases e : skip ps l with
  | nil => rw [nx_new e]; exact nodup_rowP ps d
  | cons x r => rw [nx_old e, ← e]; exact h.sublist (skip_suffix ps l).sublist
/-- A draw does not matter but where a new row is made; and never to how many are left. -/
theorem nx_draw {l ps r s : List Id2} {x y : Id2} {d f : Nat} (h : nx l ps d = x :: r) (k : nx l ps f = y :: s) : r.length = s.length ∧ (r.length + 1 ≠ (setOf ps).length → x = y) := by
  cases e : skip ps l with
  | nil =>
    rw [nx_new e] at h k
    have h1 := rowP_len ps d
    have k1 := rowP_len ps f
    rw [h] at h1
    rw [k] at k1
    simp at h1 k1
    exact ⟨by omega, fun hn => absurd h1 hn⟩
  | cons z t =>
    rw [nx_old e] at h k
    rw [h] at k
    injection k with k1 k2
    exact ⟨by rw [k2], fun _ => k1⟩
/-- Those of what is left that are peers. -/
def fl (ps l : List Id2) : List Id2 := l.filter fun x => hasB x ps
theorem fl_skip (ps : List Id2) : ∀ l : List Id2, fl ps (skip ps l) = fl ps l
  | [] => rfl
  | x :: r => by
    cases h : hasB x ps
    · rw [skip_cons h, fl_skip ps r]
      simp [fl, h]
    · rw [skip_here h]
theorem fl_nil {ps l : List Id2} (h : skip ps l = []) : fl ps l = [] := by rw [← fl_skip, h]; rfl
theorem fl_cons {ps l r : List Id2} {x : Id2} (h : skip ps l = x :: r) : fl ps l = x :: fl ps r := by
  rw [← fl_skip, h]
  simp [fl, skip_head h]
theorem fl_row (ps : List Id2) (d : Nat) : fl ps (rowP ps d) = rowP ps d := by
  unfold fl
  rw [List.filter_eq_self]
  intro x hx
  simpa [hasB] using (mem_rowP ps d x).1 hx
/-- P17.5: what stands while R calls are left to be made: met are those that came. -/
def Due (ps l met : List Id2) (R : Nat) : Prop :=
  (∀ q ∈ met, q ∈ ps) ∧ ((∀ q ∈ ps, q ∈ met) ∨ ((∀ q ∈ ps, q ∈ met ∨ q ∈ fl ps l) ∧ (fl ps l).length ≤ R) ∨ (fl ps l).length + (setOf ps).length ≤ R)
theorem due_start {ps l : List Id2} (hn : l.Nodup) (h0 : ps ≠ []) : Due ps l [] (2 * (setOf ps).length - 1) := by
  refine ⟨(fun q hq => by cases hq), .inr ?_⟩
  have hp : 0 < (setOf ps).length := by
    have := setOf_ne h0
    exact List.length_pos_iff.2 this
  have hnd : (fl ps l).Nodup := hn.sublist List.filter_sublist
  have hsub : ∀ x ∈ fl ps l, x ∈ setOf ps := fun x hx => by
    have := (List.mem_filter.1 hx).2
    rw [mem_setOf]
    simpa [hasB] using this
  have hle : (fl ps l).length ≤ (setOf ps).length := nodup_le hnd hsub
  by_cases e : (fl ps l).length = (setOf ps).length
  · refine .inl ⟨fun q hq => .inr ?_, by omega⟩
    by_cases hm : q ∈ fl ps l
    · exact hm
    · have := nodup_le (l := q :: fl ps l) (m := setOf ps) (List.nodup_cons.2 ⟨hm, hnd⟩) fun x hx => by
        rcases List.mem_cons.1 hx with rfl | hx
        · exact (mem_setOf ps x).2 hq
        · exact hsub x hx
      simp at this
      omega
  · exact .inr (by omega)
theorem due_step {ps l met r : List Id2} {x : Id2} {d R : Nat} (h : Due ps l met (R + 1)) (k : nx l ps d = x :: r) : Due ps r (met ++ [x]) R := by
  obtain ⟨h1, h2⟩ := h
  have hx : x ∈ ps := by simpa [hasB] using nx_in k
  refine ⟨fun q hq => ?_, ?_⟩
  · rcases List.mem_append.1 hq with hq | hq
    · exact h1 q hq
    · rw [List.mem_singleton.1 hq]; exact hx
  · cases e : skip ps l with
    | nil =>
      rw [nx_new e] at k
      rw [fl_nil e] at h2
      have hr : fl ps (x :: r) = x :: r := by rw [← k]; exact fl_row ps d
      have hr2 : fl ps r = r := by
        have : fl ps (x :: r) = x :: fl ps r := by simp [fl, nx_in (l := []) (d := d) (show nx [] ps d = x :: r by rw [nx_new rfl, k])]
        rw [this] at hr
        injection hr
      have hlen : r.length + 1 = (setOf ps).length := by
        have := rowP_len ps d
        rw [k] at this
        simpa using this
      rcases h2 with h2 | ⟨h2, _⟩ | h2
      · exact .inl fun q hq => List.mem_append_left _ (h2 q hq)
      · exact .inl fun q hq => List.mem_append_left _ ((h2 q hq).resolve_right (by simp))
      · refine .inr (.inl ⟨fun q hq => ?_, by rw [hr2]; simp at h2; omega⟩)
        have := (mem_rowP ps d q).2 hq
        rw [k] at this
        rcases List.mem_cons.1 this with rfl | h3
        · exact .inl (by simp)
        · exact .inr (by rw [hr2]; exact h3)
    | cons y s =>
      rw [nx_old e] at k
      injection k with k1 k2
      subst k1 k2
      rw [fl_cons e] at h2
      rcases h2 with h2 | ⟨h2, h3⟩ | h2
      · exact .inl fun q hq => List.mem_append_left _ (h2 q hq)
      · refine .inr (.inl ⟨fun q hq => ?_, by simp at h3; omega⟩)
        rcases h2 q hq with h4 | h4
        · exact .inl (List.mem_append_left _ h4)
        · rcases List.mem_cons.1 h4 with rfl | h5
          · exact .inl (by simp)
          · exact .inr h5
      · exact .inr (.inr (by simp at h2; omega))
theorem due_end {ps l met : List Id2} (h : Due ps l met 0) : sameB (setOf met) (setOf ps) = true := by
  have h3 : ∀ q ∈ ps, q ∈ met := by
    rcases h.2 with h2 | ⟨h2, h3⟩ | h2
    · exact h2
    · intro q hq
      have e : fl ps l = [] := List.eq_nil_of_length_eq_zero (by omega)
      rw [e] at h2
      exact (h2 q hq).resolve_right (by simp)
    · intro q hq
      have e : setOf ps = [] := List.eq_nil_of_length_eq_zero (by omega)
      have := (mem_setOf ps q).2 hq
      rw [e] at this
      cases this
  exact decide_eq_true (setOf_ext fun q => ⟨h.1 q, h3 q⟩)
/-- P17.6: with the same peers what is left of a row goes on. -/
theorem nx_row {ps : List Id2} {d f k : Nat} (hk : k < (rowP ps d).length) : nx ((rowP ps d).drop k) ps f = (rowP ps d)[k] :: (rowP ps d).drop (k + 1) := by
  rw [List.drop_eq_getElem_cons hk]
  refine nx_old (skip_here ?_)
  have := (mem_rowP ps d (rowP ps d)[k]).1 (List.getElem_mem hk)
  simpa [hasB] using this
theorem nx_first {ps : List Id2} {d : Nat} (hk : 0 < (rowP ps d).length) : nx [] ps d = (rowP ps d)[0] :: (rowP ps d).drop 1 := by
  rw [nx_new rfl]
  exact (List.drop_eq_getElem_cons hk)
end Go.Proofs.Ytmgkbfhkipfimaa
