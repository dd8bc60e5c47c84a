/-
  Plain: what links know of each address, and what a frame, or a fence, makes of it. No statement is proved in this text.
-/
namespace Go.Proofs.Ytgbbmhdkhhchhaa
/-- What is known of an address. -/
structure Pr where
  nw : Int
  fe : Int
  be : Int
  re : Int
/-- What counts of a frame. -/
structure Fm where
  k : Int
  f1 : Int
  f2 : Int
  t1 : Int
  t2 : Int
  n : Int
def p0 : Pr := ⟨0, 0, 0, 0⟩
def mayI (a i : Int) : Bool := decide (1 ≤ a) && decide (a ≤ 12) && decide (1 ≤ i) && decide (i ≤ 1048576)
theorem mayI_true {a i : Int} (h : mayI a i = true) : (1 ≤ a ∧ a ≤ 12) ∧ 1 ≤ i ∧ i ≤ 1048576 := by
  simp [mayI] at h
  omega
/-- Why a frame is refused, because of those from whom and to whom it is. -/
def refuse (p : Pr) (F : Fm) (m1 m2 : Int) : Int :=
  if mayI F.f1 F.f2 = false ∨ F.t1 ≠ m1 ∨ F.f1 = m1 then 4
  else if (F.t2 ≠ 0 ∧ F.t2 ≠ m2) ∨ F.f2 < p.nw then 42
  else if F.f2 ≤ p.fe then 7 else 0
theorem refuse_m {p : Pr} {F : Fm} {m1 m2 : Int} (h : mayI F.f1 F.f2 = false) : refuse p F m1 m2 = 4 := by unfold refuse; rw [if_pos]; exact .inl h
theorem refuse_t {p : Pr} {F : Fm} {m1 m2 : Int} (h : F.t1 ≠ m1) : refuse p F m1 m2 = 4 := by unfold refuse; rw [if_pos]; exact .inr (.inl h)
theorem refuse_f {p : Pr} {F : Fm} {m1 m2 : Int} (h : F.f1 = m1) : refuse p F m1 m2 = 4 := by unfold refuse; rw [if_pos]; exact .inr (.inr h)
theorem refuse_on {p : Pr} {F : Fm} {m1 m2 : Int} (h : mayI F.f1 F.f2 = true) (h1 : F.t1 = m1) (h2 : ¬ F.f1 = m1) : refuse p F m1 m2 = if (F.t2 ≠ 0 ∧ F.t2 ≠ m2) ∨ F.f2 < p.nw then 42 else if F.f2 ≤ p.fe then 7 else 0 := by
  unfold refuse
  rw [if_neg]
  rintro (h3 | h3 | h3)
  · rw [h] at h3; cases h3
  · exact h3 h1
  · exact h2 h3
theorem refuse_i {p : Pr} {F : Fm} {m1 m2 : Int} (h : mayI F.f1 F.f2 = true) (h1 : F.t1 = m1) (h2 : ¬ F.f1 = m1) (h3 : ¬ F.t2 = 0) (h4 : ¬ F.t2 = m2) : refuse p F m1 m2 = 42 := by
  rw [refuse_on h h1 h2, if_pos (.inl ⟨h3, h4⟩)]
theorem refuse_o {p : Pr} {F : Fm} {m1 m2 : Int} (h : mayI F.f1 F.f2 = true) (h1 : F.t1 = m1) (h2 : ¬ F.f1 = m1) (h3 : F.f2 < p.nw) : refuse p F m1 m2 = 42 := by
  rw [refuse_on h h1 h2, if_pos (.inr h3)]
theorem refuse_s {p : Pr} {F : Fm} {m1 m2 : Int} (h : mayI F.f1 F.f2 = true) (h1 : F.t1 = m1) (h2 : ¬ F.f1 = m1) (h3 : F.t2 = 0 ∨ F.t2 = m2) (h4 : ¬ F.f2 < p.nw) (h5 : F.f2 ≤ p.fe) : refuse p F m1 m2 = 7 := by
  rw [refuse_on h h1 h2, if_neg, if_pos h5]
  rintro (⟨h6, h7⟩ | h6)
  · rcases h3 with h3 | h3
    · exact h6 h3
    · exact h7 h3
  · exact h4 h6
theorem refuse_z {p : Pr} {F : Fm} {m1 m2 : Int} (h : mayI F.f1 F.f2 = true) (h1 : F.t1 = m1) (h2 : ¬ F.f1 = m1) (h3 : F.t2 = 0 ∨ F.t2 = m2) (h4 : ¬ F.f2 < p.nw) (h5 : ¬ F.f2 ≤ p.fe) : refuse p F m1 m2 = 0 := by
  rw [refuse_on h h1 h2, if_neg, if_neg h5]
  rintro (⟨h6, h7⟩ | h6)
  · rcases h3 with h3 | h3
    · exact h6 h3
    · exact h7 h3
  · exact h4 h6
/-- What is known of an address of which a frame comes, a newer life's counted. -/
def newer (p : Pr) (F : Fm) : Pr := if p.nw < F.f2 then ⟨F.f2, p.fe, 0, 0⟩ else p
/-- What is known behind a frame; or why it is refused. -/
def after (p : Pr) (F : Fm) : Pr × Int :=
  if F.k = 5 then (if F.f2 ≤ p.nw ∧ F.n ≤ p.be then (p0, 6) else (⟨(newer p F).nw, (newer p F).fe, F.n, (newer p F).re⟩, 0))
  else if F.k = 6 then (if F.f2 ≤ p.nw ∧ F.n ≤ p.re then (p0, 6) else (⟨(newer p F).nw, (newer p F).fe, (newer p F).be, F.n⟩, 0))
  else (newer p F, 0)
/-- One address is another one's. -/
def put (M : Int → Pr) (a : Int) (p : Pr) : Int → Pr := fun k => if k = a then p else M k
theorem put_same (M : Int → Pr) (a : Int) (p : Pr) : put M a p a = p := if_pos rfl
theorem put_other (M : Int → Pr) {a k : Int} (p : Pr) (h : k ≠ a) : put M a p k = M k := if_neg h
/-- What comes of a frame. -/
def takeE (M : Int → Pr) (F : Fm) (m1 m2 : Int) : Int := if refuse (M F.f1) F m1 m2 = 0 then (after (M F.f1) F).2 else refuse (M F.f1) F m1 m2
def takeM (M : Int → Pr) (F : Fm) (m1 m2 : Int) : Int → Pr := if takeE M F m1 m2 = 0 then put M F.f1 (after (M F.f1) F).1 else M
theorem takeM_no {M : Int → Pr} {F : Fm} {m1 m2 : Int} (h : takeE M F m1 m2 ≠ 0) : takeM M F m1 m2 = M := if_neg h
theorem takeM_yes {M : Int → Pr} {F : Fm} {m1 m2 : Int} (h : takeE M F m1 m2 = 0) : takeM M F m1 m2 = put M F.f1 (after (M F.f1) F).1 := if_pos h
def fenceE (a i : Int) : Int := if mayI a i = true then 0 else 4
def fenceM (M : Int → Pr) (a i : Int) : Int → Pr := if mayI a i = true then put M a ⟨(M a).nw, max (M a).fe i, (M a).be, (M a).re⟩ else M
def fencedB (M : Int → Pr) (a i : Int) : Bool := mayI a i && decide (i ≤ (M a).fe)
/-- A step: an ID is fenced, or a frame is taken. -/
structure Sp where
  q : Bool
  F : Fm
def step (m1 m2 : Int) (M : Int → Pr) (s : Sp) : Int → Pr := if s.q = true then fenceM M s.F.f1 s.F.f2 else takeM M s.F m1 m2
def stepE (m1 m2 : Int) (M : Int → Pr) (s : Sp) : Int := if s.q = true then fenceE s.F.f1 s.F.f2 else takeE M s.F m1 m2
def plays (m1 m2 : Int) (M : Int → Pr) (l : List Sp) : Int → Pr := l.foldl (step m1 m2) M
theorem plays_snoc (m1 m2 : Int) (M : Int → Pr) (l : List Sp) (k : Nat) (h : k < l.length) : plays m1 m2 M (l.take (k + 1)) = step m1 m2 (plays m1 m2 M (l.take k)) l[k] := by
  unfold plays
  rw [List.take_succ_eq_append_getElem h, List.foldl_append]
  rfl
theorem after_nw {p : Pr} {F : Fm} (h : (after p F).2 = 0) : p.nw ≤ (after p F).1.nw ∧ F.f2 ≤ (after p F).1.nw ∧ (after p F).1.fe = p.fe := by
  unfold after newer at *
  repeat' split at h
  all_goals (first | (simp at h; done) | (simp [*]; omega))
end Go.Proofs.Ytgbbmhdkhhchhaa
