/-
  Carried over and put together: contracts of this program's functions, and plain facts. No statement is proved in this text.
-/

set_option maxRecDepth 20000
namespace Go.Proofs.YtjlnnmjhbccdoaaGreat
namespace Ros
abbrev Id2 := Int × Int
abbrev Mm := Id2 × Int × Int
def elder (a b : Int) : Int := if a ≤ 0 then max b 0 else if b ≤ 0 then a else min a b
theorem elder_comm (a b : Int) : elder a b = elder b a := by unfold elder; split <;> split <;> omega
theorem elder_assoc (a b c : Int) : elder (elder a b) c = elder a (elder b c) := by unfold elder; repeat' split <;> omega
theorem elder_self {a : Int} (h : 0 ≤ a) : elder a a = a := by unfold elder; repeat' split <;> omega
theorem elder_zero {a : Int} (h : 0 ≤ a) : elder a 0 = a := by unfold elder; repeat' split <;> omega
theorem zero_elder (a : Int) : elder 0 a = max a 0 := by unfold elder; repeat' split <;> omega
theorem elder_nn (a b : Int) : 0 ≤ elder a b := by unfold elder; repeat' split <;> omega
theorem elder_max (a b : Int) : elder a (max b 0) = elder a b := by unfold elder; repeat' split <;> omega
structure St where
 f : Int
 n : Int
 s : Int
 p : Int
deriving DecidableEq
theorem St.ext4 {x y : St} (h1 : x.f = y.f) (h2 : x.n = y.n) (h3 : x.s = y.s) (h4 : x.p = y.p) : x = y := by
 cases x; cases y; simp_all
def St.zero : St := ⟨0, 0, 0, 0⟩
def St.or (x y : St) : St :=
 ⟨max (max x.f y.f) (if x.n = y.n then 0 else min x.n y.n), max x.n y.n, if x.n = y.n then max x.s y.s else if x.n < y.n then y.s else x.s, if x.n = y.n then elder x.p y.p else if x.n < y.n then y.p else x.p⟩
structure Good (x : St) : Prop where
 f0 : 0 ≤ x.f
 n0 : 0 ≤ x.n
 s0 : 0 ≤ x.s
 p0 : 0 ≤ x.p
 zs : x.n = 0 → x.s = 0
 zp : x.n = 0 → x.p = 0
theorem good_zero : Good St.zero := ⟨by decide, by decide, by decide, by decide, fun _ => rfl, fun _ => rfl⟩
theorem or_comm (x y : St) : x.or y = y.or x := by
 refine St.ext4 ?_ ?_ ?_ ?_ <;> simp only [St.or]
 ·by_cases h : x.n = y.n
  ·rw [if_pos h, if_pos h.symm]; omega
  ·rw [if_neg h, if_neg (show ¬ y.n = x.n from fun e => h e.symm)]; omega
 ·omega
 ·by_cases h : x.n = y.n
  ·rw [if_pos h, if_pos h.symm]; omega
  ·rw [if_neg h, if_neg (show ¬ y.n = x.n from fun e => h e.symm)]
   by_cases h2 : x.n < y.n
   ·rw [if_pos h2, if_neg (by omega)]
   ·rw [if_neg h2, if_pos (by omega)]
 ·by_cases h : x.n = y.n
  ·rw [if_pos h, if_pos h.symm, elder_comm]
  ·rw [if_neg h, if_neg (show ¬ y.n = x.n from fun e => h e.symm)]
   by_cases h2 : x.n < y.n
   ·rw [if_pos h2, if_neg (by omega)]
   ·rw [if_neg h2, if_pos (by omega)]
theorem or_n (x y : St) : (x.or y).n = max x.n y.n := rfl
theorem or_lt {x y : St} (h : x.n < y.n) : x.or y = ⟨max (max x.f y.f) x.n, y.n, y.s, y.p⟩ := by
 refine St.ext4 ?_ ?_ ?_ ?_ <;> simp only [St.or]
 ·rw [if_neg (by omega)]; omega
 ·omega
 ·rw [if_neg (by omega), if_pos h]
 ·rw [if_neg (by omega), if_pos h]
theorem or_gt {x y : St} (h : y.n < x.n) : x.or y = ⟨max (max x.f y.f) y.n, x.n, x.s, x.p⟩ := by
 rw [or_comm, or_lt h, Int.max_comm y.f x.f]
theorem or_eq {x y : St} (hx : 0 ≤ x.f) (h : x.n = y.n) : x.or y = ⟨max x.f y.f, y.n, max x.s y.s, elder x.p y.p⟩ := by
 refine St.ext4 ?_ ?_ ?_ ?_ <;> simp only [St.or]
 ·rw [if_pos h]; omega
 ·omega
 ·rw [if_pos h]
 ·rw [if_pos h]
theorem or_good {x y : St} (hx : Good x) (hy : Good y) : Good (x.or y) := by
 obtain ⟨a1, a2, a3, a4, a5, a6⟩ := hx
 obtain ⟨b1, b2, b3, b4, b5, b6⟩ := hy
 rcases Int.lt_trichotomy x.n y.n with h | h | h
 ·rw [or_lt h]; exact ⟨by show 0 ≤ max (max x.f y.f) x.n; omega, b2, b3, b4, b5, b6⟩
 ·rw [or_eq a1 h]
  refine ⟨by show 0 ≤ max x.f y.f; omega, b2, by show 0 ≤ max x.s y.s; omega, elder_nn _ _, fun e => ?_, fun e => ?_⟩
  ·have e' : y.n = 0 := e
   show max x.s y.s = 0
   rw [a5 (by omega), b5 e']; rfl
  ·have e' : y.n = 0 := e
   show elder x.p y.p = 0
   rw [a6 (by omega), b6 e']; rfl
 ·rw [or_gt h]; exact ⟨by show 0 ≤ max (max x.f y.f) y.n; omega, a2, a3, a4, a5, a6⟩
theorem or_assoc {x y z : St} (hx : Good x) (hy : Good y) (hz : Good z) : (x.or y).or z = x.or (y.or z) := by
 have a := hx.f0
 have b := hy.f0
 have c := hz.f0
 have a' := hx.n0
 have b' := hy.n0
 have c' := hz.n0
 have ha := (or_good hx hy).f0
 have hb := (or_good hy hz).f0
 rcases Int.lt_trichotomy x.n y.n with h | h | h <;> rcases Int.lt_trichotomy y.n z.n with k | k | k
 ·rw [or_lt h, or_lt k, or_lt (x := ⟨_, y.n, y.s, y.p⟩) (by exact k), or_lt (x := x) (by show x.n < z.n; omega)]
  refine St.ext4 ?_ rfl rfl rfl
  show max (max (max (max x.f y.f) x.n) z.f) y.n = max (max x.f (max (max y.f z.f) y.n)) x.n
  omega
 ·rw [or_lt h, or_eq b k, or_eq (x := ⟨max (max x.f y.f) x.n, y.n, y.s, y.p⟩) (by show 0 ≤ max (max x.f y.f) x.n; omega) k, or_lt (x := x) (by show x.n < z.n; omega)]
  refine St.ext4 ?_ rfl rfl rfl
  show max (max (max x.f y.f) x.n) z.f = max (max x.f (max y.f z.f)) x.n
  omega
 ·rw [or_lt h, or_gt k, or_gt (x := ⟨_, y.n, y.s, y.p⟩) (by exact k), or_lt (x := x) (by exact h)]
  refine St.ext4 ?_ rfl rfl rfl
  show max (max (max (max x.f y.f) x.n) z.f) z.n = max (max x.f (max (max y.f z.f) z.n)) x.n
  omega
 ·rw [or_eq a h, or_lt k, or_lt (x := ⟨_, y.n, _, _⟩) (by exact k), or_lt (x := x) (by show x.n < z.n; omega)]
  refine St.ext4 ?_ rfl rfl rfl
  show max (max (max x.f y.f) z.f) y.n = max (max x.f (max (max y.f z.f) y.n)) x.n
  omega
 ·rw [or_eq a h, or_eq b k, or_eq (x := ⟨max x.f y.f, y.n, max x.s y.s, elder x.p y.p⟩) (by show 0 ≤ max x.f y.f; omega) k, or_eq (x := x) a (by show x.n = z.n; omega)]
  refine St.ext4 ?_ rfl ?_ (elder_assoc _ _ _)
  ·show max (max x.f y.f) z.f = max x.f (max y.f z.f)
   omega
  ·show max (max x.s y.s) z.s = max x.s (max y.s z.s)
   omega
 ·rw [or_eq a h, or_gt k, or_gt (x := ⟨_, y.n, _, _⟩) (by exact k), or_eq (x := x) a (by exact h)]
  refine St.ext4 ?_ rfl rfl rfl
  show max (max (max x.f y.f) z.f) z.n = max x.f (max (max y.f z.f) z.n)
  omega
 ·rw [or_gt h, or_lt k]
  rcases Int.lt_trichotomy x.n z.n with m | m | m
  ·rw [or_lt (x := ⟨_, x.n, x.s, x.p⟩) (by exact m), or_lt (x := x) (by exact m)]
   refine St.ext4 ?_ rfl rfl rfl
   show max (max (max (max x.f y.f) y.n) z.f) x.n = max (max x.f (max (max y.f z.f) y.n)) x.n
   omega
  ·rw [or_eq (x := ⟨max (max x.f y.f) y.n, x.n, x.s, x.p⟩) (by show 0 ≤ max (max x.f y.f) y.n; omega) m, or_eq (x := x) a (by exact m)]
   refine St.ext4 ?_ rfl rfl rfl
   show max (max (max x.f y.f) y.n) z.f = max x.f (max (max y.f z.f) y.n)
   omega
  ·rw [or_gt (x := ⟨_, x.n, x.s, x.p⟩) (by exact m), or_gt (x := x) (by exact m)]
   refine St.ext4 ?_ rfl rfl rfl
   show max (max (max (max x.f y.f) y.n) z.f) z.n = max (max x.f (max (max y.f z.f) y.n)) z.n
   omega
 ·rw [or_gt h, or_eq b k, or_gt (x := ⟨_, x.n, x.s, x.p⟩) (by show z.n < x.n; omega), or_gt (x := x) (by show z.n < x.n; omega)]
  refine St.ext4 ?_ rfl rfl rfl
  show max (max (max (max x.f y.f) y.n) z.f) z.n = max (max x.f (max y.f z.f)) z.n
  omega
 ·rw [or_gt h, or_gt k, or_gt (x := ⟨_, x.n, x.s, x.p⟩) (by show z.n < x.n; omega), or_gt (x := x) (by show y.n < x.n; omega)]
  refine St.ext4 ?_ rfl rfl rfl
  show max (max (max (max x.f y.f) y.n) z.f) z.n = max (max x.f (max (max y.f z.f) z.n)) y.n
  omega
theorem or_self {x : St} (h : Good x) : x.or x = x := by
 rw [or_eq h.f0 rfl]
 exact St.ext4 (by show max x.f x.f = x.f; omega) rfl (by show max x.s x.s = x.s; omega) (elder_self h.p0)
theorem or_zero {x : St} (h : Good x) : x.or St.zero = x := by
 have f0 := h.f0
 have n0 := h.n0
 have s0 := h.s0
 rcases Int.lt_or_le 0 x.n with k | k
 ·rw [or_gt (y := St.zero) k]
  exact St.ext4 (by show max (max x.f 0) 0 = x.f; omega) rfl rfl rfl
 ·have e : x.n = 0 := by omega
  rw [or_eq (y := St.zero) h.f0 e]
  exact St.ext4 (by show max x.f 0 = x.f; omega) e.symm (by show max x.s 0 = x.s; omega) (elder_zero h.p0)
theorem zero_or {x : St} (h : Good x) : St.zero.or x = x := by rw [or_comm, or_zero h]
def kill (x : St) : St := if x.n ≤ x.f then ⟨x.f, 0, 0, 0⟩ else x
theorem kill_good {x : St} (h : Good x) : Good (kill x) := by
 unfold kill
 split
 ·exact ⟨h.f0, Int.le_refl _, Int.le_refl _, Int.le_refl _, fun _ => rfl, fun _ => rfl⟩
 ·exact h
theorem kill_kill {x : St} (h : Good x) : kill (kill x) = kill x := by
 unfold kill
 by_cases k : x.n ≤ x.f
 ·rw [if_pos k]
  have := h.f0
  exact if_pos this
 ·rw [if_neg k, if_neg k]
theorem kill_or {x y : St} (hx : Good x) (hy : Good y) : kill ((kill x).or y) = kill (x.or y) := by
 by_cases k : x.n ≤ x.f
 ·have e : kill x = ⟨x.f, 0, 0, 0⟩ := if_pos k
  have f0 := hx.f0
  have g0 := hy.f0
  have n0 := hx.n0
  have m0 := hy.n0
  rw [e]
  rcases Int.lt_trichotomy x.n y.n with h | h | h
  ·rw [or_lt h, or_lt (x := ⟨x.f, 0, 0, 0⟩) (by show 0 < y.n; omega)]
   congr 1
   exact St.ext4 (by show max (max x.f y.f) 0 = max (max x.f y.f) x.n; omega) rfl rfl rfl
  ·rw [or_eq f0 h]
   have r : kill ⟨max x.f y.f, y.n, max x.s y.s, elder x.p y.p⟩ = ⟨max x.f y.f, 0, 0, 0⟩ := if_pos (by show y.n ≤ max x.f y.f; omega)
   rw [r]
   rcases Int.lt_or_le 0 y.n with m | m
   ·rw [or_lt (x := ⟨x.f, 0, 0, 0⟩) m]
    have r2 : kill ⟨max (max x.f y.f) 0, y.n, y.s, y.p⟩ = ⟨max (max x.f y.f) 0, 0, 0, 0⟩ := if_pos (by show y.n ≤ max (max x.f y.f) 0; omega)
    rw [r2]
    exact St.ext4 (by show max (max x.f y.f) 0 = max x.f y.f; omega) rfl rfl rfl
   ·rw [or_eq (x := ⟨x.f, 0, 0, 0⟩) f0 (by show 0 = y.n; omega)]
    exact if_pos (by show y.n ≤ max x.f y.f; omega)
  ·rw [or_gt h]
   have r : kill ⟨max (max x.f y.f) y.n, x.n, x.s, x.p⟩ = ⟨max (max x.f y.f) y.n, 0, 0, 0⟩ := if_pos (by show x.n ≤ max (max x.f y.f) y.n; omega)
   rw [r]
   rcases Int.lt_or_le 0 y.n with m | m
   ·rw [or_lt (x := ⟨x.f, 0, 0, 0⟩) m]
    have r2 : kill ⟨max (max x.f y.f) 0, y.n, y.s, y.p⟩ = ⟨max (max x.f y.f) 0, 0, 0, 0⟩ := if_pos (by show y.n ≤ max (max x.f y.f) 0; omega)
    rw [r2]
    exact St.ext4 (by show max (max x.f y.f) 0 = max (max x.f y.f) y.n; omega) rfl rfl rfl
   ·rw [or_eq (x := ⟨x.f, 0, 0, 0⟩) f0 (by show 0 = y.n; omega)]
    have r2 : kill ⟨max x.f y.f, y.n, max 0 y.s, elder 0 y.p⟩ = ⟨max x.f y.f, 0, 0, 0⟩ := if_pos (by show y.n ≤ max x.f y.f; omega)
    rw [r2]
    exact St.ext4 (by show max x.f y.f = max (max x.f y.f) y.n; omega) rfl rfl rfl
 ·have e : kill x = x := if_neg k
  rw [e]
def big (l : List St) : St := l.foldr St.or St.zero
end Ros
end Go.Proofs.YtjlnnmjhbccdoaaGreat
namespace Go.Proofs.YtjlnnmjhbccdoaaGreat
namespace Ros
def vid (a i : Int) : Bool := decide (1 ≤ a ∧ a ≤ 12 ∧ 1 ≤ i ∧ i ≤ 1048576)
theorem vid_iff {a i : Int} : vid a i = true ↔ 1 ≤ a ∧ a ≤ 12 ∧ 1 ≤ i ∧ i ≤ 1048576 := by simp [vid]
def vidP (x : Id2) : Bool := vid x.1 x.2
def cnt (x : Mm) : Bool := vid x.1.1 x.1.2 && decide (1 ≤ x.2.1 ∧ x.2.1 ≤ 7)
theorem cnt_iff {x : Mm} : cnt x = true ↔ (1 ≤ x.1.1 ∧ x.1.1 ≤ 12 ∧ 1 ≤ x.1.2 ∧ x.1.2 ≤ 1048576) ∧ 1 ≤ x.2.1 ∧ x.2.1 ≤ 7 := by simp [cnt, vid]
abbrev Ls := List Mm × List Id2
def em (x : Mm) : St := ⟨if x.2.1 = 7 then x.1.2 else 0, x.1.2, x.2.1, max x.2.2 0⟩
def eg (g : Id2) : St := ⟨g.2, 0, 0, 0⟩
structure Fit (k : Nat) (x : St) : Prop where
 good : Good x
 n1 : x.n ≤ 1048576
 f1 : x.f ≤ 1048576
 s1 : x.s ≤ 7
 ns : x.n ≠ 0 → 1 ≤ x.s
 s7 : x.s = 7 → x.n ≤ x.f
 far : k = 0 ∨ 12 < k → x = St.zero
theorem fit_zero (k : Nat) : Fit k St.zero := ⟨good_zero, by decide, by decide, by decide, fun h => absurd rfl h, fun h => absurd h (by decide), fun _ => rfl⟩
theorem fit_em {k : Nat} {x : Mm} (h : cnt x = true) (hk : x.1.1 = (k : Int)) : Fit k (em x) := by
 obtain ⟨⟨a1, a2, a3, a4⟩, a5, a6⟩ := cnt_iff.1 h
 have e1 : (em x).n = x.1.2 := rfl
 have e2 : (em x).s = x.2.1 := rfl
 have e3 : (em x).p = max x.2.2 0 := rfl
 have e4 : (em x).f = if x.2.1 = 7 then x.1.2 else 0 := rfl
 refine ⟨⟨?_, by omega, by omega, by omega, fun e => by omega, fun e => by omega⟩, by omega, ?_, by omega, fun _ => by omega, fun e => ?_, fun e => by omega⟩
 ·rw [e4]; split <;> omega
 ·rw [e4]; split <;> omega
 ·rw [e4, e1, if_pos (e2 ▸ e)]; exact Int.le_refl _
theorem fit_eg {k : Nat} {x : Id2} (h : vidP x = true) (hk : x.1 = (k : Int)) : Fit k (eg x) := by
 obtain ⟨a1, a2, a3, a4⟩ := vid_iff.1 h
 exact ⟨⟨by show 0 ≤ x.2; omega, Int.le_refl _, Int.le_refl _, Int.le_refl _, fun _ => rfl, fun _ => rfl⟩, by show (0 : Int) ≤ 1048576; omega, a4, by show (0 : Int) ≤ 7; omega, fun e => absurd rfl e, fun e => by have : (0 : Int) = 7 := e; omega, fun e => by omega⟩
theorem fit_or {k : Nat} {x y : St} (hx : Fit k x) (hy : Fit k y) : Fit k (x.or y) := by
 obtain ⟨g1, a1, a2, a3, a4, a5, a6⟩ := hx
 obtain ⟨g2, b1, b2, b3, b4, b5, b6⟩ := hy
 have f1 := g1.f0
 have f2 := g2.f0
 have n1 := g1.n0
 have n2 := g2.n0
 refine ⟨or_good g1 g2, ?_, ?_, ?_, ?_, ?_, fun h => by rw [a6 h, b6 h]; rfl⟩
 all_goals rcases Int.lt_trichotomy x.n y.n with h | h | h
 ·rw [or_lt h]; exact b1
 ·rw [or_eq f1 h]; exact b1
 ·rw [or_gt h]; exact a1
 ·rw [or_lt h]; show max (max x.f y.f) x.n ≤ _; omega
 ·rw [or_eq f1 h]; show max x.f y.f ≤ _; omega
 ·rw [or_gt h]; show max (max x.f y.f) y.n ≤ _; omega
 ·rw [or_lt h]; exact b3
 ·rw [or_eq f1 h]; show max x.s y.s ≤ _; omega
 ·rw [or_gt h]; exact a3
 ·rw [or_lt h]; exact b4
 ·rw [or_eq f1 h]; intro e; have := b4 e; show 1 ≤ max x.s y.s; omega
 ·rw [or_gt h]; exact a4
 ·rw [or_lt h]; intro e; have := b5 e; show y.n ≤ max (max x.f y.f) x.n; omega
 ·rw [or_eq f1 h]
  intro e
  have e' : max x.s y.s = 7 := e
  show y.n ≤ max x.f y.f
  by_cases h7 : x.s = 7
  ·have := a5 h7; omega
  ·have := b5 (by omega); omega
 ·rw [or_gt h]; intro e; have := a5 e; show x.n ≤ max (max x.f y.f) y.n; omega
theorem fit_kill {k : Nat} {x : St} (h : Fit k x) : Fit k (kill x) := by
 by_cases e : x.n ≤ x.f
 ·have r : kill x = ⟨x.f, 0, 0, 0⟩ := if_pos e
  have g := kill_good h.good
  rw [r] at g ⊢
  refine ⟨g, by show (0 : Int) ≤ 1048576; omega, h.f1, by show (0 : Int) ≤ 7; omega, fun e => absurd rfl e, fun e => by have : (0 : Int) = 7 := e; omega, fun hk => ?_⟩
  rw [h.far hk]
  rfl
 ·have r : kill x = x := if_neg e
  rw [r]
  exact h
theorem kill_six {k : Nat} {x : St} (h : Fit k x) (hn : (kill x).n ≠ 0) : (kill x).s ≤ 6 ∧ 1 ≤ (kill x).s ∧ (kill x).f < (kill x).n := by
 unfold kill at *
 split at hn
 ·exact absurd rfl hn
 ·rename_i e
  rw [if_neg e]
  have h1 := h.s1
  have h2 := h.s7
  have h3 := h.ns hn
  refine ⟨?_, h3, by omega⟩
  rcases Int.lt_or_le x.s 7 with c | c
  ·omega
  ·exact absurd (h2 (by omega)) e
def bigM (k : Nat) (ms : List Mm) : St := big ((ms.filter fun x => decide (x.1.1 = (k : Int))).map em)
def bigG (k : Nat) (gs : List Id2) : St := big ((gs.filter fun x => decide (x.1 = (k : Int))).map eg)
theorem bigM_yes {k : Nat} {x : Mm} {l : List Mm} (h : x.1.1 = (k : Int)) : bigM k (x :: l) = (em x).or (bigM k l) := by simp [bigM, big, h]
theorem bigM_no {k : Nat} {x : Mm} {l : List Mm} (h : ¬ x.1.1 = (k : Int)) : bigM k (x :: l) = bigM k l := by simp [bigM, big, h]
theorem bigG_yes {k : Nat} {x : Id2} {l : List Id2} (h : x.1 = (k : Int)) : bigG k (x :: l) = (eg x).or (bigG k l) := by simp [bigG, big, h]
theorem bigG_no {k : Nat} {x : Id2} {l : List Id2} (h : ¬ x.1 = (k : Int)) : bigG k (x :: l) = bigG k l := by simp [bigG, big, h]
def AllC (ms : List Mm) : Prop := ∀ x ∈ ms, cnt x = true
def AllV (gs : List Id2) : Prop := ∀ x ∈ gs, vidP x = true
theorem allC_filter (l : List Mm) : AllC (l.filter cnt) := fun _ h => (List.mem_filter.1 h).2
theorem allV_filter (l : List Id2) : AllV (l.filter vidP) := fun _ h => (List.mem_filter.1 h).2
theorem fit_bigM {k : Nat} {ms : List Mm} (h : AllC ms) : Fit k (bigM k ms) := by
 induction ms with
 | nil => exact fit_zero k
 | cons x l ih =>
  have ih := ih fun y hy => h y (List.mem_cons_of_mem _ hy)
  by_cases e : x.1.1 = (k : Int)
  ·rw [bigM_yes e]; exact fit_or (fit_em (h x (List.mem_cons_self ..)) e) ih
  ·rw [bigM_no e]; exact ih
theorem fit_bigG {k : Nat} {gs : List Id2} (h : AllV gs) : Fit k (bigG k gs) ∧ (bigG k gs).n = 0 ∧ (bigG k gs).s = 0 ∧ (bigG k gs).p = 0 := by
 induction gs with
 | nil => exact ⟨fit_zero k, rfl, rfl, rfl⟩
 | cons x l ih =>
  obtain ⟨i1, i2, i3, i4⟩ := ih fun y hy => h y (List.mem_cons_of_mem _ hy)
  by_cases e : x.1 = (k : Int)
  ·have hf := fit_eg (h x (List.mem_cons_self ..)) e
   rw [bigG_yes e]
   refine ⟨fit_or hf i1, ?_⟩
   rw [or_eq hf.good.f0 (show (eg x).n = _ from i2.symm)]
   exact ⟨i2, by show max 0 (bigG k l).s = 0; omega, by show elder 0 (bigG k l).p = 0; rw [i4]; rfl⟩
  ·rw [bigG_no e]; exact ⟨i1, i2, i3, i4⟩
def raw (L : Ls) (k : Nat) : St := (bigM k (L.1.filter cnt)).or (bigG k (L.2.filter vidP))
theorem fit_raw (L : Ls) (k : Nat) : Fit k (raw L k) := fit_or (fit_bigM (allC_filter _)) (fit_bigG (allV_filter _)).1
theorem bigM_append {k : Nat} {l m : List Mm} (hl : AllC l) (hm : AllC m) : bigM k (l ++ m) = (bigM k l).or (bigM k m) := by
 induction l with
 | nil => exact (zero_or (fit_bigM hm).good).symm
 | cons x l ih =>
  have hl' : AllC l := fun y hy => hl y (List.mem_cons_of_mem _ hy)
  have ih := ih hl'
  rw [List.cons_append]
  by_cases e : x.1.1 = (k : Int)
  ·rw [bigM_yes e, bigM_yes e, ih, or_assoc (fit_em (k := k) (hl x (List.mem_cons_self ..)) e).good (fit_bigM hl').good (fit_bigM hm).good]
  ·rw [bigM_no e, bigM_no e, ih]
theorem bigG_append {k : Nat} {l m : List Id2} (hl : AllV l) (hm : AllV m) : bigG k (l ++ m) = (bigG k l).or (bigG k m) := by
 induction l with
 | nil => exact (zero_or (fit_bigG hm).1.good).symm
 | cons x l ih =>
  have hl' : AllV l := fun y hy => hl y (List.mem_cons_of_mem _ hy)
  have ih := ih hl'
  rw [List.cons_append]
  by_cases e : x.1 = (k : Int)
  ·rw [bigG_yes e, bigG_yes e, ih, or_assoc (fit_eg (k := k) (hl x (List.mem_cons_self ..)) e).good (fit_bigG hl').1.good (fit_bigG hm).1.good]
  ·rw [bigG_no e, bigG_no e, ih]
theorem or_four {a b c d : St} (ha : Good a) (hb : Good b) (hc : Good c) (hd : Good d) : (a.or b).or (c.or d) = (a.or c).or (b.or d) := by
 rw [or_assoc ha hb (or_good hc hd), or_assoc ha hc (or_good hb hd), ← or_assoc hb hc hd, or_comm b c, or_assoc hc hb hd]
theorem raw_append (m n : List Mm) (f g : List Id2) (k : Nat) : raw (m ++ n, f ++ g) k = (raw (m, f) k).or (raw (n, g) k) := by
 unfold raw
 simp only [List.filter_append]
 rw [bigM_append (allC_filter _) (allC_filter _), bigG_append (allV_filter _) (allV_filter _)]
 exact or_four (fit_bigM (allC_filter _)).good (fit_bigM (allC_filter _)).good (fit_bigG (allV_filter _)).1.good (fit_bigG (allV_filter _)).1.good
def outM (S : Nat → St) : List Mm := (List.range 13).filterMap fun k => if (S k).n = 0 then none else some (((k : Int), (S k).n), (S k).s, (S k).p)
def outF (S : Nat → St) : List Id2 := (List.range 13).filterMap fun k => if (S k).f ≤ 0 then none else some ((k : Int), (S k).f)
def out (S : Nat → St) : Ls := (outM S, outF S)
def joinL (a b : Ls) : Ls := out fun k => kill ((raw a k).or (raw b k))
theorem filterMap_congr_range {α : Type} {f g : Nat → Option α} : ∀ (n : Nat), (∀ k, k < n → f k = g k) → (List.range n).filterMap f = (List.range n).filterMap g
 | 0, _ => rfl
 | n + 1, h => by
  rw [List.range_succ, List.filterMap_append, List.filterMap_append, filterMap_congr_range n fun k hk => h k (by omega)]
  simp only [List.filterMap_cons, List.filterMap_nil, h n (by omega)]
theorem out_congr {S S' : Nat → St} (h : ∀ k, k < 13 → S k = S' k) : out S = out S' := by
 unfold out outM outF
 rw [filterMap_congr_range 13 fun k hk => by rw [h k hk], filterMap_congr_range (f := fun k => if (S k).f ≤ 0 then none else some ((k : Int), (S k).f)) 13 fun k hk => by rw [h k hk]]
theorem filter_range {α : Type} {h : Nat → Option α} {key : α → Int} (hk : ∀ j y, h j = some y → key y = (j : Int)) (k : Nat) : ∀ m, ((List.range m).filterMap h).filter (fun x => decide (key x = (k : Int))) = if k < m then (h k).toList else []
 | 0 => by simp
 | m + 1 => by
  rw [List.range_succ, List.filterMap_append, List.filter_append, filter_range hk k m]
  simp only [List.filterMap_cons, List.filterMap_nil]
  cases e : h m with
  | none =>
   simp only [List.filter_nil, List.append_nil]
   by_cases c : k < m
   ·rw [if_pos c, if_pos (by omega)]
   ·rw [if_neg c]
    by_cases c2 : k = m
    ·subst c2; rw [if_pos (by omega), e]; rfl
    ·rw [if_neg (by omega)]
  | some y =>
   have hy := hk m y e
   by_cases c : k < m
   ·rw [if_pos c, if_pos (by omega)]
    have : decide (key y = (k : Int)) = false := by simp; omega
    simp [this]
   ·rw [if_neg c]
    by_cases c2 : k = m
    ·subst c2; rw [if_pos (by omega), e]; simp [hy]
    ·rw [if_neg (by omega)]
     have : decide (key y = (k : Int)) = false := by simp; omega
     simp [this]
def Norm (S : Nat → St) : Prop := ∀ k, Fit k (S k) ∧ kill (S k) = S k
theorem norm_join (a b : Ls) : Norm fun k => kill ((raw a k).or (raw b k)) := fun k =>
 have h := fit_or (fit_raw a k) (fit_raw b k)
 ⟨fit_kill h, kill_kill h.good⟩
theorem mem_outM {S : Nat → St} {x : Mm} : x ∈ outM S ↔ ∃ k, k < 13 ∧ (S k).n ≠ 0 ∧ x = (((k : Int), (S k).n), (S k).s, (S k).p) := by
 unfold outM
 rw [List.mem_filterMap]
 constructor
 ·rintro ⟨k, hk, h⟩
  refine ⟨k, List.mem_range.1 hk, ?_⟩
  split at h
  ·cases h
  ·rename_i e
   exact ⟨e, (Option.some.inj h).symm⟩
 ·rintro ⟨k, hk, hn, rfl⟩
  exact ⟨k, List.mem_range.2 hk, by rw [if_neg hn]⟩
theorem mem_outF {S : Nat → St} {x : Id2} : x ∈ outF S ↔ ∃ k, k < 13 ∧ 0 < (S k).f ∧ x = ((k : Int), (S k).f) := by
 unfold outF
 rw [List.mem_filterMap]
 constructor
 ·rintro ⟨k, hk, h⟩
  refine ⟨k, List.mem_range.1 hk, ?_⟩
  split at h
  ·cases h
  ·rename_i e
   exact ⟨by omega, (Option.some.inj h).symm⟩
 ·rintro ⟨k, hk, hn, rfl⟩
  exact ⟨k, List.mem_range.2 hk, by rw [if_neg (by omega)]⟩
theorem Norm.six {S : Nat → St} (h : Norm S) {k : Nat} (hn : (S k).n ≠ 0) : (S k).s ≤ 6 ∧ 1 ≤ (S k).s ∧ (S k).f < (S k).n := by
 have := kill_six (h k).1 (by rw [(h k).2]; exact hn)
 rwa [(h k).2] at this
theorem Norm.pos {S : Nat → St} (h : Norm S) {k : Nat} (hn : (S k).n ≠ 0 ∨ 0 < (S k).f) : 1 ≤ k ∧ k ≤ 12 := by
 have := (h k).1.far
 rcases Nat.eq_zero_or_pos k with e | e
 ·rw [this (.inl e)] at hn; rcases hn with hn | hn
  ·exact absurd rfl hn
  ·exact absurd hn (by decide)
 ·rcases Nat.lt_or_ge 12 k with c | c
  ·rw [this (.inr c)] at hn; rcases hn with hn | hn
   ·exact absurd rfl hn
   ·exact absurd hn (by decide)
  ·exact ⟨e, c⟩
theorem outM_cnt {S : Nat → St} (h : Norm S) : AllC (outM S) := by
 intro x hx
 obtain ⟨k, hk, hn, rfl⟩ := mem_outM.1 hx
 have h6 := h.six hn
 have hp := h.pos (.inl hn)
 have h0 := (h k).1.good.n0
 have h1 := (h k).1.n1
 exact cnt_iff.2 ⟨⟨by show (1 : Int) ≤ (k : Int); omega, by show (k : Int) ≤ 12; omega, by show 1 ≤ (S k).n; omega, h1⟩, h6.2.1, by show (S k).s ≤ 7; omega⟩
theorem outF_vid {S : Nat → St} (h : Norm S) : AllV (outF S) := by
 intro x hx
 obtain ⟨k, hk, hn, rfl⟩ := mem_outF.1 hx
 have hp := h.pos (.inr hn)
 have h1 := (h k).1.f1
 exact vid_iff.2 ⟨by show (1 : Int) ≤ (k : Int); omega, by show (k : Int) ≤ 12; omega, by show 1 ≤ (S k).f; omega, h1⟩
theorem filter_all {α : Type} {p : α → Bool} {l : List α} (h : ∀ x ∈ l, p x = true) : l.filter p = l := List.filter_eq_self.2 h
theorem raw_out {S : Nat → St} (h : Norm S) (k : Nat) (hk : k < 13) : raw (out S) k = S k := by
 unfold raw out
 simp only []
 rw [filter_all (outM_cnt h), filter_all (outF_vid h)]
 have g := (h k).1.good
 have f0 := g.f0
 have n0 := g.n0
 have h1 : bigM k (outM S) = if (S k).n = 0 then St.zero else ⟨0, (S k).n, (S k).s, (S k).p⟩ := by
  unfold bigM outM
  rw [filter_range (key := fun x : Mm => x.1.1) (fun j y hj => by
   split at hj
   ·cases hj
   ·rw [← Option.some.inj hj]) k 13, if_pos hk]
  by_cases e : (S k).n = 0
  ·rw [if_pos e, if_pos e]; rfl
  ·rw [if_neg e, if_neg e]
   have hz := (h.six e).1
   have gp := g.p0
   have gs := g.s0
   show (em (((k : Int), (S k).n), (S k).s, (S k).p)).or St.zero = _
   have e2 : em (((k : Int), (S k).n), (S k).s, (S k).p) = ⟨0, (S k).n, (S k).s, (S k).p⟩ := by
    refine St.ext4 ?_ rfl rfl ?_
    ·show (if (S k).s = 7 then (S k).n else 0) = 0
     rw [if_neg (by omega)]
    ·show max (S k).p 0 = (S k).p
     omega
   rw [e2, or_gt (x := ⟨0, (S k).n, (S k).s, (S k).p⟩) (y := St.zero) (by show 0 < (S k).n; omega)]
   rfl
 have h2 : bigG k (outF S) = if (S k).f ≤ 0 then St.zero else ⟨(S k).f, 0, 0, 0⟩ := by
  unfold bigG outF
  rw [filter_range (key := fun x : Id2 => x.1) (fun j y hj => by
   split at hj
   ·cases hj
   ·rw [← Option.some.inj hj]) k 13, if_pos hk]
  by_cases e : (S k).f ≤ 0
  ·rw [if_pos e, if_pos e]; rfl
  ·rw [if_neg e, if_neg e]
   show (eg ((k : Int), (S k).f)).or St.zero = _
   rw [or_eq (x := eg ((k : Int), (S k).f)) (y := St.zero) f0 rfl]
   refine St.ext4 ?_ rfl rfl rfl
   show max (S k).f 0 = (S k).f
   omega
 rw [h1, h2]
 by_cases e1 : (S k).n = 0
 ·rw [if_pos e1]
  have zs := g.zs e1
  have zp := g.zp e1
  by_cases e2 : (S k).f ≤ 0
  ·rw [if_pos e2]
   exact St.ext4 (by show (0 : Int) = (S k).f; omega) (by show (0 : Int) = (S k).n; omega) zs.symm zp.symm
  ·rw [if_neg e2]
   refine St.ext4 ?_ e1.symm zs.symm zp.symm
   show max (max 0 (S k).f) 0 = (S k).f
   omega
 ·rw [if_neg e1]
  by_cases e2 : (S k).f ≤ 0
  ·rw [if_pos e2, or_gt (x := ⟨0, (S k).n, (S k).s, (S k).p⟩) (y := St.zero) (by show 0 < (S k).n; omega)]
   refine St.ext4 ?_ rfl rfl rfl
   show (0 : Int) = (S k).f
   omega
  ·rw [if_neg e2, or_gt (x := ⟨0, (S k).n, (S k).s, (S k).p⟩) (y := ⟨(S k).f, 0, 0, 0⟩) (by show 0 < (S k).n; omega)]
   refine St.ext4 ?_ rfl rfl rfl
   show max (max 0 (S k).f) 0 = (S k).f
   omega
theorem joinL_left (a b c : Ls) : joinL (joinL a b) c = out fun k => kill (((raw a k).or (raw b k)).or (raw c k)) := out_congr fun k hk => by
 show kill ((raw (out _) k).or (raw c k)) = _
 rw [raw_out (norm_join a b) k hk]
 exact kill_or (fit_or (fit_raw a k) (fit_raw b k)).good (fit_raw c k).good
theorem joinL_comm (a b : Ls) : joinL a b = joinL b a := out_congr fun k _ => by rw [or_comm]
theorem joinL_assoc (a b c : Ls) : joinL (joinL a b) c = joinL a (joinL b c) := by
 rw [joinL_comm a (joinL b c), joinL_left, joinL_left]
 exact out_congr fun k _ => by
  rw [or_assoc (fit_raw a k).good (fit_raw b k).good (fit_raw c k).good, or_comm]
theorem joinL_again (a b : Ls) : joinL (joinL a b) a = joinL a b := by
 rw [joinL_left]
 exact out_congr fun k _ => by
  rw [or_comm, ← or_assoc (fit_raw a k).good (fit_raw a k).good (fit_raw b k).good, or_self (fit_raw a k).good]
end Ros
end Go.Proofs.YtjlnnmjhbccdoaaGreat
