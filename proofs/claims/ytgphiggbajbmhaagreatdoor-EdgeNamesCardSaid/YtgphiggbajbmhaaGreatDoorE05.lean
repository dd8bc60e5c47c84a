/-
  Carried over and put together: contracts of this program's functions, and plain facts. No statement is proved in this text.
-/
import Derived.Test.YtgphiggbajbmhaaGreatDoorRows
import Derived.WalkKit
import Derived.WalkSpells
import Derived.WalkLawsBesides
import Derived.OwnWalk
import Derived.Deep.AppendLies
import Derived.Outline
import Derived.IntWalk
import Derived.Deep.LoopGhost
import Derived.Handy
import Derived.Lib.Hide
import Derived.Deep.RegionWith
import Derived.Deep.RegionHeld3
import Derived.BigQuiet
import Derived.Deep.QuietTactic
import Derived.Test.YtgphiggbajbmhaaGreatDoorE01
set_option maxRecDepth 20000
namespace Go.Proofs.YtgphiggbajbmhaaGreatDoor
namespace Ros
abbrev Id2 := Int × Int
abbrev Mm := Id2 × Int × Int
def elder (a b : Int) : Int := if a ≤ 0 then max b 0 else if b ≤ 0 then a else min a b
theorem elder_comm (a b : Int) : elder a b = elder b a := by unfold elder; split <;> split <;> omega
theorem elder_assoc (a b c : Int) : elder (elder a b) c = elder a (elder b c) := by unfold elder; repeat' split <;> omega
theorem elder_zero {a : Int} (h : 0 ≤ a) : elder a 0 = a := by unfold elder; repeat' split <;> omega
theorem zero_elder (a : Int) : elder 0 a = max a 0 := by unfold elder; repeat' split <;> omega
theorem elder_nn (a b : Int) : 0 ≤ elder a b := by unfold elder; repeat' split <;> omega
theorem elder_max (a b : Int) : elder a (max b 0) = elder a b := by unfold elder; repeat' split <;> omega
structure St where
 f : Int
 n : Int
 s : Int
 p : Int
deriving DecidableEq
theorem St.ext4 {x y : St} (h1 : x.f = y.f) (h2 : x.n = y.n) (h3 : x.s = y.s) (h4 : x.p = y.p) : x = y := by
 cases x; cases y; simp_all
def St.zero : St := ⟨0, 0, 0, 0⟩
def St.or (x y : St) : St :=
 ⟨max (max x.f y.f) (if x.n = y.n then 0 else min x.n y.n), max x.n y.n, if x.n = y.n then max x.s y.s else if x.n < y.n then y.s else x.s, if x.n = y.n then elder x.p y.p else if x.n < y.n then y.p else x.p⟩
structure Good (x : St) : Prop where
 f0 : 0 ≤ x.f
 n0 : 0 ≤ x.n
 s0 : 0 ≤ x.s
 p0 : 0 ≤ x.p
 zs : x.n = 0 → x.s = 0
 zp : x.n = 0 → x.p = 0
theorem good_zero : Good St.zero := ⟨by decide, by decide, by decide, by decide, fun _ => rfl, fun _ => rfl⟩
theorem or_comm (x y : St) : x.or y = y.or x := by
 refine St.ext4 ?_ ?_ ?_ ?_ <;> simp only [St.or]
 ·by_cases h : x.n = y.n
  ·rw [if_pos h, if_pos h.symm]; omega
  ·rw [if_neg h, if_neg (show ¬ y.n = x.n from fun e => h e.symm)]; omega
 ·omega
 ·by_cases h : x.n = y.n
  ·rw [if_pos h, if_pos h.symm]; omega
  ·rw [if_neg h, if_neg (show ¬ y.n = x.n from fun e => h e.symm)]
   by_cases h2 : x.n < y.n
   ·rw [if_pos h2, if_neg (by omega)]
   ·rw [if_neg h2, if_pos (by omega)]
 ·by_cases h : x.n = y.n
  ·rw [if_pos h, if_pos h.symm, elder_comm]
  ·rw [if_neg h, if_neg (show ¬ y.n = x.n from fun e => h e.symm)]
   by_cases h2 : x.n < y.n
   ·rw [if_pos h2, if_neg (by omega)]
   ·rw [if_neg h2, if_pos (by omega)]
theorem or_n (x y : St) : (x.or y).n = max x.n y.n := rfl
theorem or_lt {x y : St} (h : x.n < y.n) : x.or y = ⟨max (max x.f y.f) x.n, y.n, y.s, y.p⟩ := by
 refine St.ext4 ?_ ?_ ?_ ?_ <;> simp only [St.or]
 ·rw [if_neg (by omega)]; omega
 ·omega
 ·rw [if_neg (by omega), if_pos h]
 ·rw [if_neg (by omega), if_pos h]
theorem or_gt {x y : St} (h : y.n < x.n) : x.or y = ⟨max (max x.f y.f) y.n, x.n, x.s, x.p⟩ := by
 rw [or_comm, or_lt h, Int.max_comm y.f x.f]
theorem or_eq {x y : St} (hx : 0 ≤ x.f) (h : x.n = y.n) : x.or y = ⟨max x.f y.f, y.n, max x.s y.s, elder x.p y.p⟩ := by
 refine St.ext4 ?_ ?_ ?_ ?_ <;> simp only [St.or]
 ·rw [if_pos h]; omega
 ·omega
 ·rw [if_pos h]
 ·rw [if_pos h]
theorem or_good {x y : St} (hx : Good x) (hy : Good y) : Good (x.or y) := by
 obtain ⟨a1, a2, a3, a4, a5, a6⟩ := hx
 obtain ⟨b1, b2, b3, b4, b5, b6⟩ := hy
 rcases Int.lt_trichotomy x.n y.n with h | h | h
 ·rw [or_lt h]; exact ⟨by show 0 ≤ max (max x.f y.f) x.n; omega, b2, b3, b4, b5, b6⟩
 ·rw [or_eq a1 h]
  refine ⟨by show 0 ≤ max x.f y.f; omega, b2, by show 0 ≤ max x.s y.s; omega, elder_nn _ _, fun e => ?_, fun e => ?_⟩
  ·have e' : y.n = 0 := e
   show max x.s y.s = 0
   rw [a5 (by omega), b5 e']; rfl
  ·have e' : y.n = 0 := e
   show elder x.p y.p = 0
   rw [a6 (by omega), b6 e']; rfl
 ·rw [or_gt h]; exact ⟨by show 0 ≤ max (max x.f y.f) y.n; omega, a2, a3, a4, a5, a6⟩
theorem or_assoc {x y z : St} (hx : Good x) (hy : Good y) (hz : Good z) : (x.or y).or z = x.or (y.or z) := by
 have a := hx.f0
 have b := hy.f0
 have c := hz.f0
 have a' := hx.n0
 have b' := hy.n0
 have c' := hz.n0
 have ha := (or_good hx hy).f0
 have hb := (or_good hy hz).f0
 rcases Int.lt_trichotomy x.n y.n with h | h | h <;> rcases Int.lt_trichotomy y.n z.n with k | k | k
 ·rw [or_lt h, or_lt k, or_lt (x := ⟨_, y.n, y.s, y.p⟩) (by exact k), or_lt (x := x) (by show x.n < z.n; omega)]
  refine St.ext4 ?_ rfl rfl rfl
  show max (max (max (max x.f y.f) x.n) z.f) y.n = max (max x.f (max (max y.f z.f) y.n)) x.n
  omega
 ·rw [or_lt h, or_eq b k, or_eq (x := ⟨max (max x.f y.f) x.n, y.n, y.s, y.p⟩) (by show 0 ≤ max (max x.f y.f) x.n; omega) k, or_lt (x := x) (by show x.n < z.n; omega)]
  refine St.ext4 ?_ rfl rfl rfl
  show max (max (max x.f y.f) x.n) z.f = max (max x.f (max y.f z.f)) x.n
  omega
 ·rw [or_lt h, or_gt k, or_gt (x := ⟨_, y.n, y.s, y.p⟩) (by exact k), or_lt (x := x) (by exact h)]
  refine St.ext4 ?_ rfl rfl rfl
  show max (max (max (max x.f y.f) x.n) z.f) z.n = max (max x.f (max (max y.f z.f) z.n)) x.n
  omega
 ·rw [or_eq a h, or_lt k, or_lt (x := ⟨_, y.n, _, _⟩) (by exact k), or_lt (x := x) (by show x.n < z.n; omega)]
  refine St.ext4 ?_ rfl rfl rfl
  show max (max (max x.f y.f) z.f) y.n = max (max x.f (max (max y.f z.f) y.n)) x.n
  omega
 ·rw [or_eq a h, or_eq b k, or_eq (x := ⟨max x.f y.f, y.n, max x.s y.s, elder x.p y.p⟩) (by show 0 ≤ max x.f y.f; omega) k, or_eq (x := x) a (by show x.n = z.n; omega)]
  refine St.ext4 ?_ rfl ?_ (elder_assoc _ _ _)
  ·show max (max x.f y.f) z.f = max x.f (max y.f z.f)
   omega
  ·show max (max x.s y.s) z.s = max x.s (max y.s z.s)
   omega
 ·rw [or_eq a h, or_gt k, or_gt (x := ⟨_, y.n, _, _⟩) (by exact k), or_eq (x := x) a (by exact h)]
  refine St.ext4 ?_ rfl rfl rfl
  show max (max (max x.f y.f) z.f) z.n = max x.f (max (max y.f z.f) z.n)
  omega
 ·rw [or_gt h, or_lt k]
  rcases Int.lt_trichotomy x.n z.n with m | m | m
  ·rw [or_lt (x := ⟨_, x.n, x.s, x.p⟩) (by exact m), or_lt (x := x) (by exact m)]
   refine St.ext4 ?_ rfl rfl rfl
   show max (max (max (max x.f y.f) y.n) z.f) x.n = max (max x.f (max (max y.f z.f) y.n)) x.n
   omega
  ·rw [or_eq (x := ⟨max (max x.f y.f) y.n, x.n, x.s, x.p⟩) (by show 0 ≤ max (max x.f y.f) y.n; omega) m, or_eq (x := x) a (by exact m)]
   refine St.ext4 ?_ rfl rfl rfl
   show max (max (max x.f y.f) y.n) z.f = max x.f (max (max y.f z.f) y.n)
   omega
  ·rw [or_gt (x := ⟨_, x.n, x.s, x.p⟩) (by exact m), or_gt (x := x) (by exact m)]
   refine St.ext4 ?_ rfl rfl rfl
   show max (max (max (max x.f y.f) y.n) z.f) z.n = max (max x.f (max (max y.f z.f) y.n)) z.n
   omega
 ·rw [or_gt h, or_eq b k, or_gt (x := ⟨_, x.n, x.s, x.p⟩) (by show z.n < x.n; omega), or_gt (x := x) (by show z.n < x.n; omega)]
  refine St.ext4 ?_ rfl rfl rfl
  show max (max (max (max x.f y.f) y.n) z.f) z.n = max (max x.f (max y.f z.f)) z.n
  omega
 ·rw [or_gt h, or_gt k, or_gt (x := ⟨_, x.n, x.s, x.p⟩) (by show z.n < x.n; omega), or_gt (x := x) (by show y.n < x.n; omega)]
  refine St.ext4 ?_ rfl rfl rfl
  show max (max (max (max x.f y.f) y.n) z.f) z.n = max (max x.f (max (max y.f z.f) z.n)) y.n
  omega
theorem or_zero {x : St} (h : Good x) : x.or St.zero = x := by
 have f0 := h.f0
 have n0 := h.n0
 have s0 := h.s0
 rcases Int.lt_or_le 0 x.n with k | k
 ·rw [or_gt (y := St.zero) k]
  exact St.ext4 (by show max (max x.f 0) 0 = x.f; omega) rfl rfl rfl
 ·have e : x.n = 0 := by omega
  rw [or_eq (y := St.zero) h.f0 e]
  exact St.ext4 (by show max x.f 0 = x.f; omega) e.symm (by show max x.s 0 = x.s; omega) (elder_zero h.p0)
theorem zero_or {x : St} (h : Good x) : St.zero.or x = x := by rw [or_comm, or_zero h]
def kill (x : St) : St := if x.n ≤ x.f then ⟨x.f, 0, 0, 0⟩ else x
theorem kill_good {x : St} (h : Good x) : Good (kill x) := by
 unfold kill
 split
 ·exact ⟨h.f0, Int.le_refl _, Int.le_refl _, Int.le_refl _, fun _ => rfl, fun _ => rfl⟩
 ·exact h
theorem kill_kill {x : St} (h : Good x) : kill (kill x) = kill x := by
 unfold kill
 by_cases k : x.n ≤ x.f
 ·rw [if_pos k]
  have := h.f0
  exact if_pos this
 ·rw [if_neg k, if_neg k]
def big (l : List St) : St := l.foldr St.or St.zero
end Ros
end Go.Proofs.YtgphiggbajbmhaaGreatDoor
namespace Go.Proofs.YtgphiggbajbmhaaGreatDoor
namespace Ros
def vid (a i : Int) : Bool := decide (1 ≤ a ∧ a ≤ 12 ∧ 1 ≤ i ∧ i ≤ 1048576)
theorem vid_iff {a i : Int} : vid a i = true ↔ 1 ≤ a ∧ a ≤ 12 ∧ 1 ≤ i ∧ i ≤ 1048576 := by simp [vid]
def vidP (x : Id2) : Bool := vid x.1 x.2
def cnt (x : Mm) : Bool := vid x.1.1 x.1.2 && decide (1 ≤ x.2.1 ∧ x.2.1 ≤ 7)
theorem cnt_iff {x : Mm} : cnt x = true ↔ (1 ≤ x.1.1 ∧ x.1.1 ≤ 12 ∧ 1 ≤ x.1.2 ∧ x.1.2 ≤ 1048576) ∧ 1 ≤ x.2.1 ∧ x.2.1 ≤ 7 := by simp [cnt, vid]
abbrev Ls := List Mm × List Id2
def em (x : Mm) : St := ⟨if x.2.1 = 7 then x.1.2 else 0, x.1.2, x.2.1, max x.2.2 0⟩
def eg (g : Id2) : St := ⟨g.2, 0, 0, 0⟩
structure Fit (k : Nat) (x : St) : Prop where
 good : Good x
 n1 : x.n ≤ 1048576
 f1 : x.f ≤ 1048576
 s1 : x.s ≤ 7
 ns : x.n ≠ 0 → 1 ≤ x.s
 s7 : x.s = 7 → x.n ≤ x.f
 far : k = 0 ∨ 12 < k → x = St.zero
theorem fit_zero (k : Nat) : Fit k St.zero := ⟨good_zero, by decide, by decide, by decide, fun h => absurd rfl h, fun h => absurd h (by decide), fun _ => rfl⟩
theorem fit_em {k : Nat} {x : Mm} (h : cnt x = true) (hk : x.1.1 = (k : Int)) : Fit k (em x) := by
 obtain ⟨⟨a1, a2, a3, a4⟩, a5, a6⟩ := cnt_iff.1 h
 have e1 : (em x).n = x.1.2 := rfl
 have e2 : (em x).s = x.2.1 := rfl
 have e3 : (em x).p = max x.2.2 0 := rfl
 have e4 : (em x).f = if x.2.1 = 7 then x.1.2 else 0 := rfl
 refine ⟨⟨?_, by omega, by omega, by omega, fun e => by omega, fun e => by omega⟩, by omega, ?_, by omega, fun _ => by omega, fun e => ?_, fun e => by omega⟩
 ·rw [e4]; split <;> omega
 ·rw [e4]; split <;> omega
 ·rw [e4, e1, if_pos (e2 ▸ e)]; exact Int.le_refl _
theorem fit_eg {k : Nat} {x : Id2} (h : vidP x = true) (hk : x.1 = (k : Int)) : Fit k (eg x) := by
 obtain ⟨a1, a2, a3, a4⟩ := vid_iff.1 h
 exact ⟨⟨by show 0 ≤ x.2; omega, Int.le_refl _, Int.le_refl _, Int.le_refl _, fun _ => rfl, fun _ => rfl⟩, by show (0 : Int) ≤ 1048576; omega, a4, by show (0 : Int) ≤ 7; omega, fun e => absurd rfl e, fun e => by have : (0 : Int) = 7 := e; omega, fun e => by omega⟩
theorem fit_or {k : Nat} {x y : St} (hx : Fit k x) (hy : Fit k y) : Fit k (x.or y) := by
 obtain ⟨g1, a1, a2, a3, a4, a5, a6⟩ := hx
 obtain ⟨g2, b1, b2, b3, b4, b5, b6⟩ := hy
 have f1 := g1.f0
 have f2 := g2.f0
 have n1 := g1.n0
 have n2 := g2.n0
 refine ⟨or_good g1 g2, ?_, ?_, ?_, ?_, ?_, fun h => by rw [a6 h, b6 h]; rfl⟩
 all_goals rcases Int.lt_trichotomy x.n y.n with h | h | h
 ·rw [or_lt h]; exact b1
 ·rw [or_eq f1 h]; exact b1
 ·rw [or_gt h]; exact a1
 ·rw [or_lt h]; show max (max x.f y.f) x.n ≤ _; omega
 ·rw [or_eq f1 h]; show max x.f y.f ≤ _; omega
 ·rw [or_gt h]; show max (max x.f y.f) y.n ≤ _; omega
 ·rw [or_lt h]; exact b3
 ·rw [or_eq f1 h]; show max x.s y.s ≤ _; omega
 ·rw [or_gt h]; exact a3
 ·rw [or_lt h]; exact b4
 ·rw [or_eq f1 h]; intro e; have := b4 e; show 1 ≤ max x.s y.s; omega
 ·rw [or_gt h]; exact a4
 ·rw [or_lt h]; intro e; have := b5 e; show y.n ≤ max (max x.f y.f) x.n; omega
 ·rw [or_eq f1 h]
  intro e
  have e' : max x.s y.s = 7 := e
  show y.n ≤ max x.f y.f
  by_cases h7 : x.s = 7
  ·have := a5 h7; omega
  ·have := b5 (by omega); omega
 ·rw [or_gt h]; intro e; have := a5 e; show x.n ≤ max (max x.f y.f) y.n; omega
theorem fit_kill {k : Nat} {x : St} (h : Fit k x) : Fit k (kill x) := by
 by_cases e : x.n ≤ x.f
 ·have r : kill x = ⟨x.f, 0, 0, 0⟩ := if_pos e
  have g := kill_good h.good
  rw [r] at g ⊢
  refine ⟨g, by show (0 : Int) ≤ 1048576; omega, h.f1, by show (0 : Int) ≤ 7; omega, fun e => absurd rfl e, fun e => by have : (0 : Int) = 7 := e; omega, fun hk => ?_⟩
  rw [h.far hk]
  rfl
 ·have r : kill x = x := if_neg e
  rw [r]
  exact h
theorem kill_six {k : Nat} {x : St} (h : Fit k x) (hn : (kill x).n ≠ 0) : (kill x).s ≤ 6 ∧ 1 ≤ (kill x).s ∧ (kill x).f < (kill x).n := by
 unfold kill at *
 split at hn
 ·exact absurd rfl hn
 ·rename_i e
  rw [if_neg e]
  have h1 := h.s1
  have h2 := h.s7
  have h3 := h.ns hn
  refine ⟨?_, h3, by omega⟩
  rcases Int.lt_or_le x.s 7 with c | c
  ·omega
  ·exact absurd (h2 (by omega)) e
def bigM (k : Nat) (ms : List Mm) : St := big ((ms.filter fun x => decide (x.1.1 = (k : Int))).map em)
def bigG (k : Nat) (gs : List Id2) : St := big ((gs.filter fun x => decide (x.1 = (k : Int))).map eg)
theorem bigM_yes {k : Nat} {x : Mm} {l : List Mm} (h : x.1.1 = (k : Int)) : bigM k (x :: l) = (em x).or (bigM k l) := by simp [bigM, big, h]
theorem bigM_no {k : Nat} {x : Mm} {l : List Mm} (h : ¬ x.1.1 = (k : Int)) : bigM k (x :: l) = bigM k l := by simp [bigM, big, h]
theorem bigG_yes {k : Nat} {x : Id2} {l : List Id2} (h : x.1 = (k : Int)) : bigG k (x :: l) = (eg x).or (bigG k l) := by simp [bigG, big, h]
theorem bigG_no {k : Nat} {x : Id2} {l : List Id2} (h : ¬ x.1 = (k : Int)) : bigG k (x :: l) = bigG k l := by simp [bigG, big, h]
def AllC (ms : List Mm) : Prop := ∀ x ∈ ms, cnt x = true
def AllV (gs : List Id2) : Prop := ∀ x ∈ gs, vidP x = true
theorem allC_filter (l : List Mm) : AllC (l.filter cnt) := fun _ h => (List.mem_filter.1 h).2
theorem allV_filter (l : List Id2) : AllV (l.filter vidP) := fun _ h => (List.mem_filter.1 h).2
theorem fit_bigM {k : Nat} {ms : List Mm} (h : AllC ms) : Fit k (bigM k ms) := by
 induction ms with
 | nil => exact fit_zero k
 | cons x l ih =>
  have ih := ih fun y hy => h y (List.mem_cons_of_mem _ hy)
  by_cases e : x.1.1 = (k : Int)
  ·rw [bigM_yes e]; exact fit_or (fit_em (h x (List.mem_cons_self ..)) e) ih
  ·rw [bigM_no e]; exact ih
theorem fit_bigG {k : Nat} {gs : List Id2} (h : AllV gs) : Fit k (bigG k gs) ∧ (bigG k gs).n = 0 ∧ (bigG k gs).s = 0 ∧ (bigG k gs).p = 0 := by
 induction gs with
 | nil => exact ⟨fit_zero k, rfl, rfl, rfl⟩
 | cons x l ih =>
  obtain ⟨i1, i2, i3, i4⟩ := ih fun y hy => h y (List.mem_cons_of_mem _ hy)
  by_cases e : x.1 = (k : Int)
  ·have hf := fit_eg (h x (List.mem_cons_self ..)) e
   rw [bigG_yes e]
   refine ⟨fit_or hf i1, ?_⟩
   rw [or_eq hf.good.f0 (show (eg x).n = _ from i2.symm)]
   exact ⟨i2, by show max 0 (bigG k l).s = 0; omega, by show elder 0 (bigG k l).p = 0; rw [i4]; rfl⟩
  ·rw [bigG_no e]; exact ⟨i1, i2, i3, i4⟩
def raw (L : Ls) (k : Nat) : St := (bigM k (L.1.filter cnt)).or (bigG k (L.2.filter vidP))
theorem fit_raw (L : Ls) (k : Nat) : Fit k (raw L k) := fit_or (fit_bigM (allC_filter _)) (fit_bigG (allV_filter _)).1
theorem bigM_append {k : Nat} {l m : List Mm} (hl : AllC l) (hm : AllC m) : bigM k (l ++ m) = (bigM k l).or (bigM k m) := by
 induction l with
 | nil => exact (zero_or (fit_bigM hm).good).symm
 | cons x l ih =>
  have hl' : AllC l := fun y hy => hl y (List.mem_cons_of_mem _ hy)
  have ih := ih hl'
  rw [List.cons_append]
  by_cases e : x.1.1 = (k : Int)
  ·rw [bigM_yes e, bigM_yes e, ih, or_assoc (fit_em (k := k) (hl x (List.mem_cons_self ..)) e).good (fit_bigM hl').good (fit_bigM hm).good]
  ·rw [bigM_no e, bigM_no e, ih]
theorem bigG_append {k : Nat} {l m : List Id2} (hl : AllV l) (hm : AllV m) : bigG k (l ++ m) = (bigG k l).or (bigG k m) := by
 induction l with
 | nil => exact (zero_or (fit_bigG hm).1.good).symm
 | cons x l ih =>
  have hl' : AllV l := fun y hy => hl y (List.mem_cons_of_mem _ hy)
  have ih := ih hl'
  rw [List.cons_append]
  by_cases e : x.1 = (k : Int)
  ·rw [bigG_yes e, bigG_yes e, ih, or_assoc (fit_eg (k := k) (hl x (List.mem_cons_self ..)) e).good (fit_bigG hl').1.good (fit_bigG hm).1.good]
  ·rw [bigG_no e, bigG_no e, ih]
theorem or_four {a b c d : St} (ha : Good a) (hb : Good b) (hc : Good c) (hd : Good d) : (a.or b).or (c.or d) = (a.or c).or (b.or d) := by
 rw [or_assoc ha hb (or_good hc hd), or_assoc ha hc (or_good hb hd), ← or_assoc hb hc hd, or_comm b c, or_assoc hc hb hd]
theorem raw_append (m n : List Mm) (f g : List Id2) (k : Nat) : raw (m ++ n, f ++ g) k = (raw (m, f) k).or (raw (n, g) k) := by
 unfold raw
 simp only [List.filter_append]
 rw [bigM_append (allC_filter _) (allC_filter _), bigG_append (allV_filter _) (allV_filter _)]
 exact or_four (fit_bigM (allC_filter _)).good (fit_bigM (allC_filter _)).good (fit_bigG (allV_filter _)).1.good (fit_bigG (allV_filter _)).1.good
def outM (S : Nat → St) : List Mm := (List.range 13).filterMap fun k => if (S k).n = 0 then none else some (((k : Int), (S k).n), (S k).s, (S k).p)
def outF (S : Nat → St) : List Id2 := (List.range 13).filterMap fun k => if (S k).f ≤ 0 then none else some ((k : Int), (S k).f)
def out (S : Nat → St) : Ls := (outM S, outF S)
def joinL (a b : Ls) : Ls := out fun k => kill ((raw a k).or (raw b k))
theorem filterMap_congr_range {α : Type} {f g : Nat → Option α} : ∀ (n : Nat), (∀ k, k < n → f k = g k) → (List.range n).filterMap f = (List.range n).filterMap g
 | 0, _ => rfl
 | n + 1, h => by
  rw [List.range_succ, List.filterMap_append, List.filterMap_append, filterMap_congr_range n fun k hk => h k (by omega)]
  simp only [List.filterMap_cons, List.filterMap_nil, h n (by omega)]
def Norm (S : Nat → St) : Prop := ∀ k, Fit k (S k) ∧ kill (S k) = S k
theorem norm_join (a b : Ls) : Norm fun k => kill ((raw a k).or (raw b k)) := fun k =>
 have h := fit_or (fit_raw a k) (fit_raw b k)
 ⟨fit_kill h, kill_kill h.good⟩
end Ros
end Go.Proofs.YtgphiggbajbmhaaGreatDoor
namespace Go.Proofs.YtgphiggbajbmhaaGreatDoor
namespace Ros
def raise (L : Nat → Int) (x : Id2) : Nat → Int := fun k => if (k : Int) = x.1 then max (L k) x.2 else L k
def newest (ms : List Mm) : Nat → Int := ms.foldl (fun L x => raise L x.1) fun _ => 0
def isOld (nw : Nat → Int) (x : Mm) : Bool := decide (x.2.1 = 7) || decide (x.1.2 < nw x.1.1.toNat)
def raiseIf (nw : Nat → Int) (L : Nat → Int) (x : Mm) : Nat → Int := if isOld nw x = true then raise L x.1 else L
def floors (ms : List Mm) (gs : List Id2) : Nat → Int := ms.foldl (raiseIf (newest ms)) (gs.foldl raise fun _ => 0)
def putM (A : Nat → Mm) (x : Mm) : Nat → Mm := fun k => if (k : Int) = x.1.1 then (x.1, max (A k).2.1 x.2.1, elder (A k).2.2 x.2.2) else A k
def byAddr (ms : List Mm) : Nat → Mm := ms.foldl putM fun _ => ((0, 0), 0, 0)
def noM (x : Mm) : Bool := decide (x.2.1 = 0)
def united (ms : List Mm) : List Mm := ((List.range 13).map (byAddr ms)).filter fun x => !noM x
def listF (L : Nat → Int) : List Id2 := (List.range 13).filterMap fun k => if 0 < L k then some ((k : Int), L k) else none
def goneM (L : Nat → Int) (x : Mm) : Bool := decide (x.1.2 ≤ L x.1.1.toNat)
def joinP (m : List Mm) (f : List Id2) (n : List Mm) (g : List Id2) : Ls :=
 (united (((m ++ n).filter cnt).filter fun x => !goneM (floors ((m ++ n).filter cnt) ((f ++ g).filter vidP)) x), listF (floors ((m ++ n).filter cnt) ((f ++ g).filter vidP)))
theorem raise_yes {L : Nat → Int} {x : Id2} {k : Nat} (h : x.1 = (k : Int)) : raise L x k = max (L k) x.2 := if_pos h.symm
theorem raise_no {L : Nat → Int} {x : Id2} {k : Nat} (h : ¬ x.1 = (k : Int)) : raise L x k = L k := if_neg fun e => h e.symm
theorem raise_ge (L : Nat → Int) (x : Id2) (k : Nat) : L k ≤ raise L x k := by
 by_cases h : x.1 = (k : Int)
 ·rw [raise_yes h]; omega
 ·rw [raise_no h]; exact Int.le_refl _
theorem newest_at (k : Nat) : ∀ (ms : List Mm) (L : Nat → Int), 0 ≤ L k → (ms.foldl (fun L x => raise L x.1) L) k = max (L k) (bigM k ms).n
 | [], L, h => by show L k = max (L k) 0; omega
 | x :: l, L, h => by
  have hr : 0 ≤ raise L x.1 k := by unfold raise; split <;> omega
  rw [List.foldl_cons, newest_at k l _ hr]
  by_cases e : x.1.1 = (k : Int)
  ·rw [bigM_yes e, or_n]
   unfold raise
   rw [if_pos e.symm]
   show _ = max (L k) (max x.1.2 _)
   omega
  ·rw [bigM_no e]
   unfold raise
   rw [if_neg (fun h => e h.symm)]
theorem given_at (k : Nat) : ∀ (gs : List Id2) (L : Nat → Int), AllV gs → 0 ≤ L k → (gs.foldl raise L) k = max (L k) (bigG k gs).f
 | [], L, _, h => by show L k = max (L k) 0; omega
 | x :: l, L, hv, h => by
  have hr : 0 ≤ raise L x k := by unfold raise; split <;> omega
  have hl : AllV l := fun y hy => hv y (List.mem_cons_of_mem _ hy)
  rw [List.foldl_cons, given_at k l _ hl hr]
  by_cases e : x.1 = (k : Int)
  ·have hf := fit_eg (h := hv x (List.mem_cons_self ..)) e
   rw [bigG_yes e, or_eq hf.good.f0 (show (eg x).n = _ from (fit_bigG hl).2.1.symm)]
   unfold raise
   rw [if_pos e.symm]
   show _ = max (L k) (max x.2 _)
   omega
  ·rw [bigG_no e]
   unfold raise
   rw [if_neg (fun h => e h.symm)]
def under (k : Nat) (n : Int) : List Mm → Int
 | [] => 0
 | x :: l => if x.1.1 = (k : Int) ∧ (x.2.1 = 7 ∨ x.1.2 < n) then max x.1.2 (under k n l) else under k n l
theorem under_is (k : Nat) : ∀ (ms : List Mm), AllC ms → (bigM k ms).f ≤ (bigM k ms).n ∧ under k (bigM k ms).n ms = (bigM k ms).f ∧ ∀ n, (bigM k ms).n < n → under k n ms = (bigM k ms).n
 | [], _ => ⟨Int.le_refl _, rfl, fun _ _ => rfl⟩
 | x :: l, h => by
  have hl : AllC l := fun y hy => h y (List.mem_cons_of_mem _ hy)
  obtain ⟨i1, i2, i3⟩ := under_is k l hl
  have g := (fit_bigM (k := k) hl).good
  have f0 := g.f0
  have n0 := g.n0
  by_cases e : x.1.1 = (k : Int)
  ·have hx := fit_em (h x (List.mem_cons_self ..)) e
   have e0 : (em x).f = if x.2.1 = 7 then x.1.2 else 0 := rfl
   have xn : (em x).n = x.1.2 := rfl
   obtain ⟨⟨_, _, x1, _⟩, _⟩ := cnt_iff.1 (h x (List.mem_cons_self ..))
   rw [bigM_yes e]
   rcases Int.lt_trichotomy x.1.2 (bigM k l).n with c | c | c
   ·rw [or_lt (x := em x) c]
    simp only [under, e, true_and]
    refine ⟨?_, ?_, fun n hn => ?_⟩
    ·rw [xn, e0]; split <;> omega
    ·rw [if_pos (.inr c), i2, xn, e0]; split <;> omega
    ·rw [if_pos (.inr (by omega)), i3 n hn]; omega
   ·rw [or_eq (x := em x) hx.good.f0 c]
    simp only [under, e, true_and]
    refine ⟨?_, ?_, fun n hn => ?_⟩
    ·rw [e0]; split <;> omega
    ·rw [i2, e0]
     by_cases s7 : x.2.1 = 7
     ·rw [if_pos (.inl s7), if_pos s7]
     ·rw [if_neg (by omega), if_neg s7]; omega
    ·rw [if_pos (.inr (by omega)), i3 n hn]; omega
   ·rw [or_gt (x := em x) c]
    simp only [under, e, true_and, xn]
    refine ⟨?_, ?_, fun n hn => ?_⟩
    ·rw [e0]; split <;> omega
    ·rw [i3 _ c, e0]
     by_cases s7 : x.2.1 = 7
     ·rw [if_pos (.inl s7), if_pos s7]; omega
     ·rw [if_neg (by omega), if_neg s7]; omega
    ·rw [if_pos (.inr (by omega)), i3 n (by omega)]; omega
  ·rw [bigM_no e]
   refine ⟨i1, ?_, fun n hn => ?_⟩
   ·rw [under, if_neg (fun h => e h.1)]; exact i2
   ·rw [under, if_neg (fun h => e h.1)]; exact i3 n hn
theorem under_at (k : Nat) (nw : Nat → Int) : ∀ (ms : List Mm) (L : Nat → Int), 0 ≤ L k → (ms.foldl (raiseIf nw) L) k = max (L k) (under k (nw k) ms)
 | [], L, h => by show L k = max (L k) 0; omega
 | x :: l, L, h => by
  have hr : 0 ≤ raiseIf nw L x k := by
   have := raise_ge L x.1 k
   unfold raiseIf
   split <;> omega
  rw [List.foldl_cons, under_at k nw l _ hr, under]
  by_cases e : x.1.1 = (k : Int)
  ·have ek : x.1.1.toNat = k := by omega
   by_cases o : x.2.1 = 7 ∨ x.1.2 < nw k
   ·have ho : isOld nw x = true := by unfold isOld; rw [ek]; simpa using o
    rw [if_pos ⟨e, o⟩]
    unfold raiseIf
    rw [if_pos ho, raise_yes e]
    omega
   ·have ho : ¬ isOld nw x = true := by unfold isOld; rw [ek]; simpa using o
    rw [if_neg (fun h => o h.2)]
    unfold raiseIf
    rw [if_neg ho]
  ·rw [if_neg (fun h => e h.1)]
   unfold raiseIf
   split
   ·rw [raise_no e]
   ·rfl
theorem bigM_bigG {k : Nat} {ms : List Mm} {gs : List Id2} (hm : AllC ms) (hg : AllV gs) : (bigM k ms).or (bigG k gs) = ⟨max (bigM k ms).f (bigG k gs).f, (bigM k ms).n, (bigM k ms).s, (bigM k ms).p⟩ := by
 obtain ⟨g1, g2, g3, g4⟩ := fit_bigG (k := k) hg
 have a := (fit_bigM (k := k) hm).good
 have n0 := a.n0
 have f0 := a.f0
 have s0 := a.s0
 have p0 := a.p0
 rcases Int.lt_or_le 0 (bigM k ms).n with c | c
 ·rw [or_gt (by rw [g2]; exact c)]
  refine St.ext4 ?_ rfl rfl rfl
  show max (max (bigM k ms).f (bigG k gs).f) (bigG k gs).n = max (bigM k ms).f (bigG k gs).f
  rw [g2]
  omega
 ·have e : (bigM k ms).n = 0 := by omega
  rw [or_eq f0 (by rw [g2]; exact e)]
  refine St.ext4 rfl (by show (bigG k gs).n = _; rw [g2, e]) ?_ ?_
  ·show max _ (bigG k gs).s = _; rw [g3]; show max (bigM k ms).s 0 = (bigM k ms).s; omega
  ·show elder _ (bigG k gs).p = _; rw [g4]; exact elder_zero p0
theorem floors_at {ms : List Mm} {gs : List Id2} (hm : AllC ms) (hg : AllV gs) (k : Nat) : floors ms gs k = ((bigM k ms).or (bigG k gs)).f ∧ newest ms k = ((bigM k ms).or (bigG k gs)).n := by
 have hn : newest ms k = (bigM k ms).n := by
  unfold newest
  rw [newest_at k ms _ (Int.le_refl _)]
  have := (fit_bigM (k := k) hm).good.n0
  show max 0 _ = _
  omega
 have g0 := (fit_bigG (k := k) hg).1.good.f0
 have f0 := (fit_bigM (k := k) hm).good.f0
 have hg' : (gs.foldl raise fun _ => 0) k = (bigG k gs).f := by
  rw [given_at k gs _ hg (Int.le_refl _)]
  show max 0 _ = _
  omega
 rw [bigM_bigG hm hg]
 refine ⟨?_, hn⟩
 unfold floors
 rw [under_at k _ ms _ (by rw [hg']; exact g0), hg', hn, (under_is k ms hm).2.1]
 show _ = max (bigM k ms).f (bigG k gs).f
 omega
def pickS (k : Nat) (n : Int) : List Mm → Int
 | [] => 0
 | x :: l => if x.1.1 = (k : Int) ∧ x.1.2 = n then max x.2.1 (pickS k n l) else pickS k n l
def pickP (k : Nat) (n : Int) : List Mm → Int
 | [] => 0
 | x :: l => if x.1.1 = (k : Int) ∧ x.1.2 = n then elder (max x.2.2 0) (pickP k n l) else pickP k n l
theorem pick_is (k : Nat) : ∀ (ms : List Mm), AllC ms → (pickS k (bigM k ms).n ms = (bigM k ms).s ∧ pickP k (bigM k ms).n ms = (bigM k ms).p) ∧ ∀ n, (bigM k ms).n < n → pickS k n ms = 0 ∧ pickP k n ms = 0
 | [], _ => ⟨⟨rfl, rfl⟩, fun _ _ => ⟨rfl, rfl⟩⟩
 | x :: l, h => by
  have hl : AllC l := fun y hy => h y (List.mem_cons_of_mem _ hy)
  obtain ⟨⟨i1, i2⟩, i3⟩ := pick_is k l hl
  have g := (fit_bigM (k := k) hl).good
  by_cases e : x.1.1 = (k : Int)
  ·have hx := fit_em (h x (List.mem_cons_self ..)) e
   have xn : (em x).n = x.1.2 := rfl
   have xs : (em x).s = x.2.1 := rfl
   have xp : (em x).p = max x.2.2 0 := rfl
   have s0 := hx.good.s0
   rw [bigM_yes e]
   rcases Int.lt_trichotomy x.1.2 (bigM k l).n with c | c | c
   ·rw [or_lt (x := em x) c]
    simp only [pickS, pickP, e, true_and]
    refine ⟨⟨by rw [if_neg (by omega)]; exact i1, by rw [if_neg (by omega)]; exact i2⟩, fun n hn => ?_⟩
    rw [if_neg (by omega), if_neg (by omega)]
    exact i3 n hn
   ·rw [or_eq (x := em x) hx.good.f0 c]
    simp only [pickS, pickP, e, true_and]
    refine ⟨⟨by rw [if_pos c, i1, xs], by rw [if_pos c, i2, xp]⟩, fun n hn => ?_⟩
    rw [if_neg (by omega), if_neg (by omega)]
    exact i3 n hn
   ·rw [or_gt (x := em x) c]
    simp only [pickS, pickP, e, true_and, xn]
    obtain ⟨j1, j2⟩ := i3 _ c
    refine ⟨⟨by rw [if_pos trivial, j1, xs]; omega, by rw [if_pos trivial, j2, xp]; exact elder_zero (by omega)⟩, fun n hn => ?_⟩
    rw [if_neg (by omega), if_neg (by omega)]
    exact i3 n (by omega)
  ·rw [bigM_no e]
   simp only [pickS, pickP, e, false_and, if_false]
   exact ⟨⟨i1, i2⟩, i3⟩
theorem put_at (k : Nat) (n : Int) (al : Mm → Bool) : ∀ (ms : List Mm) (A : Nat → Mm), (∀ x ∈ ms, x.1.1 = (k : Int) → (al x = true ↔ x.1.2 = n)) → 0 ≤ (A k).2.1 → 0 ≤ (A k).2.2 →
  ((ms.filter al).foldl putM A) k = (if ms.any (fun x => decide (x.1.1 = (k : Int) ∧ x.1.2 = n)) then ((k : Int), n) else (A k).1, max (A k).2.1 (pickS k n ms), elder (A k).2.2 (pickP k n ms))
 | [], A, _, hs, hp => by
  show A k = ((A k).1, max (A k).2.1 0, elder (A k).2.2 0)
  rw [elder_zero hp, Int.max_eq_left hs]
 | x :: l, A, h, hs, hp => by
  have hl := fun y hy => h y (List.mem_cons_of_mem x hy)
  have hx := h x (List.mem_cons_self ..)
  by_cases e : x.1.1 = (k : Int)
  ·by_cases c : x.1.2 = n
   ·have hal := (hx e).2 c
    have hk : putM A x k = (x.1, max (A k).2.1 x.2.1, elder (A k).2.2 x.2.2) := by unfold putM; rw [if_pos e.symm]
    have hid : x.1 = ((k : Int), n) := by rw [← e, ← c]
    rw [List.filter_cons_of_pos hal, List.foldl_cons, put_at k n al l (putM A x) hl (by rw [hk]; show 0 ≤ max _ _; omega) (by rw [hk]; exact elder_nn _ _), hk]
    have ha : (x :: l).any (fun x => decide (x.1.1 = (k : Int) ∧ x.1.2 = n)) = true := by simp [e, c]
    rw [ha]
    simp only [pickS, pickP, if_pos (And.intro e c)]
    refine Prod.ext ?_ (Prod.ext ?_ ?_)
    ·show (if _ then _ else x.1) = ((k : Int), n)
     split
     ·rfl
     ·exact hid
    ·show max (max _ _) _ = max _ (max _ _)
     omega
    ·show elder (elder _ _) _ = elder _ (elder _ _)
     rw [elder_assoc]
     congr 1
     rw [elder_comm (max x.2.2 0), elder_max, elder_comm]
   ·have hal : ¬ al x = true := fun h => c ((hx e).1 h)
    rw [List.filter_cons_of_neg hal, put_at k n al l A hl hs hp]
    have ha : (x :: l).any (fun x => decide (x.1.1 = (k : Int) ∧ x.1.2 = n)) = l.any (fun x => decide (x.1.1 = (k : Int) ∧ x.1.2 = n)) := by simp [c]
    rw [ha]
    simp only [pickS, pickP, if_neg (fun h : x.1.1 = (k : Int) ∧ x.1.2 = n => c h.2)]
  ·have ha : (x :: l).any (fun x => decide (x.1.1 = (k : Int) ∧ x.1.2 = n)) = l.any (fun x => decide (x.1.1 = (k : Int) ∧ x.1.2 = n)) := by simp [e]
   have hk : putM A x k = A k := by unfold putM; rw [if_neg (fun h => e h.symm)]
   rw [ha]
   simp only [pickS, pickP, if_neg (fun h : x.1.1 = (k : Int) ∧ x.1.2 = n => e h.1)]
   by_cases c : al x = true
   ·rw [List.filter_cons_of_pos c, List.foldl_cons, put_at k n al l (putM A x) hl (by rw [hk]; exact hs) (by rw [hk]; exact hp), hk]
   ·rw [List.filter_cons_of_neg c, put_at k n al l A hl hs hp]
theorem inc_le {k : Nat} : ∀ {ms : List Mm} {x : Mm}, x ∈ ms → x.1.1 = (k : Int) → x.1.2 ≤ (bigM k ms).n
 | y :: l, x, h, e => by
  rcases List.mem_cons.1 h with rfl | h
  ·rw [bigM_yes e, or_n]; show x.1.2 ≤ max x.1.2 _; omega
  ·have := inc_le h e
   by_cases e2 : y.1.1 = (k : Int)
   ·rw [bigM_yes e2, or_n]; omega
   ·rw [bigM_no e2]; exact this
theorem under_le {k : Nat} {n : Int} : ∀ {ms : List Mm} {x : Mm}, x ∈ ms → x.1.1 = (k : Int) → x.1.2 < n → x.1.2 ≤ under k n ms
 | y :: l, x, h, e, c => by
  rw [under]
  rcases List.mem_cons.1 h with rfl | h
  ·rw [if_pos ⟨e, .inr c⟩]; omega
  ·have := under_le h e c
   split <;> omega
theorem pickS_zero {k : Nat} {n : Int} : ∀ {ms : List Mm}, ms.any (fun x => decide (x.1.1 = (k : Int) ∧ x.1.2 = n)) = false → pickS k n ms = 0 ∧ pickP k n ms = 0
 | [], _ => ⟨rfl, rfl⟩
 | x :: l, h => by
  rw [List.any_cons, Bool.or_eq_false_iff] at h
  have c := of_decide_eq_false h.1
  rw [pickS, pickP, if_neg c, if_neg c]
  exact pickS_zero h.2
theorem byAddr_at {ms : List Mm} {gs : List Id2} (hm : AllC ms) (hg : AllV gs) (k : Nat) :
  byAddr (ms.filter fun x => !goneM (floors ms gs) x) k = if (kill ((bigM k ms).or (bigG k gs))).n = 0 then ((0, 0), 0, 0) else (((k : Int), (kill ((bigM k ms).or (bigG k gs))).n), (kill ((bigM k ms).or (bigG k gs))).s, (kill ((bigM k ms).or (bigG k gs))).p) := by
 obtain ⟨hf, hn⟩ := floors_at hm hg k
 have hB := bigM_bigG (k := k) hm hg
 have fB := fit_bigM (k := k) hm
 have n0 := fB.good.n0
 have s0 := fB.good.s0
 have p0 := fB.good.p0
 have hu := under_is k ms hm
 generalize hR : (bigM k ms).or (bigG k gs) = R at *
 have hRn : R.n = (bigM k ms).n := by rw [hB]
 have hRs : R.s = (bigM k ms).s := by rw [hB]
 have hRp : R.p = (bigM k ms).p := by rw [hB]
 have hRf : (bigM k ms).f ≤ R.f := by rw [hB]; show _ ≤ max _ _; omega
 have R0 : 0 ≤ R.f := by have := fB.good.f0; omega
 unfold byAddr
 by_cases c : R.n ≤ R.f
 ·have r : kill R = ⟨R.f, 0, 0, 0⟩ := if_pos c
  rw [r, if_pos rfl]
  have e : ms.any (fun x => decide (x.1.1 = (k : Int) ∧ x.1.2 = R.n + 1)) = false := by
   rw [List.any_eq_false]
   intro x hx
   simp only [decide_eq_true_eq]
   rintro ⟨e1, e2⟩
   have := inc_le hx e1
   omega
  rw [put_at k (R.n + 1) _ ms _ (fun x hx e1 => by
   have h1 := inc_le hx e1
   have ek : x.1.1.toNat = k := by omega
   unfold goneM
   rw [ek, hf]
   simp only [Bool.not_eq_true', decide_eq_false_iff_not]
   constructor <;> intro h <;> omega) (Int.le_refl _) (Int.le_refl _), e, (pickS_zero e).1, (pickS_zero e).2]
  rfl
 ·have r : kill R = R := if_neg c
  rw [r]
  rw [put_at k R.n _ ms _ (fun x hx e1 => by
   have h1 := inc_le hx e1
   have ek : x.1.1.toNat = k := by omega
   unfold goneM
   rw [ek, hf]
   simp only [Bool.not_eq_true', decide_eq_false_iff_not]
   constructor
   ·intro h
    rcases Int.lt_or_le x.1.2 (bigM k ms).n with d | d
    ·have := under_le hx e1 d
     rw [hu.2.1] at this
     omega
    ·omega
   ·intro h; omega) (Int.le_refl _) (Int.le_refl _)]
  have hp := (pick_is k ms hm).1
  rw [hRn, hp.1, hp.2]
  by_cases z : (bigM k ms).n = 0
  ·omega
  ·rw [if_neg z]
   have h1 := fB.ns z
   have ha : ms.any (fun x => decide (x.1.1 = (k : Int) ∧ x.1.2 = (bigM k ms).n)) = true := by
    rcases h : ms.any (fun x => decide (x.1.1 = (k : Int) ∧ x.1.2 = (bigM k ms).n)) with _ | _
    ·have := (pickS_zero h).1
     rw [hp.1] at this
     omega
    ·rfl
   rw [ha, hRs, hRp]
   refine Prod.ext rfl (Prod.ext ?_ ?_)
   ·show max 0 (bigM k ms).s = (bigM k ms).s; omega
   ·show elder 0 (bigM k ms).p = (bigM k ms).p; rw [zero_elder]; omega
theorem filter_map_range {α : Type} {g : Nat → α} {p : α → Bool} {h : Nat → Option α} (e : ∀ k, h k = if p (g k) = true then some (g k) else none) : ∀ n, ((List.range n).map g).filter p = (List.range n).filterMap h
 | 0 => rfl
 | n + 1 => by
  rw [List.range_succ, List.map_append, List.filter_append, List.filterMap_append, filter_map_range e n]
  congr 1
  simp only [List.map_cons, List.map_nil, List.filterMap_cons, List.filterMap_nil, e n]
  by_cases c : p (g n) = true
  ·simp [c]
  ·simp [c]
theorem joinP_is (m : List Mm) (f : List Id2) (n : List Mm) (g : List Id2) : joinP m f n g = joinL (m, f) (n, g) := by
 have hm := allC_filter (m ++ n)
 have hg := allV_filter (f ++ g)
 have hraw : ∀ k, (bigM k ((m ++ n).filter cnt)).or (bigG k ((f ++ g).filter vidP)) = (raw (m, f) k).or (raw (n, g) k) := fun k => raw_append m n f g k
 unfold joinP joinL out
 refine Prod.ext ?_ ?_
 ·simp only []
  unfold united outM
  refine filter_map_range (fun k => ?_) 13
  rw [byAddr_at hm hg k, hraw k]
  have hk := kill_six (fit_or (fit_raw (m, f) k) (fit_raw (n, g) k))
  by_cases z : (kill ((raw (m, f) k).or (raw (n, g) k))).n = 0
  ·rw [if_pos z, if_pos z]; rfl
  ·have := (hk z).2.1
   rw [if_neg z, if_neg z, if_pos]
   simp [noM]
   omega
 ·simp only []
  unfold listF outF
  refine filterMap_congr_range 13 fun k _ => ?_
  have hkf : ∀ x : St, (kill x).f = x.f := fun x => by unfold kill; split <;> rfl
  rw [(floors_at hm hg k).1, hraw k, hkf]
  by_cases z : ((raw (m, f) k).or (raw (n, g) k)).f ≤ 0
  ·rw [if_pos z, if_neg (by omega)]
  ·rw [if_neg z, if_pos (by omega)]
end Ros
end Go.Proofs.YtgphiggbajbmhaaGreatDoor
namespace Go.Proofs.YtgphiggbajbmhaaGreatDoor
open Go.RowKit Ros
theorem may_anyROS (a i : Int) (w : World) :
  Calls Tryz.prog 34 #[.agg #[.int .i64 a, .int .i64 i]] w fun e w' => e = .returned (.bool (vid a i)) ∧ Below w.heap.size w w' := by
 by_cases h1 : 1 ≤ a
 ·by_cases h2 : a ≤ 12
  ·by_cases h3 : 1 ≤ i
   ·by_cases h4 : i ≤ 1048576
    ·have h5 := Lib.hid (show vid a i = true by simp [vid]; omega)
     go_enter Tryz.func34, Tryz.ntmps34
     go_wp2_with fail
     go_ret
     exact ⟨by rw [h5.out]; rfl, (Below.refl _ _).alloc (Nat.le_refl _) _⟩
    ·have h5 := Lib.hid (show vid a i = false by simp [vid]; omega)
     go_enter Tryz.func34, Tryz.ntmps34
     go_wp2_with fail
     go_ret
     exact ⟨by rw [h5.out]; rfl, (Below.refl _ _).alloc (Nat.le_refl _) _⟩
   ·have h5 := Lib.hid (show vid a i = false by simp [vid]; omega)
    go_enter Tryz.func34, Tryz.ntmps34
    go_wp2_with fail
    go_ret
    exact ⟨by rw [h5.out]; rfl, (Below.refl _ _).alloc (Nat.le_refl _) _⟩
  ·have h5 := Lib.hid (show vid a i = false by simp [vid]; omega)
   go_enter Tryz.func34, Tryz.ntmps34
   go_wp2_with fail
   go_ret
   exact ⟨by rw [h5.out]; rfl, (Below.refl _ _).alloc (Nat.le_refl _) _⟩
 ·have h5 := Lib.hid (show vid a i = false by simp [vid]; omega)
  go_enter Tryz.func34, Tryz.ntmps34
  go_wp2_with fail
  go_ret
  exact ⟨by rw [h5.out]; rfl, (Below.refl _ _).alloc (Nat.le_refl _) _⟩
end Go.Proofs.YtgphiggbajbmhaaGreatDoor
