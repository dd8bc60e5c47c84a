/-
  Carried over and put together: contracts of this program's functions, and plain facts. No statement is proved in this text.
-/
import Derived.Test.YtjlnnmjhbccdoaaGreatRows
import Derived.WalkKit
import Derived.WalkSpells
import Derived.WalkLawsBesides
import Derived.OwnWalk
import Derived.Deep.AppendLies
import Derived.Outline
import Derived.IntWalk
import Derived.Deep.LoopGhost
import Derived.Handy
import Derived.Lib.Hide
import Derived.Deep.RegionWith
import Derived.Deep.RegionHeld3
import Derived.BigQuiet
import Derived.Deep.QuietTactic
import Derived.Laws.AppendOwnNone
import Derived.Laws.IdiomCopy
import Derived.Laws.NewBlocks
import Derived.Below
import Derived.Deep.Slices
import Derived.Lib.SliceRun
import Derived.Lib.SlKept
import Derived.BigRegion
import Derived.Test.YtjlnnmjhbccdoaaGreatO00
import Derived.Test.YtjlnnmjhbccdoaaGreatO01
import Derived.Test.YtjlnnmjhbccdoaaGreatO02
import Derived.Test.YtjlnnmjhbccdoaaGreatO03
import Derived.Test.YtjlnnmjhbccdoaaGreatO04
import Derived.Test.YtjlnnmjhbccdoaaGreatO05
set_option maxRecDepth 20000
namespace Go.Proofs.YtjlnnmjhbccdoaaGreat
namespace Ros
def raise (L : Nat → Int) (x : Id2) : Nat → Int := fun k => if (k : Int) = x.1 then max (L k) x.2 else L k
def newest (ms : List Mm) : Nat → Int := ms.foldl (fun L x => raise L x.1) fun _ => 0
def isOld (nw : Nat → Int) (x : Mm) : Bool := decide (x.2.1 = 7) || decide (x.1.2 < nw x.1.1.toNat)
def raiseIf (nw : Nat → Int) (L : Nat → Int) (x : Mm) : Nat → Int := if isOld nw x = true then raise L x.1 else L
def floors (ms : List Mm) (gs : List Id2) : Nat → Int := ms.foldl (raiseIf (newest ms)) (gs.foldl raise fun _ => 0)
def putM (A : Nat → Mm) (x : Mm) : Nat → Mm := fun k => if (k : Int) = x.1.1 then (x.1, max (A k).2.1 x.2.1, elder (A k).2.2 x.2.2) else A k
def byAddr (ms : List Mm) : Nat → Mm := ms.foldl putM fun _ => ((0, 0), 0, 0)
def noM (x : Mm) : Bool := decide (x.2.1 = 0)
def united (ms : List Mm) : List Mm := ((List.range 13).map (byAddr ms)).filter fun x => !noM x
def listF (L : Nat → Int) : List Id2 := (List.range 13).filterMap fun k => if 0 < L k then some ((k : Int), L k) else none
def goneM (L : Nat → Int) (x : Mm) : Bool := decide (x.1.2 ≤ L x.1.1.toNat)
def joinP (m : List Mm) (f : List Id2) (n : List Mm) (g : List Id2) : Ls :=
 (united (((m ++ n).filter cnt).filter fun x => !goneM (floors ((m ++ n).filter cnt) ((f ++ g).filter vidP)) x), listF (floors ((m ++ n).filter cnt) ((f ++ g).filter vidP)))
theorem raise_yes {L : Nat → Int} {x : Id2} {k : Nat} (h : x.1 = (k : Int)) : raise L x k = max (L k) x.2 := if_pos h.symm
theorem raise_no {L : Nat → Int} {x : Id2} {k : Nat} (h : ¬ x.1 = (k : Int)) : raise L x k = L k := if_neg fun e => h e.symm
theorem raise_ge (L : Nat → Int) (x : Id2) (k : Nat) : L k ≤ raise L x k := by
 by_cases h : x.1 = (k : Int)
 ·rw [raise_yes h]; omega
 ·rw [raise_no h]; exact Int.le_refl _
theorem newest_at (k : Nat) : ∀ (ms : List Mm) (L : Nat → Int), 0 ≤ L k → (ms.foldl (fun L x => raise L x.1) L) k = max (L k) (bigM k ms).n
 | [], L, h => by show L k = max (L k) 0; omega
 | x :: l, L, h => by
  have hr : 0 ≤ raise L x.1 k := by unfold raise; split <;> omega
  rw [List.foldl_cons, newest_at k l _ hr]
  by_cases e : x.1.1 = (k : Int)
  ·rw [bigM_yes e, or_n]
   unfold raise
   rw [if_pos e.symm]
   show _ = max (L k) (max x.1.2 _)
   omega
  ·rw [bigM_no e]
   unfold raise
   rw [if_neg (fun h => e h.symm)]
theorem given_at (k : Nat) : ∀ (gs : List Id2) (L : Nat → Int), AllV gs → 0 ≤ L k → (gs.foldl raise L) k = max (L k) (bigG k gs).f
 | [], L, _, h => by show L k = max (L k) 0; omega
 | x :: l, L, hv, h => by
  have hr : 0 ≤ raise L x k := by unfold raise; split <;> omega
  have hl : AllV l := fun y hy => hv y (List.mem_cons_of_mem _ hy)
  rw [List.foldl_cons, given_at k l _ hl hr]
  by_cases e : x.1 = (k : Int)
  ·have hf := fit_eg (h := hv x (List.mem_cons_self ..)) e
   rw [bigG_yes e, or_eq hf.good.f0 (show (eg x).n = _ from (fit_bigG hl).2.1.symm)]
   unfold raise
   rw [if_pos e.symm]
   show _ = max (L k) (max x.2 _)
   omega
  ·rw [bigG_no e]
   unfold raise
   rw [if_neg (fun h => e h.symm)]
def under (k : Nat) (n : Int) : List Mm → Int
 | [] => 0
 | x :: l => if x.1.1 = (k : Int) ∧ (x.2.1 = 7 ∨ x.1.2 < n) then max x.1.2 (under k n l) else under k n l
theorem under_is (k : Nat) : ∀ (ms : List Mm), AllC ms → (bigM k ms).f ≤ (bigM k ms).n ∧ under k (bigM k ms).n ms = (bigM k ms).f ∧ ∀ n, (bigM k ms).n < n → under k n ms = (bigM k ms).n
 | [], _ => ⟨Int.le_refl _, rfl, fun _ _ => rfl⟩
 | x :: l, h => by
  have hl : AllC l := fun y hy => h y (List.mem_cons_of_mem _ hy)
  obtain ⟨i1, i2, i3⟩ := under_is k l hl
  have g := (fit_bigM (k := k) hl).good
  have f0 := g.f0
  have n0 := g.n0
  by_cases e : x.1.1 = (k : Int)
  ·have hx := fit_em (h x (List.mem_cons_self ..)) e
   have e0 : (em x).f = if x.2.1 = 7 then x.1.2 else 0 := rfl
   have xn : (em x).n = x.1.2 := rfl
   obtain ⟨⟨_, _, x1, _⟩, _⟩ := cnt_iff.1 (h x (List.mem_cons_self ..))
   rw [bigM_yes e]
   rcases Int.lt_trichotomy x.1.2 (bigM k l).n with c | c | c
   ·rw [or_lt (x := em x) c]
    simp only [under, e, true_and]
    refine ⟨?_, ?_, fun n hn => ?_⟩
    ·rw [xn, e0]; split <;> omega
    ·rw [if_pos (.inr c), i2, xn, e0]; split <;> omega
    ·rw [if_pos (.inr (by omega)), i3 n hn]; omega
   ·rw [or_eq (x := em x) hx.good.f0 c]
    simp only [under, e, true_and]
    refine ⟨?_, ?_, fun n hn => ?_⟩
    ·rw [e0]; split <;> omega
    ·rw [i2, e0]
     by_cases s7 : x.2.1 = 7
     ·rw [if_pos (.inl s7), if_pos s7]
     ·rw [if_neg (by omega), if_neg s7]; omega
    ·rw [if_pos (.inr (by omega)), i3 n hn]; omega
   ·rw [or_gt (x := em x) c]
    simp only [under, e, true_and, xn]
    refine ⟨?_, ?_, fun n hn => ?_⟩
    ·rw [e0]; split <;> omega
    ·rw [i3 _ c, e0]
     by_cases s7 : x.2.1 = 7
     ·rw [if_pos (.inl s7), if_pos s7]; omega
     ·rw [if_neg (by omega), if_neg s7]; omega
    ·rw [if_pos (.inr (by omega)), i3 n (by omega)]; omega
  ·rw [bigM_no e]
   refine ⟨i1, ?_, fun n hn => ?_⟩
   ·rw [under, if_neg (fun h => e h.1)]; exact i2
   ·rw [under, if_neg (fun h => e h.1)]; exact i3 n hn
theorem under_at (k : Nat) (nw : Nat → Int) : ∀ (ms : List Mm) (L : Nat → Int), 0 ≤ L k → (ms.foldl (raiseIf nw) L) k = max (L k) (under k (nw k) ms)
 | [], L, h => by show L k = max (L k) 0; omega
 | x :: l, L, h => by
  have hr : 0 ≤ raiseIf nw L x k := by
   have := raise_ge L x.1 k
   unfold raiseIf
   split <;> omega
  rw [List.foldl_cons, under_at k nw l _ hr, under]
  by_cases e : x.1.1 = (k : Int)
  ·have ek : x.1.1.toNat = k := by omega
   by_cases o : x.2.1 = 7 ∨ x.1.2 < nw k
   ·have ho : isOld nw x = true := by unfold isOld; rw [ek]; simpa using o
    rw [if_pos ⟨e, o⟩]
    unfold raiseIf
    rw [if_pos ho, raise_yes e]
    omega
   ·have ho : ¬ isOld nw x = true := by unfold isOld; rw [ek]; simpa using o
    rw [if_neg (fun h => o h.2)]
    unfold raiseIf
    rw [if_neg ho]
  ·rw [if_neg (fun h => e h.1)]
   unfold raiseIf
   split
   ·rw [raise_no e]
   ·rfl
theorem bigM_bigG {k : Nat} {ms : List Mm} {gs : List Id2} (hm : AllC ms) (hg : AllV gs) : (bigM k ms).or (bigG k gs) = ⟨max (bigM k ms).f (bigG k gs).f, (bigM k ms).n, (bigM k ms).s, (bigM k ms).p⟩ := by
 obtain ⟨g1, g2, g3, g4⟩ := fit_bigG (k := k) hg
 have a := (fit_bigM (k := k) hm).good
 have n0 := a.n0
 have f0 := a.f0
 have s0 := a.s0
 have p0 := a.p0
 rcases Int.lt_or_le 0 (bigM k ms).n with c | c
 ·rw [or_gt (by rw [g2]; exact c)]
  refine St.ext4 ?_ rfl rfl rfl
  show max (max (bigM k ms).f (bigG k gs).f) (bigG k gs).n = max (bigM k ms).f (bigG k gs).f
  rw [g2]
  omega
 ·have e : (bigM k ms).n = 0 := by omega
  rw [or_eq f0 (by rw [g2]; exact e)]
  refine St.ext4 rfl (by show (bigG k gs).n = _; rw [g2, e]) ?_ ?_
  ·show max _ (bigG k gs).s = _; rw [g3]; show max (bigM k ms).s 0 = (bigM k ms).s; omega
  ·show elder _ (bigG k gs).p = _; rw [g4]; exact elder_zero p0
theorem floors_at {ms : List Mm} {gs : List Id2} (hm : AllC ms) (hg : AllV gs) (k : Nat) : floors ms gs k = ((bigM k ms).or (bigG k gs)).f ∧ newest ms k = ((bigM k ms).or (bigG k gs)).n := by
 have hn : newest ms k = (bigM k ms).n := by
  unfold newest
  rw [newest_at k ms _ (Int.le_refl _)]
  have := (fit_bigM (k := k) hm).good.n0
  show max 0 _ = _
  omega
 have g0 := (fit_bigG (k := k) hg).1.good.f0
 have f0 := (fit_bigM (k := k) hm).good.f0
 have hg' : (gs.foldl raise fun _ => 0) k = (bigG k gs).f := by
  rw [given_at k gs _ hg (Int.le_refl _)]
  show max 0 _ = _
  omega
 rw [bigM_bigG hm hg]
 refine ⟨?_, hn⟩
 unfold floors
 rw [under_at k _ ms _ (by rw [hg']; exact g0), hg', hn, (under_is k ms hm).2.1]
 show _ = max (bigM k ms).f (bigG k gs).f
 omega
def pickS (k : Nat) (n : Int) : List Mm → Int
 | [] => 0
 | x :: l => if x.1.1 = (k : Int) ∧ x.1.2 = n then max x.2.1 (pickS k n l) else pickS k n l
def pickP (k : Nat) (n : Int) : List Mm → Int
 | [] => 0
 | x :: l => if x.1.1 = (k : Int) ∧ x.1.2 = n then elder (max x.2.2 0) (pickP k n l) else pickP k n l
theorem pick_is (k : Nat) : ∀ (ms : List Mm), AllC ms → (pickS k (bigM k ms).n ms = (bigM k ms).s ∧ pickP k (bigM k ms).n ms = (bigM k ms).p) ∧ ∀ n, (bigM k ms).n < n → pickS k n ms = 0 ∧ pickP k n ms = 0
 | [], _ => ⟨⟨rfl, rfl⟩, fun _ _ => ⟨rfl, rfl⟩⟩
 | x :: l, h => by
  have hl : AllC l := fun y hy => h y (List.mem_cons_of_mem _ hy)
  obtain ⟨⟨i1, i2⟩, i3⟩ := pick_is k l hl
  have g := (fit_bigM (k := k) hl).good
  by_cases e : x.1.1 = (k : Int)
  ·have hx := fit_em (h x (List.mem_cons_self ..)) e
   have xn : (em x).n = x.1.2 := rfl
   have xs : (em x).s = x.2.1 := rfl
   have xp : (em x).p = max x.2.2 0 := rfl
   have s0 := hx.good.s0
   rw [bigM_yes e]
   rcases Int.lt_trichotomy x.1.2 (bigM k l).n with c | c | c
   ·rw [or_lt (x := em x) c]
    simp only [pickS, pickP, e, true_and]
    refine ⟨⟨by rw [if_neg (by omega)]; exact i1, by rw [if_neg (by omega)]; exact i2⟩, fun n hn => ?_⟩
    rw [if_neg (by omega), if_neg (by omega)]
    exact i3 n hn
   ·rw [or_eq (x := em x) hx.good.f0 c]
    simp only [pickS, pickP, e, true_and]
    refine ⟨⟨by rw [if_pos c, i1, xs], by rw [if_pos c, i2, xp]⟩, fun n hn => ?_⟩
    rw [if_neg (by omega), if_neg (by omega)]
    exact i3 n hn
   ·rw [or_gt (x := em x) c]
    simp only [pickS, pickP, e, true_and, xn]
    obtain ⟨j1, j2⟩ := i3 _ c
    refine ⟨⟨by rw [if_pos trivial, j1, xs]; omega, by rw [if_pos trivial, j2, xp]; exact elder_zero (by omega)⟩, fun n hn => ?_⟩
    rw [if_neg (by omega), if_neg (by omega)]
    exact i3 n (by omega)
  ·rw [bigM_no e]
   simp only [pickS, pickP, e, false_and, if_false]
   exact ⟨⟨i1, i2⟩, i3⟩
theorem put_at (k : Nat) (n : Int) (al : Mm → Bool) : ∀ (ms : List Mm) (A : Nat → Mm), (∀ x ∈ ms, x.1.1 = (k : Int) → (al x = true ↔ x.1.2 = n)) → 0 ≤ (A k).2.1 → 0 ≤ (A k).2.2 →
  ((ms.filter al).foldl putM A) k = (if ms.any (fun x => decide (x.1.1 = (k : Int) ∧ x.1.2 = n)) then ((k : Int), n) else (A k).1, max (A k).2.1 (pickS k n ms), elder (A k).2.2 (pickP k n ms))
 | [], A, _, hs, hp => by
  show A k = ((A k).1, max (A k).2.1 0, elder (A k).2.2 0)
  rw [elder_zero hp, Int.max_eq_left hs]
 | x :: l, A, h, hs, hp => by
  have hl := fun y hy => h y (List.mem_cons_of_mem x hy)
  have hx := h x (List.mem_cons_self ..)
  by_cases e : x.1.1 = (k : Int)
  ·by_cases c : x.1.2 = n
   ·have hal := (hx e).2 c
    have hk : putM A x k = (x.1, max (A k).2.1 x.2.1, elder (A k).2.2 x.2.2) := by unfold putM; rw [if_pos e.symm]
    have hid : x.1 = ((k : Int), n) := by rw [← e, ← c]
    rw [List.filter_cons_of_pos hal, List.foldl_cons, put_at k n al l (putM A x) hl (by rw [hk]; show 0 ≤ max _ _; omega) (by rw [hk]; exact elder_nn _ _), hk]
    have ha : (x :: l).any (fun x => decide (x.1.1 = (k : Int) ∧ x.1.2 = n)) = true := by simp [e, c]
    rw [ha]
    simp only [pickS, pickP, if_pos (And.intro e c)]
    refine Prod.ext ?_ (Prod.ext ?_ ?_)
    ·show (if _ then _ else x.1) = ((k : Int), n)
     split
     ·rfl
     ·exact hid
    ·show max (max _ _) _ = max _ (max _ _)
     omega
    ·show elder (elder _ _) _ = elder _ (elder _ _)
     rw [elder_assoc]
     congr 1
     rw [elder_comm (max x.2.2 0), elder_max, elder_comm]
   ·have hal : ¬ al x = true := fun h => c ((hx e).1 h)
    rw [List.filter_cons_of_neg hal, put_at k n al l A hl hs hp]
    have ha : (x :: l).any (fun x => decide (x.1.1 = (k : Int) ∧ x.1.2 = n)) = l.any (fun x => decide (x.1.1 = (k : Int) ∧ x.1.2 = n)) := by simp [c]
    rw [ha]
    simp only [pickS, pickP, if_neg (fun h : x.1.1 = (k : Int) ∧ x.1.2 = n => c h.2)]
  ·have ha : (x :: l).any (fun x => decide (x.1.1 = (k : Int) ∧ x.1.2 = n)) = l.any (fun x => decide (x.1.1 = (k : Int) ∧ x.1.2 = n)) := by simp [e]
   have hk : putM A x k = A k := by unfold putM; rw [if_neg (fun h => e h.symm)]
   rw [ha]
   simp only [pickS, pickP, if_neg (fun h : x.1.1 = (k : Int) ∧ x.1.2 = n => e h.1)]
   by_cases c : al x = true
   ·rw [List.filter_cons_of_pos c, List.foldl_cons, put_at k n al l (putM A x) hl (by rw [hk]; exact hs) (by rw [hk]; exact hp), hk]
   ·rw [List.filter_cons_of_neg c, put_at k n al l A hl hs hp]
theorem inc_le {k : Nat} : ∀ {ms : List Mm} {x : Mm}, x ∈ ms → x.1.1 = (k : Int) → x.1.2 ≤ (bigM k ms).n
 | y :: l, x, h, e => by
  rcases List.mem_cons.1 h with rfl | h
  ·rw [bigM_yes e, or_n]; show x.1.2 ≤ max x.1.2 _; omega
  ·have := inc_le h e
   by_cases e2 : y.1.1 = (k : Int)
   ·rw [bigM_yes e2, or_n]; omega
   ·rw [bigM_no e2]; exact this
theorem under_le {k : Nat} {n : Int} : ∀ {ms : List Mm} {x : Mm}, x ∈ ms → x.1.1 = (k : Int) → x.1.2 < n → x.1.2 ≤ under k n ms
 | y :: l, x, h, e, c => by
  rw [under]
  rcases List.mem_cons.1 h with rfl | h
  ·rw [if_pos ⟨e, .inr c⟩]; omega
  ·have := under_le h e c
   split <;> omega
theorem pickS_zero {k : Nat} {n : Int} : ∀ {ms : List Mm}, ms.any (fun x => decide (x.1.1 = (k : Int) ∧ x.1.2 = n)) = false → pickS k n ms = 0 ∧ pickP k n ms = 0
 | [], _ => ⟨rfl, rfl⟩
 | x :: l, h => by
  rw [List.any_cons, Bool.or_eq_false_iff] at h
  have c := of_decide_eq_false h.1
  rw [pickS, pickP, if_neg c, if_neg c]
  exact pickS_zero h.2
theorem byAddr_at {ms : List Mm} {gs : List Id2} (hm : AllC ms) (hg : AllV gs) (k : Nat) :
  byAddr (ms.filter fun x => !goneM (floors ms gs) x) k = if (kill ((bigM k ms).or (bigG k gs))).n = 0 then ((0, 0), 0, 0) else (((k : Int), (kill ((bigM k ms).or (bigG k gs))).n), (kill ((bigM k ms).or (bigG k gs))).s, (kill ((bigM k ms).or (bigG k gs))).p) := by
 obtain ⟨hf, hn⟩ := floors_at hm hg k
 have hB := bigM_bigG (k := k) hm hg
 have fB := fit_bigM (k := k) hm
 have n0 := fB.good.n0
 have s0 := fB.good.s0
 have p0 := fB.good.p0
 have hu := under_is k ms hm
 generalize hR : (bigM k ms).or (bigG k gs) = R at *
 have hRn : R.n = (bigM k ms).n := by rw [hB]
 have hRs : R.s = (bigM k ms).s := by rw [hB]
 have hRp : R.p = (bigM k ms).p := by rw [hB]
 have hRf : (bigM k ms).f ≤ R.f := by rw [hB]; show _ ≤ max _ _; omega
 have R0 : 0 ≤ R.f := by have := fB.good.f0; omega
 unfold byAddr
 by_cases c : R.n ≤ R.f
 ·have r : kill R = ⟨R.f, 0, 0, 0⟩ := if_pos c
  rw [r, if_pos rfl]
  have e : ms.any (fun x => decide (x.1.1 = (k : Int) ∧ x.1.2 = R.n + 1)) = false := by
   rw [List.any_eq_false]
   intro x hx
   simp only [decide_eq_true_eq]
   rintro ⟨e1, e2⟩
   have := inc_le hx e1
   omega
  rw [put_at k (R.n + 1) _ ms _ (fun x hx e1 => by
   have h1 := inc_le hx e1
   have ek : x.1.1.toNat = k := by omega
   unfold goneM
   rw [ek, hf]
   simp only [Bool.not_eq_true', decide_eq_false_iff_not]
   constructor <;> intro h <;> omega) (Int.le_refl _) (Int.le_refl _), e, (pickS_zero e).1, (pickS_zero e).2]
  rfl
 ·have r : kill R = R := if_neg c
  rw [r]
  rw [put_at k R.n _ ms _ (fun x hx e1 => by
   have h1 := inc_le hx e1
   have ek : x.1.1.toNat = k := by omega
   unfold goneM
   rw [ek, hf]
   simp only [Bool.not_eq_true', decide_eq_false_iff_not]
   constructor
   ·intro h
    rcases Int.lt_or_le x.1.2 (bigM k ms).n with d | d
    ·have := under_le hx e1 d
     rw [hu.2.1] at this
     omega
    ·omega
   ·intro h; omega) (Int.le_refl _) (Int.le_refl _)]
  have hp := (pick_is k ms hm).1
  rw [hRn, hp.1, hp.2]
  by_cases z : (bigM k ms).n = 0
  ·omega
  ·rw [if_neg z]
   have h1 := fB.ns z
   have ha : ms.any (fun x => decide (x.1.1 = (k : Int) ∧ x.1.2 = (bigM k ms).n)) = true := by
    rcases h : ms.any (fun x => decide (x.1.1 = (k : Int) ∧ x.1.2 = (bigM k ms).n)) with _ | _
    ·have := (pickS_zero h).1
     rw [hp.1] at this
     omega
    ·rfl
   rw [ha, hRs, hRp]
   refine Prod.ext rfl (Prod.ext ?_ ?_)
   ·show max 0 (bigM k ms).s = (bigM k ms).s; omega
   ·show elder 0 (bigM k ms).p = (bigM k ms).p; rw [zero_elder]; omega
theorem filter_map_range {α : Type} {g : Nat → α} {p : α → Bool} {h : Nat → Option α} (e : ∀ k, h k = if p (g k) = true then some (g k) else none) : ∀ n, ((List.range n).map g).filter p = (List.range n).filterMap h
 | 0 => rfl
 | n + 1 => by
  rw [List.range_succ, List.map_append, List.filter_append, List.filterMap_append, filter_map_range e n]
  congr 1
  simp only [List.map_cons, List.map_nil, List.filterMap_cons, List.filterMap_nil, e n]
  by_cases c : p (g n) = true
  ·simp [c]
  ·simp [c]
theorem joinP_is (m : List Mm) (f : List Id2) (n : List Mm) (g : List Id2) : joinP m f n g = joinL (m, f) (n, g) := by
 have hm := allC_filter (m ++ n)
 have hg := allV_filter (f ++ g)
 have hraw : ∀ k, (bigM k ((m ++ n).filter cnt)).or (bigG k ((f ++ g).filter vidP)) = (raw (m, f) k).or (raw (n, g) k) := fun k => raw_append m n f g k
 unfold joinP joinL out
 refine Prod.ext ?_ ?_
 ·simp only []
  unfold united outM
  refine filter_map_range (fun k => ?_) 13
  rw [byAddr_at hm hg k, hraw k]
  have hk := kill_six (fit_or (fit_raw (m, f) k) (fit_raw (n, g) k))
  by_cases z : (kill ((raw (m, f) k).or (raw (n, g) k))).n = 0
  ·rw [if_pos z, if_pos z]; rfl
  ·have := (hk z).2.1
   rw [if_neg z, if_neg z, if_pos]
   simp [noM]
   omega
 ·simp only []
  unfold listF outF
  refine filterMap_congr_range 13 fun k _ => ?_
  have hkf : ∀ x : St, (kill x).f = x.f := fun x => by unfold kill; split <;> rfl
  rw [(floors_at hm hg k).1, hraw k, hkf]
  by_cases z : ((raw (m, f) k).or (raw (n, g) k)).f ≤ 0
  ·rw [if_pos z, if_neg (by omega)]
  ·rw [if_neg z, if_pos (by omega)]
end Ros
end Go.Proofs.YtjlnnmjhbccdoaaGreat
namespace Go.Proofs.YtjlnnmjhbccdoaaGreat
open Go.RowKit Ros
theorem may_anyROS (a i : Int) (w : World) :
  Calls Tryz.prog 56 #[.agg #[.int .i64 a, .int .i64 i]] w fun e w' => e = .returned (.bool (vid a i)) ∧ Below w.heap.size w w' := by
 by_cases h1 : 1 ≤ a
 ·by_cases h2 : a ≤ 12
  ·by_cases h3 : 1 ≤ i
   ·by_cases h4 : i ≤ 1048576
    ·have h5 := Lib.hid (show vid a i = true by simp [vid]; omega)
     go_enter Tryz.func56, Tryz.ntmps56
     go_wp2_with fail
     go_ret
     exact ⟨by rw [h5.out]; rfl, (Below.refl _ _).alloc (Nat.le_refl _) _⟩
    ·have h5 := Lib.hid (show vid a i = false by simp [vid]; omega)
     go_enter Tryz.func56, Tryz.ntmps56
     go_wp2_with fail
     go_ret
     exact ⟨by rw [h5.out]; rfl, (Below.refl _ _).alloc (Nat.le_refl _) _⟩
   ·have h5 := Lib.hid (show vid a i = false by simp [vid]; omega)
    go_enter Tryz.func56, Tryz.ntmps56
    go_wp2_with fail
    go_ret
    exact ⟨by rw [h5.out]; rfl, (Below.refl _ _).alloc (Nat.le_refl _) _⟩
  ·have h5 := Lib.hid (show vid a i = false by simp [vid]; omega)
   go_enter Tryz.func56, Tryz.ntmps56
   go_wp2_with fail
   go_ret
   exact ⟨by rw [h5.out]; rfl, (Below.refl _ _).alloc (Nat.le_refl _) _⟩
 ·have h5 := Lib.hid (show vid a i = false by simp [vid]; omega)
  go_enter Tryz.func56, Tryz.ntmps56
  go_wp2_with fail
  go_ret
  exact ⟨by rw [h5.out]; rfl, (Below.refl _ _).alloc (Nat.le_refl _) _⟩
end Go.Proofs.YtjlnnmjhbccdoaaGreat
namespace Go.Proofs.YtjlnnmjhbccdoaaGreat
open Go.RowKit
theorem info30 : (Tryz.prog.info? 29).map (fun i => (i.zero, i.size, i.bytes)) = some (some (.agg #[.int .i64 0, .int .i64 0]), 2, 16) := by kernel_rfl
theorem wpList_append_listROS {ops : Array Oper} {rest : List Oper} {o : Oper} {a : Act} {Q : Exit → Act → World → Prop} (hgd : o.guard = none) (s x : Operand)
  (ho : o.op = .call { callee := .builtin .append, args := #[s, x], argTypes := #[23, 23] })
  (wr : World) (base : Nat) (v u : Value) (d l : List (Int × Int)) (hs : a.eval s = v) (hx : a.eval x = u)
  (hown : Owns wr base v d) (hI : Ids wr u l) (hl : d.length + l.length ≤ 100000) (hb : base ≤ wr.heap.size)
  (h : ∀ v' w', Owns w' base v' (d ++ l) → Below base wr w' → wpList Tryz.prog ops Q rest (a.put o.dst v') w') :
  wpList Tryz.prog ops Q (o :: rest) a wr := by
 obtain ⟨i0, hi, hz0, hz1, hz2⟩ := info_parts info30
 obtain ⟨A, c, rfl, h0, hc, hk⟩ := hI
 cases A with
 | none =>
  obtain rfl := h0 rfl
  have hn : l = [] := List.eq_nil_of_length_eq_zero (by omega)
  subst hn
  refine wpList_append_own_none hgd s x 23 ho base 29 i0 2 Tryz.underlying23 hi _ d.length (flat d) hs hown hx (h _ _ (by rw [List.append_nil]; exact hown) (Below.refl _ _))
 | some ad =>
  refine wpList_append_own _ hgd s x 23 ho base 29 i0 (.agg #[.int .i64 0, .int .i64 0]) 2 16 Tryz.underlying23 hi hz0 hz1 hz2 rfl (by decide) v d.length (flat d) hs hown ad l.length c (flat l) hx (flat_len l)
   (fun j u hu => ?_) (flat_one l) (by unfold maxLen; omega) (by omega) hb ?_
  ·obtain ⟨k, hlt, hj⟩ := flat_split hu
   obtain ⟨ad', e, h1, h2, h3⟩ := hk k hlt
   injection e with e
   subst e
   rcases hj with ⟨rfl, rfl⟩ | ⟨rfl, rfl⟩
   ·exact h2
   ·rw [add_odd]
    exact h3
  ·intro v' w' h1 h2 _
   refine h v' w' ?_ ((Below.refl base wr).grown h2 hb fun k hk => (World.ownsRow.lt hown k hk).1)
   unfold Owns
   rw [flat_append, List.length_append]
   exact h1
theorem wpList_append_oneROS {ops : Array Oper} {rest : List Oper} {o : Oper} {a : Act} {Q : Exit → Act → World → Prop} (hgd : o.guard = none) (s x : Operand)
  (ho : o.op = .call { callee := .builtin .append, args := #[s, x], argTypes := #[23, 23] })
  (wr : World) (base : Nat) (v : Value) (d : List (Int × Int)) (p q : Int) (hs : a.eval s = v) (hx : a.eval x = .slice (some ⟨wr.heap.size, 0, none⟩) 1 1)
  (hown : Owns wr base v d) (hl : d.length ≤ 99999) (hb : base ≤ wr.heap.size)
  (h : ∀ v' w', Owns w' base v' (d ++ [(p, q)]) → Below base wr w' → wpList Tryz.prog ops Q rest (a.put o.dst v') w') :
  wpList Tryz.prog ops Q (o :: rest) a (wr.alloc (.cells #[.int .i64 p, .int .i64 q] 29)) := by
 refine wpList_append_listROS hgd s x ho _ base v _ d [(p, q)] hs hx (hown.below ((Below.refl _ _).alloc (Nat.le_refl _) _)) (ids_one wr p q) (by simp; omega) (by simp; omega) fun v' w' h1 h2 => h v' w' h1 ?_
 exact ((Below.refl base wr).alloc hb _).trans h2
theorem wpList_make_roomROS {ops : Array Oper} {rest : List Oper} {o : Oper} {a : Act} {Q : Exit → Act → World → Prop} (w : World) (hgd : o.guard = none) (x : Operand) (hop : o.op = .makeSlice 23 (.const (.int .i64 0)) x) (C : Int) (hx : a.eval x = .int .i64 C) (h0 : 0 ≤ C) (hn : C ≤ 100000)
  (h : ∀ v' w', Owns w' w.heap.size v' [] → Below w.heap.size w w' → wpList Tryz.prog ops Q rest (a.put o.dst v') w') : wpList Tryz.prog ops Q (o :: rest) a w := by
 obtain ⟨i0, hi, hz0, hz1, hz2⟩ := info_parts info30
 obtain ⟨n, rfl⟩ := Int.eq_ofNat_of_zero_le h0
 exact wpList_make_own w hgd _ x 23 hop w.heap.size 29 i0 (.agg #[.int .i64 0, .int .i64 0]) 2 Tryz.underlying23 hi hz0 hz1 .i64 .i64 n n rfl hx rfl (by rw [hz2]; omega) (by unfold maxLen; omega) (Nat.le_refl _)
  fun w' h1 h2 => h _ w' h1 ((Below.refl w.heap.size w).grown h2 (Nat.le_refl _) (fun k hk => by cases hk))
end Go.Proofs.YtjlnnmjhbccdoaaGreat
namespace Go.Proofs.YtjlnnmjhbccdoaaGreat
open Go Go.RowKit Ros
def encM (x : Mm) : List Value := [.int .i64 x.1.1, .int .i64 x.1.2, .int .u8 x.2.1, .int .i64 x.2.2]
theorem encM_len (x : Mm) : (encM x).length = 4 := rfl
theorem encM_one (x : Mm) : ∀ u ∈ encM x, u.oneCell' = true := by
 intro u hu
 simp [encM] at hu
 rcases hu with rfl | rfl | rfl | rfl <;> rfl
abbrev Ms (w : World) (v : Value) (l : List Mm) : Prop := Rcs encM 4 w v l
theorem Ms.at_ {w w' : World} {A : Option Addr} {n c : Nat} {l : List Mm} (h : Ms w (.slice A n c) l) (hw : Below w.heap.size w w') {k : Nat} (hk : k < l.length) :
  ∃ ad, A = some ad ∧ w'.cell? (ad.add (k * 4)) = some (.int .i64 l[k].1.1) ∧ w'.cell? ⟨(ad.add (k * 4)).block, (ad.add (k * 4)).off + 1, none⟩ = some (.int .i64 l[k].1.2) ∧ w'.cell? ⟨(ad.add (k * 4)).block, (ad.add (k * 4)).off + 2, none⟩ = some (.int .u8 l[k].2.1) ∧ w'.cell? ⟨(ad.add (k * 4)).block, (ad.add (k * 4)).off + 3, none⟩ = some (.int .i64 l[k].2.2) := by
 obtain ⟨ad, rfl⟩ := h.addr (by omega)
 exact ⟨ad, rfl, h.first hw hk rfl, h.cell hw hk 1 (by omega) rfl, h.cell hw hk 2 (by omega) rfl, h.cell hw hk 3 (by omega) rfl⟩
theorem info32 : (Tryz.prog.info? 31).map (fun i => (i.zero, i.size, i.bytes)) = some (some (.agg #[.int .i64 0, .int .i64 0, .int .u8 0, .int .i64 0]), 4, 0x20) := by kernel_rfl
section
variable {α : Type} [Inhabited α] {enc : α → List Value} {sz : Nat}
end
theorem RowAtR.mem {w : World} {g : Nat} {d : Array Mm} (h : RowAtR encM 4 w g d) {k : Nat} (hk : k < d.size) :
  (w.cell? ⟨g, k * 4, none⟩ = some (.int .i64 d[k]!.1.1) ∧ w.cell? ⟨g, k * 4 + 1, none⟩ = some (.int .i64 d[k]!.1.2) ∧ w.cell? ⟨g, k * 4 + 2, none⟩ = some (.int .u8 d[k]!.2.1) ∧ w.cell? ⟨g, k * 4 + 3, none⟩ = some (.int .i64 d[k]!.2.2)) ∧
  (w.frozen? ⟨g, k * 4, none⟩ = false ∧ w.frozen? ⟨g, k * 4 + 1, none⟩ = false ∧ w.frozen? ⟨g, k * 4 + 2, none⟩ = false ∧ w.frozen? ⟨g, k * 4 + 3, none⟩ = false) :=
 ⟨⟨(h.2 k hk 0 _ rfl).1, (h.2 k hk 1 _ rfl).1, (h.2 k hk 2 _ rfl).1, (h.2 k hk 3 _ rfl).1⟩, (h.2 k hk 0 _ rfl).2, (h.2 k hk 1 _ rfl).2, (h.2 k hk 2 _ rfl).2, (h.2 k hk 3 _ rfl).2⟩
theorem rowM_set {w : World} {g : Nat} {d : Array Mm} (h : RowAtR encM 4 w g d) {i : Nat} (hi : i < d.size) (a j s n : Int) :
  RowAtR encM 4 ((((w.setCell ⟨g, i * 4, none⟩ (.int .i64 a)).setCell ⟨g, i * 4 + 1, none⟩ (.int .i64 j)).setCell ⟨g, i * 4 + 2, none⟩ (.int .u8 s)).setCell ⟨g, i * 4 + 3, none⟩ (.int .i64 n)) g (d.setIfInBounds i ((a, j), s, n)) :=
 rowAtR_set encM_len h hi ((a, j), s, n)
theorem grown_setM {a w : World} {g : Nat} (h : a.grownBy w (some g)) (i : Nat) (x y z t : Value) : a.grownBy ((((w.setCell ⟨g, i * 4, none⟩ x).setCell ⟨g, i * 4 + 1, none⟩ y).setCell ⟨g, i * 4 + 2, none⟩ z).setCell ⟨g, i * 4 + 3, none⟩ t) (some g) := grown_setCells h (i * 4) [x, y, z, t]
theorem below_setM {b0 : Nat} {a w : World} {g : Nat} (h : Below b0 a w) (hg : b0 ≤ g) (i : Nat) (x y z t : Value) : Below b0 a ((((w.setCell ⟨g, i * 4, none⟩ x).setCell ⟨g, i * 4 + 1, none⟩ y).setCell ⟨g, i * 4 + 2, none⟩ z).setCell ⟨g, i * 4 + 3, none⟩ t) := below_setCells h hg (i * 4) [x, y, z, t]
end Go.Proofs.YtjlnnmjhbccdoaaGreat
namespace Go.Proofs.YtjlnnmjhbccdoaaGreat
open Go.RowKit Ros
def MBox (w : World) (g : Nat) (a i s n : Int) : Prop := w.heap[g]? = some (.cells #[.int .i64 a, .int .i64 i, .int .u8 s, .int .i64 n] 31 (0, 0))
theorem mbox_cells {w : World} {g : Nat} {a i s n : Int} (h : MBox w g a i s n) : w.cell? ⟨g, 0, none⟩ = some (.int .i64 a) ∧ w.cell? ⟨g, 1, none⟩ = some (.int .i64 i) ∧ w.cell? ⟨g, 2, none⟩ = some (.int .u8 s) ∧ w.cell? ⟨g, 3, none⟩ = some (.int .i64 n) := by
 unfold MBox at h
 exact ⟨by rw [cell_of_row _ _ 0 _ _ _ h]; rfl, by rw [cell_of_row _ _ 1 _ _ _ h]; rfl, by rw [cell_of_row _ _ 2 _ _ _ h]; rfl, by rw [cell_of_row _ _ 3 _ _ _ h]; rfl⟩
theorem mbox_free {w : World} {g : Nat} {a i s n : Int} (h : MBox w g a i s n) : w.frozen? ⟨g, 0, none⟩ = false ∧ w.frozen? ⟨g, 1, none⟩ = false ∧ w.frozen? ⟨g, 2, none⟩ = false ∧ w.frozen? ⟨g, 3, none⟩ = false := by
 unfold MBox at h
 exact ⟨by simp [World.frozen?, h], by simp [World.frozen?, h], by simp [World.frozen?, h], by simp [World.frozen?, h]⟩
theorem mbox_new (w : World) (a i s n : Int) : MBox (w.alloc (.cells #[.int .i64 a, .int .i64 i, .int .u8 s, .int .i64 n] 31)) w.heap.size a i s n := heap_alloc_new w _
theorem mbox_lt {w : World} {g : Nat} {a i s n : Int} (h : MBox w g a i s n) : g < w.heap.size := row_lt h
theorem mbox_below {w w' : World} {g : Nat} {a i s n : Int} (h : MBox w g a i s n) (hb : Below w.heap.size w w') : MBox w' g a i s n := (hb.block _ (mbox_lt h)).trans h
def Lives (w : World) (g : Nat) (L : Nat → Int) : Prop := g < w.heap.size ∧ ∀ k, k < 13 → w.cell? ⟨g, k, none⟩ = some (.int .i64 (L k)) ∧ w.frozen? ⟨g, k, none⟩ = false
theorem lives_block {w w' : World} {g : Nat} {L : Nat → Int} (h : Lives w g L) (hs : w.heap.size ≤ w'.heap.size) (hb : w'.heap[g]? = w.heap[g]?) : Lives w' g L :=
 ⟨Nat.lt_of_lt_of_le h.1 hs, fun k hk => ⟨(World.cell?_of_block hb).trans (h.2 k hk).1, (World.frozen?_of_block hb).trans (h.2 k hk).2⟩⟩
theorem lives_below {w w' : World} {g : Nat} {L : Nat → Int} (h : Lives w g L) (hb : Below w.heap.size w w') : Lives w' g L := lives_block h hb.size (hb.block g h.1)
theorem lives_grown {w w' : World} {g r : Nat} {L : Nat → Int} (h : Lives w g L) (hb : w.grownBy w' (some r)) (hg : g ≠ r) : Lives w' g L := lives_block h hb.size (hb.block g h.1 (by simpa using fun e => hg e))
theorem one_grown {w w' : World} {g r t : Nat} {v : Value} (h : One w g t v) (hb : w.grownBy w' (some r)) (hg : g ≠ r) : One w' g t v := (hb.block g (one_lt h) (by simpa using fun e => hg e)).trans h
structure AsksM (K : Nat) (caps : Array Value) (p : Mm → Bool) (S : World → Prop) (D : Mm → Prop) : Prop where
 enters : ∀ args W, (callFunc K args).run Tryz.prog W = .ok (.enter K args) W
 kept : ∀ W W', S W → Below W.heap.size W W' → S W'
 call : ∀ a i s n W, D ((a, i), s, n) → S W → Calls Tryz.prog K (#[.agg #[.int .i64 a, .int .i64 i, .int .u8 s, .int .i64 n]] ++ caps) W fun e w' => e = .returned (.bool (p ((a, i), s, n))) ∧ Below W.heap.size W w'
def badIROS (x : Id2) : Bool := !vid x.1 x.2
theorem badI_asksROS : AsksI 110 #[] badIROS (fun _ => True) where
 enters := fun args W => enters_fn Tryz.func110 (by kernel_rfl) rfl args W
 kept _ _ _ _ := trivial
 call a i W _ := by
  have HB := Lib.hid (below_one W (.cells #[.int .i64 a, .int .i64 i] 29))
  have HN : Hid (badIROS (a, i) = !vid a i) := Lib.hid rfl
  have HC := Lib.hid fun W => may_anyROS a i W
  generalize badIROS (a, i) = z at *
  generalize vid a i = y at *
  have HE := Lib.hid HN.out.symm
  clear HN
  go_enter Tryz.func110, Tryz.ntmps110
  go_wp2_with fail
  refine (HC.out _).mono ?_
  rintro e w1 ⟨rfl, hb⟩
  have H1 := Lib.hid (below_after HB.out hb (Nat.le_refl _))
  clear hb
  go_wp2_with fail
  go_ret
  exact ⟨ret_bool HE.out, H1.out⟩
set_option maxHeartbeats 1000000 in
theorem counts_any (a i s n : Int) (w : World) :
  Calls Tryz.prog 108 #[.agg #[.int .i64 a, .int .i64 i, .int .u8 s, .int .i64 n]] w fun e w' => e = .returned (.bool (cnt ((a, i), s, n))) ∧ Below w.heap.size w w' := by
 have HB := Lib.hid (below_one w (.cells #[.int .i64 a, .int .i64 i, .int .u8 s, .int .i64 n] 31))
 have HM := Lib.hid (mbox_new w a i s n)
 have HC := Lib.hid fun W => may_anyROS a i W
 have HE : Hid (cnt ((a, i), s, n) = (vid a i && decide (1 ≤ s ∧ s ≤ 7))) := Lib.hid rfl
 generalize vid a i = y at *
 cases y
 ·have HR := Lib.hid (show cnt ((a, i), s, n) = false by rw [HE.out]; rfl)
  go_enter Tryz.func108, Tryz.ntmps108
  go_wp2_with fail
  refine (HC.out _).mono ?_
  rintro e w1 ⟨rfl, hb⟩
  have H1 := Lib.hid (below_after HB.out hb (Nat.le_refl _))
  clear hb
  go_wp2_with fail
  go_ret
  exact ⟨ret_bool HR.out.symm, H1.out⟩
 ·by_cases h1 : 1 ≤ s
  ·by_cases h2 : s ≤ 7
   ·have HR := Lib.hid (show cnt ((a, i), s, n) = true by rw [HE.out]; simp; omega)
    clear HE
    go_enter Tryz.func108, Tryz.ntmps108
    go_wp2_with fail
    refine (HC.out _).mono ?_
    rintro e w1 ⟨rfl, hb⟩
    have H1 := Lib.hid (below_after HB.out hb (Nat.le_refl _))
    obtain ⟨c1, c2, c3, c4⟩ := mbox_cells (mbox_below HM.out hb)
    clear hb
    go_wp2_with fail
    go_ret
    exact ⟨ret_bool HR.out.symm, H1.out⟩
   ·have HR := Lib.hid (show cnt ((a, i), s, n) = false by rw [HE.out]; simp; omega)
    clear HE
    go_enter Tryz.func108, Tryz.ntmps108
    go_wp2_with fail
    refine (HC.out _).mono ?_
    rintro e w1 ⟨rfl, hb⟩
    have H1 := Lib.hid (below_after HB.out hb (Nat.le_refl _))
    obtain ⟨c1, c2, c3, c4⟩ := mbox_cells (mbox_below HM.out hb)
    clear hb
    go_wp2_with fail
    go_ret
    exact ⟨ret_bool (by rw [HR.out]; simpa using h2), H1.out⟩
  ·have HR := Lib.hid (show cnt ((a, i), s, n) = false by rw [HE.out]; simp; omega)
   clear HE
   go_enter Tryz.func108, Tryz.ntmps108
   go_wp2_with fail
   refine (HC.out _).mono ?_
   rintro e w1 ⟨rfl, hb⟩
   have H1 := Lib.hid (below_after HB.out hb (Nat.le_refl _))
   obtain ⟨c1, c2, c3, c4⟩ := mbox_cells (mbox_below HM.out hb)
   clear hb
   go_wp2_with fail
   go_ret
   exact ⟨ret_bool HR.out.symm, H1.out⟩
def badM (x : Mm) : Bool := !cnt x
theorem badM_asks : AsksM 107 #[] badM (fun _ => True) (fun _ => True) where
 enters := fun args W => enters_fn Tryz.func107 (by kernel_rfl) rfl args W
 kept _ _ _ _ := trivial
 call a i s n W _ _ := by
  have HB := Lib.hid (below_one W (.cells #[.int .i64 a, .int .i64 i, .int .u8 s, .int .i64 n] 31))
  have HN : Hid (badM ((a, i), s, n) = !cnt ((a, i), s, n)) := Lib.hid rfl
  have HC := Lib.hid fun W => counts_any a i s n W
  generalize badM ((a, i), s, n) = z at *
  generalize cnt ((a, i), s, n) = y at *
  have HE := Lib.hid HN.out.symm
  clear HN
  go_enter Tryz.func107, Tryz.ntmps107
  go_wp2_with fail
  refine (HC.out _).mono ?_
  rintro e w1 ⟨rfl, hb⟩
  have H1 := Lib.hid (below_after HB.out hb (Nat.le_refl _))
  clear hb
  go_wp2_with fail
  go_ret
  exact ⟨ret_bool HE.out, H1.out⟩
theorem noM_asks : AsksM 150 #[] noM (fun _ => True) (fun _ => True) where
 enters := fun args W => enters_fn Tryz.func150 (by kernel_rfl) rfl args W
 kept _ _ _ _ := trivial
 call a i s n W _ _ := by
  have HB := Lib.hid (below_one W (.cells #[.int .i64 a, .int .i64 i, .int .u8 s, .int .i64 n] 31))
  by_cases h : s = 0
  ·subst h
   have HR := Lib.hid (show noM ((a, i), (0 : Int), n) = true by simp [noM])
   go_enter Tryz.func150, Tryz.ntmps150
   go_wp2_with fail
   go_ret
   exact ⟨ret_bool HR.out.symm, HB.out⟩
  ·have h2 : (s == 0) = false := by simpa using h
   have HR := Lib.hid (show noM ((a, i), s, n) = false by simp [noM, h])
   go_enter Tryz.func150, Tryz.ntmps150
   go_wp2_with fail
   go_ret
   exact ⟨ret_bool HR.out.symm, HB.out⟩
end Go.Proofs.YtjlnnmjhbccdoaaGreat
namespace Go.Proofs.YtjlnnmjhbccdoaaGreat
open Go Go.RowKit Ros
def FoundPROS {α : Type} (p : α → Bool) (l : List α) (r : Int) : Prop := (r = -1 ∧ ∀ x ∈ l, p x = false) ∨ ∃ k : Nat, ∃ h : k < l.length, r = k ∧ p l[k] = true ∧ ∀ x ∈ l.take k, p x = false
theorem foundP_nextROS {α : Type} {p : α → Bool} {l : List α} {k : Nat} (hk : k < l.length) (h : ∀ x ∈ l.take k, p x = false) (hn : p l[k] = false) : ∀ x ∈ l.take (k + 1), p x = false := by
 intro x hx
 rw [List.take_succ_eq_append_getElem hk] at hx
 rcases List.mem_append.1 hx with h1 | h1
 ·exact h x h1
 ·rw [List.mem_singleton.1 h1]
  exact hn
theorem foundP_noneROS {α : Type} {p : α → Bool} {l : List α} {k : Nat} (hk : l.length ≤ k) (h : ∀ x ∈ l.take k, p x = false) : FoundPROS p l (-1) := .inl ⟨rfl, by rwa [List.take_of_length_le hk] at h⟩
set_option maxHeartbeats 1000000 in
theorem indexI_anyROS {K : Nat} {caps : Array Value} {p : Id2 → Bool} {S : World → Prop} (hP : AsksI K caps p S) (v : Value) (l : List Id2) (w : World) (h : Ids w v l) (hS : S w) (hl : l.length ≤ 100000) :
  Calls Tryz.prog 144 #[v, .func (.func K) #[] caps] w fun e w' => (∃ r, e = .returned (.int .i64 r) ∧ FoundPROS p l r) ∧ Below w.heap.size w w' := by
 have HP := Lib.hid hP
 have HI := Lib.hid h
 have HS0 := Lib.hid hS
 have hK := hP.enters
 obtain ⟨A, c, rfl, hz⟩ := h
 clear hz hP hS
 go_enter Tryz.func144, Tryz.ntmps144
 go_wp2_with fail
 go_loopw [8] (fun s3 wr => ∃ k : Nat, k ≤ l.length ∧ s3 = .int .i64 k ∧ Hid (∀ x ∈ l.take k, p x = false) ∧ Hid (S wr) ∧ Hid (Below w.heap.size w wr)) (fun s3 _ => l.length - (intOf s3).toNat)
 case atStart => exact ⟨0, by omega, rfl, Lib.hid (fun x hx => by simp at hx), HS0, Lib.hid (Below.refl _ _)⟩
 case round =>
  obtain ⟨k, hkl, rfl, HT, HS, HW⟩ := hrel
  have i3 : (0 : Int) ≤ (k : Int) := by omega
  by_cases hlt : k < l.length
  ·have hd : decide ((k : Int) < (l.length : Int)) = true := by simp; omega
   have i4 : (k : Int) < (l.length : Int) := by omega
   obtain ⟨ad, rfl, c1, c2⟩ := HI.out.at_ HW.out hlt
   have HM : Hid (l[k] = (l[k].1, l[k].2)) := Lib.hid rfl
   have HC := Lib.hid fun W hs => HP.out.call l[k].1 l[k].2 W hs
   have H0 := Lib.hid fun h => foundP_nextROS (p := p) hlt HT.out h
   have H1 := Lib.hid fun h => (show FoundPROS p l k from .inr ⟨k, hlt, rfl, h, HT.out⟩)
   rw [HM.out] at H0 H1
   clear HM
   generalize l[k].1 = a at *
   generalize l[k].2 = i at *
   cases hp : p (a, i)
   ·rw [hp] at HC
    have HF := Lib.hid (H0.out hp)
    clear hp H0 H1
    go_wp2_with fail
    (with_reducible refine (HC.out _ HS.out).mono ?_)
    rintro e w1 ⟨rfl, hb⟩
    have HB := Lib.hid (below_after HW.out hb (Nat.le_refl _))
    have HS1 := Lib.hid (HP.out.kept _ _ HS.out hb)
    clear hb
    go_wp2_with fail
    go_roundw
    case rel => exact ⟨k + 1, by omega, by go_num, HF, HS1, HB⟩
    case measure => simp [intOf]; omega
   ·rw [hp] at HC
    have HF := Lib.hid (H1.out hp)
    clear hp H0 H1
    go_wp2_with fail
    (with_reducible refine (HC.out _ HS.out).mono ?_)
    rintro e w1 ⟨rfl, hb⟩
    have HB := Lib.hid (below_after HW.out hb (Nat.le_refl _))
    clear hb
    go_wp2_with fail
    go_ret
    exact ⟨⟨_, rfl, HF.out⟩, HB.out⟩
  ·have hd : decide ((k : Int) < (l.length : Int)) = false := by simp; omega
   have HF := Lib.hid (foundP_noneROS (by omega) HT.out)
   go_wp2_with fail
   go_ret
   exact ⟨⟨_, rfl, HF.out⟩, HW.out⟩
set_option maxHeartbeats 1000000 in
theorem indexM_any {K : Nat} {caps : Array Value} {p : Mm → Bool} {S : World → Prop} {D : Mm → Prop} (hP : AsksM K caps p S D) (v : Value) (l : List Mm) (w : World) (h : Ms w v l) (hS : S w) (hl : l.length ≤ 100000) (hD : ∀ x ∈ l, D x) :
  Calls Tryz.prog 79 #[v, .func (.func K) #[] caps] w fun e w' => (∃ r, e = .returned (.int .i64 r) ∧ FoundPROS p l r) ∧ Below w.heap.size w w' := by
 have HP := Lib.hid hP
 have HI := Lib.hid h
 have HS0 := Lib.hid hS
 have HD := Lib.hid hD
 have hK := hP.enters
 obtain ⟨A, c, rfl, hz⟩ := h
 clear hz hP hS hD
 go_enter Tryz.func79, Tryz.ntmps79
 go_wp2_with fail
 go_loopw [8] (fun s3 wr => ∃ k : Nat, k ≤ l.length ∧ s3 = .int .i64 k ∧ Hid (∀ x ∈ l.take k, p x = false) ∧ Hid (S wr) ∧ Hid (Below w.heap.size w wr)) (fun s3 _ => l.length - (intOf s3).toNat)
 case atStart => exact ⟨0, by omega, rfl, Lib.hid (fun x hx => by simp at hx), HS0, Lib.hid (Below.refl _ _)⟩
 case round =>
  obtain ⟨k, hkl, rfl, HT, HS, HW⟩ := hrel
  have i3 : (0 : Int) ≤ (k : Int) := by omega
  by_cases hlt : k < l.length
  ·have hd : decide ((k : Int) < (l.length : Int)) = true := by simp; omega
   have i4 : (k : Int) < (l.length : Int) := by omega
   obtain ⟨ad, rfl, c1, c2, c3, c4⟩ := Ms.at_ HI.out HW.out hlt
   have HM : Hid (l[k] = ((l[k].1.1, l[k].1.2), l[k].2.1, l[k].2.2)) := Lib.hid rfl
   have HC := Lib.hid fun W hs => HP.out.call l[k].1.1 l[k].1.2 l[k].2.1 l[k].2.2 W (HD.out _ (List.getElem_mem hlt)) hs
   have H0 := Lib.hid fun h => foundP_nextROS (p := p) hlt HT.out h
   have H1 := Lib.hid fun h => (show FoundPROS p l k from .inr ⟨k, hlt, rfl, h, HT.out⟩)
   rw [HM.out] at H0 H1
   clear HM
   generalize l[k].1.1 = a at *
   generalize l[k].1.2 = i at *
   generalize l[k].2.1 = s at *
   generalize l[k].2.2 = n at *
   cases hp : p ((a, i), s, n)
   ·rw [hp] at HC
    have HF := Lib.hid (H0.out hp)
    clear hp H0 H1
    go_wp2_with fail
    (with_reducible refine (HC.out _ HS.out).mono ?_)
    rintro e w1 ⟨rfl, hb⟩
    have HB := Lib.hid (below_after HW.out hb (Nat.le_refl _))
    have HS1 := Lib.hid (HP.out.kept _ _ HS.out hb)
    clear hb
    go_wp2_with fail
    go_roundw
    case rel => exact ⟨k + 1, by omega, by go_num, HF, HS1, HB⟩
    case measure => simp [intOf]; omega
   ·rw [hp] at HC
    have HF := Lib.hid (H1.out hp)
    clear hp H0 H1
    go_wp2_with fail
    (with_reducible refine (HC.out _ HS.out).mono ?_)
    rintro e w1 ⟨rfl, hb⟩
    have HB := Lib.hid (below_after HW.out hb (Nat.le_refl _))
    clear hb
    go_wp2_with fail
    go_ret
    exact ⟨⟨_, rfl, HF.out⟩, HB.out⟩
  ·have hd : decide ((k : Int) < (l.length : Int)) = false := by simp; omega
   have HF := Lib.hid (foundP_noneROS (by omega) HT.out)
   go_wp2_with fail
   go_ret
   exact ⟨⟨_, rfl, HF.out⟩, HW.out⟩
end Go.Proofs.YtjlnnmjhbccdoaaGreat
