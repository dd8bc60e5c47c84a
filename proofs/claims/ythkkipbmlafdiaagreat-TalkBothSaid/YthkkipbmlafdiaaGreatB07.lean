/-
  Contracts and plain facts.
-/
import Derived.Test.YthkkipbmlafdiaaGreatOy
import Derived.Test.YthkkipbmlafdiaaGreatRows
import Derived.WalkKit
import Derived.WalkSpells
import Derived.WalkLawsBesides
import Derived.OwnWalk
import Derived.Deep.AppendLies
import Derived.Outline
import Derived.IntWalk
import Derived.Deep.LoopGhost
import Derived.Handy
import Derived.Lib.Hide
import Derived.Deep.RegionWith
import Derived.Deep.RegionHeld3
import Derived.BigQuiet
import Derived.Deep.QuietTactic
import Derived.Laws.AppendOwnNone
import Derived.Test.YthkkipbmlafdiaaGreatB01
import Derived.Test.YthkkipbmlafdiaaGreatB02
import Derived.Test.YthkkipbmlafdiaaGreatB06
set_option maxRecDepth 20000
namespace Go.Proofs.YthkkipbmlafdiaaGreat
section
namespace Ros
def vid (a i : Int) : Bool := decide (1 ≤ a ∧ a ≤ 12 ∧ 1 ≤ i ∧ i ≤ 1048576)
theorem vid_iff {a i : Int} : vid a i = true ↔ 1 ≤ a ∧ a ≤ 12 ∧ 1 ≤ i ∧ i ≤ 1048576 := by simp [vid]
def vidP (x : Id2) : Bool := vid x.1 x.2
def cnt (x : Mm) : Bool := vid x.1.1 x.1.2 && decide (1 ≤ x.2.1 ∧ x.2.1 ≤ 7)
theorem cnt_iff {x : Mm} : cnt x = true ↔ (1 ≤ x.1.1 ∧ x.1.1 ≤ 12 ∧ 1 ≤ x.1.2 ∧ x.1.2 ≤ 1048576) ∧ 1 ≤ x.2.1 ∧ x.2.1 ≤ 7 := by simp [cnt, vid]
abbrev Ls := List Mm × List Id2
def em (x : Mm) : St := ⟨if x.2.1 = 7 then x.1.2 else 0, x.1.2, x.2.1, max x.2.2 0⟩
def eg (g : Id2) : St := ⟨g.2, 0, 0, 0⟩
structure Fit (k : Nat) (x : St) : Prop where
 good : Good x
 n1 : x.n ≤ 1048576
 f1 : x.f ≤ 1048576
 s1 : x.s ≤ 7
 ns : x.n ≠ 0 → 1 ≤ x.s
 s7 : x.s = 7 → x.n ≤ x.f
 far : k = 0 ∨ 12 < k → x = St.zero
theorem fit_zero (k : Nat) : Fit k St.zero := ⟨good_zero, by decide, by decide, by decide, fun h => absurd rfl h, fun h => absurd h (by decide), fun _ => rfl⟩
theorem fit_em {k : Nat} {x : Mm} (h : cnt x = true) (hk : x.1.1 = (k : Int)) : Fit k (em x) := by
 obtain ⟨⟨a1, a2, a3, a4⟩, a5, a6⟩ := cnt_iff.1 h;have e1 : (em x).n = x.1.2 := rfl
 have e2 : (em x).s = x.2.1 := rfl
 have e3 : (em x).p = max x.2.2 0 := rfl
 have e4 : (em x).f = if x.2.1 = 7 then x.1.2 else 0 := rfl
 refine ⟨⟨?_, by omega, by omega, by omega, fun e => by omega, fun e => by omega⟩, by omega, ?_, by omega, fun _ => by omega, fun e => ?_, fun e => by omega⟩
 ·rw [e4]; split <;> omega
 ·rw [e4]; split <;> omega
 ·rw [e4, e1, if_pos (e2 ▸ e)]; exact Int.le_refl _
theorem fit_eg {k : Nat} {x : Id2} (h : vidP x = true) (hk : x.1 = (k : Int)) : Fit k (eg x) := by
 obtain ⟨a1, a2, a3, a4⟩ := vid_iff.1 h;exact ⟨⟨by show 0 ≤ x.2; omega, Int.le_refl _, Int.le_refl _, Int.le_refl _, fun _ => rfl, fun _ => rfl⟩, by show (0 : Int) ≤ 1048576; omega, a4, by show (0 : Int) ≤ 7; omega, fun e => absurd rfl e, fun e => by have : (0 : Int) = 7 := e; omega, fun e => by omega⟩
theorem fit_or {k : Nat} {x y : St} (hx : Fit k x) (hy : Fit k y) : Fit k (x.or y) := by
 obtain ⟨g1, a1, a2, a3, a4, a5, a6⟩ := hx;obtain ⟨g2, b1, b2, b3, b4, b5, b6⟩ := hy;have f1 := g1.f0;have f2 := g2.f0;have n1 := g1.n0;have n2 := g2.n0;refine ⟨or_good g1 g2, ?_, ?_, ?_, ?_, ?_, fun h => by rw [a6 h, b6 h]; rfl⟩
 all_goals rcases Int.lt_trichotomy x.n y.n with h | h | h
 ·rw [or_lt h]; exact b1
 ·rw [or_eq f1 h]; exact b1
 ·rw [or_gt h]; exact a1
 ·rw [or_lt h]; show max (max x.f y.f) x.n ≤ _; omega
 ·rw [or_eq f1 h]; show max x.f y.f ≤ _; omega
 ·rw [or_gt h]; show max (max x.f y.f) y.n ≤ _; omega
 ·rw [or_lt h]; exact b3
 ·rw [or_eq f1 h]; show max x.s y.s ≤ _; omega
 ·rw [or_gt h]; exact a3
 ·rw [or_lt h]; exact b4
 ·rw [or_eq f1 h]; intro e; have := b4 e; show 1 ≤ max x.s y.s; omega
 ·rw [or_gt h]; exact a4
 ·rw [or_lt h]; intro e; have := b5 e; show y.n ≤ max (max x.f y.f) x.n; omega
 ·rw [or_eq f1 h]
  intro e;have e' : max x.s y.s = 7 := e
  show y.n ≤ max x.f y.f
  by_cases h7 : x.s = 7
  ·have := a5 h7; omega
  ·have := b5 (by omega); omega
 ·rw [or_gt h]; intro e; have := a5 e; show x.n ≤ max (max x.f y.f) y.n; omega
theorem fit_kill {k : Nat} {x : St} (h : Fit k x) : Fit k (kill x) := by
 by_cases e : x.n ≤ x.f
 ·have r : kill x = ⟨x.f, 0, 0, 0⟩ := if_pos e
  have g := kill_good h.good;rw [r] at g ⊢;refine ⟨g, by show (0 : Int) ≤ 1048576; omega, h.f1, by show (0 : Int) ≤ 7; omega, fun e => absurd rfl e, fun e => by have : (0 : Int) = 7 := e; omega, fun hk => ?_⟩
  rw [h.far hk];rfl
 ·have r : kill x = x := if_neg e
  rw [r];exact h
theorem kill_six {k : Nat} {x : St} (h : Fit k x) (hn : (kill x).n ≠ 0) : (kill x).s ≤ 6 ∧ 1 ≤ (kill x).s ∧ (kill x).f < (kill x).n := by
 unfold kill at *;split at hn
 ·exact absurd rfl hn
 ·rename_i e
  rw [if_neg e];have h1 := h.s1;have h2 := h.s7;have h3 := h.ns hn;refine ⟨?_, h3, by omega⟩
  rcases Int.lt_or_le x.s 7 with c | c
  ·omega
  ·exact absurd (h2 (by omega)) e
def bigM (k : Nat) (ms : List Mm) : St := big ((ms.filter fun x => decide (x.1.1 = (k : Int))).map em)
def bigG (k : Nat) (gs : List Id2) : St := big ((gs.filter fun x => decide (x.1 = (k : Int))).map eg)
theorem bigM_yes {k : Nat} {x : Mm} {l : List Mm} (h : x.1.1 = (k : Int)) : bigM k (x :: l) = (em x).or (bigM k l) := by simp [bigM, big, h]
theorem bigM_no {k : Nat} {x : Mm} {l : List Mm} (h : ¬ x.1.1 = (k : Int)) : bigM k (x :: l) = bigM k l := by simp [bigM, big, h]
theorem bigG_yes {k : Nat} {x : Id2} {l : List Id2} (h : x.1 = (k : Int)) : bigG k (x :: l) = (eg x).or (bigG k l) := by simp [bigG, big, h]
theorem bigG_no {k : Nat} {x : Id2} {l : List Id2} (h : ¬ x.1 = (k : Int)) : bigG k (x :: l) = bigG k l := by simp [bigG, big, h]
def AllC (ms : List Mm) : Prop := ∀ x ∈ ms, cnt x = true
def AllV (gs : List Id2) : Prop := ∀ x ∈ gs, vidP x = true
theorem allC_filter (l : List Mm) : AllC (l.filter cnt) := fun _ h => (List.mem_filter.1 h).2
theorem allV_filter (l : List Id2) : AllV (l.filter vidP) := fun _ h => (List.mem_filter.1 h).2
theorem fit_bigM {k : Nat} {ms : List Mm} (h : AllC ms) : Fit k (bigM k ms) := by
 induction ms with
 | nil => exact fit_zero k
 | cons x l ih =>
  have ih := ih fun y hy => h y (List.mem_cons_of_mem _ hy)
  by_cases e : x.1.1 = (k : Int)
  ·rw [bigM_yes e]; exact fit_or (fit_em (h x (List.mem_cons_self ..)) e) ih
  ·rw [bigM_no e]; exact ih
theorem fit_bigG {k : Nat} {gs : List Id2} (h : AllV gs) : Fit k (bigG k gs) ∧ (bigG k gs).n = 0 ∧ (bigG k gs).s = 0 ∧ (bigG k gs).p = 0 := by
 induction gs with
 | nil => exact ⟨fit_zero k, rfl, rfl, rfl⟩
 | cons x l ih =>
  obtain ⟨i1, i2, i3, i4⟩ := ih fun y hy => h y (List.mem_cons_of_mem _ hy)
  by_cases e : x.1 = (k : Int)
  ·have hf := fit_eg (h x (List.mem_cons_self ..)) e
   rw [bigG_yes e];refine ⟨fit_or hf i1, ?_⟩
   rw [or_eq hf.good.f0 (show (eg x).n = _ from i2.symm)]
   exact ⟨i2, by show max 0 (bigG k l).s = 0; omega, by show elder 0 (bigG k l).p = 0; rw [i4]; rfl⟩
  ·rw [bigG_no e]; exact ⟨i1, i2, i3, i4⟩
def raw (L : Ls) (k : Nat) : St := (bigM k (L.1.filter cnt)).or (bigG k (L.2.filter vidP))
theorem fit_raw (L : Ls) (k : Nat) : Fit k (raw L k) := fit_or (fit_bigM (allC_filter _)) (fit_bigG (allV_filter _)).1
theorem bigM_append {k : Nat} {l m : List Mm} (hl : AllC l) (hm : AllC m) : bigM k (l ++ m) = (bigM k l).or (bigM k m) := by
 induction l with
 | nil => exact (zero_or (fit_bigM hm).good).symm
 | cons x l ih =>
  have hl' : AllC l := fun y hy => hl y (List.mem_cons_of_mem _ hy)
  have ih := ih hl';rw [List.cons_append];by_cases e : x.1.1 = (k : Int)
  ·rw [bigM_yes e, bigM_yes e, ih, or_assoc (fit_em (k := k) (hl x (List.mem_cons_self ..)) e).good (fit_bigM hl').good (fit_bigM hm).good]
  ·rw [bigM_no e, bigM_no e, ih]
theorem bigG_append {k : Nat} {l m : List Id2} (hl : AllV l) (hm : AllV m) : bigG k (l ++ m) = (bigG k l).or (bigG k m) := by
 induction l with
 | nil => exact (zero_or (fit_bigG hm).1.good).symm
 | cons x l ih =>
  have hl' : AllV l := fun y hy => hl y (List.mem_cons_of_mem _ hy)
  have ih := ih hl';rw [List.cons_append];by_cases e : x.1 = (k : Int)
  ·rw [bigG_yes e, bigG_yes e, ih, or_assoc (fit_eg (k := k) (hl x (List.mem_cons_self ..)) e).good (fit_bigG hl').1.good (fit_bigG hm).1.good]
  ·rw [bigG_no e, bigG_no e, ih]
theorem or_four {a b c d : St} (ha : Good a) (hb : Good b) (hc : Good c) (hd : Good d) : (a.or b).or (c.or d) = (a.or c).or (b.or d) := by
 rw [or_assoc ha hb (or_good hc hd), or_assoc ha hc (or_good hb hd), ← or_assoc hb hc hd, or_comm b c, or_assoc hc hb hd]
theorem raw_append (m n : List Mm) (f g : List Id2) (k : Nat) : raw (m ++ n, f ++ g) k = (raw (m, f) k).or (raw (n, g) k) := by
 unfold raw;simp only [List.filter_append];rw [bigM_append (allC_filter _) (allC_filter _), bigG_append (allV_filter _) (allV_filter _)];exact or_four (fit_bigM (allC_filter _)).good (fit_bigM (allC_filter _)).good (fit_bigG (allV_filter _)).1.good (fit_bigG (allV_filter _)).1.good
def outM (S : Nat → St) : List Mm := (List.range 13).filterMap fun k => if (S k).n = 0 then none else some (((k : Int), (S k).n), (S k).s, (S k).p)
def outF (S : Nat → St) : List Id2 := (List.range 13).filterMap fun k => if (S k).f ≤ 0 then none else some ((k : Int), (S k).f)
def out (S : Nat → St) : Ls := (outM S, outF S)
def joinL (a b : Ls) : Ls := out fun k => kill ((raw a k).or (raw b k))
theorem filterMap_congr_range {α : Type} {f g : Nat → Option α} : ∀ (n : Nat), (∀ k, k < n → f k = g k) → (List.range n).filterMap f = (List.range n).filterMap g
 | 0, _ => rfl
 | n + 1, h => by
  rw [List.range_succ, List.filterMap_append, List.filterMap_append, filterMap_congr_range n fun k hk => h k (by omega)]
  simp only [List.filterMap_cons, List.filterMap_nil, h n (by omega)]
theorem out_congr {S S' : Nat → St} (h : ∀ k, k < 13 → S k = S' k) : out S = out S' := by
 unfold out outM outF;rw [filterMap_congr_range 13 fun k hk => by rw [h k hk], filterMap_congr_range (f := fun k => if (S k).f ≤ 0 then none else some ((k : Int), (S k).f)) 13 fun k hk => by rw [h k hk]]
theorem filter_range {α : Type} {h : Nat → Option α} {key : α → Int} (hk : ∀ j y, h j = some y → key y = (j : Int)) (k : Nat) : ∀ m, ((List.range m).filterMap h).filter (fun x => decide (key x = (k : Int))) = if k < m then (h k).toList else []
 | 0 => by simp
 | m + 1 => by
  rw [List.range_succ, List.filterMap_append, List.filter_append, filter_range hk k m];simp only [List.filterMap_cons, List.filterMap_nil];cases e : h m with
  | none =>
   simp only [List.filter_nil, List.append_nil];by_cases c : k < m
   ·rw [if_pos c, if_pos (by omega)]
   ·rw [if_neg c]
    by_cases c2 : k = m
    ·subst c2; rw [if_pos (by omega), e]; rfl
    ·rw [if_neg (by omega)]
  | some y =>
   have hy := hk m y e;by_cases c : k < m
   ·rw [if_pos c, if_pos (by omega)]
    have : decide (key y = (k : Int)) = false := by simp; omega
    simp [this]
   ·rw [if_neg c]
    by_cases c2 : k = m
    ·subst c2; rw [if_pos (by omega), e]; simp [hy]
    ·rw [if_neg (by omega)]
     have : decide (key y = (k : Int)) = false := by simp; omega
     simp [this]
def Norm (S : Nat → St) : Prop := ∀ k, Fit k (S k) ∧ kill (S k) = S k
theorem norm_join (a b : Ls) : Norm fun k => kill ((raw a k).or (raw b k)) := fun k =>
 have h := fit_or (fit_raw a k) (fit_raw b k);⟨fit_kill h, kill_kill h.good⟩
theorem mem_outM {S : Nat → St} {x : Mm} : x ∈ outM S ↔ ∃ k, k < 13 ∧ (S k).n ≠ 0 ∧ x = (((k : Int), (S k).n), (S k).s, (S k).p) := by
 unfold outM;rw [List.mem_filterMap];constructor
 ·rintro ⟨k, hk, h⟩
  refine ⟨k, List.mem_range.1 hk, ?_⟩
  split at h
  ·cases h
  ·rename_i e
   exact ⟨e, (Option.some.inj h).symm⟩
 ·rintro ⟨k, hk, hn, rfl⟩
  exact ⟨k, List.mem_range.2 hk, by rw [if_neg hn]⟩
theorem mem_outF {S : Nat → St} {x : Id2} : x ∈ outF S ↔ ∃ k, k < 13 ∧ 0 < (S k).f ∧ x = ((k : Int), (S k).f) := by
 unfold outF;rw [List.mem_filterMap];constructor
 ·rintro ⟨k, hk, h⟩
  refine ⟨k, List.mem_range.1 hk, ?_⟩
  split at h
  ·cases h
  ·rename_i e
   exact ⟨by omega, (Option.some.inj h).symm⟩
 ·rintro ⟨k, hk, hn, rfl⟩
  exact ⟨k, List.mem_range.2 hk, by rw [if_neg (by omega)]⟩
theorem Norm.six {S : Nat → St} (h : Norm S) {k : Nat} (hn : (S k).n ≠ 0) : (S k).s ≤ 6 ∧ 1 ≤ (S k).s ∧ (S k).f < (S k).n := by
 have := kill_six (h k).1 (by rw [(h k).2]; exact hn)
 rwa [(h k).2] at this
theorem Norm.pos {S : Nat → St} (h : Norm S) {k : Nat} (hn : (S k).n ≠ 0 ∨ 0 < (S k).f) : 1 ≤ k ∧ k ≤ 12 := by
 have := (h k).1.far
 rcases Nat.eq_zero_or_pos k with e | e
 ·rw [this (.inl e)] at hn; rcases hn with hn | hn
  ·exact absurd rfl hn
  ·exact absurd hn (by decide)
 ·rcases Nat.lt_or_ge 12 k with c | c
  ·rw [this (.inr c)] at hn; rcases hn with hn | hn
   ·exact absurd rfl hn
   ·exact absurd hn (by decide)
  ·exact ⟨e, c⟩
theorem outM_cnt {S : Nat → St} (h : Norm S) : AllC (outM S) := by
 intro x hx;obtain ⟨k, hk, hn, rfl⟩ := mem_outM.1 hx;have h6 := h.six hn;have hp := h.pos (.inl hn);have h0 := (h k).1.good.n0;have h1 := (h k).1.n1;exact cnt_iff.2 ⟨⟨by show (1 : Int) ≤ (k : Int); omega, by show (k : Int) ≤ 12; omega, by show 1 ≤ (S k).n; omega, h1⟩, h6.2.1, by show (S k).s ≤ 7; omega⟩
theorem outF_vid {S : Nat → St} (h : Norm S) : AllV (outF S) := by
 intro x hx;obtain ⟨k, hk, hn, rfl⟩ := mem_outF.1 hx;have hp := h.pos (.inr hn);have h1 := (h k).1.f1;exact vid_iff.2 ⟨by show (1 : Int) ≤ (k : Int); omega, by show (k : Int) ≤ 12; omega, by show 1 ≤ (S k).f; omega, h1⟩
theorem filter_all {α : Type} {p : α → Bool} {l : List α} (h : ∀ x ∈ l, p x = true) : l.filter p = l := List.filter_eq_self.2 h
theorem raw_out {S : Nat → St} (h : Norm S) (k : Nat) (hk : k < 13) : raw (out S) k = S k := by
 unfold raw out;simp only [];rw [filter_all (outM_cnt h), filter_all (outF_vid h)];have g := (h k).1.good;have f0 := g.f0;have n0 := g.n0
 have h1 : bigM k (outM S) = if (S k).n = 0 then St.zero else ⟨0, (S k).n, (S k).s, (S k).p⟩ := by
  unfold bigM outM
  rw [filter_range (key := fun x : Mm => x.1.1) (fun j y hj => by
   split at hj
   ·cases hj
   ·rw [← Option.some.inj hj]) k 13, if_pos hk]
  by_cases e : (S k).n = 0
  ·rw [if_pos e, if_pos e]; rfl
  ·rw [if_neg e, if_neg e]
   have hz := (h.six e).1;have gp := g.p0;have gs := g.s0;show (em (((k : Int), (S k).n), (S k).s, (S k).p)).or St.zero = _
   have e2 : em (((k : Int), (S k).n), (S k).s, (S k).p) = ⟨0, (S k).n, (S k).s, (S k).p⟩ := by
    refine St.ext4 ?_ rfl rfl ?_
    ·show (if (S k).s = 7 then (S k).n else 0) = 0
     rw [if_neg (by omega)]
    ·show max (S k).p 0 = (S k).p
     omega
   rw [e2, or_gt (x := ⟨0, (S k).n, (S k).s, (S k).p⟩) (y := St.zero) (by show 0 < (S k).n; omega)]
   rfl
 have h2 : bigG k (outF S) = if (S k).f ≤ 0 then St.zero else ⟨(S k).f, 0, 0, 0⟩ := by
  unfold bigG outF
  rw [filter_range (key := fun x : Id2 => x.1) (fun j y hj => by
   split at hj
   ·cases hj
   ·rw [← Option.some.inj hj]) k 13, if_pos hk]
  by_cases e : (S k).f ≤ 0
  ·rw [if_pos e, if_pos e]; rfl
  ·rw [if_neg e, if_neg e]
   show (eg ((k : Int), (S k).f)).or St.zero = _
   rw [or_eq (x := eg ((k : Int), (S k).f)) (y := St.zero) f0 rfl];refine St.ext4 ?_ rfl rfl rfl
   show max (S k).f 0 = (S k).f
   omega
 rw [h1, h2];by_cases e1 : (S k).n = 0
 ·rw [if_pos e1]
  have zs := g.zs e1;have zp := g.zp e1;by_cases e2 : (S k).f ≤ 0
  ·rw [if_pos e2]
   exact St.ext4 (by show (0 : Int) = (S k).f; omega) (by show (0 : Int) = (S k).n; omega) zs.symm zp.symm
  ·rw [if_neg e2]
   refine St.ext4 ?_ e1.symm zs.symm zp.symm
   show max (max 0 (S k).f) 0 = (S k).f
   omega
 ·rw [if_neg e1]
  by_cases e2 : (S k).f ≤ 0
  ·rw [if_pos e2, or_gt (x := ⟨0, (S k).n, (S k).s, (S k).p⟩) (y := St.zero) (by show 0 < (S k).n; omega)]
   refine St.ext4 ?_ rfl rfl rfl
   show (0 : Int) = (S k).f
   omega
  ·rw [if_neg e2, or_gt (x := ⟨0, (S k).n, (S k).s, (S k).p⟩) (y := ⟨(S k).f, 0, 0, 0⟩) (by show 0 < (S k).n; omega)]
   refine St.ext4 ?_ rfl rfl rfl
   show max (max 0 (S k).f) 0 = (S k).f
   omega
theorem joinL_left (a b c : Ls) : joinL (joinL a b) c = out fun k => kill (((raw a k).or (raw b k)).or (raw c k)) := out_congr fun k hk => by
 show kill ((raw (out _) k).or (raw c k)) = _
 rw [raw_out (norm_join a b) k hk];exact kill_or (fit_or (fit_raw a k) (fit_raw b k)).good (fit_raw c k).good
theorem joinL_comm (a b : Ls) : joinL a b = joinL b a := out_congr fun k _ => by rw [or_comm]
theorem joinL_assoc (a b c : Ls) : joinL (joinL a b) c = joinL a (joinL b c) := by
 rw [joinL_comm a (joinL b c), joinL_left, joinL_left]
 exact out_congr fun k _ => by
  rw [or_assoc (fit_raw a k).good (fit_raw b k).good (fit_raw c k).good, or_comm]
theorem joinL_again (a b : Ls) : joinL (joinL a b) a = joinL a b := by
 rw [joinL_left]
 exact out_congr fun k _ => by
  rw [or_comm, ← or_assoc (fit_raw a k).good (fit_raw a k).good (fit_raw b k).good, or_self (fit_raw a k).good]
end Ros
end
section
namespace Ros
def raise (L : Nat → Int) (x : Id2) : Nat → Int := fun k => if (k : Int) = x.1 then max (L k) x.2 else L k
def newest (ms : List Mm) : Nat → Int := ms.foldl (fun L x => raise L x.1) fun _ => 0
def isOld (nw : Nat → Int) (x : Mm) : Bool := decide (x.2.1 = 7) || decide (x.1.2 < nw x.1.1.toNat)
def raiseIf (nw : Nat → Int) (L : Nat → Int) (x : Mm) : Nat → Int := if isOld nw x = true then raise L x.1 else L
def floors (ms : List Mm) (gs : List Id2) : Nat → Int := ms.foldl (raiseIf (newest ms)) (gs.foldl raise fun _ => 0)
def putM (A : Nat → Mm) (x : Mm) : Nat → Mm := fun k => if (k : Int) = x.1.1 then (x.1, max (A k).2.1 x.2.1, elder (A k).2.2 x.2.2) else A k
def byAddr (ms : List Mm) : Nat → Mm := ms.foldl putM fun _ => ((0, 0), 0, 0)
def noM (x : Mm) : Bool := decide (x.2.1 = 0)
def united (ms : List Mm) : List Mm := ((List.range 13).map (byAddr ms)).filter fun x => !noM x
def listF (L : Nat → Int) : List Id2 := (List.range 13).filterMap fun k => if 0 < L k then some ((k : Int), L k) else none
def goneM (L : Nat → Int) (x : Mm) : Bool := decide (x.1.2 ≤ L x.1.1.toNat)
def joinP (m : List Mm) (f : List Id2) (n : List Mm) (g : List Id2) : Ls :=
 (united (((m ++ n).filter cnt).filter fun x => !goneM (floors ((m ++ n).filter cnt) ((f ++ g).filter vidP)) x), listF (floors ((m ++ n).filter cnt) ((f ++ g).filter vidP)))
theorem raise_yes {L : Nat → Int} {x : Id2} {k : Nat} (h : x.1 = (k : Int)) : raise L x k = max (L k) x.2 := if_pos h.symm
theorem raise_no {L : Nat → Int} {x : Id2} {k : Nat} (h : ¬ x.1 = (k : Int)) : raise L x k = L k := if_neg fun e => h e.symm
theorem raise_ge (L : Nat → Int) (x : Id2) (k : Nat) : L k ≤ raise L x k := by
 by_cases h : x.1 = (k : Int)
 ·rw [raise_yes h]; omega
 ·rw [raise_no h]; exact Int.le_refl _
theorem newest_at (k : Nat) : ∀ (ms : List Mm) (L : Nat → Int), 0 ≤ L k → (ms.foldl (fun L x => raise L x.1) L) k = max (L k) (bigM k ms).n
 | [], L, h => by show L k = max (L k) 0; omega
 | x :: l, L, h => by
  have hr : 0 ≤ raise L x.1 k := by unfold raise; split <;> omega
  rw [List.foldl_cons, newest_at k l _ hr];by_cases e : x.1.1 = (k : Int)
  ·rw [bigM_yes e, or_n]
   unfold raise;rw [if_pos e.symm];show _ = max (L k) (max x.1.2 _)
   omega
  ·rw [bigM_no e]
   unfold raise;rw [if_neg (fun h => e h.symm)]
theorem given_at (k : Nat) : ∀ (gs : List Id2) (L : Nat → Int), AllV gs → 0 ≤ L k → (gs.foldl raise L) k = max (L k) (bigG k gs).f
 | [], L, _, h => by show L k = max (L k) 0; omega
 | x :: l, L, hv, h => by
  have hr : 0 ≤ raise L x k := by unfold raise; split <;> omega
  have hl : AllV l := fun y hy => hv y (List.mem_cons_of_mem _ hy)
  rw [List.foldl_cons, given_at k l _ hl hr];by_cases e : x.1 = (k : Int)
  ·have hf := fit_eg (h := hv x (List.mem_cons_self ..)) e
   rw [bigG_yes e, or_eq hf.good.f0 (show (eg x).n = _ from (fit_bigG hl).2.1.symm)]
   unfold raise;rw [if_pos e.symm];show _ = max (L k) (max x.2 _)
   omega
  ·rw [bigG_no e]
   unfold raise;rw [if_neg (fun h => e h.symm)]
def under (k : Nat) (n : Int) : List Mm → Int
 | [] => 0
 | x :: l => if x.1.1 = (k : Int) ∧ (x.2.1 = 7 ∨ x.1.2 < n) then max x.1.2 (under k n l) else under k n l
theorem under_is (k : Nat) : ∀ (ms : List Mm), AllC ms → (bigM k ms).f ≤ (bigM k ms).n ∧ under k (bigM k ms).n ms = (bigM k ms).f ∧ ∀ n, (bigM k ms).n < n → under k n ms = (bigM k ms).n
 | [], _ => ⟨Int.le_refl _, rfl, fun _ _ => rfl⟩
 | x :: l, h => by
  have hl : AllC l := fun y hy => h y (List.mem_cons_of_mem _ hy)
  obtain ⟨i1, i2, i3⟩ := under_is k l hl;have g := (fit_bigM (k := k) hl).good;have f0 := g.f0;have n0 := g.n0;by_cases e : x.1.1 = (k : Int)
  ·have hx := fit_em (h x (List.mem_cons_self ..)) e
   have e0 : (em x).f = if x.2.1 = 7 then x.1.2 else 0 := rfl
   have xn : (em x).n = x.1.2 := rfl
   obtain ⟨⟨_, _, x1, _⟩, _⟩ := cnt_iff.1 (h x (List.mem_cons_self ..));rw [bigM_yes e];rcases Int.lt_trichotomy x.1.2 (bigM k l).n with c | c | c
   ·rw [or_lt (x := em x) c]
    simp only [under, e, true_and];refine ⟨?_, ?_, fun n hn => ?_⟩
    ·rw [xn, e0]; split <;> omega
    ·rw [if_pos (.inr c), i2, xn, e0]; split <;> omega
    ·rw [if_pos (.inr (by omega)), i3 n hn]; omega
   ·rw [or_eq (x := em x) hx.good.f0 c]
    simp only [under, e, true_and];refine ⟨?_, ?_, fun n hn => ?_⟩
    ·rw [e0]; split <;> omega
    ·rw [i2, e0]
     by_cases s7 : x.2.1 = 7
     ·rw [if_pos (.inl s7), if_pos s7]
     ·rw [if_neg (by omega), if_neg s7]; omega
    ·rw [if_pos (.inr (by omega)), i3 n hn]; omega
   ·rw [or_gt (x := em x) c]
    simp only [under, e, true_and, xn];refine ⟨?_, ?_, fun n hn => ?_⟩
    ·rw [e0]; split <;> omega
    ·rw [i3 _ c, e0]
     by_cases s7 : x.2.1 = 7
     ·rw [if_pos (.inl s7), if_pos s7]; omega
     ·rw [if_neg (by omega), if_neg s7]; omega
    ·rw [if_pos (.inr (by omega)), i3 n (by omega)]; omega
  ·rw [bigM_no e]
   refine ⟨i1, ?_, fun n hn => ?_⟩
   ·rw [under, if_neg (fun h => e h.1)]; exact i2
   ·rw [under, if_neg (fun h => e h.1)]; exact i3 n hn
theorem under_at (k : Nat) (nw : Nat → Int) : ∀ (ms : List Mm) (L : Nat → Int), 0 ≤ L k → (ms.foldl (raiseIf nw) L) k = max (L k) (under k (nw k) ms)
 | [], L, h => by show L k = max (L k) 0; omega
 | x :: l, L, h => by
  have hr : 0 ≤ raiseIf nw L x k := by
   have := raise_ge L x.1 k
   unfold raiseIf;split <;> omega
  rw [List.foldl_cons, under_at k nw l _ hr, under];by_cases e : x.1.1 = (k : Int)
  ·have ek : x.1.1.toNat = k := by omega
   by_cases o : x.2.1 = 7 ∨ x.1.2 < nw k
   ·have ho : isOld nw x = true := by unfold isOld; rw [ek]; simpa using o
    rw [if_pos ⟨e, o⟩];unfold raiseIf;rw [if_pos ho, raise_yes e];omega
   ·have ho : ¬ isOld nw x = true := by unfold isOld; rw [ek]; simpa using o
    rw [if_neg (fun h => o h.2)]
    unfold raiseIf;rw [if_neg ho]
  ·rw [if_neg (fun h => e h.1)]
   unfold raiseIf;split
   ·rw [raise_no e]
   ·rfl
theorem bigM_bigG {k : Nat} {ms : List Mm} {gs : List Id2} (hm : AllC ms) (hg : AllV gs) : (bigM k ms).or (bigG k gs) = ⟨max (bigM k ms).f (bigG k gs).f, (bigM k ms).n, (bigM k ms).s, (bigM k ms).p⟩ := by
 obtain ⟨g1, g2, g3, g4⟩ := fit_bigG (k := k) hg;have a := (fit_bigM (k := k) hm).good;have n0 := a.n0;have f0 := a.f0;have s0 := a.s0;have p0 := a.p0;rcases Int.lt_or_le 0 (bigM k ms).n with c | c
 ·rw [or_gt (by rw [g2]; exact c)]
  refine St.ext4 ?_ rfl rfl rfl
  show max (max (bigM k ms).f (bigG k gs).f) (bigG k gs).n = max (bigM k ms).f (bigG k gs).f
  rw [g2];omega
 ·have e : (bigM k ms).n = 0 := by omega
  rw [or_eq f0 (by rw [g2]; exact e)]
  refine St.ext4 rfl (by show (bigG k gs).n = _; rw [g2, e]) ?_ ?_
  ·show max _ (bigG k gs).s = _; rw [g3]; show max (bigM k ms).s 0 = (bigM k ms).s; omega
  ·show elder _ (bigG k gs).p = _; rw [g4]; exact elder_zero p0
theorem floors_at {ms : List Mm} {gs : List Id2} (hm : AllC ms) (hg : AllV gs) (k : Nat) : floors ms gs k = ((bigM k ms).or (bigG k gs)).f ∧ newest ms k = ((bigM k ms).or (bigG k gs)).n := by
 have hn : newest ms k = (bigM k ms).n := by
  unfold newest;rw [newest_at k ms _ (Int.le_refl _)];have := (fit_bigM (k := k) hm).good.n0
  show max 0 _ = _
  omega
 have g0 := (fit_bigG (k := k) hg).1.good.f0;have f0 := (fit_bigM (k := k) hm).good.f0
 have hg' : (gs.foldl raise fun _ => 0) k = (bigG k gs).f := by
  rw [given_at k gs _ hg (Int.le_refl _)];show max 0 _ = _
  omega
 rw [bigM_bigG hm hg];refine ⟨?_, hn⟩
 unfold floors;rw [under_at k _ ms _ (by rw [hg']; exact g0), hg', hn, (under_is k ms hm).2.1]
 show _ = max (bigM k ms).f (bigG k gs).f
 omega
def pickS (k : Nat) (n : Int) : List Mm → Int
 | [] => 0
 | x :: l => if x.1.1 = (k : Int) ∧ x.1.2 = n then max x.2.1 (pickS k n l) else pickS k n l
def pickP (k : Nat) (n : Int) : List Mm → Int
 | [] => 0
 | x :: l => if x.1.1 = (k : Int) ∧ x.1.2 = n then elder (max x.2.2 0) (pickP k n l) else pickP k n l
theorem pick_is (k : Nat) : ∀ (ms : List Mm), AllC ms → (pickS k (bigM k ms).n ms = (bigM k ms).s ∧ pickP k (bigM k ms).n ms = (bigM k ms).p) ∧ ∀ n, (bigM k ms).n < n → pickS k n ms = 0 ∧ pickP k n ms = 0
 | [], _ => ⟨⟨rfl, rfl⟩, fun _ _ => ⟨rfl, rfl⟩⟩
 | x :: l, h => by
  have hl : AllC l := fun y hy => h y (List.mem_cons_of_mem _ hy)
  obtain ⟨⟨i1, i2⟩, i3⟩ := pick_is k l hl;have g := (fit_bigM (k := k) hl).good;by_cases e : x.1.1 = (k : Int)
  ·have hx := fit_em (h x (List.mem_cons_self ..)) e
   have xn : (em x).n = x.1.2 := rfl
   have xs : (em x).s = x.2.1 := rfl
   have xp : (em x).p = max x.2.2 0 := rfl
   have s0 := hx.good.s0;rw [bigM_yes e];rcases Int.lt_trichotomy x.1.2 (bigM k l).n with c | c | c
   ·rw [or_lt (x := em x) c]
    simp only [pickS, pickP, e, true_and];refine ⟨⟨by rw [if_neg (by omega)]; exact i1, by rw [if_neg (by omega)]; exact i2⟩, fun n hn => ?_⟩
    rw [if_neg (by omega), if_neg (by omega)]
    exact i3 n hn
   ·rw [or_eq (x := em x) hx.good.f0 c]
    simp only [pickS, pickP, e, true_and];refine ⟨⟨by rw [if_pos c, i1, xs], by rw [if_pos c, i2, xp]⟩, fun n hn => ?_⟩
    rw [if_neg (by omega), if_neg (by omega)]
    exact i3 n hn
   ·rw [or_gt (x := em x) c]
    simp only [pickS, pickP, e, true_and, xn];obtain ⟨j1, j2⟩ := i3 _ c;refine ⟨⟨by rw [if_pos trivial, j1, xs]; omega, by rw [if_pos trivial, j2, xp]; exact elder_zero (by omega)⟩, fun n hn => ?_⟩
    rw [if_neg (by omega), if_neg (by omega)]
    exact i3 n (by omega)
  ·rw [bigM_no e]
   simp only [pickS, pickP, e, false_and, if_false];exact ⟨⟨i1, i2⟩, i3⟩
theorem put_at (k : Nat) (n : Int) (al : Mm → Bool) : ∀ (ms : List Mm) (A : Nat → Mm), (∀ x ∈ ms, x.1.1 = (k : Int) → (al x = true ↔ x.1.2 = n)) → 0 ≤ (A k).2.1 → 0 ≤ (A k).2.2 →
  ((ms.filter al).foldl putM A) k = (if ms.any (fun x => decide (x.1.1 = (k : Int) ∧ x.1.2 = n)) then ((k : Int), n) else (A k).1, max (A k).2.1 (pickS k n ms), elder (A k).2.2 (pickP k n ms))
 | [], A, _, hs, hp => by
  show A k = ((A k).1, max (A k).2.1 0, elder (A k).2.2 0)
  rw [elder_zero hp, Int.max_eq_left hs]
 | x :: l, A, h, hs, hp => by
  have hl := fun y hy => h y (List.mem_cons_of_mem x hy)
  have hx := h x (List.mem_cons_self ..);by_cases e : x.1.1 = (k : Int)
  ·by_cases c : x.1.2 = n
   ·have hal := (hx e).2 c
    have hk : putM A x k = (x.1, max (A k).2.1 x.2.1, elder (A k).2.2 x.2.2) := by unfold putM; rw [if_pos e.symm]
    have hid : x.1 = ((k : Int), n) := by rw [← e, ← c]
    rw [List.filter_cons_of_pos hal, List.foldl_cons, put_at k n al l (putM A x) hl (by rw [hk]; show 0 ≤ max _ _; omega) (by rw [hk]; exact elder_nn _ _), hk]
    have ha : (x :: l).any (fun x => decide (x.1.1 = (k : Int) ∧ x.1.2 = n)) = true := by simp [e, c]
    rw [ha];simp only [pickS, pickP, if_pos (And.intro e c)];refine Prod.ext ?_ (Prod.ext ?_ ?_)
    ·show (if _ then _ else x.1) = ((k : Int), n)
     split
     ·rfl
     ·exact hid
    ·show max (max _ _) _ = max _ (max _ _)
     omega
    ·show elder (elder _ _) _ = elder _ (elder _ _)
     rw [elder_assoc];congr 1
     rw [elder_comm (max x.2.2 0), elder_max, elder_comm]
   ·have hal : ¬ al x = true := fun h => c ((hx e).1 h)
    rw [List.filter_cons_of_neg hal, put_at k n al l A hl hs hp];have ha : (x :: l).any (fun x => decide (x.1.1 = (k : Int) ∧ x.1.2 = n)) = l.any (fun x => decide (x.1.1 = (k : Int) ∧ x.1.2 = n)) := by simp [c]
    rw [ha];simp only [pickS, pickP, if_neg (fun h : x.1.1 = (k : Int) ∧ x.1.2 = n => c h.2)]
  ·have ha : (x :: l).any (fun x => decide (x.1.1 = (k : Int) ∧ x.1.2 = n)) = l.any (fun x => decide (x.1.1 = (k : Int) ∧ x.1.2 = n)) := by simp [e]
   have hk : putM A x k = A k := by unfold putM; rw [if_neg (fun h => e h.symm)]
   rw [ha];simp only [pickS, pickP, if_neg (fun h : x.1.1 = (k : Int) ∧ x.1.2 = n => e h.1)]
   by_cases c : al x = true
   ·rw [List.filter_cons_of_pos c, List.foldl_cons, put_at k n al l (putM A x) hl (by rw [hk]; exact hs) (by rw [hk]; exact hp), hk]
   ·rw [List.filter_cons_of_neg c, put_at k n al l A hl hs hp]
theorem inc_le {k : Nat} : ∀ {ms : List Mm} {x : Mm}, x ∈ ms → x.1.1 = (k : Int) → x.1.2 ≤ (bigM k ms).n
 | y :: l, x, h, e => by
  rcases List.mem_cons.1 h with rfl | h
  ·rw [bigM_yes e, or_n]; show x.1.2 ≤ max x.1.2 _; omega
  ·have := inc_le h e
   by_cases e2 : y.1.1 = (k : Int)
   ·rw [bigM_yes e2, or_n]; omega
   ·rw [bigM_no e2]; exact this
theorem under_le {k : Nat} {n : Int} : ∀ {ms : List Mm} {x : Mm}, x ∈ ms → x.1.1 = (k : Int) → x.1.2 < n → x.1.2 ≤ under k n ms
 | y :: l, x, h, e, c => by
  rw [under];rcases List.mem_cons.1 h with rfl | h
  ·rw [if_pos ⟨e, .inr c⟩]; omega
  ·have := under_le h e c
   split <;> omega
theorem pickS_zero {k : Nat} {n : Int} : ∀ {ms : List Mm}, ms.any (fun x => decide (x.1.1 = (k : Int) ∧ x.1.2 = n)) = false → pickS k n ms = 0 ∧ pickP k n ms = 0
 | [], _ => ⟨rfl, rfl⟩
 | x :: l, h => by
  rw [List.any_cons, Bool.or_eq_false_iff] at h;have c := of_decide_eq_false h.1;rw [pickS, pickP, if_neg c, if_neg c];exact pickS_zero h.2
theorem byAddr_at {ms : List Mm} {gs : List Id2} (hm : AllC ms) (hg : AllV gs) (k : Nat) :
  byAddr (ms.filter fun x => !goneM (floors ms gs) x) k = if (kill ((bigM k ms).or (bigG k gs))).n = 0 then ((0, 0), 0, 0) else (((k : Int), (kill ((bigM k ms).or (bigG k gs))).n), (kill ((bigM k ms).or (bigG k gs))).s, (kill ((bigM k ms).or (bigG k gs))).p) := by
 obtain ⟨hf, hn⟩ := floors_at hm hg k;have hB := bigM_bigG (k := k) hm hg;have fB := fit_bigM (k := k) hm;have n0 := fB.good.n0;have s0 := fB.good.s0;have p0 := fB.good.p0;have hu := under_is k ms hm;generalize hR : (bigM k ms).or (bigG k gs) = R at *;have hRn : R.n = (bigM k ms).n := by rw [hB]
 have hRs : R.s = (bigM k ms).s := by rw [hB]
 have hRp : R.p = (bigM k ms).p := by rw [hB]
 have hRf : (bigM k ms).f ≤ R.f := by rw [hB]; show _ ≤ max _ _; omega
 have R0 : 0 ≤ R.f := by have := fB.good.f0; omega
 unfold byAddr;by_cases c : R.n ≤ R.f
 ·have r : kill R = ⟨R.f, 0, 0, 0⟩ := if_pos c
  rw [r, if_pos rfl]
  have e : ms.any (fun x => decide (x.1.1 = (k : Int) ∧ x.1.2 = R.n + 1)) = false := by
   rw [List.any_eq_false];intro x hx;simp only [decide_eq_true_eq];rintro ⟨e1, e2⟩;have := inc_le hx e1
   omega
  rw [put_at k (R.n + 1) _ ms _ (fun x hx e1 => by
   have h1 := inc_le hx e1;have ek : x.1.1.toNat = k := by omega
   unfold goneM;rw [ek, hf];simp only [Bool.not_eq_true', decide_eq_false_iff_not];constructor <;> intro h <;> omega) (Int.le_refl _) (Int.le_refl _), e, (pickS_zero e).1, (pickS_zero e).2]
  rfl
 ·have r : kill R = R := if_neg c
  rw [r]
  rw [put_at k R.n _ ms _ (fun x hx e1 => by
   have h1 := inc_le hx e1;have ek : x.1.1.toNat = k := by omega
   unfold goneM;rw [ek, hf];simp only [Bool.not_eq_true', decide_eq_false_iff_not];constructor
   ·intro h
    rcases Int.lt_or_le x.1.2 (bigM k ms).n with d | d
    ·have := under_le hx e1 d
     rw [hu.2.1] at this;omega
    ·omega
   ·intro h; omega) (Int.le_refl _) (Int.le_refl _)]
  have hp := (pick_is k ms hm).1;rw [hRn, hp.1, hp.2];by_cases z : (bigM k ms).n = 0
  ·omega
  ·rw [if_neg z]
   have h1 := fB.ns z
   have ha : ms.any (fun x => decide (x.1.1 = (k : Int) ∧ x.1.2 = (bigM k ms).n)) = true := by
    rcases h : ms.any (fun x => decide (x.1.1 = (k : Int) ∧ x.1.2 = (bigM k ms).n)) with _ | _
    ·have := (pickS_zero h).1
     rw [hp.1] at this;omega
    ·rfl
   rw [ha, hRs, hRp];refine Prod.ext rfl (Prod.ext ?_ ?_)
   ·show max 0 (bigM k ms).s = (bigM k ms).s; omega
   ·show elder 0 (bigM k ms).p = (bigM k ms).p; rw [zero_elder]; omega
theorem filter_map_range {α : Type} {g : Nat → α} {p : α → Bool} {h : Nat → Option α} (e : ∀ k, h k = if p (g k) = true then some (g k) else none) : ∀ n, ((List.range n).map g).filter p = (List.range n).filterMap h
 | 0 => rfl
 | n + 1 => by
  rw [List.range_succ, List.map_append, List.filter_append, List.filterMap_append, filter_map_range e n];congr 1
  simp only [List.map_cons, List.map_nil, List.filterMap_cons, List.filterMap_nil, e n];by_cases c : p (g n) = true
  ·simp [c]
  ·simp [c]
theorem joinP_is (m : List Mm) (f : List Id2) (n : List Mm) (g : List Id2) : joinP m f n g = joinL (m, f) (n, g) := by
 have hm := allC_filter (m ++ n);have hg := allV_filter (f ++ g);have hraw : ∀ k, (bigM k ((m ++ n).filter cnt)).or (bigG k ((f ++ g).filter vidP)) = (raw (m, f) k).or (raw (n, g) k) := fun k => raw_append m n f g k
 unfold joinP joinL out;refine Prod.ext ?_ ?_
 ·simp only []
  unfold united outM;refine filter_map_range (fun k => ?_) 13
  rw [byAddr_at hm hg k, hraw k];have hk := kill_six (fit_or (fit_raw (m, f) k) (fit_raw (n, g) k));by_cases z : (kill ((raw (m, f) k).or (raw (n, g) k))).n = 0
  ·rw [if_pos z, if_pos z]; rfl
  ·have := (hk z).2.1
   rw [if_neg z, if_neg z, if_pos];simp [noM]
   omega
 ·simp only []
  unfold listF outF;refine filterMap_congr_range 13 fun k _ => ?_
  have hkf : ∀ x : St, (kill x).f = x.f := fun x => by unfold kill; split <;> rfl
  rw [(floors_at hm hg k).1, hraw k, hkf];by_cases z : ((raw (m, f) k).or (raw (n, g) k)).f ≤ 0
  ·rw [if_pos z, if_neg (by omega)]
  ·rw [if_neg z, if_pos (by omega)]
end Ros
end
section
open Go.RowKit Ros
theorem may_anyROS (a i : Int) (w : World) :
  Calls Tryz.prog 64 #[.agg #[.int .i64 a, .int .i64 i]] w fun e w' => e = .returned (.bool (vid a i)) ∧ Below w.heap.size w w' := by
 by_cases h1 : 1 ≤ a
 ·by_cases h2 : a ≤ 12
  ·by_cases h3 : 1 ≤ i
   ·by_cases h4 : i ≤ 1048576
    ·have h5 := hd_ (show vid a i = true by simp [vid]; omega)
     go_enter Tryz.func64, Tryz.ntmps64
     go_wp2_with fail;go_ret;exact ⟨by rw [h5.out]; rfl, (Below.refl _ _).alloc (Nat.le_refl _) _⟩
    ·have h5 := hd_ (show vid a i = false by simp [vid]; omega)
     go_enter Tryz.func64, Tryz.ntmps64
     go_wp2_with fail;go_ret;exact ⟨by rw [h5.out]; rfl, (Below.refl _ _).alloc (Nat.le_refl _) _⟩
   ·have h5 := hd_ (show vid a i = false by simp [vid]; omega)
    go_enter Tryz.func64, Tryz.ntmps64
    go_wp2_with fail;go_ret;exact ⟨by rw [h5.out]; rfl, (Below.refl _ _).alloc (Nat.le_refl _) _⟩
  ·have h5 := hd_ (show vid a i = false by simp [vid]; omega)
   go_enter Tryz.func64, Tryz.ntmps64
   go_wp2_with fail;go_ret;exact ⟨by rw [h5.out]; rfl, (Below.refl _ _).alloc (Nat.le_refl _) _⟩
 ·have h5 := hd_ (show vid a i = false by simp [vid]; omega)
  go_enter Tryz.func64, Tryz.ntmps64
  go_wp2_with fail;go_ret;exact ⟨by rw [h5.out]; rfl, (Below.refl _ _).alloc (Nat.le_refl _) _⟩
end
section
open Go.RowKit
theorem info30 : (Tryz.prog.info? 29).map (fun i => (i.zero, i.size, i.bytes)) = some (some (.agg #[.int .i64 0, .int .i64 0]), 2, 16) := by kernel_rfl
theorem wpList_append_listROS {ops : Array Oper} {rest : List Oper} {o : Oper} {a : Act} {Q : Exit → Act → World → Prop} (hgd : o.guard = none) (s x : Operand)
  (ho : o.op = .call { callee := .builtin .append, args := #[s, x], argTypes := #[23, 23] })
  (wr : World) (base : Nat) (v u : Value) (d l : List (Int × Int)) (hs : a.eval s = v) (hx : a.eval x = u)
  (hown : Owns wr base v d) (hI : Ids wr u l) (hl : d.length + l.length ≤ 100000) (hb : base ≤ wr.heap.size)
  (h : ∀ v' w', Owns w' base v' (d ++ l) → Below base wr w' → wpList Tryz.prog ops Q rest (a.put o.dst v') w') :
  wpList Tryz.prog ops Q (o :: rest) a wr := by
 obtain ⟨i0, hi, hz0, hz1, hz2⟩ := info_parts info30;obtain ⟨A, c, rfl, h0, hc, hk⟩ := hI;cases A with
 | none =>
  obtain rfl := h0 rfl;have hn : l = [] := List.eq_nil_of_length_eq_zero (by omega)
  subst hn;refine wpList_append_own_none hgd s x 23 ho base 29 i0 2 Tryz.underlying23 hi _ d.length (flat d) hs hown hx (h _ _ (by rw [List.append_nil]; exact hown) (Below.refl _ _))
 | some ad =>
  refine wpList_append_own _ hgd s x 23 ho base 29 i0 (.agg #[.int .i64 0, .int .i64 0]) 2 16 Tryz.underlying23 hi hz0 hz1 hz2 rfl (by decide) v d.length (flat d) hs hown ad l.length c (flat l) hx (flat_len l)
   (fun j u hu => ?_) (flat_one l) (by unfold maxLen; omega) (by omega) hb ?_
  ·obtain ⟨k, hlt, hj⟩ := flat_split hu
   obtain ⟨ad', e, h1, h2, h3⟩ := hk k hlt;injection e with e
   subst e;rcases hj with ⟨rfl, rfl⟩ | ⟨rfl, rfl⟩
   ·exact h2
   ·rw [add_odd]
    exact h3
  ·intro v' w' h1 h2 _
   refine h v' w' ?_ ((Below.refl base wr).grown h2 hb fun k hk => (World.ownsRow.lt hown k hk).1)
   unfold Owns;rw [flat_append, List.length_append];exact h1
theorem wpList_append_oneROS {ops : Array Oper} {rest : List Oper} {o : Oper} {a : Act} {Q : Exit → Act → World → Prop} (hgd : o.guard = none) (s x : Operand)
  (ho : o.op = .call { callee := .builtin .append, args := #[s, x], argTypes := #[23, 23] })
  (wr : World) (base : Nat) (v : Value) (d : List (Int × Int)) (p q : Int) (hs : a.eval s = v) (hx : a.eval x = .slice (some ⟨wr.heap.size, 0, none⟩) 1 1)
  (hown : Owns wr base v d) (hl : d.length ≤ 99999) (hb : base ≤ wr.heap.size)
  (h : ∀ v' w', Owns w' base v' (d ++ [(p, q)]) → Below base wr w' → wpList Tryz.prog ops Q rest (a.put o.dst v') w') :
  wpList Tryz.prog ops Q (o :: rest) a (wr.alloc (.cells #[.int .i64 p, .int .i64 q] 29)) := by
 refine wpList_append_listROS hgd s x ho _ base v _ d [(p, q)] hs hx (hown.below ((Below.refl _ _).alloc (Nat.le_refl _) _)) (ids_one wr p q) (by simp; omega) (by simp; omega) fun v' w' h1 h2 => h v' w' h1 ?_
 exact ((Below.refl base wr).alloc hb _).trans h2
theorem wpList_make_roomROS {ops : Array Oper} {rest : List Oper} {o : Oper} {a : Act} {Q : Exit → Act → World → Prop} (w : World) (hgd : o.guard = none) (x : Operand) (hop : o.op = .makeSlice 23 (.const (.int .i64 0)) x) (C : Int) (hx : a.eval x = .int .i64 C) (h0 : 0 ≤ C) (hn : C ≤ 100000)
  (h : ∀ v' w', Owns w' w.heap.size v' [] → Below w.heap.size w w' → wpList Tryz.prog ops Q rest (a.put o.dst v') w') : wpList Tryz.prog ops Q (o :: rest) a w := by
 obtain ⟨i0, hi, hz0, hz1, hz2⟩ := info_parts info30;obtain ⟨n, rfl⟩ := Int.eq_ofNat_of_zero_le h0
 exact wpList_make_own w hgd _ x 23 hop w.heap.size 29 i0 (.agg #[.int .i64 0, .int .i64 0]) 2 Tryz.underlying23 hi hz0 hz1 .i64 .i64 n n rfl hx rfl (by rw [hz2]; omega) (by unfold maxLen; omega) (Nat.le_refl _)
  fun w' h1 h2 => h _ w' h1 ((Below.refl w.heap.size w).grown h2 (Nat.le_refl _) (fun k hk => by cases hk))
end
end Go.Proofs.YthkkipbmlafdiaaGreat
