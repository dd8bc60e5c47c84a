/-
  Carried over and put together: contracts of this program's functions, and plain facts. No statement is proved in this text.
-/
import Derived.Test.YthkkipbmlafdiaaGreatRows
import Derived.WalkKit
import Derived.WalkSpells
import Derived.WalkLawsBesides
import Derived.OwnWalk
import Derived.Deep.AppendLies
import Derived.Outline
import Derived.IntWalk
import Derived.Deep.LoopGhost
import Derived.Handy
import Derived.Lib.Hide
import Derived.Deep.RegionWith
import Derived.Deep.RegionHeld3
import Derived.BigQuiet
import Derived.Deep.QuietTactic
import Derived.Laws.AppendOwnNone
import Derived.Test.YthkkipbmlafdiaaGreatN00
set_option maxRecDepth 20000
namespace Go.Proofs.YthkkipbmlafdiaaGreat
open Sets
def lss (a i b j : Int) : Bool := decide (a < b ∨ a = b ∧ i < j)
theorem lss_iff (x y : Id2) : lss x.1 x.2 y.1 y.2 = true ↔ lt x y := by simp [lss, lt]
def cmpZ (a i b j : Int) : Int := if lss a i b j = true then -1 else if lss b j a i = true then 1 else 0
theorem cmpZ_eq (x y : Id2) : cmpZ x.1 x.2 y.1 y.2 = if lt x y then -1 else if lt y x then 1 else 0 := by
 unfold cmpZ
 simp only [lss_iff]
def risesB : List Id2 → Bool
 | x :: y :: l => lss x.1 x.2 y.1 y.2 && risesB (y :: l)
 | _ => true
theorem risesB_iff : ∀ l : List Id2, risesB l = true ↔ Rises l
 | [] => by simp [risesB, Rises]
 | [x] => by simp [risesB, Rises]
 | x :: y :: l => by
  rw [risesB, Bool.and_eq_true, lss_iff, risesB_iff (y :: l), rises_cons (x := x)]
  constructor
  ·rintro ⟨h1, h2⟩
   refine ⟨fun z hz => ?_, h2⟩
   rcases List.mem_cons.1 hz with e | e
   ·exact e ▸ h1
   ·exact lt_trans h1 ((rises_cons.1 h2).1 z e)
  ·rintro ⟨h1, h2⟩
   exact ⟨h1 y (List.mem_cons_self ..), h2⟩
theorem risesB_take {l : List Id2} : ∀ {k : Nat} (h : k + 1 < l.length), risesB (l.take (k + 2)) = (risesB (l.take (k + 1)) && lss l[k].1 l[k].2 l[k+1].1 l[k+1].2) := by
 induction l with
 | nil => intro k h; simp at h
 | cons x l ih =>
  intro k h
  cases l with
  | nil => simp at h
  | cons y l =>
   cases k with
   | zero => simp [risesB]
   | succ k =>
    have := ih (k := k) (by simpa using h)
    simp only [List.take_succ_cons, risesB] at this ⊢
    rw [this, Bool.and_assoc]
    rfl
theorem risesB_not {l : List Id2} : ∀ {k : Nat} (h : k + 1 < l.length), lss l[k].1 l[k].2 l[k+1].1 l[k+1].2 = false → risesB l = false := by
 induction l with
 | nil => intro k h; simp at h
 | cons x l ih =>
  intro k h hv
  cases l with
  | nil => simp at h
  | cons y l =>
   cases k with
   | zero => simp only [risesB, Bool.and_eq_false_iff]; exact .inl hv
   | succ k => simp only [risesB, Bool.and_eq_false_iff]; exact .inr (ih (k := k) (by simpa using h) hv)
theorem risesB_one (l : List Id2) : risesB (l.take 1) = true := by
 cases l <;> rfl
def headZ : List Id2 → List Id2 → Int
 | _, [] => -1
 | [], _ :: _ => 1
 | x :: _, y :: _ => cmpZ x.1 x.2 y.1 y.2
def stepL (l m : List Id2) : List Id2 := if headZ l m ≤ 0 then l.tail else l
def stepM (l m : List Id2) : List Id2 := if 0 ≤ headZ l m then m.tail else m
def stepX (l m : List Id2) : Id2 := if 0 ≤ headZ l m then m.headD (0, 0) else l.headD (0, 0)
theorem step_less (l m : List Id2) (h : ¬ (l = [] ∧ m = [])) : (stepL l m).length + (stepM l m).length < l.length + m.length := by
 unfold stepL stepM
 cases l with
 | nil =>
  cases m with
  | nil => exact absurd ⟨rfl, rfl⟩ h
  | cons y m => simp [headZ]
 | cons x l =>
  cases m with
  | nil => simp [headZ]
  | cons y m =>
   by_cases h1 : headZ (x :: l) (y :: m) ≤ 0
   ·by_cases h2 : 0 ≤ headZ (x :: l) (y :: m)
    ·rw [if_pos h1, if_pos h2]
     simp only [List.tail, List.length_cons]
     omega
    ·rw [if_pos h1, if_neg h2]
     simp only [List.tail, List.length_cons]
     omega
   ·rw [if_neg h1, if_pos (by omega)]
    simp only [List.tail, List.length_cons]
    omega
def mrgN (k : Bool → Bool → Bool) : Nat → List Id2 → List Id2 → List Id2
 | 0, _, _ => []
 | n + 1, l, m => if l = [] ∧ m = [] then [] else (if k (decide (headZ l m ≤ 0)) (decide (0 ≤ headZ l m)) = true then [stepX l m] else []) ++ mrgN k n (stepL l m) (stepM l m)
def mrg (k : Bool → Bool → Bool) (l m : List Id2) : List Id2 := mrgN k (l.length + m.length) l m
theorem mrgN_none (k : Bool → Bool → Bool) (n : Nat) : mrgN k n [] [] = [] := by
 cases n with
 | zero => rfl
 | succ n => rw [mrgN, if_pos ⟨rfl, rfl⟩]
theorem both_none {l m : List Id2} (h : l.length + m.length ≤ 0) : l = [] ∧ m = [] := ⟨List.eq_nil_of_length_eq_zero (by omega), List.eq_nil_of_length_eq_zero (by omega)⟩
theorem mrgN_same (k : Bool → Bool → Bool) : ∀ (a b : Nat) (l m : List Id2), l.length + m.length ≤ a → l.length + m.length ≤ b → mrgN k a l m = mrgN k b l m := by
 intro a
 induction a with
 | zero =>
  intro b l m h _
  obtain ⟨rfl, rfl⟩ := both_none h
  rw [mrgN_none, mrgN_none]
 | succ a ih =>
  intro b l m h h2
  cases b with
  | zero =>
   obtain ⟨rfl, rfl⟩ := both_none h2
   rw [mrgN_none, mrgN_none]
  | succ b =>
   rw [mrgN, mrgN]
   by_cases hn : l = [] ∧ m = []
   ·rw [if_pos hn, if_pos hn]
   ·have := step_less l m hn
    rw [if_neg hn, if_neg hn, ih b (stepL l m) (stepM l m) (by omega) (by omega)]
theorem mrg_none (k : Bool → Bool → Bool) : mrg k [] [] = [] := rfl
theorem mrg_step (k : Bool → Bool → Bool) (l m : List Id2) (h : ¬ (l = [] ∧ m = [])) :
  mrg k l m = (if k (decide (headZ l m ≤ 0)) (decide (0 ≤ headZ l m)) = true then [stepX l m] else []) ++ mrg k (stepL l m) (stepM l m) := by
 have hs := step_less l m h
 unfold mrg
 obtain ⟨n, hn⟩ : ∃ n, l.length + m.length = n + 1 := ⟨l.length + m.length - 1, by omega⟩
 rw [hn, mrgN, if_neg h, mrgN_same k n _ (stepL l m) (stepM l m) (by omega) (Nat.le_refl _)]
theorem mrg_left {k : Bool → Bool → Bool} {x : Id2} {l m : List Id2} (h : headZ (x :: l) m = -1) : mrg k (x :: l) m = (if k true false = true then [x] else []) ++ mrg k l m := by
 rw [mrg_step k (x :: l) m (by simp)]
 unfold stepX stepL stepM
 rw [h]
 rfl
theorem mrg_same {k : Bool → Bool → Bool} {x y : Id2} {l m : List Id2} (h : headZ (x :: l) (y :: m) = 0) : mrg k (x :: l) (y :: m) = (if k true true = true then [y] else []) ++ mrg k l m := by
 rw [mrg_step k (x :: l) (y :: m) (by simp)]
 unfold stepX stepL stepM
 rw [h]
 rfl
theorem mrg_right {k : Bool → Bool → Bool} {y : Id2} {l m : List Id2} (h : headZ l (y :: m) = 1) : mrg k l (y :: m) = (if k false true = true then [y] else []) ++ mrg k l m := by
 rw [mrg_step k l (y :: m) (by simp)]
 unfold stepX stepL stepM
 rw [h]
 rfl
def Kept (k : Bool → Bool → Bool) (l m r : List Id2) : Prop := Rises r ∧ ∀ z, z ∈ r ↔ (z ∈ l ∨ z ∈ m) ∧ k (decide (z ∈ l)) (decide (z ∈ m)) = true
theorem kept_one {k : Bool → Bool → Bool} {l m l' m' r : List Id2} {x : Id2} {p q : Bool} (ih : Kept k l' m' r) (hl : ∀ z, z ∈ l ↔ (z = x ∧ p = true) ∨ z ∈ l') (hm : ∀ z, z ∈ m ↔ (z = x ∧ q = true) ∨ z ∈ m')
  (hpq : p = true ∨ q = true) (h1 : ∀ z ∈ l', lt x z) (h2 : ∀ z ∈ m', lt x z) : Kept k l m ((if k p q = true then [x] else []) ++ r) := by
 obtain ⟨i1, i2⟩ := ih
 have xl : x ∉ l' := fun h => lt_irrefl x (h1 x h)
 have xm : x ∉ m' := fun h => lt_irrefl x (h2 x h)
 have dl : decide (x ∈ l) = p := by
  cases p
  ·exact decide_eq_false fun h => by rcases (hl x).1 h with e | e; exact absurd e.2 (by decide); exact xl e
  ·exact decide_eq_true ((hl x).2 (.inl ⟨rfl, rfl⟩))
 have dm : decide (x ∈ m) = q := by
  cases q
  ·exact decide_eq_false fun h => by rcases (hm x).1 h with e | e; exact absurd e.2 (by decide); exact xm e
  ·exact decide_eq_true ((hm x).2 (.inl ⟨rfl, rfl⟩))
 have hx : x ∈ l ∨ x ∈ m := by
  rcases hpq with e | e
  ·exact .inl ((hl x).2 (.inl ⟨rfl, e⟩))
  ·exact .inr ((hm x).2 (.inl ⟨rfl, e⟩))
 have xr : x ∉ r := fun h => by
  rcases ((i2 x).1 h).1 with e | e
  ·exact xl e
  ·exact xm e
 have other : ∀ z, z ≠ x → ((z ∈ l ↔ z ∈ l') ∧ (z ∈ m ↔ z ∈ m')) := fun z hz => by
  rw [hl z, hm z]
  simp [hz]
 have hmem : ∀ z, z ≠ x → (z ∈ r ↔ (z ∈ l ∨ z ∈ m) ∧ k (decide (z ∈ l)) (decide (z ∈ m)) = true) := fun z hz => by
  rw [i2 z]
  have h3 := other z hz
  have e1 : decide (z ∈ l) = decide (z ∈ l') := by rw [Bool.eq_iff_iff, decide_eq_true_iff, decide_eq_true_iff]; exact h3.1
  have e2 : decide (z ∈ m) = decide (z ∈ m') := by rw [Bool.eq_iff_iff, decide_eq_true_iff, decide_eq_true_iff]; exact h3.2
  rw [e1, e2, h3.1, h3.2]
 by_cases hk : k p q = true
 ·rw [if_pos hk]
  refine ⟨rises_cons.2 ⟨fun z hz => ?_, i1⟩, fun z => ?_⟩
  ·rcases ((i2 z).1 hz).1 with e | e
   ·exact h1 z e
   ·exact h2 z e
  ·by_cases hz : z = x
   ·subst hz
    rw [dl, dm]
    exact ⟨fun _ => ⟨hx, hk⟩, fun _ => List.mem_cons_self ..⟩
   ·rw [← hmem z hz]
    simp [hz]
 ·rw [if_neg hk]
  refine ⟨i1, fun z => ?_⟩
  by_cases hz : z = x
  ·subst hz
   rw [dl, dm]
   exact ⟨fun h => absurd h xr, fun h => absurd h.2 hk⟩
  ·rw [← hmem z hz]
   simp
theorem mrg_kept (k : Bool → Bool → Bool) : ∀ (n : Nat) (l m : List Id2), l.length + m.length ≤ n → Rises l → Rises m → Kept k l m (mrg k l m) := by
 intro n
 induction n with
 | zero =>
  intro l m h _ _
  obtain ⟨rfl, rfl⟩ := both_none h
  exact ⟨rises_nil, by simp [mrg_none]⟩
 | succ n ih =>
  intro l m h hl hm
  cases l with
  | nil =>
   cases m with
   | nil => exact ⟨rises_nil, by simp [mrg_none]⟩
   | cons y m =>
    have h2 := rises_cons.1 hm
    rw [mrg_right rfl]
    exact kept_one (ih [] m (by simp at h ⊢; omega) hl h2.2) (by simp) (by simp) (.inr rfl) (by simp) h2.1
  | cons x l =>
   have h1 := rises_cons.1 hl
   cases m with
   | nil =>
    rw [mrg_left rfl]
    exact kept_one (ih l [] (by simp at h ⊢; omega) h1.2 hm) (by simp) (by simp) (.inl rfl) h1.1 (by simp)
   | cons y m =>
    have h2 := rises_cons.1 hm
    have hz : headZ (x :: l) (y :: m) = cmpZ x.1 x.2 y.1 y.2 := rfl
    rw [cmpZ_eq] at hz
    by_cases hlt : lt x y
    ·rw [if_pos hlt] at hz
     rw [mrg_left hz]
     refine kept_one (ih l (y :: m) (by simp at h ⊢; omega) h1.2 hm) (by simp) (by simp) (.inl rfl) h1.1 fun z hz => ?_
     rcases List.mem_cons.1 hz with e | e
     ·exact e ▸ hlt
     ·exact lt_trans hlt (h2.1 z e)
    ·rw [if_neg hlt] at hz
     by_cases hgt : lt y x
     ·rw [if_pos hgt] at hz
      rw [mrg_right hz]
      refine kept_one (ih (x :: l) m (by simp at h ⊢; omega) hl h2.2) (by simp) (by simp) (.inr rfl) (fun z hz => ?_) h2.1
      rcases List.mem_cons.1 hz with e | e
      ·exact e ▸ hgt
      ·exact lt_trans hgt (h1.1 z e)
     ·rw [if_neg hgt] at hz
      have exy : x = y := by
       rcases lt_total x y with e | e | e
       ·exact absurd e hlt
       ·exact e
       ·exact absurd e hgt
      subst exy
      rw [mrg_same hz]
      exact kept_one (ih l m (by simp at h ⊢; omega) h1.2 h2.2) (by simp) (by simp) (.inl rfl) h1.1 h2.1
theorem mrg_is (k : Bool → Bool → Bool) (l m : List Id2) (hl : Rises l) (hm : Rises m) :
  Rises (mrg k l m) ∧ ∀ z, z ∈ mrg k l m ↔ (z ∈ l ∨ z ∈ m) ∧ k (decide (z ∈ l)) (decide (z ∈ m)) = true := mrg_kept k _ l m (Nat.le_refl _) hl hm
theorem mrg_all (l m : List Id2) : mrg (fun _ _ => true) (setOf l) (setOf m) = join l m := by
 obtain ⟨h1, h2⟩ := mrg_is (fun _ _ => true) _ _ (rises_setOf l) (rises_setOf m)
 exact rises_ext h1 (rises_join _ _) fun z => by rw [h2, mem_join, mem_setOf, mem_setOf]; simp
theorem mrg_or (l m : List Id2) : mrg (fun a b => a || b) (setOf l) (setOf m) = join l m := by
 obtain ⟨h1, h2⟩ := mrg_is (fun a b => a || b) _ _ (rises_setOf l) (rises_setOf m)
 exact rises_ext h1 (rises_join _ _) fun z => by
  rw [h2, mem_join]
  simp only [Bool.or_eq_true, decide_eq_true_eq]
  rw [mem_setOf, mem_setOf, and_self]
theorem join_halves (l : List Id2) (k : Nat) : join (l.take k) (l.drop k) = setOf l := by
 unfold join
 rw [List.take_append_drop]
theorem len_join (l m : List Id2) : (join l m).length ≤ l.length + m.length := by
 have := setOf_len (l ++ m)
 simpa [join] using this
end Go.Proofs.YthkkipbmlafdiaaGreat
namespace Go.Proofs.YthkkipbmlafdiaaGreat
open Go.RowKit
theorem ret_int {k : IntKind} {a b : Int} (h : a = b) : Ending.returned (.int k a) = .returned (.int k b) := by rw [h]
theorem ret_bool {a b : Bool} (h : a = b) : Ending.returned (.bool a) = .returned (.bool b) := by rw [h]
theorem below_after {B : Nat} {w w1 w2 : World} (h : Below B w w1) (k : Below w1.heap.size w1 w2) (hB : B ≤ w.heap.size) : Below B w w2 := h.trans (k.mono (Nat.le_trans hB h.size))
theorem below_boxed {B : Nat} {w w1 w2 : World} {o : Obj} (h : Below B w w1) (k : Below (w1.alloc o).heap.size (w1.alloc o) w2) (hB : B ≤ w.heap.size) : Below B w w2 :=
 (h.alloc (Nat.le_trans hB h.size) o).trans (k.mono (by have := h.size; simp; omega))
theorem below_drewN {B n : Nat} {w w1 : World} (h : Below B w w1) : Below B w (w1.drewN n) := ⟨h.os, h.tape, h.output, h.size, h.block⟩
theorem row_lt {w : World} {g : Nat} {o : Obj} (h : w.heap[g]? = some o) : g < w.heap.size := by
 rcases Nat.lt_or_ge g w.heap.size with hlt | hge
 ·exact hlt
 ·rw [Array.getElem?_eq_none hge] at h; cases h
def Box (w : World) (g : Nat) (a i : Int) : Prop := w.heap[g]? = some (.cells #[.int .i64 a, .int .i64 i] 29 (0, 0))
theorem box_cells {w : World} {g : Nat} {a i : Int} (h : Box w g a i) : w.cell? ⟨g, 0, none⟩ = some (.int .i64 a) ∧ w.cell? ⟨g, 1, none⟩ = some (.int .i64 i) := by
 unfold Box at h
 exact ⟨by rw [cell_of_row _ _ 0 _ _ _ h]; rfl, by rw [cell_of_row _ _ 1 _ _ _ h]; rfl⟩
theorem box_new (w : World) (a i : Int) : Box (w.alloc (.cells #[.int .i64 a, .int .i64 i] 29)) w.heap.size a i := heap_alloc_new w _
theorem box_lt {w : World} {g : Nat} {a i : Int} (h : Box w g a i) : g < w.heap.size := row_lt h
theorem box_below {w w' : World} {g : Nat} {a i : Int} (h : Box w g a i) (hb : Below w.heap.size w w') : Box w' g a i := (hb.block _ (box_lt h)).trans h
def vidROW (a i : Int) : Bool := decide (1 ≤ a ∧ a ≤ 12 ∧ 1 ≤ i ∧ i ≤ 1048576)
theorem may_any (a i : Int) (w : World) :
  Calls Tryz.prog 64 #[.agg #[.int .i64 a, .int .i64 i]] w fun e w' => e = .returned (.bool (vidROW a i)) ∧ Below w.heap.size w w' := by
 by_cases h1 : 1 ≤ a
 ·by_cases h2 : a ≤ 12
  ·by_cases h3 : 1 ≤ i
   ·by_cases h4 : i ≤ 1048576
    ·have h5 := Lib.hid (show vidROW a i = true by simp [vidROW]; omega)
     go_enter Tryz.func64, Tryz.ntmps64
     go_wp2_with fail
     go_ret
     exact ⟨by rw [h5.out]; rfl, (Below.refl _ _).alloc (Nat.le_refl _) _⟩
    ·have h5 := Lib.hid (show vidROW a i = false by simp [vidROW]; omega)
     go_enter Tryz.func64, Tryz.ntmps64
     go_wp2_with fail
     go_ret
     exact ⟨by rw [h5.out]; rfl, (Below.refl _ _).alloc (Nat.le_refl _) _⟩
   ·have h5 := Lib.hid (show vidROW a i = false by simp [vidROW]; omega)
    go_enter Tryz.func64, Tryz.ntmps64
    go_wp2_with fail
    go_ret
    exact ⟨by rw [h5.out]; rfl, (Below.refl _ _).alloc (Nat.le_refl _) _⟩
  ·have h5 := Lib.hid (show vidROW a i = false by simp [vidROW]; omega)
   go_enter Tryz.func64, Tryz.ntmps64
   go_wp2_with fail
   go_ret
   exact ⟨by rw [h5.out]; rfl, (Below.refl _ _).alloc (Nat.le_refl _) _⟩
 ·have h5 := Lib.hid (show vidROW a i = false by simp [vidROW]; omega)
  go_enter Tryz.func64, Tryz.ntmps64
  go_wp2_with fail
  go_ret
  exact ⟨by rw [h5.out]; rfl, (Below.refl _ _).alloc (Nat.le_refl _) _⟩
theorem less_any (a i b j : Int) (w : World) :
  Calls Tryz.prog 97 #[.agg #[.int .i64 a, .int .i64 i], .agg #[.int .i64 b, .int .i64 j]] w fun e w' => e = .returned (.bool (lss a i b j)) ∧ Below w.heap.size w w' := by
 have hb := Lib.hid (fun o o' : Obj => (((Below.refl w.heap.size w).alloc (Nat.le_refl _) o).alloc (by simp) o'))
 by_cases h1 : a < b
 ·have h5 := Lib.hid (show lss a i b j = true by simp [lss]; omega)
  go_enter Tryz.func97, Tryz.ntmps97
  go_wp2_with fail
  go_ret
  exact ⟨by rw [h5.out]; rfl, hb.out _ _⟩
 ·by_cases h2 : a = b
  ·subst h2
   by_cases h3 : i < j
   ·have h5 := Lib.hid (show lss a i a j = true by simp [lss]; omega)
    go_enter Tryz.func97, Tryz.ntmps97
    go_wp2_with fail
    go_ret
    exact ⟨by rw [h5.out]; rfl, hb.out _ _⟩
   ·have h5 := Lib.hid (show lss a i a j = false by simp [lss]; omega)
    go_enter Tryz.func97, Tryz.ntmps97
    go_wp2_with fail
    go_ret
    exact ⟨by rw [h5.out]; rfl, hb.out _ _⟩
  ·have h5 := Lib.hid (show lss a i b j = false by simp [lss]; omega)
   have h3 : (a == b) = false := by simpa using h2
   go_enter Tryz.func97, Tryz.ntmps97
   go_wp2_with fail
   go_ret
   exact ⟨by rw [h5.out]; rfl, hb.out _ _⟩
theorem two_boxes (w : World) (a i b j : Int) : Box ((w.alloc (.cells #[.int .i64 a, .int .i64 i] 29)).alloc (.cells #[.int .i64 b, .int .i64 j] 29)) w.heap.size a i ∧ Box ((w.alloc (.cells #[.int .i64 a, .int .i64 i] 29)).alloc (.cells #[.int .i64 b, .int .i64 j] 29)) (w.heap.size + 1) b j := by
 refine ⟨(Below.heap_alloc _ _ _ (by simp)).trans (box_new w a i), ?_⟩
 have := box_new (w.alloc (.cells #[.int .i64 a, .int .i64 i] 29)) b j
 simpa using this
theorem below_two (w : World) (o o' : Obj) : Below w.heap.size w ((w.alloc o).alloc o') := ((Below.refl w.heap.size w).alloc (Nat.le_refl _) o).alloc (by simp) o'
set_option maxHeartbeats 1000000 in
theorem compare_any (a i b j : Int) (w : World) :
  Calls Tryz.prog 102 #[.agg #[.int .i64 a, .int .i64 i], .agg #[.int .i64 b, .int .i64 j]] w fun e w' => e = .returned (.int .i64 (cmpZ a i b j)) ∧ Below w.heap.size w w' := by
 have X0 := Lib.hid (two_boxes w a i b j)
 have B0 := Lib.hid (below_two w (.cells #[.int .i64 a, .int .i64 i] 29) (.cells #[.int .i64 b, .int .i64 j] 29))
 cases h1 : lss a i b j
 ·cases h2 : lss b j a i
  ·have h5 := Lib.hid (show cmpZ a i b j = 0 by simp [cmpZ, h1, h2])
   have H1 := Lib.hid h1
   have H2 := Lib.hid h2
   clear h1 h2
   go_enter Tryz.func102, Tryz.ntmps102
   go_wp2_with fail
   refine (less_any _ _ _ _ _).mono ?_
   rintro e w1 ⟨rfl, h⟩
   rw [H1.out]
   have X1 := Lib.hid (And.intro (box_below X0.out.1 h) (box_below X0.out.2 h))
   have B1 := Lib.hid (below_after B0.out h (Nat.le_refl _))
   clear h
   obtain ⟨c1, c2⟩ := box_cells X1.out.1
   obtain ⟨c3, c4⟩ := box_cells X1.out.2
   go_wp2_with fail
   refine (less_any _ _ _ _ _).mono ?_
   rintro e w2 ⟨rfl, h⟩
   rw [H2.out]
   have B2 := Lib.hid (below_after B1.out h (Nat.le_refl _))
   clear h c1 c2 c3 c4
   go_wp2_with fail
   go_ret
   exact ⟨ret_int h5.out.symm, B2.out⟩
  ·have h5 := Lib.hid (show cmpZ a i b j = 1 by simp [cmpZ, h1, h2])
   have H1 := Lib.hid h1
   have H2 := Lib.hid h2
   clear h1 h2
   go_enter Tryz.func102, Tryz.ntmps102
   go_wp2_with fail
   refine (less_any _ _ _ _ _).mono ?_
   rintro e w1 ⟨rfl, h⟩
   rw [H1.out]
   have X1 := Lib.hid (And.intro (box_below X0.out.1 h) (box_below X0.out.2 h))
   have B1 := Lib.hid (below_after B0.out h (Nat.le_refl _))
   clear h
   obtain ⟨c1, c2⟩ := box_cells X1.out.1
   obtain ⟨c3, c4⟩ := box_cells X1.out.2
   go_wp2_with fail
   refine (less_any _ _ _ _ _).mono ?_
   rintro e w2 ⟨rfl, h⟩
   rw [H2.out]
   have B2 := Lib.hid (below_after B1.out h (Nat.le_refl _))
   clear h c1 c2 c3 c4
   go_wp2_with fail
   go_ret
   exact ⟨ret_int h5.out.symm, B2.out⟩
 ·have h5 := Lib.hid (show cmpZ a i b j = -1 by simp [cmpZ, h1])
  have H1 := Lib.hid h1
  clear h1
  go_enter Tryz.func102, Tryz.ntmps102
  go_wp2_with fail
  refine (less_any _ _ _ _ _).mono ?_
  rintro e w1 ⟨rfl, h⟩
  rw [H1.out]
  have B1 := Lib.hid (below_after B0.out h (Nat.le_refl _))
  clear h
  go_wp2_with fail
  go_ret
  exact ⟨ret_int h5.out.symm, B1.out⟩
def Keeps (K : Nat) (k : Bool → Bool → Bool) : Prop := (K = 186 ∧ k = fun _ _ => true) ∨ (K = 167 ∧ k = fun a b => a || b) ∨ (K = 193 ∧ k = fun a b => a && !b)
theorem keeps_all : Keeps 186 (fun _ _ => true) := .inl ⟨rfl, rfl⟩
theorem keeps_or : Keeps 167 (fun a b => a || b) := .inr (.inl ⟨rfl, rfl⟩)
theorem keep186 (x y : Bool) (w : World) : Calls Tryz.prog 186 #[.bool x, .bool y] w fun e w' => e = .returned (.bool true) ∧ w = w' := by
 go_enter Tryz.func186, Tryz.ntmps186
 go_wp2_with fail
 go_ret
 exact ⟨rfl, rfl⟩
theorem keep167 (x y : Bool) (w : World) : Calls Tryz.prog 167 #[.bool x, .bool y] w fun e w' => e = .returned (.bool (x || y)) ∧ w = w' := by
 cases x <;> cases y
 all_goals
  go_enter Tryz.func167, Tryz.ntmps167
  go_wp2_with fail
  go_ret
  exact ⟨rfl, rfl⟩
theorem keep193 (x y : Bool) (w : World) : Calls Tryz.prog 193 #[.bool x, .bool y] w fun e w' => e = .returned (.bool (x && !y)) ∧ w = w' := by
 cases x <;> cases y
 all_goals
  go_enter Tryz.func193, Tryz.ntmps193
  go_wp2_with fail
  go_ret
  exact ⟨rfl, rfl⟩
theorem keeps_any {K : Nat} {k : Bool → Bool → Bool} (h : Keeps K k) (x y : Bool) (w : World) : Calls Tryz.prog K #[.bool x, .bool y] w fun e w' => e = .returned (.bool (k x y)) ∧ w = w' := by
 rcases h with ⟨rfl, rfl⟩ | ⟨rfl, rfl⟩ | ⟨rfl, rfl⟩
 ·exact keep186 x y w
 ·exact keep167 x y w
 ·exact keep193 x y w
end Go.Proofs.YthkkipbmlafdiaaGreat
namespace Go.Proofs.YthkkipbmlafdiaaGreat
open Go.RowKit
theorem info23 : (Tryz.prog.info? 29).map (fun i => (i.zero, i.size, i.bytes)) = some (some (.agg #[.int .i64 0, .int .i64 0]), 2, 16) := by kernel_rfl
def Ids (w : World) (v : Value) (l : List (Int × Int)) : Prop :=
 ∃ A c, v = .slice A l.length c ∧ (A = none → c = 0) ∧ l.length ≤ c ∧ ∀ k (h : k < l.length), ∃ ad, A = some ad ∧ ad.block < w.heap.size ∧ w.cell? (ad.add (k * 2)) = some (.int .i64 l[k].1) ∧ w.cell? ⟨(ad.add (k * 2)).block, (ad.add (k * 2)).off + 1, none⟩ = some (.int .i64 l[k].2)
theorem block_of_add (a : Addr) (n : Nat) : (a.add n).block = a.block := by unfold Addr.add; split <;> rfl
theorem add_odd (a : Addr) (k : Nat) : a.add (k * 2 + 1) = ⟨(a.add (k * 2)).block, (a.add (k * 2)).off + 1, none⟩ := by
 unfold Addr.add
 rw [if_neg (by omega)]
 split
 ·rename_i h
  simp
  try omega
 ·simp
  try omega
theorem add_add (a : Addr) (j k : Nat) (hj : 0 < j) : (a.add j).add k = a.add (j + k) := by
 unfold Addr.add
 rw [if_neg (show ¬ j = 0 by omega), if_neg (show ¬ j + k = 0 by omega)]
 split
 ·rename_i h
  subst h
  rfl
 ·simp
  omega
theorem Ids.below {w w' : World} {v : Value} {l : List (Int × Int)} (h : Ids w v l) (hb : Below w.heap.size w w') : Ids w' v l := by
 obtain ⟨A, c, hv, h0, hc, hk⟩ := h
 refine ⟨A, c, hv, h0, hc, fun k h => ?_⟩
 obtain ⟨ad, h1, h2, h3, h4⟩ := hk k h
 exact ⟨ad, h1, Nat.lt_of_lt_of_le h2 hb.size, (hb.cell (by rw [block_of_add]; exact h2)).trans h3, (hb.cell (by show (ad.add (k * 2)).block < _; rw [block_of_add]; exact h2)).trans h4⟩
theorem Ids.drewN {w : World} {v : Value} {l : List (Int × Int)} (h : Ids w v l) (n : Nat) : Ids (w.drewN n) v l := h.below (below_drewN (Below.refl _ _))
theorem Ids.at_ {w w' : World} {A : Option Addr} {c n : Nat} {l : List (Int × Int)} (h : Ids w (.slice A n c) l) (hw : Below w.heap.size w w') {k : Nat} (hk : k < l.length) :
  ∃ ad, A = some ad ∧ w'.cell? (ad.add (k * 2)) = some (.int .i64 l[k].1) ∧ w'.cell? ⟨(ad.add (k * 2)).block, (ad.add (k * 2)).off + 1, none⟩ = some (.int .i64 l[k].2) := by
 obtain ⟨A', c', hv, _, _, hc⟩ := h
 injection hv with e1 e2 e3
 subst e1
 obtain ⟨ad, h1, h2, h3, h4⟩ := hc k hk
 exact ⟨ad, h1, (hw.cell (by rw [block_of_add]; exact h2)).trans h3, (hw.cell (by show (ad.add (k * 2)).block < _; rw [block_of_add]; exact h2)).trans h4⟩
theorem cell1 {w w' : World} {ad : Addr} {c n : Nat} {l : List (Int × Int)} (h : Ids w (.slice (some ad) n c) l) (hw : Below w.heap.size w w') {k : Nat} (hk : k < l.length) : w'.cell? (ad.add (k * 2)) = some (.int .i64 l[k].1) := by
 obtain ⟨a, e, h1, _⟩ := h.at_ hw hk
 injection e with e
 rw [e]
 exact h1
theorem cell2 {w w' : World} {ad : Addr} {c n : Nat} {l : List (Int × Int)} (h : Ids w (.slice (some ad) n c) l) (hw : Below w.heap.size w w') {k : Nat} (hk : k < l.length) : w'.cell? ⟨(ad.add (k * 2)).block, (ad.add (k * 2)).off + 1, none⟩ = some (.int .i64 l[k].2) := by
 obtain ⟨a, e, _, h2⟩ := h.at_ hw hk
 injection e with e
 rw [e]
 exact h2
theorem Ids.shape {w : World} {v : Value} {l : List (Int × Int)} (h : Ids w v l) : (v = .slice none 0 0 ∧ l = []) ∨ ∃ ad c, v = .slice (some ad) l.length c ∧ l.length ≤ c := by
 obtain ⟨A, c, rfl, h0, hc, hk⟩ := h
 cases A with
 | none =>
  obtain rfl := h0 rfl
  have : l = [] := List.eq_nil_of_length_eq_zero (by omega)
  subst this
  exact .inl ⟨rfl, rfl⟩
 | some ad => exact .inr ⟨ad, c, rfl, hc⟩
theorem Ids.nil (w : World) : Ids w (.slice none 0 0) [] := ⟨none, 0, rfl, fun _ => rfl, by simp, fun k hk => absurd hk (by simp)⟩
theorem Ids.take {w : World} {A : Option Addr} {n c k : Nat} {l : List (Int × Int)} (h : Ids w (.slice A n c) l) (hk : k ≤ l.length) : Ids w (.slice A k c) (l.take k) := by
 obtain ⟨A', c', hv, h0, hc, hx⟩ := h
 injection hv with e1 e2 e3
 subst e1 e3
 refine ⟨A, c, by rw [List.length_take, Nat.min_eq_left hk], h0, by rw [List.length_take, Nat.min_eq_left hk]; omega, fun j hj => ?_⟩
 rw [List.length_take, Nat.min_eq_left hk] at hj
 obtain ⟨ad, h1, h2, h3, h4⟩ := hx j (by omega)
 exact ⟨ad, h1, h2, by rw [List.getElem_take]; exact h3, by rw [List.getElem_take]; exact h4⟩
theorem Ids.drop {w : World} {ad : Addr} {n c k : Nat} {l : List (Int × Int)} (h : Ids w (.slice (some ad) n c) l) (hk : k ≤ l.length) (hc : k < c) (h0 : 0 < k) : Ids w (.slice (some (ad.add (k * 2))) (n - k) (c - k)) (l.drop k) := by
 obtain ⟨A', c', hv, hn, hc2, hx⟩ := h
 injection hv with e1 e2 e3
 subst e1 e3
 refine ⟨some (ad.add (k * 2)), c - k, by rw [List.length_drop, e2], (fun h => by cases h), by rw [List.length_drop]; omega, fun j hj => ?_⟩
 rw [List.length_drop] at hj
 obtain ⟨ad', h1, h2, h3, h4⟩ := hx (k + j) (by omega)
 injection h1 with h1
 subst h1
 have e : (ad.add (k * 2)).add (j * 2) = ad.add ((k + j) * 2) := by rw [add_add _ _ _ (by omega)]; congr 1; omega
 refine ⟨_, rfl, by rw [block_of_add]; exact h2, ?_, ?_⟩
 ·rw [e, List.getElem_drop]; exact h3
 ·rw [e, List.getElem_drop]; exact h4
theorem Ids.none_left {w : World} {A : Option Addr} (l : List (Int × Int)) {k : Nat} (hk : l.length ≤ k) (c' : Nat) (ha : A = none → c' = 0) : Ids w (.slice A 0 c') (l.drop k) := by
 rw [List.drop_of_length_le hk]
 exact ⟨A, c', rfl, ha, by simp, fun j hj => absurd hj (by simp)⟩
def flat : List (Int × Int) → List Value
 | [] => []
 | x :: l => .int .i64 x.1 :: .int .i64 x.2 :: flat l
theorem flat_len (l : List (Int × Int)) : (flat l).length = l.length * 2 := by
 induction l with
 | nil => rfl
 | cons x l ih => simp [flat, ih]; omega
theorem flat_append (a b : List (Int × Int)) : flat (a ++ b) = flat a ++ flat b := by
 induction a with
 | nil => rfl
 | cons x a ih => simp [flat, ih]
theorem flat_one (l : List (Int × Int)) : ∀ u ∈ flat l, u.oneCell' = true := by
 induction l with
 | nil => simp [flat]
 | cons x l ih => simpa [flat, Value.oneCell'] using ih
theorem flat_at (l : List (Int × Int)) : ∀ (k : Nat) (h : k < l.length), (flat l)[k * 2]? = some (.int .i64 l[k].1) ∧ (flat l)[k * 2 + 1]? = some (.int .i64 l[k].2) := by
 induction l with
 | nil => intro k h; simp at h
 | cons x l ih =>
  intro k h
  cases k with
  | zero => exact ⟨rfl, rfl⟩
  | succ k =>
   have := ih k (by simpa using h)
   rw [show (k + 1) * 2 = k * 2 + 1 + 1 by omega, show k * 2 + 1 + 1 + 1 = (k * 2 + 1) + 1 + 1 by omega]
   simpa [flat] using this
theorem flat_split {l : List (Int × Int)} {j : Nat} {u : Value} (h : (flat l)[j]? = some u) : ∃ k, ∃ hk : k < l.length, (j = k * 2 ∧ u = .int .i64 l[k].1) ∨ (j = k * 2 + 1 ∧ u = .int .i64 l[k].2) := by
 have hj : j < l.length * 2 := by
  have := (List.getElem?_eq_some_iff.1 h).1
  rwa [flat_len] at this
 refine ⟨j / 2, by omega, ?_⟩
 have h2 := flat_at l (j / 2) (by omega)
 rcases Nat.mod_two_eq_zero_or_one j with e | e
 ·have e2 : j / 2 * 2 = j := by omega
  refine .inl ⟨e2.symm, ?_⟩
  have := h2.1
  rw [e2, h] at this
  exact Option.some.inj this
 ·have e2 : j / 2 * 2 + 1 = j := by omega
  refine .inr ⟨e2.symm, ?_⟩
  have := h2.2
  rw [e2, h] at this
  exact Option.some.inj this
def Owns (w : World) (base : Nat) (v : Value) (l : List (Int × Int)) : Prop := w.ownsRow base 29 2 v l.length (flat l)
theorem Owns.below {w w' : World} {base : Nat} {v : Value} {l : List (Int × Int)} (h : Owns w base v l) (hb : Below w.heap.size w w') : Owns w' base v l :=
 World.ownsRow.kept h ⟨hb.os, hb.tape, hb.output, hb.size, fun k hk _ => hb.block k hk⟩ (row := none) (by cases hv : v.ownBlock <;> simp)
theorem owns_split {w : World} {base n : Nat} {v : Value} {xs : List Value} (h : w.ownsRow base 29 2 v n xs) : (v = .slice none 0 0 ∧ n = 0) ∨ ∃ g cap, v = .slice (some ⟨g, 0, none⟩) n cap ∧ g < w.heap.size ∧ n ≤ cap := by
 rcases id h.2 with h1 | ⟨g, cap, cur, h1, _, _, hn, _⟩
 ·exact .inl h1
 ·exact .inr ⟨g, cap, h1, (World.ownsRow.lt h g (by rw [h1]; rfl)).2, hn⟩
theorem ids_of_owns {w : World} {base : Nat} {v : Value} {l : List (Int × Int)} (h : Owns w base v l) : Ids w v l := by
 rcases owns_split h with ⟨rfl, hn⟩ | ⟨g, cap, rfl, hg, hc⟩
 ·have : l = [] := List.eq_nil_of_length_eq_zero (by omega)
  subst this
  exact Ids.nil w
 ·refine ⟨some ⟨g, 0, none⟩, cap, rfl, (fun h => by cases h), hc, fun k hk => ⟨_, rfl, hg, ?_, ?_⟩⟩
  ·exact World.ownsRow.cells h (g := g) rfl _ _ (flat_at l k hk).1
  ·rw [← add_odd]
   exact World.ownsRow.cells h (g := g) rfl _ _ (flat_at l k hk).2
theorem ids_one (w : World) (a i : Int) : Ids (w.alloc (.cells #[.int .i64 a, .int .i64 i] 29)) (.slice (some ⟨w.heap.size, 0, none⟩) 1 1) [(a, i)] := by
 have h := box_cells (box_new w a i)
 refine ⟨some ⟨w.heap.size, 0, none⟩, 1, rfl, (fun h => by cases h), by simp, fun k hk => ⟨_, rfl, by simp, ?_, ?_⟩⟩
 ·obtain rfl : k = 0 := by simpa using hk
  exact h.1
 ·obtain rfl : k = 0 := by simpa using hk
  exact h.2
theorem wpList_append_list {ops : Array Oper} {rest : List Oper} {o : Oper} {a : Act} {Q : Exit → Act → World → Prop} (hgd : o.guard = none) (s x : Operand)
  (ho : o.op = .call { callee := .builtin .append, args := #[s, x], argTypes := #[23, 23] })
  (wr : World) (base : Nat) (v u : Value) (d l : List (Int × Int)) (hs : a.eval s = v) (hx : a.eval x = u)
  (hown : Owns wr base v d) (hI : Ids wr u l) (hl : d.length + l.length ≤ 100000) (hb : base ≤ wr.heap.size)
  (h : ∀ v' w', Owns w' base v' (d ++ l) → Below base wr w' → wpList Tryz.prog ops Q rest (a.put o.dst v') w') :
  wpList Tryz.prog ops Q (o :: rest) a wr := by
 obtain ⟨i0, hi, hz0, hz1, hz2⟩ := info_parts info23
 obtain ⟨A, c, rfl, h0, hc, hk⟩ := hI
 cases A with
 | none =>
  obtain rfl := h0 rfl
  have hn : l = [] := List.eq_nil_of_length_eq_zero (by omega)
  subst hn
  refine wpList_append_own_none hgd s x 23 ho base 29 i0 2 Tryz.underlying23 hi _ d.length (flat d) hs hown hx (h _ _ (by rw [List.append_nil]; exact hown) (Below.refl _ _))
 | some ad =>
  refine wpList_append_own _ hgd s x 23 ho base 29 i0 (.agg #[.int .i64 0, .int .i64 0]) 2 16 Tryz.underlying23 hi hz0 hz1 hz2 rfl (by decide) v d.length (flat d) hs hown ad l.length c (flat l) hx (flat_len l)
   (fun j u hu => ?_) (flat_one l) (by unfold maxLen; omega) (by omega) hb ?_
  ·obtain ⟨k, hlt, hj⟩ := flat_split hu
   obtain ⟨ad', e, h1, h2, h3⟩ := hk k hlt
   injection e with e
   subst e
   rcases hj with ⟨rfl, rfl⟩ | ⟨rfl, rfl⟩
   ·exact h2
   ·rw [add_odd]
    exact h3
  ·intro v' w' h1 h2 _
   refine h v' w' ?_ ((Below.refl base wr).grown h2 hb fun k hk => (World.ownsRow.lt hown k hk).1)
   unfold Owns
   rw [flat_append, List.length_append]
   exact h1
theorem wpList_append_one {ops : Array Oper} {rest : List Oper} {o : Oper} {a : Act} {Q : Exit → Act → World → Prop} (hgd : o.guard = none) (s x : Operand)
  (ho : o.op = .call { callee := .builtin .append, args := #[s, x], argTypes := #[23, 23] })
  (wr : World) (base : Nat) (v : Value) (d : List (Int × Int)) (p q : Int) (hs : a.eval s = v) (hx : a.eval x = .slice (some ⟨wr.heap.size, 0, none⟩) 1 1)
  (hown : Owns wr base v d) (hl : d.length ≤ 99999) (hb : base ≤ wr.heap.size)
  (h : ∀ v' w', Owns w' base v' (d ++ [(p, q)]) → Below base wr w' → wpList Tryz.prog ops Q rest (a.put o.dst v') w') :
  wpList Tryz.prog ops Q (o :: rest) a (wr.alloc (.cells #[.int .i64 p, .int .i64 q] 29)) := by
 refine wpList_append_list hgd s x ho _ base v _ d [(p, q)] hs hx (hown.below ((Below.refl _ _).alloc (Nat.le_refl _) _)) (ids_one wr p q) (by simp; omega) (by simp; omega) fun v' w' h1 h2 => h v' w' h1 ?_
 exact ((Below.refl base wr).alloc hb _).trans h2
theorem wpList_make_room {ops : Array Oper} {rest : List Oper} {o : Oper} {a : Act} {Q : Exit → Act → World → Prop} (w : World) (hgd : o.guard = none) (x : Operand) (hop : o.op = .makeSlice 23 (.const (.int .i64 0)) x) (C : Int) (hx : a.eval x = .int .i64 C) (h0 : 0 ≤ C) (hn : C ≤ 100000)
  (h : ∀ v' w', Owns w' w.heap.size v' [] → Below w.heap.size w w' → wpList Tryz.prog ops Q rest (a.put o.dst v') w') : wpList Tryz.prog ops Q (o :: rest) a w := by
 obtain ⟨i0, hi, hz0, hz1, hz2⟩ := info_parts info23
 obtain ⟨n, rfl⟩ := Int.eq_ofNat_of_zero_le h0
 exact wpList_make_own w hgd _ x 23 hop w.heap.size 29 i0 (.agg #[.int .i64 0, .int .i64 0]) 2 Tryz.underlying23 hi hz0 hz1 .i64 .i64 n n rfl hx rfl (by rw [hz2]; omega) (by unfold maxLen; omega) (Nat.le_refl _)
  fun w' h1 h2 => h _ w' h1 ((Below.refl w.heap.size w).grown h2 (Nat.le_refl _) (fun k hk => by cases hk))
end Go.Proofs.YthkkipbmlafdiaaGreat
namespace Go.Proofs.YthkkipbmlafdiaaGreat
open Go.RowKit
set_option maxHeartbeats 1000000 in
theorem rising_gen (v : Value) (l : List (Int × Int)) (w : World) (h : Ids w v l) (hl : l.length ≤ 100000) :
  Calls Tryz.prog 155 #[v, .func (.func 102) #[] #[]] w fun e w' => e = .returned (.bool (risesB l)) ∧ Below w.heap.size w w' := by
 obtain ⟨A, c, rfl, hz⟩ := id h
 clear hz
 have HI := Lib.hid h
 clear h
 go_enter Tryz.func155, Tryz.ntmps155
 go_wp2
 go_loopw [5] (fun s3 wr => ∃ k : Nat, 1 ≤ k ∧ k ≤ l.length + 1 ∧ s3 = .int .i64 k ∧ risesB (l.take k) = true ∧ Below w.heap.size w wr) (fun s3 _ => l.length - (intOf s3).toNat)
 case atStart => exact ⟨1, by omega, by omega, rfl, risesB_one l, Below.refl _ _⟩
 case round =>
  obtain ⟨k, hk1, hkl, rfl, hr, hw⟩ := hrel
  have HR := Lib.hid hr
  clear hr
  have HW := Lib.hid hw
  clear hw
  by_cases hlt : k < l.length
  ·have hd : decide ((k : Int) < (l.length : Int)) = true := by simp; omega
   obtain ⟨j, rfl⟩ : ∃ j, k = j + 1 := ⟨k - 1, by omega⟩
   obtain ⟨ad, rfl, c1, c2⟩ := HI.out.at_ HW.out hlt
   obtain ⟨ad', e, c3, c4⟩ := HI.out.at_ HW.out (k := j) (by omega)
   injection e with e
   subst e
   have i1 : IntKind.i64.wrap ((j : Int) + 1 - 1) = (j : Int) := by rw [IntWalk.i64_in _ ⟨by omega, by omega⟩]; omega
   have HS := Lib.hid fun w' (hb : Below w.heap.size w w') => And.intro (cell1 HI.out hb hlt) (And.intro (cell2 HI.out hb hlt) (And.intro (cell1 HI.out hb (k := j) (by omega)) (And.intro (cell2 HI.out hb (k := j) (by omega)) (Lib.hid hb))))
   have i2 : IntKind.i64.wrap (j : Int) = (j : Int) := IntWalk.i64_in _ ⟨by omega, by omega⟩
   have i3 : (0 : Int) ≤ (j : Int) := by omega
   have i4 : (j : Int) < (l.length : Int) := by omega
   have i5 : (0 : Int) ≤ (j : Int) + 1 := by omega
   have i6 : (j : Int) + 1 < (l.length : Int) := by omega
   have i7 : ((j : Int) + 1).toNat = j + 1 := by omega
   have hcm : (cmpZ l[j].1 l[j].2 l[j+1].1 l[j+1].2 = -1 ∧ lss l[j].1 l[j].2 l[j+1].1 l[j+1].2 = true) ∨ (0 ≤ cmpZ l[j].1 l[j].2 l[j+1].1 l[j+1].2 ∧ lss l[j].1 l[j].2 l[j+1].1 l[j+1].2 = false) := by
    cases hv : lss l[j].1 l[j].2 l[j+1].1 l[j+1].2
    ·right
     refine ⟨?_, rfl⟩
     unfold cmpZ
     rw [hv]
     split
     ·rename_i h; cases h
     ·split <;> omega
    ·left
     exact ⟨by unfold cmpZ; rw [hv]; rfl, rfl⟩
   have HC := Lib.hid fun W => compare_any l[j].1 l[j].2 l[j+1].1 l[j+1].2 W
   have HT := Lib.hid (risesB_take hlt)
   have HN := Lib.hid fun h => risesB_not hlt h
   generalize hz : cmpZ l[j].1 l[j].2 l[j+1].1 l[j+1].2 = z at *
   clear hz
   rcases hcm with ⟨hv, hv2⟩ | ⟨hv, hv2⟩
   ·have HV2 := Lib.hid hv2
    subst hv
    clear hv2
    go_wp2_with fail
    go_region_held3 (fun w' => w'.cell? (ad.add ((j + 1) * 2)) = some (.int .i64 l[j+1].1) ∧ w'.cell? ⟨(ad.add ((j + 1) * 2)).block, (ad.add ((j + 1) * 2)).off + 1, none⟩ = some (.int .i64 l[j+1].2) ∧ w'.cell? (ad.add (j * 2)) = some (.int .i64 l[j].1) ∧ w'.cell? ⟨(ad.add (j * 2)).block, (ad.add (j * 2)).off + 1, none⟩ = some (.int .i64 l[j].2) ∧ Hid (Below w.heap.size w w'))
     (first | exact HS.out _ HW.out.drew | exact HS.out _ HK.out)
     (first | (go_at_call 102; (with_reducible refine (HC.out _).mono ?_); rintro e w' ⟨rfl, hb⟩; have HK := Lib.hid (below_after (Hid.out (by go_split_ands; assumption)) hb (Nat.le_refl _)); clear hb))
    clear c1 c2 c3 c4
    go_wp2_with fail
    go_roundw
    case rel => exact ⟨j + 2, by omega, by omega, by go_num, by rw [HT.out, HR.out, HV2.out]; rfl, Hid.out (by assumption)⟩
    case measure => simp [intOf]; omega
   ·have HV2 := Lib.hid hv2
    clear hv2
    go_wp2_with fail
    go_region_held3 (fun w' => w'.cell? (ad.add ((j + 1) * 2)) = some (.int .i64 l[j+1].1) ∧ w'.cell? ⟨(ad.add ((j + 1) * 2)).block, (ad.add ((j + 1) * 2)).off + 1, none⟩ = some (.int .i64 l[j+1].2) ∧ w'.cell? (ad.add (j * 2)) = some (.int .i64 l[j].1) ∧ w'.cell? ⟨(ad.add (j * 2)).block, (ad.add (j * 2)).off + 1, none⟩ = some (.int .i64 l[j].2) ∧ Hid (Below w.heap.size w w'))
     (first | exact HS.out _ HW.out.drew | exact HS.out _ HK.out)
     (first | (go_at_call 102; (with_reducible refine (HC.out _).mono ?_); rintro e w' ⟨rfl, hb⟩; have HK := Lib.hid (below_after (Hid.out (by go_split_ands; assumption)) hb (Nat.le_refl _)); clear hb))
    clear c1 c2 c3 c4
    go_wp2_with fail
    go_ret
    exact ⟨ret_bool (HN.out HV2.out).symm, Hid.out (by assumption)⟩
  ·have hd : decide ((k : Int) < (l.length : Int)) = false := by simp; omega
   go_wp2_with fail
   go_ret
   exact ⟨ret_bool (by have := HR.out; rw [List.take_of_length_le (by omega)] at this; exact this.symm), HW.out⟩
end Go.Proofs.YthkkipbmlafdiaaGreat
