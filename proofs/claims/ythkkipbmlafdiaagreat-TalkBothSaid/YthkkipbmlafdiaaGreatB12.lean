/-
  Contracts and plain facts.
-/
import Derived.Test.YthkkipbmlafdiaaGreatOy
import Derived.RegionTactic
import Derived.Orders
import Derived.Below
import Derived.Lib.Hide
import Derived.Shelf.SlSortCmp.NoneTotal
import Derived.Laws.IdiomCopy
import Derived.Test.YthkkipbmlafdiaaGreatB04
import Derived.Test.YthkkipbmlafdiaaGreatB11
set_option maxRecDepth 20000
namespace Go.Proofs.YthkkipbmlafdiaaGreat
section
open Go Go.RowKit
section
variable {P : Program} {ops : Array Oper} {Q : Exit → Act → World → Prop} {F : Nat → Value → World → Prop} {G : World → Prop} {a0 : Act}
structure Stood (F : Nat → Value → World → Prop) (G : World → Prop) (ops : Array Oper) (a0 : Act) (listed : Array Bool) (a : Act) (w : World) : Prop where
 held : G w
 defers : a.defers = a0.defers
 size : a.tmps.size = a0.tmps.size
 old : ∀ s : Tmp, (∀ (i : Nat) (o : Oper), ops[i]? = some o → o.dst ≠ some s) → a.tmps.getD s undef = a0.tmps.getD s undef
 new : ∀ (i : Nat) (o : Oper) (s : Tmp), listed.getD i false = true → ops[i]? = some o → o.dst = some s → F i (a.tmps.getD s undef) w
def Owes (P : Program) (ops : Array Oper) (Q : Exit → Act → World → Prop) (F : Nat → Value → World → Prop) (G : World → Prop) (a0 : Act) (i : Nat) (o : Oper) : Prop :=
 ∀ a w, G w → (∀ s : Tmp, (∀ (i : Nat) (o : Oper), ops[i]? = some o → o.dst ≠ some s) → a.tmps.getD s undef = a0.tmps.getD s undef) →
  (∀ (j : Nat) (o' : Oper) (s : Tmp), (o.after.any fun e => e.on == j && Region.binds .any e) = true → ops[j]? = some o' → o'.dst = some s → F j (a.tmps.getD s undef) w) →
  ∀ K : Act → World → Prop, (∀ v w', G w' → Below w.heap.size w w' → F i v w' → K (a.put o.dst v) w') →
  if Region.wanted o (yielded ops a.tmps) = true then Oper.wp P o a w K Q else K (a.put o.dst undef) w
theorem put_getD_other (a : Act) (d : Option Tmp) (v : Value) (s : Nat) (h : d ≠ some s) : (a.put d v).tmps.getD s undef = a.tmps.getD s undef := by
 cases d with
 | none => rfl
 | some d =>
  have hd : d ≠ s := fun e => h (by rw [e])
  simp [Act.put, Array.getD_eq_getD_getElem?, Array.getElem?_setIfInBounds_ne hd]
theorem put_getD_self (a : Act) (v : Value) (s : Nat) (h : s < a.tmps.size) : (a.put (some s) v).tmps.getD s undef = v := by
 simp [Act.put, h]
theorem put_size (a : Act) (d : Option Tmp) (v : Value) : (a.put d v).tmps.size = a.tmps.size := by
 cases d <;> simp [Act.put]
theorem put_defers (a : Act) (d : Option Tmp) (v : Value) : (a.put d v).defers = a.defers := by
 cases d <;> rfl
theorem all_listed {listed : Array Bool} (hs : listed.size = ops.size) (hasc : ∀ (i : Nat) (o : Oper), ops[i]? = some o → ∀ e ∈ o.after, e.on < i) (hr : Region.ready .any ops listed = []) : ∀ i, i < ops.size → listed.getD i false = true := by
 intro i;induction i using Nat.strongRecOn with
 | _ i ih =>
  intro hi;rcases hl : listed.getD i false with _ | _
  ·exfalso
   have h1 := List.filter_eq_nil_iff.1 hr i (List.mem_range.2 hi);apply h1
   have h2 : listed.getD i true = false := by
    rw [gd_] at hl ⊢;rw [Array.getElem?_eq_getElem (by omega)] at hl ⊢
    exact hl
   rw [h2, Array.getElem?_eq_getElem hi];simp only [Bool.not_false, Option.map_some, Option.getD_some, Bool.true_and];rw [Array.all_eq_true_iff_forall_mem];intro e he;have hlt := hasc i ops[i] (Array.getElem?_eq_getElem hi) e he;rw [ih e.on hlt (by omega)]
   simp
  ·rfl
theorem wpAny_facts (hasc : ∀ (i : Nat) (o : Oper), ops[i]? = some o → ∀ e ∈ o.after, e.on < i) (hdst : ∀ (i j : Nat) (o o' : Oper) (s : Tmp), ops[i]? = some o → ops[j]? = some o' → o.dst = some s → o'.dst = some s → i = j) (hin : ∀ (i : Nat) (o : Oper) (s : Tmp), ops[i]? = some o → o.dst = some s → s < a0.tmps.size)
  (mono : ∀ i v w w', F i v w → Below w.heap.size w w' → F i v w')
  (step : ∀ (i : Nat) (o : Oper), ops[i]? = some o → Owes P ops Q F G a0 i o)
  (fin : ∀ a w, Stood F G ops a0 (Array.replicate ops.size true) a w → Q .normal a w) :
  ∀ (fuel : Nat) (listed : Array Bool) (a : Act) (w : World), listed.size = ops.size → listed.toList.countP (fun b => !b) ≤ fuel → Stood F G ops a0 listed a w → wpAny P .any ops Q fuel listed a w := by
 have last : ∀ (listed : Array Bool) (a : Act) (w : World), listed.size = ops.size → Stood F G ops a0 listed a w → Region.ready .any ops listed = [] → Q .normal a w := fun listed a w hs h hr =>
  fin a w ⟨h.held, h.defers, h.size, h.old, fun i o s _ ho hd => h.new i o s (all_listed hs hasc hr i (by
   rcases Nat.lt_or_ge i ops.size with h1 | h1
   ·exact h1
   ·rw [Array.getElem?_eq_none h1] at ho; cases ho)) ho hd⟩
 intro fuel;induction fuel with
 | zero =>
  intro listed a w hs hc h
  have hr : Region.ready .any ops listed = [] := by
   refine List.filter_eq_nil_iff.2 fun i hi => ?_
   have hi2 : i < listed.toList.length := by rw [Array.length_toList, hs]; exact List.mem_range.1 hi
   have h0 := List.countP_eq_zero.1 (Nat.le_zero.1 hc) listed.toList[i] (List.getElem_mem hi2)
   have h1 : listed.getD i true = true := by
    rw [Array.getD_eq_getD_getElem?, Array.getElem?_eq_getElem (by simpa using hi2)]
    simpa using h0
   rw [h1];simp
  exact ⟨hr, last listed a w hs h hr⟩
 | succ fuel ih =>
  intro listed a w hs hc h;refine ⟨last listed a w hs h, fun i hi => ?_⟩
  obtain ⟨hi1, hi2⟩ := List.mem_filter.1 hi;have hi3 : i < ops.size := List.mem_range.1 hi1
  rw [Bool.and_eq_true, Bool.not_eq_true', Array.getElem?_eq_getElem hi3, Option.map_some, Option.getD_some] at hi2;obtain ⟨hl, hall⟩ := hi2;have ho : ops[i]? = some ops[i] := Array.getElem?_eq_getElem hi3
  have hil : i < listed.toList.length := by rw [Array.length_toList, hs]; exact hi3
  have hlf : listed.toList[i] = false := by
   rw [Array.getD_eq_getD_getElem?, Array.getElem?_eq_getElem (by omega)] at hl
   simpa using hl
  have hcnt : (listed.setIfInBounds i true).toList.countP (fun b => !b) ≤ fuel := by
   rw [Array.toList_setIfInBounds, List.countP_set hil, hlf];simp only [Bool.not_false, if_true, Bool.not_true, Bool.false_eq_true, if_false];omega
  have key : ∀ v w', G w' → Below w.heap.size w w' → F i v w' → wpAny P .any ops Q fuel (listed.setIfInBounds i true) (a.put ops[i].dst v) w' := by
   intro v w' hG hb hF;refine ih _ _ _ (by simpa using hs) hcnt ⟨hG, (put_defers _ _ _).trans h.defers, (put_size _ _ _).trans h.size, fun s hn => (put_getD_other _ _ _ _ (hn i _ ho)).trans (h.old s hn), fun j o s hj hoj hd => ?_⟩
   by_cases e : j = i
   ·subst e
    obtain rfl := Option.some.inj (ho.symm.trans hoj);rw [hd, put_getD_self _ _ _ (by rw [h.size]; exact hin _ _ _ hoj hd)]
    exact hF
   ·rw [put_getD_other _ _ _ _ (fun e2 => e (hdst j i o ops[i] s hoj ho hd e2))]
    refine mono _ _ _ _ (h.new j o s ?_ hoj hd) hb
    rw [Array.getD_eq_getD_getElem?, Array.getElem?_setIfInBounds_ne (fun e2 => e e2.symm)] at hj
    rw [gd_];exact hj
  have hst := step i ops[i] ho a w h.held h.old (fun j o' s hj hoj hd => h.new j o' s (by
   obtain ⟨e, he, h2⟩ := Array.any_eq_true'.1 hj;rw [Bool.and_eq_true, beq_iff_eq] at h2;have h3 := (Array.all_eq_true_iff_forall_mem.1 hall) e he;rw [h2.2, h2.1] at h3;simpa using h3) hoj hd) (wpAny P .any ops Q fuel (listed.setIfInBounds i true)) key
  unfold wpOp;rw [ho];show if Region.wanted ops[i] (yielded ops a.tmps) = true then _ else _
  split
  ·rename_i hw; rw [if_pos hw] at hst; exact .inl hst
  ·rename_i hw; rw [if_neg hw] at hst; exact hst
theorem wp_region_facts {id : Nat} {w0 : World} (hm : P.follows .mixedOrders = true) (F : Nat → Value → World → Prop) (G : World → Prop)
  (hasc : (List.range ops.size).all (fun i => ((ops[i]?).map fun o => o.after.all fun e => decide (e.on < i)).getD true) = true)
  (hdst : (List.range ops.size).all (fun i => (List.range ops.size).all fun j => decide (i = j) || ((ops[i]?).bind (·.dst)).isNone || ((ops[i]?).bind (·.dst)) != ((ops[j]?).bind (·.dst))) = true)
  (hin : (List.range ops.size).all (fun i => (((ops[i]?).bind (·.dst)).map fun s => decide (s < a0.tmps.size)).getD true) = true)
  (mono : ∀ i v w w', F i v w → Below w.heap.size w w' → F i v w')
  (hG : G w0.drew)
  (step : ∀ (i : Nat) (o : Oper), ops[i]? = some o → Owes P ops Q F G a0 i o)
  (fin : ∀ a w, G w → a.defers = a0.defers → a.tmps.size = a0.tmps.size → (∀ s : Tmp, (∀ (i : Nat) (o : Oper), ops[i]? = some o → o.dst ≠ some s) → a.tmps.getD s undef = a0.tmps.getD s undef) → (∀ (i : Nat) (o : Oper) (s : Tmp), ops[i]? = some o → o.dst = some s → F i (a.tmps.getD s undef) w) → Q .normal a w) :
  (Code.region id ops true).wp P Q a0 w0 := by
 have lt : ∀ {i : Nat} {o : Oper}, ops[i]? = some o → i < ops.size := fun {i o} ho => by
  rcases Nat.lt_or_ge i ops.size with h1 | h1
  ·exact h1
  ·rw [Array.getElem?_eq_none h1] at ho; cases ho
 refine wp_region_any hm (wpAny_facts (F := F) (G := G) (a0 := a0) ?_ ?_ ?_ mono step (fun a w h => fin a w h.held h.defers h.size h.old fun i o s ho hd => h.new i o s (by simp [lt ho]) ho hd) _ _ _ _ (by simp) (Nat.le_trans List.countP_le_length (by simp)) ⟨hG, rfl, rfl, fun _ _ => rfl, fun i o s hi ho _ => ?_⟩)
 ·intro i o ho e he
  have := List.all_eq_true.1 hasc i (List.mem_range.2 (lt ho))
  rw [ho] at this;simpa using (Array.all_eq_true_iff_forall_mem.1 this) e he
 ·intro i j o o' s ho ho' hd hd'
  have := List.all_eq_true.1 (List.all_eq_true.1 hdst i (List.mem_range.2 (lt ho))) j (List.mem_range.2 (lt ho'))
  rw [ho, ho'] at this;simp [hd, hd'] at this
  exact this
 ·intro i o s ho hd
  have := List.all_eq_true.1 hin i (List.mem_range.2 (lt ho))
  rw [ho] at this;simpa [hd] using this
 ·rw [gd_] at hi
  simp [lt ho] at hi
def boolOf : Value → Option Bool
 | .bool b => some b
 | _ => none
def met (ds : List (Option Tmp)) (o : Oper) (a : Act) : Bool :=
 match o.guard with
 | none => true
 | some (k, b) => match ds.getD k none with
  | some s => boolOf (a.tmps.getD s undef) == some b
  | none => false
theorem met_wanted {l : List Oper} {a : Act} (o : Oper) : Region.wanted o (yielded l.toArray a.tmps) = met (l.map (·.dst)) o a := by
 unfold Region.wanted met;rcases o.guard with _ | ⟨k, b⟩
 ·rfl
 ·have h1 : (l.map (·.dst)).getD k none = (l.toArray[k]?).bind (·.dst) := by
   rw [List.getD_eq_getElem?_getD, List.getElem?_map, List.getElem?_toArray];rcases l[k]? with _ | o' <;> rfl
  dsimp only;rw [h1];unfold yielded;rcases (l.toArray[k]?).bind (·.dst) with _ | s
  ·rfl
  ·show _ = (boolOf (a.tmps.getD s undef) == some b)
   rw [gd_];simp only [Option.bind_some];rcases a.tmps[s]? with _ | v
   ·rfl
   ·cases v <;> rfl
def Due (P : Program) (ds : List (Option Tmp)) (Q : Exit → Act → World → Prop) (F : Nat → Value → World → Prop) (G : World → Prop) (a0 : Act) (i : Nat) (o : Oper) : Prop :=
 ∀ a w, G w → (∀ s : Tmp, ds.contains (some s) = false → a.tmps.getD s undef = a0.tmps.getD s undef) →
  (∀ (j : Nat) (s : Tmp), (o.after.any fun e => e.on == j && Region.binds .any e) = true → ds.getD j none = some s → F j (a.tmps.getD s undef) w) →
  ∀ K : Act → World → Prop, (∀ v w', G w' → Below w.heap.size w w' → F i v w' → K (a.put o.dst v) w') →
  if met ds o a = true then Oper.wp P o a w K Q else K (a.put o.dst undef) w
def AllDue (P : Program) (ds : List (Option Tmp)) (Q : Exit → Act → World → Prop) (F : Nat → Value → World → Prop) (G : World → Prop) (a0 : Act) : Nat → List Oper → Prop
 | _, [] => True
 | k, o :: r => Due P ds Q F G a0 k o ∧ AllDue P ds Q F G a0 (k + 1) r
theorem AllDue.nil {ds : List (Option Tmp)} {k : Nat} : AllDue P ds Q F G a0 k [] := trivial
theorem AllDue.cons {ds : List (Option Tmp)} {k : Nat} {o : Oper} {r : List Oper} (h : Due P ds Q F G a0 k o) (hr : AllDue P ds Q F G a0 (k + 1) r) : AllDue P ds Q F G a0 k (o :: r) := ⟨h, hr⟩
theorem AllDue.at_ {ds : List (Option Tmp)} : ∀ {l : List Oper} {k i : Nat} {o : Oper}, AllDue P ds Q F G a0 k l → l[i]? = some o → Due P ds Q F G a0 (k + i) o
 | [], _, _, _, _, h => by simp at h
 | o' :: r, k, 0, o, h, ho => by
  simp at ho
  subst ho;exact h.1
 | o' :: r, k, i + 1, o, h, ho => by
  have := AllDue.at_ (i := i) h.2 (by simpa using ho)
  rwa [show k + 1 + i = k + (i + 1) by omega] at this
theorem wp_region_due {l : List Oper} {id : Nat} {w0 : World} (hm : P.follows .mixedOrders = true) (ds : List (Option Tmp)) (F : Nat → Value → World → Prop) (G : World → Prop) (hds : ds = l.map (·.dst))
  (hasc : (List.range l.toArray.size).all (fun i => ((l.toArray[i]?).map fun o => o.after.all fun e => decide (e.on < i)).getD true) = true)
  (hdst : (List.range l.toArray.size).all (fun i => (List.range l.toArray.size).all fun j => decide (i = j) || ((l.toArray[i]?).bind (·.dst)).isNone || ((l.toArray[i]?).bind (·.dst)) != ((l.toArray[j]?).bind (·.dst))) = true)
  (hin : (List.range l.toArray.size).all (fun i => (((l.toArray[i]?).bind (·.dst)).map fun s => decide (s < a0.tmps.size)).getD true) = true)
  (mono : ∀ i v w w', F i v w → Below w.heap.size w w' → F i v w')
  (hG : G w0.drew)
  (step : AllDue P ds Q F G a0 0 l)
  (fin : ∀ a w, G w → a.defers = a0.defers → a.tmps.size = a0.tmps.size → (∀ s : Tmp, ds.contains (some s) = false → a.tmps.getD s undef = a0.tmps.getD s undef) → (∀ (i : Nat) (s : Tmp), ds.getD i none = some s → F i (a.tmps.getD s undef) w) → Q .normal a w) :
  (Code.region id l.toArray true).wp P Q a0 w0 := by
 have atd : ∀ {j : Nat} {o : Oper}, l.toArray[j]? = some o → ds.getD j none = o.dst := fun {j o} h => by
  rw [List.getElem?_toArray] at h;rw [hds, List.getD_eq_getElem?_getD, List.getElem?_map, h];rfl
 have old' : ∀ {a : Act}, (∀ s : Tmp, (∀ (i : Nat) (o : Oper), l.toArray[i]? = some o → o.dst ≠ some s) → a.tmps.getD s undef = a0.tmps.getD s undef) → ∀ s : Tmp, ds.contains (some s) = false → a.tmps.getD s undef = a0.tmps.getD s undef := fun {a} h s hs => h s fun i o ho hd => by
  have : some s ∈ ds := by
   rw [hds];exact List.mem_map.2 ⟨o, List.mem_of_getElem? (by rw [← List.getElem?_toArray]; exact ho), hd⟩
  rw [List.contains_iff_mem.2 this] at hs;cases hs
 refine wp_region_facts hm F G hasc hdst hin mono hG (fun i o ho => ?_) (fun a w h1 h2 h3 h4 h5 => fin a w h1 h2 h3 (old' h4) fun i s hs => ?_)
 ·intro a w hGw hold hf K hK
  rw [met_wanted, ← hds];have hd := step.at_ (i := i) (by rw [← List.getElem?_toArray]; exact ho)
  rw [Nat.zero_add] at hd;refine hd a w hGw (old' hold) (fun j s hj hs => ?_) K hK
  rcases h : l.toArray[j]? with _ | o'
  ·rw [hds, List.getD_eq_getElem?_getD, List.getElem?_map] at hs
   rw [List.getElem?_toArray] at h;rw [h] at hs;cases hs
  ·exact hf j o' s hj h (by rw [← atd h]; exact hs)
 ·rcases h : l.toArray[i]? with _ | o'
  ·rw [hds, List.getD_eq_getElem?_getD, List.getElem?_map] at hs
   rw [List.getElem?_toArray] at h;rw [h] at hs;cases hs
  ·exact h5 i o' s h (by rw [← atd h]; exact hs)
theorem aq_ {ds : List (Option Tmp)} {i : Nat} {o : Oper}
  (hg : o.guard = none ∨ ∃ k b s, o.guard = some (k, b) ∧ ds.getD k none = some s ∧ (o.after.any fun e => e.on == k && Region.binds .any e) = true ∧ ∀ v w, F k v w → v = .bool b)
  (h : ∀ a w, G w → (∀ s : Tmp, ds.contains (some s) = false → a.tmps.getD s undef = a0.tmps.getD s undef) →
   (∀ (j : Nat) (s : Tmp), (o.after.any fun e => e.on == j && Region.binds .any e) = true → ds.getD j none = some s → F j (a.tmps.getD s undef) w) →
   ∀ K : Act → World → Prop, (∀ v w', G w' → Below w.heap.size w w' → F i v w' → K (a.put o.dst v) w') → Oper.wp P o a w K Q) : Due P ds Q F G a0 i o := by
 intro a w hG hold hf K hK
 have hm : met ds o a = true := by
  unfold met;rcases hg with hg | ⟨k, b, s, hg, hs, ha, hv⟩
  ·rw [hg]
  ·rw [hg]
   have := hv _ _ (hf k s ha hs)
   simp only [hs, this, boolOf, beq_self_eq_true]
 rw [if_pos hm];exact h a w hG hold hf K hK
theorem due_not {ds : List (Option Tmp)} {i k : Nat} {o : Oper} {b : Bool} {s : Tmp} (hg : o.guard = some (k, b)) (hs : ds.getD k none = some s) (ha : (o.after.any fun e => e.on == k && Region.binds .any e) = true) (hv : ∀ v w, F k v w → v = .bool (!b)) (hu : ∀ w, F i undef w) : Due P ds Q F G a0 i o := by
 intro a w hG hold hf K hK
 have hm : met ds o a = false := by
  unfold met;rw [hg];have := hv _ _ (hf k s ha hs)
  simp only [hs, this, boolOf];cases b <;> rfl
 rw [hm, if_neg (by decide)]
 exact hK _ _ hG (Below.refl _ _) (hu w)
end
end
section
open Go.RowKit Sets Clocks
def Pair (w : World) (v : Value) (a b : Int) : Prop := ∃ g, v = .slice (some ⟨g, 0, none⟩) 2 2 ∧ Two w g a b
theorem Pair.below {w w' : World} {v : Value} {a b : Int} (h : Pair w v a b) (hb : Below w.heap.size w w') : Pair w' v a b := by
 obtain ⟨g, hv, ht⟩ := h;exact ⟨g, hv, (hb.block _ (row_lt ht)).trans ht⟩
theorem pair_lit (w : World) (a b : Int) : Pair (w.alloc (.cells #[.int .i64 a, .int .i64 b] 3)) (.slice (some ⟨w.heap.size, 0, none⟩) 2 2) a b := ⟨_, rfl, heap_alloc_new w _⟩
def ordDs : List (Option Tmp) := [some 5, some 6, some 7, some 8, some 9, some 10, some 11, some 12, some 13, some 14, some 15, some 16, some 4]
def ordF (a p n b q m : Int) (B : Nat) : Nat → Value → World → Prop := fun i v w => match i with
 | 0 => v = .pointer (some ⟨B, 0, none⟩)
 | 1 => v = .agg #[.int .i64 a, .int .i64 p]
 | 2 => v = .pointer (some ⟨B + 1, 0, none⟩)
 | 3 => v = .agg #[.int .i64 b, .int .i64 q]
 | 4 => v = .int .i64 (cmpZ a p b q)
 | 5 => v = .pointer (some ⟨B + 1, 2, none⟩)
 | 6 => v = .int .i64 m
 | 7 => v = .pointer (some ⟨B, 2, none⟩)
 | 8 => v = .int .i64 n
 | 9 => v = .int .i64 (cmpI m n)
 | 10 => Pair w v (cmpZ a p b q) (cmpI m n)
 | 11 => v = .int .i64 (cmpT ((a, p), n) ((b, q), m))
 | 12 => v = .int .i64 (cmpT ((a, p), n) ((b, q), m))
 | _ => True
theorem ordF_mono (a p n b q m : Int) (B : Nat) : ∀ k v w w', ordF a p n b q m B k v w → Below w.heap.size w w' → ordF a p n b q m B k v w' := by
 intro i v w w' h hb;unfold ordF at h ⊢;split at h
 all_goals first | exact h | exact h.below hb
set_option maxHeartbeats 2000000 in
theorem ordT_any (a p n b q m : Int) (w : World) :
  Calls Tryz.prog 180 #[.agg #[.int .i64 a, .int .i64 p, .int .i64 n], .agg #[.int .i64 b, .int .i64 q, .int .i64 m]] w fun e w' => e = .returned (.int .i64 (cmpT ((a, p), n) ((b, q), m))) ∧ Grew w w' := by
 have HB0 := hd_ fun W (h : Grew ((w.alloc (.cells #[.int .i64 a, .int .i64 p, .int .i64 n] 53)).alloc (.cells #[.int .i64 b, .int .i64 q, .int .i64 m] 53)) W) =>
  tbox_cells (tbox_below (tbox_below (tbox_new w a p n) ((Below.refl _ _).alloc (Nat.le_refl _) _)) h.below)
 have HB1 : Hid (∀ W, Grew ((w.alloc (.cells #[.int .i64 a, .int .i64 p, .int .i64 n] 53)).alloc (.cells #[.int .i64 b, .int .i64 q, .int .i64 m] 53)) W → _) := hd_ fun W (h : Grew ((w.alloc (.cells #[.int .i64 a, .int .i64 p, .int .i64 n] 53)).alloc (.cells #[.int .i64 b, .int .i64 q, .int .i64 m] 53)) W) =>
  tbox_cells (g := w.heap.size + 1) (tbox_below (by have := tbox_new (w.alloc (.cells #[.int .i64 a, .int .i64 p, .int .i64 n] 53)) b q m; simpa using this) h.below)
 go_enter Tryz.func180, Tryz.ntmps180
 go_wp2_with fail;refine wp_region_due (by kernel_rfl) ordDs (ordF a p n b q m w.heap.size) (Grew ((w.alloc (.cells #[.int .i64 a, .int .i64 p, .int .i64 n] 53)).alloc (.cells #[.int .i64 b, .int .i64 q, .int .i64 m] 53))) rfl (by kernel_rfl) (by kernel_rfl) (by kernel_rfl) (ordF_mono a p n b q m _) (Grew.refl _).drew ?_ ?_
 ·skip
  refine AllDue.cons (aq_ (.inl rfl) fun act w1 hG hold hf K hK => ?_) ?_
  ·have f2 : act.tmps.getD 2 undef = .pointer (some ⟨w.heap.size, 0, none⟩) := hold 2 (by kernel_rfl)
   clear hf hold;go_simp;exact hK _ _ hG (Below.refl _ _) rfl
  refine AllDue.cons (aq_ (.inl rfl) fun act w1 hG hold hf K hK => ?_) ?_
  ·have f5 : act.tmps.getD 5 undef = .pointer (some ⟨w.heap.size, 0, none⟩) := hf 0 5 (by kernel_rfl) rfl
   obtain ⟨c1, c2, c3⟩ := HB0.out _ hG;clear hf hold;go_simp;exact hK _ _ hG (Below.refl _ _) rfl
  refine AllDue.cons (aq_ (.inl rfl) fun act w1 hG hold hf K hK => ?_) ?_
  ·have f3 : act.tmps.getD 3 undef = .pointer (some ⟨w.heap.size + 1, 0, none⟩) := hold 3 (by kernel_rfl)
   clear hf hold;go_simp;exact hK _ _ hG (Below.refl _ _) rfl
  refine AllDue.cons (aq_ (.inl rfl) fun act w1 hG hold hf K hK => ?_) ?_
  ·have f7 : act.tmps.getD 7 undef = .pointer (some ⟨w.heap.size + 1, 0, none⟩) := hf 2 7 (by kernel_rfl) rfl
   obtain ⟨c1, c2, c3⟩ := HB1.out _ hG;clear hf hold;go_simp;exact hK _ _ hG (Below.refl _ _) rfl
  refine AllDue.cons (aq_ (.inl rfl) fun act w1 hG hold hf K hK => ?_) ?_
  ·have f6 : act.tmps.getD 6 undef = .agg #[.int .i64 a, .int .i64 p] := hf 1 6 (by kernel_rfl) rfl
   have f8 : act.tmps.getD 8 undef = .agg #[.int .i64 b, .int .i64 q] := hf 3 8 (by kernel_rfl) rfl
   clear hf hold;go_simp;go_at_call 102
   refine (compare_grew _ _ _ _ _).mono ?_
   rintro e w' ⟨rfl, h2⟩;exact hK _ _ (Grew.trans hG h2) h2.below rfl
  refine AllDue.cons (aq_ (.inl rfl) fun act w1 hG hold hf K hK => ?_) ?_
  ·have f3 : act.tmps.getD 3 undef = .pointer (some ⟨w.heap.size + 1, 0, none⟩) := hold 3 (by kernel_rfl)
   clear hf hold;go_simp;exact hK _ _ hG (Below.refl _ _) rfl
  refine AllDue.cons (aq_ (.inl rfl) fun act w1 hG hold hf K hK => ?_) ?_
  ·have f10 : act.tmps.getD 10 undef = .pointer (some ⟨w.heap.size + 1, 2, none⟩) := hf 5 10 (by kernel_rfl) rfl
   obtain ⟨c1, c2, c3⟩ := HB1.out _ hG;clear hf hold;go_simp;exact hK _ _ hG (Below.refl _ _) rfl
  refine AllDue.cons (aq_ (.inl rfl) fun act w1 hG hold hf K hK => ?_) ?_
  ·have f2 : act.tmps.getD 2 undef = .pointer (some ⟨w.heap.size, 0, none⟩) := hold 2 (by kernel_rfl)
   clear hf hold;go_simp;exact hK _ _ hG (Below.refl _ _) rfl
  refine AllDue.cons (aq_ (.inl rfl) fun act w1 hG hold hf K hK => ?_) ?_
  ·have f12 : act.tmps.getD 12 undef = .pointer (some ⟨w.heap.size, 2, none⟩) := hf 7 12 (by kernel_rfl) rfl
   obtain ⟨c1, c2, c3⟩ := HB0.out _ hG;clear hf hold;go_simp;exact hK _ _ hG (Below.refl _ _) rfl
  refine AllDue.cons (aq_ (.inl rfl) fun act w1 hG hold hf K hK => ?_) ?_
  ·have f11 : act.tmps.getD 11 undef = .int .i64 m := hf 6 11 (by kernel_rfl) rfl
   have f13 : act.tmps.getD 13 undef = .int .i64 n := hf 8 13 (by kernel_rfl) rfl
   clear hf hold;go_simp;go_at_call 182
   refine (cmpI_any _ _ _).mono ?_
   rintro e w' ⟨rfl, rfl⟩;exact hK _ _ hG (Below.refl _ _) rfl
  refine AllDue.cons (aq_ (.inl rfl) fun act w1 hG hold hf K hK => ?_) ?_
  ·have f9 : act.tmps.getD 9 undef = .int .i64 (cmpZ a p b q) := hf 4 9 (by kernel_rfl) rfl
   have f14 : act.tmps.getD 14 undef = .int .i64 (cmpI m n) := hf 9 14 (by kernel_rfl) rfl
   have q9 := f9;rw [gd_] at q9;have q14 := f14;rw [gd_] at q14;clear hf hold;go_simp;exact hK _ _ (Grew.alloc hG _) ((Below.refl _ _).alloc (Nat.le_refl _) _) (pair_lit w1 _ _)
  refine AllDue.cons (aq_ (.inl rfl) fun act w1 hG hold hf K hK => ?_) ?_
  ·have r15 : Pair w1 (act.tmps.getD 15 undef) (cmpZ a p b q) (cmpI m n) := hf 10 15 (by kernel_rfl) rfl
   obtain ⟨x15, e15⟩ : ∃ x, act.tmps.getD 15 undef = x := ⟨_, rfl⟩;rw [e15] at r15;have q15 := e15;rw [gd_] at q15;obtain ⟨g, rfl, ht⟩ := r15;clear hf hold;go_simp;go_at_call 181
   refine (or_any g _ _ _ ht).mono ?_
   rintro e w' ⟨rfl, rfl⟩;exact hK _ _ hG (Below.refl _ _) rfl
  refine AllDue.cons (aq_ (.inl rfl) fun act w1 hG hold hf K hK => ?_) ?_
  ·have f16 : act.tmps.getD 16 undef = .int .i64 (cmpT ((a, p), n) ((b, q), m)) := hf 11 16 (by kernel_rfl) rfl
   clear hf hold;go_simp;exact hK _ _ hG (Below.refl _ _) rfl
  exact AllDue.nil
 ·intro act w1 hG hd hs hold hf
  have f4 : act.tmps.getD 4 undef = .int .i64 (cmpT ((a, p), n) ((b, q), m)) := hf 12 4 rfl
  clear hf hold;go_wp2_with fail;refine bodyPost_ret (results_tmp rfl _ _ _) hd ?_
  exact ⟨by rw [f4], (grew_two w _ _).trans hG⟩
end
section
open Go.RowKit Go.Shelf Sets Clocks
def sortT_ren : Go.Shelf.Ren := ⟨fun | 6 => 179 | 15 => 198 | 14 => 197 | 28 => 211 | 29 => 212 | 20 => 203 | 21 => 204 | 22 => 205 | 23 => 206 | 24 => 207 | 25 => 208 | 26 => 209 | 27 => 210 | 46 => 216 | 47 => 217 | 48 => 218 | 49 => 219 | 50 => 220 | 57 => 222 | n => n, fun | 22 => 25 | 24 => 53 | 25 => 166 | 3 => 3 | 39 => 64 | 0 => 0 | 53 => 189 | 55 => 191 | 4 => 4 | 46 => 183 | 45 => 182 | 50 => 108 | 5 => 5 | 9 => 9 | 66 => 195 | 70 => 199 | 76 => 201 | 77 => 202 | n => n, fun | n => n⟩
theorem sortT : Go.Proofs.SlLaysF0.n6 Tryz.prog sortT_ren := {
 mixed := by kernel_rfl
 f6 := ⟨Tryz.f179.name, by decide, Tryz.func179.trans (congrArg some (by kernel_rfl))⟩
 f14 := ⟨Tryz.f197.name, by decide, Tryz.func197.trans (congrArg some (by kernel_rfl))⟩
 f15 := Tryz.func198.trans (congrArg some (by kernel_rfl))
 f20 := ⟨Tryz.f203.name, by decide, Tryz.func203.trans (congrArg some (by kernel_rfl))⟩
 f21 := ⟨Tryz.f204.name, by decide, Tryz.func204.trans (congrArg some (by kernel_rfl))⟩
 f22 := ⟨Tryz.f205.name, by decide, Tryz.func205.trans (congrArg some (by kernel_rfl))⟩
 f23 := ⟨Tryz.f206.name, by decide, Tryz.func206.trans (congrArg some (by kernel_rfl))⟩
 f24 := ⟨Tryz.f207.name, by decide, Tryz.func207.trans (congrArg some (by kernel_rfl))⟩
 f25 := ⟨Tryz.f208.name, by decide, Tryz.func208.trans (congrArg some (by kernel_rfl))⟩
 f26 := ⟨Tryz.f209.name, by decide, Tryz.func209.trans (congrArg some (by kernel_rfl))⟩
 f27 := ⟨Tryz.f210.name, by decide, Tryz.func210.trans (congrArg some (by kernel_rfl))⟩
 f28 := Tryz.func211.trans (congrArg some (by kernel_rfl))
 f29 := Tryz.func212.trans (congrArg some (by kernel_rfl))
 f46 := ⟨Tryz.f216.name, by decide, Tryz.func216.trans (congrArg some (by kernel_rfl))⟩
 f47 := Tryz.func217.trans (congrArg some (by kernel_rfl))
 f48 := Tryz.func218.trans (congrArg some (by kernel_rfl))
 f49 := ⟨Tryz.f219.name, by decide, Tryz.func219.trans (congrArg some (by kernel_rfl))⟩
 f50 := ⟨Tryz.f220.name, by decide, Tryz.func220.trans (congrArg some (by kernel_rfl))⟩
 f57 := ⟨Tryz.f222.name, by decide, Tryz.func222.trans (congrArg some (by kernel_rfl))⟩
 t0 := Tryz.underlying0
 a0 := Tryz.isAgg0
 z0 := Tryz.sizeOf0
 v0 := Tryz.zeroValue0
 t3 := Tryz.underlying3
 a3 := Tryz.isAgg3
 z3 := Tryz.sizeOf3
 v3 := Tryz.zeroValue3
 t4 := Tryz.underlying4
 a4 := Tryz.isAgg4
 z4 := Tryz.sizeOf4
 v4 := Tryz.zeroValue4
 t5 := Tryz.underlying5
 a5 := Tryz.isAgg5
 z5 := Tryz.sizeOf5
 v5 := Tryz.zeroValue5
 t9 := Tryz.underlying9
 a9 := Tryz.isAgg9
 z9 := Tryz.sizeOf9
 v9 := Tryz.zeroValue9
 t22 := Tryz.underlying25
 a22 := Tryz.isAgg25
 z22 := Tryz.sizeOf25
 v22 := Tryz.zeroValue25
 t25 := Tryz.underlying166
 a25 := Tryz.isAgg166
 z25 := Tryz.sizeOf166
 v25 := Tryz.zeroValue166
 t39 := Tryz.underlying64
 a39 := Tryz.isAgg64
 z39 := Tryz.sizeOf64
 v39 := Tryz.zeroValue64
 t45 := Tryz.underlying182
 a45 := Tryz.isAgg182
 z45 := Tryz.sizeOf182
 v45 := Tryz.zeroValue182
 t46 := Tryz.underlying183
 a46 := Tryz.isAgg183
 z46 := Tryz.sizeOf183
 v46 := Tryz.zeroValue183
 t50 := Tryz.underlying108
 a50 := Tryz.isAgg108
 z50 := Tryz.sizeOf108
 v50 := Tryz.zeroValue108
 t53 := Tryz.underlying189
 a53 := Tryz.isAgg189
 z53 := Tryz.sizeOf189
 v53 := Tryz.zeroValue189
 t55 := Tryz.underlying191
 a55 := Tryz.isAgg191
 z55 := Tryz.sizeOf191
 v55 := Tryz.zeroValue191
 t66 := Tryz.underlying195
 a66 := Tryz.isAgg195
 z66 := Tryz.sizeOf195
 v66 := Tryz.zeroValue195
 t70 := Tryz.underlying199
 a70 := Tryz.isAgg199
 z70 := Tryz.sizeOf199
 v70 := Tryz.zeroValue199
 t76 := Tryz.underlying201
 a76 := Tryz.isAgg201
 z76 := Tryz.sizeOf201
 v76 := Tryz.zeroValue201
 t77 := Tryz.underlying202
 a77 := Tryz.isAgg202
 z77 := Tryz.sizeOf202
 v77 := Tryz.zeroValue202 }
def RowAt (w : World) (g : Nat) (d : Array Tick) : Prop := g < w.heap.size ∧ ∀ k, k < d.size →
 (w.cell? ⟨g, k * 3, none⟩ = some (.int .i64 d[k]!.1.1) ∧ w.cell? ⟨g, k * 3 + 1, none⟩ = some (.int .i64 d[k]!.1.2) ∧ w.cell? ⟨g, k * 3 + 2, none⟩ = some (.int .i64 d[k]!.2)) ∧
 (w.frozen? ⟨g, k * 3, none⟩ = false ∧ w.frozen? ⟨g, k * 3 + 1, none⟩ = false ∧ w.frozen? ⟨g, k * 3 + 2, none⟩ = false)
theorem rowAt_rcs {w : World} {g c : Nat} {d : Array Tick} (h : RowAt w g d) (hc : d.size ≤ c) : Rcs encT 3 w (.slice (some ⟨g, 0, none⟩) d.size c) d.toList := by
 refine ⟨some ⟨g, 0, none⟩, c, by simp, (fun h => by cases h), by simpa using hc, fun k hk => ⟨_, rfl, h.1, fun j u hu => ?_⟩⟩
 have hk2 : k < d.size := by simpa using hk
 obtain ⟨⟨c1, c2, c3⟩, _⟩ := h.2 k hk2;rw [getElem!_pos d k hk2] at c1 c2 c3;rw [add_lit];have hj : j < 3 := (List.getElem?_eq_some_iff.1 hu).1
 have he : d.toList[k] = d[k] := by simp
 rw [he] at hu;match j, hj with
 | 0, _ => rw [← (Option.some.inj hu)]; exact c1
 | 1, _ => rw [← (Option.some.inj hu)]; exact c2
 | 2, _ => rw [← (Option.some.inj hu)]; exact c3
theorem rowAt_kept {w w' : World} {g : Nat} {d : Array Tick} (h : RowAt w g d) (hb : Below w.heap.size w w') : RowAt w' g d := by
 refine ⟨Nat.lt_of_lt_of_le h.1 hb.size, fun k hk => ?_⟩
 have hg := hb.block g h.1;obtain ⟨⟨c1, c2, c3⟩, f1, f2, f3⟩ := h.2 k hk;exact ⟨⟨(World.cell?_of_block hg).trans c1, (World.cell?_of_block hg).trans c2, (World.cell?_of_block hg).trans c3⟩, (World.frozen?_of_block hg).trans f1, (World.frozen?_of_block hg).trans f2, (World.frozen?_of_block hg).trans f3⟩
theorem rowAt_owns {w : World} {base g c : Nat} {d : Array Tick} (h : OwnsR encT 3 53 w base (.slice (some ⟨g, 0, none⟩) d.size c) d.toList) : RowAt w g d := by
 have hr := rcs_owns encT_len h;rcases id h.2 with ⟨h1, _⟩ | ⟨g', cap, cur, h1, hb, hh, _⟩
 ·cases h1
 ·injection h1 with e1 e2 e3
  injection e1 with e1
  injection e1 with e1
  subst e1;refine ⟨row_lt hh, fun k hk => ?_⟩
  have hk2 : k < d.toList.length := by simpa using hk
  obtain ⟨A, c', hv, _, _, hx⟩ := hr;injection hv with a1 a2 a3
  subst a1;obtain ⟨ad, e, _, hc⟩ := hx k hk2;injection e with e
  subst e;have he : d.toList[k] = d[k]! := by rw [getElem!_pos d k hk]; simp
  rw [he] at hc;have c1 := hc 0 _ rfl;have c2 := hc 1 _ rfl;have c3 := hc 2 _ rfl;rw [add_lit] at c1 c2 c3;exact ⟨⟨c1, c2, c3⟩, by simp [World.frozen?, hh], by simp [World.frozen?, hh], by simp [World.frozen?, hh]⟩
theorem addr_ne {g i j : Nat} (h : i ≠ j) : (⟨g, i, none⟩ : Addr) ≠ ⟨g, j, none⟩ := fun e => h (by injection e)
theorem cell_past {w : World} {g i j : Nat} {v : Value} (h : i ≠ j) : (w.setCell ⟨g, i, none⟩ v).cell? ⟨g, j, none⟩ = w.cell? ⟨g, j, none⟩ := World.cell?_setCell_other _ _ _ _ (addr_ne h)
theorem rowAt_set {w : World} {g : Nat} {d : Array Tick} (h : RowAt w g d) {i : Nat} (hi : i < d.size) (t : Tick) :
  RowAt (((w.setCell ⟨g, i * 3, none⟩ (.int .i64 t.1.1)).setCell ⟨g, i * 3 + 1, none⟩ (.int .i64 t.1.2)).setCell ⟨g, i * 3 + 2, none⟩ (.int .i64 t.2)) g (d.setIfInBounds i t) := by
 refine ⟨by simp only [World.size_setCell]; exact h.1, fun k hk => ?_⟩
 have hk2 : k < d.size := by simpa using hk
 obtain ⟨⟨c1, c2, c3⟩, f1, f2, f3⟩ := h.2 k hk2;refine ⟨?_, by simp only [World.frozen?_setCell]; exact ⟨f1, f2, f3⟩⟩
 by_cases e : k = i
 ·subst e
  rw [Go.Sort.getElem!_set_same d k t hk2];have s1 := World.cell?_setCell_same _ _ (.int .i64 t.1.1) c1;have c2' : (w.setCell ⟨g, k * 3, none⟩ (.int .i64 t.1.1)).cell? ⟨g, k * 3 + 1, none⟩ = some (.int .i64 d[k]!.1.2) := by exact (cell_past (by omega)).trans (c2)
  have s2 := World.cell?_setCell_same _ _ (.int .i64 t.1.2) c2'
  have c3' : ((w.setCell ⟨g, k * 3, none⟩ (.int .i64 t.1.1)).setCell ⟨g, k * 3 + 1, none⟩ (.int .i64 t.1.2)).cell? ⟨g, k * 3 + 2, none⟩ = some (.int .i64 d[k]!.2) := by
   exact (cell_past (by omega)).trans ((cell_past (by omega)).trans (c3))
  have s3 := World.cell?_setCell_same _ _ (.int .i64 t.2) c3';refine ⟨?_, ?_, s3⟩
  ·exact (cell_past (by omega)).trans ((cell_past (by omega)).trans (s1))
  ·exact (cell_past (by omega)).trans (s2)
 ·rw [Go.Sort.getElem!_set_other d i k t e]
  refine ⟨?_, ?_, ?_⟩
  ·exact (cell_past (by omega)).trans ((cell_past (by omega)).trans ((cell_past (by omega)).trans (c1)))
  ·exact (cell_past (by omega)).trans ((cell_past (by omega)).trans ((cell_past (by omega)).trans (c2)))
  ·exact (cell_past (by omega)).trans ((cell_past (by omega)).trans ((cell_past (by omega)).trans (c3)))
theorem grown_three {a w : World} {g : Nat} (h : a.grownBy w (some g)) (i j k : Nat) (u v x : Value) : a.grownBy (((w.setCell ⟨g, i, none⟩ u).setCell ⟨g, j, none⟩ v).setCell ⟨g, k, none⟩ x) (some g) := by
 refine ⟨h.os, h.tape, h.output, by simp only [World.size_setCell]; exact h.size, fun m hm hne => ?_⟩
 have hmg : m ≠ g := fun e => hne (by rw [e])
 rw [Below.heap_setCell _ _ _ _ hmg, Below.heap_setCell _ _ _ _ hmg, Below.heap_setCell _ _ _ _ hmg];exact h.block m hm hne
theorem rowAt_front {w : World} {g : Nat} {d : Array Tick} (h : RowAt w g d) {i : Nat} (hi : i ≤ d.size) (vs : List Value) : RowAt (w.setCells g (i * 3) vs) g (d.extract 0 i) := by
 refine ⟨by rw [size_setCells]; exact h.1, fun k hk => ?_⟩
 have hk2 : k < i := by simp at hk; omega
 obtain ⟨⟨c1, c2, c3⟩, f1, f2, f3⟩ := h.2 k (by omega)
 have hg : (d.extract 0 i)[k]! = d[k]! := by
  rw [getElem!_pos _ k hk, getElem!_pos d k (by omega)]
  simp
 rw [hg];refine ⟨⟨?_, ?_, ?_⟩, by rw [World.frozen?_setCells, World.frozen?_setCells, World.frozen?_setCells]; exact ⟨f1, f2, f3⟩⟩
 ·rw [World.cell?_setCells_out g vs _ w _ (fun _ _ => .inl (by show k * 3 < i * 3; omega))]; exact c1
 ·rw [World.cell?_setCells_out g vs _ w _ (fun _ _ => .inl (by show k * 3 + 1 < i * 3; omega))]; exact c2
 ·rw [World.cell?_setCells_out g vs _ w _ (fun _ _ => .inl (by show k * 3 + 2 < i * 3; omega))]; exact c3
theorem run_clear_rows {w : World} {g : Nat} {d : Array Tick} (h : RowAt w g d) {i : Nat} (hi : i < d.size) (c : Nat) (ty : TypeId) :
  ∃ vs, (Builtin.clear_ #[25] ty #[.slice (some ⟨g, i * 3, none⟩) (d.size - i) c]).run Tryz.prog w = .ok (.tuple #[]) (w.setCells g (i * 3) vs) := by
 have hz : ∀ w, (zeroValue 53).run Tryz.prog w = .ok (.agg #[.int .i64 0, .int .i64 0, .int .i64 0]) w := Tryz.zeroValue53
 obtain ⟨m, hm⟩ : ∃ m, d.size - i = m + 1 := ⟨d.size - i - 1, by omega⟩
 rw [hm];refine ⟨(Builtin.zeroCells #[.int .i64 0, .int .i64 0, .int .i64 0] (m + 1)).toList, ?_⟩
 have hlen : (Builtin.zeroCells #[.int .i64 0, .int .i64 0, .int .i64 0] (m + 1)).toList.length = (m + 1) * 3 := by simp [size_zeroCells]
 have cell : ∀ j, j < (m + 1) * 3 → (w.cell? ⟨g, i * 3 + j, none⟩).isSome = true ∧ w.frozen? ⟨g, i * 3 + j, none⟩ = false := by
  intro j hj;obtain ⟨q, r, hr, rfl⟩ : ∃ q r, r < 3 ∧ j = q * 3 + r := ⟨j / 3, j % 3, Nat.mod_lt _ (by omega), by omega⟩
  obtain ⟨⟨c1, c2, c3⟩, f1, f2, f3⟩ := h.2 (i + q) (by omega)
  have e : i * 3 + (q * 3 + r) = (i + q) * 3 + r := by omega
  rw [e];match r, hr with
  | 0, _ => exact ⟨by rw [Nat.add_zero, c1]; rfl, f1⟩
  | 1, _ => exact ⟨by rw [c2]; rfl, f2⟩
  | 2, _ => exact ⟨by rw [c3]; rfl, f3⟩
 have hst := run_storeCells_cells (P := Tryz.prog) g (i * 3) (Builtin.zeroCells #[.int .i64 0, .int .i64 0, .int .i64 0] (m + 1)).toList 0 w (by rw [hlen]; simpa using fun j hj => (cell j hj).1) (by rw [hlen]; simpa using fun j hj => (cell j hj).2) (by
  intro v hv;simp only [Builtin.zeroCells, Array.toList_map, List.mem_map] at hv;obtain ⟨x, _, rfl⟩ := hv;have h3 : x % 3 < 3 := Nat.mod_lt _ (by omega)
  show (#[Value.int .i64 0, .int .i64 0, .int .i64 0][x % 3]!).oneCell' = true
  generalize x % 3 = y at h3;match y, h3 with
  | 0, _ => rfl
  | 1, _ => rfl
  | 2, _ => rfl)
 simp only [Nat.add_zero] at hst;simp [Builtin.clear_, run_underlying Tryz.underlying25, hz, Value.cells, hst]
instance (s t : Tick) : Decidable (tlt s t) := by unfold tlt; infer_instance
theorem ltOf_cmpT (s t : Tick) : ltOf cmpT s t = decide (tlt s t) := by
 unfold ltOf;rw [decide_eq_decide];exact cmpT_neg s t
end
end Go.Proofs.YthkkipbmlafdiaaGreat
