/-
  Carried over and put together: contracts of this program's functions, and plain facts. No statement is proved in this text.
-/
import Derived.Lib.SmallJoins
import Derived.Deep.SlicePairs
import Derived.Test.YtloghkiabgnpnaaDoorH12
import Derived.Test.YtloghkiabgnpnaaDoorH15
set_option maxRecDepth 20000
namespace Go.Proofs.YtloghkiabgnpnaaDoor
open Go Go.RowKit
section
variable {P : Program} {ops : Array Oper} {Q : Exit → Act → World → Prop} {R : World → World → Prop} {F : Nat → Value → World → Prop} {G : World → Prop} {a0 : Act}
/-- What stands when some operations have come up. -/
structure StoodR (F : Nat → Value → World → Prop) (G : World → Prop) (ops : Array Oper) (a0 : Act) (listed : Array Bool) (a : Act) (w : World) : Prop where
  held : G w
  defers : a.defers = a0.defers
  size : a.tmps.size = a0.tmps.size
  old : ∀ s : Tmp, (∀ (i : Nat) (o : Oper), ops[i]? = some o → o.dst ≠ some s) → a.tmps.getD s undef = a0.tmps.getD s undef
  new : ∀ (i : Nat) (o : Oper) (s : Tmp), listed.getD i false = true → ops[i]? = some o → o.dst = some s → F i (a.tmps.getD s undef) w
  done : ∀ (i : Nat) (o : Oper), listed.getD i false = true → ops[i]? = some o → o.dst = none → ∃ v, F i v w
/-- What one operation owes. -/
def OwesR (P : Program) (ops : Array Oper) (Q : Exit → Act → World → Prop) (R : World → World → Prop) (F : Nat → Value → World → Prop) (G : World → Prop) (a0 : Act) (i : Nat) (o : Oper) : Prop :=
  ∀ a w, G w → (∀ s : Tmp, (∀ (i : Nat) (o : Oper), ops[i]? = some o → o.dst ≠ some s) → a.tmps.getD s undef = a0.tmps.getD s undef) →
    (∀ (j : Nat) (o' : Oper) (s : Tmp), (o.after.any fun e => e.on == j && Region.binds .any e) = true → ops[j]? = some o' → o'.dst = some s → F j (a.tmps.getD s undef) w) →
    ∀ K : Act → World → Prop, (∀ v w', G w' → R w w' → F i v w' → K (a.put o.dst v) w') →
    if Region.wanted o (yielded ops a.tmps) = true then Oper.wp P o a w K Q else K (a.put o.dst undef) w
theorem wpAny_factsR (hasc : ∀ (i : Nat) (o : Oper), ops[i]? = some o → ∀ e ∈ o.after, e.on < i) (hdst : ∀ (i j : Nat) (o o' : Oper) (s : Tmp), ops[i]? = some o → ops[j]? = some o' → o.dst = some s → o'.dst = some s → i = j) (hin : ∀ (i : Nat) (o : Oper) (s : Tmp), ops[i]? = some o → o.dst = some s → s < a0.tmps.size)
    (mono : ∀ i v w w', F i v w → R w w' → F i v w')
    (step : ∀ (i : Nat) (o : Oper), ops[i]? = some o → OwesR P ops Q R F G a0 i o)
    (fin : ∀ a w, StoodR F G ops a0 (Array.replicate ops.size true) a w → Q .normal a w) :
    ∀ (fuel : Nat) (listed : Array Bool) (a : Act) (w : World), listed.size = ops.size → listed.toList.countP (fun b => !b) ≤ fuel → StoodR F G ops a0 listed a w → wpAny P .any ops Q fuel listed a w := by
  have last : ∀ (listed : Array Bool) (a : Act) (w : World), listed.size = ops.size → StoodR F G ops a0 listed a w → Region.ready .any ops listed = [] → Q .normal a w := fun listed a w hs h hr =>
    fin a w ⟨h.held, h.defers, h.size, h.old, fun i o s _ ho hd => h.new i o s (all_listed hs hasc hr i (by
      rcases Nat.lt_or_ge i ops.size with h1 | h1
      · exact h1
      · rw [Array.getElem?_eq_none h1] at ho; cases ho)) ho hd, fun i o _ ho hd => h.done i o (all_listed hs hasc hr i (by
      rcases Nat.lt_or_ge i ops.size with h1 | h1
      · exact h1
      · rw [Array.getElem?_eq_none h1] at ho; cases ho)) ho hd⟩
  intro fuel
  induction fuel with
  | zero =>
    intro listed a w hs hc h
    have hr : Region.ready .any ops listed = [] := by
      refine List.filter_eq_nil_iff.2 fun i hi => ?_
      have hi2 : i < listed.toList.length := by rw [Array.length_toList, hs]; exact List.mem_range.1 hi
      have h0 := List.countP_eq_zero.1 (Nat.le_zero.1 hc) listed.toList[i] (List.getElem_mem hi2)
      have h1 : listed.getD i true = true := by
        rw [Array.getD_eq_getD_getElem?, Array.getElem?_eq_getElem (by simpa using hi2)]
        simpa using h0
      rw [h1]
      simp
    exact ⟨hr, last listed a w hs h hr⟩
  | succ fuel ih =>
    intro listed a w hs hc h
    refine ⟨last listed a w hs h, fun i hi => ?_⟩
    obtain ⟨hi1, hi2⟩ := List.mem_filter.1 hi
    have hi3 : i < ops.size := List.mem_range.1 hi1
    rw [Bool.and_eq_true, Bool.not_eq_true', Array.getElem?_eq_getElem hi3, Option.map_some, Option.getD_some] at hi2
    obtain ⟨hl, hall⟩ := hi2
    have ho : ops[i]? = some ops[i] := Array.getElem?_eq_getElem hi3
    have hil : i < listed.toList.length := by rw [Array.length_toList, hs]; exact hi3
    have hlf : listed.toList[i] = false := by
      rw [Array.getD_eq_getD_getElem?, Array.getElem?_eq_getElem (by omega)] at hl
      simpa using hl
    have hcnt : (listed.setIfInBounds i true).toList.countP (fun b => !b) ≤ fuel := by
      rw [Array.toList_setIfInBounds, List.countP_set hil, hlf]
      simp only [Bool.not_false, if_true, Bool.not_true, Bool.false_eq_true, if_false]
      omega
    have key : ∀ v w', G w' → R w w' → F i v w' → wpAny P .any ops Q fuel (listed.setIfInBounds i true) (a.put ops[i].dst v) w' := by
      intro v w' hG hb hF
      refine ih _ _ _ (by simpa using hs) hcnt ⟨hG, (put_defers _ _ _).trans h.defers, (put_size _ _ _).trans h.size, fun s hn => (put_getD_other _ _ _ _ (hn i _ ho)).trans (h.old s hn), fun j o s hj hoj hd => ?_, fun j o hj hoj hd => ?_⟩
      · by_cases e : j = i
        · subst e
          obtain rfl := Option.some.inj (ho.symm.trans hoj)
          rw [hd, put_getD_self _ _ _ (by rw [h.size]; exact hin _ _ _ hoj hd)]
          exact hF
        · rw [put_getD_other _ _ _ _ (fun e2 => e (hdst j i o ops[i] s hoj ho hd e2))]
          refine mono _ _ _ _ (h.new j o s ?_ hoj hd) hb
          rw [Array.getD_eq_getD_getElem?, Array.getElem?_setIfInBounds_ne (fun e2 => e e2.symm)] at hj
          rw [Array.getD_eq_getD_getElem?]
          exact hj
      · by_cases e : j = i
        · subst e
          exact ⟨v, hF⟩
        · obtain ⟨u, hu⟩ := h.done j o (by
            rw [Array.getD_eq_getD_getElem?, Array.getElem?_setIfInBounds_ne (fun e2 => e e2.symm)] at hj
            rw [Array.getD_eq_getD_getElem?]
            exact hj) hoj hd
          exact ⟨u, mono _ _ _ _ hu hb⟩
    have hst := step i ops[i] ho a w h.held h.old (fun j o' s hj hoj hd => h.new j o' s (by
      obtain ⟨e, he, h2⟩ := Array.any_eq_true'.1 hj
      rw [Bool.and_eq_true, beq_iff_eq] at h2
      have h3 := (Array.all_eq_true_iff_forall_mem.1 hall) e he
      rw [h2.2, h2.1] at h3
      simpa using h3) hoj hd) (wpAny P .any ops Q fuel (listed.setIfInBounds i true)) key
    unfold wpOp
    rw [ho]
    show if Region.wanted ops[i] (yielded ops a.tmps) = true then _ else _
    split
    · rename_i hw; rw [if_pos hw] at hst; exact .inl hst
    · rename_i hw; rw [if_neg hw] at hst; exact hst
/-- The region, by facts of its slots. -/
theorem wp_region_factsR {id : Nat} {w0 : World} (hm : P.follows .mixedOrders = true) (F : Nat → Value → World → Prop) (G : World → Prop)
    (hasc : (List.range ops.size).all (fun i => ((ops[i]?).map fun o => o.after.all fun e => decide (e.on < i)).getD true) = true)
    (hdst : (List.range ops.size).all (fun i => (List.range ops.size).all fun j => decide (i = j) || ((ops[i]?).bind (·.dst)).isNone || ((ops[i]?).bind (·.dst)) != ((ops[j]?).bind (·.dst))) = true)
    (hin : (List.range ops.size).all (fun i => (((ops[i]?).bind (·.dst)).map fun s => decide (s < a0.tmps.size)).getD true) = true)
    (mono : ∀ i v w w', F i v w → R w w' → F i v w')
    (hG : G w0.drew)
    (step : ∀ (i : Nat) (o : Oper), ops[i]? = some o → OwesR P ops Q R F G a0 i o)
    (fin : ∀ a w, G w → a.defers = a0.defers → a.tmps.size = a0.tmps.size → (∀ s : Tmp, (∀ (i : Nat) (o : Oper), ops[i]? = some o → o.dst ≠ some s) → a.tmps.getD s undef = a0.tmps.getD s undef) → (∀ (i : Nat) (o : Oper) (s : Tmp), ops[i]? = some o → o.dst = some s → F i (a.tmps.getD s undef) w) → (∀ (i : Nat) (o : Oper), ops[i]? = some o → o.dst = none → ∃ v, F i v w) → Q .normal a w) :
    (Code.region id ops true).wp P Q a0 w0 := by
  have lt : ∀ {i : Nat} {o : Oper}, ops[i]? = some o → i < ops.size := fun {i o} ho => by
    rcases Nat.lt_or_ge i ops.size with h1 | h1
    · exact h1
    · rw [Array.getElem?_eq_none h1] at ho; cases ho
  refine wp_region_any hm (wpAny_factsR (F := F) (G := G) (a0 := a0) ?_ ?_ ?_ mono step (fun a w h => fin a w h.held h.defers h.size h.old (fun i o s ho hd => h.new i o s (by simp [lt ho]) ho hd) fun i o ho hd => h.done i o (by simp [lt ho]) ho hd) _ _ _ _ (by simp) (Nat.le_trans List.countP_le_length (by simp)) ⟨hG, rfl, rfl, fun _ _ => rfl, fun i o s hi ho _ => ?_, fun i o hi ho _ => ?_⟩)
  · intro i o ho e he
    have := List.all_eq_true.1 hasc i (List.mem_range.2 (lt ho))
    rw [ho] at this
    simpa using (Array.all_eq_true_iff_forall_mem.1 this) e he
  · intro i j o o' s ho ho' hd hd'
    have := List.all_eq_true.1 (List.all_eq_true.1 hdst i (List.mem_range.2 (lt ho))) j (List.mem_range.2 (lt ho'))
    rw [ho, ho'] at this
    simp [hd, hd'] at this
    exact this
  · intro i o s ho hd
    have := List.all_eq_true.1 hin i (List.mem_range.2 (lt ho))
    rw [ho] at this
    simpa [hd] using this
  · rw [Array.getD_eq_getD_getElem?] at hi
    simp [lt ho] at hi
  · rw [Array.getD_eq_getD_getElem?] at hi
    simp [lt ho] at hi
/-- What one operation owes, by the slots of the others. -/
def DueR (P : Program) (ds : List (Option Tmp)) (Q : Exit → Act → World → Prop) (R : World → World → Prop) (F : Nat → Value → World → Prop) (G : World → Prop) (a0 : Act) (i : Nat) (o : Oper) : Prop :=
  ∀ a w, G w → (∀ s : Tmp, ds.contains (some s) = false → a.tmps.getD s undef = a0.tmps.getD s undef) →
    (∀ (j : Nat) (s : Tmp), (o.after.any fun e => e.on == j && Region.binds .any e) = true → ds.getD j none = some s → F j (a.tmps.getD s undef) w) →
    ∀ K : Act → World → Prop, (∀ v w', G w' → R w w' → F i v w' → K (a.put o.dst v) w') →
    if met ds o a = true then Oper.wp P o a w K Q else K (a.put o.dst undef) w
/-- What all owe, from the k-th on. -/
def AllDueR (P : Program) (ds : List (Option Tmp)) (Q : Exit → Act → World → Prop) (R : World → World → Prop) (F : Nat → Value → World → Prop) (G : World → Prop) (a0 : Act) : Nat → List Oper → Prop
  | _, [] => True
  | k, o :: r => DueR P ds Q R F G a0 k o ∧ AllDueR P ds Q R F G a0 (k + 1) r
theorem AllDueR.nil {ds : List (Option Tmp)} {k : Nat} : AllDueR P ds Q R F G a0 k [] := trivial
theorem AllDueR.cons {ds : List (Option Tmp)} {k : Nat} {o : Oper} {r : List Oper} (h : DueR P ds Q R F G a0 k o) (hr : AllDueR P ds Q R F G a0 (k + 1) r) : AllDueR P ds Q R F G a0 k (o :: r) := ⟨h, hr⟩
theorem AllDueR.at_ {ds : List (Option Tmp)} : ∀ {l : List Oper} {k i : Nat} {o : Oper}, AllDueR P ds Q R F G a0 k l → l[i]? = some o → DueR P ds Q R F G a0 (k + i) o
  | [], _, _, _, _, h => by simp at h
  | o' :: r, k, 0, o, h, ho => by
    simp at ho
    subst ho
    exact h.1
  | o' :: r, k, i + 1, o, h, ho => by
    have := AllDueR.at_ (i := i) h.2 (by simpa using ho)
    rwa [show k + 1 + i = k + (i + 1) by omega] at this
/-- A region that draws its order, by facts of its slots: F i is said of the value of the i-th operation, G of the world. -/
theorem wp_region_dueR {l : List Oper} {id : Nat} {w0 : World} (hm : P.follows .mixedOrders = true) (ds : List (Option Tmp)) (F : Nat → Value → World → Prop) (G : World → Prop) (hds : ds = l.map (·.dst))
    (hasc : (List.range l.toArray.size).all (fun i => ((l.toArray[i]?).map fun o => o.after.all fun e => decide (e.on < i)).getD true) = true)
    (hdst : (List.range l.toArray.size).all (fun i => (List.range l.toArray.size).all fun j => decide (i = j) || ((l.toArray[i]?).bind (·.dst)).isNone || ((l.toArray[i]?).bind (·.dst)) != ((l.toArray[j]?).bind (·.dst))) = true)
    (hin : (List.range l.toArray.size).all (fun i => (((l.toArray[i]?).bind (·.dst)).map fun s => decide (s < a0.tmps.size)).getD true) = true)
    (mono : ∀ i v w w', F i v w → R w w' → F i v w')
    (hG : G w0.drew)
    (step : AllDueR P ds Q R F G a0 0 l)
    (fin : ∀ a w, G w → a.defers = a0.defers → a.tmps.size = a0.tmps.size → (∀ s : Tmp, ds.contains (some s) = false → a.tmps.getD s undef = a0.tmps.getD s undef) → (∀ (i : Nat) (s : Tmp), ds.getD i none = some s → F i (a.tmps.getD s undef) w) → (∀ i, i < ds.length → ds.getD i none = none → ∃ v, F i v w) → Q .normal a w) :
    (Code.region id l.toArray true).wp P Q a0 w0 := by
  have atd : ∀ {j : Nat} {o : Oper}, l.toArray[j]? = some o → ds.getD j none = o.dst := fun {j o} h => by
    rw [List.getElem?_toArray] at h
    rw [hds, List.getD_eq_getElem?_getD, List.getElem?_map, h]
    rfl
  have old' : ∀ {a : Act}, (∀ s : Tmp, (∀ (i : Nat) (o : Oper), l.toArray[i]? = some o → o.dst ≠ some s) → a.tmps.getD s undef = a0.tmps.getD s undef) → ∀ s : Tmp, ds.contains (some s) = false → a.tmps.getD s undef = a0.tmps.getD s undef := fun {a} h s hs => h s fun i o ho hd => by
    have : some s ∈ ds := by
      rw [hds]
      exact List.mem_map.2 ⟨o, List.mem_of_getElem? (by rw [← List.getElem?_toArray]; exact ho), hd⟩
    rw [List.contains_iff_mem.2 this] at hs
    cases hs
  refine wp_region_factsR (R := R) hm F G hasc hdst hin mono hG (fun i o ho => ?_) (fun a w h1 h2 h3 h4 h5 h6 => fin a w h1 h2 h3 (old' h4) (fun i s hs => ?_) fun i hi hn => ?_)
  · intro a w hGw hold hf K hK
    rw [met_wanted, ← hds]
    have hd := step.at_ (i := i) (by rw [← List.getElem?_toArray]; exact ho)
    rw [Nat.zero_add] at hd
    refine hd a w hGw (old' hold) (fun j s hj hs => ?_) K hK
    rcases h : l.toArray[j]? with _ | o'
    · rw [hds, List.getD_eq_getElem?_getD, List.getElem?_map] at hs
      rw [List.getElem?_toArray] at h
      rw [h] at hs
      cases hs
    · exact hf j o' s hj h (by rw [← atd h]; exact hs)
  · rcases h : l.toArray[i]? with _ | o'
    · rw [hds, List.getD_eq_getElem?_getD, List.getElem?_map] at hs
      rw [List.getElem?_toArray] at h
      rw [h] at hs
      cases hs
    · exact h5 i o' s h (by rw [← atd h]; exact hs)
  · rcases h : l.toArray[i]? with _ | o'
    · rw [hds, List.length_map] at hi
      rw [List.getElem?_toArray, List.getElem?_eq_getElem hi] at h
      cases h
    · exact h6 i o' h (by rw [← atd h]; exact hn)
/-- An operation without a guard, or with one that is met. -/
theorem due_metR {ds : List (Option Tmp)} {i : Nat} {o : Oper}
    (hg : o.guard = none ∨ ∃ k b s, o.guard = some (k, b) ∧ ds.getD k none = some s ∧ (o.after.any fun e => e.on == k && Region.binds .any e) = true ∧ ∀ v w, F k v w → v = .bool b)
    (h : ∀ a w, G w → (∀ s : Tmp, ds.contains (some s) = false → a.tmps.getD s undef = a0.tmps.getD s undef) →
      (∀ (j : Nat) (s : Tmp), (o.after.any fun e => e.on == j && Region.binds .any e) = true → ds.getD j none = some s → F j (a.tmps.getD s undef) w) →
      ∀ K : Act → World → Prop, (∀ v w', G w' → R w w' → F i v w' → K (a.put o.dst v) w') → Oper.wp P o a w K Q) : DueR P ds Q R F G a0 i o := by
  intro a w hG hold hf K hK
  have hm : met ds o a = true := by
    unfold met
    rcases hg with hg | ⟨k, b, s, hg, hs, ha, hv⟩
    · rw [hg]
    · rw [hg]
      have := hv _ _ (hf k s ha hs)
      simp only [hs, this, boolOf, beq_self_eq_true]
  rw [if_pos hm]
  exact h a w hG hold hf K hK
/-- An operation whose guard is not met. -/
theorem due_notR {ds : List (Option Tmp)} {i k : Nat} {o : Oper} {b : Bool} {s : Tmp} (hg : o.guard = some (k, b)) (hs : ds.getD k none = some s) (ha : (o.after.any fun e => e.on == k && Region.binds .any e) = true) (hv : ∀ v w, F k v w → v = .bool (!b)) (hu : ∀ w, F i undef w) (hr : ∀ w, R w w) : DueR P ds Q R F G a0 i o := by
  intro a w hG hold hf K hK
  have hm : met ds o a = false := by
    unfold met
    rw [hg]
    have := hv _ _ (hf k s ha hs)
    simp only [hs, this, boolOf]
    cases b <;> rfl
  rw [hm, if_neg (by decide)]
  exact hK _ _ hG (hr w) (hu w)
end
end Go.Proofs.YtloghkiabgnpnaaDoor
set_option maxRecDepth 20000
set_option maxRecDepth 200000
namespace Go.Proofs.YtloghkiabgnpnaaDoor
open Go Go.RowKit
/-- Blocks that hold a number somewhere keep their cells. -/
def Kp (w w' : World) : Prop := w.heap.size ≤ w'.heap.size ∧ ∀ a b : Addr, a.block = b.block → (∃ k n, w.cell? a = some (.int k n)) → ∀ u, w.cell? b = some u → w'.cell? b = some u
theorem kp_refl (w : World) : Kp w w := ⟨Nat.le_refl _, fun _ _ _ _ _ h => h⟩
theorem kp_below {w w' : World} (hb : Below w.heap.size w w') : Kp w w' := ⟨hb.size, fun _ _ _ _ _ h => (hb.cell (World.block_lt_of_cell? w _ h)).trans h⟩
theorem kp_set {w : World} {g : Nat} {a b c d e : SL} (h : VBox w g a b c d e) (vs : List Value) : Kp w (w.setCells g 0 vs) := by
  refine ⟨by rw [size_setCells]; exact Nat.le_refl _, fun x y hxy ⟨k, n, hc⟩ u hu => ?_⟩
  by_cases e : x.block = g
  · exfalso
    unfold VBox at h
    rw [← e] at h
    unfold World.cell? at hc
    rw [h] at hc
    simp at hc
    have hm := List.mem_of_getElem? hc.2
    simp at hm
  · rw [World.cell?_of_block (heap_setCells _ _ _ _ _ (fun e2 => e (hxy.trans e2)))]
    exact hu
theorem Rcs.kp {α : Type} {enc : α → List Value} {sz : Nat} {w w' : World} {v : Value} {l : List α} (h : Rcs enc sz w v l) (hk : Kp w w') (h0 : ∀ x, ∃ k n, (enc x)[0]? = some (.int k n)) : Rcs enc sz w' v l := by
  obtain ⟨A, c, hv, hz, hc, hh⟩ := h
  refine ⟨A, c, hv, hz, hc, fun k h => ?_⟩
  obtain ⟨ad, h1, h2, h3⟩ := hh k h
  obtain ⟨i, n, hi⟩ := h0 l[k]
  exact ⟨ad, h1, Nat.lt_of_lt_of_le h2 hk.1, fun j u hu => hk.2 _ _ (by rw [addr_block, addr_block]) ⟨i, n, h3 0 _ hi⟩ _ (h3 j u hu)⟩
theorem Ids.kp {w w' : World} {v : Value} {l : List Sets.Id2} (h : Ids w v l) (hk : Kp w w') : Ids w' v l := ids_rcs ((rcs_ids h).kp hk fun _ => ⟨_, _, rfl⟩)
theorem Ms.kp {w w' : World} {v : Value} {l : List Ros.Mm} (h : Ms w v l) (hk : Kp w w') : Ms w' v l := Rcs.kp h hk fun _ => ⟨_, _, rfl⟩
theorem ticks_kp {w w' : World} {v : Value} {l : List Clocks.Tick} (h : Rcs encT 3 w v l) (hk : Kp w w') : Rcs encT 3 w' v l := Rcs.kp h hk fun _ => ⟨_, _, rfl⟩
theorem each_kp {w w' : World} (hk : Kp w w') : ∀ {qs : List Raw} {l : List RowSets.Row}, EachReads w qs l → EachReads w' qs l
  | [], [], _ => trivial
  | _ :: _, _ :: _, h => ⟨⟨h.1.1, h.1.2.1, Ids.kp h.1.2.2 hk⟩, each_kp hk h.2⟩
  | [], _ :: _, h => h.elim
  | _ :: _, [], h => h.elim
theorem RowsAt.kp {w w' : World} {v : Value} {l : List RowSets.Row} (h : RowsAt w v l) (hk : Kp w w') : RowsAt w' v l := by
  obtain ⟨qs, h1, h2⟩ := h
  exact ⟨qs, h1.kp hk fun _ => ⟨_, _, rfl⟩, each_kp hk h2⟩
theorem RV.kp {w w' : World} {a b c d e : SL} {V : Vw} (h : RV w a b c d e V) (hk : Kp w w') : RV w' a b c d e V := ⟨Ms.kp h.m hk, Ids.kp h.f hk, h.r.kp hk, ticks_kp h.c hk, Ids.kp h.s hk⟩
theorem VAt.kp {w w' : World} {v : Value} {V : Vw} (h : VAt w v V) (hk : Kp w w') : VAt w' v V := by
  obtain ⟨a, b, c, d, e, h1, h2⟩ := h
  exact ⟨a, b, c, d, e, h1, h2.kp hk⟩
theorem vbox_other {w : World} {g x : Nat} {a b c d e : SL} (h : VBox w g a b c d e) (hx : g ≠ x) (vs : List Value) : VBox (w.setCells x 0 vs) g a b c d e := (heap_setCells _ _ _ _ _ hx).trans h
/-- What is said of them. -/
def mvfF (g : Nat) (_ b c _ _ : SL) (V : Vw) : Nat → Value → World → Prop := fun i v w => match i with
  | 0 => v = .pointer (some ⟨g, 2, none⟩)
  | 1 => v = .slice c.1 c.2.1 c.2.2
  | 2 => v = .pointer (some ⟨g, 2, none⟩)
  | 3 => v = .slice c.1 c.2.1 c.2.2
  | 4 => v = .pointer (some ⟨g, 1, none⟩)
  | 5 => v = .slice b.1 b.2.1 b.2.2
  | 6 => RowsAt w v (RowSets.gone V.f V.r)
  | 7 => v = .bool false
  | 8 => v = .bool false
  | 9 => v = undef
  | 10 => v = undef
  | 11 => v = undef
  | 12 => v = .bool false
  | 13 => v = .bool false
  | _ => True
theorem mvfF_mono (g : Nat) (a b c d e : SL) (V : Vw) : ∀ i v w w', mvfF g a b c d e V i v w → Below w.heap.size w w' → mvfF g a b c d e V i v w' := by
  intro i v w w' h hb
  unfold mvfF at h ⊢
  split at h
  all_goals first | exact h | exact h.below hb
end Go.Proofs.YtloghkiabgnpnaaDoor
set_option maxRecDepth 20000
set_option maxRecDepth 200000
namespace Go.Proofs.YtloghkiabgnpnaaDoor
open Go Go.RowKit
/-- What stands of the world: two views in blocks. -/
structure TwG (w : World) (g g' : Nat) (a b c d e a' b' c' d' e' : SL) (V U : Vw) (W : World) : Prop where
  p : VBox W g a b c d e
  q : VBox W g' a' b' c' d' e'
  r : RV W a b c d e V
  t : RV W a' b' c' d' e' U
  below : Below w.heap.size w W
theorem TwG.step {w : World} {g g' : Nat} {a b c d e a' b' c' d' e' : SL} {V U : Vw} {W W' : World} (h : TwG w g g' a b c d e a' b' c' d' e' V U W) (hb : Below W.heap.size W W') : TwG w g g' a b c d e a' b' c' d' e' V U W' := ⟨vbox_below h.p hb, vbox_below h.q hb, h.r.below hb, h.t.below hb, below_after h.below hb (Nat.le_refl _)⟩
/-- The slots of the region's operations. -/
def cvDs : List (Option Tmp) := [some 5, some 6, some 7, some 8, some 9, some 4]
/-- What is answered on whether a view is long. -/
def LongAns (V : Vw) (w : World) (e : Ending) (w' : World) : Prop := ∃ z, e = .returned (.bool z) ∧ (z = false → Fit 70 V) ∧ Below w.heap.size w w'
theorem long_yes {V : Vw} {w w' : World} (hb : Below w.heap.size w w') : LongAns V w (.returned (.bool true)) w' := ⟨true, rfl, (fun h => by cases h), hb⟩
theorem long_no {V : Vw} {w w' : World} (h : Fit 70 V) (hb : Below w.heap.size w w') : LongAns V w (.returned (.bool false)) w' := ⟨false, rfl, (fun _ => h), hb⟩
end Go.Proofs.YtloghkiabgnpnaaDoor
set_option maxRecDepth 20000
set_option maxRecDepth 200000
namespace Go.Proofs.YtloghkiabgnpnaaDoor
open Go.RowKit Go.WideShapes Go.ChangeShapes Go.ChangeAt
section
variable {H : Type} {enc : TypeId × Value → H}
theorem vcells3 : Tryd.prog.cellsOf 3 = 1 := by kernel_rfl
theorem vcells5 : Tryd.prog.cellsOf 5 = 1 := by kernel_rfl
theorem vcells22 : Tryd.prog.cellsOf 24 = 1 := by kernel_rfl
theorem vcells23 : Tryd.prog.cellsOf 25 = 1 := by kernel_rfl
theorem vcells24 : Tryd.prog.cellsOf 26 = 1 := by kernel_rfl
theorem vcells25 : Tryd.prog.cellsOf 27 = 1 := by kernel_rfl
theorem vcells27 : Tryd.prog.cellsOf 29 = 5 := by kernel_rfl
theorem vcells29 : Tryd.prog.cellsOf 32 = 2 := by kernel_rfl
theorem vcells31 : Tryd.prog.cellsOf 52 = 4 := by kernel_rfl
theorem vcells46 : Tryd.prog.cellsOf 37 = 4 := by kernel_rfl
theorem vcells48 : Tryd.prog.cellsOf 106 = 3 := by kernel_rfl
theorem velem_id {w : World} {base : Nat} {spare : Nat → Bool} {held : Bool} (n : Nat) (cs : List Value) (d : DataW H × List MemPlace) (h : DataW.trod enc Tryd.prog w base spare held n 32 cs = some d) : ∃ r : Sets.Id2, cs = encI r := by
  obtain ⟨y0, y1, n', _, hl, h0, h1⟩ := trod_struct2 Tryd.underlying32 h
  rw [vcells29] at hl
  match cs, hl with
  | [a, b], _ =>
    rw [show Tryd.prog.cellsOf 3 = 1 from vcells3] at h0 h1
    obtain ⟨x, e0, _, _⟩ := DataW.trod_int Tryd.underlying3 h0
    obtain ⟨y, e1, _, _⟩ := DataW.trod_int Tryd.underlying3 h1
    simp at e0 e1
    exact ⟨(x, y), by simp [encI, e0, e1]⟩
theorem velem_tick {w : World} {base : Nat} {spare : Nat → Bool} {held : Bool} (n : Nat) (cs : List Value) (d : DataW H × List MemPlace) (h : DataW.trod enc Tryd.prog w base spare held n 106 cs = some d) : ∃ r : Clocks.Tick, cs = encT r := by
  obtain ⟨y0, y1, n', _, hl, h0, h1⟩ := trod_struct2 Tryd.underlying106 h
  rw [vcells48] at hl
  match cs, hl with
  | [a, b, c], _ =>
    rw [show Tryd.prog.cellsOf 32 = 2 from vcells29] at h0
    rw [show Tryd.prog.cellsOf 3 = 1 from vcells3] at h1
    obtain ⟨z0, z1, n2, _, _, k0, k1⟩ := trod_struct2 Tryd.underlying32 h0
    rw [show Tryd.prog.cellsOf 3 = 1 from vcells3] at k0 k1
    obtain ⟨x, e0, _, _⟩ := DataW.trod_int Tryd.underlying3 k0
    obtain ⟨y, e1, _, _⟩ := DataW.trod_int Tryd.underlying3 k1
    obtain ⟨z, e2, _, _⟩ := DataW.trod_int Tryd.underlying3 h1
    simp at e0 e1 e2
    exact ⟨((x, y), z), by simp [encT, e0, e1, e2]⟩
theorem velem_mem {w : World} {base : Nat} {spare : Nat → Bool} {held : Bool} (n : Nat) (cs : List Value) (d : DataW H × List MemPlace) (h : DataW.trod enc Tryd.prog w base spare held n 52 cs = some d) : ∃ r : Ros.Mm, cs = encM r := by
  obtain ⟨xs, n', _, _, hl, hlen, hf⟩ := DataW.trod_struct Tryd.underlying52 h
  rw [vcells31] at hl
  match cs, hl, xs, hlen with
  | [a, b, c, s], _, [y0, y1, y2], _ =>
    have h0 : DataW.trod enc Tryd.prog w base spare held n' 32 (([a, b, c, s].drop 0).take (Tryd.prog.cellsOf 32)) = some y0 := hf 0 _ rfl
    have h1 : DataW.trod enc Tryd.prog w base spare held n' 5 (([a, b, c, s].drop 2).take (Tryd.prog.cellsOf 5)) = some y1 := hf 1 _ rfl
    have h2 : DataW.trod enc Tryd.prog w base spare held n' 3 (([a, b, c, s].drop 3).take (Tryd.prog.cellsOf 3)) = some y2 := hf 2 _ rfl
    rw [show Tryd.prog.cellsOf 32 = 2 from vcells29] at h0
    rw [show Tryd.prog.cellsOf 5 = 1 from vcells5] at h1
    rw [show Tryd.prog.cellsOf 3 = 1 from vcells3] at h2
    obtain ⟨r, e0⟩ := velem_id _ _ _ h0
    obtain ⟨v, e1, _, _⟩ := DataW.trod_int Tryd.underlying5 h1
    obtain ⟨u, e2, _, _⟩ := DataW.trod_int Tryd.underlying3 h2
    simp [encI] at e0 e1 e2
    exact ⟨(r, v, u), by simp [encM, e0, e1, e2]⟩
/-- A row's list reads. -/
def KnownV (w : World) (q : Raw) : Prop := ∃ m, Ids w (slc q) m
theorem velem_row {w : World} {base : Nat} {spare : Nat → Bool} {held : Bool} (n : Nat) (cs : List Value) (d : DataW H × List MemPlace) (h : DataW.trod enc Tryd.prog w base spare held n 37 cs = some d) : ∃ q : Raw, cs = encW q ∧ KnownV w q := by
  obtain ⟨xs, n', _, _, hl, hlen, hf⟩ := DataW.trod_struct Tryd.underlying37 h
  rw [vcells46] at hl
  match cs, hl, xs, hlen with
  | [a, b, c, s], _, [y0, y1, y2], _ =>
    have h0 : DataW.trod enc Tryd.prog w base spare held n' 32 (([a, b, c, s].drop 0).take (Tryd.prog.cellsOf 32)) = some y0 := hf 0 _ rfl
    have h1 : DataW.trod enc Tryd.prog w base spare held n' 3 (([a, b, c, s].drop 2).take (Tryd.prog.cellsOf 3)) = some y1 := hf 1 _ rfl
    have h2 : DataW.trod enc Tryd.prog w base spare held n' 25 (([a, b, c, s].drop 3).take (Tryd.prog.cellsOf 25)) = some y2 := hf 2 _ rfl
    rw [show Tryd.prog.cellsOf 32 = 2 from vcells29] at h0
    rw [show Tryd.prog.cellsOf 3 = 1 from vcells3] at h1
    rw [show Tryd.prog.cellsOf 25 = 1 from vcells23] at h2
    obtain ⟨r, e0⟩ := velem_id _ _ _ h0
    obtain ⟨v, e1, _, _⟩ := DataW.trod_int Tryd.underlying3 h1
    obtain ⟨s', e2, l, hl⟩ := open_recs (enc := encI) (sz := 2) Tryd.underlying25 vcells29 encI_len (fun n cs d h => velem_id n cs d h) (by omega) h2
    have hI := ids_rcs hl
    obtain ⟨A, k, rfl, _⟩ := id hI
    simp [encI] at e0 e1 e2
    exact ⟨(r, v, A, l.length, k), by simp [encW, slc, e0, e1, e2], ⟨l, hI⟩⟩
theorem vopen_id {w : World} {b0 : Nat} {v : Value} {d : DataW H} {p : List MemPlace} (hv : Value.okWide Tryd.prog w .any b0 32 v) (h : DataW.Trod enc Tryd.prog w 0 (fun _ => true) true 32 v d p) :
    ∃ a i : Int, v = .agg #[.int .i64 a, .int .i64 i] := by
  obtain ⟨v0, v1, y0, y1, n, rfl, _, _, h0, h1⟩ := Joins.open_agg2 Tryd.underlying32 (by kernel_rfl) vcells29 hv h
  obtain ⟨a, e0, _, _⟩ := DataW.trod_int Tryd.underlying3 h0
  obtain ⟨i, e1, _, _⟩ := DataW.trod_int Tryd.underlying3 h1
  injection e0 with e0
  injection e1 with e1
  exact ⟨a, i, by rw [e0, e1]⟩
theorem velem_view {w : World} {base : Nat} {spare : Nat → Bool} {held : Bool} (n : Nat) (cs : List Value) (d : DataW H × List MemPlace) (h : DataW.trod enc Tryd.prog w base spare held n 29 cs = some d) :
    ∃ v0 v1 v2 v3 v4 m f r t s, cs = [v0, v1, v2, v3, v4] ∧ Ms w v0 m ∧ Ids w v1 f ∧ RowsAt w v2 r ∧ Rcs encT 3 w v3 t ∧ Ids w v4 s := by
  obtain ⟨xs, n', _, _, hl, hlen, hf⟩ := DataW.trod_struct Tryd.underlying29 h
  rw [vcells27] at hl
  match cs, hl, xs, hlen with
  | [v0, v1, v2, v3, v4], _, [y0, y1, y2, y3, y4], _ =>
    have h0 : DataW.trod enc Tryd.prog w base spare held n' 24 (([v0, v1, v2, v3, v4].drop 0).take (Tryd.prog.cellsOf 24)) = some y0 := hf 0 _ rfl
    have h1 : DataW.trod enc Tryd.prog w base spare held n' 25 (([v0, v1, v2, v3, v4].drop 1).take (Tryd.prog.cellsOf 25)) = some y1 := hf 1 _ rfl
    have h2 : DataW.trod enc Tryd.prog w base spare held n' 26 (([v0, v1, v2, v3, v4].drop 2).take (Tryd.prog.cellsOf 26)) = some y2 := hf 2 _ rfl
    have h3 : DataW.trod enc Tryd.prog w base spare held n' 27 (([v0, v1, v2, v3, v4].drop 3).take (Tryd.prog.cellsOf 27)) = some y3 := hf 3 _ rfl
    have h4 : DataW.trod enc Tryd.prog w base spare held n' 25 (([v0, v1, v2, v3, v4].drop 4).take (Tryd.prog.cellsOf 25)) = some y4 := hf 4 _ rfl
    rw [show Tryd.prog.cellsOf 24 = 1 from vcells22] at h0
    rw [show Tryd.prog.cellsOf 25 = 1 from vcells23] at h1 h4
    rw [show Tryd.prog.cellsOf 26 = 1 from vcells24] at h2
    rw [show Tryd.prog.cellsOf 27 = 1 from vcells25] at h3
    obtain ⟨s0, e0, m, k0⟩ := open_recs (enc := encM) (sz := 4) Tryd.underlying24 vcells31 encM_len (fun n cs d h => velem_mem n cs d h) (by omega) h0
    obtain ⟨s1, e1, f, k1⟩ := open_recs (enc := encI) (sz := 2) Tryd.underlying25 vcells29 encI_len (fun n cs d h => velem_id n cs d h) (by omega) h1
    obtain ⟨s2, e2, qs, k2, kw⟩ := open_recs_with (enc := encW) (sz := 4) (KnownV w) Tryd.underlying26 vcells46 encW_len (fun n cs d h => velem_row n cs d h) (by omega) h2
    obtain ⟨s3, e3, t, k3⟩ := open_recs (enc := encT) (sz := 3) Tryd.underlying27 vcells48 encT_len (fun n cs d h => velem_tick n cs d h) (by omega) h3
    obtain ⟨s4, e4, s, k4⟩ := open_recs (enc := encI) (sz := 2) Tryd.underlying25 vcells29 encI_len (fun n cs d h => velem_id n cs d h) (by omega) h4
    obtain ⟨r, hr⟩ := eachReads_of (qs := qs) fun q hq => kw q hq
    simp at e0 e1 e2 e3 e4
    subst e0 e1 e2 e3 e4
    exact ⟨v0, v1, v2, v3, v4, m, f, r, t, s, rfl, k0, ids_rcs k1, ⟨qs, k2, hr⟩, k3, ids_rcs k4⟩
theorem open_view {w : World} {b0 : Nat} {v : Value} {d : DataW H} {p : List MemPlace} (hv : Value.okWide Tryd.prog w .any b0 29 v) (h : DataW.Trod enc Tryd.prog w 0 (fun _ => true) true 29 v d p) :
    ∃ V : Vw, VAt w v V := by
  obtain ⟨cs, rfl, hsz⟩ := okWide_struct Tryd.underlying29 hv
  obtain ⟨fuel, hf⟩ := h
  obtain ⟨v0, v1, v2, v3, v4, m, f, r, t, s, e, h0, h1, h2, h3, h4⟩ := velem_view _ _ _ hf
  have : cs.toList = [v0, v1, v2, v3, v4] := by simpa [Value.cells] using e
  have e2 : cs = #[v0, v1, v2, v3, v4] := Array.toList_inj.1 this
  rw [e2]
  exact ⟨⟨m, f, r, t, s⟩, vAt_of h0 h1 h2 h3 h4⟩
end
end Go.Proofs.YtloghkiabgnpnaaDoor
