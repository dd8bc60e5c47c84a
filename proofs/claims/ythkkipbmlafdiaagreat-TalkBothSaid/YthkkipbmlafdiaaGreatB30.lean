/-
  Contracts and plain facts.
-/
import Derived.Test.YthkkipbmlafdiaaGreatOy
import Derived.Test.YthkkipbmlafdiaaGreatB12
import Derived.Test.YthkkipbmlafdiaaGreatB29
set_option maxRecDepth 20000
namespace Go.Proofs.YthkkipbmlafdiaaGreat
section
open Go Go.RowKit
section
variable {P : Program} {ops : Array Oper} {Q : Exit → Act → World → Prop} {R : World → World → Prop} {F : Nat → Value → World → Prop} {G : World → Prop} {a0 : Act}
structure StoodR (F : Nat → Value → World → Prop) (G : World → Prop) (ops : Array Oper) (a0 : Act) (listed : Array Bool) (a : Act) (w : World) : Prop where
 held : G w
 defers : a.defers = a0.defers
 size : a.tmps.size = a0.tmps.size
 old : ∀ s : Tmp, (∀ (i : Nat) (o : Oper), ops[i]? = some o → o.dst ≠ some s) → a.tmps.getD s undef = a0.tmps.getD s undef
 new : ∀ (i : Nat) (o : Oper) (s : Tmp), listed.getD i false = true → ops[i]? = some o → o.dst = some s → F i (a.tmps.getD s undef) w
 done : ∀ (i : Nat) (o : Oper), listed.getD i false = true → ops[i]? = some o → o.dst = none → ∃ v, F i v w
def OwesR (P : Program) (ops : Array Oper) (Q : Exit → Act → World → Prop) (R : World → World → Prop) (F : Nat → Value → World → Prop) (G : World → Prop) (a0 : Act) (i : Nat) (o : Oper) : Prop :=
 ∀ a w, G w → (∀ s : Tmp, (∀ (i : Nat) (o : Oper), ops[i]? = some o → o.dst ≠ some s) → a.tmps.getD s undef = a0.tmps.getD s undef) →
  (∀ (j : Nat) (o' : Oper) (s : Tmp), (o.after.any fun e => e.on == j && Region.binds .any e) = true → ops[j]? = some o' → o'.dst = some s → F j (a.tmps.getD s undef) w) →
  ∀ K : Act → World → Prop, (∀ v w', G w' → R w w' → F i v w' → K (a.put o.dst v) w') →
  if Region.wanted o (yielded ops a.tmps) = true then Oper.wp P o a w K Q else K (a.put o.dst undef) w
theorem wpAny_factsR (hasc : ∀ (i : Nat) (o : Oper), ops[i]? = some o → ∀ e ∈ o.after, e.on < i) (hdst : ∀ (i j : Nat) (o o' : Oper) (s : Tmp), ops[i]? = some o → ops[j]? = some o' → o.dst = some s → o'.dst = some s → i = j) (hin : ∀ (i : Nat) (o : Oper) (s : Tmp), ops[i]? = some o → o.dst = some s → s < a0.tmps.size)
  (mono : ∀ i v w w', F i v w → R w w' → F i v w')
  (step : ∀ (i : Nat) (o : Oper), ops[i]? = some o → OwesR P ops Q R F G a0 i o)
  (fin : ∀ a w, StoodR F G ops a0 (Array.replicate ops.size true) a w → Q .normal a w) :
  ∀ (fuel : Nat) (listed : Array Bool) (a : Act) (w : World), listed.size = ops.size → listed.toList.countP (fun b => !b) ≤ fuel → StoodR F G ops a0 listed a w → wpAny P .any ops Q fuel listed a w := by
 have last : ∀ (listed : Array Bool) (a : Act) (w : World), listed.size = ops.size → StoodR F G ops a0 listed a w → Region.ready .any ops listed = [] → Q .normal a w := fun listed a w hs h hr =>
  fin a w ⟨h.held, h.defers, h.size, h.old, fun i o s _ ho hd => h.new i o s (all_listed hs hasc hr i (by
   rcases Nat.lt_or_ge i ops.size with h1 | h1
   ·exact h1
   ·rw [Array.getElem?_eq_none h1] at ho; cases ho)) ho hd, fun i o _ ho hd => h.done i o (all_listed hs hasc hr i (by
   rcases Nat.lt_or_ge i ops.size with h1 | h1
   ·exact h1
   ·rw [Array.getElem?_eq_none h1] at ho; cases ho)) ho hd⟩
 intro fuel;induction fuel with
 | zero =>
  intro listed a w hs hc h
  have hr : Region.ready .any ops listed = [] := by
   refine List.filter_eq_nil_iff.2 fun i hi => ?_
   have hi2 : i < listed.toList.length := by rw [Array.length_toList, hs]; exact List.mem_range.1 hi
   have h0 := List.countP_eq_zero.1 (Nat.le_zero.1 hc) listed.toList[i] (List.getElem_mem hi2)
   have h1 : listed.getD i true = true := by
    rw [Array.getD_eq_getD_getElem?, Array.getElem?_eq_getElem (by simpa using hi2)]
    simpa using h0
   rw [h1];simp
  exact ⟨hr, last listed a w hs h hr⟩
 | succ fuel ih =>
  intro listed a w hs hc h;refine ⟨last listed a w hs h, fun i hi => ?_⟩
  obtain ⟨hi1, hi2⟩ := List.mem_filter.1 hi;have hi3 : i < ops.size := List.mem_range.1 hi1
  rw [Bool.and_eq_true, Bool.not_eq_true', Array.getElem?_eq_getElem hi3, Option.map_some, Option.getD_some] at hi2;obtain ⟨hl, hall⟩ := hi2;have ho : ops[i]? = some ops[i] := Array.getElem?_eq_getElem hi3
  have hil : i < listed.toList.length := by rw [Array.length_toList, hs]; exact hi3
  have hlf : listed.toList[i] = false := by
   rw [Array.getD_eq_getD_getElem?, Array.getElem?_eq_getElem (by omega)] at hl
   simpa using hl
  have hcnt : (listed.setIfInBounds i true).toList.countP (fun b => !b) ≤ fuel := by
   rw [Array.toList_setIfInBounds, List.countP_set hil, hlf];simp only [Bool.not_false, if_true, Bool.not_true, Bool.false_eq_true, if_false];omega
  have key : ∀ v w', G w' → R w w' → F i v w' → wpAny P .any ops Q fuel (listed.setIfInBounds i true) (a.put ops[i].dst v) w' := by
   intro v w' hG hb hF;refine ih _ _ _ (by simpa using hs) hcnt ⟨hG, (put_defers _ _ _).trans h.defers, (put_size _ _ _).trans h.size, fun s hn => (put_getD_other _ _ _ _ (hn i _ ho)).trans (h.old s hn), fun j o s hj hoj hd => ?_, fun j o hj hoj hd => ?_⟩
   ·by_cases e : j = i
    ·subst e
     obtain rfl := Option.some.inj (ho.symm.trans hoj);rw [hd, put_getD_self _ _ _ (by rw [h.size]; exact hin _ _ _ hoj hd)]
     exact hF
    ·rw [put_getD_other _ _ _ _ (fun e2 => e (hdst j i o ops[i] s hoj ho hd e2))]
     refine mono _ _ _ _ (h.new j o s ?_ hoj hd) hb
     rw [Array.getD_eq_getD_getElem?, Array.getElem?_setIfInBounds_ne (fun e2 => e e2.symm)] at hj
     rw [gd_];exact hj
   ·by_cases e : j = i
    ·subst e
     exact ⟨v, hF⟩
    ·obtain ⟨u, hu⟩ := h.done j o (by
      rw [Array.getD_eq_getD_getElem?, Array.getElem?_setIfInBounds_ne (fun e2 => e e2.symm)] at hj
      rw [gd_];exact hj) hoj hd
     exact ⟨u, mono _ _ _ _ hu hb⟩
  have hst := step i ops[i] ho a w h.held h.old (fun j o' s hj hoj hd => h.new j o' s (by
   obtain ⟨e, he, h2⟩ := Array.any_eq_true'.1 hj;rw [Bool.and_eq_true, beq_iff_eq] at h2;have h3 := (Array.all_eq_true_iff_forall_mem.1 hall) e he;rw [h2.2, h2.1] at h3;simpa using h3) hoj hd) (wpAny P .any ops Q fuel (listed.setIfInBounds i true)) key
  unfold wpOp;rw [ho];show if Region.wanted ops[i] (yielded ops a.tmps) = true then _ else _
  split
  ·rename_i hw; rw [if_pos hw] at hst; exact .inl hst
  ·rename_i hw; rw [if_neg hw] at hst; exact hst
theorem wp_region_factsR {id : Nat} {w0 : World} (hm : P.follows .mixedOrders = true) (F : Nat → Value → World → Prop) (G : World → Prop)
  (hasc : (List.range ops.size).all (fun i => ((ops[i]?).map fun o => o.after.all fun e => decide (e.on < i)).getD true) = true)
  (hdst : (List.range ops.size).all (fun i => (List.range ops.size).all fun j => decide (i = j) || ((ops[i]?).bind (·.dst)).isNone || ((ops[i]?).bind (·.dst)) != ((ops[j]?).bind (·.dst))) = true)
  (hin : (List.range ops.size).all (fun i => (((ops[i]?).bind (·.dst)).map fun s => decide (s < a0.tmps.size)).getD true) = true)
  (mono : ∀ i v w w', F i v w → R w w' → F i v w')
  (hG : G w0.drew)
  (step : ∀ (i : Nat) (o : Oper), ops[i]? = some o → OwesR P ops Q R F G a0 i o)
  (fin : ∀ a w, G w → a.defers = a0.defers → a.tmps.size = a0.tmps.size → (∀ s : Tmp, (∀ (i : Nat) (o : Oper), ops[i]? = some o → o.dst ≠ some s) → a.tmps.getD s undef = a0.tmps.getD s undef) → (∀ (i : Nat) (o : Oper) (s : Tmp), ops[i]? = some o → o.dst = some s → F i (a.tmps.getD s undef) w) → (∀ (i : Nat) (o : Oper), ops[i]? = some o → o.dst = none → ∃ v, F i v w) → Q .normal a w) :
  (Code.region id ops true).wp P Q a0 w0 := by
 have lt : ∀ {i : Nat} {o : Oper}, ops[i]? = some o → i < ops.size := fun {i o} ho => by
  rcases Nat.lt_or_ge i ops.size with h1 | h1
  ·exact h1
  ·rw [Array.getElem?_eq_none h1] at ho; cases ho
 refine wp_region_any hm (wpAny_factsR (F := F) (G := G) (a0 := a0) ?_ ?_ ?_ mono step (fun a w h => fin a w h.held h.defers h.size h.old (fun i o s ho hd => h.new i o s (by simp [lt ho]) ho hd) fun i o ho hd => h.done i o (by simp [lt ho]) ho hd) _ _ _ _ (by simp) (Nat.le_trans List.countP_le_length (by simp)) ⟨hG, rfl, rfl, fun _ _ => rfl, fun i o s hi ho _ => ?_, fun i o hi ho _ => ?_⟩)
 ·intro i o ho e he
  have := List.all_eq_true.1 hasc i (List.mem_range.2 (lt ho))
  rw [ho] at this;simpa using (Array.all_eq_true_iff_forall_mem.1 this) e he
 ·intro i j o o' s ho ho' hd hd'
  have := List.all_eq_true.1 (List.all_eq_true.1 hdst i (List.mem_range.2 (lt ho))) j (List.mem_range.2 (lt ho'))
  rw [ho, ho'] at this;simp [hd, hd'] at this
  exact this
 ·intro i o s ho hd
  have := List.all_eq_true.1 hin i (List.mem_range.2 (lt ho))
  rw [ho] at this;simpa [hd] using this
 ·rw [gd_] at hi
  simp [lt ho] at hi
 ·rw [gd_] at hi
  simp [lt ho] at hi
def DueR (P : Program) (ds : List (Option Tmp)) (Q : Exit → Act → World → Prop) (R : World → World → Prop) (F : Nat → Value → World → Prop) (G : World → Prop) (a0 : Act) (i : Nat) (o : Oper) : Prop :=
 ∀ a w, G w → (∀ s : Tmp, ds.contains (some s) = false → a.tmps.getD s undef = a0.tmps.getD s undef) →
  (∀ (j : Nat) (s : Tmp), (o.after.any fun e => e.on == j && Region.binds .any e) = true → ds.getD j none = some s → F j (a.tmps.getD s undef) w) →
  ∀ K : Act → World → Prop, (∀ v w', G w' → R w w' → F i v w' → K (a.put o.dst v) w') →
  if met ds o a = true then Oper.wp P o a w K Q else K (a.put o.dst undef) w
def AllDueR (P : Program) (ds : List (Option Tmp)) (Q : Exit → Act → World → Prop) (R : World → World → Prop) (F : Nat → Value → World → Prop) (G : World → Prop) (a0 : Act) : Nat → List Oper → Prop
 | _, [] => True
 | k, o :: r => DueR P ds Q R F G a0 k o ∧ AllDueR P ds Q R F G a0 (k + 1) r
theorem AllDueR.nil {ds : List (Option Tmp)} {k : Nat} : AllDueR P ds Q R F G a0 k [] := trivial
theorem AllDueR.cons {ds : List (Option Tmp)} {k : Nat} {o : Oper} {r : List Oper} (h : DueR P ds Q R F G a0 k o) (hr : AllDueR P ds Q R F G a0 (k + 1) r) : AllDueR P ds Q R F G a0 k (o :: r) := ⟨h, hr⟩
theorem AllDueR.at_ {ds : List (Option Tmp)} : ∀ {l : List Oper} {k i : Nat} {o : Oper}, AllDueR P ds Q R F G a0 k l → l[i]? = some o → DueR P ds Q R F G a0 (k + i) o
 | [], _, _, _, _, h => by simp at h
 | o' :: r, k, 0, o, h, ho => by
  simp at ho
  subst ho;exact h.1
 | o' :: r, k, i + 1, o, h, ho => by
  have := AllDueR.at_ (i := i) h.2 (by simpa using ho)
  rwa [show k + 1 + i = k + (i + 1) by omega] at this
theorem wp_region_dueR {l : List Oper} {id : Nat} {w0 : World} (hm : P.follows .mixedOrders = true) (ds : List (Option Tmp)) (F : Nat → Value → World → Prop) (G : World → Prop) (hds : ds = l.map (·.dst))
  (hasc : (List.range l.toArray.size).all (fun i => ((l.toArray[i]?).map fun o => o.after.all fun e => decide (e.on < i)).getD true) = true)
  (hdst : (List.range l.toArray.size).all (fun i => (List.range l.toArray.size).all fun j => decide (i = j) || ((l.toArray[i]?).bind (·.dst)).isNone || ((l.toArray[i]?).bind (·.dst)) != ((l.toArray[j]?).bind (·.dst))) = true)
  (hin : (List.range l.toArray.size).all (fun i => (((l.toArray[i]?).bind (·.dst)).map fun s => decide (s < a0.tmps.size)).getD true) = true)
  (mono : ∀ i v w w', F i v w → R w w' → F i v w')
  (hG : G w0.drew)
  (step : AllDueR P ds Q R F G a0 0 l)
  (fin : ∀ a w, G w → a.defers = a0.defers → a.tmps.size = a0.tmps.size → (∀ s : Tmp, ds.contains (some s) = false → a.tmps.getD s undef = a0.tmps.getD s undef) → (∀ (i : Nat) (s : Tmp), ds.getD i none = some s → F i (a.tmps.getD s undef) w) → (∀ i, i < ds.length → ds.getD i none = none → ∃ v, F i v w) → Q .normal a w) :
  (Code.region id l.toArray true).wp P Q a0 w0 := by
 have atd : ∀ {j : Nat} {o : Oper}, l.toArray[j]? = some o → ds.getD j none = o.dst := fun {j o} h => by
  rw [List.getElem?_toArray] at h;rw [hds, List.getD_eq_getElem?_getD, List.getElem?_map, h];rfl
 have old' : ∀ {a : Act}, (∀ s : Tmp, (∀ (i : Nat) (o : Oper), l.toArray[i]? = some o → o.dst ≠ some s) → a.tmps.getD s undef = a0.tmps.getD s undef) → ∀ s : Tmp, ds.contains (some s) = false → a.tmps.getD s undef = a0.tmps.getD s undef := fun {a} h s hs => h s fun i o ho hd => by
  have : some s ∈ ds := by
   rw [hds];exact List.mem_map.2 ⟨o, List.mem_of_getElem? (by rw [← List.getElem?_toArray]; exact ho), hd⟩
  rw [List.contains_iff_mem.2 this] at hs;cases hs
 refine wp_region_factsR (R := R) hm F G hasc hdst hin mono hG (fun i o ho => ?_) (fun a w h1 h2 h3 h4 h5 h6 => fin a w h1 h2 h3 (old' h4) (fun i s hs => ?_) fun i hi hn => ?_)
 ·intro a w hGw hold hf K hK
  rw [met_wanted, ← hds];have hd := step.at_ (i := i) (by rw [← List.getElem?_toArray]; exact ho)
  rw [Nat.zero_add] at hd;refine hd a w hGw (old' hold) (fun j s hj hs => ?_) K hK
  rcases h : l.toArray[j]? with _ | o'
  ·rw [hds, List.getD_eq_getElem?_getD, List.getElem?_map] at hs
   rw [List.getElem?_toArray] at h;rw [h] at hs;cases hs
  ·exact hf j o' s hj h (by rw [← atd h]; exact hs)
 ·rcases h : l.toArray[i]? with _ | o'
  ·rw [hds, List.getD_eq_getElem?_getD, List.getElem?_map] at hs
   rw [List.getElem?_toArray] at h;rw [h] at hs;cases hs
  ·exact h5 i o' s h (by rw [← atd h]; exact hs)
 ·rcases h : l.toArray[i]? with _ | o'
  ·rw [hds, List.length_map] at hi
   rw [List.getElem?_toArray, List.getElem?_eq_getElem hi] at h;cases h
  ·exact h6 i o' h (by rw [← atd h]; exact hn)
theorem due_metR {ds : List (Option Tmp)} {i : Nat} {o : Oper}
  (hg : o.guard = none ∨ ∃ k b s, o.guard = some (k, b) ∧ ds.getD k none = some s ∧ (o.after.any fun e => e.on == k && Region.binds .any e) = true ∧ ∀ v w, F k v w → v = .bool b)
  (h : ∀ a w, G w → (∀ s : Tmp, ds.contains (some s) = false → a.tmps.getD s undef = a0.tmps.getD s undef) →
   (∀ (j : Nat) (s : Tmp), (o.after.any fun e => e.on == j && Region.binds .any e) = true → ds.getD j none = some s → F j (a.tmps.getD s undef) w) →
   ∀ K : Act → World → Prop, (∀ v w', G w' → R w w' → F i v w' → K (a.put o.dst v) w') → Oper.wp P o a w K Q) : DueR P ds Q R F G a0 i o := by
 intro a w hG hold hf K hK
 have hm : met ds o a = true := by
  unfold met;rcases hg with hg | ⟨k, b, s, hg, hs, ha, hv⟩
  ·rw [hg]
  ·rw [hg]
   have := hv _ _ (hf k s ha hs)
   simp only [hs, this, boolOf, beq_self_eq_true]
 rw [if_pos hm];exact h a w hG hold hf K hK
end
end
section
open Go Go.RowKit
def Kp (w w' : World) : Prop := w.heap.size ≤ w'.heap.size ∧ ∀ a b : Addr, a.block = b.block → (∃ k n, w.cell? a = some (.int k n)) → ∀ u, w.cell? b = some u → w'.cell? b = some u
theorem kp_refl (w : World) : Kp w w := ⟨Nat.le_refl _, fun _ _ _ _ _ h => h⟩
theorem kp_below {w w' : World} (hb : Below w.heap.size w w') : Kp w w' := ⟨hb.size, fun _ _ _ _ _ h => (hb.cell (World.block_lt_of_cell? w _ h)).trans h⟩
theorem kp_set {w : World} {g : Nat} {a b c d e : SL} (h : VBox w g a b c d e) (vs : List Value) : Kp w (w.setCells g 0 vs) := by
 refine ⟨by rw [size_setCells]; exact Nat.le_refl _, fun x y hxy ⟨k, n, hc⟩ u hu => ?_⟩
 by_cases e : x.block = g
 ·exfalso
  unfold VBox at h;rw [← e] at h;unfold World.cell? at hc;rw [h] at hc;simp at hc
  have hm := List.mem_of_getElem? hc.2;simp at hm
 ·rw [World.cell?_of_block (heap_setCells _ _ _ _ _ (fun e2 => e (hxy.trans e2)))]
  exact hu
theorem Rcs.kp {α : Type} {enc : α → List Value} {sz : Nat} {w w' : World} {v : Value} {l : List α} (h : Rcs enc sz w v l) (hk : Kp w w') (h0 : ∀ x, ∃ k n, (enc x)[0]? = some (.int k n)) : Rcs enc sz w' v l := by
 obtain ⟨A, c, hv, hz, hc, hh⟩ := h;refine ⟨A, c, hv, hz, hc, fun k h => ?_⟩
 obtain ⟨ad, h1, h2, h3⟩ := hh k h;obtain ⟨i, n, hi⟩ := h0 l[k];exact ⟨ad, h1, Nat.lt_of_lt_of_le h2 hk.1, fun j u hu => hk.2 _ _ (by rw [addr_block, addr_block]) ⟨i, n, h3 0 _ hi⟩ _ (h3 j u hu)⟩
theorem Ids.kp {w w' : World} {v : Value} {l : List Sets.Id2} (h : Ids w v l) (hk : Kp w w') : Ids w' v l := ids_rcs ((rcs_ids h).kp hk fun _ => ⟨_, _, rfl⟩)
theorem Ms.kp {w w' : World} {v : Value} {l : List Ros.Mm} (h : Ms w v l) (hk : Kp w w') : Ms w' v l := Rcs.kp h hk fun _ => ⟨_, _, rfl⟩
theorem ticks_kp {w w' : World} {v : Value} {l : List Clocks.Tick} (h : Rcs encT 3 w v l) (hk : Kp w w') : Rcs encT 3 w' v l := Rcs.kp h hk fun _ => ⟨_, _, rfl⟩
theorem each_kp {w w' : World} (hk : Kp w w') : ∀ {qs : List Raw} {l : List RowSets.Row}, EachReads w qs l → EachReads w' qs l
 | [], [], _ => trivial
 | _ :: _, _ :: _, h => ⟨⟨h.1.1, h.1.2.1, Ids.kp h.1.2.2 hk⟩, each_kp hk h.2⟩
 | [], _ :: _, h => h.elim
 | _ :: _, [], h => h.elim
theorem RowsAt.kp {w w' : World} {v : Value} {l : List RowSets.Row} (h : RowsAt w v l) (hk : Kp w w') : RowsAt w' v l := by
 obtain ⟨qs, h1, h2⟩ := h;exact ⟨qs, h1.kp hk fun _ => ⟨_, _, rfl⟩, each_kp hk h2⟩
theorem RV.kp {w w' : World} {a b c d e : SL} {V : Vw} (h : RV w a b c d e V) (hk : Kp w w') : RV w' a b c d e V := ⟨Ms.kp h.m hk, Ids.kp h.f hk, h.r.kp hk, ticks_kp h.c hk, Ids.kp h.s hk⟩
theorem VAt.kp {w w' : World} {v : Value} {V : Vw} (h : VAt w v V) (hk : Kp w w') : VAt w' v V := by
 obtain ⟨a, b, c, d, e, h1, h2⟩ := h;exact ⟨a, b, c, d, e, h1, h2.kp hk⟩
theorem vbox_other {w : World} {g x : Nat} {a b c d e : SL} (h : VBox w g a b c d e) (hx : g ≠ x) (vs : List Value) : VBox (w.setCells x 0 vs) g a b c d e := (heap_setCells _ _ _ _ _ hx).trans h
theorem gone_len (fl : List Sets.Id2) (l : List RowSets.Row) : (RowSets.gone fl l).length ≤ l.length := by
 unfold RowSets.gone;rw [List.length_map];exact List.length_filter_le _ _
theorem gone_nots_len {fl : List Sets.Id2} {l : List RowSets.Row} {n : Nat} (h : ∀ r ∈ l, r.2.2.length ≤ n) : ∀ r ∈ RowSets.gone fl l, r.2.2.length ≤ n := by
 intro r hr;unfold RowSets.gone at hr;obtain ⟨s, hs, rfl⟩ := List.mem_map.1 hr;exact Nat.le_trans (List.length_filter_le _ _) (h s (List.mem_filter.1 hs).1)
def mayV (V : Vw) : Bool := Ros.mayB V.m V.f && (mayBROW V.r && (mayBCLK V.c && (sameR V.r (RowSets.gone V.f V.r) && maySB V.s)))
structure MvG (w : World) (g : Nat) (a b c d e : SL) (V : Vw) (W : World) : Prop where
 x : VBox W g a b c d e
 r : RV W a b c d e V
 below : Below w.heap.size w W
theorem MvG.step {w : World} {g : Nat} {a b c d e : SL} {V : Vw} {W W' : World} (h : MvG w g a b c d e V W) (hb : Below W.heap.size W W') : MvG w g a b c d e V W' := ⟨ab_ h.x hb, h.r.below hb, ba_ h.below hb⟩
def mvtDs : List (Option Tmp) := [some 21, some 22, some 23, some 24, some 25, some 26, some 27, some 28, some 29, some 30, some 31, some 32, some 33, some 2]
def mvtF (g : Nat) (_ b c _ e : SL) (V : Vw) : Nat → Value → World → Prop := fun i v w => match i with
 | 0 => v = .pointer (some ⟨g, 2, none⟩)
 | 1 => v = .slice c.1 c.2.1 c.2.2
 | 2 => v = .pointer (some ⟨g, 2, none⟩)
 | 3 => v = .slice c.1 c.2.1 c.2.2
 | 4 => v = .pointer (some ⟨g, 1, none⟩)
 | 5 => v = .slice b.1 b.2.1 b.2.2
 | 6 => RowsAt w v (RowSets.gone V.f V.r)
 | 7 => v = .bool true
 | 8 => v = .bool true
 | 9 => v = .pointer (some ⟨g, 4, none⟩)
 | 10 => v = .slice e.1 e.2.1 e.2.2
 | 11 => v = .bool (maySB V.s)
 | 12 => v = .bool (maySB V.s)
 | 13 => v = .bool (maySB V.s)
 | _ => True
theorem mvtF_mono (g : Nat) (a b c d e : SL) (V : Vw) : ∀ i v w w', mvtF g a b c d e V i v w → Below w.heap.size w w' → mvtF g a b c d e V i v w' := by
 intro i v w w' h hb;unfold mvtF at h ⊢;split at h
 all_goals first | exact h | exact h.below hb
def mvfDs : List (Option Tmp) := [some 21, some 22, some 23, some 24, some 25, some 26, some 27, some 28, some 29, some 30, some 31, some 32, some 33, some 2]
def mvfF (g : Nat) (_ b c _ _ : SL) (V : Vw) : Nat → Value → World → Prop := fun i v w => match i with
 | 0 => v = .pointer (some ⟨g, 2, none⟩)
 | 1 => v = .slice c.1 c.2.1 c.2.2
 | 2 => v = .pointer (some ⟨g, 2, none⟩)
 | 3 => v = .slice c.1 c.2.1 c.2.2
 | 4 => v = .pointer (some ⟨g, 1, none⟩)
 | 5 => v = .slice b.1 b.2.1 b.2.2
 | 6 => RowsAt w v (RowSets.gone V.f V.r)
 | 7 => v = .bool false
 | 8 => v = .bool false
 | 9 => v = undef
 | 10 => v = undef
 | 11 => v = undef
 | 12 => v = .bool false
 | 13 => v = .bool false
 | _ => True
theorem mvfF_mono (g : Nat) (a b c d e : SL) (V : Vw) : ∀ i v w w', mvfF g a b c d e V i v w → Below w.heap.size w w' → mvfF g a b c d e V i v w' := by
 intro i v w w' h hb;unfold mvfF at h ⊢;split at h
 all_goals first | exact h | exact h.below hb
set_option maxHeartbeats 8000000 in
theorem mayV_any (v : Value) (V : Vw) (w : World) (h : VAt w v V) (hV : FitVIE 1000 V) :
  Calls Tryz.prog 10 #[v] w fun e w' => e = .returned (.bool (mayV V)) ∧ Below w.heap.size w w' := by
 obtain ⟨a, b, c, d, e, rfl, hr⟩ := h;have G0 : Hid (MvG w w.heap.size a b c d e V (w.alloc (.cells #[.slice a.1 a.2.1 a.2.2, .slice b.1 b.2.1 b.2.2, .slice c.1 c.2.1 c.2.2, .slice d.1 d.2.1 d.2.2, .slice e.1 e.2.1 e.2.2] 27))) := hd_ ⟨ak_ w a b c d e, hr.below (ad_ w _), ad_ w _⟩
 have HE : Hid (mayV V = (Ros.mayB V.m V.f && (mayBROW V.r && (mayBCLK V.c && (sameR V.r (RowSets.gone V.f V.r) && maySB V.s))))) := hd_ rfl
 have LV := hd_ hV;clear hr hV;generalize mayV V = z0 at *;go_enter Tryz.func10, Tryz.ntmps10
 obtain ⟨p0, p1, p2, p3, p4⟩ := aa_ G0.out.x;go_wp2_with fail;(with_reducible refine (mayL_any _ _ V.m V.f _ G0.out.r.m G0.out.r.f (Nat.le_trans LV.out.m (by decide)) (Nat.le_trans LV.out.f (by decide))).mono ?_)
 rintro e1 w1 ⟨rfl, hb⟩;have G1 := hd_ (G0.out.step hb);clear hb p0 p1 p2 p3 p4 G0;generalize Ros.mayB V.m V.f = y1 at *;obtain ⟨p0, p1, p2, p3, p4⟩ := aa_ G1.out.x;cases y1
 ·go_wp2_with fail
  go_ret;exact ⟨af_ (by rw [HE.out]; rfl), G1.out.below⟩
 ·go_wp2_with fail
  with_reducible refine (may_rows _ V.r _ G1.out.r.r (fun r hr => Nat.le_trans (LV.out.n r hr) (by decide))).mono ?_
  rintro e2 w2 ⟨rfl, hb⟩;have G2 := hd_ (G1.out.step hb);clear hb p0 p1 p2 p3 p4 G1;generalize mayBROW V.r = y2 at *;obtain ⟨p0, p1, p2, p3, p4⟩ := aa_ G2.out.x;cases y2
  ·go_wp2_with fail
   go_ret;exact ⟨af_ (by rw [HE.out]; rfl), G2.out.below⟩
  ·go_wp2_with fail
   with_reducible refine (mayClock_any _ V.c _ G2.out.r.c (Nat.le_trans LV.out.c (by decide))).mono ?_
   rintro e3 w3 ⟨rfl, hb⟩;have G3 := hd_ (G2.out.step hb);clear hb p0 p1 p2 p3 p4 G2;generalize mayBCLK V.c = y3 at *;cases y3
   ·go_wp2_with fail
    go_ret;exact ⟨af_ (by rw [HE.out]; rfl), G3.out.below⟩
   ·go_wp2_with fail
    rcases hz : sameR V.r (RowSets.gone V.f V.r) with _ | _
    ·have HZ := hd_ hz
     rw [hz] at HE;clear hz;refine wp_region_due (by kernel_rfl) mvfDs (mvfF w.heap.size a b c d e V) (MvG w w.heap.size a b c d e V) rfl (by kernel_rfl) (by kernel_rfl) (by kernel_rfl) (mvfF_mono w.heap.size a b c d e V) (G3.out.step (below_drewN (n := 1) (Below.refl _ _))) ?_ ?_
     ·clear G3
      refine AllDue.cons (aq_ (.inl rfl) fun q w1 hG hold hf K hK => ?_) ?_
      ·have f1 : q.tmps.getD 1 undef = .pointer (some ⟨w.heap.size, 0, none⟩) := hold 1 (by kernel_rfl)
       clear hf hold;go_simp;exact hK _ _ hG (Below.refl _ _) rfl
      refine AllDue.cons (aq_ (.inl rfl) fun q w1 hG hold hf K hK => ?_) ?_
      ·have f21 : q.tmps.getD 21 undef = .pointer (some ⟨w.heap.size, 2, none⟩) := hf 0 21 (by kernel_rfl) rfl
       have q21 := f21;rw [gd_] at q21;obtain ⟨p0, p1, p2, p3, p4⟩ := aa_ hG.x;clear hf hold;go_simp;exact hK _ _ hG (Below.refl _ _) rfl
      refine AllDue.cons (aq_ (.inl rfl) fun q w1 hG hold hf K hK => ?_) ?_
      ·have f1 : q.tmps.getD 1 undef = .pointer (some ⟨w.heap.size, 0, none⟩) := hold 1 (by kernel_rfl)
       clear hf hold;go_simp;exact hK _ _ hG (Below.refl _ _) rfl
      refine AllDue.cons (aq_ (.inl rfl) fun q w1 hG hold hf K hK => ?_) ?_
      ·have f23 : q.tmps.getD 23 undef = .pointer (some ⟨w.heap.size, 2, none⟩) := hf 2 23 (by kernel_rfl) rfl
       have q23 := f23;rw [gd_] at q23;obtain ⟨p0, p1, p2, p3, p4⟩ := aa_ hG.x;clear hf hold;go_simp;exact hK _ _ hG (Below.refl _ _) rfl
      refine AllDue.cons (aq_ (.inl rfl) fun q w1 hG hold hf K hK => ?_) ?_
      ·have f1 : q.tmps.getD 1 undef = .pointer (some ⟨w.heap.size, 0, none⟩) := hold 1 (by kernel_rfl)
       clear hf hold;go_simp;exact hK _ _ hG (Below.refl _ _) rfl
      refine AllDue.cons (aq_ (.inl rfl) fun q w1 hG hold hf K hK => ?_) ?_
      ·have f25 : q.tmps.getD 25 undef = .pointer (some ⟨w.heap.size, 1, none⟩) := hf 4 25 (by kernel_rfl) rfl
       have q25 := f25;rw [gd_] at q25;obtain ⟨p0, p1, p2, p3, p4⟩ := aa_ hG.x;clear hf hold;go_simp;exact hK _ _ hG (Below.refl _ _) rfl
      refine AllDue.cons (aq_ (.inl rfl) fun q w1 hG hold hf K hK => ?_) ?_
      ·have f24 : q.tmps.getD 24 undef = .slice c.1 c.2.1 c.2.2 := hf 3 24 (by kernel_rfl) rfl
       have q24 := f24;rw [gd_] at q24;have f26 : q.tmps.getD 26 undef = .slice b.1 b.2.1 b.2.2 := hf 5 26 (by kernel_rfl) rfl
       have q26 := f26;rw [gd_] at q26;clear hf hold;go_simp;go_at_call 48
       with_reducible refine (gone_any _ _ V.r V.f _ hG.r.r hG.r.f LV.out.r (fun r hr => Nat.le_trans (LV.out.n r hr) (by decide)) (Nat.le_trans LV.out.f (by decide))).mono ?_
       rintro e' w' ⟨X, rfl, h1, h2⟩;exact hK _ _ (hG.step h2) h2 h1
      refine AllDue.cons (aq_ (.inl rfl) fun q w1 hG hold hf K hK => ?_) ?_
      ·have f22 : q.tmps.getD 22 undef = .slice c.1 c.2.1 c.2.2 := hf 1 22 (by kernel_rfl) rfl
       have q22 := f22;rw [gd_] at q22;have r27 : RowsAt w1 (q.tmps.getD 27 undef) (RowSets.gone V.f V.r) := hf 6 27 (by kernel_rfl) rfl
       obtain ⟨x27, e27⟩ : ∃ x, q.tmps.getD 27 undef = x := ⟨_, rfl⟩;rw [e27] at r27;have q27 := e27;rw [gd_] at q27;clear hf hold;go_simp;go_at_call 47
       with_reducible refine (sameRows_is _ _ V.r (RowSets.gone V.f V.r) _ hG.r.r r27 (Nat.le_trans LV.out.r (by decide)) (fun r hr => Nat.le_trans (LV.out.n r hr) (by decide)) (gone_nots_len fun r hr => Nat.le_trans (LV.out.n r hr) (by decide))).mono ?_
       rintro e' w' ⟨rfl, h2⟩;exact hK _ _ (hG.step h2) h2 (by rw [HZ.out]; rfl)
      refine AllDue.cons (aq_ (.inl rfl) fun q w1 hG hold hf K hK => ?_) ?_
      ·have f28 : q.tmps.getD 28 undef = .bool false := hf 7 28 (by kernel_rfl) rfl
       have q28 := f28;rw [gd_] at q28;clear hf hold;go_simp;exact hK _ _ hG (Below.refl _ _) rfl
      refine AllDue.cons (due_not (b := true) (s := 29) rfl rfl (by kernel_rfl) (fun _ _ h => h) (fun _ => rfl)) ?_
      refine AllDue.cons (due_not (b := true) (s := 29) rfl rfl (by kernel_rfl) (fun _ _ h => h) (fun _ => rfl)) ?_
      refine AllDue.cons (due_not (b := true) (s := 29) rfl rfl (by kernel_rfl) (fun _ _ h => h) (fun _ => rfl)) ?_
      refine AllDue.cons (aq_ (.inl rfl) fun q w1 hG hold hf K hK => ?_) ?_
      ·have f29 : q.tmps.getD 29 undef = .bool false := hf 8 29 (by kernel_rfl) rfl
       have q29 := f29;rw [gd_] at q29;have f32 : q.tmps.getD 32 undef = undef := hf 11 32 (by kernel_rfl) rfl
       have q32 := f32;rw [gd_] at q32;clear hf hold;go_simp;exact hK _ _ hG (Below.refl _ _) rfl
      refine AllDue.cons (aq_ (.inl rfl) fun q w1 hG hold hf K hK => ?_) ?_
      ·have f33 : q.tmps.getD 33 undef = .bool false := hf 12 33 (by kernel_rfl) rfl
       have q33 := f33;rw [gd_] at q33;clear hf hold;go_simp;exact hK _ _ hG (Below.refl _ _) rfl
      exact AllDue.nil
     ·intro ac w7 hG hd hs hold hf
      have f2 : ac.tmps.getD 2 undef = .bool false := hf 13 2 rfl
      clear hf hold;go_wp2_with fail;refine bodyPost_ret (results_tmp rfl _ _ _) hd ?_
      exact ⟨by rw [f2]; exact af_ (by rw [HE.out]; rfl), hG.below⟩
    ·have HZ := hd_ hz
     rw [hz] at HE;clear hz;refine wp_region_due (by kernel_rfl) mvtDs (mvtF w.heap.size a b c d e V) (MvG w w.heap.size a b c d e V) rfl (by kernel_rfl) (by kernel_rfl) (by kernel_rfl) (mvtF_mono w.heap.size a b c d e V) (G3.out.step (below_drewN (n := 1) (Below.refl _ _))) ?_ ?_
     ·clear G3
      refine AllDue.cons (aq_ (.inl rfl) fun q w1 hG hold hf K hK => ?_) ?_
      ·have f1 : q.tmps.getD 1 undef = .pointer (some ⟨w.heap.size, 0, none⟩) := hold 1 (by kernel_rfl)
       clear hf hold;go_simp;exact hK _ _ hG (Below.refl _ _) rfl
      refine AllDue.cons (aq_ (.inl rfl) fun q w1 hG hold hf K hK => ?_) ?_
      ·have f21 : q.tmps.getD 21 undef = .pointer (some ⟨w.heap.size, 2, none⟩) := hf 0 21 (by kernel_rfl) rfl
       have q21 := f21;rw [gd_] at q21;obtain ⟨p0, p1, p2, p3, p4⟩ := aa_ hG.x;clear hf hold;go_simp;exact hK _ _ hG (Below.refl _ _) rfl
      refine AllDue.cons (aq_ (.inl rfl) fun q w1 hG hold hf K hK => ?_) ?_
      ·have f1 : q.tmps.getD 1 undef = .pointer (some ⟨w.heap.size, 0, none⟩) := hold 1 (by kernel_rfl)
       clear hf hold;go_simp;exact hK _ _ hG (Below.refl _ _) rfl
      refine AllDue.cons (aq_ (.inl rfl) fun q w1 hG hold hf K hK => ?_) ?_
      ·have f23 : q.tmps.getD 23 undef = .pointer (some ⟨w.heap.size, 2, none⟩) := hf 2 23 (by kernel_rfl) rfl
       have q23 := f23;rw [gd_] at q23;obtain ⟨p0, p1, p2, p3, p4⟩ := aa_ hG.x;clear hf hold;go_simp;exact hK _ _ hG (Below.refl _ _) rfl
      refine AllDue.cons (aq_ (.inl rfl) fun q w1 hG hold hf K hK => ?_) ?_
      ·have f1 : q.tmps.getD 1 undef = .pointer (some ⟨w.heap.size, 0, none⟩) := hold 1 (by kernel_rfl)
       clear hf hold;go_simp;exact hK _ _ hG (Below.refl _ _) rfl
      refine AllDue.cons (aq_ (.inl rfl) fun q w1 hG hold hf K hK => ?_) ?_
      ·have f25 : q.tmps.getD 25 undef = .pointer (some ⟨w.heap.size, 1, none⟩) := hf 4 25 (by kernel_rfl) rfl
       have q25 := f25;rw [gd_] at q25;obtain ⟨p0, p1, p2, p3, p4⟩ := aa_ hG.x;clear hf hold;go_simp;exact hK _ _ hG (Below.refl _ _) rfl
      refine AllDue.cons (aq_ (.inl rfl) fun q w1 hG hold hf K hK => ?_) ?_
      ·have f24 : q.tmps.getD 24 undef = .slice c.1 c.2.1 c.2.2 := hf 3 24 (by kernel_rfl) rfl
       have q24 := f24;rw [gd_] at q24;have f26 : q.tmps.getD 26 undef = .slice b.1 b.2.1 b.2.2 := hf 5 26 (by kernel_rfl) rfl
       have q26 := f26;rw [gd_] at q26;clear hf hold;go_simp;go_at_call 48
       with_reducible refine (gone_any _ _ V.r V.f _ hG.r.r hG.r.f LV.out.r (fun r hr => Nat.le_trans (LV.out.n r hr) (by decide)) (Nat.le_trans LV.out.f (by decide))).mono ?_
       rintro e' w' ⟨X, rfl, h1, h2⟩;exact hK _ _ (hG.step h2) h2 h1
      refine AllDue.cons (aq_ (.inl rfl) fun q w1 hG hold hf K hK => ?_) ?_
      ·have f22 : q.tmps.getD 22 undef = .slice c.1 c.2.1 c.2.2 := hf 1 22 (by kernel_rfl) rfl
       have q22 := f22;rw [gd_] at q22;have r27 : RowsAt w1 (q.tmps.getD 27 undef) (RowSets.gone V.f V.r) := hf 6 27 (by kernel_rfl) rfl
       obtain ⟨x27, e27⟩ : ∃ x, q.tmps.getD 27 undef = x := ⟨_, rfl⟩;rw [e27] at r27;have q27 := e27;rw [gd_] at q27;clear hf hold;go_simp;go_at_call 47
       with_reducible refine (sameRows_is _ _ V.r (RowSets.gone V.f V.r) _ hG.r.r r27 (Nat.le_trans LV.out.r (by decide)) (fun r hr => Nat.le_trans (LV.out.n r hr) (by decide)) (gone_nots_len fun r hr => Nat.le_trans (LV.out.n r hr) (by decide))).mono ?_
       rintro e' w' ⟨rfl, h2⟩;exact hK _ _ (hG.step h2) h2 (by rw [HZ.out]; rfl)
      refine AllDue.cons (aq_ (.inl rfl) fun q w1 hG hold hf K hK => ?_) ?_
      ·have f28 : q.tmps.getD 28 undef = .bool true := hf 7 28 (by kernel_rfl) rfl
       have q28 := f28;rw [gd_] at q28;clear hf hold;go_simp;exact hK _ _ hG (Below.refl _ _) rfl
      refine AllDue.cons (aq_ (.inr ⟨8, true, 29, rfl, rfl, by kernel_rfl, fun _ _ h => h⟩) fun q w1 hG hold hf K hK => ?_) ?_
      ·have f1 : q.tmps.getD 1 undef = .pointer (some ⟨w.heap.size, 0, none⟩) := hold 1 (by kernel_rfl)
       clear hf hold;go_simp;exact hK _ _ hG (Below.refl _ _) rfl
      refine AllDue.cons (aq_ (.inr ⟨8, true, 29, rfl, rfl, by kernel_rfl, fun _ _ h => h⟩) fun q w1 hG hold hf K hK => ?_) ?_
      ·have f30 : q.tmps.getD 30 undef = .pointer (some ⟨w.heap.size, 4, none⟩) := hf 9 30 (by kernel_rfl) rfl
       have q30 := f30;rw [gd_] at q30;obtain ⟨p0, p1, p2, p3, p4⟩ := aa_ hG.x;clear hf hold;go_simp;exact hK _ _ hG (Below.refl _ _) rfl
      refine AllDue.cons (aq_ (.inr ⟨8, true, 29, rfl, rfl, by kernel_rfl, fun _ _ h => h⟩) fun q w1 hG hold hf K hK => ?_) ?_
      ·have f31 : q.tmps.getD 31 undef = .slice e.1 e.2.1 e.2.2 := hf 10 31 (by kernel_rfl) rfl
       have q31 := f31;rw [gd_] at q31;clear hf hold;go_simp;go_at_call 49
       with_reducible refine (maySeen_any _ V.s _ hG.r.s (Nat.le_trans LV.out.s (by decide))).mono ?_
       rintro e' w' ⟨rfl, h2⟩;exact hK _ _ (hG.step h2) h2 rfl
      refine AllDue.cons (aq_ (.inl rfl) fun q w1 hG hold hf K hK => ?_) ?_
      ·have f29 : q.tmps.getD 29 undef = .bool true := hf 8 29 (by kernel_rfl) rfl
       have q29 := f29;rw [gd_] at q29;have f32 : q.tmps.getD 32 undef = .bool (maySB V.s) := hf 11 32 (by kernel_rfl) rfl
       have q32 := f32;rw [gd_] at q32;clear hf hold;go_simp;exact hK _ _ hG (Below.refl _ _) rfl
      refine AllDue.cons (aq_ (.inl rfl) fun q w1 hG hold hf K hK => ?_) ?_
      ·have f33 : q.tmps.getD 33 undef = .bool (maySB V.s) := hf 12 33 (by kernel_rfl) rfl
       have q33 := f33;rw [gd_] at q33;clear hf hold;go_simp;exact hK _ _ hG (Below.refl _ _) rfl
      exact AllDue.nil
     ·intro ac w7 hG hd hs hold hf
      have f2 : ac.tmps.getD 2 undef = .bool (maySB V.s) := hf 13 2 rfl
      clear hf hold;go_wp2_with fail;refine bodyPost_ret (results_tmp rfl _ _ _) hd ?_
      exact ⟨by rw [f2]; exact af_ (by rw [HE.out]; rfl), hG.below⟩
end
end Go.Proofs.YthkkipbmlafdiaaGreat
