/-
  Carried over and put together: contracts of this program's functions, and plain facts. No statement is proved in this text.
-/
import Derived.Test.YtgphiggbajbmhaaGreatDoorE11
import Derived.Test.YtgphiggbajbmhaaGreatDoorE21
set_option maxRecDepth 20000
namespace Go.Proofs.YtgphiggbajbmhaaGreatDoor
open Go Go.RowKit
section
variable {P : Program} {ops : Array Oper} {Q : Exit → Act → World → Prop} {R : World → World → Prop} {F : Nat → Value → World → Prop} {G : World → Prop} {a0 : Act}
structure StoodR (F : Nat → Value → World → Prop) (G : World → Prop) (ops : Array Oper) (a0 : Act) (listed : Array Bool) (a : Act) (w : World) : Prop where
 held : G w
 defers : a.defers = a0.defers
 size : a.tmps.size = a0.tmps.size
 old : ∀ s : Tmp, (∀ (i : Nat) (o : Oper), ops[i]? = some o → o.dst ≠ some s) → a.tmps.getD s undef = a0.tmps.getD s undef
 new : ∀ (i : Nat) (o : Oper) (s : Tmp), listed.getD i false = true → ops[i]? = some o → o.dst = some s → F i (a.tmps.getD s undef) w
 done : ∀ (i : Nat) (o : Oper), listed.getD i false = true → ops[i]? = some o → o.dst = none → ∃ v, F i v w
def OwesR (P : Program) (ops : Array Oper) (Q : Exit → Act → World → Prop) (R : World → World → Prop) (F : Nat → Value → World → Prop) (G : World → Prop) (a0 : Act) (i : Nat) (o : Oper) : Prop :=
 ∀ a w, G w → (∀ s : Tmp, (∀ (i : Nat) (o : Oper), ops[i]? = some o → o.dst ≠ some s) → a.tmps.getD s undef = a0.tmps.getD s undef) →
  (∀ (j : Nat) (o' : Oper) (s : Tmp), (o.after.any fun e => e.on == j && Region.binds .any e) = true → ops[j]? = some o' → o'.dst = some s → F j (a.tmps.getD s undef) w) →
  ∀ K : Act → World → Prop, (∀ v w', G w' → R w w' → F i v w' → K (a.put o.dst v) w') →
  if Region.wanted o (yielded ops a.tmps) = true then Oper.wp P o a w K Q else K (a.put o.dst undef) w
theorem wpAny_factsR (hasc : ∀ (i : Nat) (o : Oper), ops[i]? = some o → ∀ e ∈ o.after, e.on < i) (hdst : ∀ (i j : Nat) (o o' : Oper) (s : Tmp), ops[i]? = some o → ops[j]? = some o' → o.dst = some s → o'.dst = some s → i = j) (hin : ∀ (i : Nat) (o : Oper) (s : Tmp), ops[i]? = some o → o.dst = some s → s < a0.tmps.size)
  (mono : ∀ i v w w', F i v w → R w w' → F i v w')
  (step : ∀ (i : Nat) (o : Oper), ops[i]? = some o → OwesR P ops Q R F G a0 i o)
  (fin : ∀ a w, StoodR F G ops a0 (Array.replicate ops.size true) a w → Q .normal a w) :
  ∀ (fuel : Nat) (listed : Array Bool) (a : Act) (w : World), listed.size = ops.size → listed.toList.countP (fun b => !b) ≤ fuel → StoodR F G ops a0 listed a w → wpAny P .any ops Q fuel listed a w := by
 have last : ∀ (listed : Array Bool) (a : Act) (w : World), listed.size = ops.size → StoodR F G ops a0 listed a w → Region.ready .any ops listed = [] → Q .normal a w := fun listed a w hs h hr =>
  fin a w ⟨h.held, h.defers, h.size, h.old, fun i o s _ ho hd => h.new i o s (all_listed hs hasc hr i (by
   rcases Nat.lt_or_ge i ops.size with h1 | h1
   ·exact h1
   ·rw [Array.getElem?_eq_none h1] at ho; cases ho)) ho hd, fun i o _ ho hd => h.done i o (all_listed hs hasc hr i (by
   rcases Nat.lt_or_ge i ops.size with h1 | h1
   ·exact h1
   ·rw [Array.getElem?_eq_none h1] at ho; cases ho)) ho hd⟩
 intro fuel
 induction fuel with
 | zero =>
  intro listed a w hs hc h
  have hr : Region.ready .any ops listed = [] := by
   refine List.filter_eq_nil_iff.2 fun i hi => ?_
   have hi2 : i < listed.toList.length := by rw [Array.length_toList, hs]; exact List.mem_range.1 hi
   have h0 := List.countP_eq_zero.1 (Nat.le_zero.1 hc) listed.toList[i] (List.getElem_mem hi2)
   have h1 : listed.getD i true = true := by
    rw [Array.getD_eq_getD_getElem?, Array.getElem?_eq_getElem (by simpa using hi2)]
    simpa using h0
   rw [h1]
   simp
  exact ⟨hr, last listed a w hs h hr⟩
 | succ fuel ih =>
  intro listed a w hs hc h
  refine ⟨last listed a w hs h, fun i hi => ?_⟩
  obtain ⟨hi1, hi2⟩ := List.mem_filter.1 hi
  have hi3 : i < ops.size := List.mem_range.1 hi1
  rw [Bool.and_eq_true, Bool.not_eq_true', Array.getElem?_eq_getElem hi3, Option.map_some, Option.getD_some] at hi2
  obtain ⟨hl, hall⟩ := hi2
  have ho : ops[i]? = some ops[i] := Array.getElem?_eq_getElem hi3
  have hil : i < listed.toList.length := by rw [Array.length_toList, hs]; exact hi3
  have hlf : listed.toList[i] = false := by
   rw [Array.getD_eq_getD_getElem?, Array.getElem?_eq_getElem (by omega)] at hl
   simpa using hl
  have hcnt : (listed.setIfInBounds i true).toList.countP (fun b => !b) ≤ fuel := by
   rw [Array.toList_setIfInBounds, List.countP_set hil, hlf]
   simp only [Bool.not_false, if_true, Bool.not_true, Bool.false_eq_true, if_false]
   omega
  have key : ∀ v w', G w' → R w w' → F i v w' → wpAny P .any ops Q fuel (listed.setIfInBounds i true) (a.put ops[i].dst v) w' := by
   intro v w' hG hb hF
   refine ih _ _ _ (by simpa using hs) hcnt ⟨hG, (put_defers _ _ _).trans h.defers, (put_size _ _ _).trans h.size, fun s hn => (put_getD_other _ _ _ _ (hn i _ ho)).trans (h.old s hn), fun j o s hj hoj hd => ?_, fun j o hj hoj hd => ?_⟩
   ·by_cases e : j = i
    ·subst e
     obtain rfl := Option.some.inj (ho.symm.trans hoj)
     rw [hd, put_getD_self _ _ _ (by rw [h.size]; exact hin _ _ _ hoj hd)]
     exact hF
    ·rw [put_getD_other _ _ _ _ (fun e2 => e (hdst j i o ops[i] s hoj ho hd e2))]
     refine mono _ _ _ _ (h.new j o s ?_ hoj hd) hb
     rw [Array.getD_eq_getD_getElem?, Array.getElem?_setIfInBounds_ne (fun e2 => e e2.symm)] at hj
     rw [Array.getD_eq_getD_getElem?]
     exact hj
   ·by_cases e : j = i
    ·subst e
     exact ⟨v, hF⟩
    ·obtain ⟨u, hu⟩ := h.done j o (by
      rw [Array.getD_eq_getD_getElem?, Array.getElem?_setIfInBounds_ne (fun e2 => e e2.symm)] at hj
      rw [Array.getD_eq_getD_getElem?]
      exact hj) hoj hd
     exact ⟨u, mono _ _ _ _ hu hb⟩
  have hst := step i ops[i] ho a w h.held h.old (fun j o' s hj hoj hd => h.new j o' s (by
   obtain ⟨e, he, h2⟩ := Array.any_eq_true'.1 hj
   rw [Bool.and_eq_true, beq_iff_eq] at h2
   have h3 := (Array.all_eq_true_iff_forall_mem.1 hall) e he
   rw [h2.2, h2.1] at h3
   simpa using h3) hoj hd) (wpAny P .any ops Q fuel (listed.setIfInBounds i true)) key
  unfold wpOp
  rw [ho]
  show if Region.wanted ops[i] (yielded ops a.tmps) = true then _ else _
  split
  ·rename_i hw; rw [if_pos hw] at hst; exact .inl hst
  ·rename_i hw; rw [if_neg hw] at hst; exact hst
theorem wp_region_factsR {id : Nat} {w0 : World} (hm : P.follows .mixedOrders = true) (F : Nat → Value → World → Prop) (G : World → Prop)
  (hasc : (List.range ops.size).all (fun i => ((ops[i]?).map fun o => o.after.all fun e => decide (e.on < i)).getD true) = true)
  (hdst : (List.range ops.size).all (fun i => (List.range ops.size).all fun j => decide (i = j) || ((ops[i]?).bind (·.dst)).isNone || ((ops[i]?).bind (·.dst)) != ((ops[j]?).bind (·.dst))) = true)
  (hin : (List.range ops.size).all (fun i => (((ops[i]?).bind (·.dst)).map fun s => decide (s < a0.tmps.size)).getD true) = true)
  (mono : ∀ i v w w', F i v w → R w w' → F i v w')
  (hG : G w0.drew)
  (step : ∀ (i : Nat) (o : Oper), ops[i]? = some o → OwesR P ops Q R F G a0 i o)
  (fin : ∀ a w, G w → a.defers = a0.defers → a.tmps.size = a0.tmps.size → (∀ s : Tmp, (∀ (i : Nat) (o : Oper), ops[i]? = some o → o.dst ≠ some s) → a.tmps.getD s undef = a0.tmps.getD s undef) → (∀ (i : Nat) (o : Oper) (s : Tmp), ops[i]? = some o → o.dst = some s → F i (a.tmps.getD s undef) w) → (∀ (i : Nat) (o : Oper), ops[i]? = some o → o.dst = none → ∃ v, F i v w) → Q .normal a w) :
  (Code.region id ops true).wp P Q a0 w0 := by
 have lt : ∀ {i : Nat} {o : Oper}, ops[i]? = some o → i < ops.size := fun {i o} ho => by
  rcases Nat.lt_or_ge i ops.size with h1 | h1
  ·exact h1
  ·rw [Array.getElem?_eq_none h1] at ho; cases ho
 refine wp_region_any hm (wpAny_factsR (F := F) (G := G) (a0 := a0) ?_ ?_ ?_ mono step (fun a w h => fin a w h.held h.defers h.size h.old (fun i o s ho hd => h.new i o s (by simp [lt ho]) ho hd) fun i o ho hd => h.done i o (by simp [lt ho]) ho hd) _ _ _ _ (by simp) (Nat.le_trans List.countP_le_length (by simp)) ⟨hG, rfl, rfl, fun _ _ => rfl, fun i o s hi ho _ => ?_, fun i o hi ho _ => ?_⟩)
 ·intro i o ho e he
  have := List.all_eq_true.1 hasc i (List.mem_range.2 (lt ho))
  rw [ho] at this
  simpa using (Array.all_eq_true_iff_forall_mem.1 this) e he
 ·intro i j o o' s ho ho' hd hd'
  have := List.all_eq_true.1 (List.all_eq_true.1 hdst i (List.mem_range.2 (lt ho))) j (List.mem_range.2 (lt ho'))
  rw [ho, ho'] at this
  simp [hd, hd'] at this
  exact this
 ·intro i o s ho hd
  have := List.all_eq_true.1 hin i (List.mem_range.2 (lt ho))
  rw [ho] at this
  simpa [hd] using this
 ·rw [Array.getD_eq_getD_getElem?] at hi
  simp [lt ho] at hi
 ·rw [Array.getD_eq_getD_getElem?] at hi
  simp [lt ho] at hi
def DueR (P : Program) (ds : List (Option Tmp)) (Q : Exit → Act → World → Prop) (R : World → World → Prop) (F : Nat → Value → World → Prop) (G : World → Prop) (a0 : Act) (i : Nat) (o : Oper) : Prop :=
 ∀ a w, G w → (∀ s : Tmp, ds.contains (some s) = false → a.tmps.getD s undef = a0.tmps.getD s undef) →
  (∀ (j : Nat) (s : Tmp), (o.after.any fun e => e.on == j && Region.binds .any e) = true → ds.getD j none = some s → F j (a.tmps.getD s undef) w) →
  ∀ K : Act → World → Prop, (∀ v w', G w' → R w w' → F i v w' → K (a.put o.dst v) w') →
  if met ds o a = true then Oper.wp P o a w K Q else K (a.put o.dst undef) w
def AllDueR (P : Program) (ds : List (Option Tmp)) (Q : Exit → Act → World → Prop) (R : World → World → Prop) (F : Nat → Value → World → Prop) (G : World → Prop) (a0 : Act) : Nat → List Oper → Prop
 | _, [] => True
 | k, o :: r => DueR P ds Q R F G a0 k o ∧ AllDueR P ds Q R F G a0 (k + 1) r
theorem AllDueR.nil {ds : List (Option Tmp)} {k : Nat} : AllDueR P ds Q R F G a0 k [] := trivial
theorem AllDueR.cons {ds : List (Option Tmp)} {k : Nat} {o : Oper} {r : List Oper} (h : DueR P ds Q R F G a0 k o) (hr : AllDueR P ds Q R F G a0 (k + 1) r) : AllDueR P ds Q R F G a0 k (o :: r) := ⟨h, hr⟩
theorem AllDueR.at_ {ds : List (Option Tmp)} : ∀ {l : List Oper} {k i : Nat} {o : Oper}, AllDueR P ds Q R F G a0 k l → l[i]? = some o → DueR P ds Q R F G a0 (k + i) o
 | [], _, _, _, _, h => by simp at h
 | o' :: r, k, 0, o, h, ho => by
  simp at ho
  subst ho
  exact h.1
 | o' :: r, k, i + 1, o, h, ho => by
  have := AllDueR.at_ (i := i) h.2 (by simpa using ho)
  rwa [show k + 1 + i = k + (i + 1) by omega] at this
theorem wp_region_dueR {l : List Oper} {id : Nat} {w0 : World} (hm : P.follows .mixedOrders = true) (ds : List (Option Tmp)) (F : Nat → Value → World → Prop) (G : World → Prop) (hds : ds = l.map (·.dst))
  (hasc : (List.range l.toArray.size).all (fun i => ((l.toArray[i]?).map fun o => o.after.all fun e => decide (e.on < i)).getD true) = true)
  (hdst : (List.range l.toArray.size).all (fun i => (List.range l.toArray.size).all fun j => decide (i = j) || ((l.toArray[i]?).bind (·.dst)).isNone || ((l.toArray[i]?).bind (·.dst)) != ((l.toArray[j]?).bind (·.dst))) = true)
  (hin : (List.range l.toArray.size).all (fun i => (((l.toArray[i]?).bind (·.dst)).map fun s => decide (s < a0.tmps.size)).getD true) = true)
  (mono : ∀ i v w w', F i v w → R w w' → F i v w')
  (hG : G w0.drew)
  (step : AllDueR P ds Q R F G a0 0 l)
  (fin : ∀ a w, G w → a.defers = a0.defers → a.tmps.size = a0.tmps.size → (∀ s : Tmp, ds.contains (some s) = false → a.tmps.getD s undef = a0.tmps.getD s undef) → (∀ (i : Nat) (s : Tmp), ds.getD i none = some s → F i (a.tmps.getD s undef) w) → (∀ i, i < ds.length → ds.getD i none = none → ∃ v, F i v w) → Q .normal a w) :
  (Code.region id l.toArray true).wp P Q a0 w0 := by
 have atd : ∀ {j : Nat} {o : Oper}, l.toArray[j]? = some o → ds.getD j none = o.dst := fun {j o} h => by
  rw [List.getElem?_toArray] at h
  rw [hds, List.getD_eq_getElem?_getD, List.getElem?_map, h]
  rfl
 have old' : ∀ {a : Act}, (∀ s : Tmp, (∀ (i : Nat) (o : Oper), l.toArray[i]? = some o → o.dst ≠ some s) → a.tmps.getD s undef = a0.tmps.getD s undef) → ∀ s : Tmp, ds.contains (some s) = false → a.tmps.getD s undef = a0.tmps.getD s undef := fun {a} h s hs => h s fun i o ho hd => by
  have : some s ∈ ds := by
   rw [hds]
   exact List.mem_map.2 ⟨o, List.mem_of_getElem? (by rw [← List.getElem?_toArray]; exact ho), hd⟩
  rw [List.contains_iff_mem.2 this] at hs
  cases hs
 refine wp_region_factsR (R := R) hm F G hasc hdst hin mono hG (fun i o ho => ?_) (fun a w h1 h2 h3 h4 h5 h6 => fin a w h1 h2 h3 (old' h4) (fun i s hs => ?_) fun i hi hn => ?_)
 ·intro a w hGw hold hf K hK
  rw [met_wanted, ← hds]
  have hd := step.at_ (i := i) (by rw [← List.getElem?_toArray]; exact ho)
  rw [Nat.zero_add] at hd
  refine hd a w hGw (old' hold) (fun j s hj hs => ?_) K hK
  rcases h : l.toArray[j]? with _ | o'
  ·rw [hds, List.getD_eq_getElem?_getD, List.getElem?_map] at hs
   rw [List.getElem?_toArray] at h
   rw [h] at hs
   cases hs
  ·exact hf j o' s hj h (by rw [← atd h]; exact hs)
 ·rcases h : l.toArray[i]? with _ | o'
  ·rw [hds, List.getD_eq_getElem?_getD, List.getElem?_map] at hs
   rw [List.getElem?_toArray] at h
   rw [h] at hs
   cases hs
  ·exact h5 i o' s h (by rw [← atd h]; exact hs)
 ·rcases h : l.toArray[i]? with _ | o'
  ·rw [hds, List.length_map] at hi
   rw [List.getElem?_toArray, List.getElem?_eq_getElem hi] at h
   cases h
  ·exact h6 i o' h (by rw [← atd h]; exact hn)
theorem due_metR {ds : List (Option Tmp)} {i : Nat} {o : Oper}
  (hg : o.guard = none ∨ ∃ k b s, o.guard = some (k, b) ∧ ds.getD k none = some s ∧ (o.after.any fun e => e.on == k && Region.binds .any e) = true ∧ ∀ v w, F k v w → v = .bool b)
  (h : ∀ a w, G w → (∀ s : Tmp, ds.contains (some s) = false → a.tmps.getD s undef = a0.tmps.getD s undef) →
   (∀ (j : Nat) (s : Tmp), (o.after.any fun e => e.on == j && Region.binds .any e) = true → ds.getD j none = some s → F j (a.tmps.getD s undef) w) →
   ∀ K : Act → World → Prop, (∀ v w', G w' → R w w' → F i v w' → K (a.put o.dst v) w') → Oper.wp P o a w K Q) : DueR P ds Q R F G a0 i o := by
 intro a w hG hold hf K hK
 have hm : met ds o a = true := by
  unfold met
  rcases hg with hg | ⟨k, b, s, hg, hs, ha, hv⟩
  ·rw [hg]
  ·rw [hg]
   have := hv _ _ (hf k s ha hs)
   simp only [hs, this, boolOf, beq_self_eq_true]
 rw [if_pos hm]
 exact h a w hG hold hf K hK
end
end Go.Proofs.YtgphiggbajbmhaaGreatDoor
namespace Go.Proofs.YtgphiggbajbmhaaGreatDoor
open Go Go.RowKit
def Kp (w w' : World) : Prop := w.heap.size ≤ w'.heap.size ∧ ∀ a b : Addr, a.block = b.block → (∃ k n, w.cell? a = some (.int k n)) → ∀ u, w.cell? b = some u → w'.cell? b = some u
theorem kp_refl (w : World) : Kp w w := ⟨Nat.le_refl _, fun _ _ _ _ _ h => h⟩
theorem kp_below {w w' : World} (hb : Below w.heap.size w w') : Kp w w' := ⟨hb.size, fun _ _ _ _ _ h => (hb.cell (World.block_lt_of_cell? w _ h)).trans h⟩
theorem kp_set {w : World} {g : Nat} {a b c d e : SL} (h : VBox w g a b c d e) (vs : List Value) : Kp w (w.setCells g 0 vs) := by
 refine ⟨by rw [size_setCells]; exact Nat.le_refl _, fun x y hxy ⟨k, n, hc⟩ u hu => ?_⟩
 by_cases e : x.block = g
 ·exfalso
  unfold VBox at h
  rw [← e] at h
  unfold World.cell? at hc
  rw [h] at hc
  simp at hc
  have hm := List.mem_of_getElem? hc.2
  simp at hm
 ·rw [World.cell?_of_block (heap_setCells _ _ _ _ _ (fun e2 => e (hxy.trans e2)))]
  exact hu
theorem Rcs.kp {α : Type} {enc : α → List Value} {sz : Nat} {w w' : World} {v : Value} {l : List α} (h : Rcs enc sz w v l) (hk : Kp w w') (h0 : ∀ x, ∃ k n, (enc x)[0]? = some (.int k n)) : Rcs enc sz w' v l := by
 obtain ⟨A, c, hv, hz, hc, hh⟩ := h
 refine ⟨A, c, hv, hz, hc, fun k h => ?_⟩
 obtain ⟨ad, h1, h2, h3⟩ := hh k h
 obtain ⟨i, n, hi⟩ := h0 l[k]
 exact ⟨ad, h1, Nat.lt_of_lt_of_le h2 hk.1, fun j u hu => hk.2 _ _ (by rw [addr_block, addr_block]) ⟨i, n, h3 0 _ hi⟩ _ (h3 j u hu)⟩
theorem Ids.kp {w w' : World} {v : Value} {l : List Sets.Id2} (h : Ids w v l) (hk : Kp w w') : Ids w' v l := ids_rcs ((rcs_ids h).kp hk fun _ => ⟨_, _, rfl⟩)
theorem Ms.kp {w w' : World} {v : Value} {l : List Ros.Mm} (h : Ms w v l) (hk : Kp w w') : Ms w' v l := Rcs.kp h hk fun _ => ⟨_, _, rfl⟩
theorem ticks_kp {w w' : World} {v : Value} {l : List Clocks.Tick} (h : Rcs encT 3 w v l) (hk : Kp w w') : Rcs encT 3 w' v l := Rcs.kp h hk fun _ => ⟨_, _, rfl⟩
theorem each_kp {w w' : World} (hk : Kp w w') : ∀ {qs : List Raw} {l : List RowSets.Row}, EachReads w qs l → EachReads w' qs l
 | [], [], _ => trivial
 | _ :: _, _ :: _, h => ⟨⟨h.1.1, h.1.2.1, Ids.kp h.1.2.2 hk⟩, each_kp hk h.2⟩
 | [], _ :: _, h => h.elim
 | _ :: _, [], h => h.elim
theorem RowsAt.kp {w w' : World} {v : Value} {l : List RowSets.Row} (h : RowsAt w v l) (hk : Kp w w') : RowsAt w' v l := by
 obtain ⟨qs, h1, h2⟩ := h
 exact ⟨qs, h1.kp hk fun _ => ⟨_, _, rfl⟩, each_kp hk h2⟩
theorem RV.kp {w w' : World} {a b c d e : SL} {V : Vw} (h : RV w a b c d e V) (hk : Kp w w') : RV w' a b c d e V := ⟨Ms.kp h.m hk, Ids.kp h.f hk, h.r.kp hk, ticks_kp h.c hk, Ids.kp h.s hk⟩
theorem VAt.kp {w w' : World} {v : Value} {V : Vw} (h : VAt w v V) (hk : Kp w w') : VAt w' v V := by
 obtain ⟨a, b, c, d, e, h1, h2⟩ := h
 exact ⟨a, b, c, d, e, h1, h2.kp hk⟩
theorem vbox_other {w : World} {g x : Nat} {a b c d e : SL} (h : VBox w g a b c d e) (hx : g ≠ x) (vs : List Value) : VBox (w.setCells x 0 vs) g a b c d e := (heap_setCells _ _ _ _ _ hx).trans h
theorem gone_len (fl : List Sets.Id2) (l : List RowSets.Row) : (RowSets.gone fl l).length ≤ l.length := by
 unfold RowSets.gone
 rw [List.length_map]
 exact List.length_filter_le _ _
theorem gone_nots_len {fl : List Sets.Id2} {l : List RowSets.Row} {n : Nat} (h : ∀ r ∈ l, r.2.2.length ≤ n) : ∀ r ∈ RowSets.gone fl l, r.2.2.length ≤ n := by
 intro r hr
 unfold RowSets.gone at hr
 obtain ⟨s, hs, rfl⟩ := List.mem_map.1 hr
 exact Nat.le_trans (List.length_filter_le _ _) (h s (List.mem_filter.1 hs).1)
structure MvG (w : World) (g : Nat) (a b c d e : SL) (V : Vw) (W : World) : Prop where
 x : VBox W g a b c d e
 r : RV W a b c d e V
 below : Below w.heap.size w W
theorem MvG.step {w : World} {g : Nat} {a b c d e : SL} {V : Vw} {W W' : World} (h : MvG w g a b c d e V W) (hb : Below W.heap.size W W') : MvG w g a b c d e V W' := ⟨vbox_below h.x hb, h.r.below hb, below_after h.below hb (Nat.le_refl _)⟩
end Go.Proofs.YtgphiggbajbmhaaGreatDoor
namespace Go.Proofs.YtgphiggbajbmhaaGreatDoor
open Go Go.RowKit
def joinV (V U : Vw) : Vw := ⟨(Ros.joinL (V.m, V.f) (U.m, U.f)).1, (Ros.joinL (V.m, V.f) (U.m, U.f)).2, RowSets.gone (Ros.joinL (V.m, V.f) (U.m, U.f)).2 (RowSets.joinR V.r U.r), Clocks.joinC V.c U.c, seenV V U⟩
theorem fit_small {V : Vw} (h : FitVIE 400 V) : Small V.r := by
 unfold Small
 exact ⟨Nat.le_trans h.r (by decide), fun r hr => Nat.le_trans (h.n r hr) (by decide)⟩
theorem lenJ_f (a b : Ros.Ls) : (Ros.joinL a b).2.length ≤ 100 := by
 have h := Ros.lenJ a b
 unfold Ros.LenOk at h
 exact h.2
theorem lenJ_m (a b : Ros.Ls) : (Ros.joinL a b).1.length ≤ 100 := by
 have h := Ros.lenJ a b
 unfold Ros.LenOk at h
 exact h.1
structure JnG (w : World) (a b c d e a' b' c' d' e' sm sf : SL) (V U : Vw) (W : World) : Prop where
 p : VBox W w.heap.size a b c d e
 q : VBox W (w.heap.size + 1) a' b' c' d' e'
 z : ∃ s0 s1 s2 s3 s4 : SL, VBox W (w.heap.size + 1 + 1) s0 s1 s2 s3 s4
 r : RV W a b c d e V
 t : RV W a' b' c' d' e' U
 hm : Ms W (.slice sm.1 sm.2.1 sm.2.2) (Ros.joinL (V.m, V.f) (U.m, U.f)).1
 hf : Ids W (.slice sf.1 sf.2.1 sf.2.2) (Ros.joinL (V.m, V.f) (U.m, U.f)).2
 below : Below w.heap.size w W
theorem JnG.step {w : World} {a b c d e a' b' c' d' e' sm sf : SL} {V U : Vw} {W W' : World} (h : JnG w a b c d e a' b' c' d' e' sm sf V U W) (hb : Below W.heap.size W W') : JnG w a b c d e a' b' c' d' e' sm sf V U W' := by
 obtain ⟨s0, s1, s2, s3, s4, hz⟩ := h.z
 exact ⟨vbox_below h.p hb, vbox_below h.q hb, ⟨s0, s1, s2, s3, s4, vbox_below hz hb⟩, h.r.below hb, h.t.below hb, h.hm.below hb, h.hf.below hb, below_after h.below hb (Nat.le_refl _)⟩
theorem JnG.put {w : World} {a b c d e a' b' c' d' e' sm sf : SL} {V U : Vw} {W : World} (h : JnG w a b c d e a' b' c' d' e' sm sf V U W) {s0 s1 s2 s3 s4 z0 z1 z2 z3 z4 : SL} (hz : VBox W (w.heap.size + 1 + 1) z0 z1 z2 z3 z4) : JnG w a b c d e a' b' c' d' e' sm sf V U (W.setCells (w.heap.size + 1 + 1) 0 [.slice s0.1 s0.2.1 s0.2.2, .slice s1.1 s1.2.1 s1.2.2, .slice s2.1 s2.2.1 s2.2.2, .slice s3.1 s3.2.1 s3.2.2, .slice s4.1 s4.2.1 s4.2.2]) :=
 have hk := kp_set hz [.slice s0.1 s0.2.1 s0.2.2, .slice s1.1 s1.2.1 s1.2.2, .slice s2.1 s2.2.1 s2.2.2, .slice s3.1 s3.2.1 s3.2.2, .slice s4.1 s4.2.1 s4.2.2]
 ⟨vbox_other h.p (by omega) _, vbox_other h.q (by omega) _, ⟨s0, s1, s2, s3, s4, vbox_set hz s0 s1 s2 s3 s4⟩, h.r.kp hk, h.t.kp hk, Ms.kp h.hm hk, Ids.kp h.hf hk, below_setCells h.below (by omega) 0 _⟩
def JnR (X : Nat) (J : Vw) (W W' : World) : Prop := Kp W W' ∧ (HoldsV W X J → HoldsV W' X J)
theorem jnR_refl (X : Nat) (J : Vw) (W : World) : JnR X J W W := ⟨kp_refl _, id⟩
theorem jnR_of {X : Nat} {J : Vw} {W W' : World} (hb : Below W.heap.size W W') : JnR X J W W' := ⟨kp_below hb, fun h => h.below hb⟩
def jnDs : List (Option Tmp) := [some 19, some 20, some 21, some 22, some 23, some 24, some 25, some 26, some 27, some 28, some 29, some 30, some 31, some 32, some 33, some 34, some 35, some 36, none]
def jnF (x y z : Nat) (a b c d e a' b' c' d' e' sm sf : SL) (V U : Vw) : Nat → Value → World → Prop := fun i v w => match i with
 | 0 => v = .slice sm.1 sm.2.1 sm.2.2
 | 1 => v = .slice sf.1 sf.2.1 sf.2.2
 | 2 => v = .pointer (some ⟨x, 2, none⟩)
 | 3 => v = .slice c.1 c.2.1 c.2.2
 | 4 => v = .pointer (some ⟨y, 2, none⟩)
 | 5 => v = .slice c'.1 c'.2.1 c'.2.2
 | 6 => RowsAt w v (RowSets.joinR V.r U.r)
 | 7 => v = .slice sf.1 sf.2.1 sf.2.2
 | 8 => RowsAt w v (RowSets.gone (Ros.joinL (V.m, V.f) (U.m, U.f)).2 (RowSets.joinR V.r U.r))
 | 9 => v = .pointer (some ⟨x, 3, none⟩)
 | 10 => v = .slice d.1 d.2.1 d.2.2
 | 11 => v = .pointer (some ⟨y, 3, none⟩)
 | 12 => v = .slice d'.1 d'.2.1 d'.2.2
 | 13 => Rcs encT 3 w v (Clocks.joinC V.c U.c)
 | 14 => v = .agg #[.slice a.1 a.2.1 a.2.2, .slice b.1 b.2.1 b.2.2, .slice c.1 c.2.1 c.2.2, .slice d.1 d.2.1 d.2.2, .slice e.1 e.2.1 e.2.2]
 | 15 => v = .agg #[.slice a'.1 a'.2.1 a'.2.2, .slice b'.1 b'.2.1 b'.2.2, .slice c'.1 c'.2.1 c'.2.2, .slice d'.1 d'.2.1 d'.2.2, .slice e'.1 e'.2.1 e'.2.2]
 | 16 => Ids w v (seenV V U)
 | 17 => VAt w v (joinV V U)
 | 18 => HoldsV w z (joinV V U)
 | _ => True
theorem jnF_mono (x y z : Nat) (a b c d e a' b' c' d' e' sm sf : SL) (V U : Vw) : ∀ i v w w', jnF x y z a b c d e a' b' c' d' e' sm sf V U i v w → JnR z (joinV V U) w w' → jnF x y z a b c d e a' b' c' d' e' sm sf V U i v w' := by
 intro i v w w' h hb
 unfold jnF at h ⊢
 split at h
 all_goals first | exact h | exact RowsAt.kp h hb.1 | exact Ids.kp h hb.1 | exact ticks_kp h hb.1 | exact VAt.kp h hb.1 | exact hb.2 h
set_option maxHeartbeats 16000000 in
theorem joinV_any (v u : Value) (V U : Vw) (w : World) (h : VAt w v V) (k : VAt w u U) (hV : FitVIE 400 V) (hU : FitVIE 400 U) (uV : RowSets.Up V.r) (uU : RowSets.Up U.r) :
  Calls Tryz.prog 63 #[v, u] w fun e w' => ∃ X, e = .returned X ∧ VAt w' X (joinV V U) ∧ Below w.heap.size w w' := by
 obtain ⟨a, b, c, d, e, rfl, hr⟩ := h
 obtain ⟨a', b', c', d', e', rfl, kr⟩ := k
 have q1 := below_one w (.cells #[.slice a.1 a.2.1 a.2.2, .slice b.1 b.2.1 b.2.2, .slice c.1 c.2.1 c.2.2, .slice d.1 d.2.1 d.2.2, .slice e.1 e.2.1 e.2.2] 27)
 have q2 := below_one (w.alloc (.cells #[.slice a.1 a.2.1 a.2.2, .slice b.1 b.2.1 b.2.2, .slice c.1 c.2.1 c.2.2, .slice d.1 d.2.1 d.2.2, .slice e.1 e.2.1 e.2.2] 27)) (.cells #[.slice a'.1 a'.2.1 a'.2.2, .slice b'.1 b'.2.1 b'.2.2, .slice c'.1 c'.2.1 c'.2.2, .slice d'.1 d'.2.1 d'.2.2, .slice e'.1 e'.2.1 e'.2.2] 27)
 have q3 := below_one ((w.alloc (.cells #[.slice a.1 a.2.1 a.2.2, .slice b.1 b.2.1 b.2.2, .slice c.1 c.2.1 c.2.2, .slice d.1 d.2.1 d.2.2, .slice e.1 e.2.1 e.2.2] 27)).alloc (.cells #[.slice a'.1 a'.2.1 a'.2.2, .slice b'.1 b'.2.1 b'.2.2, .slice c'.1 c'.2.1 c'.2.2, .slice d'.1 d'.2.1 d'.2.2, .slice e'.1 e'.2.1 e'.2.2] 27)) (.cells #[.slice none 0 0, .slice none 0 0, .slice none 0 0, .slice none 0 0, .slice none 0 0] 27)
 have Q := below_after (below_after q1 q2 (Nat.le_refl _)) q3 (Nat.le_refl _)
 have X1 := Lib.hid (vbox_below (vbox_below (vbox_new w a b c d e) q2) q3)
 have X2 : Hid (VBox (((w.alloc (.cells #[.slice a.1 a.2.1 a.2.2, .slice b.1 b.2.1 b.2.2, .slice c.1 c.2.1 c.2.2, .slice d.1 d.2.1 d.2.2, .slice e.1 e.2.1 e.2.2] 27)).alloc (.cells #[.slice a'.1 a'.2.1 a'.2.2, .slice b'.1 b'.2.1 b'.2.2, .slice c'.1 c'.2.1 c'.2.2, .slice d'.1 d'.2.1 d'.2.2, .slice e'.1 e'.2.1 e'.2.2] 27)).alloc (.cells #[.slice none 0 0, .slice none 0 0, .slice none 0 0, .slice none 0 0, .slice none 0 0] 27)) (w.heap.size + 1) a' b' c' d' e') := Lib.hid (by simpa using vbox_below (vbox_new (w.alloc (.cells #[.slice a.1 a.2.1 a.2.2, .slice b.1 b.2.1 b.2.2, .slice c.1 c.2.1 c.2.2, .slice d.1 d.2.1 d.2.2, .slice e.1 e.2.1 e.2.2] 27)) a' b' c' d' e') q3)
 have X3 : Hid (VBox (((w.alloc (.cells #[.slice a.1 a.2.1 a.2.2, .slice b.1 b.2.1 b.2.2, .slice c.1 c.2.1 c.2.2, .slice d.1 d.2.1 d.2.2, .slice e.1 e.2.1 e.2.2] 27)).alloc (.cells #[.slice a'.1 a'.2.1 a'.2.2, .slice b'.1 b'.2.1 b'.2.2, .slice c'.1 c'.2.1 c'.2.2, .slice d'.1 d'.2.1 d'.2.2, .slice e'.1 e'.2.1 e'.2.2] 27)).alloc (.cells #[.slice none 0 0, .slice none 0 0, .slice none 0 0, .slice none 0 0, .slice none 0 0] 27)) (w.heap.size + 1 + 1) (none, 0, 0) (none, 0, 0) (none, 0, 0) (none, 0, 0) (none, 0, 0)) := Lib.hid (by
  have := vbox_new ((w.alloc (.cells #[.slice a.1 a.2.1 a.2.2, .slice b.1 b.2.1 b.2.2, .slice c.1 c.2.1 c.2.2, .slice d.1 d.2.1 d.2.2, .slice e.1 e.2.1 e.2.2] 27)).alloc (.cells #[.slice a'.1 a'.2.1 a'.2.2, .slice b'.1 b'.2.1 b'.2.2, .slice c'.1 c'.2.1 c'.2.2, .slice d'.1 d'.2.1 d'.2.2, .slice e'.1 e'.2.1 e'.2.2] 27)) (none, 0, 0) (none, 0, 0) (none, 0, 0) (none, 0, 0) (none, 0, 0)
  simpa only [World.size_alloc] using this)
 have RA := Lib.hid (hr.below Q)
 have RB := Lib.hid (kr.below Q)
 have BQ := Lib.hid Q
 have LV := Lib.hid hV
 have LU := Lib.hid hU
 have UV := Lib.hid uV
 have UU := Lib.hid uU
 clear hr kr q1 q2 q3 Q hV hU uV uU
 obtain ⟨p0, p1, p2, p3, p4⟩ := vbox_cells X1.out
 obtain ⟨t0, t1, t2, t3, t4⟩ := vbox_cells X2.out
 go_enter Tryz.func63, Tryz.ntmps63
 go_wp2_with fail
 (with_reducible refine (join_anyROS _ _ _ _ V.m U.m V.f U.f _ RA.out.m RA.out.f RB.out.m RB.out.f (by have := LV.out.m; have := LU.out.m; omega) (by have := LV.out.f; have := LU.out.f; omega)).mono ?_)
 rintro e1 w1 ⟨Vm, Vf, rfl, hm, hf, hb⟩
 rw [Ros.joinP_is] at hm hf
 obtain ⟨sm, rfl⟩ := sl_rcs hm.reads
 obtain ⟨sf, rfl⟩ := sl_ids (ids_of_owns hf)
 have G1 : Hid (JnG w a b c d e a' b' c' d' e' sm sf V U w1) := Lib.hid ⟨vbox_below X1.out hb, vbox_below X2.out hb, ⟨_, _, _, _, _, vbox_below X3.out hb⟩, RA.out.below hb, RB.out.below hb, hm.reads, ids_of_owns hf, below_after BQ.out hb (Nat.le_refl _)⟩
 clear p0 p1 p2 p3 p4 t0 t1 t2 t3 t4 X1 X2 X3 RA RB BQ hm hf hb
 go_wp2_with fail
 refine wp_region_dueR (R := JnR (w.heap.size + 1 + 1) (joinV V U)) (by kernel_rfl) jnDs (jnF w.heap.size (w.heap.size + 1) (w.heap.size + 1 + 1) a b c d e a' b' c' d' e' sm sf V U) (JnG w a b c d e a' b' c' d' e' sm sf V U) rfl (by kernel_rfl) (by kernel_rfl) (by kernel_rfl) (jnF_mono w.heap.size (w.heap.size + 1) (w.heap.size + 1 + 1) a b c d e a' b' c' d' e' sm sf V U) (G1.out.step (below_drewN (n := 1) (Below.refl _ _))) ?_ ?_
 ·clear G1
  refine AllDueR.cons (due_metR (.inl rfl) fun q w1 hG hold hf K hK => ?_) ?_
  ·have f5 : q.tmps.getD 5 undef = .slice sm.1 sm.2.1 sm.2.2 := hold 5 (by kernel_rfl)
   clear hf hold
   go_simp
   exact hK _ _ hG (jnR_refl _ _ _) rfl
  refine AllDueR.cons (due_metR (.inl rfl) fun q w1 hG hold hf K hK => ?_) ?_
  ·have f6 : q.tmps.getD 6 undef = .slice sf.1 sf.2.1 sf.2.2 := hold 6 (by kernel_rfl)
   clear hf hold
   go_simp
   exact hK _ _ hG (jnR_refl _ _ _) rfl
  refine AllDueR.cons (due_metR (.inl rfl) fun q w1 hG hold hf K hK => ?_) ?_
  ·have f2 : q.tmps.getD 2 undef = .pointer (some ⟨w.heap.size, 0, none⟩) := hold 2 (by kernel_rfl)
   clear hf hold
   go_simp
   exact hK _ _ hG (jnR_refl _ _ _) rfl
  refine AllDueR.cons (due_metR (.inl rfl) fun q w1 hG hold hf K hK => ?_) ?_
  ·have f21 : q.tmps.getD 21 undef = .pointer (some ⟨w.heap.size, 2, none⟩) := hf 2 21 (by kernel_rfl) rfl
   have q21 := f21
   rw [Array.getD_eq_getD_getElem?] at q21
   obtain ⟨p0, p1, p2, p3, p4⟩ := vbox_cells hG.p
   clear hf hold
   go_simp
   exact hK _ _ hG (jnR_refl _ _ _) rfl
  refine AllDueR.cons (due_metR (.inl rfl) fun q w1 hG hold hf K hK => ?_) ?_
  ·have f3 : q.tmps.getD 3 undef = .pointer (some ⟨w.heap.size + 1, 0, none⟩) := hold 3 (by kernel_rfl)
   clear hf hold
   go_simp
   exact hK _ _ hG (jnR_refl _ _ _) rfl
  refine AllDueR.cons (due_metR (.inl rfl) fun q w1 hG hold hf K hK => ?_) ?_
  ·have f23 : q.tmps.getD 23 undef = .pointer (some ⟨w.heap.size + 1, 2, none⟩) := hf 4 23 (by kernel_rfl) rfl
   have q23 := f23
   rw [Array.getD_eq_getD_getElem?] at q23
   obtain ⟨p0, p1, p2, p3, p4⟩ := vbox_cells hG.q
   clear hf hold
   go_simp
   exact hK _ _ hG (jnR_refl _ _ _) rfl
  refine AllDueR.cons (due_metR (.inl rfl) fun q w1 hG hold hf K hK => ?_) ?_
  ·have f22 : q.tmps.getD 22 undef = .slice c.1 c.2.1 c.2.2 := hf 3 22 (by kernel_rfl) rfl
   have q22 := f22
   rw [Array.getD_eq_getD_getElem?] at q22
   have f24 : q.tmps.getD 24 undef = .slice c'.1 c'.2.1 c'.2.2 := hf 5 24 (by kernel_rfl) rfl
   have q24 := f24
   rw [Array.getD_eq_getD_getElem?] at q24
   clear hf hold
   go_simp
   go_at_call 100
   (with_reducible refine (join_rows _ _ V.r U.r _ hG.r.r hG.t.r UV.out UU.out (fit_small LV.out) (fit_small LU.out)).mono ?_)
   rintro e' w' ⟨X, rfl, h1, h2⟩
   exact hK _ _ (hG.step h2) (jnR_of h2) h1
  refine AllDueR.cons (due_metR (.inl rfl) fun q w1 hG hold hf K hK => ?_) ?_
  ·have f6 : q.tmps.getD 6 undef = .slice sf.1 sf.2.1 sf.2.2 := hold 6 (by kernel_rfl)
   clear hf hold
   go_simp
   exact hK _ _ hG (jnR_refl _ _ _) rfl
  refine AllDueR.cons (due_metR (.inl rfl) fun q w1 hG hold hf K hK => ?_) ?_
  ·have r25 : RowsAt w1 (q.tmps.getD 25 undef) (RowSets.joinR V.r U.r) := hf 6 25 (by kernel_rfl) rfl
   obtain ⟨x25, e25⟩ : ∃ x, q.tmps.getD 25 undef = x := ⟨_, rfl⟩
   rw [e25] at r25
   have q25 := e25
   rw [Array.getD_eq_getD_getElem?] at q25
   have f26 : q.tmps.getD 26 undef = .slice sf.1 sf.2.1 sf.2.2 := hf 7 26 (by kernel_rfl) rfl
   have q26 := f26
   rw [Array.getD_eq_getD_getElem?] at q26
   clear hf hold
   go_simp
   go_at_call 65
   (with_reducible refine (gone_any _ _ (RowSets.joinR V.r U.r) (Ros.joinL (V.m, V.f) (U.m, U.f)).2 _ r25 hG.hf (Nat.le_trans (RowSets.joinR_len _ _) (by have := LV.out.r; have := LU.out.r; omega)) (nots_joinR (n := 20000) (m := 20000) (fun r hr => Nat.le_trans (LV.out.n r hr) (by decide)) (fun r hr => Nat.le_trans (LU.out.n r hr) (by decide))) (Nat.le_trans (lenJ_f _ _) (by decide))).mono ?_)
   rintro e' w' ⟨X, rfl, h1, h2⟩
   exact hK _ _ (hG.step h2) (jnR_of h2) h1
  refine AllDueR.cons (due_metR (.inl rfl) fun q w1 hG hold hf K hK => ?_) ?_
  ·have f2 : q.tmps.getD 2 undef = .pointer (some ⟨w.heap.size, 0, none⟩) := hold 2 (by kernel_rfl)
   clear hf hold
   go_simp
   exact hK _ _ hG (jnR_refl _ _ _) rfl
  refine AllDueR.cons (due_metR (.inl rfl) fun q w1 hG hold hf K hK => ?_) ?_
  ·have f28 : q.tmps.getD 28 undef = .pointer (some ⟨w.heap.size, 3, none⟩) := hf 9 28 (by kernel_rfl) rfl
   have q28 := f28
   rw [Array.getD_eq_getD_getElem?] at q28
   obtain ⟨p0, p1, p2, p3, p4⟩ := vbox_cells hG.p
   clear hf hold
   go_simp
   exact hK _ _ hG (jnR_refl _ _ _) rfl
  refine AllDueR.cons (due_metR (.inl rfl) fun q w1 hG hold hf K hK => ?_) ?_
  ·have f3 : q.tmps.getD 3 undef = .pointer (some ⟨w.heap.size + 1, 0, none⟩) := hold 3 (by kernel_rfl)
   clear hf hold
   go_simp
   exact hK _ _ hG (jnR_refl _ _ _) rfl
  refine AllDueR.cons (due_metR (.inl rfl) fun q w1 hG hold hf K hK => ?_) ?_
  ·have f30 : q.tmps.getD 30 undef = .pointer (some ⟨w.heap.size + 1, 3, none⟩) := hf 11 30 (by kernel_rfl) rfl
   have q30 := f30
   rw [Array.getD_eq_getD_getElem?] at q30
   obtain ⟨p0, p1, p2, p3, p4⟩ := vbox_cells hG.q
   clear hf hold
   go_simp
   exact hK _ _ hG (jnR_refl _ _ _) rfl
  refine AllDueR.cons (due_metR (.inl rfl) fun q w1 hG hold hf K hK => ?_) ?_
  ·have f29 : q.tmps.getD 29 undef = .slice d.1 d.2.1 d.2.2 := hf 10 29 (by kernel_rfl) rfl
   have q29 := f29
   rw [Array.getD_eq_getD_getElem?] at q29
   have f31 : q.tmps.getD 31 undef = .slice d'.1 d'.2.1 d'.2.2 := hf 12 31 (by kernel_rfl) rfl
   have q31 := f31
   rw [Array.getD_eq_getD_getElem?] at q31
   clear hf hold
   go_simp
   go_at_call 101
   (with_reducible refine (join_anyCLK _ _ V.c U.c _ hG.r.c hG.t.c (Nat.le_trans LV.out.c (by decide)) (Nat.le_trans LU.out.c (by decide))).mono ?_)
   rintro e' w' ⟨X, rfl, h1, h2⟩
   exact hK _ _ (hG.step h2) (jnR_of h2) h1
  refine AllDueR.cons (due_metR (.inl rfl) fun q w1 hG hold hf K hK => ?_) ?_
  ·have f2 : q.tmps.getD 2 undef = .pointer (some ⟨w.heap.size, 0, none⟩) := hold 2 (by kernel_rfl)
   obtain ⟨p0, p1, p2, p3, p4⟩ := vbox_cells hG.p
   clear hf hold
   go_simp
   exact hK _ _ hG (jnR_refl _ _ _) rfl
  refine AllDueR.cons (due_metR (.inl rfl) fun q w1 hG hold hf K hK => ?_) ?_
  ·have f3 : q.tmps.getD 3 undef = .pointer (some ⟨w.heap.size + 1, 0, none⟩) := hold 3 (by kernel_rfl)
   obtain ⟨p0, p1, p2, p3, p4⟩ := vbox_cells hG.q
   clear hf hold
   go_simp
   exact hK _ _ hG (jnR_refl _ _ _) rfl
  refine AllDueR.cons (due_metR (.inl rfl) fun q w1 hG hold hf K hK => ?_) ?_
  ·have f33 : q.tmps.getD 33 undef = .agg #[.slice a.1 a.2.1 a.2.2, .slice b.1 b.2.1 b.2.2, .slice c.1 c.2.1 c.2.2, .slice d.1 d.2.1 d.2.2, .slice e.1 e.2.1 e.2.2] := hf 14 33 (by kernel_rfl) rfl
   have q33 := f33
   rw [Array.getD_eq_getD_getElem?] at q33
   have f34 : q.tmps.getD 34 undef = .agg #[.slice a'.1 a'.2.1 a'.2.2, .slice b'.1 b'.2.1 b'.2.2, .slice c'.1 c'.2.1 c'.2.2, .slice d'.1 d'.2.1 d'.2.2, .slice e'.1 e'.2.1 e'.2.2] := hf 15 34 (by kernel_rfl) rfl
   have q34 := f34
   rw [Array.getD_eq_getD_getElem?] at q34
   clear hf hold
   go_simp
   go_at_call 102
   (with_reducible refine (seen_any _ _ V U _ hG.r.at_ hG.t.at_ (LV.out.mono (by decide)) (LU.out.mono (by decide))).mono ?_)
   rintro e' w' ⟨X, rfl, h1, h2⟩
   exact hK _ _ (hG.step h2) (jnR_of h2) h1
  refine AllDueR.cons (due_metR (.inl rfl) fun q w1 hG hold hf K hK => ?_) ?_
  ·have f19 : q.tmps.getD 19 undef = .slice sm.1 sm.2.1 sm.2.2 := hf 0 19 (by kernel_rfl) rfl
   have q19 := f19
   rw [Array.getD_eq_getD_getElem?] at q19
   have f20 : q.tmps.getD 20 undef = .slice sf.1 sf.2.1 sf.2.2 := hf 1 20 (by kernel_rfl) rfl
   have q20 := f20
   rw [Array.getD_eq_getD_getElem?] at q20
   have r27 : RowsAt w1 (q.tmps.getD 27 undef) (RowSets.gone (Ros.joinL (V.m, V.f) (U.m, U.f)).2 (RowSets.joinR V.r U.r)) := hf 8 27 (by kernel_rfl) rfl
   obtain ⟨x27, e27⟩ : ∃ x, q.tmps.getD 27 undef = x := ⟨_, rfl⟩
   rw [e27] at r27
   have q27 := e27
   rw [Array.getD_eq_getD_getElem?] at q27
   have r32 : Rcs encT 3 w1 (q.tmps.getD 32 undef) (Clocks.joinC V.c U.c) := hf 13 32 (by kernel_rfl) rfl
   obtain ⟨x32, e32⟩ : ∃ x, q.tmps.getD 32 undef = x := ⟨_, rfl⟩
   rw [e32] at r32
   have q32 := e32
   rw [Array.getD_eq_getD_getElem?] at q32
   have r35 : Ids w1 (q.tmps.getD 35 undef) (seenV V U) := hf 16 35 (by kernel_rfl) rfl
   obtain ⟨x35, e35⟩ : ∃ x, q.tmps.getD 35 undef = x := ⟨_, rfl⟩
   rw [e35] at r35
   have q35 := e35
   rw [Array.getD_eq_getD_getElem?] at q35
   obtain ⟨s27, rfl⟩ := sl_rows r27
   obtain ⟨s32, rfl⟩ := sl_rcs r32
   obtain ⟨s35, rfl⟩ := sl_ids r35
   clear hf hold
   go_simp
   exact hK _ _ hG (jnR_refl _ _ _) (vAt_of hG.hm hG.hf r27 r32 r35)
  refine AllDueR.cons (due_metR (.inl rfl) fun q w1 hG hold hf K hK => ?_) ?_
  ·have f4 : q.tmps.getD 4 undef = .pointer (some ⟨w.heap.size + 1 + 1, 0, none⟩) := hold 4 (by kernel_rfl)
   have r36 : VAt w1 (q.tmps.getD 36 undef) (joinV V U) := hf 17 36 (by kernel_rfl) rfl
   obtain ⟨x36, e36⟩ : ∃ x, q.tmps.getD 36 undef = x := ⟨_, rfl⟩
   rw [e36] at r36
   have q36 := e36
   rw [Array.getD_eq_getD_getElem?] at q36
   obtain ⟨s0, s1, s2, s3, s4, rfl, hr⟩ := r36
   obtain ⟨z0, z1, z2, z3, z4, hz⟩ := hG.z
   obtain ⟨k0, k1, k2, k3, k4⟩ := vbox_cells hz
   obtain ⟨f0, f1, f2, f3, f5⟩ := vbox_free hz
   clear hf hold
   go_simp
   have hk := kp_set hz [.slice s0.1 s0.2.1 s0.2.2, .slice s1.1 s1.2.1 s1.2.2, .slice s2.1 s2.2.1 s2.2.2, .slice s3.1 s3.2.1 s3.2.2, .slice s4.1 s4.2.1 s4.2.2]
   have hv : HoldsV (w1.setCells (w.heap.size + 1 + 1) 0 [.slice s0.1 s0.2.1 s0.2.2, .slice s1.1 s1.2.1 s1.2.2, .slice s2.1 s2.2.1 s2.2.2, .slice s3.1 s3.2.1 s3.2.2, .slice s4.1 s4.2.1 s4.2.2]) (w.heap.size + 1 + 1) (joinV V U) := ⟨s0, s1, s2, s3, s4, vbox_set hz s0 s1 s2 s3 s4, hr.kp hk⟩
   exact hK undef _ (hG.put hz) ⟨hk, fun _ => hv⟩ hv
  exact AllDueR.nil
 ·intro ac w7 hG hd hs hold hf hdone
  obtain ⟨_, hJ⟩ := hdone 18 (by decide) rfl
  have hJ : HoldsV w7 (w.heap.size + 1 + 1) (joinV V U) := hJ
  have k4 : ac.tmps.getD 4 undef = .pointer (some ⟨w.heap.size + 1 + 1, 0, none⟩) := hold 4 (by kernel_rfl)
  have k4' := k4
  rw [Array.getD_eq_getD_getElem?] at k4'
  obtain ⟨s0, s1, s2, s3, s4, hb, hr⟩ := hJ
  obtain ⟨c0, c1, c2, c3, c4⟩ := vbox_cells hb
  clear hf hold hdone G1
  go_wp2_with fail
  refine bodyPost_ret (v := .agg #[.slice s0.1 s0.2.1 s0.2.2, .slice s1.1 s1.2.1 s1.2.2, .slice s2.1 s2.2.1 s2.2.2, .slice s3.1 s3.2.1 s3.2.2, .slice s4.1 s4.2.1 s4.2.2]) (by simp [results, Tryz.results63, go_sem, k4', c0, c1, c2, c3, c4]) hd ?_
  exact ⟨_, rfl, hr.at_, hG.below⟩
end Go.Proofs.YtgphiggbajbmhaaGreatDoor
namespace Go.Proofs.YtgphiggbajbmhaaGreatDoor
open Go Go.RowKit
theorem seen_len (V U : Vw) : (seenV V U).length ≤ V.s.length + U.s.length := by
 unfold seenV
 split
 ·exact join_lenROW _ _
 ·split
  ·omega
  ·split
   ·omega
   ·simp
theorem fit_join {n : Nat} {V U : Vw} (h : FitVIE n V) (k : FitVIE n U) (hn : 50 ≤ n) : FitVIE (n + n) (joinV V U) where
 m := Nat.le_trans (lenJ_m _ _) (by omega)
 f := Nat.le_trans (lenJ_f _ _) (by omega)
 r := Nat.le_trans (gone_len _ _) (Nat.le_trans (RowSets.joinR_len _ _) (by have := h.r; have := k.r; omega))
 c := Nat.le_trans (Clocks.join_len _ _) (by have := h.c; have := k.c; omega)
 s := Nat.le_trans (seen_len _ _) (by have := h.s; have := k.s; omega)
 n := gone_nots_len (nots_joinR h.n k.n)
structure TwG (w : World) (g g' : Nat) (a b c d e a' b' c' d' e' : SL) (V U : Vw) (W : World) : Prop where
 p : VBox W g a b c d e
 q : VBox W g' a' b' c' d' e'
 r : RV W a b c d e V
 t : RV W a' b' c' d' e' U
 below : Below w.heap.size w W
theorem TwG.step {w : World} {g g' : Nat} {a b c d e a' b' c' d' e' : SL} {V U : Vw} {W W' : World} (h : TwG w g g' a b c d e a' b' c' d' e' V U W) (hb : Below W.heap.size W W') : TwG w g g' a b c d e a' b' c' d' e' V U W' := ⟨vbox_below h.p hb, vbox_below h.q hb, h.r.below hb, h.t.below hb, below_after h.below hb (Nat.le_refl _)⟩
end Go.Proofs.YtgphiggbajbmhaaGreatDoor
