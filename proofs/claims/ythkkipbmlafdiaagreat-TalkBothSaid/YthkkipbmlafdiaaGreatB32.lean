/-
  Contracts and plain facts.
-/
import Derived.Test.YthkkipbmlafdiaaGreatOy
import Derived.Test.YthkkipbmlafdiaaGreatB12
import Derived.Test.YthkkipbmlafdiaaGreatB16
import Derived.Test.YthkkipbmlafdiaaGreatB24
import Derived.Test.YthkkipbmlafdiaaGreatB31
set_option maxRecDepth 20000
namespace Go.Proofs.YthkkipbmlafdiaaGreat
section
open Go Go.RowKit
section
variable {P : Program} {ops : Array Oper} {Q : Exit → Act → World → Prop} {R : Value → World → World → Prop} {tk : Nat → Nat} {tgt : Nat → Tmp} {fr : Nat → Bool} {F : Nat → Value → World → Prop} {G : World → Prop} {a0 : Act}
def said (tgt : Nat → Tmp) (i : Nat) (o : Oper) (a : Act) (v : Value) : Value := match o.dst with
 | some _ => v
 | none => a.tmps.getD (tgt i) undef
def by_ (tgt : Nat → Tmp) (i : Nat) (o : Oper) (a : Act) : Value := match o.dst with
 | some _ => undef
 | none => a.tmps.getD (tgt i) undef
def OldP (v : Value) (w : World) : Prop := ∃ X, v = .pointer (some ⟨X, 0, none⟩) ∧ X < w.heap.size
def NewP (v : Value) (w : World) : Prop := ∃ X, v = .pointer (some ⟨X, 0, none⟩) ∧ w.heap.size ≤ X
theorem new_old {v u : Value} {w : World} (h : NewP v w) (k : OldP u w) : v ≠ u := by
 obtain ⟨X, rfl, hX⟩ := h;obtain ⟨Y, rfl, hY⟩ := k;intro e;injection e with e
 injection e with e
 injection e with e
 omega
structure StoodT (tgt : Nat → Tmp) (fr : Nat → Bool) (F : Nat → Value → World → Prop) (G : World → Prop) (ops : Array Oper) (a0 : Act) (listed : Array Bool) (a : Act) (w : World) : Prop where
 held : G w
 defers : a.defers = a0.defers
 size : a.tmps.size = a0.tmps.size
 old : ∀ s : Tmp, (∀ (i : Nat) (o : Oper), ops[i]? = some o → o.dst ≠ some s) → a.tmps.getD s undef = a0.tmps.getD s undef
 new : ∀ (i : Nat) (o : Oper) (s : Tmp), listed.getD i false = true → ops[i]? = some o → o.dst = some s → F i (a.tmps.getD s undef) w
 done : ∀ (i : Nat) (o : Oper), listed.getD i false = true → ops[i]? = some o → o.dst = none → F i (a.tmps.getD (tgt i) undef) w
 pred : ∀ (i : Nat) (o : Oper), listed.getD i false = true → ops[i]? = some o → o.dst = none → ∀ (j : Nat) (o' : Oper), ops[j]? = some o' → o'.dst = some (tgt i) → listed.getD j false = true
 apart : ∀ (i j : Nat) (o o' : Oper) (s s' : Tmp), i ≠ j → fr i = true → fr j = true → listed.getD i false = true → listed.getD j false = true → ops[i]? = some o → ops[j]? = some o' → o.dst = some s → o'.dst = some s' → a.tmps.getD s undef ≠ a.tmps.getD s' undef
def OwesT (P : Program) (ops : Array Oper) (Q : Exit → Act → World → Prop) (R : Value → World → World → Prop) (tgt : Nat → Tmp) (fr : Nat → Bool) (F : Nat → Value → World → Prop) (G : World → Prop) (a0 : Act) (i : Nat) (o : Oper) : Prop :=
 ∀ a w, G w → (∀ s : Tmp, (∀ (i : Nat) (o : Oper), ops[i]? = some o → o.dst ≠ some s) → a.tmps.getD s undef = a0.tmps.getD s undef) →
  (∀ (j : Nat) (o' : Oper) (s : Tmp), (o.after.any fun e => e.on == j && Region.binds .any e) = true → ops[j]? = some o' → o'.dst = some s → F j (a.tmps.getD s undef) w) →
  (∀ (j k : Nat) (o' o'' : Oper) (s s' : Tmp), j ≠ k → fr j = true → fr k = true → (o.after.any fun e => e.on == j && Region.binds .any e) = true → (o.after.any fun e => e.on == k && Region.binds .any e) = true → ops[j]? = some o' → ops[k]? = some o'' → o'.dst = some s → o''.dst = some s' → a.tmps.getD s undef ≠ a.tmps.getD s' undef) →
  ∀ K : Act → World → Prop, (∀ v w', G w' → R (by_ tgt i o a) w w' → F i (said tgt i o a v) w' → (fr i = true → NewP v w) → K (a.put o.dst v) w') →
  if Region.wanted o (yielded ops a.tmps) = true then Oper.wp P o a w K Q else K (a.put o.dst undef) w
theorem wpAny_factsT (hasc : ∀ (i : Nat) (o : Oper), ops[i]? = some o → ∀ e ∈ o.after, e.on < i) (hdst : ∀ (i j : Nat) (o o' : Oper) (s : Tmp), ops[i]? = some o → ops[j]? = some o' → o.dst = some s → o'.dst = some s → i = j) (hin : ∀ (i : Nat) (o : Oper) (s : Tmp), ops[i]? = some o → o.dst = some s → s < a0.tmps.size)
  (htgt : ∀ (i j : Nat) (o o' : Oper), ops[i]? = some o → o.dst = none → ops[j]? = some o' → o'.dst = some (tgt i) → (o.after.any fun e => e.on == j && Region.binds .any e) = true)
  (hfr : ∀ i v w, fr i = true → F i v w → OldP v w)
  (htk : ∀ (i : Nat) (o : Oper), ops[i]? = some o → o.dst = none → fr (tk i) = true ∧ (∃ o', ops[tk i]? = some o' ∧ o'.dst = some (tgt i)) ∧ (o.after.any fun e => e.on == tk i && Region.binds .any e) = true)
  (hinj : ∀ (i j : Nat) (o o' : Oper), i ≠ j → ops[i]? = some o → o.dst = none → ops[j]? = some o' → o'.dst = none → tk i ≠ tk j)
  (mono : ∀ i p v w w', F i v w → R p w w' → (∀ o, ops[i]? = some o → o.dst = none → v ≠ p) → F i v w')
  (hnu : ∀ i v w, F i v w → (∀ o, ops[i]? = some o → o.dst = none → v ≠ undef))
  (step : ∀ (i : Nat) (o : Oper), ops[i]? = some o → OwesT P ops Q R tgt fr F G a0 i o)
  (fin : ∀ a w, StoodT tgt fr F G ops a0 (Array.replicate ops.size true) a w → Q .normal a w) :
  ∀ (fuel : Nat) (listed : Array Bool) (a : Act) (w : World), listed.size = ops.size → listed.toList.countP (fun b => !b) ≤ fuel → StoodT tgt fr F G ops a0 listed a w → wpAny P .any ops Q fuel listed a w := by
 have last : ∀ (listed : Array Bool) (a : Act) (w : World), listed.size = ops.size → StoodT tgt fr F G ops a0 listed a w → Region.ready .any ops listed = [] → Q .normal a w := fun listed a w hs h hr =>
  fin a w ⟨h.held, h.defers, h.size, h.old, fun i o s _ ho hd => h.new i o s (all_listed hs hasc hr i (by
   rcases Nat.lt_or_ge i ops.size with h1 | h1
   ·exact h1
   ·rw [Array.getElem?_eq_none h1] at ho; cases ho)) ho hd, fun i o _ ho hd => h.done i o (all_listed hs hasc hr i (by
   rcases Nat.lt_or_ge i ops.size with h1 | h1
   ·exact h1
   ·rw [Array.getElem?_eq_none h1] at ho; cases ho)) ho hd, fun i o _ ho hd j o' ho' hd' => (by
   rcases Nat.lt_or_ge j ops.size with h1 | h1
   ·simp [Array.getD_eq_getD_getElem?, h1]
   ·rw [Array.getElem?_eq_none h1] at ho'; cases ho'), fun i j o o' s s' hij fi fj _ _ hoi hoj hdi hdj => h.apart i j o o' s s' hij fi fj (all_listed hs hasc hr i (by
   rcases Nat.lt_or_ge i ops.size with h1 | h1
   ·exact h1
   ·rw [Array.getElem?_eq_none h1] at hoi; cases hoi)) (all_listed hs hasc hr j (by
   rcases Nat.lt_or_ge j ops.size with h1 | h1
   ·exact h1
   ·rw [Array.getElem?_eq_none h1] at hoj; cases hoj)) hoi hoj hdi hdj⟩
 intro fuel;induction fuel with
 | zero =>
  intro listed a w hs hc h
  have hr : Region.ready .any ops listed = [] := by
   refine List.filter_eq_nil_iff.2 fun i hi => ?_
   have hi2 : i < listed.toList.length := by rw [Array.length_toList, hs]; exact List.mem_range.1 hi
   have h0 := List.countP_eq_zero.1 (Nat.le_zero.1 hc) listed.toList[i] (List.getElem_mem hi2)
   have h1 : listed.getD i true = true := by
    rw [Array.getD_eq_getD_getElem?, Array.getElem?_eq_getElem (by simpa using hi2)]
    simpa using h0
   rw [h1];simp
  exact ⟨hr, last listed a w hs h hr⟩
 | succ fuel ih =>
  intro listed a w hs hc h;refine ⟨last listed a w hs h, fun i hi => ?_⟩
  obtain ⟨hi1, hi2⟩ := List.mem_filter.1 hi;have hi3 : i < ops.size := List.mem_range.1 hi1
  rw [Bool.and_eq_true, Bool.not_eq_true', Array.getElem?_eq_getElem hi3, Option.map_some, Option.getD_some] at hi2;obtain ⟨hl, hall⟩ := hi2;have ho : ops[i]? = some ops[i] := Array.getElem?_eq_getElem hi3
  have hil : i < listed.toList.length := by rw [Array.length_toList, hs]; exact hi3
  have hlf : listed.toList[i] = false := by
   rw [Array.getD_eq_getD_getElem?, Array.getElem?_eq_getElem (by omega)] at hl
   simpa using hl
  have hcnt : (listed.setIfInBounds i true).toList.countP (fun b => !b) ≤ fuel := by
   rw [Array.toList_setIfInBounds, List.countP_set hil, hlf];simp only [Bool.not_false, if_true, Bool.not_true, Bool.false_eq_true, if_false];omega
  have key : ∀ v w', G w' → R (by_ tgt i ops[i] a) w w' → F i (said tgt i ops[i] a v) w' → (fr i = true → NewP v w) → wpAny P .any ops Q fuel (listed.setIfInBounds i true) (a.put ops[i].dst v) w' := by
   intro v w' hG hb hF hnew;refine ih _ _ _ (by simpa using hs) hcnt ⟨hG, (put_defers _ _ _).trans h.defers, (put_size _ _ _).trans h.size, fun s hn => (put_getD_other _ _ _ _ (hn i _ ho)).trans (h.old s hn), fun j o s hj hoj hd => ?_, fun j o hj hoj hd => ?_, fun j o hj hoj hd k o' hk hdk => ?_, fun j k o o' s s' hjk fj fk lj lk hoj hok hdj hdk => ?_⟩
   ·by_cases e : j = i
    ·subst e
     obtain rfl := Option.some.inj (ho.symm.trans hoj);unfold said at hF;rw [hd] at hF;rw [hd, put_getD_self _ _ _ (by rw [h.size]; exact hin _ _ _ hoj hd)]
     exact hF
    ·rw [put_getD_other _ _ _ _ (fun e2 => e (hdst j i o ops[i] s hoj ho hd e2))]
     refine mono _ _ _ _ _ (h.new j o s ?_ hoj hd) hb (fun o2 ho2 hd2 => by obtain rfl := Option.some.inj (hoj.symm.trans ho2); rw [hd] at hd2; cases hd2)
     rw [Array.getD_eq_getD_getElem?, Array.getElem?_setIfInBounds_ne (fun e2 => e e2.symm)] at hj
     rw [gd_];exact hj
   ·by_cases e : j = i
    ·subst e
     obtain rfl := Option.some.inj (ho.symm.trans hoj);unfold said at hF;rw [hd] at hF;rw [hd];exact hF
    ·have hj' : listed.getD j false = true := by
      rw [Array.getD_eq_getD_getElem?, Array.getElem?_setIfInBounds_ne (fun e2 => e e2.symm)] at hj
      rw [gd_];exact hj
     rw [put_getD_other _ _ _ _ (fun e2 => by
      have := h.pred j o hj' hoj hd i ops[i] ho e2
      rw [gd_] at this;rw [gd_] at hl;rw [Array.getElem?_eq_getElem (by omega)] at this hl
      simp at this hl
      rw [hl] at this;cases this)]
     refine mono _ _ _ _ _ (h.done j o hj' hoj hd) hb fun o2 ho2 hd2 => ?_
     rcases hdi : ops[i].dst with _ | si
     ·obtain ⟨f1, ⟨oi, g1, g2⟩, w1⟩ := htk i ops[i] ho hdi
      obtain ⟨f2, ⟨oj, g3, g4⟩, w2⟩ := htk j o hoj hd;unfold by_;rw [hdi]
      have lm : listed.getD (tk i) false = true := by
       obtain ⟨e, he, h2⟩ := Array.any_eq_true'.1 w1;rw [Bool.and_eq_true, beq_iff_eq] at h2;have h3 := (Array.all_eq_true_iff_forall_mem.1 hall) e he;rw [h2.2, h2.1] at h3;simpa using h3
      exact h.apart (tk j) (tk i) oj oi _ _ (fun e3 => hinj j i o ops[i] e hoj hd ho hdi e3) f2 f1 (h.pred j o hj' hoj hd _ _ g3 g4) lm g3 g1 g4 g2
     ·unfold by_
      rw [hdi];exact hnu _ _ _ (h.done j o hj' hoj hd) o hoj hd
   ·have hset : ∀ m, listed.getD m false = true → (listed.setIfInBounds i true).getD m false = true := fun m hm => by
     by_cases e : m = i
     ·subst e
      simp [Array.getD_eq_getD_getElem?, show m < listed.size by omega]
     ·rw [Array.getD_eq_getD_getElem?, Array.getElem?_setIfInBounds_ne (fun e2 => e e2.symm), ← Array.getD_eq_getD_getElem?]
      exact hm
    by_cases e : j = i
    ·subst e
     obtain rfl := Option.some.inj (ho.symm.trans hoj);have hw := htgt j k _ o' ho hd hk hdk;refine hset k ?_
     obtain ⟨e, he, h2⟩ := Array.any_eq_true'.1 hw;rw [Bool.and_eq_true, beq_iff_eq] at h2;have h3 := (Array.all_eq_true_iff_forall_mem.1 hall) e he;rw [h2.2, h2.1] at h3;simpa using h3
    ·have hj' : listed.getD j false = true := by
      rw [Array.getD_eq_getD_getElem?, Array.getElem?_setIfInBounds_ne (fun e2 => e e2.symm)] at hj
      rw [gd_];exact hj
     exact hset k (h.pred j o hj' hoj hd k o' hk hdk)
   ·have un : ∀ m, m ≠ i → (listed.setIfInBounds i true).getD m false = true → listed.getD m false = true := fun m e hm => by
     rw [Array.getD_eq_getD_getElem?, Array.getElem?_setIfInBounds_ne (fun e2 => e e2.symm)] at hm
     rw [gd_];exact hm
    have self : ∀ (o : Oper) (s : Tmp), ops[i]? = some o → o.dst = some s → (a.put ops[i].dst v).tmps.getD s undef = v := fun o s ho2 hd => by
     obtain rfl := Option.some.inj (ho.symm.trans ho2);rw [hd, put_getD_self _ _ _ (by rw [h.size]; exact hin _ _ _ ho2 hd)]
    have other : ∀ (m : Nat) (o : Oper) (s : Tmp), m ≠ i → ops[m]? = some o → o.dst = some s → (a.put ops[i].dst v).tmps.getD s undef = a.tmps.getD s undef := fun m o s e ho2 hd => put_getD_other _ _ _ _ (fun e2 => e (hdst m i o ops[i] s ho2 ho hd e2))
    by_cases e : j = i
    ·subst e
     rw [self o s hoj hdj, other k o' s' (fun e => hjk e.symm) hok hdk]
     exact new_old (hnew fj) (hfr k _ _ fk (h.new k o' s' (un k (fun e => hjk e.symm) lk) hok hdk))
    ·by_cases e2 : k = i
     ·subst e2
      rw [self o' s' hok hdk, other j o s e hoj hdj];exact (new_old (hnew fk) (hfr j _ _ fj (h.new j o s (un j e lj) hoj hdj))).symm
     ·rw [other j o s e hoj hdj, other k o' s' e2 hok hdk]
      exact h.apart j k o o' s s' hjk fj fk (un j e lj) (un k e2 lk) hoj hok hdj hdk
  have hst := step i ops[i] ho a w h.held h.old (fun j o' s hj hoj hd => h.new j o' s (by
   obtain ⟨e, he, h2⟩ := Array.any_eq_true'.1 hj;rw [Bool.and_eq_true, beq_iff_eq] at h2;have h3 := (Array.all_eq_true_iff_forall_mem.1 hall) e he;rw [h2.2, h2.1] at h3
   simpa using h3) hoj hd) (fun j k o' o'' s s' hjk fj fk wj wk hoj hok hdj hdk => h.apart j k o' o'' s s' hjk fj fk (by
   obtain ⟨e, he, h2⟩ := Array.any_eq_true'.1 wj;rw [Bool.and_eq_true, beq_iff_eq] at h2;have h3 := (Array.all_eq_true_iff_forall_mem.1 hall) e he;rw [h2.2, h2.1] at h3
   simpa using h3) (by
   obtain ⟨e, he, h2⟩ := Array.any_eq_true'.1 wk;rw [Bool.and_eq_true, beq_iff_eq] at h2;have h3 := (Array.all_eq_true_iff_forall_mem.1 hall) e he;rw [h2.2, h2.1] at h3;simpa using h3) hoj hok hdj hdk) (wpAny P .any ops Q fuel (listed.setIfInBounds i true)) key
  unfold wpOp;rw [ho];show if Region.wanted ops[i] (yielded ops a.tmps) = true then _ else _
  split
  ·rename_i hw; rw [if_pos hw] at hst; exact .inl hst
  ·rename_i hw; rw [if_neg hw] at hst; exact hst
theorem wp_region_factsT {id : Nat} {w0 : World} (hm : P.follows .mixedOrders = true) (F : Nat → Value → World → Prop) (G : World → Prop)
  (hasc : (List.range ops.size).all (fun i => ((ops[i]?).map fun o => o.after.all fun e => decide (e.on < i)).getD true) = true)
  (hdst : (List.range ops.size).all (fun i => (List.range ops.size).all fun j => decide (i = j) || ((ops[i]?).bind (·.dst)).isNone || ((ops[i]?).bind (·.dst)) != ((ops[j]?).bind (·.dst))) = true)
  (hin : (List.range ops.size).all (fun i => (((ops[i]?).bind (·.dst)).map fun s => decide (s < a0.tmps.size)).getD true) = true)
  (htgt : ∀ (i j : Nat) (o o' : Oper), ops[i]? = some o → o.dst = none → ops[j]? = some o' → o'.dst = some (tgt i) → (o.after.any fun e => e.on == j && Region.binds .any e) = true)
  (hfr : ∀ i v w, fr i = true → F i v w → OldP v w)
  (htk : ∀ (i : Nat) (o : Oper), ops[i]? = some o → o.dst = none → fr (tk i) = true ∧ (∃ o', ops[tk i]? = some o' ∧ o'.dst = some (tgt i)) ∧ (o.after.any fun e => e.on == tk i && Region.binds .any e) = true)
  (hinj : ∀ (i j : Nat) (o o' : Oper), i ≠ j → ops[i]? = some o → o.dst = none → ops[j]? = some o' → o'.dst = none → tk i ≠ tk j)
  (mono : ∀ i p v w w', F i v w → R p w w' → (∀ o, ops[i]? = some o → o.dst = none → v ≠ p) → F i v w')
  (hnu : ∀ i v w, F i v w → (∀ o, ops[i]? = some o → o.dst = none → v ≠ undef))
  (hG : G w0.drew)
  (step : ∀ (i : Nat) (o : Oper), ops[i]? = some o → OwesT P ops Q R tgt fr F G a0 i o)
  (fin : ∀ a w, G w → a.defers = a0.defers → a.tmps.size = a0.tmps.size → (∀ s : Tmp, (∀ (i : Nat) (o : Oper), ops[i]? = some o → o.dst ≠ some s) → a.tmps.getD s undef = a0.tmps.getD s undef) → (∀ (i : Nat) (o : Oper) (s : Tmp), ops[i]? = some o → o.dst = some s → F i (a.tmps.getD s undef) w) → (∀ (i : Nat) (o : Oper), ops[i]? = some o → o.dst = none → F i (a.tmps.getD (tgt i) undef) w) → (∀ (i j : Nat) (o o' : Oper) (s s' : Tmp), i ≠ j → fr i = true → fr j = true → ops[i]? = some o → ops[j]? = some o' → o.dst = some s → o'.dst = some s' → a.tmps.getD s undef ≠ a.tmps.getD s' undef) → Q .normal a w) :
  (Code.region id ops true).wp P Q a0 w0 := by
 have lt : ∀ {i : Nat} {o : Oper}, ops[i]? = some o → i < ops.size := fun {i o} ho => by
  rcases Nat.lt_or_ge i ops.size with h1 | h1
  ·exact h1
  ·rw [Array.getElem?_eq_none h1] at ho; cases ho
 refine wp_region_any hm (wpAny_factsT (F := F) (G := G) (a0 := a0) ?_ ?_ ?_ htgt hfr htk hinj mono hnu step (fun a w h => fin a w h.held h.defers h.size h.old (fun i o s ho hd => h.new i o s (by simp [lt ho]) ho hd) (fun i o ho hd => h.done i o (by simp [lt ho]) ho hd) fun i j o o' s s' hij fi fj hoi hoj hdi hdj => h.apart i j o o' s s' hij fi fj (by simp [lt hoi]) (by simp [lt hoj]) hoi hoj hdi hdj) _ _ _ _ (by simp) (Nat.le_trans List.countP_le_length (by simp)) ⟨hG, rfl, rfl, fun _ _ => rfl, fun i o s hi ho _ => ?_, fun i o hi ho _ => ?_, fun i o hi ho _ => ?_, fun i j o o' s s' hij fi fj li lj hoi hoj hdi hdj => ?_⟩)
 ·intro i o ho e he
  have := List.all_eq_true.1 hasc i (List.mem_range.2 (lt ho))
  rw [ho] at this;simpa using (Array.all_eq_true_iff_forall_mem.1 this) e he
 ·intro i j o o' s ho ho' hd hd'
  have := List.all_eq_true.1 (List.all_eq_true.1 hdst i (List.mem_range.2 (lt ho))) j (List.mem_range.2 (lt ho'))
  rw [ho, ho'] at this;simp [hd, hd'] at this
  exact this
 ·intro i o s ho hd
  have := List.all_eq_true.1 hin i (List.mem_range.2 (lt ho))
  rw [ho] at this;simpa [hd] using this
 ·rw [gd_] at hi
  simp [lt ho] at hi
 ·rw [gd_] at hi
  simp [lt ho] at hi
 ·rw [gd_] at hi
  simp [lt ho] at hi
 ·rw [gd_] at li
  simp [lt hoi] at li
def DueT (P : Program) (ds : List (Option Tmp)) (Q : Exit → Act → World → Prop) (R : Value → World → World → Prop) (tgt : Nat → Tmp) (fr : Nat → Bool) (F : Nat → Value → World → Prop) (G : World → Prop) (a0 : Act) (i : Nat) (o : Oper) : Prop :=
 ∀ a w, G w → (∀ s : Tmp, ds.contains (some s) = false → a.tmps.getD s undef = a0.tmps.getD s undef) →
  (∀ (j : Nat) (s : Tmp), (o.after.any fun e => e.on == j && Region.binds .any e) = true → ds.getD j none = some s → F j (a.tmps.getD s undef) w) →
  (∀ (j k : Nat) (s s' : Tmp), j ≠ k → fr j = true → fr k = true → (o.after.any fun e => e.on == j && Region.binds .any e) = true → (o.after.any fun e => e.on == k && Region.binds .any e) = true → ds.getD j none = some s → ds.getD k none = some s' → a.tmps.getD s undef ≠ a.tmps.getD s' undef) →
  ∀ K : Act → World → Prop, (∀ v w', G w' → R (by_ tgt i o a) w w' → F i (said tgt i o a v) w' → (fr i = true → NewP v w) → K (a.put o.dst v) w') →
  if met ds o a = true then Oper.wp P o a w K Q else K (a.put o.dst undef) w
def AllDueT (P : Program) (ds : List (Option Tmp)) (Q : Exit → Act → World → Prop) (R : Value → World → World → Prop) (tgt : Nat → Tmp) (fr : Nat → Bool) (F : Nat → Value → World → Prop) (G : World → Prop) (a0 : Act) : Nat → List Oper → Prop
 | _, [] => True
 | k, o :: r => DueT P ds Q R tgt fr F G a0 k o ∧ AllDueT P ds Q R tgt fr F G a0 (k + 1) r
theorem AllDueT.nil {ds : List (Option Tmp)} {k : Nat} : AllDueT P ds Q R tgt fr F G a0 k [] := trivial
theorem AllDueT.cons {ds : List (Option Tmp)} {k : Nat} {o : Oper} {r : List Oper} (h : DueT P ds Q R tgt fr F G a0 k o) (hr : AllDueT P ds Q R tgt fr F G a0 (k + 1) r) : AllDueT P ds Q R tgt fr F G a0 k (o :: r) := ⟨h, hr⟩
theorem AllDueT.at_ {ds : List (Option Tmp)} : ∀ {l : List Oper} {k i : Nat} {o : Oper}, AllDueT P ds Q R tgt fr F G a0 k l → l[i]? = some o → DueT P ds Q R tgt fr F G a0 (k + i) o
 | [], _, _, _, _, h => by simp at h
 | o' :: r, k, 0, o, h, ho => by
  simp at ho
  subst ho;exact h.1
 | o' :: r, k, i + 1, o, h, ho => by
  have := AllDueT.at_ (i := i) h.2 (by simpa using ho)
  rwa [show k + 1 + i = k + (i + 1) by omega] at this
theorem wp_region_dueT {l : List Oper} {id : Nat} {w0 : World} (hm : P.follows .mixedOrders = true) (ds : List (Option Tmp)) (F : Nat → Value → World → Prop) (G : World → Prop) (hds : ds = l.map (·.dst))
  (hasc : (List.range l.toArray.size).all (fun i => ((l.toArray[i]?).map fun o => o.after.all fun e => decide (e.on < i)).getD true) = true)
  (hdst : (List.range l.toArray.size).all (fun i => (List.range l.toArray.size).all fun j => decide (i = j) || ((l.toArray[i]?).bind (·.dst)).isNone || ((l.toArray[i]?).bind (·.dst)) != ((l.toArray[j]?).bind (·.dst))) = true)
  (hin : (List.range l.toArray.size).all (fun i => (((l.toArray[i]?).bind (·.dst)).map fun s => decide (s < a0.tmps.size)).getD true) = true)
  (ht : (List.range l.toArray.size).all (fun i => (List.range l.toArray.size).all fun j => (((l.toArray[i]?).map fun o => o.dst.isSome || ((l.toArray[j]?).bind (·.dst)) != some (tgt i) || o.after.any fun e => e.on == j && Region.binds .any e)).getD true) = true)
  (hfr : ∀ i v w, fr i = true → F i v w → OldP v w)
  (htk : (List.range l.toArray.size).all (fun i => ((l.toArray[i]?).map fun o => o.dst.isSome || (fr (tk i) && ((l.toArray[tk i]?).bind (·.dst)) == some (tgt i) && o.after.any fun e => e.on == tk i && Region.binds .any e)).getD true) = true)
  (hinj : (List.range l.toArray.size).all (fun i => (List.range l.toArray.size).all fun j => decide (i = j) || ((l.toArray[i]?).bind (·.dst)).isSome || ((l.toArray[j]?).bind (·.dst)).isSome || decide (tk i ≠ tk j)) = true)
  (mono : ∀ i p v w w', F i v w → R p w w' → (i < ds.length → ds.getD i none = none → v ≠ p) → F i v w')
  (hnu : ∀ i v w, F i v w → i < ds.length → ds.getD i none = none → v ≠ undef)
  (hG : G w0.drew)
  (step : AllDueT P ds Q R tgt fr F G a0 0 l)
  (fin : ∀ a w, G w → a.defers = a0.defers → a.tmps.size = a0.tmps.size → (∀ s : Tmp, ds.contains (some s) = false → a.tmps.getD s undef = a0.tmps.getD s undef) → (∀ (i : Nat) (s : Tmp), ds.getD i none = some s → F i (a.tmps.getD s undef) w) → (∀ i, i < ds.length → ds.getD i none = none → F i (a.tmps.getD (tgt i) undef) w) → (∀ (i j : Nat) (s s' : Tmp), i ≠ j → fr i = true → fr j = true → ds.getD i none = some s → ds.getD j none = some s' → a.tmps.getD s undef ≠ a.tmps.getD s' undef) → Q .normal a w) :
  (Code.region id l.toArray true).wp P Q a0 w0 := by
 have atd : ∀ {j : Nat} {o : Oper}, l.toArray[j]? = some o → ds.getD j none = o.dst := fun {j o} h => by
  rw [List.getElem?_toArray] at h;rw [hds, List.getD_eq_getElem?_getD, List.getElem?_map, h];rfl
 have atn : ∀ {j : Nat} {s : Tmp}, ds.getD j none = some s → ∃ o, l.toArray[j]? = some o ∧ o.dst = some s := fun {j s} hs => by
  rcases h : l.toArray[j]? with _ | o'
  ·rw [hds, List.getD_eq_getElem?_getD, List.getElem?_map] at hs
   rw [List.getElem?_toArray] at h;rw [h] at hs;cases hs
  ·exact ⟨o', rfl, by rw [← atd h]; exact hs⟩
 have old' : ∀ {a : Act}, (∀ s : Tmp, (∀ (i : Nat) (o : Oper), l.toArray[i]? = some o → o.dst ≠ some s) → a.tmps.getD s undef = a0.tmps.getD s undef) → ∀ s : Tmp, ds.contains (some s) = false → a.tmps.getD s undef = a0.tmps.getD s undef := fun {a} h s hs => h s fun i o ho hd => by
  have : some s ∈ ds := by
   rw [hds];exact List.mem_map.2 ⟨o, List.mem_of_getElem? (by rw [← List.getElem?_toArray]; exact ho), hd⟩
  rw [List.contains_iff_mem.2 this] at hs;cases hs
 have lt0 : ∀ {i : Nat} {o : Oper}, l.toArray[i]? = some o → i < l.toArray.size := fun {i o} ho => by
  rcases Nat.lt_or_ge i l.toArray.size with h1 | h1
  ·exact h1
  ·rw [Array.getElem?_eq_none h1] at ho; cases ho
 have htk' : ∀ (i : Nat) (o : Oper), l.toArray[i]? = some o → o.dst = none → fr (tk i) = true ∧ (∃ o', l.toArray[tk i]? = some o' ∧ o'.dst = some (tgt i)) ∧ (o.after.any fun e => e.on == tk i && Region.binds .any e) = true := fun i o ho hd => by
  have := List.all_eq_true.1 htk i (List.mem_range.2 (lt0 ho))
  rw [ho, Option.map_some, Option.getD_some, hd, Option.isSome_none, Bool.false_or, Bool.and_eq_true, Bool.and_eq_true, beq_iff_eq] at this;obtain ⟨⟨h1, h2⟩, h3⟩ := this;rcases h : l.toArray[tk i]? with _ | o'
  ·rw [h] at h2; cases h2
  ·exact ⟨h1, ⟨o', rfl, by rw [h] at h2; exact h2⟩, h3⟩
 have hinj' : ∀ (i j : Nat) (o o' : Oper), i ≠ j → l.toArray[i]? = some o → o.dst = none → l.toArray[j]? = some o' → o'.dst = none → tk i ≠ tk j := fun i j o o' hij ho hd ho' hd' => by
  have := List.all_eq_true.1 (List.all_eq_true.1 hinj i (List.mem_range.2 (lt0 ho))) j (List.mem_range.2 (lt0 ho'))
  rw [ho, ho'] at this;simpa [hd, hd', hij] using this
 have htg : ∀ (i j : Nat) (o o' : Oper), l.toArray[i]? = some o → o.dst = none → l.toArray[j]? = some o' → o'.dst = some (tgt i) → (o.after.any fun e => e.on == j && Region.binds .any e) = true := fun i j o o' ho hd ho' hd' => by
  have lt : ∀ {i : Nat} {o : Oper}, l.toArray[i]? = some o → i < l.toArray.size := fun {i o} ho => by
   rcases Nat.lt_or_ge i l.toArray.size with h1 | h1
   ·exact h1
   ·rw [Array.getElem?_eq_none h1] at ho; cases ho
  have := List.all_eq_true.1 (List.all_eq_true.1 ht i (List.mem_range.2 (lt ho))) j (List.mem_range.2 (lt ho'))
  rw [ho, ho'] at this;simpa [hd, hd'] using this
 refine wp_region_factsT (R := R) (tgt := tgt) (fr := fr) hm F G hasc hdst hin htg hfr htk' hinj' (fun i p v w w' h1 h2 h3 => mono i p v w w' h1 h2 fun hi hn => (by
  rw [hds, List.length_map] at hi;have ho : l.toArray[i]? = some l[i] := by rw [List.getElem?_toArray, List.getElem?_eq_getElem hi]
  exact h3 _ ho (by rw [← atd ho]; exact hn))) (fun i v w h1 o ho hd => hnu i v w h1 (by rw [hds, List.length_map]; simpa using lt0 ho) (by rw [atd ho]; exact hd)) hG (fun i o ho => ?_) (fun a w h1 h2 h3 h4 h5 h6 h7 => fin a w h1 h2 h3 (old' h4) (fun i s hs => ?_) (fun i hi hn => ?_) fun i j s s' hij fi fj hi hj => ?_)
 ·intro a w hGw hold hf hap K hK
  rw [met_wanted, ← hds];have hd := step.at_ (i := i) (by rw [← List.getElem?_toArray]; exact ho)
  rw [Nat.zero_add] at hd;refine hd a w hGw (old' hold) (fun j s hj hs => ?_) (fun j k s s' hjk fj fk wj wk hj hk => ?_) K hK
  rotate_left 1
  ·obtain ⟨o1, g1, g2⟩ := atn hj
   obtain ⟨o2, g3, g4⟩ := atn hk;exact hap j k o1 o2 s s' hjk fj fk wj wk g1 g3 g2 g4
  rcases h : l.toArray[j]? with _ | o'
  ·rw [hds, List.getD_eq_getElem?_getD, List.getElem?_map] at hs
   rw [List.getElem?_toArray] at h;rw [h] at hs;cases hs
  ·exact hf j o' s hj h (by rw [← atd h]; exact hs)
 ·rcases h : l.toArray[i]? with _ | o'
  ·rw [hds, List.getD_eq_getElem?_getD, List.getElem?_map] at hs
   rw [List.getElem?_toArray] at h;rw [h] at hs;cases hs
  ·exact h5 i o' s h (by rw [← atd h]; exact hs)
 ·rcases h : l.toArray[i]? with _ | o'
  ·rw [hds, List.length_map] at hi
   rw [List.getElem?_toArray, List.getElem?_eq_getElem hi] at h;cases h
  ·exact h6 i o' h (by rw [← atd h]; exact hn)
 ·obtain ⟨o1, g1, g2⟩ := atn hi
  obtain ⟨o2, g3, g4⟩ := atn hj;exact h7 i j o1 o2 s s' hij fi fj g1 g3 g2 g4
theorem due_metT {ds : List (Option Tmp)} {i : Nat} {o : Oper}
  (hg : o.guard = none ∨ ∃ k b s, o.guard = some (k, b) ∧ ds.getD k none = some s ∧ (o.after.any fun e => e.on == k && Region.binds .any e) = true ∧ ∀ v w, F k v w → v = .bool b)
  (h : ∀ a w, G w → (∀ s : Tmp, ds.contains (some s) = false → a.tmps.getD s undef = a0.tmps.getD s undef) →
   (∀ (j : Nat) (s : Tmp), (o.after.any fun e => e.on == j && Region.binds .any e) = true → ds.getD j none = some s → F j (a.tmps.getD s undef) w) →
   (∀ (j k : Nat) (s s' : Tmp), j ≠ k → fr j = true → fr k = true → (o.after.any fun e => e.on == j && Region.binds .any e) = true → (o.after.any fun e => e.on == k && Region.binds .any e) = true → ds.getD j none = some s → ds.getD k none = some s' → a.tmps.getD s undef ≠ a.tmps.getD s' undef) → ∀ K : Act → World → Prop, (∀ v w', G w' → R (by_ tgt i o a) w w' → F i (said tgt i o a v) w' → (fr i = true → NewP v w) → K (a.put o.dst v) w') → Oper.wp P o a w K Q) : DueT P ds Q R tgt fr F G a0 i o := by
 intro a w hG hold hf hap K hK
 have hm : met ds o a = true := by
  unfold met;rcases hg with hg | ⟨k, b, s, hg, hs, ha, hv⟩
  ·rw [hg]
  ·rw [hg]
   have := hv _ _ (hf k s ha hs)
   simp only [hs, this, boolOf, beq_self_eq_true]
 rw [if_pos hm];exact h a w hG hold hf hap K hK
end
end
section
open Go Go.RowKit
def IsV (W : World) (X : Nat) : Prop := ∃ a b c d e : SL, VBox W X a b c d e
def Vk (p : Value) (W W' : World) : Prop := Kp W W' ∧ (∀ X, IsV W X → IsV W' X) ∧ ∀ X V, Value.pointer (some ⟨X, 0, none⟩) ≠ p → HoldsV W X V → HoldsV W' X V
theorem vk_of {p : Value} {W W' : World} (hb : Below W.heap.size W W') : Vk p W W' := ⟨kp_below hb, fun _ ⟨a, b, c, d, e, h⟩ => ⟨a, b, c, d, e, ab_ h hb⟩, fun _ _ _ h => h.below hb⟩
theorem vk_put {W : World} {X : Nat} {z0 z1 z2 z3 z4 : SL} (hz : VBox W X z0 z1 z2 z3 z4) (s0 s1 s2 s3 s4 : SL) : Vk (.pointer (some ⟨X, 0, none⟩)) W (W.setCells X 0 [.slice s0.1 s0.2.1 s0.2.2, .slice s1.1 s1.2.1 s1.2.2, .slice s2.1 s2.2.1 s2.2.2, .slice s3.1 s3.2.1 s3.2.2, .slice s4.1 s4.2.1 s4.2.2]) := by
 have hk := kp_set hz [.slice s0.1 s0.2.1 s0.2.2, .slice s1.1 s1.2.1 s1.2.2, .slice s2.1 s2.2.1 s2.2.2, .slice s3.1 s3.2.1 s3.2.2, .slice s4.1 s4.2.1 s4.2.2];refine ⟨hk, fun Y ⟨a, b, c, d, e, h⟩ => ?_, fun Y V hne ⟨a, b, c, d, e, h, hr⟩ => ?_⟩
 ·by_cases e2 : Y = X
  ·subst e2
   exact ⟨s0, s1, s2, s3, s4, a2_ hz s0 s1 s2 s3 s4⟩
  ·exact ⟨a, b, c, d, e, vbox_other h e2 _⟩
 ·exact ⟨a, b, c, d, e, vbox_other h (fun e2 => hne (by rw [e2])) _, hr.kp hk⟩
def PV (w : World) (v : Value) (b0 : Nat) : Prop := ∃ X, v = .pointer (some ⟨X, 0, none⟩) ∧ b0 ≤ X ∧ X < w.heap.size ∧ IsV w X
def HV (w : World) (v : Value) (V : Vw) : Prop := ∃ X, v = .pointer (some ⟨X, 0, none⟩) ∧ HoldsV w X V
theorem ids_lit (W : World) (l : List Sets.Id2) : Ids (W.alloc (.cells (flatR encI l).toArray 29)) (.slice (some ⟨W.heap.size, 0, none⟩) l.length l.length) l := ids_rcs (rcs_lit encI_len W l _ 29 (by simp))
end
section
open Go Go.RowKit
def HE (w : World) (v : Value) : Prop := ∃ X, v = .pointer (some ⟨X, 0, none⟩) ∧ VBox w X (none, 0, 0) (none, 0, 0) (none, 0, 0) (none, 0, 0) (none, 0, 0)
end
section
open Go Go.RowKit
abbrev emV : Vw := ⟨[], [], [], [], []⟩
theorem em_at (w : World) : VAt w (.agg #[.slice none 0 0, .slice none 0 0, .slice none 0 0, .slice none 0 0, .slice none 0 0]) emV := vAt_of (Rcs.nil _) (Ids.nil _) (RowsAt.nil _) (Rcs.nil _) (Ids.nil _)
theorem em_fit : FitVIE 1000 emV := ⟨by decide, by decide, by decide, by decide, by decide, by decide⟩
theorem heap_setCell {w : World} {x g i : Nat} {v : Value} (hx : g ≠ x) : (w.setCell ⟨x, i, none⟩ v).heap[g]? = w.heap[g]? := by
 simp [World.setCell, Array.getElem?_modify]
 intro e;exact absurd e.symm hx
theorem vbox_apart {w : World} {g x : Nat} {a b c d e : SL} (h : VBox w g a b c d e) (hx : g ≠ x) (i : Nat) (v : Value) : VBox (w.setCell ⟨x, i, none⟩ v) g a b c d e := (heap_setCell hx).trans h
theorem below_two_set {b0 : Nat} {w W : World} {g : Nat} (h : Below b0 w W) (hg : b0 ≤ g) (i : Nat) (v : Value) : Below b0 w (W.setCell ⟨g, i, none⟩ v) := h.setCell hg _
end
section
open Go Go.RowKit
theorem vbox_rows {w : World} {g : Nat} {a b x d e : SL} (h : VBox w g a b x d e) (A : Option Addr) (n c : Nat) : VBox (w.setCell ⟨g, 2, none⟩ (.slice A n c)) g a b (A, n, c) d e := by
 unfold VBox at *;simp [World.setCell, Array.getElem?_modify, h]
end
end Go.Proofs.YthkkipbmlafdiaaGreat
