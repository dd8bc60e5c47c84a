/-
  Carried over and put together: contracts of this program's functions, and plain facts. No statement is proved in this text.
-/
import Derived.WalkKit
import Derived.WalkSpells
import Derived.WalkLawsBesides
import Derived.OwnWalk
import Derived.Deep.AppendLies
import Derived.Outline
import Derived.IntWalk
import Derived.Deep.LoopGhost
import Derived.Handy
import Derived.Lib.Hide
import Derived.Deep.RegionWith
import Derived.Deep.RegionHeld3
import Derived.BigQuiet
import Derived.Deep.QuietTactic
import Derived.Sort.Grow
import Derived.Test.YtkeiekljedhllaaGreatRows
import Derived.ProofKit
import Derived.SizedLaws
import Derived.Below
import Derived.Carry
import Derived.Laws.AppendOwnNone
import Derived.Deep.Slices
import Derived.RegionTactic
import Derived.Orders
import Derived.Lib.SliceRun
import Derived.Laws.IdiomCopy
import Derived.Test.YtkeiekljedhllaaGreatF00
import Derived.Test.YtkeiekljedhllaaGreatF04
import Derived.Test.YtkeiekljedhllaaGreatF06
set_option maxRecDepth 20000
namespace Go.Proofs.YtkeiekljedhllaaGreat
open Go.RowKit Sets Clocks
/-- May an ID be? -/
def vidCLK (a i : Int) : Bool := decide (1 ≤ a ∧ a ≤ 12 ∧ 1 ≤ i ∧ i ≤ 1048576)
theorem may_anyCLK (a i : Int) (w : World) :
    Calls Tryz.prog 16 #[.agg #[.int .i64 a, .int .i64 i]] w fun e w' => e = .returned (.bool (vidCLK a i)) ∧ Below w.heap.size w w' := by
  by_cases h1 : 1 ≤ a
  · by_cases h2 : a ≤ 12
    · by_cases h3 : 1 ≤ i
      · by_cases h4 : i ≤ 1048576
        · have h5 := Lib.hid (show vidCLK a i = true by simp [vidCLK]; omega)
          go_enter Tryz.func16, Tryz.ntmps16
          go_wp2_with fail
          go_ret
          exact ⟨by rw [h5.out]; rfl, (Below.refl _ _).alloc (Nat.le_refl _) _⟩
        · have h5 := Lib.hid (show vidCLK a i = false by simp [vidCLK]; omega)
          go_enter Tryz.func16, Tryz.ntmps16
          go_wp2_with fail
          go_ret
          exact ⟨by rw [h5.out]; rfl, (Below.refl _ _).alloc (Nat.le_refl _) _⟩
      · have h5 := Lib.hid (show vidCLK a i = false by simp [vidCLK]; omega)
        go_enter Tryz.func16, Tryz.ntmps16
        go_wp2_with fail
        go_ret
        exact ⟨by rw [h5.out]; rfl, (Below.refl _ _).alloc (Nat.le_refl _) _⟩
    · have h5 := Lib.hid (show vidCLK a i = false by simp [vidCLK]; omega)
      go_enter Tryz.func16, Tryz.ntmps16
      go_wp2_with fail
      go_ret
      exact ⟨by rw [h5.out]; rfl, (Below.refl _ _).alloc (Nat.le_refl _) _⟩
  · have h5 := Lib.hid (show vidCLK a i = false by simp [vidCLK]; omega)
    go_enter Tryz.func16, Tryz.ntmps16
    go_wp2_with fail
    go_ret
    exact ⟨by rw [h5.out]; rfl, (Below.refl _ _).alloc (Nat.le_refl _) _⟩
/-- A world that has come of another one by draws and new memory alone. -/
def Grew (w w' : World) : Prop := ∃ q os, w' = Go.Sort.grow (w.drewN q) os
theorem Grew.refl (w : World) : Grew w w := ⟨0, #[], by rw [Go.Sort.grow_empty]; rfl⟩
theorem Grew.drew {w w' : World} (h : Grew w w') : Grew w w'.drew := by
  obtain ⟨q, os, rfl⟩ := h
  exact ⟨q + 1, os, rfl⟩
theorem Grew.drewN {w w' : World} (h : Grew w w') (n : Nat) : Grew w (w'.drewN n) := by
  obtain ⟨q, os, rfl⟩ := h
  refine ⟨q + n, os, ?_⟩
  simp [World.drewN, Go.Sort.grow, Nat.add_assoc]
theorem Grew.grow {w w' : World} (h : Grew w w') (os : Array Obj) : Grew w (Go.Sort.grow w' os) := by
  obtain ⟨q, os', rfl⟩ := h
  exact ⟨q, os' ++ os, Go.Sort.grow_grow _ _ _⟩
theorem Grew.alloc {w w' : World} (h : Grew w w') (o : Obj) : Grew w (w'.alloc o) := by rw [Go.Sort.alloc_eq_grow]; exact h.grow _
theorem Grew.trans {w w' w'' : World} (h : Grew w w') (k : Grew w' w'') : Grew w w'' := by
  obtain ⟨q, os, rfl⟩ := k
  exact (h.drewN q).grow os
theorem Grew.size {w w' : World} (h : Grew w w') : w.heap.size ≤ w'.heap.size := by
  obtain ⟨q, os, rfl⟩ := h
  simp [Go.Sort.grow, World.drewN]
theorem Grew.below {w w' : World} (h : Grew w w') : Below w.heap.size w w' := by
  obtain ⟨q, os, rfl⟩ := h
  exact ⟨rfl, rfl, rfl, by simp [Go.Sort.grow, World.drewN], fun k hk => Go.Sort.heap_grow_old (w.drewN q) os hk⟩
theorem grew_two (w : World) (o o' : Obj) : Grew w ((w.alloc o).alloc o') := ((Grew.refl w).alloc o).alloc o'
theorem less_grew (a i b j : Int) (w : World) :
    Calls Tryz.prog 47 #[.agg #[.int .i64 a, .int .i64 i], .agg #[.int .i64 b, .int .i64 j]] w fun e w' => e = .returned (.bool (lss a i b j)) ∧ Grew w w' := by
  have hb := Lib.hid (grew_two w)
  by_cases h1 : a < b
  · have h5 := Lib.hid (show lss a i b j = true by simp [lss]; omega)
    go_enter Tryz.func47, Tryz.ntmps47
    go_wp2_with fail
    go_ret
    exact ⟨by rw [h5.out]; rfl, hb.out _ _⟩
  · by_cases h2 : a = b
    · subst h2
      by_cases h3 : i < j
      · have h5 := Lib.hid (show lss a i a j = true by simp [lss]; omega)
        go_enter Tryz.func47, Tryz.ntmps47
        go_wp2_with fail
        go_ret
        exact ⟨by rw [h5.out]; rfl, hb.out _ _⟩
      · have h5 := Lib.hid (show lss a i a j = false by simp [lss]; omega)
        go_enter Tryz.func47, Tryz.ntmps47
        go_wp2_with fail
        go_ret
        exact ⟨by rw [h5.out]; rfl, hb.out _ _⟩
    · have h5 := Lib.hid (show lss a i b j = false by simp [lss]; omega)
      have h3 : (a == b) = false := by simpa using h2
      go_enter Tryz.func47, Tryz.ntmps47
      go_wp2_with fail
      go_ret
      exact ⟨by rw [h5.out]; rfl, hb.out _ _⟩
theorem less_anyCLK (a i b j : Int) (w : World) :
    Calls Tryz.prog 47 #[.agg #[.int .i64 a, .int .i64 i], .agg #[.int .i64 b, .int .i64 j]] w fun e w' => e = .returned (.bool (lss a i b j)) ∧ Below w.heap.size w w' :=
  (less_grew a i b j w).mono fun _ _ ⟨h1, h2⟩ => ⟨h1, h2.below⟩
/-- A tick's three cells. -/
def encT (t : Tick) : List Value := [.int .i64 t.1.1, .int .i64 t.1.2, .int .i64 t.2]
theorem encT_len (t : Tick) : (encT t).length = 3 := rfl
theorem encT_one (t : Tick) : ∀ u ∈ encT t, u.oneCell' = true := by
  intro u hu
  simp [encT] at hu
  rcases hu with rfl | rfl | rfl <;> rfl
/-- Block g holds a tick. -/
def TBox (w : World) (g : Nat) (a i n : Int) : Prop := w.heap[g]? = some (.cells #[.int .i64 a, .int .i64 i, .int .i64 n] 27 (0, 0))
theorem tbox_cells {w : World} {g : Nat} {a i n : Int} (h : TBox w g a i n) : w.cell? ⟨g, 0, none⟩ = some (.int .i64 a) ∧ w.cell? ⟨g, 1, none⟩ = some (.int .i64 i) ∧ w.cell? ⟨g, 2, none⟩ = some (.int .i64 n) := by
  unfold TBox at h
  exact ⟨by rw [cell_of_row _ _ 0 _ _ _ h]; rfl, by rw [cell_of_row _ _ 1 _ _ _ h]; rfl, by rw [cell_of_row _ _ 2 _ _ _ h]; rfl⟩
theorem tbox_new (w : World) (a i n : Int) : TBox (w.alloc (.cells #[.int .i64 a, .int .i64 i, .int .i64 n] 27)) w.heap.size a i n := heap_alloc_new w _
theorem tbox_lt {w : World} {g : Nat} {a i n : Int} (h : TBox w g a i n) : g < w.heap.size := row_lt h
theorem tbox_below {w w' : World} {g : Nat} {a i n : Int} (h : TBox w g a i n) (hb : Below w.heap.size w w') : TBox w' g a i n := (hb.block _ (tbox_lt h)).trans h
/-- Block g holds two numbers. -/
def Two (w : World) (g : Nat) (a b : Int) : Prop := w.heap[g]? = some (.cells #[.int .i64 a, .int .i64 b] 3 (0, 0))
end Go.Proofs.YtkeiekljedhllaaGreat
namespace Go.Proofs.YtkeiekljedhllaaGreat
open Go Go.RowKit
section
variable {P : Program} {ops : Array Oper} {Q : Exit → Act → World → Prop} {F : Nat → Value → World → Prop} {G : World → Prop} {a0 : Act}
/-- What stands when some operations have come up. -/
structure Stood (F : Nat → Value → World → Prop) (G : World → Prop) (ops : Array Oper) (a0 : Act) (listed : Array Bool) (a : Act) (w : World) : Prop where
  held : G w
  defers : a.defers = a0.defers
  size : a.tmps.size = a0.tmps.size
  old : ∀ s : Tmp, (∀ (i : Nat) (o : Oper), ops[i]? = some o → o.dst ≠ some s) → a.tmps.getD s undef = a0.tmps.getD s undef
  new : ∀ (i : Nat) (o : Oper) (s : Tmp), listed.getD i false = true → ops[i]? = some o → o.dst = some s → F i (a.tmps.getD s undef) w
/-- What one operation owes. -/
def Owes (P : Program) (ops : Array Oper) (Q : Exit → Act → World → Prop) (F : Nat → Value → World → Prop) (G : World → Prop) (a0 : Act) (i : Nat) (o : Oper) : Prop :=
  ∀ a w, G w → (∀ s : Tmp, (∀ (i : Nat) (o : Oper), ops[i]? = some o → o.dst ≠ some s) → a.tmps.getD s undef = a0.tmps.getD s undef) →
    (∀ (j : Nat) (o' : Oper) (s : Tmp), (o.after.any fun e => e.on == j && Region.binds .any e) = true → ops[j]? = some o' → o'.dst = some s → F j (a.tmps.getD s undef) w) →
    ∀ K : Act → World → Prop, (∀ v w', G w' → Below w.heap.size w w' → F i v w' → K (a.put o.dst v) w') →
    if Region.wanted o (yielded ops a.tmps) = true then Oper.wp P o a w K Q else K (a.put o.dst undef) w
theorem put_getD_other (a : Act) (d : Option Tmp) (v : Value) (s : Nat) (h : d ≠ some s) : (a.put d v).tmps.getD s undef = a.tmps.getD s undef := by
  cases d with
  | none => rfl
  | some d =>
    have hd : d ≠ s := fun e => h (by rw [e])
    simp [Act.put, Array.getD_eq_getD_getElem?, Array.getElem?_setIfInBounds_ne hd]
theorem put_getD_self (a : Act) (v : Value) (s : Nat) (h : s < a.tmps.size) : (a.put (some s) v).tmps.getD s undef = v := by
  simp [Act.put, h]
theorem put_size (a : Act) (d : Option Tmp) (v : Value) : (a.put d v).tmps.size = a.tmps.size := by
  cases d <;> simp [Act.put]
theorem put_defers (a : Act) (d : Option Tmp) (v : Value) : (a.put d v).defers = a.defers := by
  cases d <;> rfl
theorem all_listed {listed : Array Bool} (hs : listed.size = ops.size) (hasc : ∀ (i : Nat) (o : Oper), ops[i]? = some o → ∀ e ∈ o.after, e.on < i) (hr : Region.ready .any ops listed = []) : ∀ i, i < ops.size → listed.getD i false = true := by
  intro i
  induction i using Nat.strongRecOn with
  | _ i ih =>
    intro hi
    rcases hl : listed.getD i false with _ | _
    · exfalso
      have h1 := List.filter_eq_nil_iff.1 hr i (List.mem_range.2 hi)
      apply h1
      have h2 : listed.getD i true = false := by
        rw [Array.getD_eq_getD_getElem?] at hl ⊢
        rw [Array.getElem?_eq_getElem (by omega)] at hl ⊢
        exact hl
      rw [h2, Array.getElem?_eq_getElem hi]
      simp only [Bool.not_false, Option.map_some, Option.getD_some, Bool.true_and]
      rw [Array.all_eq_true_iff_forall_mem]
      intro e he
      have hlt := hasc i ops[i] (Array.getElem?_eq_getElem hi) e he
      rw [ih e.on hlt (by omega)]
      simp
    · rfl
theorem wpAny_facts (hasc : ∀ (i : Nat) (o : Oper), ops[i]? = some o → ∀ e ∈ o.after, e.on < i) (hdst : ∀ (i j : Nat) (o o' : Oper) (s : Tmp), ops[i]? = some o → ops[j]? = some o' → o.dst = some s → o'.dst = some s → i = j) (hin : ∀ (i : Nat) (o : Oper) (s : Tmp), ops[i]? = some o → o.dst = some s → s < a0.tmps.size)
    (mono : ∀ i v w w', F i v w → Below w.heap.size w w' → F i v w')
    (step : ∀ (i : Nat) (o : Oper), ops[i]? = some o → Owes P ops Q F G a0 i o)
    (fin : ∀ a w, Stood F G ops a0 (Array.replicate ops.size true) a w → Q .normal a w) :
    ∀ (fuel : Nat) (listed : Array Bool) (a : Act) (w : World), listed.size = ops.size → listed.toList.countP (fun b => !b) ≤ fuel → Stood F G ops a0 listed a w → wpAny P .any ops Q fuel listed a w := by
  have last : ∀ (listed : Array Bool) (a : Act) (w : World), listed.size = ops.size → Stood F G ops a0 listed a w → Region.ready .any ops listed = [] → Q .normal a w := fun listed a w hs h hr =>
    fin a w ⟨h.held, h.defers, h.size, h.old, fun i o s _ ho hd => h.new i o s (all_listed hs hasc hr i (by
      rcases Nat.lt_or_ge i ops.size with h1 | h1
      · exact h1
      · rw [Array.getElem?_eq_none h1] at ho; cases ho)) ho hd⟩
  intro fuel
  induction fuel with
  | zero =>
    intro listed a w hs hc h
    have hr : Region.ready .any ops listed = [] := by
      refine List.filter_eq_nil_iff.2 fun i hi => ?_
      have hi2 : i < listed.toList.length := by rw [Array.length_toList, hs]; exact List.mem_range.1 hi
      have h0 := List.countP_eq_zero.1 (Nat.le_zero.1 hc) listed.toList[i] (List.getElem_mem hi2)
      have h1 : listed.getD i true = true := by
        rw [Array.getD_eq_getD_getElem?, Array.getElem?_eq_getElem (by simpa using hi2)]
        simpa using h0
      rw [h1]
      simp
    exact ⟨hr, last listed a w hs h hr⟩
  | succ fuel ih =>
    intro listed a w hs hc h
    refine ⟨last listed a w hs h, fun i hi => ?_⟩
    obtain ⟨hi1, hi2⟩ := List.mem_filter.1 hi
    have hi3 : i < ops.size := List.mem_range.1 hi1
    rw [Bool.and_eq_true, Bool.not_eq_true', Array.getElem?_eq_getElem hi3, Option.map_some, Option.getD_some] at hi2
    obtain ⟨hl, hall⟩ := hi2
    have ho : ops[i]? = some ops[i] := Array.getElem?_eq_getElem hi3
    have hil : i < listed.toList.length := by rw [Array.length_toList, hs]; exact hi3
    have hlf : listed.toList[i] = false := by
      rw [Array.getD_eq_getD_getElem?, Array.getElem?_eq_getElem (by omega)] at hl
      simpa using hl
    have hcnt : (listed.setIfInBounds i true).toList.countP (fun b => !b) ≤ fuel := by
      rw [Array.toList_setIfInBounds, List.countP_set hil, hlf]
      simp only [Bool.not_false, if_true, Bool.not_true, Bool.false_eq_true, if_false]
      omega
    have key : ∀ v w', G w' → Below w.heap.size w w' → F i v w' → wpAny P .any ops Q fuel (listed.setIfInBounds i true) (a.put ops[i].dst v) w' := by
      intro v w' hG hb hF
      refine ih _ _ _ (by simpa using hs) hcnt ⟨hG, (put_defers _ _ _).trans h.defers, (put_size _ _ _).trans h.size, fun s hn => (put_getD_other _ _ _ _ (hn i _ ho)).trans (h.old s hn), fun j o s hj hoj hd => ?_⟩
      by_cases e : j = i
      · subst e
        obtain rfl := Option.some.inj (ho.symm.trans hoj)
        rw [hd, put_getD_self _ _ _ (by rw [h.size]; exact hin _ _ _ hoj hd)]
        exact hF
      · rw [put_getD_other _ _ _ _ (fun e2 => e (hdst j i o ops[i] s hoj ho hd e2))]
        refine mono _ _ _ _ (h.new j o s ?_ hoj hd) hb
        rw [Array.getD_eq_getD_getElem?, Array.getElem?_setIfInBounds_ne (fun e2 => e e2.symm)] at hj
        rw [Array.getD_eq_getD_getElem?]
        exact hj
    have hst := step i ops[i] ho a w h.held h.old (fun j o' s hj hoj hd => h.new j o' s (by
      obtain ⟨e, he, h2⟩ := Array.any_eq_true'.1 hj
      rw [Bool.and_eq_true, beq_iff_eq] at h2
      have h3 := (Array.all_eq_true_iff_forall_mem.1 hall) e he
      rw [h2.2, h2.1] at h3
      simpa using h3) hoj hd) (wpAny P .any ops Q fuel (listed.setIfInBounds i true)) key
    unfold wpOp
    rw [ho]
    show if Region.wanted ops[i] (yielded ops a.tmps) = true then _ else _
    split
    · rename_i hw; rw [if_pos hw] at hst; exact .inl hst
    · rename_i hw; rw [if_neg hw] at hst; exact hst
/-- The region, by facts of its slots. -/
theorem wp_region_facts {id : Nat} {w0 : World} (hm : P.follows .mixedOrders = true) (F : Nat → Value → World → Prop) (G : World → Prop)
    (hasc : (List.range ops.size).all (fun i => ((ops[i]?).map fun o => o.after.all fun e => decide (e.on < i)).getD true) = true)
    (hdst : (List.range ops.size).all (fun i => (List.range ops.size).all fun j => decide (i = j) || ((ops[i]?).bind (·.dst)).isNone || ((ops[i]?).bind (·.dst)) != ((ops[j]?).bind (·.dst))) = true)
    (hin : (List.range ops.size).all (fun i => (((ops[i]?).bind (·.dst)).map fun s => decide (s < a0.tmps.size)).getD true) = true)
    (mono : ∀ i v w w', F i v w → Below w.heap.size w w' → F i v w')
    (hG : G w0.drew)
    (step : ∀ (i : Nat) (o : Oper), ops[i]? = some o → Owes P ops Q F G a0 i o)
    (fin : ∀ a w, G w → a.defers = a0.defers → a.tmps.size = a0.tmps.size → (∀ s : Tmp, (∀ (i : Nat) (o : Oper), ops[i]? = some o → o.dst ≠ some s) → a.tmps.getD s undef = a0.tmps.getD s undef) → (∀ (i : Nat) (o : Oper) (s : Tmp), ops[i]? = some o → o.dst = some s → F i (a.tmps.getD s undef) w) → Q .normal a w) :
    (Code.region id ops true).wp P Q a0 w0 := by
  have lt : ∀ {i : Nat} {o : Oper}, ops[i]? = some o → i < ops.size := fun {i o} ho => by
    rcases Nat.lt_or_ge i ops.size with h1 | h1
    · exact h1
    · rw [Array.getElem?_eq_none h1] at ho; cases ho
  refine wp_region_any hm (wpAny_facts (F := F) (G := G) (a0 := a0) ?_ ?_ ?_ mono step (fun a w h => fin a w h.held h.defers h.size h.old fun i o s ho hd => h.new i o s (by simp [lt ho]) ho hd) _ _ _ _ (by simp) (Nat.le_trans List.countP_le_length (by simp)) ⟨hG, rfl, rfl, fun _ _ => rfl, fun i o s hi ho _ => ?_⟩)
  · intro i o ho e he
    have := List.all_eq_true.1 hasc i (List.mem_range.2 (lt ho))
    rw [ho] at this
    simpa using (Array.all_eq_true_iff_forall_mem.1 this) e he
  · intro i j o o' s ho ho' hd hd'
    have := List.all_eq_true.1 (List.all_eq_true.1 hdst i (List.mem_range.2 (lt ho))) j (List.mem_range.2 (lt ho'))
    rw [ho, ho'] at this
    simp [hd, hd'] at this
    exact this
  · intro i o s ho hd
    have := List.all_eq_true.1 hin i (List.mem_range.2 (lt ho))
    rw [ho] at this
    simpa [hd] using this
  · rw [Array.getD_eq_getD_getElem?] at hi
    simp [lt ho] at hi
/-- The truth value in a value. -/
def boolOf : Value → Option Bool
  | .bool b => some b
  | _ => none
/-- Is an operation's guard met? (ds: the operations' slots.) -/
def met (ds : List (Option Tmp)) (o : Oper) (a : Act) : Bool :=
  match o.guard with
  | none => true
  | some (k, b) => match ds.getD k none with
    | some s => boolOf (a.tmps.getD s undef) == some b
    | none => false
theorem met_wanted {l : List Oper} {a : Act} (o : Oper) : Region.wanted o (yielded l.toArray a.tmps) = met (l.map (·.dst)) o a := by
  unfold Region.wanted met
  rcases o.guard with _ | ⟨k, b⟩
  · rfl
  · have h1 : (l.map (·.dst)).getD k none = (l.toArray[k]?).bind (·.dst) := by
      rw [List.getD_eq_getElem?_getD, List.getElem?_map, List.getElem?_toArray]
      rcases l[k]? with _ | o' <;> rfl
    dsimp only
    rw [h1]
    unfold yielded
    rcases (l.toArray[k]?).bind (·.dst) with _ | s
    · rfl
    · show _ = (boolOf (a.tmps.getD s undef) == some b)
      rw [Array.getD_eq_getD_getElem?]
      simp only [Option.bind_some]
      rcases a.tmps[s]? with _ | v
      · rfl
      · cases v <;> rfl
/-- What one operation owes, by the slots of the others. -/
def Due (P : Program) (ds : List (Option Tmp)) (Q : Exit → Act → World → Prop) (F : Nat → Value → World → Prop) (G : World → Prop) (a0 : Act) (i : Nat) (o : Oper) : Prop :=
  ∀ a w, G w → (∀ s : Tmp, ds.contains (some s) = false → a.tmps.getD s undef = a0.tmps.getD s undef) →
    (∀ (j : Nat) (s : Tmp), (o.after.any fun e => e.on == j && Region.binds .any e) = true → ds.getD j none = some s → F j (a.tmps.getD s undef) w) →
    ∀ K : Act → World → Prop, (∀ v w', G w' → Below w.heap.size w w' → F i v w' → K (a.put o.dst v) w') →
    if met ds o a = true then Oper.wp P o a w K Q else K (a.put o.dst undef) w
/-- What all owe, from the k-th on. -/
def AllDue (P : Program) (ds : List (Option Tmp)) (Q : Exit → Act → World → Prop) (F : Nat → Value → World → Prop) (G : World → Prop) (a0 : Act) : Nat → List Oper → Prop
  | _, [] => True
  | k, o :: r => Due P ds Q F G a0 k o ∧ AllDue P ds Q F G a0 (k + 1) r
theorem AllDue.nil {ds : List (Option Tmp)} {k : Nat} : AllDue P ds Q F G a0 k [] := trivial
theorem AllDue.cons {ds : List (Option Tmp)} {k : Nat} {o : Oper} {r : List Oper} (h : Due P ds Q F G a0 k o) (hr : AllDue P ds Q F G a0 (k + 1) r) : AllDue P ds Q F G a0 k (o :: r) := ⟨h, hr⟩
theorem AllDue.at_ {ds : List (Option Tmp)} : ∀ {l : List Oper} {k i : Nat} {o : Oper}, AllDue P ds Q F G a0 k l → l[i]? = some o → Due P ds Q F G a0 (k + i) o
  | [], _, _, _, _, h => by simp at h
  | o' :: r, k, 0, o, h, ho => by
    simp at ho
    subst ho
    exact h.1
  | o' :: r, k, i + 1, o, h, ho => by
    have := AllDue.at_ (i := i) h.2 (by simpa using ho)
    rwa [show k + 1 + i = k + (i + 1) by omega] at this
/-- A region that draws its order, by facts of its slots: F i is said of the value of the i-th operation, G of the world. -/
theorem wp_region_due {l : List Oper} {id : Nat} {w0 : World} (hm : P.follows .mixedOrders = true) (ds : List (Option Tmp)) (F : Nat → Value → World → Prop) (G : World → Prop) (hds : ds = l.map (·.dst))
    (hasc : (List.range l.toArray.size).all (fun i => ((l.toArray[i]?).map fun o => o.after.all fun e => decide (e.on < i)).getD true) = true)
    (hdst : (List.range l.toArray.size).all (fun i => (List.range l.toArray.size).all fun j => decide (i = j) || ((l.toArray[i]?).bind (·.dst)).isNone || ((l.toArray[i]?).bind (·.dst)) != ((l.toArray[j]?).bind (·.dst))) = true)
    (hin : (List.range l.toArray.size).all (fun i => (((l.toArray[i]?).bind (·.dst)).map fun s => decide (s < a0.tmps.size)).getD true) = true)
    (mono : ∀ i v w w', F i v w → Below w.heap.size w w' → F i v w')
    (hG : G w0.drew)
    (step : AllDue P ds Q F G a0 0 l)
    (fin : ∀ a w, G w → a.defers = a0.defers → a.tmps.size = a0.tmps.size → (∀ s : Tmp, ds.contains (some s) = false → a.tmps.getD s undef = a0.tmps.getD s undef) → (∀ (i : Nat) (s : Tmp), ds.getD i none = some s → F i (a.tmps.getD s undef) w) → Q .normal a w) :
    (Code.region id l.toArray true).wp P Q a0 w0 := by
  have atd : ∀ {j : Nat} {o : Oper}, l.toArray[j]? = some o → ds.getD j none = o.dst := fun {j o} h => by
    rw [List.getElem?_toArray] at h
    rw [hds, List.getD_eq_getElem?_getD, List.getElem?_map, h]
    rfl
  have old' : ∀ {a : Act}, (∀ s : Tmp, (∀ (i : Nat) (o : Oper), l.toArray[i]? = some o → o.dst ≠ some s) → a.tmps.getD s undef = a0.tmps.getD s undef) → ∀ s : Tmp, ds.contains (some s) = false → a.tmps.getD s undef = a0.tmps.getD s undef := fun {a} h s hs => h s fun i o ho hd => by
    have : some s ∈ ds := by
      rw [hds]
      exact List.mem_map.2 ⟨o, List.mem_of_getElem? (by rw [← List.getElem?_toArray]; exact ho), hd⟩
    rw [List.contains_iff_mem.2 this] at hs
    cases hs
  refine wp_region_facts hm F G hasc hdst hin mono hG (fun i o ho => ?_) (fun a w h1 h2 h3 h4 h5 => fin a w h1 h2 h3 (old' h4) fun i s hs => ?_)
  · intro a w hGw hold hf K hK
    rw [met_wanted, ← hds]
    have hd := step.at_ (i := i) (by rw [← List.getElem?_toArray]; exact ho)
    rw [Nat.zero_add] at hd
    refine hd a w hGw (old' hold) (fun j s hj hs => ?_) K hK
    rcases h : l.toArray[j]? with _ | o'
    · rw [hds, List.getD_eq_getElem?_getD, List.getElem?_map] at hs
      rw [List.getElem?_toArray] at h
      rw [h] at hs
      cases hs
    · exact hf j o' s hj h (by rw [← atd h]; exact hs)
  · rcases h : l.toArray[i]? with _ | o'
    · rw [hds, List.getD_eq_getElem?_getD, List.getElem?_map] at hs
      rw [List.getElem?_toArray] at h
      rw [h] at hs
      cases hs
    · exact h5 i o' s h (by rw [← atd h]; exact hs)
/-- An operation without a guard, or with one that is met. -/
theorem due_met {ds : List (Option Tmp)} {i : Nat} {o : Oper}
    (hg : o.guard = none ∨ ∃ k b s, o.guard = some (k, b) ∧ ds.getD k none = some s ∧ (o.after.any fun e => e.on == k && Region.binds .any e) = true ∧ ∀ v w, F k v w → v = .bool b)
    (h : ∀ a w, G w → (∀ s : Tmp, ds.contains (some s) = false → a.tmps.getD s undef = a0.tmps.getD s undef) →
      (∀ (j : Nat) (s : Tmp), (o.after.any fun e => e.on == j && Region.binds .any e) = true → ds.getD j none = some s → F j (a.tmps.getD s undef) w) →
      ∀ K : Act → World → Prop, (∀ v w', G w' → Below w.heap.size w w' → F i v w' → K (a.put o.dst v) w') → Oper.wp P o a w K Q) : Due P ds Q F G a0 i o := by
  intro a w hG hold hf K hK
  have hm : met ds o a = true := by
    unfold met
    rcases hg with hg | ⟨k, b, s, hg, hs, ha, hv⟩
    · rw [hg]
    · rw [hg]
      have := hv _ _ (hf k s ha hs)
      simp only [hs, this, boolOf, beq_self_eq_true]
  rw [if_pos hm]
  exact h a w hG hold hf K hK
/-- An operation whose guard is not met. -/
theorem due_not {ds : List (Option Tmp)} {i k : Nat} {o : Oper} {b : Bool} {s : Tmp} (hg : o.guard = some (k, b)) (hs : ds.getD k none = some s) (ha : (o.after.any fun e => e.on == k && Region.binds .any e) = true) (hv : ∀ v w, F k v w → v = .bool (!b)) (hu : ∀ w, F i undef w) : Due P ds Q F G a0 i o := by
  intro a w hG hold hf K hK
  have hm : met ds o a = false := by
    unfold met
    rw [hg]
    have := hv _ _ (hf k s ha hs)
    simp only [hs, this, boolOf]
    cases b <;> rfl
  rw [hm, if_neg (by decide)]
  exact hK _ _ hG (Below.refl _ _) (hu w)
end
end Go.Proofs.YtkeiekljedhllaaGreat
namespace Go.Proofs.YtkeiekljedhllaaGreat
open Go.RowKit Sets Clocks
theorem info35 : (Tryz.prog.info? 27).map (fun i => (i.zero, i.size, i.bytes)) = some (some (.agg #[.int .i64 0, .int .i64 0, .int .i64 0]), 3, 0x18) := by kernel_rfl
/-- An element's cells. -/
theorem Rcs.tick {w w' : World} {A : Option Addr} {n c : Nat} {l : List Tick} (h : Rcs encT 3 w (.slice A n c) l) (hw : Below w.heap.size w w') {k : Nat} (hk : k < l.length) :
    ∃ ad, A = some ad ∧ w'.cell? (ad.add (k * 3)) = some (.int .i64 l[k].1.1) ∧ w'.cell? ⟨(ad.add (k * 3)).block, (ad.add (k * 3)).off + 1, none⟩ = some (.int .i64 l[k].1.2) ∧ w'.cell? ⟨(ad.add (k * 3)).block, (ad.add (k * 3)).off + 2, none⟩ = some (.int .i64 l[k].2) := by
  obtain ⟨ad, rfl⟩ := h.addr (by omega)
  exact ⟨ad, rfl, h.first hw hk rfl, h.cell hw hk 1 (by omega) rfl, h.cell hw hk 2 (by omega) rfl⟩
end Go.Proofs.YtkeiekljedhllaaGreat
