/-
  Carried over and put together: contracts of this program's functions, and plain facts. No statement is proved in this text.
-/
import Derived.Shelf.AbstractIn
import Derived.RangeFuncSeq
import Derived.RangeFuncGives
import Derived.Sort.MapsRangeIn
import Derived.WalkKit
import Derived.OwnWalkIn
import Derived.TacticsInMore
import Derived.RegionIn
import Derived.LoopNIn
import Derived.LoopIn
import Derived.Deep.DeepCutAuto
import Derived.Laws.AppendOwnNone
import Derived.Test.YtkoeplgkiogjlaaRows
import Derived.WalkSpells
import Derived.WalkLawsBesides
import Derived.OwnWalk
import Derived.Deep.AppendLies
import Derived.Outline
import Derived.IntWalk
import Derived.Deep.LoopGhost
import Derived.Handy
import Derived.Lib.Hide
import Derived.Deep.RegionWith
import Derived.Deep.RegionHeld3
import Derived.BigQuiet
import Derived.Deep.QuietTactic
import Derived.RangeFuncBound
import Derived.RangeFuncCalls
import Derived.RangeFuncFrom
import Derived.RangeFuncLeaves
import Derived.RangeFuncNested
import Derived.Test.YtkoeplgkiogjlaaP00
import Derived.Test.YtkoeplgkiogjlaaP02
set_option maxRecDepth 20000
namespace Go.Proofs.Ytkoeplgkiogjlaa
open Go Go.RowKit Go.Maps
/-- The IDs that have come, each once; 'left' are those that M holds besides. -/
structure CameI {V : Type} (M : Int × Int → Option V) (left : Int × Int → Bool) (ps : List (Int × Int)) : Prop where
  nodup : ps.Nodup
  in2 : ∀ p ∈ ps, In2 p
  left : ∀ p, In2 p → left p = ((M p).isSome && !decide (p ∈ ps))
  mem : ∀ p ∈ ps, (M p).isSome = true
theorem CameI.start {V : Type} (M : Int × Int → Option V) : CameI M (fun p => (M p).isSome) [] := ⟨List.nodup_nil, by simp, by simp, by simp⟩
theorem CameI.step {V : Type} {M : Int × Int → Option V} {left : Int × Int → Bool} {ps : List (Int × Int)} (h : CameI M left ps) {p : Int × Int} (hp : In2 p) (hl : left p = true) (hM : (M p).isSome = true) : CameI M (offI left p) (ps ++ [p]) := by
  have hn : p ∉ ps := by
    have := h.left p hp
    rw [hl] at this
    simp at this
    exact this.2
  refine ⟨?_, ?_, ?_, ?_⟩
  · rw [List.nodup_append]
    exact ⟨h.nodup, by simp, fun a ha b hb => by simp at hb; subst hb; exact fun e => hn (e ▸ ha)⟩
  · intro q hq
    rcases List.mem_append.1 hq with h1 | h1
    · exact h.in2 q h1
    · simp at h1; subst h1; exact hp
  · intro q hq
    simp only [offI, h.left q hq]
    by_cases e : q = p
    · subst e; simp
    · by_cases h2 : q ∈ ps <;> simp [e, h2]
  · intro q hq
    rcases List.mem_append.1 hq with h1 | h1
    · exact h.mem q h1
    · simp at h1; subst h1; exact hM
/-- The keys of M: each once. -/
def KeysI {V : Type} (M : Int × Int → Option V) (ps : List (Int × Int)) : Prop := ps.Nodup ∧ (∀ p ∈ ps, In2 p) ∧ ∀ p, In2 p → (p ∈ ps ↔ (M p).isSome = true)
theorem CameI.done {V : Type} {M : Int × Int → Option V} {left : Int × Int → Bool} {ps : List (Int × Int)} (h : CameI M left ps) (hl : ∀ p, In2 p → left p = false) : KeysI M ps := by
  refine ⟨h.nodup, h.in2, fun p hp => ⟨h.mem p, fun hM => ?_⟩⟩
  have := h.left p hp
  rw [hl p hp, hM] at this
  simpa using this
theorem RngI.of_walks {V : Type} {E : El V} {w w' : World} {b r n cnt : Nat} {M : Int × Int → Option V} {left : Int × Int → Bool} (h : RngI E w b r n M left cnt) (hk : KeepsWalks w w') : RngI E w' b r n M left cnt := by
  obtain ⟨D, lf, h1, h2⟩ := h
  exact ⟨D, lf, h1.of_walks hk, h2⟩
theorem RngI.iter_walk {V : Type} {E : El V} {w : World} {b r n cnt : Nat} {M : Int × Int → Option V} {left : Int × Int → Bool} (h : RngI E w b r n M left cnt) : ∃ o : Obj, w.heap[r]? = some o ∧ o.isWalk = true := by
  obtain ⟨D, lf, h1, h2⟩ := h
  exact h1.iter_walk
theorem RngI.left_eq {V : Type} {E : El V} {w : World} {b r n cnt : Nat} {M : Int × Int → Option V} {left : Int × Int → Bool} (h : RngI E w b r n M left cnt) : w.rangeLeft b r = cnt := by
  obtain ⟨D, lf, h1, h2⟩ := h
  exact h1.left_eq
set_option maxHeartbeats 1000000 in
theorem keysI_in {V : Type} {E : El V} {M : Int × Int → Option V} (F : Fence) (n : Nat) (hf : F.fn 57) (hro : F.round = none) (hn : 1 ≤ n) (l Bm b nn : Nat) (J : List (Int × Int) → World → Prop)
    (hY : ∀ pre x W, J pre W → pre.length < nn → YieldAt F (n - 1) Try.prog l #[idv x] W fun e W' => e = .returned (.bool true) ∧ J (pre ++ [x]) W' ∧ KeepsWalks W W')
    (W : World) (hJ : AbidesFrom W.heap.size J) (hm : W.cell? ⟨Bm, 0, none⟩ = some (.map (some b))) (hown : MapI E W b nn M) (h0 : J [] W) :
    CallsIn F n Try.prog 57 #[.func (.yield l) #[] #[], .pointer (some ⟨Bm, 0, none⟩)] W fun e W' => (∃ v, e = .returned v) ∧ ∃ ps : List (Int × Int), KeysI M ps ∧ J ps W' := by
  refine callsIn_of_wp Try.func57 rfl hf ?_ hro
  simp only [Try.ntmps57, List.size_toArray, List.length_cons, List.length_nil, Nat.reduceAdd, Nat.reduceSub, Array.replicate_succ, Array.replicate_zero, List.push_toArray, List.append_toArray, List.nil_append, List.cons_append]
  gi_wp2_with (first
    | (gi_at_range; refine wpListIn_range_id _ rfl _ rfl Try.underlying55 hown rfl ?_; intro w0 c0 hrg0 hc0 hg0 hs0)
    | gi_in)
  go_frame
  gi_loopw [3, 6, 7, 8, 9, 10, 11, 12, 13] (fun _ _ _ _ _ _ _ _ _ wr => ∃ (left : Int × Int → Bool) (cnt : Nat) (ps : List (Int × Int)), RngI E wr b W.heap.size nn M left cnt ∧ W.heap.size + 1 ≤ wr.heap.size ∧ ps.length + cnt ≤ nn ∧ CameI M left ps ∧ J ps wr)
    (fun _ _ _ _ _ _ _ _ _ wr => wr.rangeLeft b W.heap.size)
  case atStart =>
    exact ⟨_, _, [], hrg0, by omega, by simpa using hc0, CameI.start M, hJ [] W w0 none h0 hg0 (fun r e => by cases e)⟩
  case round =>
    obtain ⟨left, cnt, ps, hrg, hsz, hcs, hC, hJs⟩ := hrel
    gi_wp2_with (first
      | (gi_at_next; refine wpListIn_next_id _ rfl _ rfl hrg rfl ?_ ?_)
      | gi_in)
    · intro hc0 hl0
      gi_wp2
      go_end0
      exact ⟨⟨_, rfl⟩, ps, hC.done (fun p hp => hl0 p.1 p.2 hp), hJs⟩
    · intro p1 p2 c w2 cnt2 hp hlk hM hrg2 hlt hg2 hs2 hen
      have hJ2 : J ps w2 := hJ ps wr w2 (some W.heap.size) hJs hg2 (fun r e => by cases e; exact ⟨Nat.le_refl _, hrg.iter_walk⟩)
      have ga : w2.grownBy (w2.alloc (.cells #[.int .i64 p1, .int .i64 p2] 35)) none := World.grownBy_alloc _ _ _
      have hJ3 := hJ ps w2 _ none hJ2 ga (fun r e => by cases e)
      obtain ⟨fn, tmps, assign, body, hy, hR⟩ := hY ps (p1, p2) _ hJ3 (by omega)
      have hrg3 := hrg2.of_walks (KeepsWalks.alloc w2 (.cells #[.int .i64 p1, .int .i64 p2] 35))
      simp only [idv] at hen hy
      have hsw : w2.heap.size = wr.heap.size := hs2
      clear hs2
      gi_wp2
      refine hR.mono ?_
      rintro e W3 ⟨rfl, hJ4, hk3⟩
      have hrg4 := hrg3.of_walks hk3
      have hsz4 := hk3.size
      gi_wp2
      go_roundw
      case rel => exact ⟨_, cnt2, ps ++ [(p1, p2)], hrg4, by simp at hsz4; omega, by simp; omega, hC.step hp hlk (by rw [hM]; rfl), hJ4⟩
      case measure => rw [hrg4.left_eq, hrg.left_eq]; exact hlt
theorem keysI_gives {V : Type} {E : El V} {M : Int × Int → Option V} (F : Fence) (n : Nat) (hf : F.fn 57) (hro : F.round = none) (hn : 1 ≤ n) (Bm b nn : Nat) (w : World) (hBm : Bm < w.heap.size) (hm : w.cell? ⟨Bm, 0, none⟩ = some (.map (some b))) (hown : MapI E w b nn M) :
    SeqGives F n Try.prog 57 #[.pointer (some ⟨Bm, 0, none⟩)] idv (KeysI M) nn w := fun l J W hW hJ hY h0 =>
  keysI_in F n hf hro hn l Bm b nn J hY W hJ ((hW.cell (p := ⟨Bm, 0, none⟩) hBm).trans hm) (hown.same (hW.block b hown.lt)) h0
end Go.Proofs.Ytkoeplgkiogjlaa
namespace Go.Proofs.Ytkoeplgkiogjlaa
open Go.RowKit
theorem box_free {w : World} {g : Nat} {a i : Int} (h : Box w g a i) : w.frozen? ⟨g, 0, none⟩ = false ∧ w.frozen? ⟨g, 1, none⟩ = false := by
  unfold Box at h
  exact ⟨by simp [World.frozen?, h], by simp [World.frozen?, h]⟩
theorem box_set {w : World} {g : Nat} {a i : Int} (h : Box w g a i) (p q : Int) : Box ((w.setCell ⟨g, 0, none⟩ (.int .i64 p)).setCell ⟨g, 1, none⟩ (.int .i64 q)) g p q := by
  unfold Box at *
  simp [World.setCell, Array.getElem?_modify, h]
def lenOf : Value → Nat
  | .slice _ n _ => n
  | _ => 0
theorem lenOf_slice (A : Option Addr) (n c : Nat) : lenOf (.slice A n c) = n := rfl
theorem Ids.len {w : World} {v : Value} {l : List (Int × Int)} (h : Ids w v l) : lenOf v = l.length := by
  obtain ⟨A, c, rfl, _⟩ := h
  rfl
theorem Owns.drewN {w : World} {base n : Nat} {v : Value} {l : List (Int × Int)} (h : Owns w base v l) : Owns (w.drewN n) base v l := h.below (below_drewN (Below.refl _ _))
theorem owns_apart {w : World} {base : Nat} {v : Value} {l : List (Int × Int)} (h : Owns w base v l) : v.ownBlock ≠ some w.heap.size := by
  intro e
  exact absurd (World.ownsRow.lt h _ e).2 (by omega)
theorem owns_set {w : World} {base g : Nat} {v : Value} {l : List (Int × Int)} (h : Owns w base v l) (hg : v.ownBlock ≠ some g) (p q : Int) : Owns ((w.setCell ⟨g, 0, none⟩ (.int .i64 p)).setCell ⟨g, 1, none⟩ (.int .i64 q)).drew base v l :=
  World.ownsRow.kept h (row := some g) ⟨rfl, rfl, rfl, by simp [World.setCell], fun k _ hne => by
    have hk : k ≠ g := fun e => hne (by rw [e])
    exact (Below.heap_setCell (w.setCell ⟨g, 0, none⟩ (.int .i64 p)) ⟨g, 1, none⟩ (.int .i64 q) k hk).trans (Below.heap_setCell w ⟨g, 0, none⟩ (.int .i64 p) k hk)⟩ (.inr hg)
/-- The ways that the heads of two lists can stand. -/
theorem heads (l m : List (Int × Int)) (h : ¬ (l = [] ∧ m = [])) :
    (∃ x l', l = x :: l' ∧ headZ l m = -1) ∨ (∃ x l' y m', l = x :: l' ∧ m = y :: m' ∧ headZ l m = 0) ∨ (∃ x l' y m', l = x :: l' ∧ m = y :: m' ∧ headZ l m = 1) ∨ (∃ y m', l = [] ∧ m = y :: m' ∧ headZ l m = 1) := by
  cases l with
  | nil =>
    cases m with
    | nil => exact absurd ⟨rfl, rfl⟩ h
    | cons y m => exact .inr (.inr (.inr ⟨y, m, rfl, rfl, rfl⟩))
  | cons x l =>
    cases m with
    | nil => exact .inl ⟨x, l, rfl, rfl⟩
    | cons y m =>
      have hz : headZ (x :: l) (y :: m) = cmpZ x.1 x.2 y.1 y.2 := rfl
      rw [cmpZ_eq] at hz
      split at hz
      · exact .inl ⟨x, l, rfl, hz⟩
      · split at hz
        · exact .inr (.inr (.inl ⟨x, l, y, m, rfl, rfl, hz⟩))
        · exact .inr (.inl ⟨x, l, y, m, rfl, rfl, hz⟩)
theorem enters_fn {f : FuncId} {fn : Func} {c : Code} (hf : Try.prog.funcs[f]? = some fn) (hname : (fn.name == "runtime.NumGoroutine") = false) (hb : fn.body = some c) (args : Array Value) (w : World) : (callFunc f args).run Try.prog w = .ok (.enter f args) w := by
  have h1 : fn.name ≠ "runtime.NumGoroutine" := by simpa using hname
  simp [callFunc, hf, h1, hb, mark, go_sem]
theorem keeps_enter {K : Nat} {k : Bool → Bool → Bool} (h : Keeps K k) (args : Array Value) (w : World) : (callFunc K args).run Try.prog w = .ok (.enter K args) w := by
  obtain ⟨rfl, _⟩ := h
  exact enters_fn Try.func61 (by kernel_rfl) rfl args w
end Go.Proofs.Ytkoeplgkiogjlaa
namespace Go.Proofs.Ytkoeplgkiogjlaa
open Go.RowKit Sets
/-- A list is answered, in new memory or not; what was there stands. -/
def Lists (l : List (Int × Int)) (w : World) (e : Ending) (w' : World) : Prop := ∃ v', e = .returned v' ∧ Ids w' v' l ∧ Below w.heap.size w w'
end Go.Proofs.Ytkoeplgkiogjlaa
namespace Go.Proofs.Ytkoeplgkiogjlaa
open Go.RowKit
theorem info23 : (Try.prog.info? 35).map (fun i => (i.zero, i.size, i.bytes)) = some (some (.agg #[.int .i64 0, .int .i64 0]), 2, 16) := by kernel_rfl
/-- append of a list to a slice of the call's own. -/
theorem wpList_append_listROW {ops : Array Oper} {rest : List Oper} {o : Oper} {a : Act} {Q : Exit → Act → World → Prop} (hgd : o.guard = none) (s x : Operand)
    (ho : o.op = .call { callee := .builtin .append, args := #[s, x], argTypes := #[36, 36] })
    (wr : World) (base : Nat) (v u : Value) (d l : List (Int × Int)) (hs : a.eval s = v) (hx : a.eval x = u)
    (hown : Owns wr base v d) (hI : Ids wr u l) (hl : d.length + l.length ≤ 100000) (hb : base ≤ wr.heap.size)
    (h : ∀ v' w', Owns w' base v' (d ++ l) → Below base wr w' → wpList Try.prog ops Q rest (a.put o.dst v') w') :
    wpList Try.prog ops Q (o :: rest) a wr := by
  obtain ⟨i0, hi, hz0, hz1, hz2⟩ := info_parts info23
  obtain ⟨A, c, rfl, h0, hc, hk⟩ := hI
  cases A with
  | none =>
    obtain rfl := h0 rfl
    have hn : l = [] := List.eq_nil_of_length_eq_zero (by omega)
    subst hn
    refine wpList_append_own_none hgd s x 36 ho base 35 i0 2 Try.underlying36 hi _ d.length (flat d) hs hown hx (h _ _ (by rw [List.append_nil]; exact hown) (Below.refl _ _))
  | some ad =>
    refine wpList_append_own _ hgd s x 36 ho base 35 i0 (.agg #[.int .i64 0, .int .i64 0]) 2 16 Try.underlying36 hi hz0 hz1 hz2 rfl (by decide) v d.length (flat d) hs hown ad l.length c (flat l) hx (flat_len l)
      (fun j u hu => ?_) (flat_one l) (by unfold maxLen; omega) (by omega) hb ?_
    · obtain ⟨k, hlt, hj⟩ := flat_split hu
      obtain ⟨ad', e, h1, h2, h3⟩ := hk k hlt
      injection e with e
      subst e
      rcases hj with ⟨rfl, rfl⟩ | ⟨rfl, rfl⟩
      · exact h2
      · rw [add_odd]
        exact h3
    · intro v' w' h1 h2 _
      refine h v' w' ?_ ((Below.refl base wr).grown h2 hb fun k hk => (World.ownsRow.lt hown k hk).1)
      unfold Owns
      rw [flat_append, List.length_append]
      exact h1
/-- append of one ID that has just been put into a row of its own. -/
theorem wpList_append_oneROW {ops : Array Oper} {rest : List Oper} {o : Oper} {a : Act} {Q : Exit → Act → World → Prop} (hgd : o.guard = none) (s x : Operand)
    (ho : o.op = .call { callee := .builtin .append, args := #[s, x], argTypes := #[36, 36] })
    (wr : World) (base : Nat) (v : Value) (d : List (Int × Int)) (p q : Int) (hs : a.eval s = v) (hx : a.eval x = .slice (some ⟨wr.heap.size, 0, none⟩) 1 1)
    (hown : Owns wr base v d) (hl : d.length ≤ 99999) (hb : base ≤ wr.heap.size)
    (h : ∀ v' w', Owns w' base v' (d ++ [(p, q)]) → Below base wr w' → wpList Try.prog ops Q rest (a.put o.dst v') w') :
    wpList Try.prog ops Q (o :: rest) a (wr.alloc (.cells #[.int .i64 p, .int .i64 q] 35)) := by
  refine wpList_append_listROW hgd s x ho _ base v _ d [(p, q)] hs hx (hown.below ((Below.refl _ _).alloc (Nat.le_refl _) _)) (ids_one wr p q) (by simp; omega) (by simp; omega) fun v' w' h1 h2 => h v' w' h1 ?_
  exact ((Below.refl base wr).alloc hb _).trans h2
/-- make of a list, empty, with room for n IDs. -/
theorem wpList_make_roomROW {ops : Array Oper} {rest : List Oper} {o : Oper} {a : Act} {Q : Exit → Act → World → Prop} (w : World) (hgd : o.guard = none) (x : Operand) (hop : o.op = .makeSlice 36 (.const (.int .i64 0)) x) (C : Int) (hx : a.eval x = .int .i64 C) (h0 : 0 ≤ C) (hn : C ≤ 100000)
    (h : ∀ v' w', Owns w' w.heap.size v' [] → Below w.heap.size w w' → wpList Try.prog ops Q rest (a.put o.dst v') w') : wpList Try.prog ops Q (o :: rest) a w := by
  obtain ⟨i0, hi, hz0, hz1, hz2⟩ := info_parts info23
  obtain ⟨n, rfl⟩ := Int.eq_ofNat_of_zero_le h0
  exact wpList_make_own w hgd _ x 36 hop w.heap.size 35 i0 (.agg #[.int .i64 0, .int .i64 0]) 2 Try.underlying36 hi hz0 hz1 .i64 .i64 n n rfl hx rfl (by rw [hz2]; omega) (by unfold maxLen; omega) (Nat.le_refl _)
    fun w' h1 h2 => h _ w' h1 ((Below.refl w.heap.size w).grown h2 (Nat.le_refl _) (fun k hk => by cases hk))
end Go.Proofs.Ytkoeplgkiogjlaa
namespace Go.Proofs.Ytkoeplgkiogjlaa
open Go.RowKit
theorem elem24 : Try.prog.elem 36 = 35 := by kernel_rfl
theorem size23 (W : World) : (sizeOf 35).run Try.prog W = .ok 2 W := by kernel_rfl
theorem under24 : Try.prog.underlying 36 = some (.slice (Try.prog.elem 36)) := by rw [elem24]; exact Try.underlying36
/-- What stands from place k on. -/
theorem run_fromROW {w : World} {v : Value} {l : List (Int × Int)} (h : Ids w v l) (k : Nat) (hk : k ≤ l.length) :
    ∃ V, (∀ W, (Instr.slice 36 v (some (.int .i64 (k : Int))) none none).run Try.prog W = .ok V W) ∧ Ids w V (l.drop k) := by
  obtain ⟨A, c, rfl, h0, hc, hx⟩ := id h
  refine ⟨sliced A k l.length c 2, fun W => ?_, ?_⟩
  · rw [run_slice_l (w := W) (P := Try.prog) 36 A l.length c under24 .i64 (k : Int) (by omega) (by omega)]
    rw [elem24, size23]
    rfl
  · have := h.sliced hk (Nat.le_refl _)
    rwa [List.take_length] at this
/-- What stands ahead of place k. -/
theorem run_toROW {w : World} {v : Value} {l : List (Int × Int)} (h : Ids w v l) (k : Nat) (hk : k ≤ l.length) :
    ∃ V, (∀ W, (Instr.slice 36 v none (some (.int .i64 (k : Int))) none).run Try.prog W = .ok V W) ∧ Ids w V (l.take k) := by
  obtain ⟨A, c, rfl, h0, hc, hx⟩ := id h
  refine ⟨sliced A 0 k c 2, fun W => ?_, ?_⟩
  · rw [run_slice_h (w := W) (P := Try.prog) 36 A l.length c under24 .i64 (k : Int) (by omega) (by omega)]
    rw [elem24, size23]
    rfl
  · exact h.sliced (Nat.zero_le _) hk
/-- All but the first one of a list. -/
theorem run_tailROW {w : World} {v : Value} {x : Int × Int} {l : List (Int × Int)} (h : Ids w v (x :: l)) :
    ∃ V, (∀ W, (Instr.slice 36 v (some (.int .i64 1)) none none).run Try.prog W = .ok V W) ∧ Ids w V l := run_fromROW h 1 (by simp)
end Go.Proofs.Ytkoeplgkiogjlaa
namespace Go.Proofs.Ytkoeplgkiogjlaa
open Go.RowKit
set_option maxHeartbeats 2000000 in
theorem merged_new (K : Nat) (k : Bool → Bool → Bool) (hK : Keeps K k) (v u : Value) (l m : List (Int × Int)) (w : World) (h : Ids w v l) (h2 : Ids w u m) (hl : l.length ≤ 40000) (hm : m.length ≤ 40000) :
    Calls Try.prog 60 #[v, u, .func (.func 51) #[] #[], .func (.func K) #[] #[]] w fun e w' => ∃ v', e = .returned v' ∧ Owns w' w.heap.size v' (mrg k l m) ∧ Below w.heap.size w w' := by
  obtain ⟨A, c, rfl, hz⟩ := id h
  obtain ⟨B, d, rfl, hz2⟩ := id h2
  clear hz hz2
  have HI := Lib.hid h
  have HJ := Lib.hid h2
  have HK := Lib.hid hK
  clear h h2 hK
  go_enter Try.func60, Try.ntmps60
  go_wp2_with (at_make; refine wpList_make_roomROW _ rfl (.tmp 18) rfl _ rfl (by omega) (by omega) ?_; intro v1 w1 h1 h2)
  have HO := Lib.hid h1
  have HW := Lib.hid h2
  clear h1 h2
  go_loopw [0, 1, 9] (fun s0 s1 s9 wr => ∃ lk mk d, Ids w s0 lk ∧ Ids w s1 mk ∧ Owns wr w.heap.size s9 d ∧ d ++ mrg k lk mk = mrg k l m ∧ lk.length + mk.length + d.length ≤ l.length + m.length ∧ Below w.heap.size w wr) (fun s0 s1 _ _ => lenOf s0 + lenOf s1)
  case atStart => exact ⟨l, m, [], HI.out, HJ.out, HO.out, rfl, by simp, HW.out⟩
  case round =>
    obtain ⟨lk, mk, d, h0, h1, ho, he, hd, hw⟩ := hrel
    have H0 := Lib.hid h0
    have H1 := Lib.hid h1
    have H9 := Lib.hid ho
    have HE := Lib.hid he
    have HB := Lib.hid hw
    clear ho he hw
    by_cases hn : lk = [] ∧ mk = []
    · obtain ⟨rfl, rfl⟩ := hn
      obtain ⟨A0, c0, rfl, _⟩ := h0
      obtain ⟨A1, c1, rfl, _⟩ := h1
      go_wp2_with fail
      go_ret
      exact ⟨_, rfl, by have := HE.out; rw [mrg_none, List.append_nil] at this; rw [← this]; exact H9.out, HB.out⟩
    · have hh := heads lk mk hn
      have HF := Lib.hid fun W (hb : Below w.heap.size w W) => first_any u0 u1 lk mk W (H0.out.below hb) (H1.out.below hb) (by omega) (by omega)
      rcases hh with ⟨x, l', rfl, e⟩ | ⟨x, l', y, m', rfl, rfl, e⟩ | ⟨x, l', y, m', rfl, rfl, e⟩ | ⟨y, m', rfl, rfl, e⟩
      · rw [e] at HF
        obtain ⟨ad, c0, rfl, hc⟩ := h0.head
        have HC := Lib.hid hc
        obtain ⟨V, ht, hv⟩ := run_tailROW H0.out
        have HT := Lib.hid hv
        have HN := Lib.hid hv.len
        obtain ⟨A1, c1, rfl, hx1⟩ := id h1
        clear hc hv hx1
        have HM := Lib.hid (mrg_left (k := k) e)
        have hK := keeps_enter HK.out
        clear h0 h1 e hn
        go_wp2_with fail
        (with_reducible refine (HF.out _ HB.out).mono ?_)
        rintro e w2 ⟨rfl, hb⟩
        have B2 := Lib.hid (below_after HB.out hb (Nat.le_refl _))
        have O2 := Lib.hid (H9.out.below hb)
        clear hb
        go_wp2_with fail
        have X3 := Lib.hid (box_new w2 0 0)
        have B3 := Lib.hid (B2.out.alloc B2.out.size (.cells #[.int .i64 0, .int .i64 0] 35))
        have O3 := Lib.hid (O2.out.below ((Below.refl w2.heap.size w2).alloc (Nat.le_refl _) (.cells #[.int .i64 0, .int .i64 0] 35)))
        have G3 := Lib.hid B2.out.size
        have Q3 := Lib.hid (owns_apart O2.out)
        generalize w2.alloc (.cells #[.int .i64 0, .int .i64 0] 35) = w3 at *
        generalize w2.heap.size = g at *
        obtain ⟨p1, p2⟩ := HC.out w3 B3.out
        obtain ⟨p3, p4⟩ := box_cells X3.out
        obtain ⟨p5, p6⟩ := box_free X3.out
        go_region
        clear p1 p2 p3 p4 p5 p6
        have X4 := Lib.hid (show Box ((w3.setCell ⟨g, 0, none⟩ (.int .i64 x.1)).setCell ⟨g, 1, none⟩ (.int .i64 x.2)).drew g x.1 x.2 from box_set X3.out x.1 x.2)
        have B4 := Lib.hid (show Below w.heap.size w ((w3.setCell ⟨g, 0, none⟩ (.int .i64 x.1)).setCell ⟨g, 1, none⟩ (.int .i64 x.2)).drew from ((B3.out.setCell G3.out _).setCell G3.out _).drew)
        have O4 := Lib.hid (show Owns ((w3.setCell ⟨g, 0, none⟩ (.int .i64 x.1)).setCell ⟨g, 1, none⟩ (.int .i64 x.2)).drew w.heap.size u9 d from owns_set O3.out Q3.out x.1 x.2)
        generalize ((w3.setCell ⟨g, 0, none⟩ (.int .i64 x.1)).setCell ⟨g, 1, none⟩ (.int .i64 x.2)).drew = w4 at *
        go_wp2_with fail
        (with_reducible refine (keeps_any HK.out _ _ _).mono ?_)
        rintro e w9 ⟨rfl, rfl⟩
        obtain ⟨p1, p2⟩ := box_cells X4.out
        cases hkk : k true false
        · have HKK := Lib.hid (show d ++ mrg k l' mk = mrg k l m by rw [← HE.out, HM.out, hkk]; rfl)
          clear hkk hK
          go_wp2_with fail
          clear p1 p2
          go_roundw
          case rel => exact ⟨l', mk, d, HT.out, H1.out, O4.out, HKK.out, by simp at hd ⊢; omega, B4.out⟩
          case measure => simp [HN.out, lenOf_slice]; try omega
        · have HKK := Lib.hid (show (d ++ [(x.1, x.2)]) ++ mrg k l' mk = mrg k l m by rw [← HE.out, HM.out, hkk, List.append_assoc]; rfl)
          clear hkk hK
          go_wp2_with (at_builtin; refine wpList_append_oneROW rfl (.tmp 52) (.tmp 54) rfl w4 w.heap.size u9 d x.1 x.2 rfl rfl O4.out (by simp at hd; omega) B4.out.size ?_; intro v8 w8 h8 h9)
          have O8 := Lib.hid h8
          have B8 := Lib.hid (B4.out.trans h9)
          clear h8 h9 p1 p2
          go_wp2_with fail
          go_roundw
          case rel => exact ⟨l', mk, d ++ [(x.1, x.2)], HT.out, H1.out, O8.out, HKK.out, by simp at hd ⊢; omega, B8.out⟩
          case measure => simp [HN.out, lenOf_slice]; try omega
      · rw [e] at HF
        obtain ⟨ad, c0, rfl, hc⟩ := h0.head
        have HC := Lib.hid hc
        obtain ⟨V, ht, hv⟩ := run_tailROW H0.out
        have HT := Lib.hid hv
        have HN := Lib.hid hv.len
        obtain ⟨ae, c1, rfl, hc2⟩ := h1.head
        have HD := Lib.hid hc2
        obtain ⟨U, ht2, hv2⟩ := run_tailROW H1.out
        have HU := Lib.hid hv2
        have HV := Lib.hid hv2.len
        clear hc hv hc2 hv2
        have HM := Lib.hid (mrg_same (k := k) e)
        have hK := keeps_enter HK.out
        clear h0 h1 e hn
        go_wp2_with fail
        (with_reducible refine (HF.out _ HB.out).mono ?_)
        rintro e w2 ⟨rfl, hb⟩
        have B2 := Lib.hid (below_after HB.out hb (Nat.le_refl _))
        have O2 := Lib.hid (H9.out.below hb)
        clear hb
        go_wp2_with fail
        have X3 := Lib.hid (box_new w2 0 0)
        have B3 := Lib.hid (B2.out.alloc B2.out.size (.cells #[.int .i64 0, .int .i64 0] 35))
        have O3 := Lib.hid (O2.out.below ((Below.refl w2.heap.size w2).alloc (Nat.le_refl _) (.cells #[.int .i64 0, .int .i64 0] 35)))
        have G3 := Lib.hid B2.out.size
        have Q3 := Lib.hid (owns_apart O2.out)
        generalize w2.alloc (.cells #[.int .i64 0, .int .i64 0] 35) = w3 at *
        generalize w2.heap.size = g at *
        obtain ⟨p1, p2⟩ := HC.out w3 B3.out
        obtain ⟨p3, p4⟩ := box_cells X3.out
        obtain ⟨p5, p6⟩ := box_free X3.out
        go_region
        clear p1 p2 p3 p4 p5 p6
        have X4 := Lib.hid (show Box ((w3.setCell ⟨g, 0, none⟩ (.int .i64 x.1)).setCell ⟨g, 1, none⟩ (.int .i64 x.2)).drew g x.1 x.2 from box_set X3.out x.1 x.2)
        have B4 := Lib.hid (show Below w.heap.size w ((w3.setCell ⟨g, 0, none⟩ (.int .i64 x.1)).setCell ⟨g, 1, none⟩ (.int .i64 x.2)).drew from ((B3.out.setCell G3.out _).setCell G3.out _).drew)
        have O4 := Lib.hid (show Owns ((w3.setCell ⟨g, 0, none⟩ (.int .i64 x.1)).setCell ⟨g, 1, none⟩ (.int .i64 x.2)).drew w.heap.size u9 d from owns_set O3.out Q3.out x.1 x.2)
        generalize ((w3.setCell ⟨g, 0, none⟩ (.int .i64 x.1)).setCell ⟨g, 1, none⟩ (.int .i64 x.2)).drew = w4 at *
        go_wp2_with fail
        obtain ⟨p1, p2⟩ := HD.out w4 B4.out
        obtain ⟨p3, p4⟩ := box_cells X4.out
        obtain ⟨p5, p6⟩ := box_free X4.out
        go_region
        clear p1 p2 p3 p4 p5 p6
        have X5 := Lib.hid (show Box ((w4.setCell ⟨g, 0, none⟩ (.int .i64 y.1)).setCell ⟨g, 1, none⟩ (.int .i64 y.2)).drew g y.1 y.2 from box_set X4.out y.1 y.2)
        have B5 := Lib.hid (show Below w.heap.size w ((w4.setCell ⟨g, 0, none⟩ (.int .i64 y.1)).setCell ⟨g, 1, none⟩ (.int .i64 y.2)).drew from ((B4.out.setCell G3.out _).setCell G3.out _).drew)
        have O5 := Lib.hid (show Owns ((w4.setCell ⟨g, 0, none⟩ (.int .i64 y.1)).setCell ⟨g, 1, none⟩ (.int .i64 y.2)).drew w.heap.size u9 d from owns_set O4.out Q3.out y.1 y.2)
        generalize ((w4.setCell ⟨g, 0, none⟩ (.int .i64 y.1)).setCell ⟨g, 1, none⟩ (.int .i64 y.2)).drew = w5 at *
        go_wp2_with fail
        (with_reducible refine (keeps_any HK.out _ _ _).mono ?_)
        rintro e w9 ⟨rfl, rfl⟩
        obtain ⟨p1, p2⟩ := box_cells X5.out
        cases hkk : k true true
        · have HKK := Lib.hid (show d ++ mrg k l' m' = mrg k l m by rw [← HE.out, HM.out, hkk]; rfl)
          clear hkk hK
          go_wp2_with fail
          clear p1 p2
          go_roundw
          case rel => exact ⟨l', m', d, HT.out, HU.out, O5.out, HKK.out, by simp at hd ⊢; omega, B5.out⟩
          case measure => simp [HN.out, HV.out, lenOf_slice]; try omega
        · have HKK := Lib.hid (show (d ++ [(y.1, y.2)]) ++ mrg k l' m' = mrg k l m by rw [← HE.out, HM.out, hkk, List.append_assoc]; rfl)
          clear hkk hK
          go_wp2_with (at_builtin; refine wpList_append_oneROW rfl (.tmp 52) (.tmp 54) rfl w5 w.heap.size u9 d y.1 y.2 rfl rfl O5.out (by simp at hd; omega) B5.out.size ?_; intro v8 w8 h8 h9)
          have O8 := Lib.hid h8
          have B8 := Lib.hid (B5.out.trans h9)
          clear h8 h9 p1 p2
          go_wp2_with fail
          go_roundw
          case rel => exact ⟨l', m', d ++ [(y.1, y.2)], HT.out, HU.out, O8.out, HKK.out, by simp at hd ⊢; omega, B8.out⟩
          case measure => simp [HN.out, HV.out, lenOf_slice]; try omega
      · rw [e] at HF
        obtain ⟨ae, c1, rfl, hc2⟩ := h1.head
        have HD := Lib.hid hc2
        obtain ⟨U, ht2, hv2⟩ := run_tailROW H1.out
        have HU := Lib.hid hv2
        have HV := Lib.hid hv2.len
        obtain ⟨ad, c0, rfl, hc⟩ := h0.head
        clear hc hc2 hv2
        have HM := Lib.hid (mrg_right (k := k) e)
        have hK := keeps_enter HK.out
        clear h0 h1 e hn
        go_wp2_with fail
        (with_reducible refine (HF.out _ HB.out).mono ?_)
        rintro e w2 ⟨rfl, hb⟩
        have B2 := Lib.hid (below_after HB.out hb (Nat.le_refl _))
        have O2 := Lib.hid (H9.out.below hb)
        clear hb
        go_wp2_with fail
        have X3 := Lib.hid (box_new w2 0 0)
        have B3 := Lib.hid (B2.out.alloc B2.out.size (.cells #[.int .i64 0, .int .i64 0] 35))
        have O3 := Lib.hid (O2.out.below ((Below.refl w2.heap.size w2).alloc (Nat.le_refl _) (.cells #[.int .i64 0, .int .i64 0] 35)))
        have G3 := Lib.hid B2.out.size
        have Q3 := Lib.hid (owns_apart O2.out)
        generalize w2.alloc (.cells #[.int .i64 0, .int .i64 0] 35) = w3 at *
        generalize w2.heap.size = g at *
        obtain ⟨p1, p2⟩ := HD.out w3 B3.out
        obtain ⟨p3, p4⟩ := box_cells X3.out
        obtain ⟨p5, p6⟩ := box_free X3.out
        go_region
        clear p1 p2 p3 p4 p5 p6
        have X4 := Lib.hid (show Box ((w3.setCell ⟨g, 0, none⟩ (.int .i64 y.1)).setCell ⟨g, 1, none⟩ (.int .i64 y.2)).drew g y.1 y.2 from box_set X3.out y.1 y.2)
        have B4 := Lib.hid (show Below w.heap.size w ((w3.setCell ⟨g, 0, none⟩ (.int .i64 y.1)).setCell ⟨g, 1, none⟩ (.int .i64 y.2)).drew from ((B3.out.setCell G3.out _).setCell G3.out _).drew)
        have O4 := Lib.hid (show Owns ((w3.setCell ⟨g, 0, none⟩ (.int .i64 y.1)).setCell ⟨g, 1, none⟩ (.int .i64 y.2)).drew w.heap.size u9 d from owns_set O3.out Q3.out y.1 y.2)
        generalize ((w3.setCell ⟨g, 0, none⟩ (.int .i64 y.1)).setCell ⟨g, 1, none⟩ (.int .i64 y.2)).drew = w4 at *
        go_wp2_with fail
        (with_reducible refine (keeps_any HK.out _ _ _).mono ?_)
        rintro e w9 ⟨rfl, rfl⟩
        obtain ⟨p1, p2⟩ := box_cells X4.out
        cases hkk : k false true
        · have HKK := Lib.hid (show d ++ mrg k (x :: l') m' = mrg k l m by rw [← HE.out, HM.out, hkk]; rfl)
          clear hkk hK
          go_wp2_with fail
          clear p1 p2
          go_roundw
          case rel => exact ⟨(x :: l'), m', d, H0.out, HU.out, O4.out, HKK.out, by simp at hd ⊢; omega, B4.out⟩
          case measure => simp [HV.out, lenOf_slice]; try omega
        · have HKK := Lib.hid (show (d ++ [(y.1, y.2)]) ++ mrg k (x :: l') m' = mrg k l m by rw [← HE.out, HM.out, hkk, List.append_assoc]; rfl)
          clear hkk hK
          go_wp2_with (at_builtin; refine wpList_append_oneROW rfl (.tmp 52) (.tmp 54) rfl w4 w.heap.size u9 d y.1 y.2 rfl rfl O4.out (by simp at hd; omega) B4.out.size ?_; intro v8 w8 h8 h9)
          have O8 := Lib.hid h8
          have B8 := Lib.hid (B4.out.trans h9)
          clear h8 h9 p1 p2
          go_wp2_with fail
          go_roundw
          case rel => exact ⟨(x :: l'), m', d ++ [(y.1, y.2)], H0.out, HU.out, O8.out, HKK.out, by simp at hd ⊢; omega, B8.out⟩
          case measure => simp [HV.out, lenOf_slice]; try omega
      · rw [e] at HF
        obtain ⟨ae, c1, rfl, hc2⟩ := h1.head
        have HD := Lib.hid hc2
        obtain ⟨U, ht2, hv2⟩ := run_tailROW H1.out
        have HU := Lib.hid hv2
        have HV := Lib.hid hv2.len
        obtain ⟨A0, c0, hv0, hx0⟩ := id h0
        obtain rfl : u0 = .slice A0 0 c0 := hv0
        clear hc2 hv2 hx0
        have HM := Lib.hid (mrg_right (k := k) e)
        have hK := keeps_enter HK.out
        clear h0 h1 e hn
        go_wp2_with fail
        (with_reducible refine (HF.out _ HB.out).mono ?_)
        rintro e w2 ⟨rfl, hb⟩
        have B2 := Lib.hid (below_after HB.out hb (Nat.le_refl _))
        have O2 := Lib.hid (H9.out.below hb)
        clear hb
        go_wp2_with fail
        have X3 := Lib.hid (box_new w2 0 0)
        have B3 := Lib.hid (B2.out.alloc B2.out.size (.cells #[.int .i64 0, .int .i64 0] 35))
        have O3 := Lib.hid (O2.out.below ((Below.refl w2.heap.size w2).alloc (Nat.le_refl _) (.cells #[.int .i64 0, .int .i64 0] 35)))
        have G3 := Lib.hid B2.out.size
        have Q3 := Lib.hid (owns_apart O2.out)
        generalize w2.alloc (.cells #[.int .i64 0, .int .i64 0] 35) = w3 at *
        generalize w2.heap.size = g at *
        obtain ⟨p1, p2⟩ := HD.out w3 B3.out
        obtain ⟨p3, p4⟩ := box_cells X3.out
        obtain ⟨p5, p6⟩ := box_free X3.out
        go_region
        clear p1 p2 p3 p4 p5 p6
        have X4 := Lib.hid (show Box ((w3.setCell ⟨g, 0, none⟩ (.int .i64 y.1)).setCell ⟨g, 1, none⟩ (.int .i64 y.2)).drew g y.1 y.2 from box_set X3.out y.1 y.2)
        have B4 := Lib.hid (show Below w.heap.size w ((w3.setCell ⟨g, 0, none⟩ (.int .i64 y.1)).setCell ⟨g, 1, none⟩ (.int .i64 y.2)).drew from ((B3.out.setCell G3.out _).setCell G3.out _).drew)
        have O4 := Lib.hid (show Owns ((w3.setCell ⟨g, 0, none⟩ (.int .i64 y.1)).setCell ⟨g, 1, none⟩ (.int .i64 y.2)).drew w.heap.size u9 d from owns_set O3.out Q3.out y.1 y.2)
        generalize ((w3.setCell ⟨g, 0, none⟩ (.int .i64 y.1)).setCell ⟨g, 1, none⟩ (.int .i64 y.2)).drew = w4 at *
        go_wp2_with fail
        (with_reducible refine (keeps_any HK.out _ _ _).mono ?_)
        rintro e w9 ⟨rfl, rfl⟩
        obtain ⟨p1, p2⟩ := box_cells X4.out
        cases hkk : k false true
        · have HKK := Lib.hid (show d ++ mrg k [] m' = mrg k l m by rw [← HE.out, HM.out, hkk]; rfl)
          clear hkk hK
          go_wp2_with fail
          clear p1 p2
          go_roundw
          case rel => exact ⟨[], m', d, H0.out, HU.out, O4.out, HKK.out, by simp at hd ⊢; omega, B4.out⟩
          case measure => simp [HV.out, lenOf_slice]; try omega
        · have HKK := Lib.hid (show (d ++ [(y.1, y.2)]) ++ mrg k [] m' = mrg k l m by rw [← HE.out, HM.out, hkk, List.append_assoc]; rfl)
          clear hkk hK
          go_wp2_with (at_builtin; refine wpList_append_oneROW rfl (.tmp 52) (.tmp 54) rfl w4 w.heap.size u9 d y.1 y.2 rfl rfl O4.out (by simp at hd; omega) B4.out.size ?_; intro v8 w8 h8 h9)
          have O8 := Lib.hid h8
          have B8 := Lib.hid (B4.out.trans h9)
          clear h8 h9 p1 p2
          go_wp2_with fail
          go_roundw
          case rel => exact ⟨[], m', d ++ [(y.1, y.2)], H0.out, HU.out, O8.out, HKK.out, by simp at hd ⊢; omega, B8.out⟩
          case measure => simp [HV.out, lenOf_slice]; try omega
end Go.Proofs.Ytkoeplgkiogjlaa
namespace Go.Proofs.Ytkoeplgkiogjlaa
open Go.RowKit Sets
/-- A list is answered, in new memory; what was there stands. -/
def News (l : List (Int × Int)) (w : World) (e : Ending) (w' : World) : Prop := ∃ v', e = .returned v' ∧ Owns w' w.heap.size v' l ∧ Below w.heap.size w w'
theorem News.lists {l : List (Int × Int)} {w w' : World} {e : Ending} (h : News l w e w') : Lists l w e w' := by
  obtain ⟨v, h1, h2, h3⟩ := h
  exact ⟨v, h1, ids_of_owns h2, h3⟩
theorem Owns.mono {w : World} {base b : Nat} {v : Value} {l : List (Int × Int)} (h : Owns w base v l) (hb : b ≤ base) : Owns w b v l := by
  refine ⟨h.1, ?_⟩
  rcases id h.2 with h1 | ⟨g, cap, cur, h1, h2, h3⟩
  · exact .inl h1
  · exact .inr ⟨g, cap, cur, h1, Nat.le_trans hb h2, h3⟩
set_option maxHeartbeats 1000000 in
theorem sorted_risingROW (v : Value) (l : List (Int × Int)) (w : World) (h : Ids w v l) (hl : l.length ≤ 40000) (hr : risesB l = true) :
    Calls Try.prog 50 #[v, .func (.func 51) #[] #[]] w (News (setOf l) w) := by
  have HS := Lib.hid (setOf_self ((risesB_iff l).1 hr))
  have HR := Lib.hid hr
  have HI := Lib.hid h
  obtain ⟨A, c, rfl, hz⟩ := h
  clear hr hz
  go_enter Try.func50, Try.ntmps50
  go_wp2_with fail
  (with_reducible refine (rising_gen _ l _ HI.out (by omega)).mono ?_)
  rintro e w1 ⟨rfl, hb⟩
  rw [HR.out]
  have HB := Lib.hid hb
  have HJ := Lib.hid (HI.out.below hb)
  clear hb
  go_wp2_with (first
    | (at_make; refine wpList_make_roomROW _ rfl (.tmp 10) rfl _ rfl (by omega) (by omega) ?_; intro v2 w2 h1 h2; have HO := Lib.hid h1; have H2 := Lib.hid h2; have HK := Lib.hid (HJ.out.below h2); have HZ := Lib.hid h2.size; clear h1 h2)
    | (at_builtin; refine wpList_append_listROW rfl (.tmp 11) (.tmp 12) rfl _ w1.heap.size v2 _ [] l rfl rfl HO.out HK.out (by simp; omega) HZ.out ?_; intro v3 w3 h1 h2; have HP := Lib.hid h1; have H3 := Lib.hid (H2.out.trans h2); clear h1 h2))
  go_ret
  exact ⟨v3, rfl, by rw [HS.out]; exact HP.out.mono HB.out.size, below_after HB.out H3.out (Nat.le_refl _)⟩
set_option maxHeartbeats 2000000 in
theorem sorted_new (n : Nat) : ∀ (v : Value) (l : List (Int × Int)) (w : World), Ids w v l → l.length ≤ n → l.length ≤ 40000 →
    Calls Try.prog 50 #[v, .func (.func 51) #[] #[]] w (News (setOf l) w) := by
  induction n with
  | zero =>
    intro v l w h h0 hl
    exact sorted_risingROW v l w h hl (by rw [List.eq_nil_of_length_eq_zero (by omega : l.length = 0)]; rfl)
  | succ n ih =>
    intro v l w h hn hl
    cases hr : risesB l
    · have h2 : 2 ≤ l.length := by
        cases l with
        | nil => cases hr
        | cons x l =>
          cases l with
          | nil => cases hr
          | cons y l => simp
      obtain ⟨V, ht, hv⟩ := run_toROW h (l.length / 2) (by omega)
      obtain ⟨U, hu, hw⟩ := run_fromROW h (l.length / 2) (by omega)
      have hl1 : (l.take (l.length / 2)).length ≤ n := by rw [List.length_take]; omega
      have hl2 : (l.drop (l.length / 2)).length ≤ n := by rw [List.length_drop]; omega
      have hl3 : (l.take (l.length / 2)).length ≤ 40000 := by rw [List.length_take]; omega
      have hl4 : (l.drop (l.length / 2)).length ≤ 40000 := by rw [List.length_drop]; omega
      have HE := Lib.hid (join_halves l (l.length / 2))
      have HA := Lib.hid fun W (hb : Below w.heap.size w W) => ih V _ W (hv.below hb) hl1 hl3
      have HC := Lib.hid fun W (hb : Below w.heap.size w W) => ih U _ W (hw.below hb) hl2 hl4
      have HM := Lib.hid fun v1 v2 W h1 h2 => merged_new 61 _ keeps_all v1 v2 (setOf (l.take (l.length / 2))) (setOf (l.drop (l.length / 2))) W h1 h2 (by have := setOf_len (l.take (l.length / 2)); omega) (by have := setOf_len (l.drop (l.length / 2)); omega)
      have HR := Lib.hid hr
      have HI := Lib.hid h
      rw [show ((l.length / 2 : Nat) : Int) = (l.length : Int) / 2 by omega] at ht hu
      obtain ⟨A, c, rfl, hz⟩ := h
      clear hr hz hv hw hl1 hl2 hl3 hl4 ih
      go_enter Try.func50, Try.ntmps50
      go_wp2_with fail
      (with_reducible refine (rising_gen _ l _ HI.out (by omega)).mono ?_)
      rintro e w1 ⟨rfl, hb⟩
      rw [HR.out]
      have HB := Lib.hid hb
      clear hb
      go_wp2_with fail
      go_region_held3 (fun w' => Hid (Below w.heap.size w w'))
        (first | exact Lib.hid HB.out.drew | exact HK)
        (first
          | (go_at_call 50; (with_reducible refine (HA.out _ HB.out.drew).mono ?_); rintro e w' ⟨r1, rfl, hi, hb⟩; have HK := Lib.hid (below_after HB.out.drew hb (Nat.le_refl _)); have J1 := Lib.hid hi; clear hb hi)
          | (go_at_call 50; (with_reducible refine (HC.out _ HK.out).mono ?_); rintro e w' ⟨r2, rfl, hi, hb⟩; have HK := Lib.hid (below_after HK.out hb (Nat.le_refl _)); have J1 := Lib.hid (J1.out.below hb); have J2 := Lib.hid hi; clear hb hi)
          | (go_at_call 60; (with_reducible refine (HM.out _ _ _ (ids_of_owns J1.out) (ids_of_owns J2.out)).mono ?_); rintro e w' ⟨r3, rfl, hi, hb⟩; have HZ := Lib.hid HK.out.size; have HK := Lib.hid (below_after HK.out hb (Nat.le_refl _)); have J3 := Lib.hid hi; clear hb hi))
      go_wp2_with fail
      go_ret
      exact ⟨_, rfl, by rw [← HE.out, ← mrg_all]; exact J3.out.mono HZ.out, HK.out⟩
    · exact sorted_risingROW v l w h hl hr
end Go.Proofs.Ytkoeplgkiogjlaa
namespace Go.Proofs.Ytkoeplgkiogjlaa
open Go.RowKit Sets
theorem set_new (v : Value) (l : List (Int × Int)) (w : World) (h : Ids w v l) (hl : l.length ≤ 40000) : Calls Try.prog 33 #[v] w (News (setOf l) w) := by
  have HI := Lib.hid h
  clear h
  go_enter Try.func33, Try.ntmps33
  go_wp2_with fail
  refine (sorted_new l.length v l _ HI.out (Nat.le_refl _) hl).mono ?_
  rintro e w1 ⟨r, rfl, hi, hb⟩
  have H1 := Lib.hid hi
  have B1 := Lib.hid hb
  clear hi hb
  go_wp2_with fail
  go_ret
  exact ⟨r, rfl, H1.out, B1.out⟩
end Go.Proofs.Ytkoeplgkiogjlaa
namespace Go.Proofs.Ytkoeplgkiogjlaa
open Go Go.RowKit Sets
attribute [local go_sem] Oper.semAt_some
/-- A block of one cell. -/
def One (w : World) (g t : Nat) (v : Value) : Prop := w.heap[g]? = some (.cells #[v] t (0, 0))
theorem one_cell {w : World} {g t : Nat} {v : Value} (h : One w g t v) : w.cell? ⟨g, 0, none⟩ = some v := by
  unfold One at h
  rw [cell_of_row _ _ 0 _ _ _ h]
  rfl
theorem one_new (w : World) (t : Nat) (v : Value) : One (w.alloc (.cells #[v] t)) w.heap.size t v := heap_alloc_new w _
theorem one_free {w : World} {g t : Nat} {v : Value} (h : One w g t v) : w.frozen? ⟨g, 0, none⟩ = false := by
  unfold One at h
  simp [World.frozen?, h]
theorem one_lt {w : World} {g t : Nat} {v : Value} (h : One w g t v) : g < w.heap.size := row_lt h
theorem one_below {w w' : World} {g t : Nat} {v : Value} (h : One w g t v) (hb : Below w.heap.size w w') : One w' g t v := (hb.block _ (one_lt h)).trans h
theorem below_one (w : World) (o : Obj) : Below w.heap.size w (w.alloc o) := (Below.refl w.heap.size w).alloc (Nat.le_refl _) o
/-- What the iterator reads. -/
def RdI (tA tB : Nat) (v : Value) (l : List Id2) (a i : Int) (A : World) : Prop := One A tA 36 v ∧ Box A tB a i ∧ Ids A v l
theorem RdI.below {tA tB : Nat} {v : Value} {l : List Id2} {a i : Int} {A B : World} (h : RdI tA tB v l a i A) (hb : Below A.heap.size A B) : RdI tA tB v l a i B := ⟨one_below h.1 hb, box_below h.2.1 hb, h.2.2.below hb⟩
end Go.Proofs.Ytkoeplgkiogjlaa
