/-
  Carried over: contracts of this program's functions. No statement is proved in this text.
-/
import Derived.Deep.AppendLies
import Derived.Test.YtmgkbfhkipfimaaRingA
import Derived.Test.YtmgkbfhkipfimaaRowSetOps
set_option maxRecDepth 20000
namespace Go.Proofs.Ytmgkbfhkipfimaa
open Go Go.RowKit Sets
attribute [local go_sem] Oper.semAt_some
/-- What is kept between two marks. -/
def Span (lo hi : Nat) (w w' : World) : Prop := w.heap.size ≤ w'.heap.size ∧ ∀ k, lo ≤ k → k < hi → w'.heap[k]? = w.heap[k]?
theorem Span.refl (lo hi : Nat) (w : World) : Span lo hi w w := ⟨Nat.le_refl _, fun _ _ _ => rfl⟩
theorem Span.trans {lo hi : Nat} {a b c : World} (h : Span lo hi a b) (k : Span lo hi b c) : Span lo hi a c := ⟨Nat.le_trans h.1 k.1, fun i h1 h2 => (k.2 i h1 h2).trans (h.2 i h1 h2)⟩
theorem Span.grown {lo hi : Nat} {w a b : World} {row : Option Nat} (h : Span lo hi w a) (hg : a.grownBy b row) (hi2 : hi ≤ w.heap.size) (hr : ∀ g, row = some g → g < lo ∨ hi ≤ g) : Span lo hi w b :=
  ⟨Nat.le_trans h.1 hg.size, fun k h1 h2 => (hg.block k (Nat.lt_of_lt_of_le h2 (Nat.le_trans hi2 h.1)) (fun e => by have := hr k e.symm; omega)).trans (h.2 k h1 h2)⟩
theorem span_below {lo hi : Nat} {w a b : World} (h : Span lo hi w a) (hb : Below a.heap.size a b) (hi2 : hi ≤ w.heap.size) : Span lo hi w b :=
  h.grown (row := none) ⟨hb.os, hb.tape, hb.output, hb.size, fun k hk _ => hb.block k hk⟩ hi2 (fun g e => by cases e)
theorem Ids.span {lo hi b : Nat} {w w' : World} {v : Value} {l : List (Int × Int)} (h : Owns w b v l) (hs : Span lo hi w w') (hlo : lo ≤ b) (hhi : w.heap.size ≤ hi) : Ids w' v l := by
  have hI := ids_of_owns h
  obtain ⟨A, c, rfl, h0, hc, hk⟩ := hI
  refine ⟨A, c, rfl, h0, hc, fun k hlt => ?_⟩
  obtain ⟨ad, e, h1, h2, h3⟩ := hk k hlt
  subst e
  have hg := World.ownsRow.lt h
  rcases owns_split h with ⟨e, _⟩ | ⟨g, cap, e, hgl, _⟩
  · cases e
  · injection e with e1 e2 e3
    injection e1 with e1
    subst e1
    have hb := hg g rfl
    have heq := hs.2 g (by omega) (by omega)
    refine ⟨_, rfl, Nat.lt_of_lt_of_le h1 hs.1, ?_, ?_⟩
    · rw [World.cell?_of_block (w := w) (w' := w') (by rw [block_of_add]; exact heq)]
      exact h2
    · rw [World.cell?_of_block (w := w) (w' := w') (by show w'.heap[((⟨g, 0, none⟩ : Addr).add (k * 2)).block]? = _; rw [block_of_add]; exact heq)]
      exact h3
theorem wpListIn_push {F : Fence} {m : Nat} {ops : Array Oper} {rest : List Oper} {o : Oper} {a : Act} {Q : Exit → Act → World → Prop} (hgd : o.guard = none) (s x : Operand)
    (ho : o.op = .call { callee := .builtin .append, args := #[s, x], argTypes := #[27, 27] })
    (wr : World) (base : Nat) (v : Value) (d : List (Int × Int)) (p q : Int) (hs : a.eval s = v) (hx : a.eval x = .slice (some ⟨wr.heap.size, 0, none⟩) 1 1)
    (hown : Owns wr base v d) (hl : d.length ≤ 99999) (hb : base ≤ wr.heap.size)
    (h : ∀ g cap w', Owns w' base (.slice (some ⟨g, 0, none⟩) (d.length + 1) cap) (d ++ [(p, q)]) → wr.grownBy w' v.ownBlock → (v.ownBlock = some g ∨ wr.heap.size ≤ g) → g < w'.heap.size → wpListIn F m Try.prog ops Q rest (a.put o.dst (.slice (some ⟨g, 0, none⟩) (d.length + 1) cap)) w') :
    wpListIn F m Try.prog ops Q (o :: rest) a (wr.alloc (.cells #[.int .i64 p, .int .i64 q] 24)) := by
  obtain ⟨i0, hi, hz0, hz1, hz2⟩ := info_parts info25
  refine wpListIn_plain hgd fun K hK' => ?_
  have hown2 : Owns (wr.alloc (.cells #[.int .i64 p, .int .i64 q] 24)) base v d := hown.below (below_one wr _)
  obtain ⟨g, cap, w', hrun, r1, r2, r3, r4⟩ := run_append_lies (P := Try.prog) (wr.alloc (.cells #[.int .i64 p, .int .i64 q] 24)) 27 o.type base 24 i0 (.agg #[.int .i64 0, .int .i64 0]) 2 16 Try.underlying27 hi hz0 hz1 hz2 rfl (by decide) v d.length (flat d) hown2
    ⟨wr.heap.size, 0, none⟩ 1 1 (flat [(p, q)]) (flat_len _) (World.news_of_block (cs := #[.int .i64 p, .int .i64 q]) (box_new wr p q)) (flat_one _) (by omega) (by unfold maxLen; omega) (by omega) (by simp; omega) _ rfl
  unfold Oper.wpIn
  refine ⟨?_, ?_⟩
  · simp [Oper.about, ho, resolve, Target.leads, Sem.run_pure]
  · rw [Oper.semAt_plain F _ _ (by rw [ho]; intro c hc'; cases hc')]
    simp [execOp, ho, resolve, invoke, builtin, hs, hx, hrun, Result.andThen]
    refine hK' _ _ (h g cap w' ?_ ?_ ?_ r4)
    · unfold Owns
      rw [flat_append, List.length_append]
      exact r1
    · refine ⟨r2.os, r2.tape, r2.output, Nat.le_trans (by simp) r2.size, fun k hk hne => ?_⟩
      rw [r2.block k (by simp; omega) hne, Below.heap_alloc _ _ _ hk]
    · rcases r3 with e | e
      · exact .inl e
      · right
        rw [e]
        simp
/-- A row in a box: where it lies. -/
def RowI (n0 lo X b : Nat) (A : World) (l : List Id2) : Prop := ∃ v, One A X 27 v ∧ Owns A b v l ∧ ∀ g, v.ownBlock = some g → g ≠ X ∧ (g < lo ∨ n0 + 2 ≤ g)
theorem Owns.kept {w w' : World} {base : Nat} {v : Value} {l : List (Int × Int)} {row : Option Nat} (h : Owns w base v l) (hg : w.grownBy w' row) (hr : ∀ g, v.ownBlock = some g → row ≠ some g) : Owns w' base v l :=
  World.ownsRow.kept h hg (by
    rcases ho : v.ownBlock with _ | g
    · exact .inl rfl
    · exact .inr fun e => hr g ho e.symm)
theorem One.grown {w w' : World} {g t : Nat} {v : Value} {row : Option Nat} (h : One w g t v) (hg : w.grownBy w' row) (hr : row ≠ some g) : One w' g t v := (hg.block g (one_lt h) (fun e => hr e.symm)).trans h
theorem Box.grown {w w' : World} {g : Nat} {a i : Int} {row : Option Nat} (h : Box w g a i) (hg : w.grownBy w' row) (hr : row ≠ some g) : Box w' g a i := (hg.block g (box_lt h) (fun e => hr e.symm)).trans h
theorem RowI.grown {n0 lo X b : Nat} {A B : World} {l : List Id2} {row : Option Nat} (h : RowI n0 lo X b A l) (hg : A.grownBy B row) (hX : row ≠ some X) (hr : ∀ g, row = some g → (lo ≤ g ∧ g < n0 + 2) ∨ g < b) : RowI n0 lo X b B l := by
  obtain ⟨v, h1, h2, h3⟩ := h
  exact ⟨v, h1.grown hg hX, h2.kept hg (fun g hv e => by have := h3 g hv; have := hr g e; have := (World.ownsRow.lt h2 g hv).1; omega), h3⟩
theorem one_set {w : World} {g t : Nat} {v : Value} (h : One w g t v) (u : Value) : One (w.setCell ⟨g, 0, none⟩ u) g t u := by
  unfold One at *
  simp [World.setCell, Array.getElem?_modify, h]
theorem grown_set (w : World) (g k : Nat) (v : Value) : w.grownBy (w.setCell ⟨g, k, none⟩ v) (some g) :=
  ⟨rfl, rfl, rfl, by simp, fun j _ hj => Below.heap_setCell _ _ _ _ (fun e => hj (by rw [e]))⟩
/-- What has been pushed: the box's new row. -/
theorem RowI.pushed {n0 lo X b g cap n : Nat} {w w' : World} {v : Value} {l' : List Id2} (hX : X < n0) (hn : n0 + 2 ≤ w.heap.size) (h1 : One w X 27 v) (h3 : ∀ g, v.ownBlock = some g → g ≠ X ∧ (g < lo ∨ n0 + 2 ≤ g))
    (p1 : Owns w' b (.slice (some ⟨g, 0, none⟩) n cap) l') (p2 : w.grownBy w' v.ownBlock) (p3 : v.ownBlock = some g ∨ w.heap.size ≤ g) : RowI n0 lo X b (w'.setCell ⟨X, 0, none⟩ (.slice (some ⟨g, 0, none⟩) n cap)) l' := by
  have hg : g ≠ X ∧ (g < lo ∨ n0 + 2 ≤ g) := by
    rcases p3 with e | e
    · exact h3 g e
    · exact ⟨by omega, .inr (by omega)⟩
  refine ⟨_, one_set (h1.grown p2 (fun e => by have := h3 X e; omega)) _, p1.kept (grown_set _ _ _ _) (fun g' e e2 => ?_), fun g' e => ?_⟩
  · injection e with e
    injection e2 with e2
    have e' : g = g' := e
    omega
  · injection e with e
    have e' : g = g' := e
    omega
theorem cells_deferred {w w' : World} {l : Nat} {d : Option (List Deferred)} (hl : w.heap[l]? = some (.deferred d)) (h : w.grownBy w' (some l)) : ∀ a v, w.cell? a = some v → w'.cell? a = some v := by
  intro a v hc
  have hlt := World.block_lt_of_cell? w _ hc
  by_cases e : a.block = l
  · exfalso
    rw [← e] at hl
    unfold World.cell? at hc
    rw [hl] at hc
    simp at hc
  · rw [World.cell?_of_block (h.block a.block hlt (fun e2 => e (by injection e2)))]
    exact hc
theorem Ids.cells {w w' : World} {v : Value} {l : List Id2} (h : Ids w v l) (hs : w.heap.size ≤ w'.heap.size) (hc : ∀ a v, w.cell? a = some v → w'.cell? a = some v) : Ids w' v l := by
  obtain ⟨A, c, hv, h0, hn, hk⟩ := h
  refine ⟨A, c, hv, h0, hn, fun k h => ?_⟩
  obtain ⟨ad, h1, h2, h3, h4⟩ := hk k h
  exact ⟨ad, h1, Nat.lt_of_lt_of_le h2 hs, hc _ _ h3, hc _ _ h4⟩
theorem rg_len (l : List Id2) (me : Id2) : (rg l me).length ≤ l.length * 2 := by
  unfold rg upL dnL
  have h1 := List.length_filter_le (fun x => lss me.1 me.2 x.1 x.2) l
  have h2 := List.length_filter_le (fun x => lss x.1 x.2 me.1 me.2) l
  rw [List.length_append]
  omega
end Go.Proofs.Ytmgkbfhkipfimaa
