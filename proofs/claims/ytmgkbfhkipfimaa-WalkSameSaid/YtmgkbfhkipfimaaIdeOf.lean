/-
  Carried over: contracts of this program's functions. No statement is proved in this text.
-/
import Derived.Test.YtmgkbfhkipfimaaIdeRefB
set_option maxRecDepth 20000
set_option maxRecDepth 20000
namespace Go.Proofs.Ytmgkbfhkipfimaa
open Go.RowKit Sets
/-- Block g holds the numbers of these IDs. -/
def Lits (w : World) (g : Nat) (ps : List (Int × Int)) : Prop := w.heap[g]? = some (.cells (flat ps).toArray 3 (0, 0))
theorem lits_cell {w : World} {g : Nat} {ps : List (Int × Int)} (h : Lits w g ps) {k : Nat} (hk : k < ps.length) : w.cell? ⟨g, k * 2, none⟩ = some (.int .i64 ps[k].1) ∧ w.cell? ⟨g, k * 2 + 1, none⟩ = some (.int .i64 ps[k].2) := by
  unfold Lits at h
  have := flat_at ps k hk
  refine ⟨?_, ?_⟩
  · rw [cell_of_row _ _ _ _ _ _ h]
    simpa using this.1
  · rw [cell_of_row _ _ _ _ _ _ h]
    simpa using this.2
theorem lits_below {w w' : World} {g : Nat} {ps : List (Int × Int)} (h : Lits w g ps) (hb : Below w.heap.size w w') : Lits w' g ps := (hb.block g (row_lt h)).trans h
theorem take_snoc' {ps : List (Int × Int)} {k : Nat} (hk : k < ps.length) : ps.take k ++ [(ps[k].1, ps[k].2)] = ps.take (k + 1) := by
  rw [List.take_succ_eq_append_getElem hk]
/-- append of one ID, in a region that draws its order. -/
theorem step_append_one {ops : Array Oper} {o : Oper} {a : Act} {K : Act → World → Prop} {Q : Exit → Act → World → Prop} {E : Prop} (hgd : o.guard = none) (s x : Operand)
    (ho : o.op = .call { callee := .builtin .append, args := #[s, x], argTypes := #[27, 27] })
    (W : World) (base : Nat) (v : Value) (d : List (Int × Int)) (p q : Int) (g : Nat) (hs : a.eval s = v) (hx : a.eval x = .slice (some ⟨g, 0, none⟩) 1 1)
    (hown : Owns W base v d) (hX : Box W g p q) (hl : d.length ≤ 99999) (hb : base ≤ W.heap.size)
    (h : ∀ v' w', Owns w' base v' (d ++ [(p, q)]) → Below base W w' → K (a.put o.dst v') w') :
    if Region.wanted o (yielded ops a.tmps) = true then Oper.wp Try.prog o a W K Q else E := by
  obtain ⟨i0, hi, hz0, hz1, hz2⟩ := info_parts info25
  refine step_append_lies W hgd s x 27 ho base 24 i0 (.agg #[.int .i64 0, .int .i64 0]) 2 16 Try.underlying27 hi hz0 hz1 hz2 rfl (by decide) v d.length (flat d) hs hown ⟨g, 0, none⟩ 1 1 [.int .i64 p, .int .i64 q] hx rfl
    (World.news_of_block (cs := #[.int .i64 p, .int .i64 q]) hX) (by simp [Value.oneCell']) (by decide) (by unfold maxLen; omega) (by omega) hb W.heap.size rfl ?_
  intro g' cap w' h1 h2 _ _
  refine h _ w' ?_ ((Below.refl base W).grown h2 hb fun k hk => (World.ownsRow.lt hown k hk).1)
  unfold Owns
  rw [flat_append, List.length_append]
  exact h1
end Go.Proofs.Ytmgkbfhkipfimaa
