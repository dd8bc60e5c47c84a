/-
  append to a literal of nothing, as a step of a region that draws its order; the document's Put, plain. No statement is proved in this text.
-/
import Derived.Test.YtmgiglefabbmcaaOutX
set_option maxRecDepth 20000
namespace Go.Proofs.Ytmgiglefabbmcaa
open Go Go.RowKit
theorem row14_lit0 {W : World} {g : Nat} (h : W.heap[g]? = some (.cells #[] 32 (0, 0))) : Row14 W (some ⟨g, 0, none⟩) 0 [] := .inr ⟨g, 0, #[], rfl, h, by simp, by simp, fun j v hv => by simp [flatR] at hv⟩
/-- append to a literal of nothing: of any list, nil too. -/
theorem step_append_first {ops : Array Oper} {o : Oper} {a : Act} {K : Act → World → Prop} {Q : Exit → Act → World → Prop} {E : Prop} (hgd : o.guard = none) (s x : Operand)
    (ho : o.op = .call { callee := .builtin .append, args := #[s, x], argTypes := #[41, 41] }) (W : World) {g m c2 : Nat} {xs : List Fq} {A2 : Option Addr} (hs : a.eval s = .slice (some ⟨g, 0, none⟩) 0 0) (hx : a.eval x = .slice A2 m c2)
    (hg : W.heap[g]? = some (.cells #[] 32 (0, 0))) (hb : Rcs encF 14 W (.slice A2 m c2) xs) (hl : xs.length ≤ 10000)
    (h : ∀ A' c' W' N, N = xs.length → Row14 W' A' c' xs → ((A' = some ⟨g, 0, none⟩ ∧ Only (AB (some ⟨g, 0, none⟩)) W W') ∨ ((∀ k, AB A' k → W.heap.size ≤ k) ∧ Below W.heap.size W W')) → K (a.put o.dst (.slice A' N c')) W') :
    if Region.wanted o (yielded ops a.tmps) = true then Oper.wp Try.prog o a W K Q else E := by
  cases A2 with
  | some ad =>
    exact step_append_frames hgd s x ho W hs hx (qs := []) rfl (rcs_len hb) (row14_lit0 hg) hb (by simpa using hl) fun A' c' W' N hN h1 h2 => h A' c' W' N (by simpa using hN) (by simpa using h1) h2
  | none =>
    have hw : Region.wanted o (yielded ops a.tmps) = true := by simp [Region.wanted, hgd]
    rw [if_pos hw]
    obtain ⟨A', c', hv, h0, hc, -⟩ := hb
    injection hv with e1 e2 e3
    have hc0 : c' = 0 := h0 e1.symm
    have hxs : xs = [] := List.eq_nil_of_length_eq_zero (by omega)
    subst hxs
    have hm : m = 0 := e2
    have hc2 : c2 = 0 := e3.trans hc0
    subst hm hc2
    obtain ⟨i0, hi, -⟩ := info_parts info32
    have hrun := run_append_owned_none (P := Try.prog) (w := W) 0 41 o.type 32 i0 14 Try.underlying41 hi (.slice (some ⟨g, 0, none⟩) 0 0) 0 [] ⟨rfl, .inr ⟨g, 0, #[], rfl, Nat.zero_le _, hg, Nat.le_refl _, Nat.zero_le _, rfl, rfl⟩⟩
    unfold Oper.wp execOp
    simp only [ho, resolve, invoke, builtin, Sem.run_bind, Sem.run_pure, Result.andThen_ok, List.map_toArray, List.map_cons, List.map_nil, hs, hx, hrun]
    exact h _ _ W 0 rfl (row14_lit0 hg) (.inl ⟨rfl, ⟨rfl, rfl, rfl, Nat.le_refl _, fun _ _ _ => rfl⟩⟩)
/-- The document's Put: what waits, what goes out, and whether. -/
def putQ (mx : Int) (qs : List Fq) (q : Fq) : List Fq × Fq × Bool :=
  if (qs.length : Int) < mx then (qs ++ [q], q0, false) else if h : fi (qs.map (·.F)) < qs.length then (qs.take (fi (qs.map (·.F))) ++ qs.drop (fi (qs.map (·.F)) + 1) ++ [q], qs[fi (qs.map (·.F))], true) else (qs, q, true)
theorem putQ_F (mx : Int) (qs : List Fq) (q : Fq) : putL mx (qs.map (·.F)) q.F = ((putQ mx qs q).1.map (·.F), (putQ mx qs q).2.1.F, (putQ mx qs q).2.2) := by
  unfold putL putQ
  by_cases h1 : (qs.length : Int) < mx
  · rw [if_pos (by simpa using h1), if_pos h1]
    simp
    rfl
  · rw [if_neg (by simpa using h1), if_neg h1]
    by_cases h2 : fi (qs.map (·.F)) < qs.length
    · rw [dif_pos (by simpa using h2), dif_pos h2, List.eraseIdx_eq_take_drop_succ]
      simp [List.map_take, List.map_drop]
    · rw [dif_neg (by simpa using h2), dif_neg h2]
/-- Every frame of the list behind it is one of those ahead of it, or the new one. -/
theorem putQ_mem (mx : Int) (qs : List Fq) (q : Fq) : ∀ x ∈ (putQ mx qs q).1, x ∈ qs ∨ x = q := by
  intro x hx
  unfold putQ at hx
  split at hx
  · simpa using hx
  · split at hx
    · simp only [List.mem_append, List.mem_singleton] at hx
      rcases hx with (h | h) | h
      · exact .inl (List.mem_of_mem_take h)
      · exact .inl (List.mem_of_mem_drop h)
      · exact .inr h
    · exact .inl hx
end Go.Proofs.Ytmgiglefabbmcaa
