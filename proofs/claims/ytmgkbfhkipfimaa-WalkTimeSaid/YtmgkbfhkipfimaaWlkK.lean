/-
  append of one ID to a list of one's own, beside other things. No statement is proved in this text.
-/
import Derived.Test.YtmgkbfhkipfimaaWlkF
set_option maxRecDepth 20000
namespace Go.Proofs.Ytmgkbfhkipfimaa
open Go Go.RowKit Sets
theorem ls_nil (w : World) : LsP (.slice none 0 0) [] (fun _ => False) w := ⟨owns_nil _ _, (fun g hg => by cases hg), fun _ e => e.elim⟩
theorem ls_ids {S : Nat → Prop} {w : World} {v : Value} {l : List Id2} (h : LsP v l S w) : Ids w v l := ids_of_owns h.1
theorem wpList_push_ls {ops : Array Oper} {rest : List Oper} {o : Oper} {a : Act} {Q : Exit → Act → World → Prop} (hgd : o.guard = none) (s x : Operand)
    (ho : o.op = .call { callee := .builtin .append, args := #[s, x], argTypes := #[27, 27] })
    (wr : World) (S : Nat → Prop) (v : Value) (l : List Id2) (p q : Int) (hsv : a.eval s = v) (hx : a.eval x = .slice (some ⟨wr.heap.size, 0, none⟩) 1 1)
    (hown : LsP v l S wr) (hl : l.length ≤ 99999)
    (h : ∀ g cap w' S', LsP (.slice (some ⟨g, 0, none⟩) (l.length + 1) cap) (l ++ [(p, q)]) S' w' → Upd S wr w' S' → wpList Try.prog ops Q rest (a.put o.dst (.slice (some ⟨g, 0, none⟩) (l.length + 1) cap)) w') :
    wpList Try.prog ops Q (o :: rest) a (wr.alloc (.cells #[.int .i64 p, .int .i64 q] 24)) := by
  obtain ⟨i0, hi, hz0, hz1, hz2⟩ := info_parts info25
  refine wpList_plain hgd fun K' hK' => ?_
  have hown2 : Owns (wr.alloc (.cells #[.int .i64 p, .int .i64 q] 24)) 0 v l := hown.1.below (below_one wr _)
  obtain ⟨g, cap, w', hrun, r1, r2, r3, r4⟩ := run_append_lies (P := Try.prog) (wr.alloc (.cells #[.int .i64 p, .int .i64 q] 24)) 27 o.type 0 24 i0 (.agg #[.int .i64 0, .int .i64 0]) 2 16 Try.underlying27 hi hz0 hz1 hz2 rfl (by decide) v l.length (flat l) hown2
    ⟨wr.heap.size, 0, none⟩ 1 1 [.int .i64 p, .int .i64 q] rfl (World.news_of_block (cs := #[.int .i64 p, .int .i64 q]) (heap_alloc_new wr _)) (by simp [Value.oneCell']) (by decide) (by unfold maxLen; omega) (by omega) (Nat.zero_le _) _ rfl
  have hs2 : (wr.alloc (.cells #[.int .i64 p, .int .i64 q] 24)).heap.size = wr.heap.size + 1 := by simp
  unfold Oper.wp
  simp [execOp, ho, resolve, invoke, builtin, hsv, hx, hrun, Result.andThen]
  have hsz : wr.heap.size ≤ w'.heap.size := Nat.le_trans (by omega) r2.size
  refine hK' _ _ (h g cap w' (fun k => S k ∨ k = g) ⟨?_, fun b hb => .inr ?_, fun k hk => ?_⟩ ⟨fun k hk => ?_, ?_⟩)
  · unfold Owns
    rw [flat_append, List.length_append]
    exact r1
  · have e : g = b := Option.some.inj hb
    exact e.symm
  · rcases hk with hk | rfl
    · exact Nat.lt_of_lt_of_le (hown.2.2 k hk) hsz
    · exact r4
  · rcases hk with hk | rfl
    · exact .inl hk
    · rcases r3 with r3 | r3
      · exact .inl (hown.2.1 _ r3)
      · exact .inr (by omega)
  · refine ⟨r2.os, r2.tape, r2.output, hsz, fun k hk hn => ?_⟩
    rw [r2.block k (by omega) (fun e => hn (hown.2.1 k e.symm)), Below.heap_alloc _ _ _ hk]
theorem wpList_push_lsN {ops : Array Oper} {rest : List Oper} {o : Oper} {a : Act} {Q : Exit → Act → World → Prop} (hgd : o.guard = none) (s x : Operand)
    (ho : o.op = .call { callee := .builtin .append, args := #[s, x], argTypes := #[27, 27] })
    (wr : World) (S : Nat → Prop) (v : Value) (l : List Id2) (n : Nat) (p q : Int) (hn : l.length = n) (hsv : a.eval s = v) (hx : a.eval x = .slice (some ⟨wr.heap.size, 0, none⟩) 1 1)
    (hown : LsP v l S wr) (hl : n ≤ 99999)
    (h : ∀ g cap w' S', LsP (.slice (some ⟨g, 0, none⟩) (n + 1) cap) (l ++ [(p, q)]) S' w' → Upd S wr w' S' → wpList Try.prog ops Q rest (a.put o.dst (.slice (some ⟨g, 0, none⟩) (n + 1) cap)) w') :
    wpList Try.prog ops Q (o :: rest) a (wr.alloc (.cells #[.int .i64 p, .int .i64 q] 24)) := by
  subst hn
  exact wpList_push_ls hgd s x ho wr S v l p q hsv hx hown hl h
/-- Only the first one is told of. -/
theorem Four.only {P1 P2 P3 P4 : (Nat → Prop) → World → Prop} {S1 S2 S3 S4 : Nat → Prop} {w W : World} (h : Four w W P1 P2 P3 P4 S1 S2 S3 S4) : Four w W P1 NoP NoP NoP S1 (fun _ => False) (fun _ => False) (fun _ => False) := Four.one h.a h.below h.lo1
/-- A list of one's own, empty yet, beside. -/
theorem Four.list {P1 : (Nat → Prop) → World → Prop} {S1 : Nat → Prop} {w W : World} (h : Four w W P1 NoP NoP NoP S1 (fun _ => False) (fun _ => False) (fun _ => False)) : Four w W P1 (LsP (.slice none 0 0) []) NoP NoP S1 (fun _ => False) (fun _ => False) (fun _ => False) :=
  ⟨h.a, ls_nil _, h.c, h.d, h.ab, h.ac, h.ad, h.bc, h.bd, h.cd, h.lo1, h.lo2, h.lo3, h.lo4, h.below⟩
/-- What is left of a row behind k calls, from a new walk on. -/
def lf (Z : List Id2) (k : Nat) : List Id2 := if k = 0 then [] else Z.drop k
theorem lf_all {Z : List Id2} (h : 0 < Z.length) : lf Z Z.length = [] := by
  unfold lf
  rw [if_neg (by omega), List.drop_length]
theorem nx_lf {ps : List Id2} {d f k : Nat} (hk : k < (rowP ps d).length) (h0 : k = 0 → f = d) : nx (lf (rowP ps d) k) ps f = (rowP ps d)[k] :: lf (rowP ps d) (k + 1) := by
  unfold lf
  rw [if_neg (show ¬ k + 1 = 0 by omega)]
  by_cases e : k = 0
  · subst e
    rw [h0 rfl, if_pos rfl]
    exact nx_first hk
  · rw [if_neg e]
    exact nx_row hk
theorem lf_len (Z : List Id2) (k : Nat) : (lf Z k).length ≤ Z.length := by
  unfold lf
  split <;> simp
end Go.Proofs.Ytmgkbfhkipfimaa
