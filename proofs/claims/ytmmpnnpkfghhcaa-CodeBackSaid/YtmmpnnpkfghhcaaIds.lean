/-
  Lists of IDs in memory: appended to a new row, and read out of a row. No statement is proved in this text.
-/
import Derived.Test.YtmmpnnpkfghhcaaRefC
import Derived.Laws.AppendOwnNone
namespace Go.Proofs.Ytmmpnnpkfghhcaa
open Go.RowKit
theorem info23 : (Try.prog.info? 23).map (fun i => (i.zero, i.size, i.bytes)) = some (some (.agg #[.int .i64 0, .int .i64 0]), 2, 16) := by kernel_rfl
/-- The cells of a list of IDs. -/
def flat : List (Int × Int) → List Value
  | [] => []
  | x :: l => .int .i64 x.1 :: .int .i64 x.2 :: flat l
theorem flat_len (l : List (Int × Int)) : (flat l).length = l.length * 2 := by
  induction l with
  | nil => rfl
  | cons x l ih => simp [flat, ih]; omega
theorem flat_one (l : List (Int × Int)) : ∀ u ∈ flat l, u.oneCell' = true := by
  induction l with
  | nil => simp [flat]
  | cons x l ih => simpa [flat, Value.oneCell'] using ih
theorem flat_at (l : List (Int × Int)) : ∀ (k : Nat) (h : k < l.length), (flat l)[k * 2]? = some (.int .i64 l[k].1) ∧ (flat l)[k * 2 + 1]? = some (.int .i64 l[k].2) := by
  induction l with
  | nil => intro k h; simp at h
  | cons x l ih =>
    intro k h
    cases k with
    | zero => exact ⟨rfl, rfl⟩
    | succ k =>
      have := ih k (by simpa using h)
      rw [show (k + 1) * 2 = k * 2 + 1 + 1 by omega, show k * 2 + 1 + 1 + 1 = (k * 2 + 1) + 1 + 1 by omega]
      simpa [flat] using this
theorem flat_split {l : List (Int × Int)} {j : Nat} {u : Value} (h : (flat l)[j]? = some u) : ∃ k, ∃ hk : k < l.length, (j = k * 2 ∧ u = .int .i64 l[k].1) ∨ (j = k * 2 + 1 ∧ u = .int .i64 l[k].2) := by
  have hj : j < l.length * 2 := by
    have := (List.getElem?_eq_some_iff.1 h).1
    rwa [flat_len] at this
  refine ⟨j / 2, by omega, ?_⟩
  have h2 := flat_at l (j / 2) (by omega)
  rcases Nat.mod_two_eq_zero_or_one j with e | e
  · have e2 : j / 2 * 2 = j := by omega
    refine .inl ⟨e2.symm, ?_⟩
    have := h2.1
    rw [e2, h] at this
    exact Option.some.inj this
  · have e2 : j / 2 * 2 + 1 = j := by omega
    refine .inr ⟨e2.symm, ?_⟩
    have := h2.2
    rw [e2, h] at this
    exact Option.some.inj this
theorem add_odd (a : Addr) (k : Nat) : a.add (k * 2 + 1) = ⟨(a.add (k * 2)).block, (a.add (k * 2)).off + 1, none⟩ := by
  unfold Addr.add
  rw [if_neg (by omega)]
  split
  · rename_i h
    simp
    try omega
  · simp
    try omega
theorem ownsRow_split {w : World} {base : Nat} {e : TypeId} {size : Nat} {v : Value} {n : Nat} {xs : List Value} (h : w.ownsRow base e size v n xs) : (v = .slice none 0 0 ∧ n = 0) ∨ ∃ g cap, v = .slice (some ⟨g, 0, none⟩) n cap ∧ g < w.heap.size := by
  rcases id h.2 with h1 | ⟨g, cap, cur, h1, _⟩
  · exact .inl h1
  · exact .inr ⟨g, cap, h1, (World.ownsRow.lt h g (by rw [h1]; rfl)).2⟩
theorem ids_of_owns {w : World} {base : Nat} {v : Value} {l : List (Int × Int)} (h : w.ownsRow base 23 2 v l.length (flat l)) : Ids w v l := by
  rcases ownsRow_split h with ⟨rfl, hn⟩ | ⟨g, cap, rfl, hg⟩
  · exact ⟨none, 0, by rw [hn], fun _ => rfl, fun k hk => absurd hk (by omega)⟩
  · refine ⟨some ⟨g, 0, none⟩, cap, rfl, (fun h => by cases h), fun k hk => ⟨_, rfl, hg, ?_, ?_⟩⟩
    · exact World.ownsRow.cells h (g := g) rfl _ _ (flat_at l k hk).1
    · rw [← add_odd]
      exact World.ownsRow.cells h (g := g) rfl _ _ (flat_at l k hk).2
/-- append of a whole list to a slice that has just been made, empty. -/
theorem wpList_append_ids {ops : Array Oper} {rest : List Oper} {o : Oper} {a : Act} {Q : Exit → Act → World → Prop} (hgd : o.guard = none) (s x : Operand)
    (ho : o.op = .call { callee := .builtin .append, args := #[s, x], argTypes := #[24, 24] })
    (wr : World) (u : Value) (l : List (Int × Int)) (hs : a.eval s = .slice (some ⟨wr.heap.size, 0, none⟩) 0 0) (hx : a.eval x = u)
    (hI : Ids wr u l) (hl : l.length ≤ 100000)
    (h : ∀ v' w', Ids w' v' l → Below wr.heap.size wr w' → wpList Try.prog ops Q rest (a.put o.dst v') w') :
    wpList Try.prog ops Q (o :: rest) a (wr.alloc (.cells #[] 23)) := by
  obtain ⟨i0, hi, hz0, hz1, hz2⟩ := info_parts info23
  have hown := World.ownsRow_made wr (base := wr.heap.size) (e := 23) (size := 2) #[] 0 (Nat.le_refl _) (by decide) (by simp)
  obtain ⟨A, c, rfl, h0, hk⟩ := hI
  cases A with
  | none =>
    obtain rfl := h0 rfl
    have hn : l = [] := by
      cases l with
      | nil => rfl
      | cons y l =>
        obtain ⟨_, e, _⟩ := hk 0 (by simp)
        cases e
    subst hn
    refine wpList_append_own_none hgd s x 24 ho wr.heap.size 23 i0 2 Try.underlying24 hi _ 0 [] hs hown hx (h _ _ (ids_of_owns hown) ((Below.refl _ _).alloc (Nat.le_refl _) _))
  | some ad =>
    refine wpList_append_own _ hgd s x 24 ho wr.heap.size 23 i0 (.agg #[.int .i64 0, .int .i64 0]) 2 16 Try.underlying24 hi hz0 hz1 hz2 rfl (by decide) _ 0 [] hs hown ad l.length c (flat l) hx (flat_len l)
      (fun j u hu => ?_) (flat_one l) (by unfold maxLen; omega) (by omega) (by simp) ?_
    · obtain ⟨k, hlt, hj⟩ := flat_split hu
      obtain ⟨ad', e, h1, h2, h3⟩ := hk k hlt
      injection e with e
      subst e
      rcases hj with ⟨rfl, rfl⟩ | ⟨rfl, rfl⟩
      · rw [World.cell?_alloc_lt wr _ _ (by rw [block_of_add]; exact h1)]
        exact h2
      · rw [World.cell?_alloc_lt wr _ _ (by rw [block_of_add]; exact h1), add_odd]
        exact h3
    · intro v' w' h1 h2 _
      rw [List.nil_append, Nat.zero_add] at h1
      exact h v' w' (ids_of_owns h1) (((Below.refl wr.heap.size wr).alloc (Nat.le_refl _) _).grown h2 (by simp) fun k hk => (World.ownsRow.lt hown k hk).1)
end Go.Proofs.Ytmmpnnpkfghhcaa
