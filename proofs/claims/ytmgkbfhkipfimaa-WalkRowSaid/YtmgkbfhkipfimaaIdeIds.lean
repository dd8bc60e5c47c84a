/-
  Carried over: contracts of this program's functions. No statement is proved in this text.
-/
import Derived.Laws.AppendOwnNone
import Derived.Test.YtmgkbfhkipfimaaIdeWalksA
set_option maxRecDepth 20000
set_option maxRecDepth 20000
namespace Go.Proofs.Ytmgkbfhkipfimaa
open Go.RowKit
theorem info25 : (Try.prog.info? 24).map (fun i => (i.zero, i.size, i.bytes)) = some (some (.agg #[.int .i64 0, .int .i64 0]), 2, 16) := by kernel_rfl
/-- The slice v reads as the list l of IDs. -/
def Ids (w : World) (v : Value) (l : List (Int × Int)) : Prop :=
  ∃ A c, v = .slice A l.length c ∧ (A = none → c = 0) ∧ l.length ≤ c ∧ ∀ k (h : k < l.length), ∃ ad, A = some ad ∧ ad.block < w.heap.size ∧ w.cell? (ad.add (k * 2)) = some (.int .i64 l[k].1) ∧ w.cell? ⟨(ad.add (k * 2)).block, (ad.add (k * 2)).off + 1, none⟩ = some (.int .i64 l[k].2)
theorem block_of_add (a : Addr) (n : Nat) : (a.add n).block = a.block := by unfold Addr.add; split <;> rfl
theorem add_odd (a : Addr) (k : Nat) : a.add (k * 2 + 1) = ⟨(a.add (k * 2)).block, (a.add (k * 2)).off + 1, none⟩ := by
  unfold Addr.add
  rw [if_neg (by omega)]
  split
  · rename_i h
    simp
    try omega
  · simp
    try omega
theorem add_add (a : Addr) (j k : Nat) (hj : 0 < j) : (a.add j).add k = a.add (j + k) := by
  unfold Addr.add
  rw [if_neg (show ¬ j = 0 by omega), if_neg (show ¬ j + k = 0 by omega)]
  split
  · rename_i h
    subst h
    rfl
  · simp
    omega
theorem Ids.below {w w' : World} {v : Value} {l : List (Int × Int)} (h : Ids w v l) (hb : Below w.heap.size w w') : Ids w' v l := by
  obtain ⟨A, c, hv, h0, hc, hk⟩ := h
  refine ⟨A, c, hv, h0, hc, fun k h => ?_⟩
  obtain ⟨ad, h1, h2, h3, h4⟩ := hk k h
  exact ⟨ad, h1, Nat.lt_of_lt_of_le h2 hb.size, (hb.cell (by rw [block_of_add]; exact h2)).trans h3, (hb.cell (by show (ad.add (k * 2)).block < _; rw [block_of_add]; exact h2)).trans h4⟩
theorem Ids.drewN {w : World} {v : Value} {l : List (Int × Int)} (h : Ids w v l) (n : Nat) : Ids (w.drewN n) v l := h.below (below_drewN (Below.refl _ _))
/-- The cells of one ID of a list. -/
theorem Ids.at_ {w w' : World} {A : Option Addr} {c n : Nat} {l : List (Int × Int)} (h : Ids w (.slice A n c) l) (hw : Below w.heap.size w w') {k : Nat} (hk : k < l.length) :
    ∃ ad, A = some ad ∧ w'.cell? (ad.add (k * 2)) = some (.int .i64 l[k].1) ∧ w'.cell? ⟨(ad.add (k * 2)).block, (ad.add (k * 2)).off + 1, none⟩ = some (.int .i64 l[k].2) := by
  obtain ⟨A', c', hv, _, _, hc⟩ := h
  injection hv with e1 e2 e3
  subst e1
  obtain ⟨ad, h1, h2, h3, h4⟩ := hc k hk
  exact ⟨ad, h1, (hw.cell (by rw [block_of_add]; exact h2)).trans h3, (hw.cell (by show (ad.add (k * 2)).block < _; rw [block_of_add]; exact h2)).trans h4⟩
theorem cell1 {w w' : World} {ad : Addr} {c n : Nat} {l : List (Int × Int)} (h : Ids w (.slice (some ad) n c) l) (hw : Below w.heap.size w w') {k : Nat} (hk : k < l.length) : w'.cell? (ad.add (k * 2)) = some (.int .i64 l[k].1) := by
  obtain ⟨a, e, h1, _⟩ := h.at_ hw hk
  injection e with e
  rw [e]
  exact h1
theorem cell2 {w w' : World} {ad : Addr} {c n : Nat} {l : List (Int × Int)} (h : Ids w (.slice (some ad) n c) l) (hw : Below w.heap.size w w') {k : Nat} (hk : k < l.length) : w'.cell? ⟨(ad.add (k * 2)).block, (ad.add (k * 2)).off + 1, none⟩ = some (.int .i64 l[k].2) := by
  obtain ⟨a, e, _, h2⟩ := h.at_ hw hk
  injection e with e
  rw [e]
  exact h2
/-- A slice's shape: nil and empty, or at an address. -/
theorem Ids.shape {w : World} {v : Value} {l : List (Int × Int)} (h : Ids w v l) : (v = .slice none 0 0 ∧ l = []) ∨ ∃ ad c, v = .slice (some ad) l.length c ∧ l.length ≤ c := by
  obtain ⟨A, c, rfl, h0, hc, hk⟩ := h
  cases A with
  | none =>
    obtain rfl := h0 rfl
    have : l = [] := List.eq_nil_of_length_eq_zero (by omega)
    subst this
    exact .inl ⟨rfl, rfl⟩
  | some ad => exact .inr ⟨ad, c, rfl, hc⟩
theorem Ids.nil (w : World) : Ids w (.slice none 0 0) [] := ⟨none, 0, rfl, fun _ => rfl, by simp, fun k hk => absurd hk (by simp)⟩
/-- The first k of a list. -/
theorem Ids.take {w : World} {A : Option Addr} {n c k : Nat} {l : List (Int × Int)} (h : Ids w (.slice A n c) l) (hk : k ≤ l.length) : Ids w (.slice A k c) (l.take k) := by
  obtain ⟨A', c', hv, h0, hc, hx⟩ := h
  injection hv with e1 e2 e3
  subst e1 e3
  refine ⟨A, c, by rw [List.length_take, Nat.min_eq_left hk], h0, by rw [List.length_take, Nat.min_eq_left hk]; omega, fun j hj => ?_⟩
  rw [List.length_take, Nat.min_eq_left hk] at hj
  obtain ⟨ad, h1, h2, h3, h4⟩ := hx j (by omega)
  exact ⟨ad, h1, h2, by rw [List.getElem_take]; exact h3, by rw [List.getElem_take]; exact h4⟩
/-- All but the first k of a list: the address goes on, where there is room behind. -/
theorem Ids.drop {w : World} {ad : Addr} {n c k : Nat} {l : List (Int × Int)} (h : Ids w (.slice (some ad) n c) l) (hk : k ≤ l.length) (hc : k < c) (h0 : 0 < k) : Ids w (.slice (some (ad.add (k * 2))) (n - k) (c - k)) (l.drop k) := by
  obtain ⟨A', c', hv, hn, hc2, hx⟩ := h
  injection hv with e1 e2 e3
  subst e1 e3
  refine ⟨some (ad.add (k * 2)), c - k, by rw [List.length_drop, e2], (fun h => by cases h), by rw [List.length_drop]; omega, fun j hj => ?_⟩
  rw [List.length_drop] at hj
  obtain ⟨ad', h1, h2, h3, h4⟩ := hx (k + j) (by omega)
  injection h1 with h1
  subst h1
  have e : (ad.add (k * 2)).add (j * 2) = ad.add ((k + j) * 2) := by rw [add_add _ _ _ (by omega)]; congr 1; omega
  refine ⟨_, rfl, by rw [block_of_add]; exact h2, ?_, ?_⟩
  · rw [e, List.getElem_drop]; exact h3
  · rw [e, List.getElem_drop]; exact h4
/-- Nothing is left of a list: the address stands. -/
theorem Ids.none_left {w : World} {A : Option Addr} (l : List (Int × Int)) {k : Nat} (hk : l.length ≤ k) (c' : Nat) (ha : A = none → c' = 0) : Ids w (.slice A 0 c') (l.drop k) := by
  rw [List.drop_of_length_le hk]
  exact ⟨A, c', rfl, ha, by simp, fun j hj => absurd hj (by simp)⟩
/-- The cells of a list of IDs. -/
def flat : List (Int × Int) → List Value
  | [] => []
  | x :: l => .int .i64 x.1 :: .int .i64 x.2 :: flat l
theorem flat_len (l : List (Int × Int)) : (flat l).length = l.length * 2 := by
  induction l with
  | nil => rfl
  | cons x l ih => simp [flat, ih]; omega
theorem flat_append (a b : List (Int × Int)) : flat (a ++ b) = flat a ++ flat b := by
  induction a with
  | nil => rfl
  | cons x a ih => simp [flat, ih]
theorem flat_one (l : List (Int × Int)) : ∀ u ∈ flat l, u.oneCell' = true := by
  induction l with
  | nil => simp [flat]
  | cons x l ih => simpa [flat, Value.oneCell'] using ih
theorem flat_at (l : List (Int × Int)) : ∀ (k : Nat) (h : k < l.length), (flat l)[k * 2]? = some (.int .i64 l[k].1) ∧ (flat l)[k * 2 + 1]? = some (.int .i64 l[k].2) := by
  induction l with
  | nil => intro k h; simp at h
  | cons x l ih =>
    intro k h
    cases k with
    | zero => exact ⟨rfl, rfl⟩
    | succ k =>
      have := ih k (by simpa using h)
      rw [show (k + 1) * 2 = k * 2 + 1 + 1 by omega, show k * 2 + 1 + 1 + 1 = (k * 2 + 1) + 1 + 1 by omega]
      simpa [flat] using this
theorem flat_split {l : List (Int × Int)} {j : Nat} {u : Value} (h : (flat l)[j]? = some u) : ∃ k, ∃ hk : k < l.length, (j = k * 2 ∧ u = .int .i64 l[k].1) ∨ (j = k * 2 + 1 ∧ u = .int .i64 l[k].2) := by
  have hj : j < l.length * 2 := by
    have := (List.getElem?_eq_some_iff.1 h).1
    rwa [flat_len] at this
  refine ⟨j / 2, by omega, ?_⟩
  have h2 := flat_at l (j / 2) (by omega)
  rcases Nat.mod_two_eq_zero_or_one j with e | e
  · have e2 : j / 2 * 2 = j := by omega
    refine .inl ⟨e2.symm, ?_⟩
    have := h2.1
    rw [e2, h] at this
    exact Option.some.inj this
  · have e2 : j / 2 * 2 + 1 = j := by omega
    refine .inr ⟨e2.symm, ?_⟩
    have := h2.2
    rw [e2, h] at this
    exact Option.some.inj this
/-- The slice v is the call's own, and holds the list l. -/
def Owns (w : World) (base : Nat) (v : Value) (l : List (Int × Int)) : Prop := w.ownsRow base 24 2 v l.length (flat l)
theorem owns_nil (w : World) (base : Nat) : Owns w base (.slice none 0 0) [] := World.ownsRow_nil w base 24 2
theorem Owns.below {w w' : World} {base : Nat} {v : Value} {l : List (Int × Int)} (h : Owns w base v l) (hb : Below w.heap.size w w') : Owns w' base v l :=
  World.ownsRow.kept h ⟨hb.os, hb.tape, hb.output, hb.size, fun k hk _ => hb.block k hk⟩ (row := none) (by cases hv : v.ownBlock <;> simp)
theorem owns_split {w : World} {base n : Nat} {v : Value} {xs : List Value} (h : w.ownsRow base 24 2 v n xs) : (v = .slice none 0 0 ∧ n = 0) ∨ ∃ g cap, v = .slice (some ⟨g, 0, none⟩) n cap ∧ g < w.heap.size ∧ n ≤ cap := by
  rcases id h.2 with h1 | ⟨g, cap, cur, h1, _, _, hn, _⟩
  · exact .inl h1
  · exact .inr ⟨g, cap, h1, (World.ownsRow.lt h g (by rw [h1]; rfl)).2, hn⟩
theorem ids_of_owns {w : World} {base : Nat} {v : Value} {l : List (Int × Int)} (h : Owns w base v l) : Ids w v l := by
  rcases owns_split h with ⟨rfl, hn⟩ | ⟨g, cap, rfl, hg, hc⟩
  · have : l = [] := List.eq_nil_of_length_eq_zero (by omega)
    subst this
    exact Ids.nil w
  · refine ⟨some ⟨g, 0, none⟩, cap, rfl, (fun h => by cases h), hc, fun k hk => ⟨_, rfl, hg, ?_, ?_⟩⟩
    · exact World.ownsRow.cells h (g := g) rfl _ _ (flat_at l k hk).1
    · rw [← add_odd]
      exact World.ownsRow.cells h (g := g) rfl _ _ (flat_at l k hk).2
/-- A literal of one ID. -/
theorem ids_one (w : World) (a i : Int) : Ids (w.alloc (.cells #[.int .i64 a, .int .i64 i] 24)) (.slice (some ⟨w.heap.size, 0, none⟩) 1 1) [(a, i)] := by
  have h := box_cells (box_new w a i)
  refine ⟨some ⟨w.heap.size, 0, none⟩, 1, rfl, (fun h => by cases h), by simp, fun k hk => ⟨_, rfl, by simp, ?_, ?_⟩⟩
  · obtain rfl : k = 0 := by simpa using hk
    exact h.1
  · obtain rfl : k = 0 := by simpa using hk
    exact h.2
/-- append of a list to a slice of the call's own. -/
theorem wpList_append_list {ops : Array Oper} {rest : List Oper} {o : Oper} {a : Act} {Q : Exit → Act → World → Prop} (hgd : o.guard = none) (s x : Operand)
    (ho : o.op = .call { callee := .builtin .append, args := #[s, x], argTypes := #[27, 27] })
    (wr : World) (base : Nat) (v u : Value) (d l : List (Int × Int)) (hs : a.eval s = v) (hx : a.eval x = u)
    (hown : Owns wr base v d) (hI : Ids wr u l) (hl : d.length + l.length ≤ 100000) (hb : base ≤ wr.heap.size)
    (h : ∀ v' w', Owns w' base v' (d ++ l) → Below base wr w' → wpList Try.prog ops Q rest (a.put o.dst v') w') :
    wpList Try.prog ops Q (o :: rest) a wr := by
  obtain ⟨i0, hi, hz0, hz1, hz2⟩ := info_parts info25
  obtain ⟨A, c, rfl, h0, hc, hk⟩ := hI
  cases A with
  | none =>
    obtain rfl := h0 rfl
    have hn : l = [] := List.eq_nil_of_length_eq_zero (by omega)
    subst hn
    refine wpList_append_own_none hgd s x 27 ho base 24 i0 2 Try.underlying27 hi _ d.length (flat d) hs hown hx (h _ _ (by rw [List.append_nil]; exact hown) (Below.refl _ _))
  | some ad =>
    refine wpList_append_own _ hgd s x 27 ho base 24 i0 (.agg #[.int .i64 0, .int .i64 0]) 2 16 Try.underlying27 hi hz0 hz1 hz2 rfl (by decide) v d.length (flat d) hs hown ad l.length c (flat l) hx (flat_len l)
      (fun j u hu => ?_) (flat_one l) (by unfold maxLen; omega) (by omega) hb ?_
    · obtain ⟨k, hlt, hj⟩ := flat_split hu
      obtain ⟨ad', e, h1, h2, h3⟩ := hk k hlt
      injection e with e
      subst e
      rcases hj with ⟨rfl, rfl⟩ | ⟨rfl, rfl⟩
      · exact h2
      · rw [add_odd]
        exact h3
    · intro v' w' h1 h2 _
      refine h v' w' ?_ ((Below.refl base wr).grown h2 hb fun k hk => (World.ownsRow.lt hown k hk).1)
      unfold Owns
      rw [flat_append, List.length_append]
      exact h1
/-- append of one ID that has just been put into a row of its own. -/
theorem wpList_append_one {ops : Array Oper} {rest : List Oper} {o : Oper} {a : Act} {Q : Exit → Act → World → Prop} (hgd : o.guard = none) (s x : Operand)
    (ho : o.op = .call { callee := .builtin .append, args := #[s, x], argTypes := #[27, 27] })
    (wr : World) (base : Nat) (v : Value) (d : List (Int × Int)) (p q : Int) (hs : a.eval s = v) (hx : a.eval x = .slice (some ⟨wr.heap.size, 0, none⟩) 1 1)
    (hown : Owns wr base v d) (hl : d.length ≤ 99999) (hb : base ≤ wr.heap.size)
    (h : ∀ v' w', Owns w' base v' (d ++ [(p, q)]) → Below base wr w' → wpList Try.prog ops Q rest (a.put o.dst v') w') :
    wpList Try.prog ops Q (o :: rest) a (wr.alloc (.cells #[.int .i64 p, .int .i64 q] 24)) := by
  refine wpList_append_list hgd s x ho _ base v _ d [(p, q)] hs hx (hown.below ((Below.refl _ _).alloc (Nat.le_refl _) _)) (ids_one wr p q) (by simp; omega) (by simp; omega) fun v' w' h1 h2 => h v' w' h1 ?_
  exact ((Below.refl base wr).alloc hb _).trans h2
/-- make of a list, empty, with room for n IDs. -/
theorem wpList_make_room {ops : Array Oper} {rest : List Oper} {o : Oper} {a : Act} {Q : Exit → Act → World → Prop} (w : World) (hgd : o.guard = none) (x : Operand) (hop : o.op = .makeSlice 27 (.const (.int .i64 0)) x) (C : Int) (hx : a.eval x = .int .i64 C) (h0 : 0 ≤ C) (hn : C ≤ 100000)
    (h : ∀ v' w', Owns w' w.heap.size v' [] → Below w.heap.size w w' → wpList Try.prog ops Q rest (a.put o.dst v') w') : wpList Try.prog ops Q (o :: rest) a w := by
  obtain ⟨i0, hi, hz0, hz1, hz2⟩ := info_parts info25
  obtain ⟨n, rfl⟩ := Int.eq_ofNat_of_zero_le h0
  exact wpList_make_own w hgd _ x 27 hop w.heap.size 24 i0 (.agg #[.int .i64 0, .int .i64 0]) 2 Try.underlying27 hi hz0 hz1 .i64 .i64 n n rfl hx rfl (by rw [hz2]; omega) (by unfold maxLen; omega) (Nat.le_refl _)
    fun w' h1 h2 => h _ w' h1 ((Below.refl w.heap.size w).grown h2 (Nat.le_refl _) (fun k hk => by cases hk))
end Go.Proofs.Ytmgkbfhkipfimaa
