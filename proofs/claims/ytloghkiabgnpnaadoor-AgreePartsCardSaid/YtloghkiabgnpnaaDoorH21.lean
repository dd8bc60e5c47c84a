/-
  Carried over and put together: contracts of this program's functions, and plain facts. No statement is proved in this text.
-/
import Derived.Deep.AppendLies
import Derived.Test.YtloghkiabgnpnaaDoorH19
namespace Go.Proofs.YtloghkiabgnpnaaDoor
open Go Go.RowKit
/-- Is a member one of the some? -/
def inB (s : List Int) (x : Agr.Mm) : Bool := s.any fun n => n == x.1.1
def inP (s : List Int) (l : List Agr.Mm) : List Sets.Id2 := (l.filter fun x => inB s x).map (·.1)
def outP (s : List Int) (l : List Agr.Mm) : List Sets.Id2 := (l.filter fun x => !inB s x).map (·.1)
def lowP (s : List Int) (l : List Agr.Mm) : Bool := l.any fun x => inB s x && decide (x.2.1 < 6)
def rowsP (s : List Int) (m : List Agr.Mm) : List Agr.Row := (inP s m).map fun y => (y, 1, outP s m)
theorem inP_len (s : List Int) (l : List Agr.Mm) : (inP s l).length + (outP s l).length = l.length := by
  unfold inP outP
  rw [List.length_map, List.length_map]
  induction l with
  | nil => rfl
  | cons x l ih =>
    rw [List.filter_cons, List.filter_cons]
    rcases inB s x with _ | _ <;> simp <;> omega
theorem parts_in {s : List Int} {l : List Agr.Mm} {k : Nat} (hk : k < l.length) (h : inB s l[k] = true) : inP s (l.take (k + 1)) = inP s (l.take k) ++ [l[k].1] ∧ outP s (l.take (k + 1)) = outP s (l.take k) ∧ lowP s (l.take (k + 1)) = (lowP s (l.take k) || decide (l[k].2.1 < 6)) := by
  have e := List.take_succ_eq_append_getElem hk
  generalize l.take (k + 1) = T at *
  generalize l.take k = U at *
  generalize l[k] = x at *
  subst e
  unfold inP outP lowP
  simp [List.filter_append, h]
theorem parts_out {s : List Int} {l : List Agr.Mm} {k : Nat} (hk : k < l.length) (h : inB s l[k] = false) : inP s (l.take (k + 1)) = inP s (l.take k) ∧ outP s (l.take (k + 1)) = outP s (l.take k) ++ [l[k].1] ∧ lowP s (l.take (k + 1)) = lowP s (l.take k) := by
  have e := List.take_succ_eq_append_getElem hk
  generalize l.take (k + 1) = T at *
  generalize l.take k = U at *
  generalize l[k] = x at *
  subst e
  unfold inP outP lowP
  simp [List.filter_append, h]
theorem inB_next {s : List Int} {k : Nat} (hk : k < s.length) (x : Agr.Mm) : inB (s.take (k + 1)) x = (inB (s.take k) x || (s[k] == x.1.1)) := by
  have e := List.take_succ_eq_append_getElem hk
  generalize s.take (k + 1) = T at *
  generalize s.take k = U at *
  generalize s[k] = y at *
  subst e
  unfold inB
  simp
theorem st_nodup : ∀ {m : List Agr.Mm}, (idsM m).Nodup → ∀ {x : Agr.Mm}, x ∈ m → Agr.st m x.1 = x.2.1
  | y :: m, h, x, hx => by
    have h1 : (y.1 :: idsM m).Nodup := h
    rw [List.nodup_cons] at h1
    by_cases e : y.1 = x.1
    · rcases List.mem_cons.1 hx with rfl | hx
      · unfold Agr.st getO
        rw [List.find?_cons_of_pos (isM_iff.2 rfl)]
        rfl
      · exact absurd (by rw [e]; exact List.mem_map.2 ⟨x, hx, rfl⟩) h1.1
    · rcases List.mem_cons.1 hx with rfl | hx
      · exact absurd rfl e
      · have := st_nodup (m := m) h1.2 hx
        unfold Agr.st getO at this ⊢
        rw [List.find?_cons_of_neg (by rw [isM_iff]; exact e)]
        exact this
theorem mem_inP {s : List Int} {m : List Agr.Mm} {y : Sets.Id2} : y ∈ inP s m ↔ ∃ x ∈ m, inB s x = true ∧ x.1 = y := by
  unfold inP
  rw [List.mem_map]
  constructor
  · rintro ⟨x, hx, rfl⟩
    obtain ⟨h1, h2⟩ := List.mem_filter.1 hx
    exact ⟨x, h1, h2, rfl⟩
  · rintro ⟨x, h1, h2, rfl⟩
    exact ⟨x, List.mem_filter.2 ⟨h1, h2⟩, rfl⟩
theorem mem_outP {s : List Int} {m : List Agr.Mm} {y : Sets.Id2} : y ∈ outP s m ↔ ∃ x ∈ m, inB s x = false ∧ x.1 = y := by
  unfold outP
  rw [List.mem_map]
  constructor
  · rintro ⟨x, hx, rfl⟩
    obtain ⟨h1, h2⟩ := List.mem_filter.1 hx
    exact ⟨x, h1, by simpa using h2, rfl⟩
  · rintro ⟨x, h1, h2, rfl⟩
    exact ⟨x, List.mem_filter.2 ⟨h1, by simpa using h2⟩, rfl⟩
theorem notB_parts {s : List Int} {m : List Agr.Mm} (h : (idsM m).Nodup) {y : Sets.Id2} : Agr.notB m (rowsP s m) y = true ↔ y ∈ outP s m ∧ lowP s m = true := by
  rw [Agr.notB_iff]
  unfold rowsP lowP
  rw [List.any_eq_true]
  constructor
  · rintro ⟨r, hr, h1, h2, h3⟩
    obtain ⟨z, hz, rfl⟩ := List.mem_map.1 hr
    obtain ⟨x, hx, hi, rfl⟩ := mem_inP.1 hz
    refine ⟨h3, x, hx, ?_⟩
    unfold Agr.saysB at h1
    rw [Bool.and_eq_true, decide_eq_true_iff, st_nodup h hx] at h1
    rw [hi, decide_eq_true h1.2]
    rfl
  · rintro ⟨h1, x, hx, h2⟩
    rw [Bool.and_eq_true, decide_eq_true_iff] at h2
    refine ⟨(x.1, 1, outP s m), List.mem_map.2 ⟨x.1, mem_inP.2 ⟨x, hx, h2.1, rfl⟩, rfl⟩, ?_, ?_, h1⟩
    · unfold Agr.saysB
      rw [Bool.and_eq_true, decide_eq_true_iff, st_nodup h hx]
      exact ⟨Agr.isMem_iff.2 (List.mem_map.2 ⟨x, hx, rfl⟩), h2.2⟩
    · intro e
      obtain ⟨z, hz, h3, h4⟩ := mem_outP.1 h1
      have h5 : inB s z = inB s x := by
        unfold inB
        rw [h4, ← e]
      rw [h3, h2.1] at h5
      cases h5
theorem nr_low {s : List Int} {m : List Agr.Mm} (h : (idsM m).Nodup) (hl : lowP s m = true) : Agr.nr m (rowsP s m) = Sets.setOf (outP s m) := Sets.rises_ext (Agr.rises_nr _ _) (Sets.rises_setOf _) fun y => by
  rw [Agr.mem_nr, notB_parts h, Sets.mem_setOf]
  constructor
  · rintro ⟨-, h1, -⟩
    exact h1
  · intro h1
    obtain ⟨x, hx, -, rfl⟩ := mem_outP.1 h1
    exact ⟨List.mem_map.2 ⟨x, hx, rfl⟩, h1, hl⟩
theorem nr_high {s : List Int} {m : List Agr.Mm} (h : (idsM m).Nodup) (hl : lowP s m = false) : Agr.nr m (rowsP s m) = [] := by
  refine List.eq_nil_iff_forall_not_mem.2 fun y hy => ?_
  have := (notB_parts h).1 (Agr.mem_nr.1 hy).2
  rw [hl] at this
  cases this.2
theorem same_low {s : List Int} {m : List Agr.Mm} (h : (idsM m).Nodup) (hl : lowP s m = true) : sameB (Sets.setOf (Agr.nr m (rowsP s m))) (Sets.setOf (outP s m)) = true := by
  rw [nr_low h hl]
  unfold sameB
  exact decide_eq_true (Sets.rises_ext (Sets.rises_setOf _) (Sets.rises_setOf _) fun y => by rw [Sets.mem_setOf])
theorem mul_fits {a b : Nat} (h : a + b < 500) : a * b ≤ 100000 := by
  by_cases h1 : a ≤ 200
  · have := Nat.mul_le_mul h1 (show b ≤ 500 by omega)
    omega
  · by_cases h2 : a ≤ 330
    · have := Nat.mul_le_mul h2 (show b ≤ 299 by omega)
      omega
    · have := Nat.mul_le_mul (show a ≤ 500 by omega) (show b ≤ 169 by omega)
      omega
theorem sum_const {α : Type} (n : Nat) : ∀ l : List α, (l.map fun _ => n).sum = l.length * n
  | [] => by simp
  | x :: l => by
    rw [List.map_cons, List.sum_cons, sum_const n l, List.length_cons, Nat.succ_mul]
    omega
theorem rowsP_fits {s : List Int} {m : List Agr.Mm} (h : m.length < 500) : (rowsP s m).length ≤ 1000 ∧ ((rowsP s m).map fun r => r.2.2.length).sum ≤ 100000 := by
  have h1 := inP_len s m
  have h2 := mul_fits (a := (inP s m).length) (b := (outP s m).length) (by omega)
  unfold rowsP
  rw [List.length_map, List.map_map]
  refine ⟨by omega, ?_⟩
  have := sum_const (outP s m).length (inP s m)
  exact Nat.le_trans (Nat.le_of_eq this) h2
theorem rowsP_take {s : List Int} {m : List Agr.Mm} {k : Nat} (hk : k < (inP s m).length) : (rowsP s m).take (k + 1) = (rowsP s m).take k ++ [((inP s m)[k], 1, outP s m)] := by
  unfold rowsP
  rw [← List.map_take, ← List.map_take, List.take_succ_eq_append_getElem hk, List.map_append]
  rfl
/-- Two lists of the call's own, in rows of their own. -/
structure TwoP (w : World) (base : Nat) (v u : Value) (d e : List Sets.Id2) : Prop where
  l : Owns w base v d
  m : Owns w base u e
  ap : ∀ g, v.ownBlock = some g → u.ownBlock ≠ some g
theorem TwoP.nil (w : World) (base : Nat) : TwoP w base (.slice none 0 0) (.slice none 0 0) [] [] := ⟨owns_nil _ _, owns_nil _ _, fun g h => by cases h⟩
theorem TwoP.below {w w' : World} {base : Nat} {v u : Value} {d e : List Sets.Id2} (h : TwoP w base v u d e) (hb : Below w.heap.size w w') : TwoP w' base v u d e := ⟨h.l.below hb, h.m.below hb, h.ap⟩
theorem TwoP.swap {w : World} {base : Nat} {v u : Value} {d e : List Sets.Id2} (h : TwoP w base v u d e) : TwoP w base u v e d := ⟨h.m, h.l, fun g h1 h2 => h.ap g h2 h1⟩
/-- A member in a block is in no list of IDs. -/
theorem owns_mbox {w : World} {base : Nat} {v : Value} {d : List Sets.Id2} {g : Nat} {p q r t : Int} (h : Owns w base v d) (x : MBox w g p q r t) : v.ownBlock ≠ some g := by
  intro e
  rcases id h.2 with ⟨h1, -⟩ | ⟨g', cap, cur, h1, hb, hh, -⟩
  · rw [h1] at e
    cases e
  · rw [h1] at e
    obtain rfl : g' = g := by injection e
    have := hh.symm.trans x
    injection this with this
    injection this with _ h3 _
    exact absurd h3 (by decide)
theorem wpList_append_two {ops : Array Oper} {rest : List Oper} {o : Oper} {a : Act} {Q : Exit → Act → World → Prop} (hgd : o.guard = none) (s x : Operand)
    (ho : o.op = .call { callee := .builtin .append, args := #[s, x], argTypes := #[25, 25] })
    (wr : World) (base : Nat) (v u : Value) (d m : List Sets.Id2) (p q : Int) (gx : Nat) (y1 y2 y3 y4 : Int) (hs : a.eval s = v) (hx : a.eval x = .slice (some ⟨wr.heap.size, 0, none⟩) 1 1)
    (hown : TwoP wr base v u d m) (hX : MBox wr gx y1 y2 y3 y4) (hl : d.length ≤ 99999) (hb : base ≤ wr.heap.size)
    (h : ∀ v' w', TwoP w' base v' u (d ++ [(p, q)]) m → MBox w' gx y1 y2 y3 y4 → Below base wr w' → wpList Tryd.prog ops Q rest (a.put o.dst v') w') :
    wpList Tryd.prog ops Q (o :: rest) a (wr.alloc (.cells #[.int .i64 p, .int .i64 q] 32)) := by
  obtain ⟨i0, hi, hz0, hz1, hz2⟩ := info_parts info25
  have hq := below_one wr (.cells #[.int .i64 p, .int .i64 q] 32)
  have hown1 := hown.below hq
  have hX1 := mbox_below hX hq
  have hB := box_new wr p q
  have hH : (wr.alloc (.cells #[.int .i64 p, .int .i64 q] 32)).heap.size = wr.heap.size + 1 := by simp
  refine wpList_append_lies _ hgd s x 25 ho base 32 i0 (.agg #[.int .i64 0, .int .i64 0]) 2 16 Tryd.underlying25 hi hz0 hz1 hz2 rfl (by decide) v d.length (flat d) hs hown1.l ⟨wr.heap.size, 0, none⟩ 1 1 [.int .i64 p, .int .i64 q] hx rfl
    (World.news_of_block (cs := #[.int .i64 p, .int .i64 q]) hB) (by simp [Value.oneCell']) (by decide) (by unfold maxLen; omega) (by omega) (by omega) _ hH ?_
  intro g cap w' h1 h2 h3 _
  have hne : u.ownBlock = none ∨ u.ownBlock ≠ v.ownBlock := by
    rcases hv : v.ownBlock with _ | g0
    · rcases u.ownBlock with _ | g1
      · exact .inl rfl
      · exact .inr (by simp)
    · exact .inr (hown.ap g0 hv)
  refine h _ w' ⟨?_, World.ownsRow.kept hown1.m h2 hne, fun g' e => ?_⟩ ((h2.block gx (mbox_lt hX1) (fun e => owns_mbox hown1.l hX1 e.symm)).trans hX1) (((Below.refl base wr).alloc hb _).grown h2 (by simp; omega) fun k hk => (World.ownsRow.lt hown1.l k hk).1)
  · unfold Owns
    rw [flat_append, List.length_append]
    exact h1
  · obtain rfl : g = g' := by injection e
    rcases h3 with h3 | rfl
    · exact hown.ap g h3
    · intro e2
      have := (World.ownsRow.lt hown.m _ e2).2
      omega
theorem nodup_next {m : List Agr.Mm} {k : Nat} (hk : k < m.length) (h : (idsM (m.take k)).Nodup) (h2 : ∀ y ∈ m.take k, y.1 ≠ m[k].1) : (idsM (m.take (k + 1))).Nodup := by
  rw [List.take_succ_eq_append_getElem hk]
  unfold idsM at h ⊢
  rw [List.map_append, List.nodup_append]
  refine ⟨h, by simp, fun x hx y hy => ?_⟩
  obtain ⟨z, hz, rfl⟩ := List.mem_map.1 hx
  obtain rfl : y = m[k].1 := by simpa using hy
  exact h2 z hz
/-- The rows as memory has them. -/
def rawP (s : SL) (l : List Sets.Id2) : List Raw := l.map fun y => (y, 1, s.1, s.2.1, s.2.2)
theorem rawP_len (s : SL) (l : List Sets.Id2) : (rawP s l).length = l.length := by unfold rawP; rw [List.length_map]
theorem rawP_next {s : SL} {l : List Sets.Id2} {k : Nat} (hk : k < l.length) : rawP s (l.take (k + 1)) = rawP s (l.take k) ++ [(l[k], 1, s.1, s.2.1, s.2.2)] := by
  unfold rawP
  rw [List.take_succ_eq_append_getElem hk, List.map_append]
  rfl
theorem rawP_reads {w : World} {s : SL} {o : List Sets.Id2} (h : Ids w (.slice s.1 s.2.1 s.2.2) o) : ∀ l : List Sets.Id2, EachReads w (rawP s l) (l.map fun y => (y, 1, o))
  | [] => trivial
  | _ :: l => ⟨⟨rfl, rfl, h⟩, rawP_reads h l⟩
theorem ownsW_put {w : World} {base g k : Nat} {v u : Value} {l : List Raw} (h : OwnsW w base v l) (hg : g < base) : OwnsW (w.setCell ⟨g, k, none⟩ u) base v l := by
  refine ⟨h.1, ?_⟩
  rcases h.2 with hn | ⟨g', cap, cur, h1, hb, hh, rest⟩
  · exact .inl hn
  · exact .inr ⟨g', cap, cur, h1, hb, (heap_put (by omega)).trans hh, rest⟩
theorem owns_num {w : World} {base n c : Nat} {A : Option Addr} {l : List Sets.Id2} (h : Owns w base (.slice A n c) l) : n = l.length := ids_len (ids_of_owns h)
end Go.Proofs.YtloghkiabgnpnaaDoor
