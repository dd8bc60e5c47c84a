/-
  A walk over the program's way to join two lists of rows, where both are in order. No statement is proved in this text; it holds for every input that its premises let by.
-/
import Derived.Test.YtofanciaacdjfaaRound
import Derived.Deep.AppendLies
namespace Go.Proofs.Ytofanciaacdjfaa
open Go Go.RowKit Sets RowSets
attribute [local go_sem] Oper.semAt_some
theorem pairs_any (A B : Option Addr) (n m c d : Nat) (w : World) :
    Calls Try.prog 29 #[.slice A n c, .slice B m d] w fun e w' => e = .returned (.func (.func 52) #[] #[.pointer (some ⟨w.heap.size, 0, none⟩), .pointer (some ⟨w.heap.size + 1, 0, none⟩)]) ∧ One w' w.heap.size 27 (.slice A n c) ∧ One w' (w.heap.size + 1) 27 (.slice B m d) ∧ Below w.heap.size w w' := by
  have h1 := Lib.hid (show One ((w.alloc (.cells #[.slice A n c] 27)).alloc (.cells #[.slice B m d] 27)) w.heap.size 27 (.slice A n c) from (Below.heap_alloc _ _ _ (by simp)).trans (one_new w 27 _))
  have h2 := Lib.hid (show One ((w.alloc (.cells #[.slice A n c] 27)).alloc (.cells #[.slice B m d] 27)) (w.heap.size + 1) 27 (.slice B m d) from by have := one_new (w.alloc (.cells #[.slice A n c] 27)) 27 (.slice B m d); simpa using this)
  have h3 := Lib.hid (below_two w (.cells #[.slice A n c] 27) (.cells #[.slice B m d] 27))
  go_enter Try.func29, Try.ntmps29
  go_wp2_with fail
  go_ret
  exact ⟨rfl, h1.out, h2.out, h3.out⟩
/-- make of a list, empty, with room for n; what is answered, spelled out. -/
theorem wpListIn_make_spelled {P : Program} {F : Fence} {k : Nat} {α : Type} {enc : α → List Value} {sz : Nat} {ops : Array Oper} {rest : List Oper} {o : Oper} {a : Act} {Q : Exit → Act → World → Prop} (t e : TypeId) {z : Value} {bytes : Nat} (ht : P.underlying t = some (.slice e))
    (hinfo : (P.info? e).map (fun i => (i.zero, i.size, i.bytes)) = some (some z, sz, bytes)) (hby : bytes ≤ 1000)
    (w : World) (hgd : o.guard = none) (x : Operand) (hop : o.op = .makeSlice t (.const (.int .i64 0)) x) (C : Int) (hx : a.eval x = .int .i64 C) (h0 : 0 ≤ C) (hn : C ≤ 100000)
    (h : ∀ cap w', OwnsR enc sz e w' w.heap.size (.slice (some ⟨w.heap.size, 0, none⟩) 0 cap) [] → Below w.heap.size w w' → wpListIn F k P ops Q rest (a.put o.dst (.slice (some ⟨w.heap.size, 0, none⟩) 0 cap)) w') : wpListIn F k P ops Q (o :: rest) a w := by
  obtain ⟨i0, hi, hz0, hz1, hz2⟩ := info_parts hinfo
  obtain ⟨n, rfl⟩ := Int.eq_ofNat_of_zero_le h0
  have hnb : n * bytes ≤ 100000 * 1000 := Nat.mul_le_mul (by omega) hby
  exact wpListIn_make_own w hgd _ x t hop w.heap.size e i0 z sz ht hi hz0 hz1 .i64 .i64 n n rfl hx rfl (by rw [hz2]; have := Nat.mul_comm n bytes; omega) (by unfold maxLen; omega) (Nat.le_refl _)
    fun w' h1 h2 => h _ w' h1 ((Below.refl w.heap.size w).grown h2 (Nat.le_refl _) (fun k hk => by cases hk))
/-- What reads cells reads them still, whatever turns that is no cells. -/
def Cells (w w' : World) : Prop := w.heap.size ≤ w'.heap.size ∧ ∀ a v, w.cell? a = some v → w'.cell? a = some v
theorem cells_loop {w w' : World} {l : Nat} {r : Loop} (hl : w.heap[l]? = some (.loop r)) (h : w.grownBy w' (some l)) : Cells w w' := by
  refine ⟨h.size, fun a v hc => ?_⟩
  have hlt := World.block_lt_of_cell? w _ hc
  by_cases e : a.block = l
  · exfalso
    rw [← e] at hl
    unfold World.cell? at hc
    rw [hl] at hc
    simp at hc
  · rw [World.cell?_of_block (h.block a.block hlt (fun e2 => e (by injection e2)))]
    exact hc
theorem Ids.cells {w w' : World} {v : Value} {l : List Id2} (h : Ids w v l) (hc : Cells w w') : Ids w' v l := by
  obtain ⟨A, c, hv, h0, hn, hk⟩ := h
  refine ⟨A, c, hv, h0, hn, fun k h => ?_⟩
  obtain ⟨ad, h1, h2, h3, h4⟩ := hk k h
  exact ⟨ad, h1, Nat.lt_of_lt_of_le h2 hc.1, hc.2 _ _ h3, hc.2 _ _ h4⟩
theorem PRow.cells {w w' : World} {p : Option Addr} {o : Option Row} (h : PRow w p o) (hc : Cells w w') : PRow w' p o := by
  cases o with
  | none => exact h
  | some r =>
    obtain ⟨q, ⟨ad, h1, h2, c1, c2, c3, c4⟩, e1, e2, h3⟩ := h
    exact ⟨q, ⟨ad, h1, Nat.lt_of_lt_of_le h2 hc.1, hc.2 _ _ c1, hc.2 _ _ c2, hc.2 _ _ c3, hc.2 _ _ c4⟩, e1, e2, h3.cells hc⟩
/-- append of one row to a row of the call's own, at a step of a region that draws its order. -/
theorem step_pushW {ops : Array Oper} {o : Oper} {a : Act} {K : Act → World → Prop} {Q : Exit → Act → World → Prop} {E : Prop} (hgd : o.guard = none) (s x : Operand)
    (ho : o.op = .call { callee := .builtin .append, args := #[s, x], argTypes := #[27, 27] })
    (w : World) (base : Nat) (A : Option Addr) (n c gx : Nat) (qs : List Raw) (p i v : Int) (B : Option Addr) (m k : Nat) (hn : qs.length = n) (hs : a.eval s = .slice A n c) (hx : a.eval x = .slice (some ⟨gx, 0, none⟩) 1 1)
    (hown : OwnsW w base (.slice A n c) qs) (hbox : WBox w gx p i v (.slice B m k)) (hl : qs.length ≤ 50000) (hb : base ≤ w.heap.size)
    (h : ∀ g cap w', OwnsW w' base (.slice (some ⟨g, 0, none⟩) (n + 1) cap) (qs ++ [((p, i), v, B, m, k)]) → w.grownBy w' (Value.slice A n c).ownBlock → ((Value.slice A n c).ownBlock = some g ∨ g = w.heap.size) → g < w'.heap.size → K (a.put o.dst (.slice (some ⟨g, 0, none⟩) (n + 1) cap)) w') :
    if Region.wanted o (yielded ops a.tmps) = true then Oper.wp Try.prog o a w K Q else E := by
  subst hn
  obtain ⟨i0, hi, hz0, hz1, hz2⟩ := info_parts infoW
  refine step_append_lies w hgd s x 27 ho base 26 i0 (.agg #[.int .i64 0, .int .i64 0, .int .i64 0, .slice none 0 0]) 4 48 Try.underlying27 hi hz0 hz1 hz2 rfl (by decide) (.slice A qs.length c) qs.length (flatR encW qs) hs hown ⟨gx, 0, none⟩ 1 1 (encW ((p, i), v, B, m, k)) hx rfl (World.news_of_block (cs := #[.int .i64 p, .int .i64 i, .int .i64 v, .slice B m k]) hbox) (encW_one _) (by omega) (by unfold maxLen; omega) (by omega) hb w.heap.size rfl fun g cap w' h1 h2 h3 h4 => h g cap w' ?_ h2 h3 h4
  unfold OwnsW OwnsR
  rw [flatR_append, List.length_append]
  have e : flatR encW [((p, i), v, B, m, k)] = encW ((p, i), v, B, m, k) := by simp [flatR]
  rw [e]
  exact h1
/-- What has been joined so far. -/
def joinedRows (xs : List PairX) : List Row := xs.map fun x => joinedO x.1.2 x.2.2
/-- What holds between two rounds: X is the box of what is answered. -/
def JoinI (X n0 b hi : Nat) (pre : List PairX) (W : World) : Prop :=
  ∃ A n c qs, One W X 27 (.slice A n c) ∧ qs.length = n ∧ OwnsW W b (.slice A n c) qs ∧ EachOwn W (n0 + 2) qs (joinedRows pre) ∧ (∀ g, (Value.slice A n c).ownBlock = some g → g < n0 ∨ hi ≤ g) ∧ (∀ q ∈ qs, ∀ g, (slc q).ownBlock = some g → (Value.slice A n c).ownBlock ≠ some g) ∧ (Value.slice A n c).ownBlock ≠ some X ∧ n0 + 2 ≤ hi
theorem JoinI.loop {X n0 b hi : Nat} {pre : List PairX} {A B : World} (hX : X < n0) (h : JoinI X n0 b hi pre A) (hg : A.grownBy B (some (n0 + 1))) : JoinI X n0 b hi pre B := by
  obtain ⟨ad, n, c, qs, h1, h2, h3, h4, h5, h6, h7, h8⟩ := h
  refine ⟨ad, n, c, qs, (hg.block X (one_lt h1) (fun e => by injection e with e; omega)).trans h1, h2, h3.grown hg (fun e => by have := h5 _ e; omega), h4.grown hg (by omega), h5, h6, h7, h8⟩
theorem EachOwn.apart {w w' : World} {lo : Nat} {row : Option Nat} (hg : w.grownBy w' row) : ∀ {qs : List Raw} {l : List Row}, EachOwn w lo qs l → (∀ q ∈ qs, ∀ g, (slc q).ownBlock = some g → row ≠ some g) → EachOwn w' lo qs l
  | [], [], _, _ => trivial
  | q :: qs, _ :: _, h, hn => by
    refine ⟨⟨h.1.1, h.1.2.1, World.ownsRow.kept h.1.2.2 hg ?_⟩, EachOwn.apart hg h.2 fun q' hq => hn q' (List.mem_cons_of_mem _ hq)⟩
    rcases ho : (slc q).ownBlock with _ | g
    · exact .inl rfl
    · exact .inr fun e => hn q (List.mem_cons_self ..) g ho e.symm
  | [], _ :: _, h, _ => h.elim
  | _ :: _, [], h, _ => h.elim
theorem one_set {w : World} {g t : Nat} {v : Value} (h : One w g t v) (u : Value) : One (w.setCell ⟨g, 0, none⟩ u) g t u := by
  unfold One at *
  simp [World.setCell, Array.getElem?_modify, h]
/-- A round's end. -/
theorem join_end {X n0 b hi n c g cap' : Nat} {Av : Option Addr} {qs : List Raw} {pre : List PairX} {x : PairX} {C w6 w7 : World} {p i v : Int} {B : Option Addr} {m k : Nat}
    (hbX : b ≤ X) (hX : X < n0) (hhi : n0 + 2 ≤ hi) (hC : hi ≤ C.heap.size)
    (h1 : One C X 27 (.slice Av n c)) (h2 : qs.length = n) (h3 : OwnsW C b (.slice Av n c) qs) (h4 : EachOwn C (n0 + 2) qs (joinedRows pre)) (h5 : ∀ g, (Value.slice Av n c).ownBlock = some g → g < n0 ∨ hi ≤ g)
    (h6 : ∀ q ∈ qs, ∀ g, (slc q).ownBlock = some g → (Value.slice Av n c).ownBlock ≠ some g) (h7 : (Value.slice Av n c).ownBlock ≠ some X)
    (hb : Below C.heap.size C w6) (hr : joinedO x.1.2 x.2.2 = ((p, i), v, (joinedO x.1.2 x.2.2).2.2)) (hq : OwnsI w6 C.heap.size (.slice B m k) (joinedO x.1.2 x.2.2).2.2)
    (p1 : OwnsW w7 b (.slice (some ⟨g, 0, none⟩) (n + 1) cap') (qs ++ [((p, i), v, B, m, k)])) (p2 : w6.grownBy w7 (Value.slice Av n c).ownBlock) (p3 : (Value.slice Av n c).ownBlock = some g ∨ g = w6.heap.size) :
    KeepsE b (n0 + 2) hi n0 C (w7.setCell ⟨X, 0, none⟩ (.slice (some ⟨g, 0, none⟩) (n + 1) cap')) ∧ (w7.setCell ⟨X, 0, none⟩ (.slice (some ⟨g, 0, none⟩) (n + 1) cap')).heap[n0 + 1]? = C.heap[n0 + 1]? ∧ JoinI X n0 b hi (pre ++ [x]) (w7.setCell ⟨X, 0, none⟩ (.slice (some ⟨g, 0, none⟩) (n + 1) cap')) := by
  have hXC : X < C.heap.size := one_lt h1
  have hown := World.ownsRow.lt h3
  have hs6 := hb.size
  have hs7 := p2.size
  have same : ∀ j, j < C.heap.size → j ≠ X → (Value.slice Av n c).ownBlock ≠ some j → (w7.setCell ⟨X, 0, none⟩ (.slice (some ⟨g, 0, none⟩) (n + 1) cap')).heap[j]? = C.heap[j]? := fun j hj hjX hne => by
    rw [Below.heap_setCell _ _ _ _ hjX, p2.block j (by omega) (fun e => hne e.symm), hb.block j hj]
  have hgX : g ≠ X := by
    rcases p3 with e | e
    · intro h
      rw [h] at e
      exact h7 e
    · omega
  have X7 : One w7 X 27 (.slice Av n c) := (p2.block X (by omega) (fun e => h7 e.symm)).trans ((hb.block X hXC).trans h1)
  have gE : w7.grownBy (w7.setCell ⟨X, 0, none⟩ (.slice (some ⟨g, 0, none⟩) (n + 1) cap')) (some X) := grown_set1 (World.grownBy.refl _ _) 0 _
  refine ⟨⟨?_, ⟨?_, ?_⟩, ?_⟩, ?_, ?_⟩
  · exact ((hb.mono (by omega)).grown p2 (by omega) (fun j hj => (hown j hj).1)).setCell (p := ⟨X, 0, none⟩) hbX _
  · simp only [World.size_setCell]
    omega
  · intro j hj1 hj2
    exact same j (by omega) (by omega) (fun e => by have := h5 j e; omega)
  · exact same n0 (by omega) (by omega) (fun e => by have := h5 n0 e; omega)
  · exact same (n0 + 1) (by omega) (by omega) (fun e => by have := h5 _ e; omega)
  · have hj : joinedRows (pre ++ [x]) = joinedRows pre ++ [joinedO x.1.2 x.2.2] := by unfold joinedRows; rw [List.map_append]; rfl
    have O7 : OwnsI w7 (n0 + 2) (.slice B m k) (joinedO x.1.2 x.2.2).2.2 := by
      refine World.ownsRow.kept (OwnsR.mono hq (show n0 + 2 ≤ C.heap.size by omega)) p2 ?_
      rcases ho : (Value.slice B m k).ownBlock with _ | g'
      · exact .inl rfl
      · refine .inr fun e => ?_
        have a1 := World.ownsRow.lt hq g' ho
        have a2 := hown g' e.symm
        omega
    refine ⟨_, _, _, _, one_set X7 _, by simp [h2], OwnsR.grown p1 gE (fun e => hgX (by injection e)), ?_, ?_, ?_, (fun e => hgX (by injection e)), hhi⟩
    · rw [hj]
      refine (EachOwn.append (EachOwn.apart p2 (h4.below hb) h6) ?_).grown gE (by omega)
      exact ⟨⟨by rw [hr], by rw [hr], O7⟩, trivial⟩
    · intro g' e
      injection e with e
      have e' : g = g' := e
      subst e'
      rcases p3 with e3 | e3
      · exact h5 g e3
      · right; omega
    · intro q hqm g' ho e
      injection e with e
      have e' : g = g' := e
      subst e'
      rcases List.mem_append.1 hqm with hqm | hqm
      · rcases p3 with e3 | e3
        · exact h6 q hqm g ho e3
        · have := (h4.lt q hqm g ho).2
          omega
      · rw [List.mem_singleton.1 hqm] at ho
        have a1 := World.ownsRow.lt hq g ho
        rcases p3 with e3 | e3
        · have a2 := hown g e3
          omega
        · omega
theorem cells_deferred {w w' : World} {l : Nat} {d : Option (List Deferred)} (hl : w.heap[l]? = some (.deferred d)) (h : w.grownBy w' (some l)) : Cells w w' := by
  refine ⟨h.size, fun a v hc => ?_⟩
  have hlt := World.block_lt_of_cell? w _ hc
  by_cases e : a.block = l
  · exfalso
    rw [← e] at hl
    unfold World.cell? at hc
    rw [hl] at hc
    simp at hc
  · rw [World.cell?_of_block (h.block a.block hlt (fun e2 => e (by injection e2)))]
    exact hc
theorem RowsAt.cells {w w' : World} {v : Value} {l : List Row} (h : RowsAt w v l) (hc : Cells w w') : RowsAt w' v l := by
  obtain ⟨qs, ⟨A, c, hv, h0, hn, hk⟩, h2⟩ := h
  refine ⟨qs, ⟨A, c, hv, h0, hn, fun k h => ?_⟩, ?_⟩
  · obtain ⟨ad, h1, h2, h3⟩ := hk k h
    exact ⟨ad, h1, Nat.lt_of_lt_of_le h2 hc.1, fun j u hu => hc.2 _ _ (h3 j u hu)⟩
  · clear hk hn h0 hv
    induction qs generalizing l with
    | nil =>
      cases l with
      | nil => trivial
      | cons r l => exact h2.elim
    | cons q qs ih =>
      cases l with
      | nil => exact h2.elim
      | cons r l => exact ⟨⟨h2.1.1, h2.1.2.1, h2.1.2.2.cells hc⟩, ih h2.2⟩
end Go.Proofs.Ytofanciaacdjfaa
