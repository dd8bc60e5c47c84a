/-
  Rows of numbers put together in a region that draws its order; what the document keeps of a detector. No statement is proved in this text.
-/
import Derived.Test.YtbglghfdfigefaaAccJ
import Derived.Deep.DeepCutAuto
set_option maxRecDepth 20000
namespace Go.Proofs.Ytbglghfdfigefaa
open Go Go.RowKit
/-- append of a list to an empty literal: nothing old is written. -/
theorem run_copied (ty : TypeId) (W : World) (base b : Nat) (u : Value) (g : List Int) (hb : W.heap[b]? = some (.cells #[] 3 (0, 0))) (hB : base ≤ b) (hI : Rcs encN 1 W u g) (hl : g.length ≤ 4096) :
    ∃ A' c' W', (Builtin.append_ #[34, 34] ty #[.slice (some ⟨b, 0, none⟩) 0 0, u]).run Try.prog W = .ok (.slice A' g.length c') W' ∧ Gaps W' base (.slice A' g.length c') g ∧ Below W.heap.size W W' := by
  obtain ⟨i0, hi, hz0, hz1, hz2⟩ := info_parts info3
  have hbl := row_lt hb
  obtain ⟨A, c, rfl, hn0, hc, hk⟩ := hI
  rcases Nat.eq_zero_or_pos g.length with h0 | h0
  · have hn : g = [] := List.eq_nil_of_length_eq_zero h0
    subst hn
    refine ⟨some ⟨b, 0, none⟩, 0, W, ?_, ⟨rfl, .inr ⟨b, 0, #[], rfl, hB, hb, Nat.le_refl _, by decide, rfl, rfl⟩⟩, Below.refl _ _⟩
    cases A <;> simp [Builtin.append_, run_underlying Try.underlying34, sizeOf, typeInfo, hi, Builtin.lenOf, Builtin.firstCells, storeCells, loadCells, loadCellsFrom]
  · obtain ⟨ad, rfl, _⟩ := hk 0 h0
    have hcell : ∀ j u, (flatR encN g)[j]? = some u → W.cell? (ad.add j) = some u := fun j u hu => by
      obtain ⟨k, hlt, i, rfl, hu2⟩ := flatR_split encN_len (by decide) hu
      obtain ⟨ad', e, _, h2⟩ := hk k hlt
      injection e with e
      subst e
      exact h2 i u hu2
    obtain ⟨v', W', hr, h1, h2⟩ := run_append_arg_grows (P := Try.prog) W 34 ty 3 i0 _ 1 8 Try.underlying34 hi hz0 hz1 hz2 rfl (by decide) ⟨b, 0, none⟩ 0 0 [] rfl (fun j u hu => by cases hu) ad g.length c (flatR encN g) (flatN_len g) hcell (by omega) (by unfold maxLen; omega) (by omega)
    rw [Nat.zero_add, List.nil_append] at h1
    obtain ⟨A', c', rfl, _⟩ := gaps_slice (g := g) h1
    exact ⟨A', c', W', hr, World.ownsRow.mono h1 (by omega), (Below.refl _ _).grown h2 (Nat.le_refl _) fun k hk => by cases hk⟩
theorem step_lit0 {ops : Array Oper} {o : Oper} {a : Act} {K : Act → World → Prop} {Q : Exit → Act → World → Prop} {E : Prop} (hgd : o.guard = none) (ho : o.op = .buildSlice 34 0 #[]) (W : World)
    (h : ∀ b W', W.heap.size ≤ b → W'.heap[b]? = some (.cells #[] 3 (0, 0)) → Below W.heap.size W W' → K (a.put o.dst (.slice (some ⟨b, 0, none⟩) 0 0)) W') :
    if Region.wanted o (yielded ops a.tmps) = true then Oper.wp Try.prog o a W K Q else E := by
  have hw : Region.wanted o (yielded ops a.tmps) = true := by simp [Region.wanted, hgd]
  rw [if_pos hw]
  have hr : (Instr.buildSlice 34 0 #[]).run Try.prog W = .ok (.slice (some ⟨W.heap.size, 0, none⟩) 0 0) (W.alloc (.cells #[] 3)) := by kernel_rfl
  unfold Oper.wp execOp
  simp only [ho, Sem.run_bind, Sem.run_pure, Result.andThen_ok, List.map_toArray, List.map_nil, hr]
  exact h _ _ (Nat.le_refl _) (heap_alloc_new W _) (below_one W _)
theorem step_lit1 {ops : Array Oper} {o : Oper} {a : Act} {K : Act → World → Prop} {Q : Exit → Act → World → Prop} {E : Prop} (hgd : o.guard = none) (x : Operand) (ho : o.op = .buildSlice 34 1 #[(0, x)]) (W : World) (y : Int) (hx : a.eval x = .int .i64 y)
    (h : ∀ b W', Rcs encN 1 W' (.slice (some ⟨b, 0, none⟩) 1 1) [y] → Below W.heap.size W W' → K (a.put o.dst (.slice (some ⟨b, 0, none⟩) 1 1)) W') :
    if Region.wanted o (yielded ops a.tmps) = true then Oper.wp Try.prog o a W K Q else E := by
  have hw : Region.wanted o (yielded ops a.tmps) = true := by simp [Region.wanted, hgd]
  rw [if_pos hw]
  have hr : (Instr.buildSlice 34 1 #[(0, .int .i64 y)]).run Try.prog W = .ok (.slice (some ⟨W.heap.size, 0, none⟩) 1 1) (W.alloc (.cells #[.int .i64 y] 3)) := by kernel_rfl
  unfold Oper.wp execOp
  simp only [ho, Sem.run_bind, Sem.run_pure, Result.andThen_ok, List.map_toArray, List.map_cons, List.map_nil, hx, hr]
  exact h _ _ (rcs_lit encN_len W [y] #[.int .i64 y] 3 rfl) (below_one W _)
theorem step_copied {ops : Array Oper} {o : Oper} {a : Act} {K : Act → World → Prop} {Q : Exit → Act → World → Prop} {E : Prop} (hgd : o.guard = none) (s x : Operand)
    (ho : o.op = .call { callee := .builtin .append, args := #[s, x], argTypes := #[34, 34] }) (W : World) (base b : Nat) (u : Value) (g : List Int) (hs : a.eval s = .slice (some ⟨b, 0, none⟩) 0 0) (hx : a.eval x = u)
    (hb : W.heap[b]? = some (.cells #[] 3 (0, 0))) (hB : base ≤ b) (hI : Rcs encN 1 W u g) (hl : g.length ≤ 4096)
    (h : ∀ A' c' W', Gaps W' base (.slice A' g.length c') g → Below W.heap.size W W' → K (a.put o.dst (.slice A' g.length c')) W') :
    if Region.wanted o (yielded ops a.tmps) = true then Oper.wp Try.prog o a W K Q else E := by
  have hw : Region.wanted o (yielded ops a.tmps) = true := by simp [Region.wanted, hgd]
  rw [if_pos hw]
  obtain ⟨A', c', W', hr, h1, h2⟩ := run_copied o.type W base b u g hb hB hI hl
  unfold Oper.wp execOp
  simp only [ho, resolve, invoke, builtin, Sem.run_bind, Sem.run_pure, Result.andThen_ok, List.map_toArray, List.map_cons, List.map_nil, hs, hx, hr]
  exact h A' c' W' h1 h2
theorem step_pushed {ops : Array Oper} {o : Oper} {a : Act} {K : Act → World → Prop} {Q : Exit → Act → World → Prop} {E : Prop} (hgd : o.guard = none) (s x : Operand)
    (ho : o.op = .call { callee := .builtin .append, args := #[s, x], argTypes := #[34, 34] }) (W : World) (base b : Nat) (v : Value) (g : List Int) (y : Int) (hs : a.eval s = v) (hx : a.eval x = .slice (some ⟨b, 0, none⟩) 1 1)
    (hown : Gaps W base v g) (hI : Rcs encN 1 W (.slice (some ⟨b, 0, none⟩) 1 1) [y]) (hl : g.length ≤ 4096) (hB : base ≤ W.heap.size)
    (h : ∀ A' n' c' W', Gaps W' base (.slice A' n' c') (g ++ [y]) → Below base W W' → K (a.put o.dst (.slice A' n' c')) W') :
    if Region.wanted o (yielded ops a.tmps) = true then Oper.wp Try.prog o a W K Q else E := by
  have hw : Region.wanted o (yielded ops a.tmps) = true := by simp [Region.wanted, hgd]
  rw [if_pos hw]
  obtain ⟨i0, hi, hz0, hz1, hz2⟩ := info_parts info3
  have hcell : ∀ j u, (flatR encN [y])[j]? = some u → W.cell? ((⟨b, 0, none⟩ : Addr).add j) = some u := fun j u hu => by
    obtain ⟨k, hlt, i, rfl, hu2⟩ := flatR_split encN_len (by decide) hu
    obtain ⟨A', c', hv, _, _, hk⟩ := hI
    injection hv with e1 _ _
    subst e1
    obtain ⟨ad', e, _, h2⟩ := hk k hlt
    injection e with e
    subst e
    exact h2 i u hu2
  obtain ⟨v', W', hr, h1, h2, _⟩ := run_append_own (P := Try.prog) W base 34 o.type 3 i0 _ 1 8 Try.underlying34 hi hz0 hz1 hz2 rfl (by decide) v g.length (flatR encN g) hown ⟨b, 0, none⟩ 1 1 (flatR encN [y]) (flatN_len [y]) hcell (fun u hu => by obtain ⟨x, _, hx⟩ := List.mem_flatMap.1 hu; exact encN_one x u hx) (by unfold maxLen; omega) (by omega) hB
  rw [← flatR_append] at h1
  have h3 : Gaps W' base v' (g ++ [y]) := by
    unfold Gaps OwnsR
    rw [List.length_append]
    exact h1
  obtain ⟨A', c', rfl, _⟩ := gaps_slice h3
  unfold Oper.wp execOp
  simp only [ho, resolve, invoke, builtin, Sem.run_bind, Sem.run_pure, Result.andThen_ok, List.map_toArray, List.map_cons, List.map_nil, hs, hx, hr]
  exact h A' _ c' W' h3 ((Below.refl _ _).grown h2 hB fun k hk => (World.ownsRow.lt hown k hk).1)
/-- The program's detector, of the document's, which keeps all gaps. -/
def Dt.cut (x : Dt) : Dt := ⟨x.mn, x.mx, x.wi, x.bg, x.la, lastn x.wi x.ga⟩
def Dt.rheard (x : Dt) (y : Int) : Dt := ⟨x.mn, x.mx, x.wi, true, x.time y, if x.bg = true then x.ga ++ [x.time y - x.la] else x.ga⟩
theorem cut_new (mn mx wi : Int) : (Dt.new mn mx wi).cut = Dt.new mn mx wi := by simp [Dt.cut, Dt.new, lastn]
theorem cut_start (x : Dt) (y : Int) : (x.start y).cut = x.cut.start y := by
  unfold Dt.start
  cases h : x.bg
  · rw [if_neg (by decide), if_neg (by show ¬ x.bg = true; rw [h]; decide)]
    rfl
  · rw [if_pos rfl, if_pos (by show x.bg = true; exact h)]
theorem cut_heard {x : Dt} (hw : 1 ≤ x.wi) (y : Int) : (x.rheard y).cut = x.cut.heard y := by
  unfold Dt.rheard Dt.heard Dt.cut
  dsimp only
  congr 1
  cases x.bg
  · rfl
  · show lastn x.wi (x.ga ++ [x.time y - x.la]) = recd x.wi (lastn x.wi x.ga) (Dt.time ⟨x.mn, x.mx, x.wi, true, x.la, lastn x.wi x.ga⟩ y - x.la)
    rw [recd_lastn hw]
    rfl
/-- What the document's detector may be: that of which the program's is, with no more gaps than steps. -/
structure ROk (n : Nat) (x : Dt) : Prop where
  ok : x.cut.Ok
  each : ∀ g ∈ x.ga, 0 ≤ g ∧ g ≤ 1099511627776
  len : x.ga.length ≤ n
  few : n ≤ 300
theorem ROk.time {n : Nat} {x : Dt} (h : ROk n x) (y : Int) : x.la ≤ x.time y ∧ x.time y ≤ 1099511627776 := Dt.time_range h.ok y
theorem ROk.l0 {n : Nat} {x : Dt} (h : ROk n x) : 0 ≤ x.la := h.ok.l0
theorem ROk.l1 {n : Nat} {x : Dt} (h : ROk n x) : x.la ≤ 1099511627776 := h.ok.l1
theorem ROk.new {mn mx wi : Int} (h : newOk mn mx wi = true) : ROk 0 (Dt.new mn mx wi) := ⟨by rw [cut_new]; exact Dt.new_ok h, (fun g hg => by cases hg), Nat.le_refl _, by omega⟩
theorem ROk.start {n : Nat} {x : Dt} (h : ROk n x) (hn : n < 300) (y : Int) : ROk (n + 1) (x.start y) := by
  refine ⟨by rw [cut_start]; exact Dt.start_ok h.ok y, ?_, ?_, by omega⟩
  · unfold Dt.start
    split <;> exact h.each
  · have := h.len
    unfold Dt.start
    split
    · omega
    · show x.ga.length ≤ n + 1
      omega
theorem ROk.heard {n : Nat} {x : Dt} (h : ROk n x) (hn : n < 300) (y : Int) : ROk (n + 1) (x.rheard y) := by
  have ht := h.time y
  have h0 := h.ok.l0
  have h1 : x.cut.la = x.la := rfl
  refine ⟨by rw [cut_heard (x := x) (show 1 ≤ x.wi from h.ok.wi)]; exact Dt.heard_ok h.ok y, ?_, ?_, by omega⟩
  · show ∀ g ∈ (if x.bg = true then x.ga ++ [x.time y - x.la] else x.ga), _
    intro g hg
    split at hg
    · rcases List.mem_append.1 hg with hg | hg
      · exact h.each g hg
      · obtain rfl := List.mem_singleton.1 hg
        omega
    · exact h.each g hg
  · have := h.len
    show (if x.bg = true then x.ga ++ [x.time y - x.la] else x.ga).length ≤ n + 1
    split
    · rw [List.length_append, List.length_singleton]
      omega
    · omega
end Go.Proofs.Ytbglghfdfigefaa
