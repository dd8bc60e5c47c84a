/-
  Carried over and put together: contracts of this program's functions, and plain facts. No statement is proved in this text.
-/
import Derived.Deep.DeepCutAuto
import Derived.Test.YtkoeplgkiogjlaaP02
import Derived.Test.YtkoeplgkiogjlaaP07
set_option maxRecDepth 20000
namespace Go.Proofs.Ytkoeplgkiogjlaa
open Go Go.RowKit
/-- append of a list to an empty literal: nothing old is written. -/
theorem run_copied (ty : TypeId) (W : World) (base b : Nat) (u : Value) (g : List Int) (hb : W.heap[b]? = some (.cells #[] 3 (0, 0))) (hB : base ≤ b) (hI : Rcs encN 1 W u g) (hl : g.length ≤ 4096) :
    ∃ A' c' W', (Builtin.append_ #[45, 45] ty #[.slice (some ⟨b, 0, none⟩) 0 0, u]).run Try.prog W = .ok (.slice A' g.length c') W' ∧ Gaps W' base (.slice A' g.length c') g ∧ Below W.heap.size W W' := by
  obtain ⟨i0, hi, hz0, hz1, hz2⟩ := info_parts info3
  have hbl := row_lt hb
  obtain ⟨A, c, rfl, hn0, hc, hk⟩ := hI
  rcases Nat.eq_zero_or_pos g.length with h0 | h0
  · have hn : g = [] := List.eq_nil_of_length_eq_zero h0
    subst hn
    refine ⟨some ⟨b, 0, none⟩, 0, W, ?_, ⟨rfl, .inr ⟨b, 0, #[], rfl, hB, hb, Nat.le_refl _, by decide, rfl, rfl⟩⟩, Below.refl _ _⟩
    cases A <;> simp [Builtin.append_, run_underlying Try.underlying45, sizeOf, typeInfo, hi, Builtin.lenOf, Builtin.firstCells, storeCells, loadCells, loadCellsFrom]
  · obtain ⟨ad, rfl, _⟩ := hk 0 h0
    have hcell : ∀ j u, (flatR encN g)[j]? = some u → W.cell? (ad.add j) = some u := fun j u hu => by
      obtain ⟨k, hlt, i, rfl, hu2⟩ := flatR_split encN_len (by decide) hu
      obtain ⟨ad', e, _, h2⟩ := hk k hlt
      injection e with e
      subst e
      exact h2 i u hu2
    obtain ⟨v', W', hr, h1, h2⟩ := run_append_arg_grows (P := Try.prog) W 45 ty 3 i0 _ 1 8 Try.underlying45 hi hz0 hz1 hz2 rfl (by decide) ⟨b, 0, none⟩ 0 0 [] rfl (fun j u hu => by cases hu) ad g.length c (flatR encN g) (flatN_len g) hcell (by omega) (by unfold maxLen; omega) (by omega)
    rw [Nat.zero_add, List.nil_append] at h1
    obtain ⟨A', c', rfl, _⟩ := gaps_slice (g := g) h1
    exact ⟨A', c', W', hr, World.ownsRow.mono h1 (by omega), (Below.refl _ _).grown h2 (Nat.le_refl _) fun k hk => by cases hk⟩
theorem step_lit0 {ops : Array Oper} {o : Oper} {a : Act} {K : Act → World → Prop} {Q : Exit → Act → World → Prop} {E : Prop} (hgd : o.guard = none) (ho : o.op = .buildSlice 45 0 #[]) (W : World)
    (h : ∀ b W', W.heap.size ≤ b → W'.heap[b]? = some (.cells #[] 3 (0, 0)) → Below W.heap.size W W' → K (a.put o.dst (.slice (some ⟨b, 0, none⟩) 0 0)) W') :
    if Region.wanted o (yielded ops a.tmps) = true then Oper.wp Try.prog o a W K Q else E := by
  have hw : Region.wanted o (yielded ops a.tmps) = true := by simp [Region.wanted, hgd]
  rw [if_pos hw]
  have hr : (Instr.buildSlice 45 0 #[]).run Try.prog W = .ok (.slice (some ⟨W.heap.size, 0, none⟩) 0 0) (W.alloc (.cells #[] 3)) := by kernel_rfl
  unfold Oper.wp execOp
  simp only [ho, Sem.run_bind, Sem.run_pure, Result.andThen_ok, List.map_toArray, List.map_nil, hr]
  exact h _ _ (Nat.le_refl _) (heap_alloc_new W _) (below_oneX W _)
theorem step_lit1 {ops : Array Oper} {o : Oper} {a : Act} {K : Act → World → Prop} {Q : Exit → Act → World → Prop} {E : Prop} (hgd : o.guard = none) (x : Operand) (ho : o.op = .buildSlice 45 1 #[(0, x)]) (W : World) (y : Int) (hx : a.eval x = .int .i64 y)
    (h : ∀ b W', Rcs encN 1 W' (.slice (some ⟨b, 0, none⟩) 1 1) [y] → Below W.heap.size W W' → K (a.put o.dst (.slice (some ⟨b, 0, none⟩) 1 1)) W') :
    if Region.wanted o (yielded ops a.tmps) = true then Oper.wp Try.prog o a W K Q else E := by
  have hw : Region.wanted o (yielded ops a.tmps) = true := by simp [Region.wanted, hgd]
  rw [if_pos hw]
  have hr : (Instr.buildSlice 45 1 #[(0, .int .i64 y)]).run Try.prog W = .ok (.slice (some ⟨W.heap.size, 0, none⟩) 1 1) (W.alloc (.cells #[.int .i64 y] 3)) := by kernel_rfl
  unfold Oper.wp execOp
  simp only [ho, Sem.run_bind, Sem.run_pure, Result.andThen_ok, List.map_toArray, List.map_cons, List.map_nil, hx, hr]
  exact h _ _ (rcs_lit encN_len W [y] #[.int .i64 y] 3 rfl) (below_oneX W _)
theorem step_copied {ops : Array Oper} {o : Oper} {a : Act} {K : Act → World → Prop} {Q : Exit → Act → World → Prop} {E : Prop} (hgd : o.guard = none) (s x : Operand)
    (ho : o.op = .call { callee := .builtin .append, args := #[s, x], argTypes := #[45, 45] }) (W : World) (base b : Nat) (u : Value) (g : List Int) (hs : a.eval s = .slice (some ⟨b, 0, none⟩) 0 0) (hx : a.eval x = u)
    (hb : W.heap[b]? = some (.cells #[] 3 (0, 0))) (hB : base ≤ b) (hI : Rcs encN 1 W u g) (hl : g.length ≤ 4096)
    (h : ∀ A' c' W', Gaps W' base (.slice A' g.length c') g → Below W.heap.size W W' → K (a.put o.dst (.slice A' g.length c')) W') :
    if Region.wanted o (yielded ops a.tmps) = true then Oper.wp Try.prog o a W K Q else E := by
  have hw : Region.wanted o (yielded ops a.tmps) = true := by simp [Region.wanted, hgd]
  rw [if_pos hw]
  obtain ⟨A', c', W', hr, h1, h2⟩ := run_copied o.type W base b u g hb hB hI hl
  unfold Oper.wp execOp
  simp only [ho, resolve, invoke, builtin, Sem.run_bind, Sem.run_pure, Result.andThen_ok, List.map_toArray, List.map_cons, List.map_nil, hs, hx, hr]
  exact h A' c' W' h1 h2
theorem step_pushed {ops : Array Oper} {o : Oper} {a : Act} {K : Act → World → Prop} {Q : Exit → Act → World → Prop} {E : Prop} (hgd : o.guard = none) (s x : Operand)
    (ho : o.op = .call { callee := .builtin .append, args := #[s, x], argTypes := #[45, 45] }) (W : World) (base b : Nat) (v : Value) (g : List Int) (y : Int) (hs : a.eval s = v) (hx : a.eval x = .slice (some ⟨b, 0, none⟩) 1 1)
    (hown : Gaps W base v g) (hI : Rcs encN 1 W (.slice (some ⟨b, 0, none⟩) 1 1) [y]) (hl : g.length ≤ 4096) (hB : base ≤ W.heap.size)
    (h : ∀ A' n' c' W', Gaps W' base (.slice A' n' c') (g ++ [y]) → Below base W W' → K (a.put o.dst (.slice A' n' c')) W') :
    if Region.wanted o (yielded ops a.tmps) = true then Oper.wp Try.prog o a W K Q else E := by
  have hw : Region.wanted o (yielded ops a.tmps) = true := by simp [Region.wanted, hgd]
  rw [if_pos hw]
  obtain ⟨i0, hi, hz0, hz1, hz2⟩ := info_parts info3
  have hcell : ∀ j u, (flatR encN [y])[j]? = some u → W.cell? ((⟨b, 0, none⟩ : Addr).add j) = some u := fun j u hu => by
    obtain ⟨k, hlt, i, rfl, hu2⟩ := flatR_split encN_len (by decide) hu
    obtain ⟨A', c', hv, _, _, hk⟩ := hI
    injection hv with e1 _ _
    subst e1
    obtain ⟨ad', e, _, h2⟩ := hk k hlt
    injection e with e
    subst e
    exact h2 i u hu2
  obtain ⟨v', W', hr, h1, h2, _⟩ := run_append_own (P := Try.prog) W base 45 o.type 3 i0 _ 1 8 Try.underlying45 hi hz0 hz1 hz2 rfl (by decide) v g.length (flatR encN g) hown ⟨b, 0, none⟩ 1 1 (flatR encN [y]) (flatN_len [y]) hcell (fun u hu => by obtain ⟨x, _, hx⟩ := List.mem_flatMap.1 hu; exact encN_one x u hx) (by unfold maxLen; omega) (by omega) hB
  rw [← flatR_append] at h1
  have h3 : Gaps W' base v' (g ++ [y]) := by
    unfold Gaps OwnsR
    rw [List.length_append]
    exact h1
  obtain ⟨A', c', rfl, _⟩ := gaps_slice h3
  unfold Oper.wp execOp
  simp only [ho, resolve, invoke, builtin, Sem.run_bind, Sem.run_pure, Result.andThen_ok, List.map_toArray, List.map_cons, List.map_nil, hs, hx, hr]
  exact h A' _ c' W' h3 ((Below.refl _ _).grown h2 hB fun k hk => (World.ownsRow.lt hown k hk).1)
/-- The program's detector, of the document's, which keeps all gaps. -/
def Dt.cut (x : Dt) : Dt := ⟨x.mn, x.mx, x.wi, x.bg, x.la, lastn x.wi x.ga⟩
def Dt.rheard (x : Dt) (y : Int) : Dt := ⟨x.mn, x.mx, x.wi, true, x.time y, if x.bg = true then x.ga ++ [x.time y - x.la] else x.ga⟩
theorem cut_new (mn mx wi : Int) : (Dt.new mn mx wi).cut = Dt.new mn mx wi := by simp [Dt.cut, Dt.new, lastn]
theorem cut_start (x : Dt) (y : Int) : (x.start y).cut = x.cut.start y := by
  unfold Dt.start
  cases h : x.bg
  · rw [if_neg (by decide), if_neg (by show ¬ x.bg = true; rw [h]; decide)]
    rfl
  · rw [if_pos rfl, if_pos (by show x.bg = true; exact h)]
theorem cut_heard {x : Dt} (hw : 1 ≤ x.wi) (y : Int) : (x.rheard y).cut = x.cut.heard y := by
  unfold Dt.rheard Dt.heard Dt.cut
  dsimp only
  congr 1
  cases x.bg
  · rfl
  · show lastn x.wi (x.ga ++ [x.time y - x.la]) = recd x.wi (lastn x.wi x.ga) (Dt.time ⟨x.mn, x.mx, x.wi, true, x.la, lastn x.wi x.ga⟩ y - x.la)
    rw [recd_lastn hw]
    rfl
/-- What the document's detector may be: that of which the program's is, with no more gaps than steps. -/
structure ROk (n : Nat) (x : Dt) : Prop where
  ok : x.cut.Ok
  each : ∀ g ∈ x.ga, 0 ≤ g ∧ g ≤ 1099511627776
  len : x.ga.length ≤ n
  few : n ≤ 300
theorem ROk.time {n : Nat} {x : Dt} (h : ROk n x) (y : Int) : x.la ≤ x.time y ∧ x.time y ≤ 1099511627776 := Dt.time_range h.ok y
theorem ROk.l0 {n : Nat} {x : Dt} (h : ROk n x) : 0 ≤ x.la := h.ok.l0
theorem ROk.l1 {n : Nat} {x : Dt} (h : ROk n x) : x.la ≤ 1099511627776 := h.ok.l1
theorem ROk.new {mn mx wi : Int} (h : newOk mn mx wi = true) : ROk 0 (Dt.new mn mx wi) := ⟨by rw [cut_new]; exact Dt.new_ok h, (fun g hg => by cases hg), Nat.le_refl _, by omega⟩
theorem ROk.start {n : Nat} {x : Dt} (h : ROk n x) (hn : n < 300) (y : Int) : ROk (n + 1) (x.start y) := by
  refine ⟨by rw [cut_start]; exact Dt.start_ok h.ok y, ?_, ?_, by omega⟩
  · unfold Dt.start
    split <;> exact h.each
  · have := h.len
    unfold Dt.start
    split
    · omega
    · show x.ga.length ≤ n + 1
      omega
theorem ROk.heard {n : Nat} {x : Dt} (h : ROk n x) (hn : n < 300) (y : Int) : ROk (n + 1) (x.rheard y) := by
  have ht := h.time y
  have h0 := h.ok.l0
  have h1 : x.cut.la = x.la := rfl
  refine ⟨by rw [cut_heard (x := x) (show 1 ≤ x.wi from h.ok.wi)]; exact Dt.heard_ok h.ok y, ?_, ?_, by omega⟩
  · show ∀ g ∈ (if x.bg = true then x.ga ++ [x.time y - x.la] else x.ga), _
    intro g hg
    split at hg
    · rcases List.mem_append.1 hg with hg | hg
      · exact h.each g hg
      · obtain rfl := List.mem_singleton.1 hg
        omega
    · exact h.each g hg
  · have := h.len
    show (if x.bg = true then x.ga ++ [x.time y - x.la] else x.ga).length ≤ n + 1
    split
    · rw [List.length_append, List.length_singleton]
      omega
    · omega
end Go.Proofs.Ytkoeplgkiogjlaa
namespace Go.Proofs.Ytkoeplgkiogjlaa
open Go Go.RowKit
theorem at_anyX (l : Nat) (d : Dt) (v : Value) (x : Int) (w : World) (h : DBox 83 w l d v) (h0 : 0 ≤ d.la) (h1 : d.la ≤ 1099511627776) (hn : d.bg = false → d.la = 0) : Calls Try.prog 49 #[.pointer (some ⟨l, 0, none⟩), .int .i64 x] w fun e w' => e = .returned (.int .i64 (d.time x)) ∧ w' = w := by
  obtain ⟨c0, c1, c2, c3, c4, c5⟩ := dbox_cells h
  clear h c0 c1 c2 c5
  have E : Hid (d.time x = max d.la (min x 1099511627776)) := Lib.hid rfl
  have HN := Lib.hid hn
  have H0 := Lib.hid h0
  have H1 := Lib.hid h1
  clear hn h0 h1
  generalize d.time x = z at *
  cases hb : d.bg
  · have hz := HN.out hb
    rw [hb] at c3
    clear hb
    by_cases ha : x < 0
    · skip
      go_enter Try.func49, Try.ntmps49
      go_wp2_with fail
      go_ret
      exact ⟨ret_int (by have := H0.out; have := H1.out; rw [E.out]; omega), rfl⟩
    · have ha2 : 0 ≤ x := by omega
      by_cases hc : 1099511627776 < x
      · skip
        go_enter Try.func49, Try.ntmps49
        go_wp2_with fail
        go_ret
        exact ⟨ret_int (by have := H0.out; have := H1.out; rw [E.out]; omega), rfl⟩
      · have hc2 : x ≤ 1099511627776 := by omega
        go_enter Try.func49, Try.ntmps49
        go_wp2_with fail
        go_ret
        exact ⟨ret_int (by have := H0.out; have := H1.out; rw [E.out]; omega), rfl⟩
  · rw [hb] at c3
    clear hb
    by_cases ha : x < 0
    · skip
      by_cases hq : 0 < d.la
      · go_enter Try.func49, Try.ntmps49
        go_wp2_with fail
        go_ret
        exact ⟨ret_int (by have := H0.out; have := H1.out; rw [E.out]; omega), rfl⟩
      · have hq2 : d.la ≤ 0 := by omega
        go_enter Try.func49, Try.ntmps49
        go_wp2_with fail
        go_ret
        exact ⟨ret_int (by have := H0.out; have := H1.out; rw [E.out]; omega), rfl⟩
    · have ha2 : 0 ≤ x := by omega
      by_cases hc : 1099511627776 < x
      · skip
        by_cases hq : 1099511627776 < d.la
        · go_enter Try.func49, Try.ntmps49
          go_wp2_with fail
          go_ret
          exact ⟨ret_int (by have := H0.out; have := H1.out; rw [E.out]; omega), rfl⟩
        · have hq2 : d.la ≤ 1099511627776 := by omega
          go_enter Try.func49, Try.ntmps49
          go_wp2_with fail
          go_ret
          exact ⟨ret_int (by have := H0.out; have := H1.out; rw [E.out]; omega), rfl⟩
      · have hc2 : x ≤ 1099511627776 := by omega
        by_cases hq : x < d.la
        · go_enter Try.func49, Try.ntmps49
          go_wp2_with fail
          go_ret
          exact ⟨ret_int (by have := H0.out; have := H1.out; rw [E.out]; omega), rfl⟩
        · have hq2 : d.la ≤ x := by omega
          go_enter Try.func49, Try.ntmps49
          go_wp2_with fail
          go_ret
          exact ⟨ret_int (by have := H0.out; have := H1.out; rw [E.out]; omega), rfl⟩
theorem rbegin_any (base l n : Nat) (d : Dt) (v : Value) (x : Int) (w : World) (h : Det 83 w base l d v) (hd : ROk n d) : Calls Try.prog 39 #[.pointer (some ⟨l, 0, none⟩), .int .i64 x] w (Done 83 base l (d.start x) v w) := by
  have H := Lib.hid h
  have HD := Lib.hid hd
  have HN : Hid (d.bg = false → d.la = 0) := Lib.hid fun e => (hd.ok.no e).1
  obtain ⟨c0, c1, c2, c3, c4, c5⟩ := dbox_cells h.box
  obtain ⟨f3, f4, f5⟩ := dbox_free h.box
  clear h hd
  cases hb : d.bg
  · have E := Lib.hid (show d.start x = ⟨d.mn, d.mx, d.wi, true, d.time x, d.ga⟩ by unfold Dt.start; rw [hb]; rfl)
    have HB := Lib.hid hb
    rw [hb] at c3
    clear hb
    go_enter Try.func39, Try.ntmps39
    go_wp2_with fail
    (with_reducible refine (at_anyX l d v x _ H.out.box HD.out.l0 HD.out.l1 HN.out).mono ?_)
    rintro e w1 ⟨rfl, rfl⟩
    go_wp2_with fail
    go_end0
    refine ⟨rfl, v, ?_, (H.out.put _).2, fun g hg => .inl hg⟩
    rw [E.out]
    exact (H.out.put _).1
  · have E := Lib.hid (show d.start x = d by unfold Dt.start; rw [hb]; rfl)
    rw [hb] at c3
    clear hb
    go_enter Try.func39, Try.ntmps39
    go_wp2_with fail
    go_end0
    refine ⟨rfl, v, ?_, grown_refl _ _, fun g hg => .inl hg⟩
    rw [E.out]
    exact H.out
set_option maxHeartbeats 2000000 in
theorem rheard_any (base l n : Nat) (d : Dt) (v : Value) (x : Int) (w : World) (h : Det 83 w base l d v) (hd : ROk n d) (hB : base ≤ w.heap.size) : Calls Try.prog 32 #[.pointer (some ⟨l, 0, none⟩), .int .i64 x] w (Done 83 base l (d.rheard x) v w) := by
  obtain ⟨A, c, rfl, -, -⟩ := gaps_slice h.gaps
  have H := Lib.hid h
  have HD := Lib.hid hd
  have HB := Lib.hid hB
  have HL := Lib.hid (show d.ga.length ≤ 4096 by have := hd.len; have := hd.few; omega)
  have HN : Hid (d.bg = false → d.la = 0) := Lib.hid fun e => (hd.ok.no e).1
  have hr1 := (hd.time x).1
  have hr2 := (hd.time x).2
  have hr3 : 0 ≤ d.la := hd.ok.l0
  obtain ⟨c0, c1, c2, c3, c4, c5⟩ := dbox_cells h.box
  obtain ⟨f3, f4, f5⟩ := dbox_free h.box
  have hwr : IntKind.i64.wrap (d.time x - d.la) = d.time x - d.la := IntWalk.i64_in _ ⟨by omega, by omega⟩
  clear h hd hB hr1 hr2 hr3
  cases hb : d.bg
  · have E := Lib.hid (show d.rheard x = ⟨d.mn, d.mx, d.wi, true, d.time x, d.ga⟩ by unfold Dt.rheard; rw [hb]; rfl)
    rw [hb] at c3
    clear hb
    go_enter Try.func32, Try.ntmps32
    go_wp2_with fail
    (with_reducible refine (at_anyX l d _ x _ H.out.box HD.out.l0 HD.out.l1 HN.out).mono ?_)
    rintro e w1 ⟨rfl, rfl⟩
    go_wp2_with fail
    go_end0
    have Z := H.out.put (d.time x)
    rw [E.out]
    exact ⟨rfl, _, Z.1, Z.2, fun g hg => .inl hg⟩
  · have E := Lib.hid (show d.rheard x = ⟨d.mn, d.mx, d.wi, true, d.time x, d.ga ++ [d.time x - d.la]⟩ by unfold Dt.rheard; rw [hb]; rfl)
    rw [hb] at c3
    clear hb
    have HSt : Hid (∀ W, Below w.heap.size w W → (W.cell? ⟨l, 4, none⟩ = some (.int .i64 d.la) ∧ W.cell? ⟨l, 5, none⟩ = some (.slice A d.ga.length c))) := Lib.hid fun W hb =>
      have b := dbox_cells (dbox_below H.out.box hb)
      ⟨b.2.2.2.2.1, b.2.2.2.2.2⟩
    go_enter Try.func32, Try.ntmps32
    go_wp2_with fail
    (with_reducible refine (at_anyX l d _ x _ H.out.box HD.out.l0 HD.out.l1 HN.out).mono ?_)
    rintro e w1 ⟨rfl, rfl⟩
    go_wp2_with fail
    have KB := Lib.hid (show Below w1.heap.size w1 w1.drew from (Below.refl _ _).drew)
    clear c0 c1 c2 c3 c4 c5 f3 f4 f5
    refine wp_region_held_drew (S := fun W => W.cell? ⟨l, 4, none⟩ = some (.int .i64 d.la)) (by kernel_rfl) ?_ (fun hHeld => ?_)
    · exact (HSt.out _ KB.out).1
    (refine wpAnyH_take (i := 0) (oi := ⟨_, _, _, _, _, _⟩) (v := ?_) rfl (by kernel_rfl) (by kernel_rfl) (by kernel_rfl) (fun _ _ _ h => h) (Or.inl ⟨by rfl, ?_⟩) (by assumption) ?_; rotate_left 1; · (intro w hSw; (try dsimp only at hSw); go_simp; all_goals with_reducible rfl))
    try simp only [Act.put, List.setIfInBounds_toArray, List.set_cons_zero, List.set_cons_succ]
    (refine wpAnyH_take (i := 2) (oi := ⟨_, _, _, _, _, _⟩) (v := ?_) rfl (by kernel_rfl) (by kernel_rfl) (by kernel_rfl) (fun _ _ _ h => h) (Or.inl ⟨by rfl, ?_⟩) (by assumption) ?_; rotate_left 1; · (intro w hSw; (try dsimp only at hSw); go_simp; all_goals with_reducible rfl))
    try simp only [Act.put, List.setIfInBounds_toArray, List.set_cons_zero, List.set_cons_succ]
    (refine wpAnyH_take (i := 3) (oi := ⟨_, _, _, _, _, _⟩) (v := ?_) rfl (by kernel_rfl) (by kernel_rfl) (by kernel_rfl) (fun _ _ _ h => h) (Or.inl ⟨by rfl, ?_⟩) (by assumption) ?_; rotate_left 1; · (intro w hSw; (try dsimp only at hSw); go_simp; all_goals with_reducible rfl))
    try simp only [Act.put, List.setIfInBounds_toArray, List.set_cons_zero, List.set_cons_succ]
    (refine wpAnyH_take (i := 4) (oi := ⟨_, _, _, _, _, _⟩) (v := ?_) rfl (by kernel_rfl) (by kernel_rfl) (by kernel_rfl) (fun _ _ _ h => h) (Or.inl ⟨by rfl, ?_⟩) (by assumption) ?_; rotate_left 1; · (intro w hSw; (try dsimp only at hSw); go_simp; all_goals with_reducible rfl))
    try simp only [Act.put, List.setIfInBounds_toArray, List.set_cons_zero, List.set_cons_succ]
    (refine wpAnyH_take (i := 7) (oi := ⟨_, _, _, _, _, _⟩) (v := ?_) rfl (by kernel_rfl) (by kernel_rfl) (by kernel_rfl) (fun _ _ _ h => h) (Or.inl ⟨by rfl, ?_⟩) (by assumption) ?_; rotate_left 1; · (intro w hSw; (try dsimp only at hSw); go_simp; all_goals with_reducible rfl))
    try simp only [Act.put, List.setIfInBounds_toArray, List.set_cons_zero, List.set_cons_succ]
    (refine wpAnyH_take (i := 8) (oi := ⟨_, _, _, _, _, _⟩) (v := ?_) rfl (by kernel_rfl) (by kernel_rfl) (by kernel_rfl) (fun _ _ _ h => h) (Or.inl ⟨by rfl, ?_⟩) (by assumption) ?_; rotate_left 1; · (intro w hSw; (try dsimp only at hSw); go_simp; all_goals with_reducible rfl))
    try simp only [Act.put, List.setIfInBounds_toArray, List.set_cons_zero, List.set_cons_succ]
    (refine wpAnyH_take (i := 9) (oi := ⟨_, _, _, _, _, _⟩) (v := ?_) rfl (by kernel_rfl) (by kernel_rfl) (by kernel_rfl) (fun _ _ _ h => h) (Or.inl ⟨by rfl, ?_⟩) (by assumption) ?_; rotate_left 1; · (intro w hSw; (try dsimp only at hSw); go_simp; all_goals with_reducible rfl))
    try simp only [Act.put, List.setIfInBounds_toArray, List.set_cons_zero, List.set_cons_succ]
    (refine wpAnyH_take (i := 10) (oi := ⟨_, _, _, _, _, _⟩) (v := ?_) rfl (by kernel_rfl) (by kernel_rfl) (by kernel_rfl) (fun _ _ _ h => h) (Or.inl ⟨by rfl, ?_⟩) (by assumption) ?_; rotate_left 1; · (intro w hSw; (try dsimp only at hSw); go_simp; all_goals with_reducible rfl))
    try simp only [Act.put, List.setIfInBounds_toArray, List.set_cons_zero, List.set_cons_succ]
    (refine wpAnyH_take (i := 11) (oi := ⟨_, _, _, _, _, _⟩) (v := ?_) rfl (by kernel_rfl) (by kernel_rfl) (by kernel_rfl) (fun _ _ _ h => h) (Or.inl ⟨by rfl, ?_⟩) (by assumption) ?_; rotate_left 1; · (intro w hSw; (try dsimp only at hSw); go_simp; all_goals with_reducible rfl))
    try simp only [Act.put, List.setIfInBounds_toArray, List.set_cons_zero, List.set_cons_succ]
    (refine wpAnyH_take (i := 12) (oi := ⟨_, _, _, _, _, _⟩) (v := ?_) rfl (by kernel_rfl) (by kernel_rfl) (by kernel_rfl) (fun _ _ _ h => h) (Or.inl ⟨by rfl, ?_⟩) (by assumption) ?_; rotate_left 1; · (intro w hSw; (try dsimp only at hSw); go_simp; all_goals with_reducible rfl))
    try simp only [Act.put, List.setIfInBounds_toArray, List.set_cons_zero, List.set_cons_succ]
    refine wpAnyH_ready (rs := [1, 5, 13]) (by kernel_rfl) (by simp) ?_
    refine AllReadyH.cons (o := ⟨_, _, _, _, _, _⟩) rfl (fun Kq hKq => ?_) (AllReadyH.cons (o := ⟨_, _, _, _, _, _⟩) rfl (fun Kq hKq => ?_) (AllReadyH.cons (o := ⟨_, _, _, _, _, _⟩) rfl (fun Kq hKq => ?_) (AllReadyH.nil)))
    · clear hHeld
      refine step_lit0 (by rfl) (by rfl) _ ?_; intro b0 W1 hlo hx hb; have KB2 := KB; have KB := Lib.hid (below_after KB.out hb (Nat.le_refl _)); have XB := Lib.hid hx; have XN := Lib.hid (Nat.le_trans KB2.out.size hlo); clear hx hlo hb KB2
      refine hKq.out _ _ ?_ (fun hHeld => ?_)
      · (try dsimp only); exact (HSt.out _ KB.out).1
      clear hKq Kq
      try simp only [Act.put, List.setIfInBounds_toArray, List.set_cons_zero, List.set_cons_succ]
      refine wpAnyH_ready (rs := [5, 13]) (by kernel_rfl) (by simp) ?_
      refine AllReadyH.cons (o := ⟨_, _, _, _, _, _⟩) rfl (fun Kq hKq => ?_) (AllReadyH.cons (o := ⟨_, _, _, _, _, _⟩) rfl (fun Kq hKq => ?_) (AllReadyH.nil))
      · have c5 := (HSt.out _ KB.out).2
        go_simp
        clear hHeld
        clear c5
        refine hKq.out _ _ ?_ (fun hHeld => ?_)
        · (try dsimp only); exact (HSt.out _ KB.out).1
        clear hKq Kq
        try simp only [Act.put, List.setIfInBounds_toArray, List.set_cons_zero, List.set_cons_succ]
        refine wpAnyH_ready (rs := [6, 13]) (by kernel_rfl) (by simp) ?_
        refine AllReadyH.cons (o := ⟨_, _, _, _, _, _⟩) rfl (fun Kq hKq => ?_) (AllReadyH.cons (o := ⟨_, _, _, _, _, _⟩) rfl (fun Kq hKq => ?_) (AllReadyH.nil))
        · clear hHeld
          refine step_copied (by rfl) (.tmp 13) (.tmp 17) (by rfl) _ w1.heap.size b0 _ d.ga (by rfl) (by rfl) XB.out XN.out ((gaps_rcs H.out.gaps).below KB.out) HL.out ?_; intro A6 c6 W6 hx hb; have KB2 := KB; have KB := Lib.hid (below_after KB.out hb (Nat.le_refl _)); have OW := Lib.hid hx; clear hx hb KB2
          refine hKq.out _ _ ?_ (fun hHeld => ?_)
          · (try dsimp only); exact (HSt.out _ KB.out).1
          clear hKq Kq
          try simp only [Act.put, List.setIfInBounds_toArray, List.set_cons_zero, List.set_cons_succ]
          refine wpAnyH_ready (rs := [13]) (by kernel_rfl) (by simp) ?_
          refine AllReadyH.cons (o := ⟨_, _, _, _, _, _⟩) rfl (fun Kq hKq => ?_) (AllReadyH.nil)
          clear hHeld
          refine step_lit1 (by rfl) (.tmp 24) (by rfl) _ _ (by rfl) ?_; intro b1 W2 hx hb; have KB2 := KB; have KB := Lib.hid (below_after KB.out hb (Nat.le_refl _)); have OW := Lib.hid (OwnsR.below OW.out hb); have XL := Lib.hid hx; clear hx hb KB2
          refine hKq.out _ _ ?_ (fun hHeld => ?_)
          · (try dsimp only); exact (HSt.out _ KB.out).1
          clear hKq Kq
          try simp only [Act.put, List.setIfInBounds_toArray, List.set_cons_zero, List.set_cons_succ]
          refine wpAnyH_ready (rs := [14]) (by kernel_rfl) (by simp) ?_
          refine AllReadyH.cons (o := ⟨_, _, _, _, _, _⟩) rfl (fun Kq hKq => ?_) (AllReadyH.nil)
          clear hHeld
          refine step_pushed (by rfl) (.tmp 18) (.tmp 25) (by rfl) _ w1.heap.size b1 _ d.ga _ (by rfl) (by rfl) OW.out XL.out HL.out KB.out.size ?_; intro A7 n7 c7 W7 hx hb; have KB := Lib.hid (KB.out.trans hb); have OW := Lib.hid hx; have D7 := Lib.hid (H.out.below KB.out); clear hx hb XL
          refine hKq.out _ _ ?_ (fun hHeld => ?_)
          · (try dsimp only); exact (HSt.out _ KB.out).1
          clear hKq Kq
          try simp only [Act.put, List.setIfInBounds_toArray, List.set_cons_zero, List.set_cons_succ]
          (refine wpAnyH_take (i := 15) (oi := ⟨_, _, _, _, _, _⟩) (v := ?_) rfl (by kernel_rfl) (by kernel_rfl) (by kernel_rfl) (fun _ _ _ h => h) (Or.inl ⟨by rfl, ?_⟩) (by assumption) ?_; rotate_left 1; · (intro w hSw; (try dsimp only at hSw); go_simp; all_goals with_reducible rfl))
          try simp only [Act.put, List.setIfInBounds_toArray, List.set_cons_zero, List.set_cons_succ]
          (refine wpAnyH_take (i := 16) (oi := ⟨_, _, _, _, _, _⟩) (v := ?_) rfl (by kernel_rfl) (by kernel_rfl) (by kernel_rfl) (fun _ _ _ h => h) (Or.inl ⟨by rfl, ?_⟩) (by assumption) ?_; rotate_left 1; · (intro w hSw; (try dsimp only at hSw); go_simp; all_goals with_reducible rfl))
          try simp only [Act.put, List.setIfInBounds_toArray, List.set_cons_zero, List.set_cons_succ]
          refine wpAnyH_ready (rs := [17]) (by kernel_rfl) (by simp) ?_
          refine AllReadyH.cons (o := ⟨_, _, _, _, _, _⟩) rfl (fun Kq hKq => ?_) (AllReadyH.nil)
          have cc := (dbox_cells D7.out.box).2.2.2.2.2
          have ff := (dbox_free D7.out.box).2.2
          go_simp
          clear hHeld
          have X := Lib.hid (D7.out.gap (OwnsR.mono_base OW.out HB.out))
          have GB := Lib.hid (grown_trans (grown_below KB.out (some l)) X.out.2); have NB := Lib.hid (fun (g : Nat) hg => (World.ownsRow.lt OW.out g hg).1)
          refine hKq.out _ _ ?_ (fun hHeld => ?_)
          · exact (dbox_cells X.out.1.box).2.2.2.2.1
          clear hKq Kq
          try simp only [Act.put, List.setIfInBounds_toArray, List.set_cons_zero, List.set_cons_succ]
          refine wpAnyH_done (by kernel_rfl) ?_ _
          have X1 := Lib.hid X.out.1
          clear X cc ff hHeld D7 OW
          generalize hW : World.setCell _ _ _ = w9 at *
          clear hW
          obtain ⟨c0, c1, c2, c3, c4, c5⟩ := dbox_cells X1.out.box
          obtain ⟨f3, f4, f5⟩ := dbox_free X1.out.box
          clear c0 c1 c2 c5 f5
          go_wp2_with fail
          go_end0
          have Z := X1.out.put (d.time x)
          rw [E.out]
          exact ⟨rfl, _, Z.1, grown_trans GB.out Z.2, fun g hg => .inr (NB.out g hg)⟩
        · clear hHeld
          refine step_lit1 (by rfl) (.tmp 24) (by rfl) _ _ (by rfl) ?_; intro b1 W2 hx hb; have KB2 := KB; have KB := Lib.hid (below_after KB.out hb (Nat.le_refl _)); have XB := Lib.hid ((hb.block _ (row_lt XB.out)).trans XB.out); have XL := Lib.hid hx; clear hx hb KB2
          refine hKq.out _ _ ?_ (fun hHeld => ?_)
          · (try dsimp only); exact (HSt.out _ KB.out).1
          clear hKq Kq
          try simp only [Act.put, List.setIfInBounds_toArray, List.set_cons_zero, List.set_cons_succ]
          refine wpAnyH_ready (rs := [6]) (by kernel_rfl) (by simp) ?_
          refine AllReadyH.cons (o := ⟨_, _, _, _, _, _⟩) rfl (fun Kq hKq => ?_) (AllReadyH.nil)
          clear hHeld
          refine step_copied (by rfl) (.tmp 13) (.tmp 17) (by rfl) _ w1.heap.size b0 _ d.ga (by rfl) (by rfl) XB.out XN.out ((gaps_rcs H.out.gaps).below KB.out) HL.out ?_; intro A6 c6 W6 hx hb; have KB2 := KB; have KB := Lib.hid (below_after KB.out hb (Nat.le_refl _)); have XL := Lib.hid (XL.out.below hb); have OW := Lib.hid hx; clear hx hb KB2
          refine hKq.out _ _ ?_ (fun hHeld => ?_)
          · (try dsimp only); exact (HSt.out _ KB.out).1
          clear hKq Kq
          try simp only [Act.put, List.setIfInBounds_toArray, List.set_cons_zero, List.set_cons_succ]
          refine wpAnyH_ready (rs := [14]) (by kernel_rfl) (by simp) ?_
          refine AllReadyH.cons (o := ⟨_, _, _, _, _, _⟩) rfl (fun Kq hKq => ?_) (AllReadyH.nil)
          clear hHeld
          refine step_pushed (by rfl) (.tmp 18) (.tmp 25) (by rfl) _ w1.heap.size b1 _ d.ga _ (by rfl) (by rfl) OW.out XL.out HL.out KB.out.size ?_; intro A7 n7 c7 W7 hx hb; have KB := Lib.hid (KB.out.trans hb); have OW := Lib.hid hx; have D7 := Lib.hid (H.out.below KB.out); clear hx hb XL
          refine hKq.out _ _ ?_ (fun hHeld => ?_)
          · (try dsimp only); exact (HSt.out _ KB.out).1
          clear hKq Kq
          try simp only [Act.put, List.setIfInBounds_toArray, List.set_cons_zero, List.set_cons_succ]
          (refine wpAnyH_take (i := 15) (oi := ⟨_, _, _, _, _, _⟩) (v := ?_) rfl (by kernel_rfl) (by kernel_rfl) (by kernel_rfl) (fun _ _ _ h => h) (Or.inl ⟨by rfl, ?_⟩) (by assumption) ?_; rotate_left 1; · (intro w hSw; (try dsimp only at hSw); go_simp; all_goals with_reducible rfl))
          try simp only [Act.put, List.setIfInBounds_toArray, List.set_cons_zero, List.set_cons_succ]
          (refine wpAnyH_take (i := 16) (oi := ⟨_, _, _, _, _, _⟩) (v := ?_) rfl (by kernel_rfl) (by kernel_rfl) (by kernel_rfl) (fun _ _ _ h => h) (Or.inl ⟨by rfl, ?_⟩) (by assumption) ?_; rotate_left 1; · (intro w hSw; (try dsimp only at hSw); go_simp; all_goals with_reducible rfl))
          try simp only [Act.put, List.setIfInBounds_toArray, List.set_cons_zero, List.set_cons_succ]
          refine wpAnyH_ready (rs := [17]) (by kernel_rfl) (by simp) ?_
          refine AllReadyH.cons (o := ⟨_, _, _, _, _, _⟩) rfl (fun Kq hKq => ?_) (AllReadyH.nil)
          have cc := (dbox_cells D7.out.box).2.2.2.2.2
          have ff := (dbox_free D7.out.box).2.2
          go_simp
          clear hHeld
          have X := Lib.hid (D7.out.gap (OwnsR.mono_base OW.out HB.out))
          have GB := Lib.hid (grown_trans (grown_below KB.out (some l)) X.out.2); have NB := Lib.hid (fun (g : Nat) hg => (World.ownsRow.lt OW.out g hg).1)
          refine hKq.out _ _ ?_ (fun hHeld => ?_)
          · exact (dbox_cells X.out.1.box).2.2.2.2.1
          clear hKq Kq
          try simp only [Act.put, List.setIfInBounds_toArray, List.set_cons_zero, List.set_cons_succ]
          refine wpAnyH_done (by kernel_rfl) ?_ _
          have X1 := Lib.hid X.out.1
          clear X cc ff hHeld D7 OW
          generalize hW : World.setCell _ _ _ = w9 at *
          clear hW
          obtain ⟨c0, c1, c2, c3, c4, c5⟩ := dbox_cells X1.out.box
          obtain ⟨f3, f4, f5⟩ := dbox_free X1.out.box
          clear c0 c1 c2 c5 f5
          go_wp2_with fail
          go_end0
          have Z := X1.out.put (d.time x)
          rw [E.out]
          exact ⟨rfl, _, Z.1, grown_trans GB.out Z.2, fun g hg => .inr (NB.out g hg)⟩
      · clear hHeld
        refine step_lit1 (by rfl) (.tmp 24) (by rfl) _ _ (by rfl) ?_; intro b1 W2 hx hb; have KB2 := KB; have KB := Lib.hid (below_after KB.out hb (Nat.le_refl _)); have XB := Lib.hid ((hb.block _ (row_lt XB.out)).trans XB.out); have XL := Lib.hid hx; clear hx hb KB2
        refine hKq.out _ _ ?_ (fun hHeld => ?_)
        · (try dsimp only); exact (HSt.out _ KB.out).1
        clear hKq Kq
        try simp only [Act.put, List.setIfInBounds_toArray, List.set_cons_zero, List.set_cons_succ]
        refine wpAnyH_ready (rs := [5]) (by kernel_rfl) (by simp) ?_
        refine AllReadyH.cons (o := ⟨_, _, _, _, _, _⟩) rfl (fun Kq hKq => ?_) (AllReadyH.nil)
        have c5 := (HSt.out _ KB.out).2
        go_simp
        clear hHeld
        clear c5
        refine hKq.out _ _ ?_ (fun hHeld => ?_)
        · (try dsimp only); exact (HSt.out _ KB.out).1
        clear hKq Kq
        try simp only [Act.put, List.setIfInBounds_toArray, List.set_cons_zero, List.set_cons_succ]
        refine wpAnyH_ready (rs := [6]) (by kernel_rfl) (by simp) ?_
        refine AllReadyH.cons (o := ⟨_, _, _, _, _, _⟩) rfl (fun Kq hKq => ?_) (AllReadyH.nil)
        clear hHeld
        refine step_copied (by rfl) (.tmp 13) (.tmp 17) (by rfl) _ w1.heap.size b0 _ d.ga (by rfl) (by rfl) XB.out XN.out ((gaps_rcs H.out.gaps).below KB.out) HL.out ?_; intro A6 c6 W6 hx hb; have KB2 := KB; have KB := Lib.hid (below_after KB.out hb (Nat.le_refl _)); have XL := Lib.hid (XL.out.below hb); have OW := Lib.hid hx; clear hx hb KB2
        refine hKq.out _ _ ?_ (fun hHeld => ?_)
        · (try dsimp only); exact (HSt.out _ KB.out).1
        clear hKq Kq
        try simp only [Act.put, List.setIfInBounds_toArray, List.set_cons_zero, List.set_cons_succ]
        refine wpAnyH_ready (rs := [14]) (by kernel_rfl) (by simp) ?_
        refine AllReadyH.cons (o := ⟨_, _, _, _, _, _⟩) rfl (fun Kq hKq => ?_) (AllReadyH.nil)
        clear hHeld
        refine step_pushed (by rfl) (.tmp 18) (.tmp 25) (by rfl) _ w1.heap.size b1 _ d.ga _ (by rfl) (by rfl) OW.out XL.out HL.out KB.out.size ?_; intro A7 n7 c7 W7 hx hb; have KB := Lib.hid (KB.out.trans hb); have OW := Lib.hid hx; have D7 := Lib.hid (H.out.below KB.out); clear hx hb XL
        refine hKq.out _ _ ?_ (fun hHeld => ?_)
        · (try dsimp only); exact (HSt.out _ KB.out).1
        clear hKq Kq
        try simp only [Act.put, List.setIfInBounds_toArray, List.set_cons_zero, List.set_cons_succ]
        (refine wpAnyH_take (i := 15) (oi := ⟨_, _, _, _, _, _⟩) (v := ?_) rfl (by kernel_rfl) (by kernel_rfl) (by kernel_rfl) (fun _ _ _ h => h) (Or.inl ⟨by rfl, ?_⟩) (by assumption) ?_; rotate_left 1; · (intro w hSw; (try dsimp only at hSw); go_simp; all_goals with_reducible rfl))
        try simp only [Act.put, List.setIfInBounds_toArray, List.set_cons_zero, List.set_cons_succ]
        (refine wpAnyH_take (i := 16) (oi := ⟨_, _, _, _, _, _⟩) (v := ?_) rfl (by kernel_rfl) (by kernel_rfl) (by kernel_rfl) (fun _ _ _ h => h) (Or.inl ⟨by rfl, ?_⟩) (by assumption) ?_; rotate_left 1; · (intro w hSw; (try dsimp only at hSw); go_simp; all_goals with_reducible rfl))
        try simp only [Act.put, List.setIfInBounds_toArray, List.set_cons_zero, List.set_cons_succ]
        refine wpAnyH_ready (rs := [17]) (by kernel_rfl) (by simp) ?_
        refine AllReadyH.cons (o := ⟨_, _, _, _, _, _⟩) rfl (fun Kq hKq => ?_) (AllReadyH.nil)
        have cc := (dbox_cells D7.out.box).2.2.2.2.2
        have ff := (dbox_free D7.out.box).2.2
        go_simp
        clear hHeld
        have X := Lib.hid (D7.out.gap (OwnsR.mono_base OW.out HB.out))
        have GB := Lib.hid (grown_trans (grown_below KB.out (some l)) X.out.2); have NB := Lib.hid (fun (g : Nat) hg => (World.ownsRow.lt OW.out g hg).1)
        refine hKq.out _ _ ?_ (fun hHeld => ?_)
        · exact (dbox_cells X.out.1.box).2.2.2.2.1
        clear hKq Kq
        try simp only [Act.put, List.setIfInBounds_toArray, List.set_cons_zero, List.set_cons_succ]
        refine wpAnyH_done (by kernel_rfl) ?_ _
        have X1 := Lib.hid X.out.1
        clear X cc ff hHeld D7 OW
        generalize hW : World.setCell _ _ _ = w9 at *
        clear hW
        obtain ⟨c0, c1, c2, c3, c4, c5⟩ := dbox_cells X1.out.box
        obtain ⟨f3, f4, f5⟩ := dbox_free X1.out.box
        clear c0 c1 c2 c5 f5
        go_wp2_with fail
        go_end0
        have Z := X1.out.put (d.time x)
        rw [E.out]
        exact ⟨rfl, _, Z.1, grown_trans GB.out Z.2, fun g hg => .inr (NB.out g hg)⟩
    · have c5 := (HSt.out _ KB.out).2
      go_simp
      clear hHeld
      clear c5
      refine hKq.out _ _ ?_ (fun hHeld => ?_)
      · (try dsimp only); exact (HSt.out _ KB.out).1
      clear hKq Kq
      try simp only [Act.put, List.setIfInBounds_toArray, List.set_cons_zero, List.set_cons_succ]
      refine wpAnyH_ready (rs := [1, 13]) (by kernel_rfl) (by simp) ?_
      refine AllReadyH.cons (o := ⟨_, _, _, _, _, _⟩) rfl (fun Kq hKq => ?_) (AllReadyH.cons (o := ⟨_, _, _, _, _, _⟩) rfl (fun Kq hKq => ?_) (AllReadyH.nil))
      · clear hHeld
        refine step_lit0 (by rfl) (by rfl) _ ?_; intro b0 W1 hlo hx hb; have KB2 := KB; have KB := Lib.hid (below_after KB.out hb (Nat.le_refl _)); have XB := Lib.hid hx; have XN := Lib.hid (Nat.le_trans KB2.out.size hlo); clear hx hlo hb KB2
        refine hKq.out _ _ ?_ (fun hHeld => ?_)
        · (try dsimp only); exact (HSt.out _ KB.out).1
        clear hKq Kq
        try simp only [Act.put, List.setIfInBounds_toArray, List.set_cons_zero, List.set_cons_succ]
        refine wpAnyH_ready (rs := [6, 13]) (by kernel_rfl) (by simp) ?_
        refine AllReadyH.cons (o := ⟨_, _, _, _, _, _⟩) rfl (fun Kq hKq => ?_) (AllReadyH.cons (o := ⟨_, _, _, _, _, _⟩) rfl (fun Kq hKq => ?_) (AllReadyH.nil))
        · clear hHeld
          refine step_copied (by rfl) (.tmp 13) (.tmp 17) (by rfl) _ w1.heap.size b0 _ d.ga (by rfl) (by rfl) XB.out XN.out ((gaps_rcs H.out.gaps).below KB.out) HL.out ?_; intro A6 c6 W6 hx hb; have KB2 := KB; have KB := Lib.hid (below_after KB.out hb (Nat.le_refl _)); have OW := Lib.hid hx; clear hx hb KB2
          refine hKq.out _ _ ?_ (fun hHeld => ?_)
          · (try dsimp only); exact (HSt.out _ KB.out).1
          clear hKq Kq
          try simp only [Act.put, List.setIfInBounds_toArray, List.set_cons_zero, List.set_cons_succ]
          refine wpAnyH_ready (rs := [13]) (by kernel_rfl) (by simp) ?_
          refine AllReadyH.cons (o := ⟨_, _, _, _, _, _⟩) rfl (fun Kq hKq => ?_) (AllReadyH.nil)
          clear hHeld
          refine step_lit1 (by rfl) (.tmp 24) (by rfl) _ _ (by rfl) ?_; intro b1 W2 hx hb; have KB2 := KB; have KB := Lib.hid (below_after KB.out hb (Nat.le_refl _)); have OW := Lib.hid (OwnsR.below OW.out hb); have XL := Lib.hid hx; clear hx hb KB2
          refine hKq.out _ _ ?_ (fun hHeld => ?_)
          · (try dsimp only); exact (HSt.out _ KB.out).1
          clear hKq Kq
          try simp only [Act.put, List.setIfInBounds_toArray, List.set_cons_zero, List.set_cons_succ]
          refine wpAnyH_ready (rs := [14]) (by kernel_rfl) (by simp) ?_
          refine AllReadyH.cons (o := ⟨_, _, _, _, _, _⟩) rfl (fun Kq hKq => ?_) (AllReadyH.nil)
          clear hHeld
          refine step_pushed (by rfl) (.tmp 18) (.tmp 25) (by rfl) _ w1.heap.size b1 _ d.ga _ (by rfl) (by rfl) OW.out XL.out HL.out KB.out.size ?_; intro A7 n7 c7 W7 hx hb; have KB := Lib.hid (KB.out.trans hb); have OW := Lib.hid hx; have D7 := Lib.hid (H.out.below KB.out); clear hx hb XL
          refine hKq.out _ _ ?_ (fun hHeld => ?_)
          · (try dsimp only); exact (HSt.out _ KB.out).1
          clear hKq Kq
          try simp only [Act.put, List.setIfInBounds_toArray, List.set_cons_zero, List.set_cons_succ]
          (refine wpAnyH_take (i := 15) (oi := ⟨_, _, _, _, _, _⟩) (v := ?_) rfl (by kernel_rfl) (by kernel_rfl) (by kernel_rfl) (fun _ _ _ h => h) (Or.inl ⟨by rfl, ?_⟩) (by assumption) ?_; rotate_left 1; · (intro w hSw; (try dsimp only at hSw); go_simp; all_goals with_reducible rfl))
          try simp only [Act.put, List.setIfInBounds_toArray, List.set_cons_zero, List.set_cons_succ]
          (refine wpAnyH_take (i := 16) (oi := ⟨_, _, _, _, _, _⟩) (v := ?_) rfl (by kernel_rfl) (by kernel_rfl) (by kernel_rfl) (fun _ _ _ h => h) (Or.inl ⟨by rfl, ?_⟩) (by assumption) ?_; rotate_left 1; · (intro w hSw; (try dsimp only at hSw); go_simp; all_goals with_reducible rfl))
          try simp only [Act.put, List.setIfInBounds_toArray, List.set_cons_zero, List.set_cons_succ]
          refine wpAnyH_ready (rs := [17]) (by kernel_rfl) (by simp) ?_
          refine AllReadyH.cons (o := ⟨_, _, _, _, _, _⟩) rfl (fun Kq hKq => ?_) (AllReadyH.nil)
          have cc := (dbox_cells D7.out.box).2.2.2.2.2
          have ff := (dbox_free D7.out.box).2.2
          go_simp
          clear hHeld
          have X := Lib.hid (D7.out.gap (OwnsR.mono_base OW.out HB.out))
          have GB := Lib.hid (grown_trans (grown_below KB.out (some l)) X.out.2); have NB := Lib.hid (fun (g : Nat) hg => (World.ownsRow.lt OW.out g hg).1)
          refine hKq.out _ _ ?_ (fun hHeld => ?_)
          · exact (dbox_cells X.out.1.box).2.2.2.2.1
          clear hKq Kq
          try simp only [Act.put, List.setIfInBounds_toArray, List.set_cons_zero, List.set_cons_succ]
          refine wpAnyH_done (by kernel_rfl) ?_ _
          have X1 := Lib.hid X.out.1
          clear X cc ff hHeld D7 OW
          generalize hW : World.setCell _ _ _ = w9 at *
          clear hW
          obtain ⟨c0, c1, c2, c3, c4, c5⟩ := dbox_cells X1.out.box
          obtain ⟨f3, f4, f5⟩ := dbox_free X1.out.box
          clear c0 c1 c2 c5 f5
          go_wp2_with fail
          go_end0
          have Z := X1.out.put (d.time x)
          rw [E.out]
          exact ⟨rfl, _, Z.1, grown_trans GB.out Z.2, fun g hg => .inr (NB.out g hg)⟩
        · clear hHeld
          refine step_lit1 (by rfl) (.tmp 24) (by rfl) _ _ (by rfl) ?_; intro b1 W2 hx hb; have KB2 := KB; have KB := Lib.hid (below_after KB.out hb (Nat.le_refl _)); have XB := Lib.hid ((hb.block _ (row_lt XB.out)).trans XB.out); have XL := Lib.hid hx; clear hx hb KB2
          refine hKq.out _ _ ?_ (fun hHeld => ?_)
          · (try dsimp only); exact (HSt.out _ KB.out).1
          clear hKq Kq
          try simp only [Act.put, List.setIfInBounds_toArray, List.set_cons_zero, List.set_cons_succ]
          refine wpAnyH_ready (rs := [6]) (by kernel_rfl) (by simp) ?_
          refine AllReadyH.cons (o := ⟨_, _, _, _, _, _⟩) rfl (fun Kq hKq => ?_) (AllReadyH.nil)
          clear hHeld
          refine step_copied (by rfl) (.tmp 13) (.tmp 17) (by rfl) _ w1.heap.size b0 _ d.ga (by rfl) (by rfl) XB.out XN.out ((gaps_rcs H.out.gaps).below KB.out) HL.out ?_; intro A6 c6 W6 hx hb; have KB2 := KB; have KB := Lib.hid (below_after KB.out hb (Nat.le_refl _)); have XL := Lib.hid (XL.out.below hb); have OW := Lib.hid hx; clear hx hb KB2
          refine hKq.out _ _ ?_ (fun hHeld => ?_)
          · (try dsimp only); exact (HSt.out _ KB.out).1
          clear hKq Kq
          try simp only [Act.put, List.setIfInBounds_toArray, List.set_cons_zero, List.set_cons_succ]
          refine wpAnyH_ready (rs := [14]) (by kernel_rfl) (by simp) ?_
          refine AllReadyH.cons (o := ⟨_, _, _, _, _, _⟩) rfl (fun Kq hKq => ?_) (AllReadyH.nil)
          clear hHeld
          refine step_pushed (by rfl) (.tmp 18) (.tmp 25) (by rfl) _ w1.heap.size b1 _ d.ga _ (by rfl) (by rfl) OW.out XL.out HL.out KB.out.size ?_; intro A7 n7 c7 W7 hx hb; have KB := Lib.hid (KB.out.trans hb); have OW := Lib.hid hx; have D7 := Lib.hid (H.out.below KB.out); clear hx hb XL
          refine hKq.out _ _ ?_ (fun hHeld => ?_)
          · (try dsimp only); exact (HSt.out _ KB.out).1
          clear hKq Kq
          try simp only [Act.put, List.setIfInBounds_toArray, List.set_cons_zero, List.set_cons_succ]
          (refine wpAnyH_take (i := 15) (oi := ⟨_, _, _, _, _, _⟩) (v := ?_) rfl (by kernel_rfl) (by kernel_rfl) (by kernel_rfl) (fun _ _ _ h => h) (Or.inl ⟨by rfl, ?_⟩) (by assumption) ?_; rotate_left 1; · (intro w hSw; (try dsimp only at hSw); go_simp; all_goals with_reducible rfl))
          try simp only [Act.put, List.setIfInBounds_toArray, List.set_cons_zero, List.set_cons_succ]
          (refine wpAnyH_take (i := 16) (oi := ⟨_, _, _, _, _, _⟩) (v := ?_) rfl (by kernel_rfl) (by kernel_rfl) (by kernel_rfl) (fun _ _ _ h => h) (Or.inl ⟨by rfl, ?_⟩) (by assumption) ?_; rotate_left 1; · (intro w hSw; (try dsimp only at hSw); go_simp; all_goals with_reducible rfl))
          try simp only [Act.put, List.setIfInBounds_toArray, List.set_cons_zero, List.set_cons_succ]
          refine wpAnyH_ready (rs := [17]) (by kernel_rfl) (by simp) ?_
          refine AllReadyH.cons (o := ⟨_, _, _, _, _, _⟩) rfl (fun Kq hKq => ?_) (AllReadyH.nil)
          have cc := (dbox_cells D7.out.box).2.2.2.2.2
          have ff := (dbox_free D7.out.box).2.2
          go_simp
          clear hHeld
          have X := Lib.hid (D7.out.gap (OwnsR.mono_base OW.out HB.out))
          have GB := Lib.hid (grown_trans (grown_below KB.out (some l)) X.out.2); have NB := Lib.hid (fun (g : Nat) hg => (World.ownsRow.lt OW.out g hg).1)
          refine hKq.out _ _ ?_ (fun hHeld => ?_)
          · exact (dbox_cells X.out.1.box).2.2.2.2.1
          clear hKq Kq
          try simp only [Act.put, List.setIfInBounds_toArray, List.set_cons_zero, List.set_cons_succ]
          refine wpAnyH_done (by kernel_rfl) ?_ _
          have X1 := Lib.hid X.out.1
          clear X cc ff hHeld D7 OW
          generalize hW : World.setCell _ _ _ = w9 at *
          clear hW
          obtain ⟨c0, c1, c2, c3, c4, c5⟩ := dbox_cells X1.out.box
          obtain ⟨f3, f4, f5⟩ := dbox_free X1.out.box
          clear c0 c1 c2 c5 f5
          go_wp2_with fail
          go_end0
          have Z := X1.out.put (d.time x)
          rw [E.out]
          exact ⟨rfl, _, Z.1, grown_trans GB.out Z.2, fun g hg => .inr (NB.out g hg)⟩
      · clear hHeld
        refine step_lit1 (by rfl) (.tmp 24) (by rfl) _ _ (by rfl) ?_; intro b1 W2 hx hb; have KB2 := KB; have KB := Lib.hid (below_after KB.out hb (Nat.le_refl _)); have XL := Lib.hid hx; clear hx hb KB2
        refine hKq.out _ _ ?_ (fun hHeld => ?_)
        · (try dsimp only); exact (HSt.out _ KB.out).1
        clear hKq Kq
        try simp only [Act.put, List.setIfInBounds_toArray, List.set_cons_zero, List.set_cons_succ]
        refine wpAnyH_ready (rs := [1]) (by kernel_rfl) (by simp) ?_
        refine AllReadyH.cons (o := ⟨_, _, _, _, _, _⟩) rfl (fun Kq hKq => ?_) (AllReadyH.nil)
        clear hHeld
        refine step_lit0 (by rfl) (by rfl) _ ?_; intro b0 W1 hlo hx hb; have KB2 := KB; have KB := Lib.hid (below_after KB.out hb (Nat.le_refl _)); have XL := Lib.hid (XL.out.below hb); have XB := Lib.hid hx; have XN := Lib.hid (Nat.le_trans KB2.out.size hlo); clear hx hlo hb KB2
        refine hKq.out _ _ ?_ (fun hHeld => ?_)
        · (try dsimp only); exact (HSt.out _ KB.out).1
        clear hKq Kq
        try simp only [Act.put, List.setIfInBounds_toArray, List.set_cons_zero, List.set_cons_succ]
        refine wpAnyH_ready (rs := [6]) (by kernel_rfl) (by simp) ?_
        refine AllReadyH.cons (o := ⟨_, _, _, _, _, _⟩) rfl (fun Kq hKq => ?_) (AllReadyH.nil)
        clear hHeld
        refine step_copied (by rfl) (.tmp 13) (.tmp 17) (by rfl) _ w1.heap.size b0 _ d.ga (by rfl) (by rfl) XB.out XN.out ((gaps_rcs H.out.gaps).below KB.out) HL.out ?_; intro A6 c6 W6 hx hb; have KB2 := KB; have KB := Lib.hid (below_after KB.out hb (Nat.le_refl _)); have XL := Lib.hid (XL.out.below hb); have OW := Lib.hid hx; clear hx hb KB2
        refine hKq.out _ _ ?_ (fun hHeld => ?_)
        · (try dsimp only); exact (HSt.out _ KB.out).1
        clear hKq Kq
        try simp only [Act.put, List.setIfInBounds_toArray, List.set_cons_zero, List.set_cons_succ]
        refine wpAnyH_ready (rs := [14]) (by kernel_rfl) (by simp) ?_
        refine AllReadyH.cons (o := ⟨_, _, _, _, _, _⟩) rfl (fun Kq hKq => ?_) (AllReadyH.nil)
        clear hHeld
        refine step_pushed (by rfl) (.tmp 18) (.tmp 25) (by rfl) _ w1.heap.size b1 _ d.ga _ (by rfl) (by rfl) OW.out XL.out HL.out KB.out.size ?_; intro A7 n7 c7 W7 hx hb; have KB := Lib.hid (KB.out.trans hb); have OW := Lib.hid hx; have D7 := Lib.hid (H.out.below KB.out); clear hx hb XL
        refine hKq.out _ _ ?_ (fun hHeld => ?_)
        · (try dsimp only); exact (HSt.out _ KB.out).1
        clear hKq Kq
        try simp only [Act.put, List.setIfInBounds_toArray, List.set_cons_zero, List.set_cons_succ]
        (refine wpAnyH_take (i := 15) (oi := ⟨_, _, _, _, _, _⟩) (v := ?_) rfl (by kernel_rfl) (by kernel_rfl) (by kernel_rfl) (fun _ _ _ h => h) (Or.inl ⟨by rfl, ?_⟩) (by assumption) ?_; rotate_left 1; · (intro w hSw; (try dsimp only at hSw); go_simp; all_goals with_reducible rfl))
        try simp only [Act.put, List.setIfInBounds_toArray, List.set_cons_zero, List.set_cons_succ]
        (refine wpAnyH_take (i := 16) (oi := ⟨_, _, _, _, _, _⟩) (v := ?_) rfl (by kernel_rfl) (by kernel_rfl) (by kernel_rfl) (fun _ _ _ h => h) (Or.inl ⟨by rfl, ?_⟩) (by assumption) ?_; rotate_left 1; · (intro w hSw; (try dsimp only at hSw); go_simp; all_goals with_reducible rfl))
        try simp only [Act.put, List.setIfInBounds_toArray, List.set_cons_zero, List.set_cons_succ]
        refine wpAnyH_ready (rs := [17]) (by kernel_rfl) (by simp) ?_
        refine AllReadyH.cons (o := ⟨_, _, _, _, _, _⟩) rfl (fun Kq hKq => ?_) (AllReadyH.nil)
        have cc := (dbox_cells D7.out.box).2.2.2.2.2
        have ff := (dbox_free D7.out.box).2.2
        go_simp
        clear hHeld
        have X := Lib.hid (D7.out.gap (OwnsR.mono_base OW.out HB.out))
        have GB := Lib.hid (grown_trans (grown_below KB.out (some l)) X.out.2); have NB := Lib.hid (fun (g : Nat) hg => (World.ownsRow.lt OW.out g hg).1)
        refine hKq.out _ _ ?_ (fun hHeld => ?_)
        · exact (dbox_cells X.out.1.box).2.2.2.2.1
        clear hKq Kq
        try simp only [Act.put, List.setIfInBounds_toArray, List.set_cons_zero, List.set_cons_succ]
        refine wpAnyH_done (by kernel_rfl) ?_ _
        have X1 := Lib.hid X.out.1
        clear X cc ff hHeld D7 OW
        generalize hW : World.setCell _ _ _ = w9 at *
        clear hW
        obtain ⟨c0, c1, c2, c3, c4, c5⟩ := dbox_cells X1.out.box
        obtain ⟨f3, f4, f5⟩ := dbox_free X1.out.box
        clear c0 c1 c2 c5 f5
        go_wp2_with fail
        go_end0
        have Z := X1.out.put (d.time x)
        rw [E.out]
        exact ⟨rfl, _, Z.1, grown_trans GB.out Z.2, fun g hg => .inr (NB.out g hg)⟩
    · clear hHeld
      refine step_lit1 (by rfl) (.tmp 24) (by rfl) _ _ (by rfl) ?_; intro b1 W2 hx hb; have KB2 := KB; have KB := Lib.hid (below_after KB.out hb (Nat.le_refl _)); have XL := Lib.hid hx; clear hx hb KB2
      refine hKq.out _ _ ?_ (fun hHeld => ?_)
      · (try dsimp only); exact (HSt.out _ KB.out).1
      clear hKq Kq
      try simp only [Act.put, List.setIfInBounds_toArray, List.set_cons_zero, List.set_cons_succ]
      refine wpAnyH_ready (rs := [1, 5]) (by kernel_rfl) (by simp) ?_
      refine AllReadyH.cons (o := ⟨_, _, _, _, _, _⟩) rfl (fun Kq hKq => ?_) (AllReadyH.cons (o := ⟨_, _, _, _, _, _⟩) rfl (fun Kq hKq => ?_) (AllReadyH.nil))
      · clear hHeld
        refine step_lit0 (by rfl) (by rfl) _ ?_; intro b0 W1 hlo hx hb; have KB2 := KB; have KB := Lib.hid (below_after KB.out hb (Nat.le_refl _)); have XL := Lib.hid (XL.out.below hb); have XB := Lib.hid hx; have XN := Lib.hid (Nat.le_trans KB2.out.size hlo); clear hx hlo hb KB2
        refine hKq.out _ _ ?_ (fun hHeld => ?_)
        · (try dsimp only); exact (HSt.out _ KB.out).1
        clear hKq Kq
        try simp only [Act.put, List.setIfInBounds_toArray, List.set_cons_zero, List.set_cons_succ]
        refine wpAnyH_ready (rs := [5]) (by kernel_rfl) (by simp) ?_
        refine AllReadyH.cons (o := ⟨_, _, _, _, _, _⟩) rfl (fun Kq hKq => ?_) (AllReadyH.nil)
        have c5 := (HSt.out _ KB.out).2
        go_simp
        clear hHeld
        clear c5
        refine hKq.out _ _ ?_ (fun hHeld => ?_)
        · (try dsimp only); exact (HSt.out _ KB.out).1
        clear hKq Kq
        try simp only [Act.put, List.setIfInBounds_toArray, List.set_cons_zero, List.set_cons_succ]
        refine wpAnyH_ready (rs := [6]) (by kernel_rfl) (by simp) ?_
        refine AllReadyH.cons (o := ⟨_, _, _, _, _, _⟩) rfl (fun Kq hKq => ?_) (AllReadyH.nil)
        clear hHeld
        refine step_copied (by rfl) (.tmp 13) (.tmp 17) (by rfl) _ w1.heap.size b0 _ d.ga (by rfl) (by rfl) XB.out XN.out ((gaps_rcs H.out.gaps).below KB.out) HL.out ?_; intro A6 c6 W6 hx hb; have KB2 := KB; have KB := Lib.hid (below_after KB.out hb (Nat.le_refl _)); have XL := Lib.hid (XL.out.below hb); have OW := Lib.hid hx; clear hx hb KB2
        refine hKq.out _ _ ?_ (fun hHeld => ?_)
        · (try dsimp only); exact (HSt.out _ KB.out).1
        clear hKq Kq
        try simp only [Act.put, List.setIfInBounds_toArray, List.set_cons_zero, List.set_cons_succ]
        refine wpAnyH_ready (rs := [14]) (by kernel_rfl) (by simp) ?_
        refine AllReadyH.cons (o := ⟨_, _, _, _, _, _⟩) rfl (fun Kq hKq => ?_) (AllReadyH.nil)
        clear hHeld
        refine step_pushed (by rfl) (.tmp 18) (.tmp 25) (by rfl) _ w1.heap.size b1 _ d.ga _ (by rfl) (by rfl) OW.out XL.out HL.out KB.out.size ?_; intro A7 n7 c7 W7 hx hb; have KB := Lib.hid (KB.out.trans hb); have OW := Lib.hid hx; have D7 := Lib.hid (H.out.below KB.out); clear hx hb XL
        refine hKq.out _ _ ?_ (fun hHeld => ?_)
        · (try dsimp only); exact (HSt.out _ KB.out).1
        clear hKq Kq
        try simp only [Act.put, List.setIfInBounds_toArray, List.set_cons_zero, List.set_cons_succ]
        (refine wpAnyH_take (i := 15) (oi := ⟨_, _, _, _, _, _⟩) (v := ?_) rfl (by kernel_rfl) (by kernel_rfl) (by kernel_rfl) (fun _ _ _ h => h) (Or.inl ⟨by rfl, ?_⟩) (by assumption) ?_; rotate_left 1; · (intro w hSw; (try dsimp only at hSw); go_simp; all_goals with_reducible rfl))
        try simp only [Act.put, List.setIfInBounds_toArray, List.set_cons_zero, List.set_cons_succ]
        (refine wpAnyH_take (i := 16) (oi := ⟨_, _, _, _, _, _⟩) (v := ?_) rfl (by kernel_rfl) (by kernel_rfl) (by kernel_rfl) (fun _ _ _ h => h) (Or.inl ⟨by rfl, ?_⟩) (by assumption) ?_; rotate_left 1; · (intro w hSw; (try dsimp only at hSw); go_simp; all_goals with_reducible rfl))
        try simp only [Act.put, List.setIfInBounds_toArray, List.set_cons_zero, List.set_cons_succ]
        refine wpAnyH_ready (rs := [17]) (by kernel_rfl) (by simp) ?_
        refine AllReadyH.cons (o := ⟨_, _, _, _, _, _⟩) rfl (fun Kq hKq => ?_) (AllReadyH.nil)
        have cc := (dbox_cells D7.out.box).2.2.2.2.2
        have ff := (dbox_free D7.out.box).2.2
        go_simp
        clear hHeld
        have X := Lib.hid (D7.out.gap (OwnsR.mono_base OW.out HB.out))
        have GB := Lib.hid (grown_trans (grown_below KB.out (some l)) X.out.2); have NB := Lib.hid (fun (g : Nat) hg => (World.ownsRow.lt OW.out g hg).1)
        refine hKq.out _ _ ?_ (fun hHeld => ?_)
        · exact (dbox_cells X.out.1.box).2.2.2.2.1
        clear hKq Kq
        try simp only [Act.put, List.setIfInBounds_toArray, List.set_cons_zero, List.set_cons_succ]
        refine wpAnyH_done (by kernel_rfl) ?_ _
        have X1 := Lib.hid X.out.1
        clear X cc ff hHeld D7 OW
        generalize hW : World.setCell _ _ _ = w9 at *
        clear hW
        obtain ⟨c0, c1, c2, c3, c4, c5⟩ := dbox_cells X1.out.box
        obtain ⟨f3, f4, f5⟩ := dbox_free X1.out.box
        clear c0 c1 c2 c5 f5
        go_wp2_with fail
        go_end0
        have Z := X1.out.put (d.time x)
        rw [E.out]
        exact ⟨rfl, _, Z.1, grown_trans GB.out Z.2, fun g hg => .inr (NB.out g hg)⟩
      · have c5 := (HSt.out _ KB.out).2
        go_simp
        clear hHeld
        clear c5
        refine hKq.out _ _ ?_ (fun hHeld => ?_)
        · (try dsimp only); exact (HSt.out _ KB.out).1
        clear hKq Kq
        try simp only [Act.put, List.setIfInBounds_toArray, List.set_cons_zero, List.set_cons_succ]
        refine wpAnyH_ready (rs := [1]) (by kernel_rfl) (by simp) ?_
        refine AllReadyH.cons (o := ⟨_, _, _, _, _, _⟩) rfl (fun Kq hKq => ?_) (AllReadyH.nil)
        clear hHeld
        refine step_lit0 (by rfl) (by rfl) _ ?_; intro b0 W1 hlo hx hb; have KB2 := KB; have KB := Lib.hid (below_after KB.out hb (Nat.le_refl _)); have XL := Lib.hid (XL.out.below hb); have XB := Lib.hid hx; have XN := Lib.hid (Nat.le_trans KB2.out.size hlo); clear hx hlo hb KB2
        refine hKq.out _ _ ?_ (fun hHeld => ?_)
        · (try dsimp only); exact (HSt.out _ KB.out).1
        clear hKq Kq
        try simp only [Act.put, List.setIfInBounds_toArray, List.set_cons_zero, List.set_cons_succ]
        refine wpAnyH_ready (rs := [6]) (by kernel_rfl) (by simp) ?_
        refine AllReadyH.cons (o := ⟨_, _, _, _, _, _⟩) rfl (fun Kq hKq => ?_) (AllReadyH.nil)
        clear hHeld
        refine step_copied (by rfl) (.tmp 13) (.tmp 17) (by rfl) _ w1.heap.size b0 _ d.ga (by rfl) (by rfl) XB.out XN.out ((gaps_rcs H.out.gaps).below KB.out) HL.out ?_; intro A6 c6 W6 hx hb; have KB2 := KB; have KB := Lib.hid (below_after KB.out hb (Nat.le_refl _)); have XL := Lib.hid (XL.out.below hb); have OW := Lib.hid hx; clear hx hb KB2
        refine hKq.out _ _ ?_ (fun hHeld => ?_)
        · (try dsimp only); exact (HSt.out _ KB.out).1
        clear hKq Kq
        try simp only [Act.put, List.setIfInBounds_toArray, List.set_cons_zero, List.set_cons_succ]
        refine wpAnyH_ready (rs := [14]) (by kernel_rfl) (by simp) ?_
        refine AllReadyH.cons (o := ⟨_, _, _, _, _, _⟩) rfl (fun Kq hKq => ?_) (AllReadyH.nil)
        clear hHeld
        refine step_pushed (by rfl) (.tmp 18) (.tmp 25) (by rfl) _ w1.heap.size b1 _ d.ga _ (by rfl) (by rfl) OW.out XL.out HL.out KB.out.size ?_; intro A7 n7 c7 W7 hx hb; have KB := Lib.hid (KB.out.trans hb); have OW := Lib.hid hx; have D7 := Lib.hid (H.out.below KB.out); clear hx hb XL
        refine hKq.out _ _ ?_ (fun hHeld => ?_)
        · (try dsimp only); exact (HSt.out _ KB.out).1
        clear hKq Kq
        try simp only [Act.put, List.setIfInBounds_toArray, List.set_cons_zero, List.set_cons_succ]
        (refine wpAnyH_take (i := 15) (oi := ⟨_, _, _, _, _, _⟩) (v := ?_) rfl (by kernel_rfl) (by kernel_rfl) (by kernel_rfl) (fun _ _ _ h => h) (Or.inl ⟨by rfl, ?_⟩) (by assumption) ?_; rotate_left 1; · (intro w hSw; (try dsimp only at hSw); go_simp; all_goals with_reducible rfl))
        try simp only [Act.put, List.setIfInBounds_toArray, List.set_cons_zero, List.set_cons_succ]
        (refine wpAnyH_take (i := 16) (oi := ⟨_, _, _, _, _, _⟩) (v := ?_) rfl (by kernel_rfl) (by kernel_rfl) (by kernel_rfl) (fun _ _ _ h => h) (Or.inl ⟨by rfl, ?_⟩) (by assumption) ?_; rotate_left 1; · (intro w hSw; (try dsimp only at hSw); go_simp; all_goals with_reducible rfl))
        try simp only [Act.put, List.setIfInBounds_toArray, List.set_cons_zero, List.set_cons_succ]
        refine wpAnyH_ready (rs := [17]) (by kernel_rfl) (by simp) ?_
        refine AllReadyH.cons (o := ⟨_, _, _, _, _, _⟩) rfl (fun Kq hKq => ?_) (AllReadyH.nil)
        have cc := (dbox_cells D7.out.box).2.2.2.2.2
        have ff := (dbox_free D7.out.box).2.2
        go_simp
        clear hHeld
        have X := Lib.hid (D7.out.gap (OwnsR.mono_base OW.out HB.out))
        have GB := Lib.hid (grown_trans (grown_below KB.out (some l)) X.out.2); have NB := Lib.hid (fun (g : Nat) hg => (World.ownsRow.lt OW.out g hg).1)
        refine hKq.out _ _ ?_ (fun hHeld => ?_)
        · exact (dbox_cells X.out.1.box).2.2.2.2.1
        clear hKq Kq
        try simp only [Act.put, List.setIfInBounds_toArray, List.set_cons_zero, List.set_cons_succ]
        refine wpAnyH_done (by kernel_rfl) ?_ _
        have X1 := Lib.hid X.out.1
        clear X cc ff hHeld D7 OW
        generalize hW : World.setCell _ _ _ = w9 at *
        clear hW
        obtain ⟨c0, c1, c2, c3, c4, c5⟩ := dbox_cells X1.out.box
        obtain ⟨f3, f4, f5⟩ := dbox_free X1.out.box
        clear c0 c1 c2 c5 f5
        go_wp2_with fail
        go_end0
        have Z := X1.out.put (d.time x)
        rw [E.out]
        exact ⟨rfl, _, Z.1, grown_trans GB.out Z.2, fun g hg => .inr (NB.out g hg)⟩
end Go.Proofs.Ytkoeplgkiogjlaa
