/-
  A frame put behind others: append where there is room, and where there is none. No statement is proved in this text.
-/
import Derived.Test.YtmgiglefabbmcaaOutG
import Derived.ArgAppend
set_option maxRecDepth 20000
namespace Go.Proofs.Ytmgiglefabbmcaa
open Go Go.RowKit
/-- What a call's own row of frames is. -/
theorem row14_own {w : World} {base n : Nat} {v : Value} {qs : List Fq} (h : w.ownsRow base 32 14 v n (flatR encF qs)) : ∃ A c, v = .slice A qs.length c ∧ n = qs.length ∧ Row14 w A c qs ∧ ∀ k, AB A k → base ≤ k := by
  have hn : n = qs.length := by
    have := h.1
    rw [flat_len] at this
    omega
  subst hn
  rcases h.2 with ⟨rfl, h0⟩ | ⟨g, cap, cur, rfl, hb, hg, h1, _, h2, h3⟩
  · have : qs = [] := List.eq_nil_of_length_eq_zero h0
    subst this
    exact ⟨none, 0, rfl, rfl, .inl ⟨rfl, rfl, rfl⟩, fun k ⟨_, e, _⟩ => (by cases e)⟩
  · refine ⟨some ⟨g, 0, none⟩, cap, rfl, rfl, .inr ⟨g, 0, cur, rfl, hg, by omega, h1, fun j v hv => ?_⟩, fun k ⟨ad, e, hk⟩ => ?_⟩
    · rw [← h3, List.getElem?_take] at hv
      split at hv
      · simpa using hv
      · cases hv
    · injection e with e
      subst e hk
      exact hb
theorem flat_snoc (qs : List Fq) (u : Fq) : flatR encF (qs ++ [u]) = flatR encF qs ++ encF u := by rw [flatR_append]; simp [flatR]
/-- append of one frame, run. -/
theorem run_append_frame (W : World) (ty : TypeId) {A : Option Addr} {c : Nat} {qs : List Fq} {u : Fq} {bx : Nat} (hrow : Row14 W A c qs) (hb : FB W bx u) (hl : qs.length ≤ 5000) :
    ∃ A' c' W', (Builtin.append_ #[41, 41] ty #[.slice A qs.length c, .slice (some ⟨bx, 0, none⟩) 1 1]).run Try.prog W = .ok (.slice A' (qs.length + 1) c') W' ∧ Row14 W' A' c' (qs ++ [u]) ∧
      ((A' = A ∧ Only (AB A) W W') ∨ ((∀ k, AB A' k → W.heap.size ≤ k) ∧ Below W.heap.size W W')) := by
  obtain ⟨i0, hi, hz0, hz1, hz2⟩ := info_parts info32
  have hnews : ∀ j v, (encF u)[j]? = some v → W.cell? ((⟨bx, 0, none⟩ : Addr).add j) = some v := World.news_of_block (cs := fc u) hb
  have hone := encF_one u
  rcases id hrow with ⟨rfl, rfl, rfl⟩ | ⟨g, o, cur, rfl, hg, hs, hc, hx⟩
  · obtain ⟨v', W', hr, h2, h3, _⟩ := run_append_own (P := Try.prog) W W.heap.size 41 ty 32 i0 _ 14 192 Try.underlying41 hi hz0 hz1 hz2 rfl (by decide) (.slice none 0 0) 0 [] (World.ownsRow_nil W _ 32 14) ⟨bx, 0, none⟩ 1 1 (encF u) rfl hnews hone (by unfold maxLen; omega) (by omega) (Nat.le_refl _)
    obtain ⟨A', c', rfl, _, k2, k3⟩ := row14_own (qs := [u]) (by have := h2; simpa [flatR] using this)
    exact ⟨A', c', W', hr, k2, .inr ⟨k3, (Below.refl _ _).grown h3 (Nat.le_refl _) fun k hk => by cases hk⟩⟩
  · by_cases hroom : qs.length + 1 ≤ c
    · have hr := run_append_room_cells (P := Try.prog) W 41 ty 32 i0 Try.underlying41 hi g o qs.length c ⟨bx, 0, none⟩ 1 1 (encF u) (by rw [hz1]; rfl) hnews hone hroom
        (fun j hj => by
          rw [encF_len] at hj
          rw [cell_of_row _ _ _ _ _ _ hg, hz1, Array.getElem?_eq_getElem (by omega)]; rfl)
        (fun j hj => frozen_of_row _ _ _ _ _ hg)
      rw [hz1] at hr
      obtain ⟨c4, g4, z4⟩ := shape_setCells g 32 (encF u) (o + qs.length * 14) W cur hg
      refine ⟨_, c, _, hr, .inr ⟨g, o, c4, rfl, g4, by rw [z4]; exact hs, by simp; omega, fun j v hv => ?_⟩, .inl ⟨rfl, (only_setCells W g _ _).mono fun k hk => ⟨_, rfl, hk.symm⟩⟩⟩
      have key : (W.setCells g (o + qs.length * 14) (encF u)).cell? ⟨g, o + j, none⟩ = some v := by
        rw [flat_snoc] at hv
        rcases Nat.lt_or_ge j (qs.length * 14) with hj | hj
        · rw [List.getElem?_append_left (by rw [flat_len]; exact hj)] at hv
          rw [World.cell?_setCells_out g _ _ _ ⟨g, o + j, none⟩ (fun _ _ => .inl (by show o + j < _; omega)), cell_of_row _ _ _ _ _ _ hg]
          exact hx j v hv
        · rw [List.getElem?_append_right (by rw [flat_len]; exact hj), flat_len] at hv
          obtain ⟨h1, h2⟩ := List.getElem?_eq_some_iff.1 hv
          have := World.cell?_setCells_in g (encF u) (o + qs.length * 14) W (fun k hk => by
            rw [encF_len] at hk
            rw [cell_of_row _ _ _ _ _ _ hg, Array.getElem?_eq_getElem (by omega)]; rfl) _ h1
          rw [show o + qs.length * 14 + (j - qs.length * 14) = o + j by omega, h2] at this
          exact this
      rwa [cell_of_row _ _ _ _ _ _ g4] at key
    · obtain ⟨v', W', hr, h2, h3⟩ := run_append_arg_grows (P := Try.prog) W 41 ty 32 i0 _ 14 192 Try.underlying41 hi hz0 hz1 hz2 rfl (by decide) ⟨g, o, none⟩ qs.length c (flatR encF qs) (flat_len qs) (fun j v hv => by rw [Addr.add_mid, cell_of_row _ _ _ _ _ _ hg]; exact hx j v hv) ⟨bx, 0, none⟩ 1 1 (encF u) rfl hnews (by omega) (by unfold maxLen; omega) (by omega)
      rw [← flat_snoc] at h2
      obtain ⟨A', c', rfl, _, k2, k3⟩ := row14_own h2
      rw [List.length_append, List.length_singleton] at hr
      exact ⟨A', c', W', hr, k2, .inr ⟨k3, (Below.refl _ _).grown h3 (Nat.le_refl _) fun k hk => by cases hk⟩⟩
/-- The same, at a step of a region that draws its order. -/
theorem step_append_frame {ops : Array Oper} {o : Oper} {a : Act} {K : Act → World → Prop} {Q : Exit → Act → World → Prop} {E : Prop} (hgd : o.guard = none) (s x : Operand)
    (ho : o.op = .call { callee := .builtin .append, args := #[s, x], argTypes := #[41, 41] }) (W : World) {A : Option Addr} {n c : Nat} {qs : List Fq} {u : Fq} {bx : Nat} (hs : a.eval s = .slice A n c) (hx : a.eval x = .slice (some ⟨bx, 0, none⟩) 1 1) (hn : n = qs.length)
    (hrow : Row14 W A c qs) (hb : FB W bx u) (hl : qs.length ≤ 5000)
    (h : ∀ A' c' W', Row14 W' A' c' (qs ++ [u]) → ((A' = A ∧ Only (AB A) W W') ∨ ((∀ k, AB A' k → W.heap.size ≤ k) ∧ Below W.heap.size W W')) → K (a.put o.dst (.slice A' (n + 1) c')) W') :
    if Region.wanted o (yielded ops a.tmps) = true then Oper.wp Try.prog o a W K Q else E := by
  have hw : Region.wanted o (yielded ops a.tmps) = true := by simp [Region.wanted, hgd]
  rw [if_pos hw]
  subst hn
  obtain ⟨A', c', W', hr, h1, h2⟩ := run_append_frame W o.type hrow hb hl
  unfold Oper.wp execOp
  simp only [ho, resolve, invoke, builtin, Sem.run_bind, Sem.run_pure, Result.andThen_ok, List.map_toArray, List.map_cons, List.map_nil, hs, hx, hr]
  exact h A' c' W' h1 h2
/-- A box with one frame more. -/
theorem BoxAt.more {T U : Nat → Prop} {w W W' : World} {p : Nat} {mx : Int} {qs : List Fq} {A A' : Option Addr} {c c' : Nat} {u : Fq} (h : BoxAt T w p mx qs) (hl : (qs.length : Int) < mx)
    (hp : w.heap[p]? = some (.cells #[.int .i64 mx, .slice A qs.length c] 71 (0, 0))) (hb : Below w.heap.size w W) (hu : FO U W u) (hU : ∀ k, U k → ¬ T k ∧ k < W.heap.size)
    (hr : Row14 W' A' c' (qs ++ [u])) (hg : (A' = A ∧ Only (AB A) W W') ∨ ((∀ k, AB A' k → W.heap.size ≤ k) ∧ Below W.heap.size W W')) :
    BoxAt (fun k => T k ∨ U k ∨ AB A' k) (W'.setCell ⟨p, 1, none⟩ (.slice A' (qs.length + 1) c')) p mx (qs ++ [u]) ∧ Only T w (W'.setCell ⟨p, 1, none⟩ (.slice A' (qs.length + 1) c')) := by
  obtain ⟨A2, c2, h1, h2, h3, h4⟩ := h.box
  have e1 : A = A2 ∧ c = c2 := by
    rw [hp] at h1
    injection h1 with h1
    injection h1 with h1 _ _
    have := congrArg (fun x => x[1]?) h1
    simp at this
    exact this
  obtain ⟨rfl, rfl⟩ := e1
  have hpl : p < w.heap.size := row_lt hp
  have hpW : W.heap[p]? = some (.cells #[.int .i64 mx, .slice A qs.length c] 71 (0, 0)) := (hb.block p hpl).trans hp
  have hnA : ¬ AB A p := h2.ne hp (by decide)
  have hsz : W.heap.size ≤ W'.heap.size := by rcases hg with ⟨_, e⟩ | ⟨_, e⟩ <;> exact e.size
  have hO : Only (AB A) W W' := by
    rcases hg with ⟨_, e⟩ | ⟨_, e⟩
    · exact e
    · exact Only.of e
  have hpW' : W'.heap[p]? = some (.cells #[.int .i64 mx, .slice A qs.length c] 71 (0, 0)) := (hO.block p (Nat.lt_of_lt_of_le hpl hb.size) hnA).trans hpW
  have hnA' : ¬ AB A' p := hr.ne hpW' (by decide)
  have hAA : ∀ k, AB A' k → AB A k ∨ W.heap.size ≤ k := fun k hk => by
    rcases hg with ⟨rfl, _⟩ | ⟨e, _⟩
    · exact .inl hk
    · exact .inr (e k hk)
  have onS : ∀ S : Nat → Prop, (∀ k, S k → k < W.heap.size ∧ k ≠ p ∧ ¬ AB A k) → On S W (W'.setCell ⟨p, 1, none⟩ (.slice A' (qs.length + 1) c')) := fun S hS k hk =>
    (Below.heap_setCell _ _ _ _ (hS k hk).2.1).trans (hO.block k (hS k hk).1 (hS k hk).2.2)
  have hUA : ∀ k, U k → ¬ AB A k := fun k hk e => (hU k hk).1 (h3 k e)
  refine ⟨⟨⟨A', c', ?_, ?_, fun k hk => .inr (.inr hk), ?_⟩, .inl h.p, fun k hk => ?_, h.hm, by simp; omega⟩, ?_⟩
  · rw [heap_setCell_same W' p 1 _ _ _ hpW', List.length_append, List.length_singleton]
    rfl
  · exact hr.on fun k hk => Below.heap_setCell _ _ _ _ fun e => hnA' (by rw [show p = k from e.symm]; exact hk)
  · have f1 := (Frs.on (w' := W) h4 (Below.on hb fun k hk => h.lt k hk.1)).on (onS _ fun k hk => ⟨Nat.lt_of_lt_of_le (h.lt k hk.1) hb.size, hk.2⟩)
    have f2 := hu.on (onS U fun k hk => ⟨(hU k hk).2, fun e => (hU k hk).1 (by rw [e]; exact h.p), hUA k hk⟩)
    refine (Frs.snoc f2 f1 fun k hk e => (hU k hk).1 e.1).mono fun k hk => ?_
    rcases hk with hk | hk
    · refine ⟨.inl hk.1, hk.2.1, fun e => ?_⟩
      rcases hAA k e with e | e
      · exact hk.2.2 e
      · have := h.lt k hk.1
        have := hb.size
        omega
    · refine ⟨.inr (.inl hk), fun e => (hU k hk).1 (by rw [e]; exact h.p), fun e => ?_⟩
      rcases hAA k e with e | e
      · exact hUA k hk e
      · have := (hU k hk).2
        omega
  · have hz : (W'.setCell ⟨p, 1, none⟩ (.slice A' (qs.length + 1) c')).heap.size = W'.heap.size := by simp [World.setCell]
    rw [hz]
    rcases hk with hk | hk | hk
    · have := h.lt k hk
      have := hb.size
      omega
    · have := (hU k hk).2
      omega
    · exact hr.lt k hk
  · exact (Only.of (S := T) hb).trans (hO.trans (only_setCell W' p 1 _) (U := fun k => AB A k ∨ k = p) (fun _ e => .inl e) (fun _ _ e => .inr e)) (fun _ e => e) fun k _ e => by
      rcases e with e | rfl
      · exact h3 k e
      · exact h.p
theorem results_two {P : Program} {fn : Func} {p t : Tmp} {ty : TypeId} (h : fn.results = #[.cell p ty, .tmp t]) (tmps : Array Value) (w : World) (g : Nat) {cs : Array Value} {fr : Nat × Nat} {T : TypeId} {d : TypeDesc} {v : Value}
    (hp : tmps.getD p undef = .pointer (some ⟨g, 0, none⟩)) (hg : w.heap[g]? = some (.cells cs T fr)) (hu : P.underlying ty = some d) (hd : (match d with | .struct _ | .array _ _ => true | _ => false) = true) (hi : (P.info? ty).map (·.size) = some cs.size) (hv : tmps.getD t undef = v) :
    (results fn tmps).run P w = .ok (.tuple #[.agg cs, v]) w := by
  have hp' : tmps[p]?.getD undef = .pointer (some ⟨g, 0, none⟩) := by simpa using hp
  have hv' : tmps[t]?.getD undef = v := by simpa using hv
  simp [results, h, hp', hv', asAddr, run_loadVar_row w g T ty cs fr d hg hu hd hi]
theorem results_three {P : Program} {fn : Func} {p t r : Tmp} {ty : TypeId} (h : fn.results = #[.cell p ty, .tmp t, .tmp r]) (tmps : Array Value) (w : World) (g : Nat) {cs : Array Value} {fr : Nat × Nat} {T : TypeId} {d : TypeDesc} {v u : Value}
    (hp : tmps.getD p undef = .pointer (some ⟨g, 0, none⟩)) (hg : w.heap[g]? = some (.cells cs T fr)) (hu : P.underlying ty = some d) (hd : (match d with | .struct _ | .array _ _ => true | _ => false) = true) (hi : (P.info? ty).map (·.size) = some cs.size) (hv : tmps.getD t undef = v) (hr : tmps.getD r undef = u) :
    (results fn tmps).run P w = .ok (.tuple #[.agg cs, v, u]) w := by
  have hp' : tmps[p]?.getD undef = .pointer (some ⟨g, 0, none⟩) := by simpa using hp
  have hv' : tmps[t]?.getD undef = v := by simpa using hv
  have hr' : tmps[r]?.getD undef = u := by simpa using hr
  simp [results, h, hp', hv', hr', asAddr, run_loadVar_row w g T ty cs fr d hg hu hd hi]
end Go.Proofs.Ytmgiglefabbmcaa
