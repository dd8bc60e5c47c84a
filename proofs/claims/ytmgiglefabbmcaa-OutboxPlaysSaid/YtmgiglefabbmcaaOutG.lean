/-
  A walk over a frame that is taken out of a box. No statement is proved in this text.
-/
import Derived.Test.YtmgiglefabbmcaaOutF
set_option maxRecDepth 20000
namespace Go.Proofs.Ytmgiglefabbmcaa
open Go Go.RowKit
/-- copy, where its run is known. -/
theorem wpList_copy_eq {P : Program} {w : World} {ops : Array Oper} {rest : List Oper} {o : Oper} {a : Act} {Q : Exit → Act → World → Prop} (hgd : o.guard = none) (d s : Operand) (t t' : TypeId)
    (ho : o.op = .call { callee := .builtin .copy, args := #[d, s], argTypes := #[t, t'] }) (v u : Value) (hd : a.eval d = v) (hs : a.eval s = u) {v' : Value} {w' : World}
    (hr : (Builtin.copy_ #[t, t'] o.type #[v, u]).run P w = .ok v' w') (h : wpList P ops Q rest (a.put o.dst v') w') : wpList P ops Q (o :: rest) a w := by
  refine wpList_plain hgd fun _ hK => ?_
  unfold Oper.wp execOp
  simp only [ho, resolve, invoke, builtin, Sem.run_bind, Sem.run_pure, Result.andThen_ok, List.map_toArray, List.map_cons, List.map_nil, hd, hs, hr]
  exact hK _ _ h
theorem heap_setCells (g : Nat) : ∀ (vs : List Value) (o : Nat) (w : World) (k : Nat), k ≠ g → (w.setCells g o vs).heap[k]? = w.heap[k]?
  | [], _, _, _, _ => rfl
  | v :: vs, o, w, k, h => by rw [World.setCells, heap_setCells g vs _ _ k h, Below.heap_setCell _ _ _ _ h]
theorem size_setCells (g : Nat) : ∀ (vs : List Value) (o : Nat) (w : World), (w.setCells g o vs).heap.size = w.heap.size
  | [], _, _ => rfl
  | v :: vs, o, w => by rw [World.setCells, size_setCells g vs]; simp [World.setCell]
theorem shape_setCells (g : Nat) (t : TypeId) : ∀ (vs : List Value) (o : Nat) (w : World) (cur : Array Value), w.heap[g]? = some (.cells cur t (0, 0)) → ∃ cur', (w.setCells g o vs).heap[g]? = some (.cells cur' t (0, 0)) ∧ cur'.size = cur.size
  | [], _, _, cur, h => ⟨cur, h, rfl⟩
  | v :: vs, o, w, cur, h => by
    obtain ⟨c2, h1, h2⟩ := shape_setCells g t vs (o + 1) (w.setCell ⟨g, o, none⟩ v) _ (heap_setCell_same w g o cur t v h)
    exact ⟨c2, h1, by rw [h2]; simp⟩
theorem only_setCells (w : World) (g o : Nat) (vs : List Value) : Only (fun k => k = g) w (w.setCells g o vs) := ⟨(tapes g vs o w).1, (tapes g vs o w).2.1, (tapes g vs o w).2.2, Nat.le_of_eq (size_setCells g vs o w).symm, fun k _ hn => heap_setCells g vs o w k hn⟩
where tapes (g : Nat) : ∀ (vs : List Value) (o : Nat) (w : World), (w.setCells g o vs).os = w.os ∧ (w.setCells g o vs).tape = w.tape ∧ (w.setCells g o vs).output = w.output
  | [], _, _ => ⟨rfl, rfl, rfl⟩
  | _ :: vs, o, w => by rw [World.setCells]; exact tapes g vs (o + 1) _
theorem only_setCell (w : World) (g o : Nat) (v : Value) : Only (fun k => k = g) w (w.setCell ⟨g, o, none⟩ v) := ⟨rfl, rfl, rfl, by simp [World.setCell], fun k _ hn => Below.heap_setCell _ _ _ _ hn⟩
theorem only_setRow (w : World) (g : Nat) (cs : Array Value) : Only (fun k => k = g) w (w.setRow g cs) := ⟨rfl, rfl, rfl, by simp, fun k _ hn => setRow_other w g k cs hn⟩
theorem only_drew (S : Nat → Prop) (w : World) : Only S w w.drew := ⟨rfl, rfl, rfl, Nat.le_refl _, fun _ _ _ => rfl⟩
/-- A frame's place in a row of them. -/
theorem flat_take (qs : List Fq) (i : Nat) : flatR encF (qs.take i) = (flatR encF qs).take (i * 14) := by
  induction qs generalizing i with
  | nil => simp [flatR]
  | cons q qs ih =>
    cases i with
    | zero => simp [flatR]
    | succ i =>
      unfold flatR at *
      rw [List.take_succ_cons, List.flatMap_cons, List.flatMap_cons, ih i, show (i + 1) * 14 = (encF q).length + i * 14 by rw [encF_len]; omega, List.take_length_add_append]
theorem flat_drop (qs : List Fq) (i : Nat) : flatR encF (qs.drop i) = (flatR encF qs).drop (i * 14) := by
  induction qs generalizing i with
  | nil => simp [flatR]
  | cons q qs ih =>
    cases i with
    | zero => simp [flatR]
    | succ i =>
      unfold flatR at *
      rw [List.drop_succ_cons, List.flatMap_cons, ih i, show (i + 1) * 14 = (encF q).length + i * 14 by rw [encF_len]; omega, List.drop_length_add_append]
theorem flat_len (qs : List Fq) : (flatR encF qs).length = qs.length * 14 := flatR_len encF_len qs
theorem flat_one (qs : List Fq) : ∀ u ∈ flatR encF qs, u.oneCell' = true := by
  intro u hu
  obtain ⟨q, _, hq⟩ := List.mem_flatMap.1 hu
  exact encF_one q u hq
theorem Only.andThen {S : Nat → Prop} {a b c : World} (h : Only S a b) (k : Only S b c) : Only S a c := h.trans k (fun _ e => e) (fun _ _ e => e)
theorem elem41 : Try.prog.elem 41 = 32 := by kernel_rfl
theorem size32W (W : World) : (sizeOf 32).run Try.prog W = .ok 14 W := by kernel_rfl
theorem under41 : Try.prog.underlying 41 = some (.slice (Try.prog.elem 41)) := by rw [elem41]; exact Try.underlying41
theorem run_copy_recs {P : Program} (w : World) (dT sT ty elem : TypeId) (sz b o dLen dCap : Nat) (a : Addr) (sLen sCap : Nat) (cs : List Value)
    (hu : P.underlying dT = some (.slice elem)) (hs : (P.info? elem).map (·.size) = some sz) (hn : cs.length = Nat.min sLen dLen * sz)
    (hsrc : ∀ j v, cs[j]? = some v → w.cell? (a.add j) = some v) (hc : ∀ j, j < cs.length → (w.cell? ⟨b, o + j, none⟩).isSome = true) (hf : ∀ j, j < cs.length → w.frozen? ⟨b, o + j, none⟩ = false) (h1 : ∀ v ∈ cs, v.oneCell' = true) :
    (Builtin.copy_ #[dT, sT] ty #[.slice (some ⟨b, o, none⟩) dLen dCap, .slice (some a) sLen sCap]).run P w = .ok (goInt (Nat.min sLen dLen)) (w.setCells b o cs) := by
  have hl := run_loadCells_list (P := P) w a cs hsrc
  have hst := run_storeCells_cells (P := P) b o cs 0 w (by simpa using hc) (by simpa using hf) h1
  cases hq : P.info? elem with
  | none => simp [hq] at hs
  | some i =>
    have hi : i.size = sz := by simpa [hq] using hs
    rw [hn] at hl
    simp [Builtin.copy_, run_underlying hu, Builtin.lenOf, Builtin.firstCells, sizeOf, typeInfo, hq, hi, hl, hst]
theorem _root_.Go.RowKit.Below.on_only {w w' : World} (h : Below w.heap.size w w') : Only (fun _ => False) w w' := Only.of h
/-- What has been taken out, once the frames ahead of it have been moved and the box's slice is shorter. -/
theorem BoxAt.removed {T : Nat → Prop} {w W : World} {p : Nat} {mx : Int} {qs : List Fq} {g o c o' : Nat} {cur : Array Value} (h : BoxAt T w p mx qs) {i : Nat} (hi : i < qs.length)
    (hp : w.heap[p]? = some (.cells #[.int .i64 mx, .slice (some ⟨g, o, none⟩) qs.length c] 71 (0, 0)))
    (ho : Only (fun k => k = p ∨ k = g) w W) (hp2 : W.heap[p]? = some (.cells #[.int .i64 mx, .slice (some ⟨g, o', none⟩) (qs.length - 1) (c - 1)] 71 (0, 0)))
    (hg : W.heap[g]? = some (.cells cur 32 (0, 0))) (hs : o' + (c - 1) * 14 ≤ cur.size) (hc : qs.length ≤ c) (hx : ∀ j v, (flatR encF (qs.eraseIdx i))[j]? = some v → W.cell? ⟨g, o' + j, none⟩ = some v) :
    ∃ T' Q : Nat → Prop, BoxAt T' W p mx (qs.eraseIdx i) ∧ FO Q W qs[i] ∧ (∀ k, Q k → ¬ T' k) ∧ (∀ k, Q k → T k) ∧ (∀ k, T' k → T k) := by
  obtain ⟨A, c2, h1, h2, h3, h4⟩ := h.box
  rw [hp] at h1
  injection h1 with h1
  injection h1 with h1 _ _
  have e1 : A = some ⟨g, o, none⟩ ∧ c = c2 := by
    have := congrArg (fun x => x[1]?) h1
    simp at this
    exact ⟨this.1.symm, this.2⟩
  obtain ⟨rfl, rfl⟩ := e1
  obtain ⟨U, u1, u2, u3⟩ := h4.pick i hi
  have hb : ∀ S : Nat → Prop, (∀ k, S k → T k ∧ k ≠ p ∧ ¬ AB (some ⟨g, o, none⟩) k) → On S w W := fun S hS => ho.on fun k hk => ⟨h.lt k (hS k hk).1, fun e => by
    rcases e with e | e
    · exact (hS k hk).2.1 e
    · exact (hS k hk).2.2 ⟨_, rfl, e.symm⟩⟩
  have hl : (qs.eraseIdx i).length = qs.length - 1 := List.length_eraseIdx_of_lt hi
  refine ⟨fun k => T k ∧ ¬ U k, U, ⟨⟨some ⟨g, o', none⟩, c - 1, by rw [hl]; exact hp2, .inr ⟨g, o', cur, rfl, hg, hs, by rw [hl]; omega, fun j v hv => ?_⟩, fun k hk => ?_, ?_⟩, ⟨h.p, fun e => (u1 p e).2.1 rfl⟩, fun k hk => Nat.lt_of_lt_of_le (h.lt k hk.1) ho.size, h.hm, ?_⟩, u2.on (hb U u1), fun k hk e => e.2 hk, fun k hk => (u1 k hk).1, fun k hk => hk.1⟩
  · have := hx j v hv
    rwa [cell_of_row _ _ _ _ _ _ hg] at this
  · obtain ⟨ad, e, hk⟩ := hk
    injection e with e
    subst e hk
    exact ⟨h3 g ⟨_, rfl, rfl⟩, fun e => (u1 g e).2.2 ⟨_, rfl, rfl⟩⟩
  · refine (u3.on (hb _ fun k hk => hk.1)).mono fun k hk => ⟨⟨hk.1.1, hk.2⟩, hk.1.2.1, fun e => hk.1.2.2 ?_⟩
    obtain ⟨ad, e, hk⟩ := e
    injection e with e
    subst e hk
    exact ⟨_, rfl, rfl⟩
  · have := h.len
    rw [hl]
    omega
/-- Its cells. -/
theorem erase_cells {qs : List Fq} {i : Nat} (hi : i < qs.length) (j : Nat) (v : Value) (h : (flatR encF (qs.eraseIdx i))[j]? = some v) : (j < i * 14 ∧ (flatR encF (qs.take i))[j]? = some v) ∨ (i * 14 ≤ j ∧ (flatR encF qs)[j + 14]? = some v) := by
  rw [List.eraseIdx_eq_take_drop_succ, flatR_append] at h
  have hl : (flatR encF (qs.take i)).length = i * 14 := by rw [flat_len, List.length_take, Nat.min_eq_left (Nat.le_of_lt hi)]
  rcases Nat.lt_or_ge j (i * 14) with hj | hj
  · rw [List.getElem?_append_left (by omega)] at h
    exact .inl ⟨hj, h⟩
  · rw [List.getElem?_append_right (by omega), hl, flat_drop, List.getElem?_drop] at h
    exact .inr ⟨hj, by rw [← h]; congr 1; omega⟩
set_option maxHeartbeats 8000000 in
theorem remove_any (T : Nat → Prop) (w : World) (p : Nat) (mx : Int) (qs : List Fq) (h : BoxAt T w p mx qs) (i : Nat) (hi : i < qs.length) :
    Calls Try.prog 31 #[.pointer (some ⟨p, 0, none⟩), .int .i64 (i : Int)] w fun e w' => e = .returned (.agg (fc qs[i])) ∧ (∃ T' Q : Nat → Prop, BoxAt T' w' p mx (qs.eraseIdx i) ∧ FO Q w' qs[i] ∧ (∀ k, Q k → ¬ T' k) ∧ (∀ k, Q k → T k) ∧ (∀ k, T' k → T k)) ∧ Only T w w' := by
  obtain ⟨A, c, hp, hr, hT, -⟩ := h.box
  have hlt := h.few
  rcases hr with ⟨_, _, rfl⟩ | ⟨g, o, cur, rfl, hg, hs, hc, hx⟩
  · simp at hi
  have hne : g ≠ p := fun e => by
    rw [e, hp] at hg
    injection hg with hg
    injection hg with _ hg
    exact absurd hg (by decide)
  have h3 : p < w.heap.size := row_lt hp
  have h4 : g < w.heap.size := row_lt hg
  have B2 : Hid (Below w.heap.size w (((w.alloc (.cells #[.int .u8 0, .int .i64 0, .int .i64 0, .int .i64 0, .int .i64 0, .int .i64 0, .int .i64 0, .int .i64 0, .int .i64 0, .slice none 0 0, .slice none 0 0, .slice none 0 0, .slice none 0 0, .slice none 0 0] 32)).alloc (.cells #[.int .u8 0, .int .i64 0, .int .i64 0, .int .i64 0, .int .i64 0, .int .i64 0, .int .i64 0, .int .i64 0, .int .i64 0, .slice none 0 0, .slice none 0 0, .slice none 0 0, .slice none 0 0, .slice none 0 0] 32)).setRow (w.heap.size + 1) (fc qs[i]))) := Lib.hid (below_setRow (below_after (below_one w (.cells #[.int .u8 0, .int .i64 0, .int .i64 0, .int .i64 0, .int .i64 0, .int .i64 0, .int .i64 0, .int .i64 0, .int .i64 0, .slice none 0 0, .slice none 0 0, .slice none 0 0, .slice none 0 0, .slice none 0 0] 32)) (below_one _ (.cells #[.int .u8 0, .int .i64 0, .int .i64 0, .int .i64 0, .int .i64 0, .int .i64 0, .int .i64 0, .int .i64 0, .int .i64 0, .slice none 0 0, .slice none 0 0, .slice none 0 0, .slice none 0 0, .slice none 0 0] 32)) (Nat.le_refl _)) (by omega) _)
  have X2 : Hid (FB (((w.alloc (.cells #[.int .u8 0, .int .i64 0, .int .i64 0, .int .i64 0, .int .i64 0, .int .i64 0, .int .i64 0, .int .i64 0, .int .i64 0, .slice none 0 0, .slice none 0 0, .slice none 0 0, .slice none 0 0, .slice none 0 0] 32)).alloc (.cells #[.int .u8 0, .int .i64 0, .int .i64 0, .int .i64 0, .int .i64 0, .int .i64 0, .int .i64 0, .int .i64 0, .int .i64 0, .slice none 0 0, .slice none 0 0, .slice none 0 0, .slice none 0 0, .slice none 0 0] 32)).setRow (w.heap.size + 1) (fc qs[i])) (w.heap.size + 1) qs[i]) := Lib.hid (setRow_set (heap_alloc2_new w (.cells #[.int .u8 0, .int .i64 0, .int .i64 0, .int .i64 0, .int .i64 0, .int .i64 0, .int .i64 0, .int .i64 0, .int .i64 0, .slice none 0 0, .slice none 0 0, .slice none 0 0, .slice none 0 0, .slice none 0 0] 32) (.cells #[.int .u8 0, .int .i64 0, .int .i64 0, .int .i64 0, .int .i64 0, .int .i64 0, .int .i64 0, .int .i64 0, .int .i64 0, .slice none 0 0, .slice none 0 0, .slice none 0 0, .slice none 0 0, .slice none 0 0] 32)))
  have Z2 : Hid (FB (((w.alloc (.cells #[.int .u8 0, .int .i64 0, .int .i64 0, .int .i64 0, .int .i64 0, .int .i64 0, .int .i64 0, .int .i64 0, .int .i64 0, .slice none 0 0, .slice none 0 0, .slice none 0 0, .slice none 0 0, .slice none 0 0] 32)).alloc (.cells #[.int .u8 0, .int .i64 0, .int .i64 0, .int .i64 0, .int .i64 0, .int .i64 0, .int .i64 0, .int .i64 0, .int .i64 0, .slice none 0 0, .slice none 0 0, .slice none 0 0, .slice none 0 0, .slice none 0 0] 32)).setRow (w.heap.size + 1) (fc qs[i])) w.heap.size q0) := Lib.hid ((setRow_other _ _ _ _ (by omega)).trans (heap_alloc2_old w (.cells #[.int .u8 0, .int .i64 0, .int .i64 0, .int .i64 0, .int .i64 0, .int .i64 0, .int .i64 0, .int .i64 0, .int .i64 0, .slice none 0 0, .slice none 0 0, .slice none 0 0, .slice none 0 0, .slice none 0 0] 32) (.cells #[.int .u8 0, .int .i64 0, .int .i64 0, .int .i64 0, .int .i64 0, .int .i64 0, .int .i64 0, .int .i64 0, .int .i64 0, .slice none 0 0, .slice none 0 0, .slice none 0 0, .slice none 0 0, .slice none 0 0] 32)))
  have ZZ := Lib.hid (heap_alloc2_new w (.cells #[.int .u8 0, .int .i64 0, .int .i64 0, .int .i64 0, .int .i64 0, .int .i64 0, .int .i64 0, .int .i64 0, .int .i64 0, .slice none 0 0, .slice none 0 0, .slice none 0 0, .slice none 0 0, .slice none 0 0] 32) (.cells #[.int .u8 0, .int .i64 0, .int .i64 0, .int .i64 0, .int .i64 0, .int .i64 0, .int .i64 0, .int .i64 0, .int .i64 0, .slice none 0 0, .slice none 0 0, .slice none 0 0, .slice none 0 0, .slice none 0 0] 32))
  have SC := Lib.hid (size32 qs[i])
  have RA := Lib.hid (show (w.alloc (.cells #[.int .u8 0, .int .i64 0, .int .i64 0, .int .i64 0, .int .i64 0, .int .i64 0, .int .i64 0, .int .i64 0, .int .i64 0, .slice none 0 0, .slice none 0 0, .slice none 0 0, .slice none 0 0, .slice none 0 0] 32)).rangeAt g (o + i * 14) (encF qs[i]) from fun j v hv => by
    rw [((below_one w (.cells #[.int .u8 0, .int .i64 0, .int .i64 0, .int .i64 0, .int .i64 0, .int .i64 0, .int .i64 0, .int .i64 0, .int .i64 0, .slice none 0 0, .slice none 0 0, .slice none 0 0, .slice none 0 0, .slice none 0 0] 32)).cell (show g < w.heap.size from h4)), Nat.add_assoc, cell_of_row _ _ _ _ _ _ hg]
    exact hx _ _ (flatR_at encF_len qs i hi j v hv))
  have L32 : Hid ((Try.prog.info? 32).map (·.size) = some (encF qs[i]).length) := Lib.hid (by rw [encF_len]; kernel_rfl)
  have HB := Lib.hid h
  have HP := Lib.hid hp
  have HG := Lib.hid hg
  have HX := Lib.hid hx
  have p0 : w.cell? ⟨p, 0, none⟩ = some (.int .i64 mx) := by rw [cell_of_row _ _ _ _ _ _ hp]; rfl
  have p1 : w.cell? ⟨p, 1, none⟩ = some (.slice (some ⟨g, o, none⟩) qs.length c) := by rw [cell_of_row _ _ _ _ _ _ hp]; rfl
  have p1a : (w.alloc (.cells #[.int .u8 0, .int .i64 0, .int .i64 0, .int .i64 0, .int .i64 0, .int .i64 0, .int .i64 0, .int .i64 0, .int .i64 0, .slice none 0 0, .slice none 0 0, .slice none 0 0, .slice none 0 0, .slice none 0 0] 32)).cell? ⟨p, 1, none⟩ = some (.slice (some ⟨g, o, none⟩) qs.length c) := ((below_one w (.cells #[.int .u8 0, .int .i64 0, .int .i64 0, .int .i64 0, .int .i64 0, .int .i64 0, .int .i64 0, .int .i64 0, .int .i64 0, .slice none 0 0, .slice none 0 0, .slice none 0 0, .slice none 0 0, .slice none 0 0] 32)).cell (show p < w.heap.size from h3)).trans p1
  obtain ⟨o', ho'⟩ : ∃ o', o' = if c = 1 then o else o + 14 := ⟨_, rfl⟩
  have S1 : ∀ W, (Instr.slice 41 (.slice (some ⟨g, o, none⟩) qs.length c) (some (.int .i64 1)) none none).run Try.prog W = .ok (.slice (some ⟨g, o', none⟩) (qs.length - 1) (c - 1)) W := fun W => by
    rw [run_slice_l (w := W) (P := Try.prog) 41 (some ⟨g, o, none⟩) qs.length c under41 .i64 1 (by omega) (by omega), elem41, size32W]
    show Result.ok (sliced (some ⟨g, o, none⟩) 1 qs.length c 14) W = _
    unfold sliced
    rw [ho']
    split
    · rfl
    · rfl
  have S2 : ∀ W, (Instr.slice 41 (.slice (some ⟨g, o, none⟩) qs.length c) none (some (.int .i64 (i : Int))) none).run Try.prog W = .ok (.slice (some ⟨g, o, none⟩) i c) W := fun W => by
    rw [run_slice_h (w := W) (P := Try.prog) 41 (some ⟨g, o, none⟩) qs.length c under41 .i64 (i : Int) (by omega) (by omega), elem41, size32W]
    show Result.ok (sliced (some ⟨g, o, none⟩) 0 i c 14) W = _
    unfold sliced
    split <;> rfl
  have i1 : (0 : Int) ≤ (i : Int) := by omega
  have i2 : (i : Int) < (qs.length : Int) := by omega
  have i3 : (0 : Int) < (qs.length : Int) := by omega
  have HS1 := Lib.hid S1
  have HS2 := Lib.hid S2
  have HC := Lib.hid hc
  have HS := Lib.hid hs
  have HO' := Lib.hid ho'
  have HNE := Lib.hid hne
  have HT := Lib.hid hT
  have HI := Lib.hid hi
  have H3 := Lib.hid h3
  have H4 := Lib.hid h4
  clear h hp hg hx hc hs ho' hne hT h3 h4 S1 S2
  go_enter Try.func31, Try.ntmps31
  go_upto_region 2 with (first
    | (refine wpList_load_mid rfl 32 (.tmp 11) rfl g (o + i * 14) rfl (encF qs[i]) _ RA.out Try.underlying32 rfl L32.out ?_)
    | (refine wpList_store_row rfl 32 (.tmp 5) (.tmp 12) rfl (w.heap.size + 1) (fc qs[i]) rfl rfl 32 #[.int .u8 0, .int .i64 0, .int .i64 0, .int .i64 0, .int .i64 0, .int .i64 0, .int .i64 0, .int .i64 0, .int .i64 0, .slice none 0 0, .slice none 0 0, .slice none 0 0, .slice none 0 0, .slice none 0 0] ZZ.out SC.out rfl (fc_one _) ?_))
  clear p0 p1 p1a
  generalize hw2 : ((w.alloc (.cells #[.int .u8 0, .int .i64 0, .int .i64 0, .int .i64 0, .int .i64 0, .int .i64 0, .int .i64 0, .int .i64 0, .int .i64 0, .slice none 0 0, .slice none 0 0, .slice none 0 0, .slice none 0 0, .slice none 0 0] 32)).alloc (.cells #[.int .u8 0, .int .i64 0, .int .i64 0, .int .i64 0, .int .i64 0, .int .i64 0, .int .i64 0, .int .i64 0, .int .i64 0, .slice none 0 0, .slice none 0 0, .slice none 0 0, .slice none 0 0, .slice none 0 0] 32)).setRow (w.heap.size + 1) (fc qs[i]) = w2 at *
  clear hw2 ZZ RA
  have P2 : Hid (w2.heap[p]? = some (.cells #[.int .i64 mx, .slice (some ⟨g, o, none⟩) qs.length c] 71 (0, 0))) := Lib.hid ((B2.out.block p H3.out).trans HP.out)
  have G2 : Hid (w2.heap[g]? = some (.cells cur 32 (0, 0))) := Lib.hid ((B2.out.block g H4.out).trans HG.out)
  have p1 : w2.cell? ⟨p, 1, none⟩ = some (.slice (some ⟨g, o, none⟩) qs.length c) := by rw [cell_of_row _ _ _ _ _ _ P2.out]; rfl
  have s1 := HS1.out
  have s2 := HS2.out
  go_still_tail 11, (by kernel_rfl)
  change wpList _ _ _ _ _ w2.drew
  clear s1 s2 p1
  have hTL : (flatR encF (qs.take i)).length = i * 14 := by rw [flat_len, List.length_take, Nat.min_eq_left (Nat.le_of_lt HI.out)]
  have hcell : ∀ j v, (flatR encF qs)[j]? = some v → w2.drew.cell? ⟨g, o + j, none⟩ = some v := fun j v hv => by
    rw [cell_of_row w2.drew _ _ _ _ _ G2.out]
    exact HX.out j v hv
  have hmn : Nat.min i (qs.length - 1) = i := Nat.min_eq_left (by have := HI.out; omega)
  have hcs : cur.size = w2.heap.size + cur.size - w2.heap.size := by omega
  have hrun : ∀ ty, (Builtin.copy_ #[41, 41] ty #[.slice (some ⟨g, o', none⟩) (qs.length - 1) (c - 1), .slice (some ⟨g, o, none⟩) i c]).run Try.prog w2.drew = .ok (goInt (i : Nat)) (w2.drew.setCells g o' (flatR encF (qs.take i))) := fun ty => by
    have := run_copy_recs (P := Try.prog) w2.drew 41 41 ty 32 14 g o' (qs.length - 1) (c - 1) ⟨g, o, none⟩ i c (flatR encF (qs.take i)) Try.underlying41 (by kernel_rfl) (by rw [hTL, hmn])
      (fun j u hj => by
        rw [Addr.add_mid]
        refine hcell j u ?_
        rw [flat_take, List.getElem?_take] at hj
        split at hj
        · exact hj
        · cases hj)
      (fun j hj => by
        rw [cell_of_row w2.drew _ _ _ _ _ G2.out, Array.getElem?_eq_getElem]
        · rfl
        · have h1 := HS.out
          have h2 := HC.out
          have h3 := HO'.out
          have h5 := HI.out
          rw [hTL] at hj
          split at h3 <;> omega)
      (fun j hj => frozen_of_row w2.drew _ _ _ _ G2.out)
      (flat_one _)
    rwa [hmn] at this
  have HR := Lib.hid hrun
  have HCL := Lib.hid hcell
  have HTL := Lib.hid hTL
  clear hrun hcell hTL hmn hcs
  refine wpList_copy_eq rfl _ _ 41 41 rfl _ _ rfl rfl (HR.out _) ?_
  -- behind the copy
  obtain ⟨c3, g3, z3⟩ := shape_setCells g 32 (flatR encF (qs.take i)) o' w2.drew cur G2.out
  have O3 := Lib.hid (only_setCells w2.drew g o' (flatR encF (qs.take i)))
  have ho := HO'.out
  have hcc := HC.out
  have hss := HS.out
  have hii := HI.out
  have HIN := Lib.hid (fun (j : Nat) (v : Value) (h : (flatR encF (qs.take i))[j]? = some v) => (show (w2.drew.setCells g o' (flatR encF (qs.take i))).cell? ⟨g, o' + j, none⟩ = some v by
    obtain ⟨hj, e⟩ := List.getElem?_eq_some_iff.1 h
    rw [World.cell?_setCells_in g _ o' _ (fun k hk => by
      rw [HTL.out] at hk
      rw [cell_of_row w2.drew _ _ _ _ _ G2.out, Array.getElem?_eq_getElem (by split at ho <;> omega)]
      rfl) j hj, e]))
  have HOUT := Lib.hid (fun (j : Nat) (v : Value) (h : (flatR encF qs)[j]? = some v) (hj : (i + 1) * 14 ≤ j) => (show (w2.drew.setCells g o' (flatR encF (qs.take i))).cell? ⟨g, o + j, none⟩ = some v by
    rw [World.cell?_setCells_out g _ o' _ ⟨g, o + j, none⟩ (fun _ _ => by
      right
      show o' + (flatR encF (qs.take i)).length ≤ o + j
      rw [HTL.out]
      split at ho <;> omega)]
    exact HCL.out j v h))
  have G3 := Lib.hid g3
  have Z3 := Lib.hid z3
  clear g3 z3 HCL HR HX
  have p3 : (w2.drew.setCells g o' (flatR encF (qs.take i))).heap[p]? = some (.cells #[.int .i64 mx, .slice (some ⟨g, o, none⟩) qs.length c] 71 (0, 0)) := (heap_setCells g _ _ _ p (fun e => HNE.out e.symm)).trans P2.out
  have x3 : FB (w2.drew.setCells g o' (flatR encF (qs.take i))) (w.heap.size + 1) qs[i] := (heap_setCells g _ _ _ _ (by have := H4.out; omega)).trans X2.out
  have r3 : FB (w2.drew.setCells g o' (flatR encF (qs.take i))) w.heap.size q0 := (heap_setCells g _ _ _ _ (by have := H4.out; omega)).trans Z2.out
  have P3 := Lib.hid p3
  have X3 := Lib.hid x3
  have R3 := Lib.hid r3
  clear p3 x3 r3 X2 Z2
  generalize w2.drew.setCells g o' (flatR encF (qs.take i)) = w3 at *
  have p1 : w3.cell? ⟨p, 1, none⟩ = some (.slice (some ⟨g, o, none⟩) qs.length c) := by rw [cell_of_row _ _ _ _ _ _ P3.out]; rfl
  have pf : w3.frozen? ⟨p, 1, none⟩ = false := frozen_of_row _ _ _ _ _ P3.out
  have TH : Hid (w3.there g o 14) := Lib.hid fun j hj => ⟨by rw [cell_of_row _ _ _ _ _ _ G3.out, Array.getElem?_eq_getElem (by rw [Z3.out]; omega)]; rfl, frozen_of_row _ _ _ _ _ G3.out⟩
  have S32 : Hid ((Try.prog.info? 32).map (·.size) = some (#[.int .u8 0, .int .i64 0, .int .i64 0, .int .i64 0, .int .i64 0, .int .i64 0, .int .i64 0, .int .i64 0, .int .i64 0, .slice none 0 0, .slice none 0 0, .slice none 0 0, .slice none 0 0, .slice none 0 0] : Array Value).size) := Lib.hid (by kernel_rfl)
  have s1 := HS1.out
  clear ho hcc hss
  go_upto_region 4 with (refine wpList_store_mid rfl 32 (.tmp 30) (.tmp 29) rfl g o #[.int .u8 0, .int .i64 0, .int .i64 0, .int .i64 0, .int .i64 0, .int .i64 0, .int .i64 0, .int .i64 0, .int .i64 0, .slice none 0 0, .slice none 0 0, .slice none 0 0, .slice none 0 0, .slice none 0 0] rfl rfl TH.out S32.out (fc_one q0) ?_)
  clear p1 pf
  have hz14 : ([.int .u8 0, .int .i64 0, .int .i64 0, .int .i64 0, .int .i64 0, .int .i64 0, .int .i64 0, .int .i64 0, .int .i64 0, .slice none 0 0, .slice none 0 0, .slice none 0 0, .slice none 0 0, .slice none 0 0] : List Value).length = 14 := rfl
  generalize ([.int .u8 0, .int .i64 0, .int .i64 0, .int .i64 0, .int .i64 0, .int .i64 0, .int .i64 0, .int .i64 0, .int .i64 0, .slice none 0 0, .slice none 0 0, .slice none 0 0, .slice none 0 0, .slice none 0 0] : List Value) = zl at *
  obtain ⟨c4, g4, z4⟩ := shape_setCells g 32 zl o w3 c3 G3.out
  have ho := HO'.out
  have hcc := HC.out
  have hss := HS.out
  have hii := HI.out
  have hlen := List.length_eraseIdx_of_lt hii
  have a1 : Only (fun k => k = p ∨ k = g) w w2 := Only.of B2.out
  have a2 : Only (fun k => k = p ∨ k = g) w2 w2.drew := only_drew _ _
  have a3 : Only (fun k => k = p ∨ k = g) w2.drew w3 := O3.out.mono fun _ e => Or.inr e
  have a4 : Only (fun k => k = p ∨ k = g) w3 (w3.setCells g o zl) := (only_setCells w3 g o zl).mono fun _ e => Or.inr e
  have p4 : (w3.setCells g o zl).heap[p]? = some (.cells #[.int .i64 mx, .slice (some ⟨g, o, none⟩) qs.length c] 71 (0, 0)) := (heap_setCells g _ _ _ p (fun e => HNE.out e.symm)).trans P3.out
  have x4 : FB (w3.setCells g o zl) (w.heap.size + 1) qs[i] := (heap_setCells g _ _ _ _ (by have := H4.out; omega)).trans X3.out
  have r4 : FB (w3.setCells g o zl) w.heap.size q0 := (heap_setCells g _ _ _ _ (by have := H4.out; omega)).trans R3.out
  have in4 : ∀ (j : Nat) (v : Value), (flatR encF (qs.eraseIdx i))[j]? = some v → (w3.setCells g o zl).cell? ⟨g, o' + j, none⟩ = some v := fun j v hv => by
    have hpos : 0 < (flatR encF (qs.eraseIdx i)).length := Nat.lt_of_le_of_lt (Nat.zero_le _) (List.getElem?_eq_some_iff.1 hv).1
    rw [flat_len, hlen] at hpos
    rw [World.cell?_setCells_out g _ o _ ⟨g, o' + j, none⟩ (fun _ _ => by
      right
      show o + zl.length ≤ o' + j
      rw [hz14]
      split at ho <;> omega)]
    rcases erase_cells hii j v hv with ⟨_, h2⟩ | ⟨h1, h2⟩
    · exact HIN.out j v h2
    · have := HOUT.out (j + 14) v h2 (by omega)
      rw [show o' + j = o + (j + 14) by split at ho <;> omega]
      exact this
  generalize w3.setCells g o zl = w4 at *
  have p1 : w4.cell? ⟨p, 1, none⟩ = some (.slice (some ⟨g, o, none⟩) qs.length c) := by rw [cell_of_row _ _ _ _ _ _ p4]; rfl
  have pf : w4.frozen? ⟨p, 1, none⟩ = false := frozen_of_row _ _ _ _ _ p4
  have hh := Lib.hid (And.intro p4 (And.intro x4 (And.intro r4 (And.intro in4 (And.intro g4 (And.intro a1 (And.intro a2 (And.intro a3 a4))))))))
  have HOO := Lib.hid ho
  have HSS := Lib.hid hss
  have HLL := Lib.hid hlen
  clear p4 x4 r4 in4 g4 a1 a2 a3 a4 ho hss hlen
  go_upto_region 5 with (fail)
  obtain ⟨p4, x4, r4, in4, g4, a1, a2, a3, a4⟩ := hh.out
  have ho := HOO.out
  have hss := HSS.out
  have hlen := HLL.out
  clear p1 pf s1 hh
  have a5 : Only (fun k => k = p ∨ k = g) w4 (w4.setCell ⟨p, 1, none⟩ (.slice (some ⟨g, o', none⟩) (qs.length - 1) (c - 1))) := (only_setCell _ p 1 _).mono fun _ e => Or.inl e
  have p5 : (w4.setCell ⟨p, 1, none⟩ (.slice (some ⟨g, o', none⟩) (qs.length - 1) (c - 1))).heap[p]? = some (.cells #[.int .i64 mx, .slice (some ⟨g, o', none⟩) (qs.length - 1) (c - 1)] 71 (0, 0)) := by
    rw [heap_setCell_same _ p 1 _ _ _ p4]; rfl
  have g5 : (w4.setCell ⟨p, 1, none⟩ (.slice (some ⟨g, o', none⟩) (qs.length - 1) (c - 1))).heap[g]? = some (.cells c4 32 (0, 0)) := (Below.heap_setCell _ _ _ _ (show g ≠ p from HNE.out)).trans g4
  have x5 : FB (w4.setCell ⟨p, 1, none⟩ (.slice (some ⟨g, o', none⟩) (qs.length - 1) (c - 1))) (w.heap.size + 1) qs[i] := (Below.heap_setCell _ _ _ _ (by have := H3.out; show w.heap.size + 1 ≠ p; omega)).trans x4
  have r5 : FB (w4.setCell ⟨p, 1, none⟩ (.slice (some ⟨g, o', none⟩) (qs.length - 1) (c - 1))) w.heap.size q0 := (Below.heap_setCell _ _ _ _ (by have := H3.out; show w.heap.size ≠ p; omega)).trans r4
  have in5 : ∀ (j : Nat) (v : Value), (flatR encF (qs.eraseIdx i))[j]? = some v → (w4.setCell ⟨p, 1, none⟩ (.slice (some ⟨g, o', none⟩) (qs.length - 1) (c - 1))).cell? ⟨g, o' + j, none⟩ = some v := fun j v hv =>
    (World.cell?_of_block (w := w4) (a := ⟨g, o' + j, none⟩) (Below.heap_setCell _ _ _ _ (show g ≠ p from HNE.out))).trans (in4 j v hv)
  generalize w4.setCell ⟨p, 1, none⟩ (.slice (some ⟨g, o', none⟩) (qs.length - 1) (c - 1)) = w5 at *
  have a6 : Only (fun k => k = p ∨ k = g) w w5 := a1.andThen (a2.andThen (a3.andThen (a4.andThen a5)))
  obtain ⟨T', Q, r1, r2, r3, r6, r7⟩ := BoxAt.removed (W := w5) (o' := o') (cur := c4) HB.out hii HP.out a6 p5 g5 (by rw [z4, Z3.out]; split at ho <;> omega) hcc in5
  have X5 := Lib.hid x5
  have R5 := Lib.hid r5
  have K1 := Lib.hid r1
  have K2 := Lib.hid r2
  have K3 := Lib.hid r3
  have K4 := Lib.hid r6
  have K5 := Lib.hid r7
  have A6 := Lib.hid a6
  have hTp : T p := HB.out.p
  have hTg : T g := HT.out g ⟨_, rfl, rfl⟩
  clear a1 a2 a3 a4 a5 a6 p4 x4 r4 in4 p5 g5 x5 r5 in5 r1 r2 r3 r6 r7 ho hcc hss g4 z4 X3 R3 P3 HIN HOUT TH G3 Z3 O3
  go_wp2_with first
    | (refine wpList_load_row rfl 32 (.tmp 5) rfl _ rfl 32 _ (0, 0) _ X5.out Try.underlying32 rfl (size32 _) ?_)
    | (refine wpList_store_row rfl 32 (.tmp 4) (.tmp 39) rfl _ _ rfl rfl 32 _ R5.out (size32 _) rfl (fc_one _) ?_)
  refine bodyPost_ret (results_cell_row Try.results31 _ _ w.heap.size 32 _ (0, 0) _ rfl (setRow_set R5.out) Try.underlying32 rfl (size32 _)) rfl ?_
  have OF : Only (fun k => k = p ∨ k = g) w (w5.setRow w.heap.size (fc qs[i])) := A6.out.trans (only_setRow w5 w.heap.size _) (fun _ e => e) (fun k hk e => absurd e (by omega))
  have hlt2 := HB.out.lt
  refine ⟨rfl, ⟨T', Q, ?_, ?_, K3.out, K4.out, K5.out⟩, OF.mono fun k e => ?_⟩
  · refine K1.out.on (fun k hk => setRow_other _ _ _ _ ?_) (by simp)
    have := hlt2 k (K5.out k hk)
    omega
  · refine K2.out.on (fun k hk => setRow_other _ _ _ _ ?_)
    have := hlt2 k (K4.out k hk)
    omega
  · rcases e with rfl | rfl
    · exact hTp
    · exact hTg
end Go.Proofs.Ytmgiglefabbmcaa
