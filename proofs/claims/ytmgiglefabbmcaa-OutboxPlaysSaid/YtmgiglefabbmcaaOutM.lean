/-
  What is done to a box, told by what it has, and by the blocks that it must not touch. No statement is proved in this text.
-/
import Derived.Test.YtmgiglefabbmcaaOutL
set_option maxRecDepth 20000
namespace Go.Proofs.Ytmgiglefabbmcaa
open Go Go.RowKit
/-- The blocks of D are what they were. -/
structure Kept (D : Nat → Prop) (w w' : World) : Prop where
  os : w'.os = w.os
  tape : w'.tape = w.tape
  output : w'.output = w.output
  size : w.heap.size ≤ w'.heap.size
  on : On D w w'
theorem Kept.refl (D : Nat → Prop) (w : World) : Kept D w w := ⟨rfl, rfl, rfl, Nat.le_refl _, fun _ _ => rfl⟩
theorem Kept.trans {D : Nat → Prop} {a b c : World} (h : Kept D a b) (k : Kept D b c) : Kept D a c := ⟨k.os.trans h.os, k.tape.trans h.tape, k.output.trans h.output, Nat.le_trans h.size k.size, fun i hi => (k.on i hi).trans (h.on i hi)⟩
theorem Kept.mono {D E : Nat → Prop} {a b : World} (h : Kept D a b) (hE : ∀ k, E k → D k) : Kept E a b := ⟨h.os, h.tape, h.output, h.size, h.on.mono hE⟩
theorem Kept.of {D : Nat → Prop} {w w' : World} (h : Below w.heap.size w w') (hD : ∀ k, D k → k < w.heap.size) : Kept D w w' := ⟨h.os, h.tape, h.output, h.size, Below.on h hD⟩
theorem Kept.only {D S : Nat → Prop} {w w' : World} (h : Only S w w') (hD : ∀ k, D k → k < w.heap.size ∧ ¬ S k) : Kept D w w' := ⟨h.os, h.tape, h.output, h.size, h.on hD⟩
theorem Kept.below {D : Nat → Prop} {w w' : World} {B : Nat} (h : Kept D w w') (hB : ∀ k, k < B → D k) : Below B w w' := ⟨h.os, h.tape, h.output, h.size, fun k hk => h.on k (hB k hk)⟩
/-- Block p is a box that has these frames, and does not touch what is in D. -/
structure Bx (D : Nat → Prop) (W : World) (p : Nat) (mx : Int) (L : List Fr) : Prop where
  box : ∃ (T : Nat → Prop) (qs : List Fq), BoxAt T W p mx qs ∧ qs.map (·.F) = L ∧ ∀ k, T k → ¬ D k
  hd : ∀ k, D k → k < W.heap.size
  fit : ∀ F ∈ L, Fit 20000 F.v
theorem Bx.len {D : Nat → Prop} {W : World} {p : Nat} {mx : Int} {L : List Fr} (h : Bx D W p mx L) : (L.length : Int) ≤ mx ∧ 1 ≤ mx ∧ mx ≤ 4096 := by
  obtain ⟨T, qs, h1, rfl, _⟩ := h.box
  exact ⟨by simpa using h1.len, h1.hm⟩
theorem Bx.few {D : Nat → Prop} {W : World} {p : Nat} {mx : Int} {L : List Fr} (h : Bx D W p mx L) : L.length ≤ 4096 := by have := h.len; omega
theorem Bx.mono {D E : Nat → Prop} {W : World} {p : Nat} {mx : Int} {L : List Fr} (h : Bx D W p mx L) (hE : ∀ k, E k → D k) : Bx E W p mx L := by
  obtain ⟨T, qs, h1, h2, h3⟩ := h.box
  exact ⟨⟨T, qs, h1, h2, fun k hk e => h3 k hk (hE k e)⟩, fun k hk => h.hd k (hE k hk), h.fit⟩
/-- What is new is no block of the box's. -/
theorem Bx.below {D : Nat → Prop} {W W' : World} {p : Nat} {mx : Int} {L : List Fr} (h : Bx D W p mx L) (hb : Below W.heap.size W W') : Bx (fun k => D k ∨ (W.heap.size ≤ k ∧ k < W'.heap.size)) W' p mx L := by
  obtain ⟨T, qs, h1, h2, h3⟩ := h.box
  refine ⟨⟨T, qs, h1.below hb, h2, fun k hk e => ?_⟩, fun k hk => ?_, h.fit⟩
  · rcases e with e | e
    · exact h3 k hk e
    · have := h1.lt k hk; omega
  · rcases hk with e | e
    · exact Nat.lt_of_lt_of_le (h.hd k e) hb.size
    · exact e.2
theorem Bx.step {D : Nat → Prop} {W W' : World} {p : Nat} {mx : Int} {L : List Fr} (h : Bx D W p mx L) (hb : Below W.heap.size W W') : Bx D W' p mx L := (h.below hb).mono fun _ e => .inl e
/-- Blocks of D may be written over. -/
theorem Bx.only {D S : Nat → Prop} {W W' : World} {p : Nat} {mx : Int} {L : List Fr} (h : Bx D W p mx L) (ho : Only S W W') (hS : ∀ k, S k → D k) : Bx D W' p mx L := by
  obtain ⟨T, qs, h1, h2, h3⟩ := h.box
  exact ⟨⟨T, qs, h1.on (ho.on fun k hk => ⟨h1.lt k hk, fun e => h3 k hk (hS k e)⟩) ho.size, h2, h3⟩, fun k hk => Nat.lt_of_lt_of_le (h.hd k hk) ho.size, h.fit⟩
theorem fit_none : Fit 20000 ⟨[], [], [], [], []⟩ := ⟨Nat.zero_le _, Nat.zero_le _, Nat.zero_le _, Nat.zero_le _, Nat.zero_le _, fun r hr => by cases hr⟩
theorem putL_fit {mx : Int} {L : List Fr} {F : Fr} (hL : ∀ G ∈ L, Fit 20000 G.v) (hF : Fit 20000 F.v) : (∀ G ∈ (putL mx L F).1, Fit 20000 G.v) ∧ Fit 20000 (putL mx L F).2.1.v := by
  unfold putL
  split
  · refine ⟨fun G hG => ?_, fit_none⟩
    rcases List.mem_append.1 hG with hG | hG
    · exact hL G hG
    · rw [List.mem_singleton.1 hG]; exact hF
  · split
    · refine ⟨fun G hG => ?_, hL _ (List.getElem_mem _)⟩
      rcases List.mem_append.1 hG with hG | hG
      · exact hL G (List.mem_of_mem_eraseIdx hG)
      · rw [List.mem_singleton.1 hG]; exact hF
    · exact ⟨hL, hF⟩
/-- A new box. -/
theorem bx_new (D : Nat → Prop) (mx : Int) (W : World) (hD : ∀ k, D k → k < W.heap.size) (hm : 1 ≤ mx ∧ mx ≤ 4096) :
    Calls Try.prog 17 #[.int .i64 mx] W fun e w' => e = .returned (.tuple #[.pointer (some ⟨W.heap.size, 0, none⟩), .int .i64 0]) ∧ Bx D w' W.heap.size mx [] ∧ Below W.heap.size W w' :=
  (new_any mx W hm).mono fun _ w' ⟨h1, h2, h3⟩ => ⟨h1, ⟨⟨_, [], h2, rfl, fun k hk e => by have := hD k e; omega⟩, fun k hk => Nat.lt_of_lt_of_le (hD k hk) h3.size, fun F hF => by cases hF⟩, h3⟩
theorem bx_len (D : Nat → Prop) (W : World) (p : Nat) (mx : Int) (L : List Fr) (h : Bx D W p mx L) :
    Calls Try.prog 14 #[.pointer (some ⟨p, 0, none⟩)] W fun e w' => e = .returned (.int .i64 L.length) ∧ W = w' := by
  obtain ⟨T, qs, h1, rfl, _⟩ := h.box
  refine (len_any T W p mx qs h1).mono fun e w' ⟨h2, h3⟩ => ⟨?_, h3⟩
  rw [h2, List.length_map]
theorem bx_put (D : Nat → Prop) (W : World) (p : Nat) (mx : Int) (L : List Fr) (h : Bx D W p mx L) (q : Fq) (hr : FR W q) (hV : Fit 20000 q.F.v) :
    Calls Try.prog 9 #[.pointer (some ⟨p, 0, none⟩), .agg (fc q)] W fun e w' => ∃ (qo : Fq) (Q : Nat → Prop), e = .returned (.tuple #[.agg (fc qo), .bool (putL mx L q.F).2.2, .int .i64 0]) ∧ qo.F = (putL mx L q.F).2.1 ∧ FO Q w' qo ∧ (∀ k, Q k → ¬ D k ∧ k < w'.heap.size) ∧ Bx (fun k => D k ∨ Q k) w' p mx (putL mx L q.F).1 ∧ Kept D W w' := by
  obtain ⟨T, qs, h1, rfl, h3⟩ := h.box
  refine (put_any T W p mx qs h1 q hr hV).mono fun e w' ⟨qs', qo, lost, T', Q, k1, k2, k3, k4, k5, k6, k7, k8⟩ => ?_
  have e1 : (putL mx (qs.map (·.F)) q.F).1 = qs'.map (·.F) := by rw [← k3]
  have e2 : (putL mx (qs.map (·.F)) q.F).2.1 = qo.F := by rw [← k3]
  have e3 : (putL mx (qs.map (·.F)) q.F).2.2 = lost := by rw [← k3]
  have hD : ∀ k, (T k ∨ W.heap.size ≤ k) → ¬ D k := fun k hk e => by
    rcases hk with hk | hk
    · exact h3 k hk e
    · have := h.hd k e; omega
  refine ⟨qo, fun k => Q k ∧ k < w'.heap.size, by rw [e3]; exact k1, e2.symm, k4.bound, fun k hk => ⟨hD k (k6 k hk.1), hk.2⟩, ⟨⟨T', qs', k2, e1.symm, fun k hk e => ?_⟩, fun k hk => ?_, (putL_fit h.fit hV).1⟩, Kept.only k8 fun k hk => ⟨h.hd k hk, fun e => h3 k e hk⟩⟩
  · rcases e with e | e
    · exact hD k (k7 k hk) e
    · exact k5 k e.1 hk
  · rcases hk with e | e
    · exact Nat.lt_of_lt_of_le (h.hd k e) k8.size
    · exact e.2
/-- What is taken. -/
def hdF (L : List Fr) : Fr := L.head?.getD z0
theorem tq_F (qs : List Fq) : (tq qs).F = hdF (qs.map (·.F)) := by cases qs <;> rfl
theorem bx_take (D : Nat → Prop) (W : World) (p : Nat) (mx : Int) (L : List Fr) (h : Bx D W p mx L) :
    Calls Try.prog 11 #[.pointer (some ⟨p, 0, none⟩)] W fun e w' => ∃ (qo : Fq) (Q : Nat → Prop), e = .returned (.tuple #[.agg (fc qo), .bool (!L.isEmpty)]) ∧ qo.F = hdF L ∧ FO Q w' qo ∧ (∀ k, Q k → ¬ D k ∧ k < w'.heap.size) ∧ Bx (fun k => D k ∨ Q k) w' p mx L.tail ∧ Kept D W w' := by
  obtain ⟨T, qs, h1, rfl, h3⟩ := h.box
  refine (take_any T W p mx qs h1).mono fun e w' ⟨k1, ⟨T', Q, k2, k3, k4, k5, k6⟩, k7⟩ => ?_
  have e1 : (qs.map (·.F)).isEmpty = qs.isEmpty := by cases qs <;> rfl
  refine ⟨tq qs, Q, by rw [e1]; exact k1, tq_F qs, k3, fun k hk => ⟨h3 k (k5 k hk), Nat.lt_of_lt_of_le (h1.lt k (k5 k hk)) k7.size⟩, ⟨⟨T', qs.tail, k2, by rw [List.map_tail], fun k hk e => ?_⟩, fun k hk => ?_, fun F hF => h.fit F (List.mem_of_mem_tail hF)⟩, Kept.only k7 fun k hk => ⟨h.hd k hk, fun e => h3 k e hk⟩⟩
  · rcases e with e | e
    · exact h3 k (k6 k hk) e
    · exact k4 k e hk
  · rcases hk with e | e
    · exact Nat.lt_of_lt_of_le (h.hd k e) k7.size
    · exact Nat.lt_of_lt_of_le (h1.lt k (k5 k e)) k7.size
theorem bx_clear (D : Nat → Prop) (W : World) (p : Nat) (mx : Int) (L : List Fr) (h : Bx D W p mx L) :
    Calls Try.prog 12 #[.pointer (some ⟨p, 0, none⟩)] W fun e w' => e = .returned (.tuple #[]) ∧ Bx D w' p mx [] ∧ Kept D W w' := by
  obtain ⟨T, qs, h1, rfl, h3⟩ := h.box
  exact (clear_any T W p mx qs h1).mono fun e w' ⟨k1, k2, k3⟩ => ⟨k1, ⟨⟨T, [], k2, rfl, h3⟩, fun k hk => Nat.lt_of_lt_of_le (h.hd k hk) k3.size, fun F hF => by cases hF⟩, Kept.only k3 fun k hk => ⟨h.hd k hk, fun e => h3 k e hk⟩⟩
theorem bx_all (D : Nat → Prop) (W : World) (p : Nat) (mx : Int) (L : List Fr) (h : Bx D W p mx L) :
    Calls Try.prog 15 #[.pointer (some ⟨p, 0, none⟩)] W fun e w' => ∃ us v, e = .returned v ∧ us.map (·.F) = L ∧ FL (fun k => W.heap.size ≤ k ∧ k < w'.heap.size) w' v us ∧ Bx (fun k => D k ∨ (W.heap.size ≤ k ∧ k < w'.heap.size)) w' p mx L ∧ Below W.heap.size W w' := by
  obtain ⟨T, qs, h1, h2, h3⟩ := id h.box
  refine (all_any T W p mx qs h1 (fun q hq => h.fit _ (by rw [← h2]; exact List.mem_map_of_mem hq))).mono fun e w' ⟨us, v, k1, k2, k3, k4⟩ => ⟨us, v, k1, k2.trans h2, k3, h.below k4, k4⟩
theorem bx_copy (D : Nat → Prop) (W : World) (p : Nat) (mx : Int) (L : List Fr) (h : Bx D W p mx L) :
    Calls Try.prog 16 #[.pointer (some ⟨p, 0, none⟩)] W fun e w' => ∃ p', e = .returned (.pointer (some ⟨p', 0, none⟩)) ∧ Bx (fun k => k < W.heap.size) w' p' mx L ∧ Bx (fun k => D k ∨ (W.heap.size ≤ k ∧ k < w'.heap.size)) w' p mx L ∧ Below W.heap.size W w' := by
  obtain ⟨T, qs, h1, h2, h3⟩ := id h.box
  refine (copy_any T W p mx qs h1 (fun q hq => h.fit _ (by rw [← h2]; exact List.mem_map_of_mem hq))).mono fun e w' ⟨us, p', T', k1, k2, k3, k4, k5⟩ => ⟨p', k1, ⟨⟨T', us, k3, k2.trans h2, fun k hk e => by have := k4 k hk; omega⟩, fun k hk => Nat.lt_of_lt_of_le hk k5.size, h.fit⟩, h.below k5, k5⟩
theorem fr_bare (W : World) (k n : Int) : FR W (bare k n) := (fo_bare (fun _ => False) W k n).reads
theorem fit_bare (k n : Int) : Fit 20000 (bare k n).F.v := fit_none
set_option maxHeartbeats 8000000 in
theorem puts_any (D : Nat → Prop) (W : World) (p : Nat) (mx : Int) (L : List Fr) (h : Bx D W p mx L) (q x : Fq) (hq : ∀ W, FR W q) (hx : ∀ W, FR W x) (hV : Fit 20000 q.F.v) (hV2 : Fit 20000 x.F.v) (z : Bool) (h1 : (putL mx L q.F).2.1 = x.F) (h2 : (putL mx L q.F).2.2 = z) :
    Calls Try.prog 18 #[.pointer (some ⟨p, 0, none⟩), .agg (fc q), .agg (fc x), .bool z] W fun e w' => e = .returned (.bool true) ∧ Bx D w' p mx (putL mx L q.F).1 ∧ Kept D W w' := by
  have b1 := below_one W (.cells (fc q) 32)
  have b2 := below_one (W.alloc (.cells (fc q) 32)) (.cells (fc x) 32)
  have X0 := Lib.hid (fb_below (fb_new W q) b2)
  have Y0 := Lib.hid (show FB ((W.alloc (.cells (fc q) 32)).alloc (.cells (fc x) 32)) (W.heap.size + 1) x by have := fb_new (W.alloc (.cells (fc q) 32)) x; simpa using this)
  have bb := below_after b1 b2 (Nat.le_refl _)
  have H0 := Lib.hid (h.below bb)
  have HDD := Lib.hid h.hd
  have K0 := Lib.hid (Kept.of bb h.hd)
  have HQ := Lib.hid hq
  have HX := Lib.hid hx
  have HV := Lib.hid hV
  have HV2 := Lib.hid hV2
  have H1 := Lib.hid h1
  have SQ := Lib.hid (size32 q)
  have SX := Lib.hid (size32 x)
  clear h b1 b2 bb hq hx hV hV2 h1
  subst h2
  have hz : ∀ z : Bool, (z == z) = true := fun z => by cases z <;> rfl
  have HZ := Lib.hid (hz (putL mx L q.F).2.2)
  clear hz
  go_enter Try.func18, Try.ntmps18
  go_wp2_with (refine wpList_load_row rfl 32 (.tmp 5) rfl W.heap.size rfl 32 (fc q) (0, 0) _ X0.out Try.underlying32 rfl SQ.out ?_)
  (with_reducible refine (bx_put _ _ p mx L H0.out q (HQ.out _) HV.out).mono ?_)
  rintro e1 w1 ⟨qo, Q, rfl, ho, hfo, hqd, hbx, hk⟩
  have HO := Lib.hid ho
  have FO1 := Lib.hid hfo
  have BX1 := Lib.hid hbx
  have K1 := Lib.hid hk
  have QD := Lib.hid hqd
  have SO := Lib.hid (size32 qo)
  have Y1 := Lib.hid (show FB w1 (W.heap.size + 1) x from (hk.on (W.heap.size + 1) (.inr ⟨by omega, by simp⟩)).trans Y0.out)
  have ZZ := Lib.hid (heap_alloc_new w1 (.cells #[.int .u8 0, .int .i64 0, .int .i64 0, .int .i64 0, .int .i64 0, .int .i64 0, .int .i64 0, .int .i64 0, .int .i64 0, .slice none 0 0, .slice none 0 0, .slice none 0 0, .slice none 0 0, .slice none 0 0] 32))
  clear ho hfo hbx hk hqd X0 Y0
  generalize (putL mx L q.F).2.2 = z at *
  generalize (putL mx L q.F).2.1 = Fo at *
  have hzz := HZ.out
  have B2 := Lib.hid (show Below w1.heap.size w1 ((w1.alloc (.cells #[.int .u8 0, .int .i64 0, .int .i64 0, .int .i64 0, .int .i64 0, .int .i64 0, .int .i64 0, .int .i64 0, .int .i64 0, .slice none 0 0, .slice none 0 0, .slice none 0 0, .slice none 0 0, .slice none 0 0] 32)).setRow w1.heap.size (fc qo)) from below_setRow (below_one w1 _) (Nat.le_refl _) _)
  have Z2 := Lib.hid (show FB ((w1.alloc (.cells #[.int .u8 0, .int .i64 0, .int .i64 0, .int .i64 0, .int .i64 0, .int .i64 0, .int .i64 0, .int .i64 0, .int .i64 0, .slice none 0 0, .slice none 0 0, .slice none 0 0, .slice none 0 0, .slice none 0 0] 32)).setRow w1.heap.size (fc qo)) w1.heap.size qo from setRow_set ZZ.out)
  go_upto_region 2 with (refine wpList_store_row rfl 32 (.tmp 9) (.tmp 16) rfl w1.heap.size (fc qo) rfl rfl 32 _ ZZ.out SO.out rfl (fc_one _) ?_)
  clear ZZ
  generalize ((w1.alloc (.cells #[.int .u8 0, .int .i64 0, .int .i64 0, .int .i64 0, .int .i64 0, .int .i64 0, .int .i64 0, .int .i64 0, .int .i64 0, .slice none 0 0, .slice none 0 0, .slice none 0 0, .slice none 0 0, .slice none 0 0] 32)).setRow w1.heap.size (fc qo)) = w2 at *
  have Y2 := Lib.hid (fb_below Y1.out B2.out)
  have HS := Lib.hid (same_any qo x w2 ((FO1.out.reads).below B2.out) (HX.out w2) (HO.out.trans H1.out) (by rw [HO.out, H1.out]; exact HV2.out))
  rw [fc_is, fc_is] at HS
  obtain ⟨p0, p1, p2, p3, p4, p5, p6, p7, p8, p9, p10, p11, p12, p13⟩ := fb_cells Z2.out
  obtain ⟨q0, q1, q2, q3, q4, q5, q6, q7, q8, q9, q10, q11, q12, q13⟩ := fb_cells Y2.out
  have KF := Lib.hid (((K0.out.trans (K1.out.mono fun k hk => .inl hk)).trans (Kept.of B2.out fun k hk => by have := K0.out.size; have := HDD.out k hk; have := K1.out.size; simp at *; omega)))
  have BXF := Lib.hid (((BX1.out.mono (E := D) fun k hk => .inl (.inl hk))).step B2.out)
  go_wp2_with fail
  (with_reducible refine HS.out.mono ?_)
  rintro e3 w3 ⟨rfl, hb⟩
  have BXG := Lib.hid (BXF.out.step hb)
  have KG := Lib.hid (KF.out.trans (Kept.of hb BXF.out.hd))
  clear hb p0 p1 p2 p3 p4 p5 p6 p7 p8 p9 p10 p11 p12 p13 q0 q1 q2 q3 q4 q5 q6 q7 q8 q9 q10 q11 q12 q13
  go_wp2_with fail
  go_ret
  exact ⟨rfl, BXG.out, KG.out⟩
end Go.Proofs.Ytmgiglefabbmcaa
