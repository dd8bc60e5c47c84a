/-
  Walks over links: one address set, whether an ID is fenced, an ID fenced. No statement is proved in this text.
-/
import Derived.Test.YtgbbmhdkhhchhaaLnkD
import Derived.StillTailTactics
import Derived.Shelf.SlMaps.Clone
set_option maxRecDepth 20000
namespace Go.Proofs.Ytgbbmhdkhhchhaa
open Go Go.RowKit
/-- A method that changes the links has answered. -/
def Did (v : Value) (base l : Nat) (m : Option Nat) (n : Nat) (M : Int → Pr) (w : World) (e : Ending) (w' : World) : Prop := e = .returned v ∧ ∃ m', Lk w' base l m' n M ∧ Ch w w' l m m'
theorem eq_nil (m : Option Nat) (w : World) : (binOp .eql 52 (.map m) (.map none)).run Try.prog w = .ok (.bool m.isNone) w := run_eql_map_nil_sl w 52 _ _ m Try.underlying52
theorem upd {w : World} {base l n : Nat} {b : Nat} {M : Int → Pr} (h : Lk w base l (some b) n M) (hn : n < maxLen) {k : Int} (hk : -9223372036854775808 ≤ k ∧ k ≤ 9223372036854775807) (p : Pr) :
    ∃ w', (Instr.mapUpdate 52 (.map (some b)) (.int .i64 k) (.agg #[.int .i64 p.nw, .int .i64 p.fe, .int .i64 p.be, .int .i64 p.re])).run Try.prog w = .ok () w' ∧ Lk w' base l (some b) (n + 1) (put M k p) ∧ Ch w w' l (some b) (some b) := by
  obtain ⟨h1, h2⟩ := h.yes b rfl
  obtain ⟨w', hr, k1, k2⟩ := h2.update hn hk p
  refine ⟨w', hr, ⟨(k2.block l h.lt (fun e => ?_)).trans h.x, h.b, fun e => (by cases e), fun b' e => ?_⟩, ⟨k2.os, k2.tape, k2.output, k2.size, fun i hi _ hm => k2.block i hi hm, .inl rfl⟩⟩
  · injection e with e
    subst e
    obtain ⟨D, ⟨es, clock, h3, _⟩, _⟩ := h2
    rw [h.x] at h3
    cases h3
  · injection e with e
    subst e
    exact ⟨h1, k1⟩
theorem Ch.boxed {w w' : World} {l : Nat} {m m' : Option Nat} {o : Obj} (h : Ch (w.alloc o) w' l m m') : Ch w w' l m m' := by
  refine ⟨h.os, h.tape, h.output, by have := h.size; simp at this; omega, fun k hk hl hm => (h.block k (by simp; omega) hl hm).trans (Below.heap_alloc w _ k hk), ?_⟩
  rcases h.lies with e | ⟨j, e, hj⟩
  · exact .inl e
  · exact .inr ⟨j, e, by simp at hj; omega⟩
theorem Ch.drewN {w w' : World} {l n : Nat} {m m' : Option Nat} (h : Ch w w' l m m') : Ch w (w'.drewN n) l m m' := ⟨h.os, h.tape, h.output, h.size, h.block, h.lies⟩
theorem Lk.drewN {w : World} {base l n c : Nat} {m : Option Nat} {M : Int → Pr} (h : Lk w base l m n M) : Lk (w.drewN c) base l m n M := ⟨h.x, h.b, h.no, fun b e => ⟨(h.yes b e).1, mapAt_same (h.yes b e).2 rfl⟩⟩
/-- A map made, and laid into the links. -/
theorem made {w : World} {base l n : Nat} {M : Int → Pr} (h : Lk w base l none n M) : Lk ((w.alloc (.map #[] 0)).setCell ⟨l, 0, none⟩ (.map (some w.heap.size))) base l (some w.heap.size) n M ∧ Ch w ((w.alloc (.map #[] 0)).setCell ⟨l, 0, none⟩ (.map (some w.heap.size))) l none (some w.heap.size) := by
  have h1 : (w.alloc (.map #[] 0)).heap[l]? = some (.cells #[.map none] 54 (0, 0)) := (Below.heap_alloc w _ l h.lt).trans h.x
  have hne : w.heap.size ≠ l := fun e => by have := h.lt; omega
  refine ⟨⟨?_, h.b, fun e => (by cases e), fun b e => ?_⟩, ⟨rfl, rfl, rfl, by simp [World.setCell], fun k hk hl _ => ?_, .inr ⟨_, rfl, Nat.le_refl _⟩⟩⟩
  · rw [heap_setCell_same _ _ _ _ _ _ h1]
    rfl
  · injection e with e
    subst e
    refine ⟨h.base, ?_⟩
    have k := MapAt.made w
    rw [h.no rfl]
    obtain ⟨D, k1, k2⟩ := mapAt_same (w' := (w.alloc (.map #[] 0)).setCell ⟨l, 0, none⟩ (.map (some w.heap.size))) k (Below.heap_setCell _ _ _ _ hne)
    exact ⟨D, k1.mono (Nat.zero_le _), k2⟩
  · rw [Below.heap_setCell _ _ _ _ hl]
    exact Below.heap_alloc w _ k hk
theorem wpList_upd {ops : Array Oper} {rest : List Oper} {o : Oper} {a : Act} {Q : Exit → Act → World → Prop} {w : World} {base l n : Nat} {b : Nat} {M : Int → Pr} (h : Lk w base l (some b) n M) (hn : n < maxLen)
    (hgd : o.guard = none) (m x v : Operand) (ho : o.op = .mapUpdate 52 m x v) (k : Int) (p : Pr) (hk : -9223372036854775808 ≤ k ∧ k ≤ 9223372036854775807)
    (hm : a.eval m = .map (some b)) (hx : a.eval x = .int .i64 k) (hv : a.eval v = .agg #[.int .i64 p.nw, .int .i64 p.fe, .int .i64 p.be, .int .i64 p.re])
    (hK : ∀ w', Lk w' base l (some b) (n + 1) (put M k p) → Ch w w' l (some b) (some b) → wpList Try.prog ops Q rest (a.put o.dst undef) w') : wpList Try.prog ops Q (o :: rest) a w := by
  refine wpList_plain hgd fun K' hK' => ?_
  obtain ⟨w', hrun, r1, r2⟩ := upd h hn hk p
  unfold Oper.wp
  simp [execOp, ho, hm, hx, hv, hrun, Result.andThen]
  exact hK' _ _ (hK w' r1 r2)
set_option maxHeartbeats 1000000 in
theorem set_any (w : World) (base l n : Nat) (m : Option Nat) (M : Int → Pr) (h : Lk w base l m n M) (hn : n < maxLen) (a : Int) (ha : -9223372036854775808 ≤ a ∧ a ≤ 9223372036854775807) (p : Pr) :
    Calls Try.prog 26 #[.pointer (some ⟨l, 0, none⟩), .int .i64 a, .agg #[.int .i64 p.nw, .int .i64 p.fe, .int .i64 p.be, .int .i64 p.re]] w (Did (.tuple #[]) base l m (n + 1) (put M a p) w) := by
  have X1 := Lib.hid (pbox_new w p)
  have H1 := Lib.hid (h.below (below_one w (.cells #[.int .i64 p.nw, .int .i64 p.fe, .int .i64 p.be, .int .i64 p.re] 62)))
  have C1 := Lib.hid (Ch.below (below_one w (.cells #[.int .i64 p.nw, .int .i64 p.fe, .int .i64 p.be, .int .i64 p.re] 62)) l m)
  have HN := Lib.hid hn
  have HA := Lib.hid ha
  clear hn ha
  cases m with
  | none =>
    clear h
    have H2 := Lib.hid (made H1.out)
    have X2 := Lib.hid (show PBox (((w.alloc (.cells #[.int .i64 p.nw, .int .i64 p.fe, .int .i64 p.be, .int .i64 p.re] 62)).alloc (.map #[] 0)).setCell ⟨l, 0, none⟩ (.map (some (w.heap.size + 1)))) w.heap.size p from by have := H2.out.2.kept H1.out X1.out (by decide); unfold PBox; simpa using this)
    have H3 := Lib.hid (show Lk (((w.alloc (.cells #[.int .i64 p.nw, .int .i64 p.fe, .int .i64 p.be, .int .i64 p.re] 62)).alloc (.map #[] 0)).setCell ⟨l, 0, none⟩ (.map (some (w.heap.size + 1)))) base l (some (w.heap.size + 1)) n M from by have := H2.out.1; simpa using this)
    have C3 := Lib.hid (show Ch w (((w.alloc (.cells #[.int .i64 p.nw, .int .i64 p.fe, .int .i64 p.be, .int .i64 p.re] 62)).alloc (.map #[] 0)).setCell ⟨l, 0, none⟩ (.map (some (w.heap.size + 1)))) l none (some (w.heap.size + 1)) from C1.out.trans (by have := H2.out.2; simpa using this))
    have H4 := Lib.hid (H1.out.below (below_one _ (.map #[] 0)))
    clear H2
    have hc := H1.out.cell
    have hf := H1.out.free
    have hc4 := H4.out.cell
    have hf4 := H4.out.free
    have hq : ∀ w, (binOp .eql 52 (.map none) (.map none)).run Try.prog w = .ok (.bool true) w := fun w => eq_nil none w
    have hmm := @run_makeMap Try.prog
    go_enter Try.func26, Try.ntmps26
    go_wp2_with fail
    clear hc hf hc4 hf4 hmm
    generalize hW : World.setCell _ _ _ = w3 at *
    clear hW
    have hc := H3.out.cell
    obtain ⟨c0, c1, c2, c3⟩ := pbox_cells X2.out
    go_still_tail 6, (by kernel_rfl)
    refine wpList_upd (H3.out.drewN (c := 1)) HN.out rfl _ _ _ rfl a p HA.out rfl rfl rfl ?_
    intro w4 h4 h5
    have D := Lib.hid (show Did (.tuple #[]) base l none (n + 1) (put M a p) w (.returned (.tuple #[])) w4 from ⟨rfl, _, h4, C3.out.trans ((Ch.refl _ _ _).drewN.trans h5)⟩)
    clear h4 h5
    go_wp2_with fail
    go_end0
    exact D.out
  | some b =>
    clear h
    have hc := H1.out.cell
    have hq : ∀ w, (binOp .eql 52 (.map (some b)) (.map none)).run Try.prog w = .ok (.bool false) w := fun w => eq_nil (some b) w
    obtain ⟨c0, c1, c2, c3⟩ := pbox_cells X1.out
    go_enter Try.func26, Try.ntmps26
    go_wp2_with fail
    clear hc hq c0 c1 c2 c3
    generalize hW : World.alloc _ _ = w3 at *
    clear hW
    have hc := H1.out.cell
    obtain ⟨c0, c1, c2, c3⟩ := pbox_cells X1.out
    go_still_tail 6, (by kernel_rfl)
    refine wpList_upd (H1.out.drewN (c := 1)) HN.out rfl _ _ _ rfl a p HA.out rfl rfl rfl ?_
    intro w4 h4 h5
    have D := Lib.hid (show Did (.tuple #[]) base l (some b) (n + 1) (put M a p) w (.returned (.tuple #[])) w4 from ⟨rfl, _, h4, C1.out.trans ((Ch.refl _ _ _).drewN.trans h5)⟩)
    clear h4 h5
    go_wp2_with fail
    go_end0
    exact D.out
end Go.Proofs.Ytgbbmhdkhhchhaa
