/-
  A loop over a function that hands over elements in some order, all of them. No statement is proved in this text; it speaks of any program.
-/
import Derived.RangeFuncNested
import Derived.RangeFuncBound
import Derived.RangeFuncCalls
import Derived.RangeFuncLeaves
import Derived.RangeFuncFrom
import Derived.RangeFuncGives
import Derived.OwnWalkIn
import Derived.Lib.Hide
namespace Go.Proofs.Ytkoeplgkiogjlaa
open Go Go.RowKit
variable {P : Program} {α : Type}
/-- How a round ends. -/
def givePost (L D : Nat) (C : World) (I : World → Prop) : Exit → Act → World → Prop
  | .normal, _, E => E.heap[D]? = C.heap[D]? ∧ E.heap[L]? = C.heap[L]? ∧ I E ∧ KeepsWalks C E
  | _, _, _ => False
theorem wp_gives {g : Operand} {ps : Array Tmp} {assign body : Code} {Q : Exit → Act → World → Prop} {a : Act} {w w00 : World} {gf : Nat} {lb : Array Value} (hg : a.eval g = .func (.func gf) #[] lb)
    (eg : ∀ args w, (callFunc gf args).run P w = .ok (.enter gf args) w) {enc : α → Value} {S : List α → Prop} {N : Nat} (hseq : SeqGives Fence.wide 1 P gf lb enc S N w00) (hw00 : Below w00.heap.size w00 w) (hps : ps.size = 1)
    (I : List α → World → Prop)
    (h0 : ∀ W, w.heap.size + 2 ≤ W.heap.size → Below w.heap.size w W → I [] W)
    (hI : ∀ pre A B row, I pre A → A.grownBy B row → (∀ r, row = some r → r = w.heap.size + 1 ∨ (w.heap.size + 2 ≤ r ∧ ∃ o : Obj, A.heap[r]? = some o ∧ o.isWalk = true)) → I pre B)
    (hround : ∀ pre x A, pre.length < N → I pre A → w.heap.size + 2 ≤ A.heap.size → (∃ r, A.heap[w.heap.size + 1]? = some (.loop r)) →
      assign.wpIn (Fence.wide.inRound (w.heap.size + 1)) 0 P
        (Exit.then (fun a1 B => B.heap[w.heap.size]? = A.heap[w.heap.size]? ∧ B.heap[w.heap.size + 1]? = A.heap[w.heap.size + 1]? ∧ KeepsWalks A B ∧
            ∀ C, B.grownBy C (some (w.heap.size + 1)) → body.wpIn (Fence.wide.inRound (w.heap.size + 1)) 0 P (givePost (w.heap.size + 1) w.heap.size C (I (pre ++ [x]))) a1 C)
          (fun _ _ _ => False)) { tmps := (ps.zip #[enc x]).foldl (fun t (p, v) => t.setIfInBounds p v) a.tmps, defers := [] } A)
    (hdone : ∀ xs W, S xs → xs.length ≤ N → I xs W → W.heap[w.heap.size]? = some (.deferred (some [])) → Q .normal { a with defers := { target := .collected w.heap.size, args := #[] } :: a.defers } W) :
    (Code.rangeFunc g ps assign body).wpIn Fence.wide 0 P Q a w := by
  refine wpIn_rangeFunc ?_
  intro fn _
  obtain ⟨rec, hrec⟩ : ∃ rec : LoopState → Option Code → Loop, rec = fun st pe => { state := st, pending := pe, fn, tmps := a.tmps, params := ps, assign, body, defers := w.heap.size } := ⟨_, rfl⟩
  obtain ⟨W1, hW1⟩ : ∃ W1, (w.alloc (.deferred (some []))).alloc (.loop (rec .ready none)) = W1 := ⟨_, rfl⟩
  have hs1 : W1.heap.size = w.heap.size + 2 := by rw [← hW1]; simp
  have hL1 : W1.heap[w.heap.size + 1]? = some (.loop (rec .ready none)) := by
    rw [← hW1]
    have := World.alloc_heap_new (w.alloc (.deferred (some []))) (.loop (rec .ready none))
    rwa [World.size_alloc] at this
  have hD1 : W1.heap[w.heap.size]? = some (.deferred (some [])) := by
    rw [← hW1]
    exact (Below.heap_alloc _ _ _ (by simp)).trans (World.alloc_heap_new w _)
  have hb1 : Below w.heap.size w W1 := by
    rw [← hW1]
    exact ((Below.refl _ w).alloc (Nat.le_refl _) _).alloc (by simp) _
  have put : ∀ (A : World) (o : Obj), A.grownBy (A.putObj (w.heap.size + 1) o) (some (w.heap.size + 1)) := fun A o => grownBy_putObj' A _ o
  have keepI : ∀ pre (A : World) (o : Obj), I pre A → I pre (A.putObj (w.heap.size + 1) o) := fun pre A o h => hI pre A _ _ h (put A o) (fun r e => .inl (by injection e with e; exact e.symm))
  refine ⟨w.heap.size + 1, [{ target := .collected w.heap.size, args := #[] }], W1, { target := .fn (.func gf) lb, args := #[.func (.yield (w.heap.size + 1)) #[] #[]] }, W1, gf,
    #[.func (.yield (w.heap.size + 1)) #[] #[]] ++ lb, W1, ?_, ?_, ?_, ?_, (fun h => by simp [Fence.wide] at h), ?_⟩
  · rw [← hW1, hrec]
    exact run_enterLoop_outer _ _ _ _ _
  · simp only [resolve, hg]
    simp [go_sem]
  · exact fun _ _ => trivial
  · simp [invoke, go_sem, eg]
  · refine ((callsIn_wide (n := 0)).2 ((callsIn_wide (n := 1)).1 (hseq.bounded (w.heap.size + 1) (fun pre W => w.heap.size + 2 ≤ W.heap.size ∧ W.heap[w.heap.size]? = some (.deferred (some [])) ∧ I pre W ∧ W.heap[w.heap.size + 1]? = some (.loop (rec .ready none))) W1 (hw00.trans (hb1.mono hw00.size)) ?_ ?_ ⟨by omega, hD1, h0 W1 (by omega) hb1, hL1⟩))).mono ?_
    · rintro pre A B row ⟨hs, hd, hi, hl⟩ hgr hrow
      have hne : ∀ k, k < w.heap.size + 2 → some k ≠ row := fun k hk e => by have := (hrow k e.symm).1; omega
      exact ⟨Nat.le_trans hs hgr.size, (hgr.block _ (by omega) (hne _ (by omega))).trans hd, hI pre A B row hi hgr (fun r e => .inr ⟨by have := (hrow r e).1; omega, (hrow r e).2⟩), (hgr.block _ (by omega) (hne _ (by omega))).trans hl⟩
    · rintro pre x A ⟨hs, hd, hi, hl⟩ hN
      have hy := run_yield (P := P) (args := #[enc x]) hl (by rw [hrec]; simp [hps])
      rw [hrec] at hy
      refine ⟨fn, _, assign, body, hy, roundIn_of_wpIn trivial ?_⟩
      have hr := hround pre x A hN hi hs ⟨_, hl⟩
      refine wpIn_mono hr ?_
      rintro e a1 B hpost
      cases e with
      | normal =>
        obtain ⟨kd1, hl1, hkw, hbody⟩ := hpost
        have hlB : B.heap[w.heap.size + 1]? = some (.loop (rec .ready none)) := hl1.trans hl
        have hltB : w.heap.size + 1 < B.heap.size := (Array.getElem?_eq_some_iff.1 hlB).1
        refine ⟨_, run_beginRound hlB (by rw [hrec]), ?_⟩
        refine wpIn_mono (hbody _ (put B _)) ?_
        have hkw2 := hkw.trans (KeepsWalks.putObj (W := B) (r := w.heap.size + 1) (.loop { rec .ready none with state := .busy }) hlB rfl)
        have hC1 : (B.putObj (w.heap.size + 1) (.loop { rec .ready none with state := .busy })).heap[w.heap.size + 1]? = some (.loop { rec .ready none with state := .busy }) := World.putObj_heap_same hltB
        have hC2 : (B.putObj (w.heap.size + 1) (.loop { rec .ready none with state := .busy })).heap[w.heap.size]? = some (.deferred (some [])) := (World.putObj_heap_other (by omega)).trans (kd1.trans hd)
        rintro e2 a2 E hpost2
        cases e2 with
        | normal =>
          obtain ⟨kd3, hl3, hiE, hkw3⟩ := hpost2
          have hl4 := hl3.trans hC1
          have hk4 := kd3.trans hC2
          have hr2 := run_endRound (P := P) none hl4
          have hlt3 := (Array.getElem?_eq_some_iff.1 hl4).1
          have hsz := (put E (.loop (rec .ready none))).size
          have hkw4 := (hkw2.trans hkw3).trans (KeepsWalks.putObj (W := E) (r := w.heap.size + 1) (.loop (rec .ready none)) hl4 rfl)
          rw [hrec] at hr2 hkw4 hsz ⊢
          refine ⟨_, _, hr2, rfl, ⟨?_, (World.putObj_heap_other (by omega)).trans hk4, keepI _ E _ hiE, World.putObj_heap_same hlt3⟩, hkw4⟩
          exact Nat.le_trans (by omega) hsz
        | ret => exact hpost2.elim
        | exit id => exact hpost2.elim
        | goto t => exact hpost2.elim
        | panic ch => exact hpost2.elim
        | outgrown => exact hpost2.elim
      | ret => exact hpost.elim
      | exit id => exact hpost.elim
      | goto t => exact hpost.elim
      | panic ch => exact hpost.elim
      | outgrown => exact hpost.elim
    · rintro e W2 ⟨⟨v, rfl⟩, xs, ⟨hS, hlen⟩, hs, hd, hi, hl⟩
      have hle := run_endLoop (P := P) hl (by rw [hrec]; simp)
      have hpn : (rec .ready none).pending = none := by rw [hrec]
      rw [hpn] at hle
      exact ⟨none, _, hle, hdone xs _ hS hlen (keepI _ W2 _ hi) ((World.putObj_heap_other (by omega)).trans hd)⟩
end Go.Proofs.Ytkoeplgkiogjlaa
