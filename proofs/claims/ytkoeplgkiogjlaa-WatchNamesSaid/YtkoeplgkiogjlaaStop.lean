/-
  Carried over: contracts of this program's functions. No statement is proved in this text.
-/
import Derived.RangeFuncNested
import Derived.RangeFuncBound
import Derived.RangeFuncCalls
import Derived.RangeFuncLeaves
import Derived.RangeFuncFrom
import Derived.OwnWalkIn
import Derived.Lib.Hide
set_option maxRecDepth 20000
namespace Go.Proofs.Ytkoeplgkiogjlaa
open Go Go.RowKit
variable {P : Program} {α : Type}
/-- An iterator over the list xs: whatever is to be held between two rounds (J true: more is wanted; J false: no more) of what has come, as long as Rd stands it hands over one element of xs behind the other, while more is wanted. -/
def StopSeq (P : Program) (gf : Nat) (lb : Array Value) (encs : α → Array Value) (xs : List α) (Rd : World → Prop) : Prop :=
  ∀ (l : Nat) (J : Bool → List α → World → Prop) (W : World), J true [] W →
    (∀ b pre A B, J b pre A → Below A.heap.size A B → J b pre B) → (∀ b pre A, J b pre A → Rd A) →
    (∀ pre x suf A, xs = pre ++ x :: suf → J true pre A → YieldAt Fence.wide 0 P l (encs x) A fun e B => ∃ b, e = .returned (.bool b) ∧ J b (pre ++ [x]) B) →
    CallsIn Fence.wide 0 P gf (#[.func (.yield l) #[] #[]] ++ lb) W fun e B => (∃ v, e = .returned v) ∧ ∃ b pre suf, xs = pre ++ suf ∧ (b = true → suf = []) ∧ J b pre B
/-- How a round ends. -/
def stopPost (L D : Nat) (C : World) (I : World → Prop) (Ix : Code → World → Prop) : Exit → Act → World → Prop
  | .normal, _, E => E.heap[D]? = C.heap[D]? ∧ E.heap[L]? = C.heap[L]? ∧ I E
  | .exit id, _, E => E.heap[D]? = C.heap[D]? ∧ E.heap[L]? = C.heap[L]? ∧ Ix (.exit id) E
  | _, _, _ => False
theorem wp_stop {g : Operand} {ps : Array Tmp} {assign body : Code} {Q : Exit → Act → World → Prop} {a : Act} {w : World} {gf : Nat} {lb : Array Value} (hg : a.eval g = .func (.func gf) #[] lb)
    (eg : ∀ args w, (callFunc gf args).run P w = .ok (.enter gf args) w) {encs : α → Array Value} {xs : List α} {Rd : World → Prop} (hseq : StopSeq P gf lb encs xs Rd) (hps : ∀ x, (encs x).size = ps.size)
    (I : List α → World → Prop) (Ix : Code → List α → World → Prop)
    (h0 : ∀ W, w.heap.size + 2 ≤ W.heap.size → Below w.heap.size w W → I [] W)
    (hI : ∀ pre A B, I pre A → A.grownBy B (some (w.heap.size + 1)) → I pre B)
    (hIx : ∀ c pre A B, Ix c pre A → A.grownBy B (some (w.heap.size + 1)) → Ix c pre B)
    (hR : ∀ pre A, I pre A → Rd A) (hRx : ∀ c pre A, Ix c pre A → Rd A)
    (hround : ∀ pre x suf A, xs = pre ++ x :: suf → I pre A → w.heap.size + 2 ≤ A.heap.size → (∃ r, A.heap[w.heap.size + 1]? = some (.loop r)) →
      assign.wpIn (Fence.wide.inRound (w.heap.size + 1)) 0 P
        (Exit.then (fun a1 B => B.heap[w.heap.size]? = A.heap[w.heap.size]? ∧ B.heap[w.heap.size + 1]? = A.heap[w.heap.size + 1]? ∧
            ∀ C, B.grownBy C (some (w.heap.size + 1)) → body.wpIn (Fence.wide.inRound (w.heap.size + 1)) 0 P (stopPost (w.heap.size + 1) w.heap.size C (I (pre ++ [x])) (fun c => Ix c (pre ++ [x]))) a1 C)
          (fun _ _ _ => False)) { tmps := (ps.zip (encs x)).foldl (fun t (p, v) => t.setIfInBounds p v) a.tmps, defers := [] } A)
    (hdone : ∀ W, I xs W → W.heap[w.heap.size]? = some (.deferred (some [])) → Q .normal { a with defers := { target := .collected w.heap.size, args := #[] } :: a.defers } W)
    (hstop : ∀ c pre suf W, xs = pre ++ suf → Ix c pre W → W.heap[w.heap.size]? = some (.deferred (some [])) → c.wpIn Fence.wide 0 P Q { a with defers := { target := .collected w.heap.size, args := #[] } :: a.defers } W) :
    (Code.rangeFunc g ps assign body).wpIn Fence.wide 0 P Q a w := by
  refine wpIn_rangeFunc ?_
  intro fn _
  obtain ⟨rec, hrec⟩ : ∃ rec : LoopState → Option Code → Loop, rec = fun st pe => { state := st, pending := pe, fn, tmps := a.tmps, params := ps, assign, body, defers := w.heap.size } := ⟨_, rfl⟩
  obtain ⟨W1, hW1⟩ : ∃ W1, (w.alloc (.deferred (some []))).alloc (.loop (rec .ready none)) = W1 := ⟨_, rfl⟩
  have hs1 : W1.heap.size = w.heap.size + 2 := by rw [← hW1]; simp
  have hL1 : W1.heap[w.heap.size + 1]? = some (.loop (rec .ready none)) := by
    rw [← hW1]
    have := World.alloc_heap_new (w.alloc (.deferred (some []))) (.loop (rec .ready none))
    rwa [World.size_alloc] at this
  have hD1 : W1.heap[w.heap.size]? = some (.deferred (some [])) := by
    rw [← hW1]
    exact (Below.heap_alloc _ _ _ (by simp)).trans (World.alloc_heap_new w _)
  have hb1 : Below w.heap.size w W1 := by
    rw [← hW1]
    exact ((Below.refl _ w).alloc (Nat.le_refl _) _).alloc (by simp) _
  have put : ∀ (A : World) (o : Obj), A.grownBy (A.putObj (w.heap.size + 1) o) (some (w.heap.size + 1)) := fun A o => grownBy_putObj' A _ o
  refine ⟨w.heap.size + 1, [{ target := .collected w.heap.size, args := #[] }], W1, { target := .fn (.func gf) lb, args := #[.func (.yield (w.heap.size + 1)) #[] #[]] }, W1, gf,
    #[.func (.yield (w.heap.size + 1)) #[] #[]] ++ lb, W1, ?_, ?_, ?_, ?_, (fun h => by simp [Fence.wide] at h), ?_⟩
  · rw [← hW1, hrec]
    exact run_enterLoop_outer _ _ _ _ _
  · simp only [resolve, hg]
    simp [go_sem]
  · exact fun _ _ => trivial
  · simp [invoke, go_sem, eg]
  · refine (hseq (w.heap.size + 1) (fun b pre W => w.heap.size + 2 ≤ W.heap.size ∧ W.heap[w.heap.size]? = some (.deferred (some [])) ∧
        match b with
        | true => I pre W ∧ W.heap[w.heap.size + 1]? = some (.loop (rec .ready none))
        | false => ∃ c, Ix c pre W ∧ W.heap[w.heap.size + 1]? = some (.loop (rec .done (some c)))) W1 ⟨by omega, hD1, h0 W1 (by omega) hb1, hL1⟩ ?_ ?_ ?_).mono ?_
    · rintro b pre A B ⟨hs, hd, h⟩ hb
      have hg2 : A.grownBy B (some (w.heap.size + 1)) := ⟨hb.os, hb.tape, hb.output, hb.size, fun k hk _ => hb.block k hk⟩
      refine ⟨Nat.le_trans hs hb.size, (hb.block _ (by omega)).trans hd, ?_⟩
      cases b with
      | true => exact ⟨hI pre A B h.1 hg2, (hb.block _ (by omega)).trans h.2⟩
      | false =>
        obtain ⟨c, hc, hl⟩ := h
        exact ⟨c, hIx c pre A B hc hg2, (hb.block _ (by omega)).trans hl⟩
    · rintro b pre A ⟨_, _, h⟩
      cases b with
      | true => exact hR pre A h.1
      | false =>
        obtain ⟨c, hc, _⟩ := h
        exact hRx c pre A hc
    · rintro pre x suf A hx ⟨hs, hd, hi, hl⟩
      have hy := run_yield (P := P) (args := encs x) hl (by rw [hrec]; exact hps x)
      rw [hrec] at hy
      refine ⟨fn, _, assign, body, hy, roundIn_of_wpIn trivial ?_⟩
      have hr := hround pre x suf A hx hi hs ⟨_, hl⟩
      refine wpIn_mono hr ?_
      rintro e a1 B hpost
      cases e with
      | normal =>
        obtain ⟨kd1, hl1, hbody⟩ := hpost
        have hlB : B.heap[w.heap.size + 1]? = some (.loop (rec .ready none)) := hl1.trans hl
        have hltB : w.heap.size + 1 < B.heap.size := (Array.getElem?_eq_some_iff.1 hlB).1
        refine ⟨_, run_beginRound hlB (by rw [hrec]), ?_⟩
        refine wpIn_mono (hbody _ (put B _)) ?_
        have hC1 : (B.putObj (w.heap.size + 1) (.loop { rec .ready none with state := .busy })).heap[w.heap.size + 1]? = some (.loop { rec .ready none with state := .busy }) := World.putObj_heap_same hltB
        have hC2 : (B.putObj (w.heap.size + 1) (.loop { rec .ready none with state := .busy })).heap[w.heap.size]? = some (.deferred (some [])) := (World.putObj_heap_other (by omega)).trans (kd1.trans hd)
        have fin : ∀ (jump : Option Code) (W3 : World), W3.heap[w.heap.size + 1]? = some (.loop { rec .ready none with state := .busy }) → W3.heap[w.heap.size]? = some (.deferred (some [])) →
            (Instr.endRound (w.heap.size + 1) jump).run P W3 = .ok (.bool jump.isNone) (W3.putObj (w.heap.size + 1) (.loop (rec (if jump.isNone then .ready else .done) jump))) ∧
            (W3.putObj (w.heap.size + 1) (.loop (rec (if jump.isNone then .ready else .done) jump))).heap[w.heap.size + 1]? = some (.loop (rec (if jump.isNone then .ready else .done) jump)) ∧
            (W3.putObj (w.heap.size + 1) (.loop (rec (if jump.isNone then .ready else .done) jump))).heap[w.heap.size]? = some (.deferred (some [])) ∧ w.heap.size + 2 ≤ (W3.putObj (w.heap.size + 1) (.loop (rec (if jump.isNone then .ready else .done) jump))).heap.size := fun jump W3 hl3 hk3 => by
          have := run_endRound (P := P) jump hl3
          have hlt3 := (Array.getElem?_eq_some_iff.1 hl3).1
          have hsz := (put W3 (.loop (rec (if jump.isNone then .ready else .done) jump))).size
          rw [hrec] at this ⊢
          exact ⟨this, World.putObj_heap_same hlt3, (World.putObj_heap_other (by omega)).trans hk3, by rw [hrec] at hsz; omega⟩
        rintro e2 a2 E hpost2
        cases e2 with
        | normal =>
          obtain ⟨kd3, hl3, hiE⟩ := hpost2
          obtain ⟨hr2, hl4, hk4, hs4⟩ := fin none E (hl3.trans hC1) (kd3.trans hC2)
          exact ⟨_, _, hr2, true, rfl, hs4, hk4, hI _ E _ hiE (put E _), hl4⟩
        | exit id =>
          obtain ⟨kd3, hl3, hiE⟩ := hpost2
          obtain ⟨hr2, hl4, hk4, hs4⟩ := fin (some (.exit id)) E (hl3.trans hC1) (kd3.trans hC2)
          exact ⟨_, _, hr2, false, rfl, hs4, hk4, _, hIx _ _ E _ hiE (put E _), hl4⟩
        | ret => exact hpost2.elim
        | goto t => exact hpost2.elim
        | panic ch => exact hpost2.elim
        | outgrown => exact hpost2.elim
      | ret => exact hpost.elim
      | exit id => exact hpost.elim
      | goto t => exact hpost.elim
      | panic ch => exact hpost.elim
      | outgrown => exact hpost.elim
    · rintro e W2 ⟨⟨v, rfl⟩, b, pre, suf, hx, hb, hs, hd, h⟩
      cases b with
      | true =>
        obtain ⟨hi, hl⟩ := h
        have hsuf := hb rfl
        subst hsuf
        rw [List.append_nil] at hx
        subst hx
        have hle := run_endLoop (P := P) hl (by rw [hrec]; simp)
        have hpn : (rec .ready none).pending = none := by rw [hrec]
        rw [hpn] at hle
        exact ⟨none, _, hle, hdone _ (hI _ W2 _ hi (put W2 _)) ((World.putObj_heap_other (by omega)).trans hd)⟩
      | false =>
        obtain ⟨c, hc, hl⟩ := h
        have hle := run_endLoop (P := P) hl (by rw [hrec]; simp)
        have hpn : (rec .done (some c)).pending = some c := by rw [hrec]
        rw [hpn] at hle
        exact ⟨some c, _, hle, hstop c pre suf _ hx (hIx c _ W2 _ hc (put W2 _)) ((World.putObj_heap_other (by omega)).trans hd)⟩
end Go.Proofs.Ytkoeplgkiogjlaa
