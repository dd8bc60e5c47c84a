/-
  A loop over a function that calls its body once for each element, where more is known of each element in the world in which it is handed over, and where no round is left by a jump. No statement is proved in this text; it speaks of any program.
  For a seat: put the seat's Name for Ytofanciaacdjfaa.
-/
import Derived.RangeFuncNested
import Derived.RangeFuncBound
import Derived.RangeFuncCalls
import Derived.RangeFuncLeaves
import Derived.RangeFuncFrom
import Derived.OwnWalkIn
import Derived.Lib.Hide
namespace Go.Proofs.Ytofanciaacdjfaa
open Go Go.RowKit
/-- What is kept between two marks. -/
def Span (lo hi : Nat) (w w' : World) : Prop := w.heap.size ≤ w'.heap.size ∧ ∀ k, lo ≤ k → k < hi → w'.heap[k]? = w.heap[k]?
theorem Span.refl (lo hi : Nat) (w : World) : Span lo hi w w := ⟨Nat.le_refl _, fun _ _ _ => rfl⟩
theorem Span.trans {lo hi : Nat} {a b c : World} (h : Span lo hi a b) (k : Span lo hi b c) : Span lo hi a c := ⟨Nat.le_trans h.1 k.1, fun i h1 h2 => (k.2 i h1 h2).trans (h.2 i h1 h2)⟩
theorem span_below {lo hi : Nat} {w w' : World} (hb : Below w.heap.size w w') (h : hi ≤ w.heap.size) : Span lo hi w w' := ⟨hb.size, fun k _ hk => hb.block k (by omega)⟩
variable {P : Program} {α : Type}
/-- An iterator: whatever is to be held between two rounds (J: of the mark behind its own memory, and of what has come), it hands over elements of which Pr is true, and at its end S is true of all that came. -/
def EachSeq (P : Program) (gf : Nat) (lb : Array Value) (encs : α → Array Value) (Pr : α → World → Prop) (S : List α → Prop) (N b0 : Nat) (w : World) : Prop :=
  ∀ (l : Nat) (J : Nat → List α → World → Prop) (W : World), Below w.heap.size w W →
    (∀ hi W', W.heap.size ≤ hi → Below W.heap.size W W' → J hi [] W') →
    (∀ hi pre A B, J hi pre A → Below A.heap.size A B → J hi pre B) →
    (∀ hi pre x A, W.heap.size ≤ hi → hi ≤ A.heap.size → J hi pre A → Pr x A → pre.length < N →
      YieldAt Fence.wide 0 P l (encs x) A fun e B => e = .returned (.bool true) ∧ J hi (pre ++ [x]) B ∧ Below b0 A B ∧ Span W.heap.size hi A B) →
    CallsIn Fence.wide 0 P gf (#[.func (.yield l) #[] #[]] ++ lb) W fun e B => (∃ v, e = .returned v) ∧ ∃ hi xs, S xs ∧ J hi xs B ∧ Below b0 W B
/-- What a round's two parts keep: L is the loop's record, D the block for deferred calls. -/
def KeepsE (b0 lo hi D : Nat) (A B : World) : Prop := Below b0 A B ∧ Span lo hi A B ∧ B.heap[D]? = A.heap[D]?
/-- How a round ends. -/
def eachPost (b0 lo hi L D : Nat) (I : World → Prop) (C : World) : Exit → Act → World → Prop
  | .normal, _, E => KeepsE b0 lo hi D C E ∧ E.heap[L]? = C.heap[L]? ∧ I E
  | _, _, _ => False
theorem wp_each {g : Operand} {ps : Array Tmp} {assign body : Code} {Q : Exit → Act → World → Prop} {a : Act} {w : World} {gf : Nat} {lb : Array Value} (hg : a.eval g = .func (.func gf) #[] lb)
    (eg : ∀ args w, (callFunc gf args).run P w = .ok (.enter gf args) w) {encs : α → Array Value} {Pr : α → World → Prop} {S : List α → Prop} {N b0 : Nat} (hseq : EachSeq P gf lb encs Pr S N b0 w) (hps : ∀ x, (encs x).size = ps.size) (hb0 : b0 ≤ w.heap.size)
    (I : Nat → List α → World → Prop)
    (h0 : ∀ hi W, w.heap.size + 2 ≤ hi → Below w.heap.size w W → I hi [] W)
    (hI : ∀ hi pre A B, I hi pre A → A.grownBy B (some (w.heap.size + 1)) → I hi pre B)
    (hround : ∀ hi pre x A, w.heap.size + 2 ≤ hi → hi ≤ A.heap.size → I hi pre A → Pr x A → pre.length < N → (∃ r, A.heap[w.heap.size + 1]? = some (.loop r)) →
      assign.wpIn (Fence.wide.inRound (w.heap.size + 1)) 0 P
        (Exit.then (fun a1 B => KeepsE b0 (w.heap.size + 2) hi w.heap.size A B ∧ B.heap[w.heap.size + 1]? = A.heap[w.heap.size + 1]? ∧
            ∀ C, B.grownBy C (some (w.heap.size + 1)) → body.wpIn (Fence.wide.inRound (w.heap.size + 1)) 0 P (eachPost b0 (w.heap.size + 2) hi (w.heap.size + 1) w.heap.size (I hi (pre ++ [x])) C) a1 C)
          (fun _ _ _ => False)) { tmps := (ps.zip (encs x)).foldl (fun t (p, v) => t.setIfInBounds p v) a.tmps, defers := [] } A)
    (hdone : ∀ hi xs W, S xs → I hi xs W → Below b0 w W → W.heap[w.heap.size]? = some (.deferred (some [])) → Q .normal { a with defers := { target := .collected w.heap.size, args := #[] } :: a.defers } W) :
    (Code.rangeFunc g ps assign body).wpIn Fence.wide 0 P Q a w := by
  refine wpIn_rangeFunc ?_
  intro fn _
  obtain ⟨r0, hr0⟩ : ∃ r : Loop, r = { state := .ready, pending := none, fn, tmps := a.tmps, params := ps, assign, body, defers := w.heap.size } := ⟨_, rfl⟩
  have hend : ({ { r0 with state := .busy } with state := .ready, pending := none } : Loop) = r0 := by rw [hr0]
  obtain ⟨W1, hW1⟩ : ∃ W1, (w.alloc (.deferred (some []))).alloc (.loop r0) = W1 := ⟨_, rfl⟩
  have hs1 : W1.heap.size = w.heap.size + 2 := by rw [← hW1]; simp
  have hL1 : W1.heap[w.heap.size + 1]? = some (.loop r0) := by
    rw [← hW1]
    have := World.alloc_heap_new (w.alloc (.deferred (some []))) (.loop r0)
    rwa [World.size_alloc] at this
  have hD1 : W1.heap[w.heap.size]? = some (.deferred (some [])) := by
    rw [← hW1]
    exact (Below.heap_alloc _ _ _ (by simp)).trans (World.alloc_heap_new w _)
  have hb1 : Below w.heap.size w W1 := by
    rw [← hW1]
    exact ((Below.refl _ w).alloc (Nat.le_refl _) _).alloc (by simp) _
  have put : ∀ (A : World) (o : Obj), w.heap.size + 1 < A.heap.size → A.grownBy (A.putObj (w.heap.size + 1) o) (some (w.heap.size + 1)) := fun A o _ => grownBy_putObj' A _ o
  have putK : ∀ (A : World) (o : Obj) (hi : Nat), w.heap.size + 1 < A.heap.size → KeepsE b0 (w.heap.size + 2) hi w.heap.size A (A.putObj (w.heap.size + 1) o) := fun A o hi h => by
    have hp := put A o h
    refine ⟨(Below.refl b0 A).grown hp (by omega) (fun k e => by cases e; omega), ⟨hp.size, fun k h1 _ => ?_⟩, World.putObj_heap_other (by omega)⟩
    exact World.putObj_heap_other (by omega)
  refine ⟨w.heap.size + 1, [{ target := .collected w.heap.size, args := #[] }], W1, { target := .fn (.func gf) lb, args := #[.func (.yield (w.heap.size + 1)) #[] #[]] }, W1, gf,
    #[.func (.yield (w.heap.size + 1)) #[] #[]] ++ lb, W1, ?_, ?_, ?_, ?_, (fun h => by simp [Fence.wide] at h), ?_⟩
  · rw [← hW1, hr0]
    exact run_enterLoop_outer _ _ _ _ _
  · simp only [resolve, hg]
    simp [go_sem]
  · exact fun _ _ => trivial
  · simp [invoke, go_sem, eg]
  · refine (hseq (w.heap.size + 1) (fun hi pre W => I hi pre W ∧ W.heap[w.heap.size + 1]? = some (.loop r0) ∧ W.heap[w.heap.size]? = some (.deferred (some []))) W1 hb1 ?_ ?_ ?_).mono ?_
    · intro hi W' hhi hb
      rw [hs1] at hhi
      refine ⟨h0 hi W' hhi (hb1.trans (hb.mono (by omega))), ?_, ?_⟩
      · rw [hb.block _ (by omega)]; exact hL1
      · rw [hb.block _ (by omega)]; exact hD1
    · rintro hi pre A B ⟨h1, h2, h3⟩ hb
      have hlt : w.heap.size + 1 < A.heap.size := (Array.getElem?_eq_some_iff.1 h2).1
      refine ⟨hI hi pre A B h1 ⟨hb.os, hb.tape, hb.output, hb.size, fun k hk _ => hb.block k hk⟩, ?_, ?_⟩
      · rw [hb.block _ hlt]; exact h2
      · rw [hb.block _ (by omega)]; exact h3
    · rintro hi pre x A hhi hA ⟨hi1, hl, hd⟩ hp hN
      rw [hs1] at hhi
      have hlt : w.heap.size + 1 < A.heap.size := (Array.getElem?_eq_some_iff.1 hl).1
      have hy := run_yield (P := P) (args := encs x) hl (by rw [hr0]; exact hps x)
      refine ⟨r0.fn, _, r0.assign, r0.body, hy, roundIn_of_wpIn trivial ?_⟩
      have hr := hround hi pre x A hhi hA hi1 hp hN ⟨_, hl⟩
      rw [show r0.assign = assign by rw [hr0], show r0.body = body by rw [hr0], show r0.params = ps by rw [hr0], show r0.tmps = a.tmps by rw [hr0]]
      refine wpIn_mono hr ?_
      rintro e a1 B hpost
      cases e with
      | normal =>
        obtain ⟨⟨kb1, ks1, kd1⟩, hl1, hbody⟩ := hpost
        have hlB : B.heap[w.heap.size + 1]? = some (.loop r0) := hl1.trans hl
        have hltB : w.heap.size + 1 < B.heap.size := (Array.getElem?_eq_some_iff.1 hlB).1
        refine ⟨_, run_beginRound hlB (by rw [hr0]), ?_⟩
        refine wpIn_mono (hbody _ (put B _ hltB)) ?_
        obtain ⟨kb2, ks2, kd2⟩ := putK B (.loop { r0 with state := .busy }) hi hltB
        rintro e2 a2 E hpost2
        cases e2 with
        | normal =>
          obtain ⟨⟨kb3, ks3, kd3⟩, hl3, hiE⟩ := hpost2
          have hlE : E.heap[w.heap.size + 1]? = some (.loop { r0 with state := .busy }) := hl3.trans (World.putObj_heap_same hltB)
          have hltE : w.heap.size + 1 < E.heap.size := (Array.getElem?_eq_some_iff.1 hlE).1
          have her := run_endRound (P := P) none hlE
          have hrec : ({ { r0 with state := .busy } with state := if (none : Option Code).isNone then .ready else .done, pending := none } : Loop) = r0 := hend
          rw [hrec] at her
          obtain ⟨kb4, ks4, kd4⟩ := putK E (.loop r0) hi hltE
          refine ⟨_, _, her, rfl, ⟨hI hi _ E _ hiE (put E _ hltE), World.putObj_heap_same hltE, ?_⟩, ((kb1.trans kb2).trans kb3).trans kb4, ?_⟩
          · rw [kd4, kd3, kd2, kd1]; exact hd
          · rw [hs1]; exact ((ks1.trans ks2).trans ks3).trans ks4
        | ret => exact hpost2.elim
        | exit id => exact hpost2.elim
        | goto t => exact hpost2.elim
        | panic ch => exact hpost2.elim
        | outgrown => exact hpost2.elim
      | ret => exact hpost.elim
      | exit id => exact hpost.elim
      | goto t => exact hpost.elim
      | panic ch => exact hpost.elim
      | outgrown => exact hpost.elim
    · rintro e W2 ⟨⟨v, rfl⟩, hi, xs, hS, ⟨hi1, hl, hd⟩, hb⟩
      have hlt : w.heap.size + 1 < W2.heap.size := (Array.getElem?_eq_some_iff.1 hl).1
      have hle := run_endLoop (P := P) hl (by rw [hr0]; simp)
      have hpn : r0.pending = none := by rw [hr0]
      rw [hpn] at hle
      refine ⟨none, _, hle, ?_⟩
      obtain ⟨kb, _, kd⟩ := putK W2 (.loop { r0 with state := .exhausted, pending := none }) 0 hlt
      exact hdone hi xs _ hS (hI hi xs W2 _ hi1 (put W2 _ hlt)) (((hb1.mono hb0).trans hb).trans kb) (kd.trans hd)
end Go.Proofs.Ytofanciaacdjfaa
