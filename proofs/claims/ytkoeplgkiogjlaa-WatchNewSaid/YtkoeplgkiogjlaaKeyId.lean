/-
  The keys of a map by IDs: the iterator that maps.Keys answers. No statement is proved in this text.
-/
import Derived.Test.YtkoeplgkiogjlaaMapId
import Derived.Shelf.AbstractIn
import Derived.RangeFuncSeq
import Derived.RangeFuncGives
import Derived.Sort.MapsRangeIn
import Derived.WalkKit
import Derived.OwnWalkIn
import Derived.TacticsInMore
import Derived.RegionIn
import Derived.LoopNIn
import Derived.LoopIn
set_option maxRecDepth 20000
namespace Go.Proofs.Ytkoeplgkiogjlaa
open Go Go.RowKit Go.Maps
/-- The IDs that have come, each once; 'left' are those that M holds besides. -/
structure CameI {V : Type} (M : Int × Int → Option V) (left : Int × Int → Bool) (ps : List (Int × Int)) : Prop where
  nodup : ps.Nodup
  in2 : ∀ p ∈ ps, In2 p
  left : ∀ p, In2 p → left p = ((M p).isSome && !decide (p ∈ ps))
  mem : ∀ p ∈ ps, (M p).isSome = true
theorem CameI.start {V : Type} (M : Int × Int → Option V) : CameI M (fun p => (M p).isSome) [] := ⟨List.nodup_nil, by simp, by simp, by simp⟩
theorem CameI.step {V : Type} {M : Int × Int → Option V} {left : Int × Int → Bool} {ps : List (Int × Int)} (h : CameI M left ps) {p : Int × Int} (hp : In2 p) (hl : left p = true) (hM : (M p).isSome = true) : CameI M (offI left p) (ps ++ [p]) := by
  have hn : p ∉ ps := by
    have := h.left p hp
    rw [hl] at this
    simp at this
    exact this.2
  refine ⟨?_, ?_, ?_, ?_⟩
  · rw [List.nodup_append]
    exact ⟨h.nodup, by simp, fun a ha b hb => by simp at hb; subst hb; exact fun e => hn (e ▸ ha)⟩
  · intro q hq
    rcases List.mem_append.1 hq with h1 | h1
    · exact h.in2 q h1
    · simp at h1; subst h1; exact hp
  · intro q hq
    simp only [offI, h.left q hq]
    by_cases e : q = p
    · subst e; simp
    · by_cases h2 : q ∈ ps <;> simp [e, h2]
  · intro q hq
    rcases List.mem_append.1 hq with h1 | h1
    · exact h.mem q h1
    · simp at h1; subst h1; exact hM
/-- The keys of M: each once. -/
def KeysI {V : Type} (M : Int × Int → Option V) (ps : List (Int × Int)) : Prop := ps.Nodup ∧ (∀ p ∈ ps, In2 p) ∧ ∀ p, In2 p → (p ∈ ps ↔ (M p).isSome = true)
theorem CameI.done {V : Type} {M : Int × Int → Option V} {left : Int × Int → Bool} {ps : List (Int × Int)} (h : CameI M left ps) (hl : ∀ p, In2 p → left p = false) : KeysI M ps := by
  refine ⟨h.nodup, h.in2, fun p hp => ⟨h.mem p, fun hM => ?_⟩⟩
  have := h.left p hp
  rw [hl p hp, hM] at this
  simpa using this
theorem RngI.of_walks {V : Type} {E : El V} {w w' : World} {b r n cnt : Nat} {M : Int × Int → Option V} {left : Int × Int → Bool} (h : RngI E w b r n M left cnt) (hk : KeepsWalks w w') : RngI E w' b r n M left cnt := by
  obtain ⟨D, lf, h1, h2⟩ := h
  exact ⟨D, lf, h1.of_walks hk, h2⟩
theorem RngI.iter_walk {V : Type} {E : El V} {w : World} {b r n cnt : Nat} {M : Int × Int → Option V} {left : Int × Int → Bool} (h : RngI E w b r n M left cnt) : ∃ o : Obj, w.heap[r]? = some o ∧ o.isWalk = true := by
  obtain ⟨D, lf, h1, h2⟩ := h
  exact h1.iter_walk
theorem RngI.left_eq {V : Type} {E : El V} {w : World} {b r n cnt : Nat} {M : Int × Int → Option V} {left : Int × Int → Bool} (h : RngI E w b r n M left cnt) : w.rangeLeft b r = cnt := by
  obtain ⟨D, lf, h1, h2⟩ := h
  exact h1.left_eq
set_option maxHeartbeats 1000000 in
theorem keysI_in {V : Type} {E : El V} {M : Int × Int → Option V} (F : Fence) (n : Nat) (hf : F.fn 57) (hro : F.round = none) (hn : 1 ≤ n) (l Bm b nn : Nat) (J : List (Int × Int) → World → Prop)
    (hY : ∀ pre x W, J pre W → pre.length < nn → YieldAt F (n - 1) Try.prog l #[idv x] W fun e W' => e = .returned (.bool true) ∧ J (pre ++ [x]) W' ∧ KeepsWalks W W')
    (W : World) (hJ : AbidesFrom W.heap.size J) (hm : W.cell? ⟨Bm, 0, none⟩ = some (.map (some b))) (hown : MapI E W b nn M) (h0 : J [] W) :
    CallsIn F n Try.prog 57 #[.func (.yield l) #[] #[], .pointer (some ⟨Bm, 0, none⟩)] W fun e W' => (∃ v, e = .returned v) ∧ ∃ ps : List (Int × Int), KeysI M ps ∧ J ps W' := by
  refine callsIn_of_wp Try.func57 rfl hf ?_ hro
  simp only [Try.ntmps57, List.size_toArray, List.length_cons, List.length_nil, Nat.reduceAdd, Nat.reduceSub, Array.replicate_succ, Array.replicate_zero, List.push_toArray, List.append_toArray, List.nil_append, List.cons_append]
  gi_wp2_with (first
    | (gi_at_range; refine wpListIn_range_id _ rfl _ rfl Try.underlying55 hown rfl ?_; intro w0 c0 hrg0 hc0 hg0 hs0)
    | gi_in)
  go_frame
  gi_loopw [3, 6, 7, 8, 9, 10, 11, 12, 13] (fun _ _ _ _ _ _ _ _ _ wr => ∃ (left : Int × Int → Bool) (cnt : Nat) (ps : List (Int × Int)), RngI E wr b W.heap.size nn M left cnt ∧ W.heap.size + 1 ≤ wr.heap.size ∧ ps.length + cnt ≤ nn ∧ CameI M left ps ∧ J ps wr)
    (fun _ _ _ _ _ _ _ _ _ wr => wr.rangeLeft b W.heap.size)
  case atStart =>
    exact ⟨_, _, [], hrg0, by omega, by simpa using hc0, CameI.start M, hJ [] W w0 none h0 hg0 (fun r e => by cases e)⟩
  case round =>
    obtain ⟨left, cnt, ps, hrg, hsz, hcs, hC, hJs⟩ := hrel
    gi_wp2_with (first
      | (gi_at_next; refine wpListIn_next_id _ rfl _ rfl hrg rfl ?_ ?_)
      | gi_in)
    · intro hc0 hl0
      gi_wp2
      go_end0
      exact ⟨⟨_, rfl⟩, ps, hC.done (fun p hp => hl0 p.1 p.2 hp), hJs⟩
    · intro p1 p2 c w2 cnt2 hp hlk hM hrg2 hlt hg2 hs2 hen
      have hJ2 : J ps w2 := hJ ps wr w2 (some W.heap.size) hJs hg2 (fun r e => by cases e; exact ⟨Nat.le_refl _, hrg.iter_walk⟩)
      have ga : w2.grownBy (w2.alloc (.cells #[.int .i64 p1, .int .i64 p2] 35)) none := World.grownBy_alloc _ _ _
      have hJ3 := hJ ps w2 _ none hJ2 ga (fun r e => by cases e)
      obtain ⟨fn, tmps, assign, body, hy, hR⟩ := hY ps (p1, p2) _ hJ3 (by omega)
      have hrg3 := hrg2.of_walks (KeepsWalks.alloc w2 (.cells #[.int .i64 p1, .int .i64 p2] 35))
      simp only [idv] at hen hy
      have hsw : w2.heap.size = wr.heap.size := hs2
      clear hs2
      gi_wp2
      refine hR.mono ?_
      rintro e W3 ⟨rfl, hJ4, hk3⟩
      have hrg4 := hrg3.of_walks hk3
      have hsz4 := hk3.size
      gi_wp2
      go_roundw
      case rel => exact ⟨_, cnt2, ps ++ [(p1, p2)], hrg4, by simp at hsz4; omega, by simp; omega, hC.step hp hlk (by rw [hM]; rfl), hJ4⟩
      case measure => rw [hrg4.left_eq, hrg.left_eq]; exact hlt
theorem keysI_gives {V : Type} {E : El V} {M : Int × Int → Option V} (F : Fence) (n : Nat) (hf : F.fn 57) (hro : F.round = none) (hn : 1 ≤ n) (Bm b nn : Nat) (w : World) (hBm : Bm < w.heap.size) (hm : w.cell? ⟨Bm, 0, none⟩ = some (.map (some b))) (hown : MapI E w b nn M) :
    SeqGives F n Try.prog 57 #[.pointer (some ⟨Bm, 0, none⟩)] idv (KeysI M) nn w := fun l J W hW hJ hY h0 =>
  keysI_in F n hf hro hn l Bm b nn J hY W hJ ((hW.cell (p := ⟨Bm, 0, none⟩) hBm).trans hm) (hown.same (hW.block b hown.lt)) h0
end Go.Proofs.Ytkoeplgkiogjlaa
