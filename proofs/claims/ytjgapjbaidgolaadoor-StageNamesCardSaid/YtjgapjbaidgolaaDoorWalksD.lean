/-
  What stands while paths are followed: three captured variables, the path, the list of paths. No statement is proved in this text.
-/
import Derived.Test.YtjgapjbaidgolaaDoorWalksC
namespace Go.Proofs.YtjgapjbaidgolaaDoor
open Go.RowKit
/-- What stands: blocks B to B + 2 are the captured variables (the end, the list, the function), the path p lies in block g, the list v holds L. -/
structure St (B t : Nat) (F : Value) (g cap : Nat) (p : List Nat) (bad : Nat → Prop) (w : World) (v : Value) (vs : List Value) (L : List (List Nat)) : Prop where
  tgt : w.heap[B]? = some (.cells #[.int .u8 (t : Int)] 5 (0, 0))
  out : w.heap[B + 1]? = some (.cells #[v] 31 (0, 0))
  fn : w.heap[B + 2]? = some (.cells #[F] 39 (0, 0))
  path : Owns w (B + 3) (pth g p.length cap) p
  row : Holds w (B + 3) v vs
  each : Each w (B + 3) bad vs L
  isbad : bad g
  lt : ∀ k, bad k → k < w.heap.size
  tabs : Tabs w
  low : 2 ≤ B
/-- Nothing that was there was written but the list's variable, the path's block, and the list's. -/
structure Turn (B g : Nat) (vb : Option Nat) (w w' : World) : Prop where
  os : w'.os = w.os
  tape : w'.tape = w.tape
  output : w'.output = w.output
  size : w.heap.size ≤ w'.heap.size
  block : ∀ k, k < w.heap.size → k ≠ B + 1 → k ≠ g → some k ≠ vb → w'.heap[k]? = w.heap[k]?
/-- The list lies where it lay, or in a new block. -/
def Lies (w : World) (v v' : Value) : Prop := v'.ownBlock = v.ownBlock ∨ ∃ k, v'.ownBlock = some k ∧ w.heap.size ≤ k
theorem Turn.refl (B g : Nat) (vb : Option Nat) (w : World) : Turn B g vb w w := ⟨rfl, rfl, rfl, Nat.le_refl _, fun _ _ _ _ _ => rfl⟩
theorem Turn.trans {B g : Nat} {v v1 : Value} {w w1 w2 : World} (h : Turn B g v.ownBlock w w1) (k : Turn B g v1.ownBlock w1 w2) (hl : Lies w v v1) : Turn B g v.ownBlock w w2 := by
  refine ⟨k.os.trans h.os, k.tape.trans h.tape, k.output.trans h.output, Nat.le_trans h.size k.size, fun i hi h1 h2 h3 => ?_⟩
  rw [k.block i (Nat.lt_of_lt_of_le hi h.size) h1 h2 ?_, h.block i hi h1 h2 h3]
  rcases hl with e | ⟨x, e, hx⟩
  · rw [e]; exact h3
  · rw [e]; intro e2; injection e2; omega
theorem Lies.trans {v v1 v2 : Value} {w w1 : World} (h : Lies w v v1) (k : Lies w1 v1 v2) (hs : w.heap.size ≤ w1.heap.size) : Lies w v v2 := by
  rcases k with e | ⟨x, e, hx⟩
  · rcases h with e2 | ⟨x, e2, hx⟩
    · exact .inl (e.trans e2)
    · exact .inr ⟨x, e.trans e2, hx⟩
  · exact .inr ⟨x, e, Nat.le_trans hs hx⟩
theorem Turn.of_below {B g : Nat} {vb : Option Nat} {w w' : World} (h : Below w.heap.size w w') : Turn B g vb w w' := ⟨h.os, h.tape, h.output, h.size, fun k hk _ _ _ => h.block k hk⟩
section
variable {B t : Nat} {F : Value} {g cap : Nat} {p : List Nat} {bad : Nat → Prop} {w w' : World} {v : Value} {vs : List Value} {L : List (List Nat)}
theorem St.sizes (h : St B t F g cap p bad w v vs L) : B + 2 < w.heap.size ∧ g < w.heap.size ∧ B + 3 ≤ g := by
  refine ⟨(Array.getElem?_eq_some_iff.1 h.fn).1, h.lt g h.isbad, (World.ownsRow.lt h.path g rfl).1⟩
theorem tabs_of_blocks (ht : Tabs w) (h0 : w'.heap[0]? = w.heap[0]?) (h1 : w'.heap[1]? = w.heap[1]?) : Tabs w' := by
  refine ⟨fun i hi => ?_, fun i hi => ?_⟩
  · rw [World.cell?_of_block (a := ⟨0, i, none⟩) (w := w) (w' := w') h0]
    exact ht.1 i hi
  · rw [World.cell?_of_block (a := ⟨1, i, none⟩) (w := w) (w' := w') h1]
    exact ht.2 i hi
/-- A row whose block is what it was. -/
theorem row_kept {b e s n : Nat} {v : Value} {xs : List Value} (h : w.ownsRow b e s v n xs) (hk : ∀ k, v.ownBlock = some k → w'.heap[k]? = w.heap[k]?) : w'.ownsRow b e s v n xs := by
  refine ⟨h.1, ?_⟩
  rcases h.2 with h1 | ⟨g, cap, cur, rfl, h2, h3, h4⟩
  · exact .inl h1
  · exact .inr ⟨g, cap, cur, rfl, h2, (hk g rfl).trans h3, h4⟩
/-- New blocks change nothing of it. -/
theorem St.below (h : St B t F g cap p bad w v vs L) (hb : Below w.heap.size w w') : St B t F g cap p bad w' v vs L := by
  obtain ⟨s1, s2, s3⟩ := h.sizes
  exact ⟨(hb.block B (by omega)).trans h.tgt, (hb.block (B + 1) (by omega)).trans h.out, (hb.block (B + 2) (by omega)).trans h.fn, h.path.below hb,
    row_kept h.row fun k hk => hb.block k (World.ownsRow.lt h.row k hk).2,
    h.each.turn fun v l ho hn => ⟨ho.below hb, hn⟩, h.isbad, fun k hk => Nat.lt_of_lt_of_le (h.lt k hk) hb.size, tabs_below h.tabs hb, h.low⟩
/-- A path more in the list. -/
theorem St.leaf (h : St B t F g cap p bad w v vs L) {w1 w2 : World} {u v2 : Value} (h1 : Below w.heap.size w w1) (hu : Owns w1 w.heap.size u p) (hr : w2.ownsRow (B + 3) 27 1 v2 (vs.length + 1) (vs ++ [u])) (hg : w1.grownBy w2 v.ownBlock)
    (hout : w'.heap[B + 1]? = some (.cells #[v2] 31 (0, 0))) (ho : ∀ k, k ≠ B + 1 → w'.heap[k]? = w2.heap[k]?) (hs : w'.heap.size = w2.heap.size) (hos : w'.os = w2.os) (hta : w'.tape = w2.tape) (hot : w'.output = w2.output) :
    St B t F g cap p bad w' v2 (vs ++ [u]) (L ++ [p]) ∧ Turn B g v.ownBlock w w' := by
  obtain ⟨s1, s2, s3⟩ := h.sizes
  have hb : ∀ k, k < w.heap.size → k ≠ B + 1 → some k ≠ v.ownBlock → w'.heap[k]? = w.heap[k]? := fun k hk hn hv => by
    rw [ho k hn, hg.block k (Nat.lt_of_lt_of_le hk h1.size) hv, h1.block k hk]
  have hv : ∀ k, v.ownBlock = some k → B + 3 ≤ k ∧ k < w.heap.size := fun k hk => World.ownsRow.lt h.row k hk
  have hv' : ∀ k, k < B + 3 → some k ≠ v.ownBlock := fun k hk e => by have := hv k e.symm; omega
  have hsz : w.heap.size ≤ w'.heap.size := by rw [hs]; exact Nat.le_trans h1.size hg.size
  have huk : ∀ k, u.ownBlock = some k → w.heap.size ≤ k ∧ k < w1.heap.size := fun k hk => World.ownsRow.lt hu k hk
  have hu2 : Owns w' (B + 3) u p := row_mono (row_kept hu fun k hk => by
    have := huk k hk
    rw [ho k (by omega), hg.block k this.2 (fun e => by have := hv k e.symm; omega)]) (by omega)
  have each2 : Each w' (B + 3) bad vs L := h.each.turn fun x l hx hn => ⟨row_kept hx fun k hk => by
    have hk2 := World.ownsRow.lt hx k hk
    exact hb k hk2.2 (by omega) (fun e => rows_apart hx h.row (by decide) k hk e.symm), hn⟩
  refine ⟨⟨?_, hout, ?_, ?_, ?_, each2.snoc hu2 (fun k hk hbad => by have := huk k hk; have := h.lt k hbad; omega), h.isbad, fun k hk => Nat.lt_of_lt_of_le (h.lt k hk) hsz, ?_, h.low⟩, ?_⟩
  · rw [hb B (by omega) (by omega) (hv' _ (by omega))]; exact h.tgt
  · rw [hb (B + 2) (by omega) (by omega) (hv' _ (by omega))]; exact h.fn
  · exact row_kept h.path fun k hk => by
      have hk2 := World.ownsRow.lt h.path k hk
      exact hb k hk2.2 (by omega) (fun e => rows_apart h.path h.row (by decide) k hk e.symm)
  · unfold Holds
    rw [List.length_append]
    exact row_kept hr fun k hk => ho k (by have := (World.ownsRow.lt hr k hk).1; omega)
  · exact tabs_of_blocks h.tabs (hb 0 (by omega) (by omega) (hv' _ (by omega))) (hb 1 (by omega) (by have := h.low; omega) (hv' _ (by omega)))
  · refine ⟨?_, ?_, ?_, hsz, fun k hk e1 e2 e3 => hb k hk e1 e3⟩
    · rw [hos, hg.os, h1.os]
    · rw [hta, hg.tape, h1.tape]
    · rw [hot, hg.output, h1.output]
/-- The first of a path. -/
theorem owns_take {base : Nat} {l : List Nat} {b : Nat} (h : Owns w base (pth g (l.length + 1) cap) (l ++ [b])) : Owns w base (pth g l.length cap) l := by
  refine ⟨by rw [bts_len, Nat.mul_one], ?_⟩
  rcases h.2 with ⟨h1, _⟩ | ⟨g', cap', cur, h1, h2, h3, h4, h5, h6, h7⟩
  · unfold pth at h1; cases h1
  · obtain ⟨rfl, rfl⟩ : g = g' ∧ cap = cap' := by unfold pth at h1; injection h1 with e1 e2 e3; injection e1 with e1; injection e1 with e1; exact ⟨e1, e3⟩
    rw [List.length_append] at h4
    refine .inr ⟨g, cap, cur, rfl, h2, h3, by simp at h4; omega, h5, h6, ?_⟩
    have e := congrArg (List.take l.length) h7
    rw [List.take_take, bts_append, List.take_append_of_le_length (by rw [bts_len]; omega), List.take_of_length_le (l := bts l) (by rw [bts_len]; omega)] at e
    rw [← e]
    congr 1
    simp
/-- A path that is one longer: what stands then, and what stands when it has been followed. -/
theorem St.child (h : St B t F g cap p bad w v vs L) {w0 w1 : World} {g' cap' b : Nat} (h0 : Below w.heap.size w w0) (ho : Owns w1 (B + 3) (pth g' (p.length + 1) cap') (p ++ [b]))
    (hor : (g' = g ∧ cap' = cap ∧ w0.grownBy w1 (some g)) ∨ (w0.heap.size ≤ g' ∧ g' < w1.heap.size ∧ w0.grownBy w1 none)) :
    ∃ bad', St B t F g' cap' (p ++ [b]) bad' w1 v vs L ∧ ∀ w2 v2 vs2 L2, St B t F g' cap' (p ++ [b]) bad' w2 v2 vs2 L2 → Turn B g' v.ownBlock w1 w2 → Lies w1 v v2 →
      St B t F g cap p bad w2 v2 vs2 L2 ∧ Turn B g v.ownBlock w w2 ∧ Lies w v v2 := by
  have hz := h.below h0
  obtain ⟨s1, s2, s3⟩ := hz.sizes
  obtain ⟨t1, t2, _⟩ := h.sizes
  have hpv : (pth g p.length cap).ownBlock = some g := rfl
  have hvg : v.ownBlock ≠ some g := rows_apart hz.path hz.row (by decide) g hpv
  have hsz := h0.size
  rcases hor with ⟨rfl, rfl, hg⟩ | ⟨hg1, hg2, hg⟩
  · have hsz1 := hg.size
    have hb : ∀ k, k < w0.heap.size → k ≠ g' → w1.heap[k]? = w0.heap[k]? := fun k hk hn => hg.block k hk (fun e => hn (by injection e))
    refine ⟨bad, ⟨(hb B (by omega) (by omega)).trans hz.tgt, (hb (B + 1) (by omega) (by omega)).trans hz.out, (hb (B + 2) (by omega) (by omega)).trans hz.fn, ?_, ?_, ?_, h.isbad, fun k hk => Nat.lt_of_lt_of_le (hz.lt k hk) hg.size, ?_, h.low⟩, ?_⟩
    · rw [List.length_append]; exact ho
    · exact row_kept hz.row fun k hk => hb k (World.ownsRow.lt hz.row k hk).2 (fun e => hvg (by rw [hk, e]))
    · exact hz.each.turn fun x l hx hn => ⟨row_kept hx fun k hk => hb k (World.ownsRow.lt hx k hk).2 (fun e => hn k hk (by rw [e]; exact h.isbad)), hn⟩
    · exact tabs_of_blocks hz.tabs (hb 0 (by omega) (by omega)) (hb 1 (by omega) (by have := h.low; omega))
    · intro w2 v2 vs2 L2 h2 ht hl
      refine ⟨⟨h2.tgt, h2.out, h2.fn, ?_, h2.row, h2.each, h.isbad, h2.lt, h2.tabs, h.low⟩, ?_, ?_⟩
      · have := h2.path
        rw [List.length_append] at this
        exact owns_take this
      · refine ⟨?_, ?_, ?_, by have := ht.size; omega, fun k hk e1 e2 e3 => ?_⟩
        · rw [ht.os, hg.os, h0.os]
        · rw [ht.tape, hg.tape, h0.tape]
        · rw [ht.output, hg.output, h0.output]
        · rw [ht.block k (by omega) e1 e2 e3, hb k (by omega) e2, h0.block k hk]
      · rcases hl with e | ⟨k, e, hk⟩
        · exact .inl e
        · exact .inr ⟨k, e, by omega⟩
  · have hsz1 := hg.size
    have hb : ∀ k, k < w0.heap.size → w1.heap[k]? = w0.heap[k]? := fun k hk => hg.block k hk (fun e => by cases e)
    have hbl : Below w0.heap.size w0 w1 := ⟨hg.os, hg.tape, hg.output, hg.size, hb⟩
    have hz1 := hz.below hbl
    have hgw : g' ≠ g := by omega
    have hvg' : v.ownBlock ≠ some g' := fun e => by have := (World.ownsRow.lt hz.row g' e).2; omega
    refine ⟨fun k => bad k ∨ k = g', ⟨hz1.tgt, hz1.out, hz1.fn, by rw [List.length_append]; exact ho, hz1.row, ?_, .inr rfl, fun k hk => ?_, hz1.tabs, h.low⟩, ?_⟩
    · refine hz.each.turn fun x l hx hn => ⟨hx.below hbl, fun k hk hbad => ?_⟩
      rcases hbad with hbad | rfl
      · exact hn k hk hbad
      · have := (World.ownsRow.lt hx k hk).2; omega
    · rcases hk with hk | rfl
      · exact hz1.lt k hk
      · exact hg2
    · intro w2 v2 vs2 L2 h2 ht hl
      refine ⟨⟨h2.tgt, h2.out, h2.fn, ?_, h2.row, h2.each.turn fun x l hx hn => ⟨hx, fun k hk hbad => hn k hk (.inl hbad)⟩, h.isbad, fun k hk => h2.lt k (.inl hk), h2.tabs, h.low⟩, ?_, ?_⟩
      · exact row_kept hz1.path fun k hk => by
          have hk2 : g = k := by injection hk
          subst hk2
          exact ht.block g (by omega) (by omega) (by omega) (fun e => hvg e.symm)
      · refine ⟨?_, ?_, ?_, by have := ht.size; omega, fun k hk e1 e2 e3 => ?_⟩
        · rw [ht.os, hg.os, h0.os]
        · rw [ht.tape, hg.tape, h0.tape]
        · rw [ht.output, hg.output, h0.output]
        · rw [ht.block k (by omega) e1 (by omega) e3, hb k (by omega), h0.block k hk]
      · rcases hl with e | ⟨k, e, hk⟩
        · exact .inl e
        · exact .inr ⟨k, e, by omega⟩
/-- Bytes that lie elsewhere stand. -/
theorem Turn.owns (ht : Turn B g v.ownBlock w w') (hr : Holds w (B + 3) v vs) {base : Nat} {u : Value} {l : List Nat} (hu : Owns w base u l) (hb : B + 3 ≤ base) (hn : g < base) : Owns w' base u l :=
  row_kept hu fun k hk => by
    have := World.ownsRow.lt hu k hk
    exact ht.block k this.2 (by omega) (by omega) (fun e => rows_apart hu hr (by decide) k hk e.symm)
end
end Go.Proofs.YtjgapjbaidgolaaDoor
