/-
  Contracts and plain facts.
-/
import Derived.Test.YthkkipbmlafdiaaGreatOy
import Derived.Test.YthkkipbmlafdiaaGreatB40
import Derived.Test.YthkkipbmlafdiaaGreatB42
set_option maxRecDepth 20000
namespace Go.Proofs.YthkkipbmlafdiaaGreat
section
open Go Go.RowKit
def TBx (w : World) (g : Nat) (a0 b0 c0 d0 e0 a1 b1 c1 d1 e1 a2 b2 c2 d2 e2 : SL) : Prop := w.heap[g]? = some (.cells #[.slice a0.1 a0.2.1 a0.2.2, .slice b0.1 b0.2.1 b0.2.2, .slice c0.1 c0.2.1 c0.2.2, .slice d0.1 d0.2.1 d0.2.2, .slice e0.1 e0.2.1 e0.2.2, .slice a1.1 a1.2.1 a1.2.2, .slice b1.1 b1.2.1 b1.2.2, .slice c1.1 c1.2.1 c1.2.2, .slice d1.1 d1.2.1 d1.2.2, .slice e1.1 e1.2.1 e1.2.2, .slice a2.1 a2.2.1 a2.2.2, .slice b2.1 b2.2.1 b2.2.2, .slice c2.1 c2.2.1 c2.2.2, .slice d2.1 d2.2.1 d2.2.2, .slice e2.1 e2.2.1 e2.2.2] 56 (0, 0))
theorem tbx_free {w : World} {g : Nat} {a0 b0 c0 d0 e0 a1 b1 c1 d1 e1 a2 b2 c2 d2 e2 : SL} (h : TBx w g a0 b0 c0 d0 e0 a1 b1 c1 d1 e1 a2 b2 c2 d2 e2) : w.frozen? ⟨g, 0, none⟩ = false ∧ w.frozen? ⟨g, 1, none⟩ = false ∧ w.frozen? ⟨g, 2, none⟩ = false ∧ w.frozen? ⟨g, 3, none⟩ = false ∧ w.frozen? ⟨g, 4, none⟩ = false ∧ w.frozen? ⟨g, 5, none⟩ = false ∧ w.frozen? ⟨g, 6, none⟩ = false ∧ w.frozen? ⟨g, 7, none⟩ = false ∧ w.frozen? ⟨g, 8, none⟩ = false ∧ w.frozen? ⟨g, 9, none⟩ = false ∧ w.frozen? ⟨g, 10, none⟩ = false ∧ w.frozen? ⟨g, 11, none⟩ = false ∧ w.frozen? ⟨g, 12, none⟩ = false ∧ w.frozen? ⟨g, 13, none⟩ = false ∧ w.frozen? ⟨g, 14, none⟩ = false := by
 unfold TBx at h;exact ⟨by simp [World.frozen?, h], by simp [World.frozen?, h], by simp [World.frozen?, h], by simp [World.frozen?, h], by simp [World.frozen?, h], by simp [World.frozen?, h], by simp [World.frozen?, h], by simp [World.frozen?, h], by simp [World.frozen?, h], by simp [World.frozen?, h], by simp [World.frozen?, h], by simp [World.frozen?, h], by simp [World.frozen?, h], by simp [World.frozen?, h], by simp [World.frozen?, h]⟩
theorem tbx_cells {w : World} {g : Nat} {a0 b0 c0 d0 e0 a1 b1 c1 d1 e1 a2 b2 c2 d2 e2 : SL} (h : TBx w g a0 b0 c0 d0 e0 a1 b1 c1 d1 e1 a2 b2 c2 d2 e2) : w.cell? ⟨g, 0, none⟩ = some (.slice a0.1 a0.2.1 a0.2.2) ∧ w.cell? ⟨g, 1, none⟩ = some (.slice b0.1 b0.2.1 b0.2.2) ∧ w.cell? ⟨g, 2, none⟩ = some (.slice c0.1 c0.2.1 c0.2.2) ∧ w.cell? ⟨g, 3, none⟩ = some (.slice d0.1 d0.2.1 d0.2.2) ∧ w.cell? ⟨g, 4, none⟩ = some (.slice e0.1 e0.2.1 e0.2.2) ∧ w.cell? ⟨g, 5, none⟩ = some (.slice a1.1 a1.2.1 a1.2.2) ∧ w.cell? ⟨g, 6, none⟩ = some (.slice b1.1 b1.2.1 b1.2.2) ∧ w.cell? ⟨g, 7, none⟩ = some (.slice c1.1 c1.2.1 c1.2.2) ∧ w.cell? ⟨g, 8, none⟩ = some (.slice d1.1 d1.2.1 d1.2.2) ∧ w.cell? ⟨g, 9, none⟩ = some (.slice e1.1 e1.2.1 e1.2.2) ∧ w.cell? ⟨g, 10, none⟩ = some (.slice a2.1 a2.2.1 a2.2.2) ∧ w.cell? ⟨g, 11, none⟩ = some (.slice b2.1 b2.2.1 b2.2.2) ∧ w.cell? ⟨g, 12, none⟩ = some (.slice c2.1 c2.2.1 c2.2.2) ∧ w.cell? ⟨g, 13, none⟩ = some (.slice d2.1 d2.2.1 d2.2.2) ∧ w.cell? ⟨g, 14, none⟩ = some (.slice e2.1 e2.2.1 e2.2.2) := by
 unfold TBx at h;exact ⟨by rw [cell_of_row _ _ 0 _ _ _ h]; rfl, by rw [cell_of_row _ _ 1 _ _ _ h]; rfl, by rw [cell_of_row _ _ 2 _ _ _ h]; rfl, by rw [cell_of_row _ _ 3 _ _ _ h]; rfl, by rw [cell_of_row _ _ 4 _ _ _ h]; rfl, by rw [cell_of_row _ _ 5 _ _ _ h]; rfl, by rw [cell_of_row _ _ 6 _ _ _ h]; rfl, by rw [cell_of_row _ _ 7 _ _ _ h]; rfl, by rw [cell_of_row _ _ 8 _ _ _ h]; rfl, by rw [cell_of_row _ _ 9 _ _ _ h]; rfl, by rw [cell_of_row _ _ 10 _ _ _ h]; rfl, by rw [cell_of_row _ _ 11 _ _ _ h]; rfl, by rw [cell_of_row _ _ 12 _ _ _ h]; rfl, by rw [cell_of_row _ _ 13 _ _ _ h]; rfl, by rw [cell_of_row _ _ 14 _ _ _ h]; rfl⟩
theorem tbx_new (w : World) (a0 b0 c0 d0 e0 a1 b1 c1 d1 e1 a2 b2 c2 d2 e2 : SL) : TBx (w.alloc (.cells #[.slice a0.1 a0.2.1 a0.2.2, .slice b0.1 b0.2.1 b0.2.2, .slice c0.1 c0.2.1 c0.2.2, .slice d0.1 d0.2.1 d0.2.2, .slice e0.1 e0.2.1 e0.2.2, .slice a1.1 a1.2.1 a1.2.2, .slice b1.1 b1.2.1 b1.2.2, .slice c1.1 c1.2.1 c1.2.2, .slice d1.1 d1.2.1 d1.2.2, .slice e1.1 e1.2.1 e1.2.2, .slice a2.1 a2.2.1 a2.2.2, .slice b2.1 b2.2.1 b2.2.2, .slice c2.1 c2.2.1 c2.2.2, .slice d2.1 d2.2.1 d2.2.2, .slice e2.1 e2.2.1 e2.2.2] 56)) w.heap.size a0 b0 c0 d0 e0 a1 b1 c1 d1 e1 a2 b2 c2 d2 e2 := heap_alloc_new w _
theorem tbx_lt {w : World} {g : Nat} {a0 b0 c0 d0 e0 a1 b1 c1 d1 e1 a2 b2 c2 d2 e2 : SL} (h : TBx w g a0 b0 c0 d0 e0 a1 b1 c1 d1 e1 a2 b2 c2 d2 e2) : g < w.heap.size := row_lt h
theorem tbx_below {w w' : World} {g : Nat} {a0 b0 c0 d0 e0 a1 b1 c1 d1 e1 a2 b2 c2 d2 e2 : SL} (h : TBx w g a0 b0 c0 d0 e0 a1 b1 c1 d1 e1 a2 b2 c2 d2 e2) (hb : Below w.heap.size w w') : TBx w' g a0 b0 c0 d0 e0 a1 b1 c1 d1 e1 a2 b2 c2 d2 e2 := (hb.block _ (tbx_lt h)).trans h
theorem tbx_now {w : World} {g : Nat} {a0 b0 c0 d0 e0 a1 b1 c1 d1 e1 a2 b2 c2 d2 e2 : SL} {now : Nat → Vw} (h : TBx w g a0 b0 c0 d0 e0 a1 b1 c1 d1 e1 a2 b2 c2 d2 e2) (h0 : RV w a0 b0 c0 d0 e0 (now 0)) (h1 : RV w a1 b1 c1 d1 e1 (now 1)) (h2 : RV w a2 b2 c2 d2 e2 (now 2)) : NowN w g 3 now := by
 refine nowN_of (dn := #[(a0, b0, c0, d0, e0), (a1, b1, c1, d1, e1), (a2, b2, c2, d2, e2)]) rfl h rfl fun k hk => ?_
 rcases (show k = 0 ∨ k = 1 ∨ k = 2 by omega) with rfl | rfl | rfl
 ·exact h0
 ·exact h1
 ·exact h2
theorem tbx_noInt {w : World} {g : Nat} {a0 b0 c0 d0 e0 a1 b1 c1 d1 e1 a2 b2 c2 d2 e2 : SL} (h : TBx w g a0 b0 c0 d0 e0 a1 b1 c1 d1 e1 a2 b2 c2 d2 e2) : NoInt w g := noInt_cells h (by simp)
theorem NowN.three {w : World} {g : Nat} {now : Nat → Vw} (h : NowN w g 3 now) : ∃ a0 b0 c0 d0 e0 a1 b1 c1 d1 e1 a2 b2 c2 d2 e2 : SL, RV w a0 b0 c0 d0 e0 (now 0) ∧ RV w a1 b1 c1 d1 e1 (now 1) ∧ RV w a2 b2 c2 d2 e2 (now 2) ∧ w.cell? ⟨g, 0, none⟩ = some (.slice a0.1 a0.2.1 a0.2.2) ∧ w.cell? ⟨g, 1, none⟩ = some (.slice b0.1 b0.2.1 b0.2.2) ∧ w.cell? ⟨g, 2, none⟩ = some (.slice c0.1 c0.2.1 c0.2.2) ∧ w.cell? ⟨g, 3, none⟩ = some (.slice d0.1 d0.2.1 d0.2.2) ∧ w.cell? ⟨g, 4, none⟩ = some (.slice e0.1 e0.2.1 e0.2.2) ∧ w.cell? ⟨g, 5, none⟩ = some (.slice a1.1 a1.2.1 a1.2.2) ∧ w.cell? ⟨g, 6, none⟩ = some (.slice b1.1 b1.2.1 b1.2.2) ∧ w.cell? ⟨g, 7, none⟩ = some (.slice c1.1 c1.2.1 c1.2.2) ∧ w.cell? ⟨g, 8, none⟩ = some (.slice d1.1 d1.2.1 d1.2.2) ∧ w.cell? ⟨g, 9, none⟩ = some (.slice e1.1 e1.2.1 e1.2.2) ∧ w.cell? ⟨g, 10, none⟩ = some (.slice a2.1 a2.2.1 a2.2.2) ∧ w.cell? ⟨g, 11, none⟩ = some (.slice b2.1 b2.2.1 b2.2.2) ∧ w.cell? ⟨g, 12, none⟩ = some (.slice c2.1 c2.2.1 c2.2.2) ∧ w.cell? ⟨g, 13, none⟩ = some (.slice d2.1 d2.2.1 d2.2.2) ∧ w.cell? ⟨g, 14, none⟩ = some (.slice e2.1 e2.2.1 e2.2.2) := by
 obtain ⟨ra0, rb0, rc0, rd0, re0, h0, ⟨c0, c1, c2, c3, c4⟩, -⟩ := h.at_ (k := 0) (by decide)
 obtain ⟨ra1, rb1, rc1, rd1, re1, h1, ⟨k0, k1, k2, k3, k4⟩, -⟩ := h.at_ (k := 1) (by decide)
 obtain ⟨ra2, rb2, rc2, rd2, re2, h2, ⟨m0, m1, m2, m3, m4⟩, -⟩ := h.at_ (k := 2) (by decide)
 exact ⟨ra0, rb0, rc0, rd0, re0, ra1, rb1, rc1, rd1, re1, ra2, rb2, rc2, rd2, re2, h0, h1, h2, c0, c1, c2, c3, c4, k0, k1, k2, k3, k4, m0, m1, m2, m3, m4⟩
structure OneR (w : World) (v0 : Value) (l : List ActT) (now : Nat → Vw) (had : List Vw) (vh : Value) (W : World) : Prop where
 one : OneT w (w.heap.size + 1) (w.heap.size + 1 + 1) v0 l now had vh W
 res : TBx W w.heap.size (none, 0, 0) (none, 0, 0) (none, 0, 0) (none, 0, 0) (none, 0, 0) (none, 0, 0) (none, 0, 0) (none, 0, 0) (none, 0, 0) (none, 0, 0) (none, 0, 0) (none, 0, 0) (none, 0, 0) (none, 0, 0) (none, 0, 0)
theorem OneR.step {w : World} {v0 : Value} {l : List ActT} {now : Nat → Vw} {had : List Vw} {vh : Value} {W W' : World} (h : OneR w v0 l now had vh W) (hb : Below W.heap.size W W') : OneR w v0 l now had vh W' := ⟨h.one.step hb, tbx_below h.res hb⟩
theorem OneR.put {w : World} {v0 : Value} {l : List ActT} {now : Nat → Vw} {had : List Vw} {vh : Value} {W : World} (h : OneR w v0 l now had vh W) {k : Nat} (hk : k < 3) {t : V5} {T : Vw} (ht : RVt W t T) : OneR w v0 l (now1 now k T) had vh (W.setCells (w.heap.size + 1) (k * 5) (encV t)) :=
 ⟨h.one.put hk ht, (heap_setCells _ _ _ _ _ (by omega)).trans h.res⟩
theorem oneR_start {w : World} {v0 : Value} {l : List ActT} (h : ActsT w v0 l) : OneR w v0 l (fun _ => noV) [noV] (.slice (some ⟨w.heap.size + 1 + 1, 0, none⟩) 1 1) (((w.alloc (.cells #[.slice none 0 0, .slice none 0 0, .slice none 0 0, .slice none 0 0, .slice none 0 0, .slice none 0 0, .slice none 0 0, .slice none 0 0, .slice none 0 0, .slice none 0 0, .slice none 0 0, .slice none 0 0, .slice none 0 0, .slice none 0 0, .slice none 0 0] 56)).alloc (.cells #[.slice none 0 0, .slice none 0 0, .slice none 0 0, .slice none 0 0, .slice none 0 0, .slice none 0 0, .slice none 0 0, .slice none 0 0, .slice none 0 0, .slice none 0 0, .slice none 0 0, .slice none 0 0, .slice none 0 0, .slice none 0 0, .slice none 0 0] 56)).alloc (.cells #[.slice none 0 0, .slice none 0 0, .slice none 0 0, .slice none 0 0, .slice none 0 0] 27)) := by
 have q1 := ad_ w (.cells #[.slice none 0 0, .slice none 0 0, .slice none 0 0, .slice none 0 0, .slice none 0 0, .slice none 0 0, .slice none 0 0, .slice none 0 0, .slice none 0 0, .slice none 0 0, .slice none 0 0, .slice none 0 0, .slice none 0 0, .slice none 0 0, .slice none 0 0] 56);have q2 := ad_ (w.alloc (.cells #[.slice none 0 0, .slice none 0 0, .slice none 0 0, .slice none 0 0, .slice none 0 0, .slice none 0 0, .slice none 0 0, .slice none 0 0, .slice none 0 0, .slice none 0 0, .slice none 0 0, .slice none 0 0, .slice none 0 0, .slice none 0 0, .slice none 0 0] 56)) (.cells #[.slice none 0 0, .slice none 0 0, .slice none 0 0, .slice none 0 0, .slice none 0 0, .slice none 0 0, .slice none 0 0, .slice none 0 0, .slice none 0 0, .slice none 0 0, .slice none 0 0, .slice none 0 0, .slice none 0 0, .slice none 0 0, .slice none 0 0] 56);have q3 := ad_ ((w.alloc (.cells #[.slice none 0 0, .slice none 0 0, .slice none 0 0, .slice none 0 0, .slice none 0 0, .slice none 0 0, .slice none 0 0, .slice none 0 0, .slice none 0 0, .slice none 0 0, .slice none 0 0, .slice none 0 0, .slice none 0 0, .slice none 0 0, .slice none 0 0] 56)).alloc (.cells #[.slice none 0 0, .slice none 0 0, .slice none 0 0, .slice none 0 0, .slice none 0 0, .slice none 0 0, .slice none 0 0, .slice none 0 0, .slice none 0 0, .slice none 0 0, .slice none 0 0, .slice none 0 0, .slice none 0 0, .slice none 0 0, .slice none 0 0] 56)) (.cells #[.slice none 0 0, .slice none 0 0, .slice none 0 0, .slice none 0 0, .slice none 0 0] 27);have q := ah_ (ba_ q1 q2) q3 (Nat.le_refl _);have hT : TBx (w.alloc (.cells #[.slice none 0 0, .slice none 0 0, .slice none 0 0, .slice none 0 0, .slice none 0 0, .slice none 0 0, .slice none 0 0, .slice none 0 0, .slice none 0 0, .slice none 0 0, .slice none 0 0, .slice none 0 0, .slice none 0 0, .slice none 0 0, .slice none 0 0] 56)) w.heap.size (none, 0, 0) (none, 0, 0) (none, 0, 0) (none, 0, 0) (none, 0, 0) (none, 0, 0) (none, 0, 0) (none, 0, 0) (none, 0, 0) (none, 0, 0) (none, 0, 0) (none, 0, 0) (none, 0, 0) (none, 0, 0) (none, 0, 0) := tbx_new w (none, 0, 0) (none, 0, 0) (none, 0, 0) (none, 0, 0) (none, 0, 0) (none, 0, 0) (none, 0, 0) (none, 0, 0) (none, 0, 0) (none, 0, 0) (none, 0, 0) (none, 0, 0) (none, 0, 0) (none, 0, 0) (none, 0, 0)
 have hT2 : TBx ((w.alloc (.cells #[.slice none 0 0, .slice none 0 0, .slice none 0 0, .slice none 0 0, .slice none 0 0, .slice none 0 0, .slice none 0 0, .slice none 0 0, .slice none 0 0, .slice none 0 0, .slice none 0 0, .slice none 0 0, .slice none 0 0, .slice none 0 0, .slice none 0 0] 56)).alloc (.cells #[.slice none 0 0, .slice none 0 0, .slice none 0 0, .slice none 0 0, .slice none 0 0, .slice none 0 0, .slice none 0 0, .slice none 0 0, .slice none 0 0, .slice none 0 0, .slice none 0 0, .slice none 0 0, .slice none 0 0, .slice none 0 0, .slice none 0 0] 56)) (w.heap.size + 1) (none, 0, 0) (none, 0, 0) (none, 0, 0) (none, 0, 0) (none, 0, 0) (none, 0, 0) (none, 0, 0) (none, 0, 0) (none, 0, 0) (none, 0, 0) (none, 0, 0) (none, 0, 0) (none, 0, 0) (none, 0, 0) (none, 0, 0) := by
  have h := tbx_new (w.alloc (.cells #[.slice none 0 0, .slice none 0 0, .slice none 0 0, .slice none 0 0, .slice none 0 0, .slice none 0 0, .slice none 0 0, .slice none 0 0, .slice none 0 0, .slice none 0 0, .slice none 0 0, .slice none 0 0, .slice none 0 0, .slice none 0 0, .slice none 0 0] 56)) (none, 0, 0) (none, 0, 0) (none, 0, 0) (none, 0, 0) (none, 0, 0) (none, 0, 0) (none, 0, 0) (none, 0, 0) (none, 0, 0) (none, 0, 0) (none, 0, 0) (none, 0, 0) (none, 0, 0) (none, 0, 0) (none, 0, 0);simp only [World.size_alloc] at h;exact h
 have hH : (((w.alloc (.cells #[.slice none 0 0, .slice none 0 0, .slice none 0 0, .slice none 0 0, .slice none 0 0, .slice none 0 0, .slice none 0 0, .slice none 0 0, .slice none 0 0, .slice none 0 0, .slice none 0 0, .slice none 0 0, .slice none 0 0, .slice none 0 0, .slice none 0 0] 56)).alloc (.cells #[.slice none 0 0, .slice none 0 0, .slice none 0 0, .slice none 0 0, .slice none 0 0, .slice none 0 0, .slice none 0 0, .slice none 0 0, .slice none 0 0, .slice none 0 0, .slice none 0 0, .slice none 0 0, .slice none 0 0, .slice none 0 0, .slice none 0 0] 56)).alloc (.cells #[.slice none 0 0, .slice none 0 0, .slice none 0 0, .slice none 0 0, .slice none 0 0] 27)).heap[w.heap.size + 1 + 1]? = some (.cells #[.slice none 0 0, .slice none 0 0, .slice none 0 0, .slice none 0 0, .slice none 0 0] 27) := by
  have e := heap_alloc_new ((w.alloc (.cells #[.slice none 0 0, .slice none 0 0, .slice none 0 0, .slice none 0 0, .slice none 0 0, .slice none 0 0, .slice none 0 0, .slice none 0 0, .slice none 0 0, .slice none 0 0, .slice none 0 0, .slice none 0 0, .slice none 0 0, .slice none 0 0, .slice none 0 0] 56)).alloc (.cells #[.slice none 0 0, .slice none 0 0, .slice none 0 0, .slice none 0 0, .slice none 0 0, .slice none 0 0, .slice none 0 0, .slice none 0 0, .slice none 0 0, .slice none 0 0, .slice none 0 0, .slice none 0 0, .slice none 0 0, .slice none 0 0, .slice none 0 0] 56)) (.cells #[.slice none 0 0, .slice none 0 0, .slice none 0 0, .slice none 0 0, .slice none 0 0] 27);simp only [World.size_alloc] at e;exact e
 refine ⟨⟨h.kp (kp_below q), tbx_now (tbx_below hT2 q3) (nil_V5 _) (nil_V5 _) (nil_V5 _), ?_, by omega, by simp, by omega, q⟩, tbx_below (tbx_below hT q2) q3⟩
 refine ⟨[((none, 0, 0), (none, 0, 0), (none, 0, 0), (none, 0, 0), (none, 0, 0))], ⟨rfl, .inr ⟨w.heap.size + 1 + 1, 1, _, rfl, Nat.le_refl _, hH, Nat.le_refl _, by unfold maxLen; omega, rfl, rfl⟩⟩, fun g e => ?_, rfl, fun k a b => ?_⟩
 ·have e : w.heap.size + 1 + 1 = g := by injection e
  subst e;exact noInt_cells hH (by simp)
 ·obtain rfl : k = 0 := by simp at a; omega
  exact nil_V5 _
theorem rem_u8 (x m : Int) (hx : IsU8 x) (hm : 0 < m) : ∃ k : Nat, x.tmod m = (k : Int) ∧ (k : Int) < m ∧ x % m = (k : Int) := by
 obtain ⟨h0, h1⟩ := hx;have h2 : x.tmod m = x % m := Int.tmod_eq_emod_of_nonneg h0
 have h3 := Int.emod_nonneg x (b := m) (by omega)
 have h4 := Int.emod_lt_of_pos x hm;exact ⟨(x % m).toNat, by rw [h2]; omega, by omega, by omega⟩
theorem wrap_small {n : Int} (h0 : -9223372036854775808 ≤ n) (h1 : n ≤ 9223372036854775807) : wrap64 n = n := by
 first | (unfold wrap64; omega) | (simp [wrap64]; omega) | go_num
theorem u8_small {n : Int} (h0 : 0 ≤ n) (h1 : n < 256) : IntKind.u8.wrap n = n := by
 have : IntKind.u8.wrap n = n % 256 := rfl
 omega
theorem u64_pos (n : Int) : 0 ≤ IntKind.u64.wrap n := by
 have : IntKind.u64.wrap n = n % 18446744073709551616 := rfl
 omega
theorem u64_small {n : Int} (h0 : 0 ≤ n) (h1 : n < 18446744073709551616) : IntKind.u64.wrap n = n := by
 have : IntKind.u64.wrap n = n % 18446744073709551616 := rfl
 omega
theorem i64_small {n : Int} (h0 : -9223372036854775808 ≤ n) (h1 : n ≤ 9223372036854775807) : IntKind.i64.wrap n = n := by
 rw [IntKind.wrap_i64]; omega
theorem num_cut (n : Int) (m : Nat) (hm : 0 < m) (hm2 : m ≤ 1000) : ∃ y : Nat, y < m ∧ wrap64 ((IntKind.u64.wrap n).tmod (m : Int)) = (y : Int) := by
 have h0 := u64_pos n;have h2 : (IntKind.u64.wrap n).tmod (m : Int) = (IntKind.u64.wrap n) % (m : Int) := Int.tmod_eq_emod_of_nonneg h0
 have h3 := Int.emod_nonneg (IntKind.u64.wrap n) (b := (m : Int)) (by omega)
 have h4 := Int.emod_lt_of_pos (IntKind.u64.wrap n) (b := (m : Int)) (by omega)
 refine ⟨((IntKind.u64.wrap n) % (m : Int)).toNat, by omega, ?_⟩
 rw [h2, wrap_small (by omega) (by omega)]
 omega
theorem mem_ok {p : Nat} (hp : (p : Int) < 5) : InB ((p : Int) + 1, 1) := by
 unfold InB;dsimp only;omega
theorem mem_ok2 {r : Nat} {y : Int} (hr : (r : Int) < 7) (h1 : (r : Int) + 1 < 3 → y = 0) (h2 : 3 ≤ (r : Int) + 1 → 1 ≤ y ∧ y ≤ 256) : (r : Int) + 1 = 7 ∨ Ros.mayNum ((r : Int) + 1) y = true := by
 by_cases e7 : (r : Int) + 1 = 7
 ·exact .inl e7
 ·right
  unfold Ros.mayNum;by_cases e1 : (r : Int) + 1 = 1 ∨ (r : Int) + 1 = 2
  ·rw [if_pos e1]
   exact decide_eq_true (h1 (by omega))
  ·rw [if_neg e1]
   have := h2 (by omega)
   by_cases e2 : (r : Int) + 1 = 3 ∨ (r : Int) + 1 = 4
   ·rw [if_pos e2]
    exact decide_eq_true (by omega)
   ·rw [if_neg e2, if_pos (by omega)]
    exact decide_eq_true (by omega)
structure AcG (w : World) (B9 : Nat) (v0 : Value) (l : List ActT) (now : Nat → Vw) (had : List Vw) (vh : Value) (k : Nat) (W : World) : Prop where
 one : OneR w v0 l now had vh W
 id : Box W B9 ((k : Int) + 1) 1
 n9 : w.heap.size + 1 < B9
theorem AcG.step {w : World} {B9 : Nat} {v0 : Value} {l : List ActT} {now : Nat → Vw} {had : List Vw} {vh : Value} {k : Nat} {W W' : World} (h : AcG w B9 v0 l now had vh k W) (hb : Below W.heap.size W W') : AcG w B9 v0 l now had vh k W' := ⟨h.one.step hb, ag_ h.id hb, h.n9⟩
theorem AcG.put {w : World} {B9 : Nat} {v0 : Value} {l : List ActT} {now : Nat → Vw} {had : List Vw} {vh : Value} {k : Nat} {W : World} (h : AcG w B9 v0 l now had vh k W) {j : Nat} (hj : j < 3) {t : V5} {T : Vw} (ht : RVt W t T) : AcG w B9 v0 l (now1 now j T) had vh k (W.setCells (w.heap.size + 1) (j * 5) (encV t)) :=
 ⟨h.one.put hj ht, (heap_setCells _ _ _ _ _ (by have := h.n9; omega)).trans h.id, h.n9⟩
end
end Go.Proofs.YthkkipbmlafdiaaGreat
