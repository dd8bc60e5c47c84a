/-
  A walk over a frame that is copied with all its lists. No statement is proved in this text.
-/
import Derived.Test.YtmgiglefabbmcaaOutC
import Derived.StillTailTactics
import Derived.Deep.Cut
import Derived.Deep.CutBlock
set_option maxRecDepth 20000
namespace Go.Proofs.Ytmgiglefabbmcaa
open Go Go.RowKit
theorem In1.sl {α : Type} {enc : α → List Value} {sz : Nat} {e : TypeId} {S : Nat → Prop} {w : World} {v : Value} {l : List α} (h : In1 enc sz e S w v l) : ∃ s : SL, v = .slice s.1 s.2.1 s.2.2 := by
  rcases h.1.2 with ⟨h, _⟩ | ⟨g, cap, _, h, _⟩
  · exact ⟨(none, 0, 0), h⟩
  · exact ⟨(some ⟨g, 0, none⟩, l.length, cap), h⟩
theorem flatR_set {α : Type} {enc : α → List Value} {sz : Nat} (hs : ∀ a, (enc a).length = sz) : ∀ (l : List α) (k : Nat) (hk : k < l.length) (j : Nat) (x : α) (u : Value), j < sz → enc x = (enc l[k]).set j u → (flatR enc l).set (k * sz + j) u = flatR enc (l.set k x) := by
  intro l
  induction l with
  | nil => intro k hk; simp at hk
  | cons y l ih =>
    intro k hk j x u hj hx
    unfold flatR
    rw [List.flatMap_cons]
    cases k with
    | zero =>
      rw [Nat.zero_mul, Nat.zero_add, List.set_append_left _ _ (by rw [hs]; exact hj), List.set_cons_zero, List.flatMap_cons]
      simp only [List.getElem_cons_zero] at hx
      rw [hx]
    | succ k =>
      rw [List.set_append_right _ _ (by rw [hs, Nat.succ_mul]; omega), hs, show (k + 1) * sz + j - sz = k * sz + j by rw [Nat.succ_mul]; omega, List.set_cons_succ, List.flatMap_cons]
      have := ih k (by simpa using hk) j x u hj (by simpa using hx)
      unfold flatR at this
      rw [this]
theorem In1.cur {α : Type} {enc : α → List Value} {sz : Nat} {e : TypeId} {S : Nat → Prop} {w : World} {g n c : Nat} {l : List α} (h : In1 enc sz e S w (.slice (some ⟨g, 0, none⟩) n c) l) : ∃ cur, w.heap[g]? = some (.cells cur e (0, 0)) ∧ n = l.length ∧ l.length ≤ c ∧ c ≤ maxLen ∧ cur.size = c * sz ∧ cur.toList.take (l.length * sz) = flatR enc l := by
  rcases h.1.2 with ⟨h, _⟩ | ⟨g', cap, cur, h, _, r⟩
  · cases h
  · injection h with h1 h2 h3
    injection h1 with h1
    injection h1 with h1
    subst h1 h2 h3
    exact ⟨cur, r.1, rfl, r.2⟩
theorem In1.set {α : Type} {enc : α → List Value} {sz : Nat} {e : TypeId} {S : Nat → Prop} {w : World} {g n c : Nat} {l : List α} (hs : ∀ a, (enc a).length = sz) (h : In1 enc sz e S w (.slice (some ⟨g, 0, none⟩) n c) l) {k : Nat} (hk : k < l.length) {j : Nat} (hj : j < sz) {x : α} {u : Value} (hx : enc x = (enc l[k]).set j u) :
    In1 enc sz e S (w.setCell ⟨g, k * sz + j, none⟩ u) (.slice (some ⟨g, 0, none⟩) n c) (l.set k x) := by
  obtain ⟨cur, h1, rfl, h3, h4, h5, h6⟩ := h.cur
  refine ⟨⟨by rw [flatR_len hs, List.length_set], .inr ⟨g, c, cur.setIfInBounds (k * sz + j) u, by rw [List.length_set], Nat.zero_le _, heap_setCell_same w g _ cur e u h1, by rw [List.length_set]; exact h3, h4, by simpa using h5, ?_⟩⟩, fun i hi => h.2 i hi⟩
  rw [List.length_set, Array.toList_setIfInBounds, List.take_set, h6, flatR_set hs l k hk j x u hj hx]
theorem In1.cell {α : Type} {enc : α → List Value} {sz : Nat} {e : TypeId} {S : Nat → Prop} {w : World} {g n c : Nat} {l : List α} (hs : ∀ a, (enc a).length = sz) (h : In1 enc sz e S w (.slice (some ⟨g, 0, none⟩) n c) l) {k : Nat} (hk : k < l.length) {j : Nat} {u : Value} (hu : (enc l[k])[j]? = some u) : w.cell? ⟨g, k * sz + j, none⟩ = some u ∧ w.frozen? ⟨g, k * sz + j, none⟩ = false := by
  obtain ⟨cur, h1, rfl, h3, h4, h5, h6⟩ := h.cur
  have h7 := flatR_at hs l k hk j u hu
  refine ⟨?_, frozen_of_row _ _ _ _ _ h1⟩
  rw [cell_of_row _ _ _ _ _ _ h1]
  rw [← h6, List.getElem?_take] at h7
  split at h7
  · simpa using h7
  · cases h7
/-- What stands while a frame is copied. -/
structure ApG (w : World) (q : Fq) (W : World) : Prop where
  x : FB W w.heap.size q
  z : FB W (w.heap.size + 1) q0
  b : Below w.heap.size w W
/-- What is new by then. -/
def ApN (w : World) (k : Nat) : Prop := w.heap.size + 1 < k
theorem ApG.step {w W W' : World} {q : Fq} (h : ApG w q W) (hb : Below W.heap.size W W') : ApG w q W' := ⟨fb_below h.x hb, fb_below h.z hb, below_after h.b hb (Nat.le_refl _)⟩
theorem ApG.two {w W : World} {q : Fq} (h : ApG w q W) : w.heap.size + 1 < W.heap.size := fb_lt h.z
theorem ApG.put {w W : World} {q q' : Fq} (h : ApG w q W) {i : Nat} {u : Value} (hf : FB (W.setCell ⟨w.heap.size, i, none⟩ u) w.heap.size q') : ApG w q' (W.setCell ⟨w.heap.size, i, none⟩ u) :=
  ⟨hf, (Below.heap_setCell _ _ _ _ (by show w.heap.size + 1 ≠ w.heap.size; omega)).trans h.z, h.b.setCell (Nat.le_refl _) _⟩
theorem ApG.new {α : Type} {enc : α → List Value} {sz : Nat} {e : TypeId} {w W W' : World} {q : Fq} {v : Value} {l : List α} (h : ApG w q W) (ho : OwnsR enc sz e W' W.heap.size v l) : In1 enc sz e (ApN w) W' v l := In1.new ho fun _ hk _ => Nat.lt_of_lt_of_le h.two hk
theorem In1.later {α : Type} {enc : α → List Value} {sz : Nat} {e : TypeId} {w W W' : World} {v : Value} {l : List α} (h : In1 enc sz e (ApN w) W v l) (hb : Below W.heap.size W W') : In1 enc sz e (ApN w) W' v l :=
  ⟨OwnsR.below h.1 hb, h.2⟩
theorem In1.past {α : Type} {enc : α → List Value} {sz : Nat} {e : TypeId} {w W : World} {v : Value} {l : List α} (h : In1 enc sz e (ApN w) W v l) (i : Nat) (u : Value) : In1 enc sz e (ApN w) (W.setCell ⟨w.heap.size, i, none⟩ u) v l :=
  h.on fun k hk => Below.heap_setCell _ _ _ _ (by unfold ApN at hk; show k ≠ w.heap.size; omega)
theorem EachO.later {w W W' : World} (hb : Below W.heap.size W W') : ∀ {qs : List Raw} {l : List Row}, EachO (ApN w) W qs l → EachO (ApN w) W' qs l
  | [], [], _ => trivial
  | _ :: _, _ :: _, h => ⟨⟨h.1.1, h.1.2.1, h.1.2.2.later hb⟩, EachO.later hb h.2⟩
  | [], _ :: _, h => h.elim
  | _ :: _, [], h => h.elim
theorem EachO.past {w W : World} {qs : List Raw} {l : List Row} (h : EachO (ApN w) W qs l) (i : Nat) (u : Value) : EachO (ApN w) (W.setCell ⟨w.heap.size, i, none⟩ u) qs l :=
  h.on fun k hk => Below.heap_setCell _ _ _ _ (by unfold ApN at hk; show k ≠ w.heap.size; omega)
theorem fb_seta {W : World} {X : Nat} {q : Fq} (h : FB W X q) (s : SL) : FB (W.setCell ⟨X, 9, none⟩ (.slice s.1 s.2.1 s.2.2)) X { q with a := s } := by
  unfold FB at *
  simp [World.setCell, Array.getElem?_modify, h, fc, encF]
theorem fb_setb {W : World} {X : Nat} {q : Fq} (h : FB W X q) (s : SL) : FB (W.setCell ⟨X, 10, none⟩ (.slice s.1 s.2.1 s.2.2)) X { q with b := s } := by
  unfold FB at *
  simp [World.setCell, Array.getElem?_modify, h, fc, encF]
theorem fb_setc {W : World} {X : Nat} {q : Fq} (h : FB W X q) (s : SL) : FB (W.setCell ⟨X, 11, none⟩ (.slice s.1 s.2.1 s.2.2)) X { q with c := s } := by
  unfold FB at *
  simp [World.setCell, Array.getElem?_modify, h, fc, encF]
theorem fb_setd {W : World} {X : Nat} {q : Fq} (h : FB W X q) (s : SL) : FB (W.setCell ⟨X, 12, none⟩ (.slice s.1 s.2.1 s.2.2)) X { q with d := s } := by
  unfold FB at *
  simp [World.setCell, Array.getElem?_modify, h, fc, encF]
theorem fb_sete {W : World} {X : Nat} {q : Fq} (h : FB W X q) (s : SL) : FB (W.setCell ⟨X, 13, none⟩ (.slice s.1 s.2.1 s.2.2)) X { q with e := s } := by
  unfold FB at *
  simp [World.setCell, Array.getElem?_modify, h, fc, encF]
/-- Lists of IDs lie in other blocks than rows do. -/
theorem EachO.row {S : Nat → Prop} {W : World} {g i : Nat} {u : Value} {cur : Array Value} {t : TypeId} (hg : W.heap[g]? = some (.cells cur t (0, 0))) (ht : t ≠ 24) : ∀ {qs : List Raw} {l : List Row}, EachO S W qs l → EachO S (W.setCell ⟨g, i, none⟩ u) qs l
  | [], [], _ => trivial
  | _ :: _, _ :: _, h => by
    refine ⟨⟨h.1.1, h.1.2.1, ownsRow_on h.1.2.2.1 fun k hk => ?_, h.1.2.2.2⟩, EachO.row hg ht h.2⟩
    refine Below.heap_setCell _ _ _ _ fun e => ?_
    rcases h.1.2.2.1.2 with ⟨h1, _⟩ | ⟨g', cap, cur', h1, _, h2, _⟩
    · rw [h1] at hk; cases hk
    · rw [h1] at hk
      injection hk with hk
      have e2 : g' = g := hk.trans e
      rw [e2, hg] at h2
      injection h2 with h2
      injection h2 with _ h3
      exact ht h3
  | [], _ :: _, h => h.elim
  | _ :: _, [], h => h.elim
theorem In1.row {α : Type} {enc : α → List Value} {sz : Nat} {e : TypeId} {S : Nat → Prop} {W : World} {g i : Nat} {u : Value} {cur : Array Value} {t : TypeId} {v : Value} {l : List α} (h : In1 enc sz e S W v l) (hg : W.heap[g]? = some (.cells cur t (0, 0))) (ht : t ≠ e) : In1 enc sz e S (W.setCell ⟨g, i, none⟩ u) v l := by
  refine ⟨ownsRow_on h.1 fun k hk => ?_, h.2⟩
  refine Below.heap_setCell _ _ _ _ fun e2 => ?_
  rcases h.1.2 with ⟨h1, _⟩ | ⟨g', cap, cur', h1, _, h2, _⟩
  · rw [h1] at hk; cases hk
  · rw [h1] at hk
    injection hk with hk
    have e3 : g' = g := hk.trans e2
    rw [e3, hg] at h2
    injection h2 with h2
    injection h2 with _ h3
    exact ht h3
/-- What stands of the rows while they are copied, one by one. -/
structure ApR (w : World) (q : Fq) (s : SL) (ns os : List Raw) (l : List Row) (W : World) : Prop where
  g : ApG w { q with c := s } W
  rows : In1 encW 4 76 (ApN w) W (.slice s.1 s.2.1 s.2.2) (ns ++ os.drop ns.length)
  each : EachO (ApN w) W ns (l.take ns.length)
theorem mix_at {ns os : List Raw} (h : ns.length < os.length) : ∃ h2 : ns.length < (ns ++ os.drop ns.length).length, (ns ++ os.drop ns.length)[ns.length] = os[ns.length] := by
  refine ⟨by simp; omega, ?_⟩
  rw [List.getElem_append_right (Nat.le_refl _)]
  simp
theorem mix_set {ns os : List Raw} (x : Raw) (h : ns.length < os.length) : (ns ++ os.drop ns.length).set ns.length x = (ns ++ [x]) ++ os.drop (ns ++ [x]).length := by
  rw [List.set_append_right _ _ (Nat.le_refl _), Nat.sub_self, List.drop_eq_getElem_cons h, List.set_cons_zero]
  simp
/-- A row is given its copy. -/
theorem ApR.next {w W : World} {q : Fq} {g n c : Nat} {ns os : List Raw} {l : List Row} (h : ApR w q (some ⟨g, 0, none⟩, n, c) ns os l W) (hr : EachR w os l) (hk : ns.length < os.length) {t : SL} (ht : In1 encI 2 24 (ApN w) W (.slice t.1 t.2.1 t.2.2) (l[ns.length]'(by rw [← hr.len]; exact hk)).2.2) :
    ApR w q (some ⟨g, 0, none⟩, n, c) (ns ++ [((os[ns.length]).1, (os[ns.length]).2.1, t)]) os l (W.setCell ⟨g, ns.length * 4 + 3, none⟩ (.slice t.1 t.2.1 t.2.2)) := by
  obtain ⟨cur, c1, _⟩ := h.rows.cur
  obtain ⟨hm, hx⟩ := mix_at hk
  have hl : ns.length < l.length := by rw [← hr.len]; exact hk
  obtain ⟨e1, e2, _⟩ := hr.at_ ns.length hk hl
  have hgn : ApN w g := h.rows.2 g rfl
  refine ⟨⟨?_, ?_, ?_⟩, ?_, ?_⟩
  · exact (Below.heap_setCell _ _ _ _ (by unfold ApN at hgn; show w.heap.size ≠ g; omega)).trans h.g.x
  · exact (Below.heap_setCell _ _ _ _ (by unfold ApN at hgn; show w.heap.size + 1 ≠ g; omega)).trans h.g.z
  · exact h.g.b.setCell (by unfold ApN at hgn; show w.heap.size ≤ g; omega) _
  · rw [← mix_set _ hk]
    exact h.rows.set encW_len hm (by decide) (by rw [hx]; rfl)
  · have := EachO.snoc (r := l[ns.length]) (q := ((os[ns.length]).1, (os[ns.length]).2.1, t)) ⟨e1, e2, ht.row c1 (by decide)⟩ (EachO.row (u := .slice t.1 t.2.1 t.2.2) (i := ns.length * 4 + 3) c1 (by decide) h.each)
    rw [List.length_append, List.length_singleton, List.take_succ_eq_append_getElem hl]
    exact this
theorem ApR.later {w W W' : World} {q : Fq} {s : SL} {ns os : List Raw} {l : List Row} (h : ApR w q s ns os l W) (hb : Below W.heap.size W W') : ApR w q s ns os l W' := ⟨h.g.step hb, h.rows.later hb, h.each.later hb⟩
theorem ApG.first (w : World) (q : Fq) : ApG w q ((w.alloc (.cells (fc q) 32)).alloc (.cells (fc q0) 32)) :=
  ⟨fb_below (fb_new w q) (below_one _ _), by have := fb_new (w.alloc (.cells (fc q) 32)) q0; simpa using this, below_after (below_one _ _) (below_one _ _) (Nat.le_refl _)⟩
end Go.Proofs.Ytmgiglefabbmcaa
