/-
  Lists of one's own that are written over, beside walks. No statement is proved in this text.
-/
import Derived.Test.YtmgkbfhkipfimaaWlkK
set_option maxRecDepth 20000
namespace Go.Proofs.Ytmgkbfhkipfimaa
open Go Go.RowKit Sets
variable {P1 P2 P3 P4 : (Nat → Prop) → World → Prop} {S S1 S2 S3 S4 S' : Nat → Prop} {w W W' : World} {v : Value} {l : List Id2}
theorem RowV.frame {b : Nat} (h : RowV W b v l) (k : Fr S W W') (hv : ∀ g, v.ownBlock = some g → ¬ S g) : RowV W' b v l := by
  rcases h with h | ⟨g, c, rfl, h1, h2, h3⟩
  · exact .inl h
  · exact .inr ⟨g, c, rfl, h1, h2, rowAtR_block h3 k.size (k.same g h3.1 (hv g rfl))⟩
/-- A list of one's own that may be written over. -/
def RwP (v : Value) (l : List Id2) : (Nat → Prop) → World → Prop := fun S W => RowV W 0 v l ∧ (∀ g, v.ownBlock = some g → S g) ∧ ∀ k, S k → k < W.heap.size
theorem fdRw (v : Value) (l : List Id2) : Fd (RwP v l) :=
  ⟨fun h k hd => ⟨h.1.frame k fun g hg => hd g (h.2.1 g hg), h.2.1, fun i hi => Nat.lt_of_lt_of_le (h.2.2 i hi) k.size⟩, fun h => h.2.2⟩
/-- A new one. -/
theorem rw_new {b : Nat} (h : RowV W' b v l) : RwP v l (fun k => v.ownBlock = some k) W' :=
  ⟨h.mono (Nat.zero_le _), fun _ hg => hg, fun _ hk => (h.own hk).2⟩
theorem rw_lo {b : Nat} (h : RowV W' b v l) : ∀ k, v.ownBlock = some k → b ≤ k := fun _ hk => (h.own hk).1
/-- The third one's list stands while the first one's blocks are written. -/
theorem Four.mine (h : Four w W P1 P2 (RwP v l) P4 S1 S2 S3 S4) : ∀ W', Fr S1 W W' → Ids W' v l := fun _ k =>
  h.c.1.ids.frame k fun g hg e => h.ac g e (h.c.2.1 g hg)
theorem rw_ids (h : RwP v l S W) : Ids W v l := h.1.ids
/-- One of it is written over. -/
theorem rw_put {g n c k : Nat} {a i : Int} (h : RwP (.slice (some ⟨g, 0, none⟩) n c) l S W) (hk : k < l.length) :
    RwP (.slice (some ⟨g, 0, none⟩) n c) (l.set k (a, i)) S ((W.setCell ⟨g, k * 2, none⟩ (.int .i64 a)).setCell ⟨g, k * 2 + 1, none⟩ (.int .i64 i)) ∧
      Upd S W ((W.setCell ⟨g, k * 2, none⟩ (.int .i64 a)).setCell ⟨g, k * 2 + 1, none⟩ (.int .i64 i)) S := by
  obtain ⟨h1, h2, h3⟩ := h
  have hS : S g := h2 g rfl
  have hF : Fr S W ((W.setCell ⟨g, k * 2, none⟩ (.int .i64 a)).setCell ⟨g, k * 2 + 1, none⟩ (.int .i64 i)) := (Fr.of_set (S := S) _ _ hS).step (.of_set (S := S) _ _ hS)
  refine ⟨⟨?_, h2, fun j hj => Nat.lt_of_lt_of_le (h3 j hj) hF.size⟩, .of_fr hF⟩
  rcases h1 with ⟨e, _⟩ | ⟨g', c', e, q1, q2, q3⟩
  · cases e
  · injection e with e1 e2 e3
    injection e1 with e1
    injection e1 with e1
    subst e1 e2 e3
    exact .inr ⟨g, c, by rw [List.length_set], by rw [List.length_set]; exact q1, Nat.zero_le _, rowJ_set q3 hk a i⟩
/-- Its cells. -/
theorem rw_cells {A : Option Addr} {n c k : Nat} (h : RwP (.slice A n c) l S W) (hk : k < l.length) : ∃ g, A = some ⟨g, 0, none⟩ ∧ ((∃ u, W.cell? ⟨g, k * 2, none⟩ = some u) ∧ ∃ u, W.cell? ⟨g, k * 2 + 1, none⟩ = some u) ∧ W.frozen? ⟨g, k * 2, none⟩ = false ∧ W.frozen? ⟨g, k * 2 + 1, none⟩ = false := by
  rcases h.1 with ⟨e, rfl⟩ | ⟨g, c', e, q1, q2, q3⟩
  · simp at hk
  · injection e with e1 e2 e3
    obtain ⟨⟨a1, a2⟩, a3, a4⟩ := rowJ_cells q3 hk
    exact ⟨g, e1, ⟨⟨_, a1⟩, _, a2⟩, a3, a4⟩
theorem Four.two {q : Nat} {m : List Id2} (h : Four w W (WlP 51 q m) P2 P3 P4 S1 S2 S3 S4) : Four w W (WlP 51 q m) P2 NoP NoP S1 S2 (fun _ => False) (fun _ => False) := h.drop
/-- The document's walk, new. -/
theorem ref_new (W : World) : Wl 39 W.heap.size [] (fun k => k = W.heap.size) (W.alloc (.cells #[.slice none 0 0] 39)) :=
  ⟨.slice none 0 0, one_new W 39 _, Ids.nil _, rfl, (fun g hg => by cases hg), (fun g hg => by cases hg), fun k hk => by rw [hk]; simp⟩
/-- What the document's walk's box holds. -/
theorem wl_cell {T : TypeId} {p : Nat} (h : Wl T p l S W) : ∃ A c, ∀ W', Below W.heap.size W W' → W'.cell? ⟨p, 0, none⟩ = some (.slice A l.length c) := by
  obtain ⟨v, h⟩ := h
  obtain ⟨A, c, rfl, _⟩ := id h.ids
  exact ⟨A, c, fun W' hb => one_cell (h.keep hb).box⟩
end Go.Proofs.Ytmgkbfhkipfimaa
