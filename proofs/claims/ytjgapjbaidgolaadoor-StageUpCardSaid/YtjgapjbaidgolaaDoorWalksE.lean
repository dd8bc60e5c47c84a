/-
  Walks over package stage, continued: paths are followed. No statement is proved in this text; it holds for every input that its premises let by.
-/
import Derived.Test.YtjgapjbaidgolaaDoorWalksD
namespace Go.Proofs.YtjgapjbaidgolaaDoor
open Go.RowKit
/-- What following leaves: the list holds all ways besides. -/
def Followed (B t : Nat) (F : Value) (g cap : Nat) (p : List Nat) (bad : Nat → Prop) (w : World) (v : Value) (L : List (List Nat)) (e : Ending) (w' : World) : Prop :=
  e = .returned (.tuple #[]) ∧ ∃ v' vs', St B t F g cap p bad w' v' vs' L ∧ Turn B g v.ownBlock w w' ∧ Lies w v v'
def ptr (b : Nat) : Value := .pointer (some ⟨b, 0, none⟩)
theorem step_rows {ops : Array Oper} {o : Oper} {a : Act} {K : Act → World → Prop} {Q : Exit → Act → World → Prop} {E : Prop} (hgd : o.guard = none) (s x : Operand)
    (ho : o.op = .call { callee := .builtin .append, args := #[s, x], argTypes := #[31, 31] })
    (W : World) (base gx : Nat) (v u : Value) (vs : List Value) (hs : a.eval s = v) (hx : a.eval x = .slice (some ⟨gx, 0, none⟩) 1 1)
    (hown : Holds W base v vs) (hX : W.heap[gx]? = some (.cells #[u] 27 (0, 0))) (hu : u.oneCell' = true) (hl : vs.length ≤ 99999) (hb : base ≤ W.heap.size)
    (h : ∀ g' cap' w', w'.ownsRow base 27 1 (.slice (some ⟨g', 0, none⟩) (vs.length + 1) cap') (vs.length + 1) (vs ++ [u]) → W.grownBy w' v.ownBlock → Lies W v (.slice (some ⟨g', 0, none⟩) (vs.length + 1) cap') → K (a.put o.dst (.slice (some ⟨g', 0, none⟩) (vs.length + 1) cap')) w') :
    if Region.wanted o (yielded ops a.tmps) = true then Oper.wp Tryd.prog o a W K Q else E := by
  obtain ⟨i0, hi, hz0, hz1, hz2⟩ := info_parts info27
  refine step_append_lies W hgd s x 31 ho base 27 i0 (.slice none 0 0) 1 24 Tryd.underlying31 hi hz0 hz1 hz2 rfl (by decide) v vs.length vs hs hown ⟨gx, 0, none⟩ 1 1 [u] hx rfl
    (World.news_of_block (cs := #[u]) hX) (by simpa using hu) (by decide) (by unfold maxLen; omega) (by omega) hb W.heap.size rfl ?_
  intro g' cap w' h1 h2 h3 _
  refine h _ _ w' h1 h2 ?_
  rcases h3 with e | e
  · exact .inl e.symm
  · exact .inr ⟨g', rfl, by rw [e]; exact Nat.le_refl _⟩
section
variable {B t : Nat} {F : Value} {g cap : Nat} {p : List Nat} {bad : Nat → Prop} {w w1 w2 : World} {v : Value} {vs : List Value} {L : List (List Nat)}
theorem St.holds (h : St B t F g cap p bad w v vs L) (hb : Below w.heap.size w w1) : Holds w1 (B + 3) v vs := row_kept h.row fun k hk => hb.block k (World.ownsRow.lt h.row k hk).2
theorem St.var (h : St B t F g cap p bad w v vs L) (hb : Below w.heap.size w w1) (hg : w1.grownBy w2 v.ownBlock) : w2.heap[B + 1]? = some (.cells #[v] 31 (0, 0)) := by
  have := h.sizes
  rw [hg.block (B + 1) (by have := hb.size; omega) (fun e => by have := (World.ownsRow.lt h.row _ e.symm).1; omega), hb.block (B + 1) (by omega)]
  exact h.out
end
theorem one_free {w : World} {b : Nat} {v : Value} {T : TypeId} (h : w.heap[b]? = some (.cells #[v] T (0, 0))) : w.cell? ⟨b, 0, none⟩ = some v ∧ w.frozen? ⟨b, 0, none⟩ = false := by
  exact ⟨by simp [World.cell?, h], by simp [World.frozen?, h]⟩
theorem one_set {w : World} {b : Nat} {v : Value} {T : TypeId} (h : w.heap[b]? = some (.cells #[v] T (0, 0))) (u : Value) : (w.setCell ⟨b, 0, none⟩ u).heap[b]? = some (.cells #[u] T (0, 0)) := by
  simp [World.setCell, Array.getElem?_modify, h]
set_option maxHeartbeats 2000000 in
theorem follow_leaf (B t : Nat) (F : Value) (g cap n : Nat) (p : List Nat) (bad : Nat → Prop) (w : World) (v : Value) (vs : List Value) (L : List (List Nat)) (a : Nat)
    (h : St B t F g cap p bad w v vs L) (hn : n = p.length) (hp : p.length ≤ 300) (hl : vs.length ≤ 1000) (ht : ((a : Int) == (t : Int)) = true) :
    Calls Tryd.prog 20 #[.int .u8 a, .slice (some ⟨g, 0, none⟩) n cap, .pointer (some ⟨B, 0, none⟩), .pointer (some ⟨B + 1, 0, none⟩), .pointer (some ⟨B + 2, 0, none⟩)] w (Followed B t F g cap p bad w v (L ++ [p])) := by
  have H := Lib.hid h
  have HN := Lib.hid hn
  have c1 : w.cell? ⟨B, 0, none⟩ = some (.int .u8 t) := by simp [World.cell?, h.tgt]
  have HC := Lib.hid fun w' (hb : Below w.heap.size w w') => show w'.cell? ⟨B + 1, 0, none⟩ = some v by
    rw [hb.cell (p := ⟨B + 1, 0, none⟩) (by have := h.sizes; simp; omega)]
    simp [World.cell?, h.out]
  have HP := Lib.hid (show Owns w (B + 3) (.slice (some ⟨g, 0, none⟩) n cap) p by rw [hn]; exact h.path)
  clear h hn
  go_enter Tryd.func20, Tryd.ntmps20
  go_wp2_with fail
  have c0 : w.cell? ⟨B + 1, 0, none⟩ = some v := HC.out _ (Below.refl _ _)
  go_region_law ((first | (go_simp; go_at_call 21; refine (clone_any (B + 3) g n cap p _ (HP.out.below (by first | exact (Below.refl _ _).drew)) HN.out (by omega)).mono ?_; rintro e w1 ⟨gu, cu, rfl, h1, h2⟩; have U1 := Lib.hid h1; have B1 := Lib.hid ((Below.refl w.heap.size w).drew.trans h2); have c1 := HC.out _ B1.out; have c3 := HC.out _ (B1.out.alloc B1.out.size (.cells #[.slice (some ⟨gu, 0, none⟩) n cu] 27)); clear h1 h2) | (refine step_rows (by rfl) (.tmp 12) (.tmp 15) (by rfl) _ (B + 3) w1.heap.size v (.slice (some ⟨gu, 0, none⟩) n cu) vs (by rfl) (by rfl) (H.out.holds (B1.out.alloc B1.out.size _)) (heap_alloc_new w1 _) (by rfl) (by omega) (by have := H.out.sizes; have := B1.out.size; simp; omega) ?_; intro g2 cap2 w2 h1 h2 h3; have O2 := Lib.hid h1; have L2 := Lib.hid h3; have X2 := Lib.hid (H.out.var (B1.out.alloc B1.out.size _) h2); obtain ⟨c2, f2⟩ := one_free X2.out; have G2 := Lib.hid h2; clear h1 h2 h3)))
  all_goals
    have HE := Lib.hid (H.out.leaf (w' := w2.setCell ⟨B + 1, 0, none⟩ (.slice (some ⟨g2, 0, none⟩) (vs.length + 1) cap2)) (B1.out.alloc B1.out.size _) (U1.out.below ((Below.refl _ _).alloc (Nat.le_refl _) _)) O2.out G2.out
      (one_set X2.out _) (fun k hk => Below.heap_setCell _ _ _ _ hk) (by simp [World.setCell]) rfl rfl rfl)
    have HL := Lib.hid (show Lies w v (.slice (some ⟨g2, 0, none⟩) (vs.length + 1) cap2) from (show Lies w v v from .inl rfl).trans L2.out (by have := B1.out.size; simp; omega))
    go_wp2_with fail
    go_end0
    exact ⟨rfl, _, _, HE.out.1, HE.out.2, HL.out⟩
end Go.Proofs.YtjgapjbaidgolaaDoor
