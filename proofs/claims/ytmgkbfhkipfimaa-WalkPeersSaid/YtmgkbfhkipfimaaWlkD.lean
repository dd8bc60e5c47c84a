/-
  A walk in memory: what is left of its sequence; one taken, how many are left, a new one. No statement is proved in this text; it holds for every input that its premises let by.
-/
import Derived.Test.YtmgkbfhkipfimaaWlkC
set_option maxRecDepth 20000
namespace Go.Proofs.Ytmgkbfhkipfimaa
open Go Go.RowKit Sets
variable {T : TypeId} {S S2 S' : Nat → Prop} {W W' w w' : World} {p : Nat} {v : Value} {l : List Id2}
/-- The walk at p: what is left are the IDs of l, in the slice v; its blocks are among S. -/
structure Wk (T : TypeId) (S : Nat → Prop) (W : World) (p : Nat) (v : Value) (l : List Id2) : Prop where
  box : One W p T v
  ids : Ids W v l
  inp : S p
  inv : ∀ g, v.ownBlock = some g → S g
  ne : ∀ g, v.ownBlock = some g → g ≠ p
  lt : ∀ k, S k → k < W.heap.size
theorem Wk.frame (h : Wk T S W p v l) (k : Fr S2 W W') (hd : ∀ k, S k → ¬ S2 k) : Wk T S W' p v l :=
  ⟨(k.same _ (h.lt _ h.inp) (hd _ h.inp)).trans h.box, h.ids.frame k fun g hg => hd _ (h.inv g hg), h.inp, h.inv, h.ne, fun i hi => Nat.lt_of_lt_of_le (h.lt i hi) k.size⟩
theorem Wk.keep (h : Wk T S W p v l) (hb : Below W.heap.size W W') : Wk T S W' p v l := h.frame (S2 := fun _ => False) (.of_below hb) fun _ _ e => e
/-- Another slice is stored. -/
theorem Wk.put (h : Wk T S W p v l) {u : Value} {m : List Id2} (hu : Ids W u m) (h1 : ∀ g, u.ownBlock = some g → g ≠ p ∧ g < W.heap.size) :
    Wk T (fun k => S k ∨ u.ownBlock = some k) (W.setCell ⟨p, 0, none⟩ u) p u m :=
  ⟨one_set h.box u, hu.frame (S := fun i => i = p) (.of_set _ _ rfl) fun g hg => (h1 g hg).1, .inl h.inp, fun _ hg => .inr hg, fun g hg => (h1 g hg).1, fun k hk => by
    have hs : (W.setCell ⟨p, 0, none⟩ u).heap.size = W.heap.size := World.size_setCell _ _ _
    rw [hs]
    rcases hk with hk | hk
    · exact h.lt k hk
    · exact (h1 k hk).2⟩
/-- The walk whose sequence's beginning is taken off. -/
theorem Wk.tail (h : Wk T S W p v l) {u : Value} {m : List Id2} (hu : Ids W u m) (h1 : u.ownBlock = v.ownBlock) : Wk T S (W.setCell ⟨p, 0, none⟩ u) p u m := by
  have := h.put hu fun g hg => ⟨h.ne g (h1 ▸ hg), h.lt g (h.inv g (h1 ▸ hg))⟩
  exact ⟨this.box, this.ids, h.inp, fun g hg => h.inv g (h1 ▸ hg), this.ne, fun k hk => this.lt k (.inl hk)⟩
/-- Some walk at p with l left. -/
def Wl (T : TypeId) (p : Nat) (l : List Id2) (S : Nat → Prop) (W : World) : Prop := ∃ v, Wk T S W p v l
theorem Wl.keep (h : Wl T p l S W) (hb : Below W.heap.size W W') : Wl T p l S W' := by
  obtain ⟨v, h⟩ := h
  exact ⟨v, h.keep hb⟩
theorem Wl.frame (h : Wl T p l S W) (k : Fr S2 W W') (hd : ∀ k, S k → ¬ S2 k) : Wl T p l S W' := by
  obtain ⟨v, h⟩ := h
  exact ⟨v, h.frame k hd⟩
theorem Wl.lt (h : Wl T p l S W) : ∀ k, S k → k < W.heap.size := by
  obtain ⟨v, h⟩ := h
  exact h.lt
theorem Wl.inp (h : Wl T p l S W) : S p := by
  obtain ⟨v, h⟩ := h
  exact h.inp
theorem own_sliced (A : Option Addr) (k h c s : Nat) : (sliced A k h c s).ownBlock = (Value.slice A h c).ownBlock := by
  unfold sliced
  cases A with
  | none => split <;> rfl
  | some ad =>
    split
    · rfl
    · simp [Value.ownBlock, block_of_add]
/-- All but the first one of a list, in the same block. -/
theorem run_rest {w : World} {v : Value} {x : Int × Int} {l : List (Int × Int)} (h : Ids w v (x :: l)) :
    ∃ V, (∀ W, (Instr.slice 27 v (some (.int .i64 1)) none none).run Try.prog W = .ok V W) ∧ Ids w V l ∧ V.ownBlock = v.ownBlock ∧ ∃ A c, V = .slice A l.length c := by
  obtain ⟨A, c, rfl, h0, hc, hx⟩ := id h
  refine ⟨sliced A 1 (l.length + 1) c 2, fun W => ?_, ?_, ?_⟩
  · rw [show (x :: l).length = l.length + 1 from rfl, run_slice_l (w := W) (P := Try.prog) 27 A (l.length + 1) c under29 .i64 1 (by omega) (by omega)]
    rw [elem29, size25]
    rfl
  · have := h.sliced (show 1 ≤ (x :: l).length by simp) (Nat.le_refl _)
    rw [List.take_length] at this
    exact this
  · refine ⟨own_sliced _ _ _ _ _, ?_⟩
    unfold sliced
    split
    · exact ⟨_, _, rfl⟩
    · exact ⟨_, _, rfl⟩
theorem new_any (w : World) : Calls Try.prog 16 #[] w fun e w' => ∃ p S, e = .returned (.pointer (some ⟨p, 0, none⟩)) ∧ Wl 51 p [] S w' ∧ (∀ k, S k → w.heap.size ≤ k) ∧ Below w.heap.size w w' := by
  have HW : Hid (Wl 51 w.heap.size [] (fun k => k = w.heap.size) (w.alloc (.cells #[.slice none 0 0] 51))) := Lib.hid ⟨.slice none 0 0, one_new w 51 _, Ids.nil _, rfl, (fun g hg => by cases hg), (fun g hg => by cases hg), fun k hk => by rw [hk]; simp⟩
  have HB := Lib.hid (below_one w (.cells #[.slice none 0 0] 51))
  go_enter Try.func16, Try.ntmps16
  go_wp2_with fail
  go_ret
  exact ⟨_, _, rfl, HW.out, (fun k hk => by rw [hk]; exact Nat.le_refl _), HB.out⟩
theorem left_any (h : Wl 51 p l S W) : Calls Try.prog 13 #[.pointer (some ⟨p, 0, none⟩)] W fun e w' => e = .returned (.int .i64 l.length) ∧ Below W.heap.size W w' := by
  obtain ⟨v, h⟩ := h
  have c0 := one_cell h.box
  obtain ⟨A, c, rfl, hz⟩ := id h.ids
  clear hz h
  go_enter Try.func13, Try.ntmps13
  go_wp2_with fail
  go_ret
  exact ⟨rfl, Below.refl _ _⟩
theorem left_none (W : World) : Calls Try.prog 13 #[.pointer none] W fun e w' => e = .returned (.int .i64 0) ∧ Below W.heap.size W w' := by
  go_enter Try.func13, Try.ntmps13
  go_wp2_with fail
  go_ret
  exact ⟨rfl, Below.refl _ _⟩
theorem take_any {x : Id2} (h : Wl 51 p (x :: l) S W) : Calls Try.prog 25 #[.pointer (some ⟨p, 0, none⟩)] W fun e w' => e = .returned (.agg #[.int .i64 x.1, .int .i64 x.2]) ∧ Wl 51 p l S w' ∧ Fr S W w' := by
  obtain ⟨v, h⟩ := h
  have H := Lib.hid h
  have c0 := one_cell h.box
  have f0 := one_free h.box
  obtain ⟨V, hV, hI, hO, B, d, hBV⟩ := run_rest h.ids
  obtain ⟨ad, c, rfl, hh⟩ := h.ids.head
  have HH := Lib.hid hh
  subst hBV
  have HI := Lib.hid hI
  have HO := Lib.hid hO
  clear hI hO hh h
  have HN : Hid (∀ k, S k → k < W.heap.size) := Lib.hid H.out.lt
  go_enter Try.func25, Try.ntmps25
  go_upto_region 1 with fail
  have X1 := Lib.hid (box_new W 0 0)
  have B1 := Lib.hid (below_one W (.cells #[.int .i64 0, .int .i64 0] 24))
  have L1 : Hid (W.heap.size < (W.alloc (.cells #[.int .i64 0, .int .i64 0] 24)).heap.size) := Lib.hid (box_lt X1.out)
  clear c0 f0
  generalize W.alloc (.cells #[.int .i64 0, .int .i64 0] 24) = W1 at *
  have H1 := Lib.hid (H.out.keep B1.out)
  have c1 := one_cell H1.out.box
  obtain ⟨k1, k2⟩ := HH.out W1 B1.out
  go_upto_region 2 with fail
  have X2 := Lib.hid (box_new W1 x.1 x.2)
  have B2 := Lib.hid (below_one W1 (.cells #[.int .i64 x.1, .int .i64 x.2] 24))
  have L2 : Hid (W1.heap.size < (W1.alloc (.cells #[.int .i64 x.1, .int .i64 x.2] 24)).heap.size) := Lib.hid (box_lt X2.out)
  clear c1 k1 k2
  generalize W1.alloc (.cells #[.int .i64 x.1, .int .i64 x.2] 24) = W2 at *
  have H2 := Lib.hid (H1.out.keep B2.out)
  have Y2 := Lib.hid (box_below X1.out B2.out)
  have I2 := Lib.hid ((HI.out.below B1.out).below B2.out)
  have E2 := Lib.hid (below_after B1.out B2.out (Nat.le_refl _))
  have c2 := one_cell H2.out.box
  have f2 := one_free H2.out.box
  generalize hg1 : W.heap.size = g1 at *
  generalize hg2 : W1.heap.size = g2 at *
  go_upto_region 3 with fail
  have F3 : Hid (Fr (fun k => k = p) W2 (W2.setCell ⟨p, 0, none⟩ (.slice B l.length d))) := Lib.hid (.of_set _ _ rfl)
  have H3 := Lib.hid (H2.out.tail I2.out HO.out)
  have hp := HN.out _ H.out.inp
  have X3 : Hid (Box (W2.setCell ⟨p, 0, none⟩ (.slice B l.length d)) g2 x.1 x.2) := Lib.hid ((F3.out.same g2 L2.out (by have := L1.out; omega)).trans X2.out)
  have Y3 : Hid (Box (W2.setCell ⟨p, 0, none⟩ (.slice B l.length d)) g1 0 0) := Lib.hid ((F3.out.same g1 (by have := L1.out; have := L2.out; omega) (by omega)).trans Y2.out)
  clear c2 f2
  generalize W2.setCell ⟨p, 0, none⟩ (.slice B l.length d) = W3 at *
  obtain ⟨c3, c4⟩ := box_cells X3.out
  obtain ⟨d3, d4⟩ := box_cells Y3.out
  obtain ⟨f3, f4⟩ := box_free Y3.out
  have Z := Lib.hid (box_set Y3.out x.1 x.2)
  obtain ⟨q0, q1⟩ := box_cells Z.out
  have F4 : Hid (Fr (fun k => k = g1) W3 ((W3.setCell ⟨g1, 0, none⟩ (.int .i64 x.1)).setCell ⟨g1, 1, none⟩ (.int .i64 x.2))) := Lib.hid ((Fr.of_set (S := fun k => k = g1) _ _ rfl).step (.of_set (S := fun k => k = g1) _ _ rfl))
  go_wp2_with fail
  refine bodyPost_ret (v := .agg #[.int .i64 x.1, .int .i64 x.2]) (by simp [results, Try.results25, go_sem, q0, q1]) rfl ?_
  refine ⟨rfl, ⟨_, H3.out.frame F4.out fun k hk e => by have := HN.out k hk; omega⟩, ?_⟩
  refine ((Fr.of_below (S := S) (hg1 ▸ E2.out)).step (F3.out.mono fun k e => e ▸ H.out.inp)).trans F4.out fun i e => .inr (by omega)
end Go.Proofs.Ytmgkbfhkipfimaa
