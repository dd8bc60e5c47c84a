/-
  Carried over and put together: contracts of this program's functions, and plain facts. No statement is proved in this text.
-/
import Derived.Test.YtkeiekljedhllaaGreatF20
set_option maxRecDepth 20000
namespace Go.Proofs.YtkeiekljedhllaaGreat
open Go Go.RowKit
/-- A view whose lists are of the call's own. -/
structure OwnV (W : World) (lo : Nat) (a b c d e : SL) (V : Vw) : Prop where
  m : OwnsR encM 4 35 W lo (.slice a.1 a.2.1 a.2.2) V.m
  f : OwnsI W lo (.slice b.1 b.2.1 b.2.2) V.f
  r : ∃ qs, OwnsR encW 4 37 W lo (.slice c.1 c.2.1 c.2.2) qs ∧ EachOwn W lo qs V.r
  c : OwnsR encT 3 27 W lo (.slice d.1 d.2.1 d.2.2) V.c
  s : OwnsI W lo (.slice e.1 e.2.1 e.2.2) V.s
theorem OwnV.gr {w w' : World} {p g lo : Nat} {s : RS} {a b c d e : SL} {V : Vw} (h : OwnV w lo a b c d e V) (hs : RSt w p g s) (k : Gr p g w w') : OwnV w' lo a b c d e V := by
  obtain ⟨qs, h1, h2⟩ := h.r
  exact ⟨k.owns hs h.m (by decide) (by decide), k.owns hs h.f (by decide) (by decide), ⟨qs, k.owns hs h1 (by decide) (by decide), EachOwn.gr k hs h2⟩, k.owns hs h.c (by decide) (by decide), k.owns hs h.s (by decide) (by decide)⟩
theorem OwnV.write {w w' : World} {lo x : Nat} {a b c d e : SL} {V : Vw} (h : OwnV w lo a b c d e V) {cs : Array Value} {T : TypeId} {fr : Nat × Nat} (hx : w.heap[x]? = some (.cells cs T fr)) (h1 : T ≠ 35) (h2 : T ≠ 24) (h3 : T ≠ 37) (h4 : T ≠ 27) (k : w.grownBy w' (some x)) : OwnV w' lo a b c d e V := by
  obtain ⟨qs, k1, k2⟩ := h.r
  exact ⟨World.ownsRow.kept h.m k (.inr (ownsR_not h.m hx h1)), World.ownsRow.kept h.f k (.inr (ownsR_not h.f hx h2)), ⟨qs, World.ownsRow.kept k1 k (.inr (ownsR_not k1 hx h3)), k2.imp fun _ _ o => ⟨o.1, o.2.1, World.ownsRow.kept o.2.2 k (.inr (ownsR_not o.2.2 hx h2))⟩⟩, World.ownsRow.kept h.c k (.inr (ownsR_not h.c hx h4)), World.ownsRow.kept h.s k (.inr (ownsR_not h.s hx h2))⟩
theorem OwnV.rv {w : World} {lo : Nat} {a b c d e : SL} {V : Vw} (h : OwnV w lo a b c d e V) : RV w a b c d e V := by
  obtain ⟨qs, k1, k2⟩ := h.r
  exact ⟨rcs_owns encM_len h.m, ownsI_ids h.f, ⟨qs, rcs_owns encW_len k1, EachOwn.reads k2⟩, rcs_owns encT_len h.c, ownsI_ids h.s⟩
theorem OwnV.nil (w : World) (lo : Nat) : OwnV w lo (none, 0, 0) (none, 0, 0) (none, 0, 0) (none, 0, 0) (none, 0, 0) ⟨[], [], [], [], []⟩ :=
  ⟨OwnsR.nil _ _ _, OwnsR.nil _ _ _, ⟨[], OwnsR.nil _ _ _, trivial⟩, OwnsR.nil _ _ _, OwnsR.nil _ _ _⟩
theorem OwnV.below {w w' : World} {lo : Nat} {a b c d e : SL} {V : Vw} (h : OwnV w lo a b c d e V) (k : Below w.heap.size w w') : OwnV w' lo a b c d e V := by
  obtain ⟨qs, k1, k2⟩ := h.r
  exact ⟨h.m.below k, h.f.below k, ⟨qs, k1.below k, k2.below k⟩, h.c.below k, h.s.below k⟩
theorem grownSet (w : World) (x j : Nat) (v : Value) : w.grownBy (w.setCell ⟨x, j, none⟩ v) (some x) := ⟨rfl, rfl, rfl, by simp [World.setCell], fun _ _ hne => Below.heap_setCell _ _ _ _ (fun e => hne (by rw [e]))⟩
theorem vbox_put0 {w : World} {g : Nat} {a b c d e : SL} (h : VBox w g a b c d e) (s : SL) : VBox (w.setCell ⟨g, 0, none⟩ (.slice s.1 s.2.1 s.2.2)) g s b c d e := by
  unfold VBox at *
  simp [World.setCell, Array.getElem?_modify, h]
theorem vbox_put1 {w : World} {g : Nat} {a b c d e : SL} (h : VBox w g a b c d e) (s : SL) : VBox (w.setCell ⟨g, 1, none⟩ (.slice s.1 s.2.1 s.2.2)) g a s c d e := by
  unfold VBox at *
  simp [World.setCell, Array.getElem?_modify, h]
theorem vbox_put2 {w : World} {g : Nat} {a b c d e : SL} (h : VBox w g a b c d e) (s : SL) : VBox (w.setCell ⟨g, 2, none⟩ (.slice s.1 s.2.1 s.2.2)) g a b s d e := by
  unfold VBox at *
  simp [World.setCell, Array.getElem?_modify, h]
theorem vbox_put3 {w : World} {g : Nat} {a b c d e : SL} (h : VBox w g a b c d e) (s : SL) : VBox (w.setCell ⟨g, 3, none⟩ (.slice s.1 s.2.1 s.2.2)) g a b c s e := by
  unfold VBox at *
  simp [World.setCell, Array.getElem?_modify, h]
theorem vbox_put4 {w : World} {g : Nat} {a b c d e : SL} (h : VBox w g a b c d e) (s : SL) : VBox (w.setCell ⟨g, 4, none⟩ (.slice s.1 s.2.1 s.2.2)) g a b c d s := by
  unfold VBox at *
  simp [World.setCell, Array.getElem?_modify, h]
theorem vbox_not {w w' : World} {g x : Nat} {a b c d e : SL} (h : VBox w g a b c d e) (k : w.grownBy w' (some x)) (hx : g ≠ x) : VBox w' g a b c d e := (k.block g (vbox_lt h) (fun e => hx (by injection e))).trans h
theorem grown_row (w : World) (x : Nat) (cs : Array Value) : w.grownBy (w.setRow x cs) (some x) := ⟨rfl, rfl, rfl, by simp, fun k _ hne => setRow_other w x k cs (fun e => hne (by rw [e]))⟩
/-- What stands while a view is read. -/
structure ViG (w : World) (p g X Z Y : Nat) (a b c d e : SL) (V : Vw) (W : World) (s : RS) : Prop where
  x : One W X 80 (.pointer (some ⟨p, 0, none⟩))
  z : VBox W Z (none, 0, 0) (none, 0, 0) (none, 0, 0) (none, 0, 0) (none, 0, 0)
  y : VBox W Y a b c d e
  o : OwnV W w.heap.size a b c d e V
  r : RSt W p g s
  gr : Gr p g w W
  n : Z ≠ Y ∧ p ≠ Y ∧ g ≠ Y ∧ w.heap.size ≤ Y
theorem ViG.step {w : World} {p g X Z Y : Nat} {a b c d e : SL} {V : Vw} {W W' : World} {s s' : RS} (h : ViG w p g X Z Y a b c d e V W s) (h1 : RSt W' p g s') (h2 : Gr p g W W') : ViG w p g X Z Y a b c d e V W' s' :=
  ⟨h2.one h.r h.x, h2.kept h.r h.z (by decide) (by decide), h2.kept h.r h.y (by decide) (by decide), h.o.gr h.r h2, h1, h.gr.trans h2, h.n⟩
theorem ViG.put {w : World} {p g X Z Y : Nat} {a b c d e a' b' c' d' e' : SL} {V V' : Vw} {W : World} {s : RS} (h : ViG w p g X Z Y a b c d e V W s) (j : Nat) (v : Value) (hy : VBox (W.setCell ⟨Y, j, none⟩ v) Y a' b' c' d' e') (ho : OwnV (W.setCell ⟨Y, j, none⟩ v) w.heap.size a' b' c' d' e' V') : ViG w p g X Z Y a' b' c' d' e' V' (W.setCell ⟨Y, j, none⟩ v) s := by
  have hx : X ≠ Y := by
    rintro rfl
    have h1 := h.x
    have h2 := h.y
    unfold One at h1
    unfold VBox at h2
    rw [h1] at h2
    injection h2 with h2
    injection h2 with _ ht
    exact absurd ht (by decide)
  exact ⟨((grownSet W Y j v).block X (row_lt h.x) (fun e => hx (by injection e))).trans h.x, vbox_not h.z (grownSet W Y j v) h.n.1, hy, ho, h.r.fresh h.n.2.1 h.n.2.2.1 j v, h.gr.fresh h.n.2.2.2 j v, h.n⟩
/-- A view that is read: its lists are of the call's own. -/
def GaveV (p g : Nat) (V : Vw) (s : RS) (w : World) (e' : Ending) (w' : World) : Prop := ∃ a b c d e : SL, e' = .returned (.agg #[.slice a.1 a.2.1 a.2.2, .slice b.1 b.2.1 b.2.2, .slice c.1 c.2.1 c.2.2, .slice d.1 d.2.1 d.2.2, .slice e.1 e.2.1 e.2.2]) ∧ OwnV w' w.heap.size a b c d e V ∧ RSt w' p g s ∧ Gr p g w w'
theorem vi_start (w : World) (p g : Nat) (s : RS) (h : RSt w p g s) : ViG w p g w.heap.size (w.heap.size + 1) (w.heap.size + 1 + 1) (none, 0, 0) (none, 0, 0) (none, 0, 0) (none, 0, 0) (none, 0, 0) ⟨[], [], [], [], []⟩ (((w.alloc (.cells #[.pointer (some ⟨p, 0, none⟩)] 80)).alloc (.cells #[.slice none 0 0, .slice none 0 0, .slice none 0 0, .slice none 0 0, .slice none 0 0] 33)).alloc (.cells #[.slice none 0 0, .slice none 0 0, .slice none 0 0, .slice none 0 0, .slice none 0 0] 33)) s := by
  have b1 := below_one w (.cells #[.pointer (some ⟨p, 0, none⟩)] 80)
  have b2 := below_one (w.alloc (.cells #[.pointer (some ⟨p, 0, none⟩)] 80)) (.cells #[.slice none 0 0, .slice none 0 0, .slice none 0 0, .slice none 0 0, .slice none 0 0] 33)
  have b3 := below_one ((w.alloc (.cells #[.pointer (some ⟨p, 0, none⟩)] 80)).alloc (.cells #[.slice none 0 0, .slice none 0 0, .slice none 0 0, .slice none 0 0, .slice none 0 0] 33)) (.cells #[.slice none 0 0, .slice none 0 0, .slice none 0 0, .slice none 0 0, .slice none 0 0] 33)
  have h1 : (w.alloc (.cells #[.pointer (some ⟨p, 0, none⟩)] 80)).heap.size = w.heap.size + 1 := by simp
  have h2 : ((w.alloc (.cells #[.pointer (some ⟨p, 0, none⟩)] 80)).alloc (.cells #[.slice none 0 0, .slice none 0 0, .slice none 0 0, .slice none 0 0, .slice none 0 0] 33)).heap.size = w.heap.size + 1 + 1 := by simp
  have hl := h.lt
  refine ⟨one_below (one_below (one_new w 80 _) b2) b3, ?_, ?_, OwnV.nil _ _, ((h.later b1).later b2).later b3, ?_, ?_⟩
  · have := vbox_new (w.alloc (.cells #[.pointer (some ⟨p, 0, none⟩)] 80)) (none, 0, 0) (none, 0, 0) (none, 0, 0) (none, 0, 0) (none, 0, 0)
    rw [h1] at this
    exact vbox_below this b3
  · have := vbox_new ((w.alloc (.cells #[.pointer (some ⟨p, 0, none⟩)] 80)).alloc (.cells #[.slice none 0 0, .slice none 0 0, .slice none 0 0, .slice none 0 0, .slice none 0 0] 33)) (none, 0, 0) (none, 0, 0) (none, 0, 0) (none, 0, 0) (none, 0, 0)
    rw [h2] at this
    exact this
  · exact (((Gr.refl p g w).below b1 (Nat.le_refl _)).below b2 (by rw [h1]; omega)).below b3 (by rw [h2]; omega)
  · omega
set_option maxHeartbeats 8000000 in
theorem rView_any (p g : Nat) (s : RS) (w : World) (h : RSt w p g s) : Calls Tryz.prog 41 #[.pointer (some ⟨p, 0, none⟩)] w (GaveV p g (rView s).1 (rView s).2 w) := by
  have G0 := Lib.hid (vi_start w p g s h)
  have HV : Hid (rView s = (⟨(rList rMem s).1, (rIds (rList rMem s).2).1, (rList rRow (rIds (rList rMem s).2).2).1, (rList rTick (rList rRow (rIds (rList rMem s).2).2).2).1, (rIds (rList rTick (rList rRow (rIds (rList rMem s).2).2).2).2).1⟩, (rIds (rList rTick (rList rRow (rIds (rList rMem s).2).2).2).2).2)) := Lib.hid rfl
  have HP := Lib.hid h.lt
  clear h
  obtain ⟨z0, z1, z2, z3, z4⟩ := vbox_cells G0.out.y
  have x0 := one_cell G0.out.x
  have y := vbox_free G0.out.y
  obtain ⟨y0, y1, y2, y3, y4⟩ := y
  dsimp only at z0 z1 z2 z3 z4
  go_enter Tryz.func41, Tryz.ntmps41
  go_wp2_with fail
  have RC := Lib.hid (rMems_any p g w.heap.size s _ G0.out.r G0.out.x)
  (with_reducible refine RC.out.mono ?_)
  generalize rList rMem s = r1 at *
  obtain ⟨l1, s1⟩ := r1
  dsimp only at *
  rintro e1 w1 ⟨v1, rfl, ho, h1, h2⟩
  obtain ⟨a, rfl⟩ := ownsR_slice ho
  have G1 := Lib.hid (G0.out.step h1 h2)
  have ho2 := ho.mono (show w.heap.size ≤ _ from G0.out.gr.size)
  clear RC
  have HO := G1.out.o.write G1.out.y (by decide) (by decide) (by decide) (by decide) (grownSet _ (w.heap.size + 1 + 1) 0 (.slice a.1 a.2.1 a.2.2))
  have G2 := Lib.hid (G1.out.put 0 (.slice a.1 a.2.1 a.2.2) (vbox_put0 G1.out.y a) (V' := ⟨l1, [], [], [], []⟩) ⟨World.ownsRow.kept ho2 (grownSet _ _ _ _) (.inr (ownsR_not ho2 G1.out.y (by decide))), HO.f, HO.r, HO.c, HO.s⟩)
  clear ho ho2 h1 h2 HO x0 y0 y1 y2 y3 y4 z0 z1 z2 z3 z4
  have x0 := one_cell G1.out.x
  obtain ⟨z0, z1, z2, z3, z4⟩ := vbox_cells G1.out.y
  obtain ⟨y0, y1, y2, y3, y4⟩ := vbox_free G1.out.y
  dsimp only at z0 z1 z2 z3 z4
  go_wp2_with fail
  have RC := Lib.hid (rIds_any p g s1 _ G2.out.r)
  (with_reducible refine RC.out.mono ?_)
  rw [show rList rId s1 = rIds s1 from rfl]
  generalize rIds s1 = r2 at *
  obtain ⟨l2, s2⟩ := r2
  dsimp only at *
  rintro e2 w2 ⟨v2, rfl, ho, h1, h2⟩
  obtain ⟨b, rfl⟩ := ownsR_slice ho
  have G3 := Lib.hid (G2.out.step h1 h2)
  have ho2 := ho.mono (show w.heap.size ≤ _ from G2.out.gr.size)
  clear RC
  have HO := G3.out.o.write G3.out.y (by decide) (by decide) (by decide) (by decide) (grownSet _ (w.heap.size + 1 + 1) 1 (.slice b.1 b.2.1 b.2.2))
  have G4 := Lib.hid (G3.out.put 1 (.slice b.1 b.2.1 b.2.2) (vbox_put1 G3.out.y b) (V' := ⟨l1, l2, [], [], []⟩) ⟨HO.m, World.ownsRow.kept ho2 (grownSet _ _ _ _) (.inr (ownsR_not ho2 G3.out.y (by decide))), HO.r, HO.c, HO.s⟩)
  clear ho ho2 h1 h2 HO x0 y0 y1 y2 y3 y4 z0 z1 z2 z3 z4
  have x0 := one_cell G3.out.x
  obtain ⟨z0, z1, z2, z3, z4⟩ := vbox_cells G3.out.y
  obtain ⟨y0, y1, y2, y3, y4⟩ := vbox_free G3.out.y
  dsimp only at z0 z1 z2 z3 z4
  go_wp2_with fail
  have RC := Lib.hid (rRows_any p g w.heap.size s2 _ G4.out.r G4.out.x)
  (with_reducible refine RC.out.mono ?_)
  generalize rList rRow s2 = r3 at *
  obtain ⟨l3, s3⟩ := r3
  dsimp only at *
  rintro e3 w3 ⟨v3, qs, rfl, ho, he, h1, h2⟩
  obtain ⟨c, rfl⟩ := ownsR_slice ho
  have G5 := Lib.hid (G4.out.step h1 h2)
  have ho2 := ho.mono (show w.heap.size ≤ _ from G4.out.gr.size)
  have he2 := he.mono (show w.heap.size ≤ _ from G4.out.gr.size)
  clear RC
  have HO := G5.out.o.write G5.out.y (by decide) (by decide) (by decide) (by decide) (grownSet _ (w.heap.size + 1 + 1) 2 (.slice c.1 c.2.1 c.2.2))
  have G6 := Lib.hid (G5.out.put 2 (.slice c.1 c.2.1 c.2.2) (vbox_put2 G5.out.y c) (V' := ⟨l1, l2, l3, [], []⟩) ⟨HO.m, HO.f, ⟨qs, World.ownsRow.kept ho2 (grownSet _ _ _ _) (.inr (ownsR_not ho2 G5.out.y (by decide))), he2.imp fun _ _ o => ⟨o.1, o.2.1, World.ownsRow.kept o.2.2 (grownSet _ _ _ _) (.inr (ownsR_not o.2.2 G5.out.y (by decide)))⟩⟩, HO.c, HO.s⟩)
  clear ho ho2 h1 h2 HO x0 y0 y1 y2 y3 y4 z0 z1 z2 z3 z4 he he2
  have x0 := one_cell G5.out.x
  obtain ⟨z0, z1, z2, z3, z4⟩ := vbox_cells G5.out.y
  obtain ⟨y0, y1, y2, y3, y4⟩ := vbox_free G5.out.y
  dsimp only at z0 z1 z2 z3 z4
  go_wp2_with fail
  have RC := Lib.hid (rTicks_any p g w.heap.size s3 _ G6.out.r G6.out.x)
  (with_reducible refine RC.out.mono ?_)
  generalize rList rTick s3 = r4 at *
  obtain ⟨l4, s4⟩ := r4
  dsimp only at *
  rintro e4 w4 ⟨v4, rfl, ho, h1, h2⟩
  obtain ⟨d, rfl⟩ := ownsR_slice ho
  have G7 := Lib.hid (G6.out.step h1 h2)
  have ho2 := ho.mono (show w.heap.size ≤ _ from G6.out.gr.size)
  clear RC
  have HO := G7.out.o.write G7.out.y (by decide) (by decide) (by decide) (by decide) (grownSet _ (w.heap.size + 1 + 1) 3 (.slice d.1 d.2.1 d.2.2))
  have G8 := Lib.hid (G7.out.put 3 (.slice d.1 d.2.1 d.2.2) (vbox_put3 G7.out.y d) (V' := ⟨l1, l2, l3, l4, []⟩) ⟨HO.m, HO.f, HO.r, World.ownsRow.kept ho2 (grownSet _ _ _ _) (.inr (ownsR_not ho2 G7.out.y (by decide))), HO.s⟩)
  clear ho ho2 h1 h2 HO x0 y0 y1 y2 y3 y4 z0 z1 z2 z3 z4
  have x0 := one_cell G7.out.x
  obtain ⟨z0, z1, z2, z3, z4⟩ := vbox_cells G7.out.y
  obtain ⟨y0, y1, y2, y3, y4⟩ := vbox_free G7.out.y
  dsimp only at z0 z1 z2 z3 z4
  go_wp2_with fail
  have RC := Lib.hid (rIds_any p g s4 _ G8.out.r)
  (with_reducible refine RC.out.mono ?_)
  rw [show rList rId s4 = rIds s4 from rfl]
  generalize rIds s4 = r5 at *
  obtain ⟨l5, s5⟩ := r5
  dsimp only at *
  rintro e5 w5 ⟨v5, rfl, ho, h1, h2⟩
  obtain ⟨e, rfl⟩ := ownsR_slice ho
  have G9 := Lib.hid (G8.out.step h1 h2)
  have ho2 := ho.mono (show w.heap.size ≤ _ from G8.out.gr.size)
  clear RC
  have HO := G9.out.o.write G9.out.y (by decide) (by decide) (by decide) (by decide) (grownSet _ (w.heap.size + 1 + 1) 4 (.slice e.1 e.2.1 e.2.2))
  have G10 := Lib.hid (G9.out.put 4 (.slice e.1 e.2.1 e.2.2) (vbox_put4 G9.out.y e) (V' := ⟨l1, l2, l3, l4, l5⟩) ⟨HO.m, HO.f, HO.r, HO.c, World.ownsRow.kept ho2 (grownSet _ _ _ _) (.inr (ownsR_not ho2 G9.out.y (by decide)))⟩)
  clear ho ho2 h1 h2 HO x0 y0 y1 y2 y3 y4 z0 z1 z2 z3 z4
  obtain ⟨z0, z1, z2, z3, z4⟩ := vbox_cells G9.out.y
  obtain ⟨y0, y1, y2, y3, y4⟩ := vbox_free G9.out.y
  dsimp only at z0 z1 z2 z3 z4
  have HQ := Lib.hid G10.out.n
  have HS := Lib.hid (show (Tryz.prog.info? 33).map (·.size) = some 5 by kernel_rfl)
  have HY1 := Lib.hid (show (w5.setCell ⟨w.heap.size + 1 + 1, 4, none⟩ (.slice e.1 e.2.1 e.2.2)).heap[w.heap.size + 1 + 1]? = some (.cells #[.slice a.1 a.2.1 a.2.2, .slice b.1 b.2.1 b.2.2, .slice c.1 c.2.1 c.2.2, .slice d.1 d.2.1 d.2.2, .slice e.1 e.2.1 e.2.2] 33 (0, 0)) from G10.out.y)
  have HZ1 := Lib.hid (show (w5.setCell ⟨w.heap.size + 1 + 1, 4, none⟩ (.slice e.1 e.2.1 e.2.2)).heap[w.heap.size + 1]? = some (.cells #[.slice none 0 0, .slice none 0 0, .slice none 0 0, .slice none 0 0, .slice none 0 0] 33 (0, 0)) from G10.out.z)
  go_wp2_with (first
    | (refine wpList_load_row rfl 33 _ rfl (w.heap.size + 1 + 1) rfl 33 #[.slice a.1 a.2.1 a.2.2, .slice b.1 b.2.1 b.2.2, .slice c.1 c.2.1 c.2.2, .slice d.1 d.2.1 d.2.2, .slice e.1 e.2.1 e.2.2] (0, 0) _ HY1.out Tryz.underlying33 rfl HS.out ?_)
    | (refine wpList_store_row rfl 33 _ _ rfl (w.heap.size + 1) #[.slice a.1 a.2.1 a.2.2, .slice b.1 b.2.1 b.2.2, .slice c.1 c.2.1 c.2.2, .slice d.1 d.2.1 d.2.2, .slice e.1 e.2.1 e.2.2] rfl rfl 33 #[.slice none 0 0, .slice none 0 0, .slice none 0 0, .slice none 0 0, .slice none 0 0] HZ1.out HS.out rfl (by simp [Value.oneCell']) ?_))
  have HG := Lib.hid (grown_row (w5.setCell ⟨w.heap.size + 1 + 1, 4, none⟩ (.slice e.1 e.2.1 e.2.2)) (w.heap.size + 1) #[.slice a.1 a.2.1 a.2.2, .slice b.1 b.2.1 b.2.2, .slice c.1 c.2.1 c.2.2, .slice d.1 d.2.1 d.2.2, .slice e.1 e.2.1 e.2.2])
  refine bodyPost_ret (results_cell_row rfl _ _ (w.heap.size + 1) 33 #[.slice a.1 a.2.1 a.2.2, .slice b.1 b.2.1 b.2.2, .slice c.1 c.2.1 c.2.2, .slice d.1 d.2.1 d.2.2, .slice e.1 e.2.1 e.2.2] (0, 0) _ rfl (setRow_heap _ _ _ _ _ _ HZ1.out) Tryz.underlying33 rfl HS.out) rfl ?_
  rw [HV.out]
  have hn := HQ.out
  have hp : p < w.heap.size ∧ g < w.heap.size := HP.out
  refine ⟨a, b, c, d, e, rfl, G10.out.o.write G10.out.z (by decide) (by decide) (by decide) (by decide) HG.out, ⟨(HG.out.block p G10.out.r.lt.1 (fun e => by injection e with e; omega)).trans G10.out.r.x, (HG.out.block g G10.out.r.lt.2 (fun e => by injection e with e; omega)).trans G10.out.r.r⟩, ?_⟩
  exact ⟨HG.out.os.trans G10.out.gr.os, HG.out.tape.trans G10.out.gr.tape, HG.out.output.trans G10.out.gr.output, Nat.le_trans G10.out.gr.size HG.out.size, fun k hk h1 h2 => (HG.out.block k (Nat.lt_of_lt_of_le hk G10.out.gr.size) (fun e => by injection e with e; omega)).trans (G10.out.gr.block k hk h1 h2)⟩
end Go.Proofs.YtkeiekljedhllaaGreat
