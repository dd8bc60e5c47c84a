/-
  Walks over what the statements call: lists of members and floors, made, joined, compared, asked whether they are large. No statement is proved in this text; it holds for every input that its premises let by.
-/
import Derived.Test.YtciolhpkhblnbaaSame
namespace Go.Proofs.Ytciolhpkhblnbaa
open Go Go.RowKit Ros
/-- The value v is a list of members and floors, and reads as L. -/
def LsAt (w : World) (v : Value) (L : Ls) : Prop := ∃ A c B d, v = .agg #[.slice A L.1.length c, .slice B L.2.length d] ∧ Ms w (.slice A L.1.length c) L.1 ∧ Ids w (.slice B L.2.length d) L.2
theorem LsAt.below {w w' : World} {v : Value} {L : Ls} (h : LsAt w v L) (hb : Below w.heap.size w w') : LsAt w' v L := by
  obtain ⟨A, c, B, d, e, h1, h2⟩ := h
  exact ⟨A, c, B, d, e, h1.below hb, h2.below hb⟩
theorem lsAt_of {w : World} {V U : Value} {m : List Mm} {f : List Id2} (h : Ms w V m) (k : Ids w U f) : LsAt w (.agg #[V, U]) (m, f) := by
  obtain ⟨A, c, rfl, hz⟩ := id h
  obtain ⟨B, d, rfl, hy⟩ := id k
  exact ⟨A, c, B, d, rfl, h, k⟩
theorem Lies.ms {b0 : Nat} {w : World} {V : Value} {l : List Mm} (h : Lies b0 w V l) : Ms w V l := h.reads
/-- Block g holds a list of members and floors. -/
def LBox (w : World) (g : Nat) (V U : Value) : Prop := w.heap[g]? = some (.cells #[V, U] 27 (0, 0))
theorem lbox_cells {w : World} {g : Nat} {V U : Value} (h : LBox w g V U) : w.cell? ⟨g, 0, none⟩ = some V ∧ w.cell? ⟨g, 1, none⟩ = some U := by
  unfold LBox at h
  exact ⟨by rw [cell_of_row _ _ 0 _ _ _ h]; rfl, by rw [cell_of_row _ _ 1 _ _ _ h]; rfl⟩
theorem lbox_free {w : World} {g : Nat} {V U : Value} (h : LBox w g V U) : w.frozen? ⟨g, 0, none⟩ = false ∧ w.frozen? ⟨g, 1, none⟩ = false := by
  unfold LBox at h
  exact ⟨by simp [World.frozen?, h], by simp [World.frozen?, h]⟩
theorem lbox_new (w : World) (V U : Value) : LBox (w.alloc (.cells #[V, U] 27)) w.heap.size V U := heap_alloc_new w _
theorem lbox_lt {w : World} {g : Nat} {V U : Value} (h : LBox w g V U) : g < w.heap.size := row_lt h
theorem lbox_below {w w' : World} {g : Nat} {V U : Value} (h : LBox w g V U) (hb : Below w.heap.size w w') : LBox w' g V U := (hb.block _ (lbox_lt h)).trans h
theorem lbox_set {w : World} {g : Nat} {V U : Value} (h : LBox w g V U) (V' U' : Value) : LBox ((w.setCell ⟨g, 0, none⟩ V').setCell ⟨g, 1, none⟩ U') g V' U' := by
  unfold LBox at *
  simp [World.setCell, Array.getElem?_modify, h]
theorem mbox_set {w : World} {g : Nat} {a i s n : Int} (h : MBox w g a i s n) (a' i' s' n' : Int) : MBox ((((w.setCell ⟨g, 0, none⟩ (.int .i64 a')).setCell ⟨g, 1, none⟩ (.int .i64 i')).setCell ⟨g, 2, none⟩ (.int .u8 s')).setCell ⟨g, 3, none⟩ (.int .i64 n')) g a' i' s' n' := by
  unfold MBox at *
  simp [World.setCell, Array.getElem?_modify, h]
theorem below_box {b0 : Nat} {a w : World} (h : Below b0 a w) (o : Obj) (hb : b0 ≤ a.heap.size) : Below b0 a (w.alloc o) := h.alloc (Nat.le_trans hb h.size) o
theorem Lies.grown {b0 r : Nat} {w w' : World} {V : Value} {l : List Mm} (h : Lies b0 w V l) (hb : w.grownBy w' (some r)) (hr : r < b0) : Lies b0 w' V l := by
  obtain ⟨d, g, c, hv, hc, hg, hd, hl⟩ := h
  exact ⟨d, g, c, hv, hc, hg, rowAtR_grown hd hb (by omega), hl⟩
theorem owns_grown {b0 r : Nat} {w w' : World} {v : Value} {l : List Id2} (h : Owns w b0 v l) (hb : w.grownBy w' (some r)) (hr : r < b0) : Owns w' b0 v l := by
  refine World.ownsRow.kept h hb ?_
  rcases hv : v.ownBlock with _ | k
  · exact .inl rfl
  · have := (World.ownsRow.lt h k hv).1
    refine .inr fun e => ?_
    injection e with e
    omega
theorem one_any (a i s n : Int) (w : World) :
    Calls Try.prog 12 #[.int .i64 a, .int .i64 i, .int .u8 s, .int .i64 n] w fun e w' => e = .returned (.agg #[.int .i64 a, .int .i64 i, .int .u8 s, .int .i64 n]) ∧ Below w.heap.size w w' := by
  have BB := Lib.hid (below_one w (.cells #[.int .i64 a, .int .i64 i, .int .u8 s, .int .i64 n] 32))
  obtain ⟨c1, c2, c3, c4⟩ := mbox_cells (mbox_new w 0 0 0 0)
  obtain ⟨f1, f2, f3, f4⟩ := mbox_free (mbox_new w 0 0 0 0)
  go_enter Try.func12, Try.ntmps12
  go_wp2_with fail
  refine bodyPost_ret (v := .agg #[.int .i64 a, .int .i64 i, .int .u8 s, .int .i64 n]) (by simp [results, Try.results12, go_sem]) rfl ?_
  exact ⟨rfl, BB.out⟩
theorem low_any (a i : Int) (w : World) :
    Calls Try.prog 13 #[.int .i64 a, .int .i64 i] w fun e w' => ∃ V, e = .returned V ∧ Ids w' V [(a, i)] ∧ Below w.heap.size w w' := by
  have X := Lib.hid (ids_one w a i)
  have BB := Lib.hid (below_one w (.cells #[.int .i64 a, .int .i64 i] 30))
  go_enter Try.func13, Try.ntmps13
  go_wp2_with fail
  go_ret
  exact ⟨_, rfl, X.out, BB.out⟩
theorem of_any (v : Value) (l : List Mm) (w : World) (h : Ms w v l) :
    Calls Try.prog 11 #[v] w fun e w' => ∃ V, e = .returned V ∧ LsAt w' V (l, []) ∧ Below w.heap.size w w' := by
  have HI := Lib.hid h
  obtain ⟨A, c, rfl, hz⟩ := h
  clear hz
  have BB := Lib.hid (below_one w (.cells #[.slice A l.length c, .slice none 0 0] 27))
  obtain ⟨c1, c2⟩ := lbox_cells (lbox_new w (.slice none 0 0) (.slice none 0 0))
  obtain ⟨f1, f2⟩ := lbox_free (lbox_new w (.slice none 0 0) (.slice none 0 0))
  go_enter Try.func11, Try.ntmps11
  go_wp2_with fail
  refine bodyPost_ret (v := .agg #[.slice A l.length c, .slice none 0 0]) (by simp [results, Try.results11, go_sem]) rfl ?_
  exact ⟨_, rfl, lsAt_of (HI.out.below BB.out) (Ids.nil _), BB.out⟩
set_option maxHeartbeats 4000000 in
theorem joinL_apart (v u : Value) (a b : Ls) (w : World) (h : LsAt w v a) (k : LsAt w u b) (hm : a.1.length + b.1.length ≤ 40000) (hf : a.2.length + b.2.length ≤ 40000) :
    Calls Try.prog 22 #[v, u] w fun e w' => ∃ V U hi, e = .returned (.agg #[V, U]) ∧ Lies w.heap.size w' V (joinL a b).1 ∧ (∀ (g a c : Nat), V = .slice (some ⟨g, 0, none⟩) a c → g < hi) ∧ w.heap.size ≤ hi ∧ Owns w' hi U (joinL a b).2 ∧ Below w.heap.size w w' := by
  obtain ⟨m, f⟩ := a
  obtain ⟨n, g⟩ := b
  obtain ⟨A, c, B, d, rfl, h1, h2⟩ := h
  obtain ⟨A', c', B', d', rfl, k1, k2⟩ := k
  have X1 := Lib.hid (lbox_below (lbox_below (lbox_new w (.slice A m.length c) (.slice B f.length d)) (below_one _ (.cells #[.slice A' n.length c', .slice B' g.length d'] 27))) (below_one _ (.cells #[.slice none 0 0, .slice none 0 0] 27)))
  have X2 := Lib.hid (lbox_below (lbox_new (w.alloc (.cells #[.slice A m.length c, .slice B f.length d] 27)) (.slice A' n.length c') (.slice B' g.length d')) (below_one _ (.cells #[.slice none 0 0, .slice none 0 0] 27)))
  have X3 := Lib.hid (lbox_new ((w.alloc (.cells #[.slice A m.length c, .slice B f.length d] 27)).alloc (.cells #[.slice A' n.length c', .slice B' g.length d'] 27)) (.slice none 0 0) (.slice none 0 0))
  have BB := Lib.hid (below_box (below_two w (.cells #[.slice A m.length c, .slice B f.length d] 27) (.cells #[.slice A' n.length c', .slice B' g.length d'] 27)) (.cells #[.slice none 0 0, .slice none 0 0] 27) (Nat.le_refl _))
  have H1 := Lib.hid (h1.below BB.out)
  have H2 := Lib.hid (h2.below BB.out)
  have H3 := Lib.hid (k1.below BB.out)
  have H4 := Lib.hid (k2.below BB.out)
  have HM : Hid (m.length + n.length ≤ 40000) := Lib.hid hm
  have HF : Hid (f.length + g.length ≤ 40000) := Lib.hid hf
  clear h1 h2 k1 k2 hm hf
  simp only [World.size_alloc] at X2 X3
  obtain ⟨a1, a2⟩ := lbox_cells X1.out
  obtain ⟨b1, b2⟩ := lbox_cells X2.out
  go_enter Try.func22, Try.ntmps22
  go_wp2_with fail
  (with_reducible refine (join_apart _ _ _ _ m n f g _ H1.out H2.out H3.out H4.out HM.out HF.out).mono ?_)
  rintro e w1 ⟨V, U, hi, rfl, hV, hlt, hhi, hU, hb⟩
  have HLT := Lib.hid hlt
  have HHI := Lib.hid hhi
  clear hlt hhi
  obtain ⟨D, gv, cv, rfl, hr⟩ := id hV
  obtain ⟨Au, cu, rfl, hu⟩ := id (ids_of_owns hU)
  rw [joinP_is] at hV hU
  have Y3 := Lib.hid (lbox_below X3.out hb)
  have HV := Lib.hid hV
  have HU := Lib.hid hU
  have B1 := Lib.hid (below_after BB.out hb (Nat.le_refl _))
  have HS := Lib.hid BB.out.size
  have HN := Lib.hid hb.size
  rw [joinP_is]
  clear a1 a2 b1 b2 hr hu hb hV hU
  obtain ⟨c1, c2⟩ := lbox_cells Y3.out
  obtain ⟨f1, f2⟩ := lbox_free Y3.out
  go_wp2_with fail
  obtain ⟨q0, q1⟩ := lbox_cells (lbox_set Y3.out (.slice (some ⟨gv, 0, none⟩) D.size cv) (.slice Au (joinL (m, f) (n, g)).2.length cu))
  refine bodyPost_ret (v := .agg #[.slice (some ⟨gv, 0, none⟩) D.size cv, .slice Au (joinL (m, f) (n, g)).2.length cu]) (by simp [results, Try.results22, go_sem, q0, q1]) rfl ?_
  have hX : w.heap.size + 1 + 1 < (((w.alloc (.cells #[.slice A m.length c, .slice B f.length d] 27)).alloc (.cells #[.slice A' n.length c', .slice B' g.length d'] 27)).alloc (.cells #[.slice none 0 0, .slice none 0 0] 27)).heap.size := by simp
  have G := grown_setCells (World.grownBy.refl w1 (some (w.heap.size + 1 + 1))) 0 [.slice (some ⟨gv, 0, none⟩) D.size cv, .slice Au (joinL (m, f) (n, g)).2.length cu]
  exact ⟨_, _, hi, rfl, (HV.out.grown G hX).mono HS.out, HLT.out, Nat.le_trans HS.out HHI.out, owns_grown HU.out G (Nat.lt_of_lt_of_le hX HHI.out), below_setCells B1.out (by omega) 0 [.slice (some ⟨gv, 0, none⟩) D.size cv, .slice Au (joinL (m, f) (n, g)).2.length cu]⟩
theorem joinL_any (v u : Value) (a b : Ls) (w : World) (h : LsAt w v a) (k : LsAt w u b) (hm : a.1.length + b.1.length ≤ 40000) (hf : a.2.length + b.2.length ≤ 40000) :
    Calls Try.prog 22 #[v, u] w fun e w' => ∃ V U, e = .returned (.agg #[V, U]) ∧ Lies w.heap.size w' V (joinL a b).1 ∧ Owns w' w.heap.size U (joinL a b).2 ∧ Below w.heap.size w w' :=
  (joinL_apart v u a b w h k hm hf).mono fun _ _ ⟨V, U, _, h1, h2, _, h4, h5, h6⟩ => ⟨V, U, h1, h2, owns_mono h5 h4, h6⟩
/-- The same lists? -/
def sameL (a b : Ls) : Bool := decide (a.1 = b.1) && decide (a.2 = b.2)
theorem sameL_refl (a : Ls) : sameL a a = true := by simp [sameL]
theorem joinL_ls (v u : Value) (a b : Ls) (w : World) (h : LsAt w v a) (k : LsAt w u b) (hm : a.1.length + b.1.length ≤ 40000) (hf : a.2.length + b.2.length ≤ 40000) :
    Calls Try.prog 22 #[v, u] w fun e w' => ∃ V, e = .returned V ∧ LsAt w' V (joinL a b) ∧ Below w.heap.size w w' :=
  (joinL_any v u a b w h k hm hf).mono fun _ _ ⟨_, _, e1, h1, h2, h3⟩ => ⟨_, e1, lsAt_of h1.reads (ids_of_owns h2), h3⟩
set_option maxHeartbeats 4000000 in
theorem sameL_any (v u : Value) (a b : Ls) (w : World) (h : LsAt w v a) (k : LsAt w u b) (ha : a.1.length ≤ 100000 ∧ a.2.length ≤ 100000) (hb : b.1.length ≤ 100000 ∧ b.2.length ≤ 100000) :
    Calls Try.prog 23 #[v, u] w fun e w' => e = .returned (.bool (sameL a b)) ∧ Below w.heap.size w w' := by
  obtain ⟨m, f⟩ := a
  obtain ⟨n, g⟩ := b
  obtain ⟨A, c, B, d, rfl, h1, h2⟩ := h
  obtain ⟨A', c', B', d', rfl, k1, k2⟩ := k
  have X1 := Lib.hid (lbox_below (lbox_new w (.slice A m.length c) (.slice B f.length d)) (below_one _ (.cells #[.slice A' n.length c', .slice B' g.length d'] 27)))
  have X2 := Lib.hid (lbox_new (w.alloc (.cells #[.slice A m.length c, .slice B f.length d] 27)) (.slice A' n.length c') (.slice B' g.length d'))
  have BB := Lib.hid (below_two w (.cells #[.slice A m.length c, .slice B f.length d] 27) (.cells #[.slice A' n.length c', .slice B' g.length d'] 27))
  have H1 := Lib.hid (h1.below BB.out)
  have H2 := Lib.hid (h2.below BB.out)
  have H3 := Lib.hid (k1.below BB.out)
  have H4 := Lib.hid (k2.below BB.out)
  have HA := Lib.hid ha
  have HB := Lib.hid hb
  have HE : Hid (sameL (m, f) (n, g) = (decide (m = n) && decide (f = g))) := Lib.hid rfl
  clear h1 h2 k1 k2 ha hb
  simp only [World.size_alloc] at X2
  obtain ⟨a1, a2⟩ := lbox_cells X1.out
  obtain ⟨b1, b2⟩ := lbox_cells X2.out
  go_enter Try.func23, Try.ntmps23
  go_wp2_with fail
  (with_reducible refine (sameM_any _ _ m n _ H1.out H3.out HA.out.1 HB.out.1).mono ?_)
  rintro e w1 ⟨rfl, hb⟩
  have Y1 := Lib.hid (lbox_below X1.out hb)
  have Y2 := Lib.hid (lbox_below X2.out hb)
  have B1 := Lib.hid (below_after BB.out hb (Nat.le_refl _))
  have K2 := Lib.hid (H2.out.below hb)
  have K4 := Lib.hid (H4.out.below hb)
  clear a1 a2 b1 b2 hb X1 X2 H1 H2 H3 H4
  obtain ⟨a1, a2⟩ := lbox_cells Y1.out
  obtain ⟨b1, b2⟩ := lbox_cells Y2.out
  generalize decide (m = n) = p at *
  cases p
  · go_wp2_with fail
    go_ret
    exact ⟨ret_bool (by rw [HE.out]; rfl), B1.out⟩
  · go_wp2_with fail
    (with_reducible refine (sameI_any _ _ f g _ K2.out K4.out HA.out.2 HB.out.2).mono ?_)
    rintro e w2 ⟨rfl, hb⟩
    have B2 := Lib.hid (below_after B1.out hb (Nat.le_refl _))
    clear a1 a2 b1 b2 hb
    generalize decide (f = g) = q at *
    go_wp2_with fail
    go_ret
    exact ⟨ret_bool (by rw [HE.out]; rfl), B2.out⟩
set_option maxHeartbeats 4000000 in
theorem says_any (v u t : Value) (a b x : Ls) (w : World) (h : LsAt w v a) (k : LsAt w u b) (j : LsAt w t x) (hm : a.1.length + b.1.length ≤ 40000) (hf : a.2.length + b.2.length ≤ 40000) (hl : (joinL a b).1.length ≤ 100000 ∧ (joinL a b).2.length ≤ 100000) (hx : x.1.length ≤ 100000 ∧ x.2.length ≤ 100000) :
    Calls Try.prog 10 #[v, u, t] w fun e w' => e = .returned (.bool (sameL (joinL a b) x)) ∧ Below w.heap.size w w' := by
  obtain ⟨m, f⟩ := a
  obtain ⟨n, g⟩ := b
  obtain ⟨p, q⟩ := x
  obtain ⟨A, c, B, d, rfl, h1, h2⟩ := h
  obtain ⟨A', c', B', d', rfl, k1, k2⟩ := k
  obtain ⟨A2, c2, B2, d2, rfl, j1, j2⟩ := j
  have X1 := Lib.hid (lbox_below (lbox_below (lbox_new w (.slice A m.length c) (.slice B f.length d)) (below_one _ (.cells #[.slice A' n.length c', .slice B' g.length d'] 27))) (below_one _ (.cells #[.slice A2 p.length c2, .slice B2 q.length d2] 27)))
  have X2 := Lib.hid (lbox_below (lbox_new (w.alloc (.cells #[.slice A m.length c, .slice B f.length d] 27)) (.slice A' n.length c') (.slice B' g.length d')) (below_one _ (.cells #[.slice A2 p.length c2, .slice B2 q.length d2] 27)))
  have X3 := Lib.hid (lbox_new ((w.alloc (.cells #[.slice A m.length c, .slice B f.length d] 27)).alloc (.cells #[.slice A' n.length c', .slice B' g.length d'] 27)) (.slice A2 p.length c2) (.slice B2 q.length d2))
  have BB := Lib.hid (below_box (below_two w (.cells #[.slice A m.length c, .slice B f.length d] 27) (.cells #[.slice A' n.length c', .slice B' g.length d'] 27)) (.cells #[.slice A2 p.length c2, .slice B2 q.length d2] 27) (Nat.le_refl _))
  have H1 := Lib.hid (h1.below BB.out)
  have H2 := Lib.hid (h2.below BB.out)
  have H3 := Lib.hid (k1.below BB.out)
  have H4 := Lib.hid (k2.below BB.out)
  have H5 := Lib.hid (j1.below BB.out)
  have H6 := Lib.hid (j2.below BB.out)
  have HM : Hid (m.length + n.length ≤ 40000) := Lib.hid hm
  have HF : Hid (f.length + g.length ≤ 40000) := Lib.hid hf
  have HL := Lib.hid hl
  have HX := Lib.hid hx
  have HE : Hid (sameL (joinL (m, f) (n, g)) (p, q) = (decide ((joinL (m, f) (n, g)).1 = p) && decide ((joinL (m, f) (n, g)).2 = q))) := Lib.hid rfl
  generalize sameL (joinL (m, f) (n, g)) (p, q) = z0 at *
  clear h1 h2 k1 k2 j1 j2 hm hf hl hx
  simp only [World.size_alloc] at X2 X3
  obtain ⟨a1, a2⟩ := lbox_cells X1.out
  obtain ⟨b1, b2⟩ := lbox_cells X2.out
  go_enter Try.func10, Try.ntmps10
  go_wp2_with fail
  (with_reducible refine (join_any _ _ _ _ m n f g _ H1.out H2.out H3.out H4.out HM.out HF.out).mono ?_)
  rintro e w1 ⟨V, U, rfl, hV, hU, hb⟩
  rw [joinP_is] at hV hU
  generalize joinL (m, f) (n, g) = J at *
  obtain ⟨D, gv, cv, rfl, hr⟩ := id hV
  obtain ⟨Au, cu, rfl, hu⟩ := id (ids_of_owns hU)
  have Y3 := Lib.hid (lbox_below X3.out hb)
  have RV := Lib.hid hV.reads
  have RU := Lib.hid (ids_of_owns hU)
  have K5 := Lib.hid (H5.out.below hb)
  have K6 := Lib.hid (H6.out.below hb)
  have B1 := Lib.hid (below_after BB.out hb (Nat.le_refl _))
  clear a1 a2 b1 b2 hr hu hb hV hU X1 X2 X3 H1 H2 H3 H4 H5 H6
  obtain ⟨a1, a2⟩ := lbox_cells Y3.out
  go_wp2_with fail
  (with_reducible refine (sameM_any _ _ J.1 p _ RV.out K5.out HL.out.1 HX.out.1).mono ?_)
  rintro e w2 ⟨rfl, hb⟩
  have Z3 := Lib.hid (lbox_below Y3.out hb)
  have B2' := Lib.hid (below_after B1.out hb (Nat.le_refl _))
  have TU := Lib.hid (RU.out.below hb)
  have T6 := Lib.hid (K6.out.below hb)
  clear a1 a2 hb RV RU K5 K6 Y3
  obtain ⟨a1, a2⟩ := lbox_cells Z3.out
  generalize decide (J.1 = p) = y at *
  cases y
  · go_wp2_with fail
    go_ret
    exact ⟨ret_bool (by rw [HE.out]; rfl), B2'.out⟩
  · go_wp2_with fail
    (with_reducible refine (sameI_any _ _ J.2 q _ TU.out T6.out HL.out.2 HX.out.2).mono ?_)
    rintro e w3 ⟨rfl, hb⟩
    have B3 := Lib.hid (below_after B2'.out hb (Nat.le_refl _))
    clear a1 a2 hb
    generalize decide (J.2 = q) = z at *
    go_wp2_with fail
    go_ret
    exact ⟨ret_bool (by rw [HE.out]; rfl), B3.out⟩
/-- Are lists more than a statement goes through? -/
def bigL (a : Ls) : Bool := decide (100 < a.1.length) || decide (100 < a.2.length)
def encP (p : Value × Value) : List Value := [p.1, p.2]
theorem encP_len (p : Value × Value) : (encP p).length = 2 := rfl
/-- Block g holds these lists. -/
def LsBlock (w : World) (g : Nat) (ps : List (Value × Value)) : Prop := w.heap[g]? = some (.cells (flatR encP ps).toArray 27 (0, 0))
theorem lsBlock_cell {w : World} {g : Nat} {ps : List (Value × Value)} (h : LsBlock w g ps) {k : Nat} (hk : k < ps.length) : w.cell? ⟨g, k * 2, none⟩ = some ps[k].1 ∧ w.cell? ⟨g, k * 2 + 1, none⟩ = some ps[k].2 := by
  unfold LsBlock at h
  have h0 := flatR_at encP_len ps k hk 0 ps[k].1 rfl
  have h1 := flatR_at encP_len ps k hk 1 ps[k].2 rfl
  exact ⟨by rw [cell_of_row _ _ (k * 2) _ _ _ h]; simpa using h0, by rw [cell_of_row _ _ (k * 2 + 1) _ _ _ h]; simpa using h1⟩
theorem bigL_take {ls : List Ls} {k : Nat} (hk : k < ls.length) (h : (ls.take k).any bigL = false) (h2 : bigL ls[k] = false) : (ls.take (k + 1)).any bigL = false := by
  rw [List.take_succ_eq_append_getElem hk, List.any_append, h]
  simp [h2]
theorem bigL_yes {ls : List Ls} {k : Nat} (hk : k < ls.length) (h2 : bigL ls[k] = true) : ls.any bigL = true := by
  rw [List.any_eq_true]
  exact ⟨ls[k], List.getElem_mem hk, h2⟩
set_option maxHeartbeats 2000000 in
theorem large_any (g : Nat) (ps : List (Value × Value)) (ls : List Ls) (w : World) (h : LsBlock w g ps) (hl : ps.length = ls.length) (hs : ∀ (k : Nat) (hk : k < ps.length) (hk' : k < ls.length), ∃ A c B d, ps[k] = (.slice A ls[k].1.length c, .slice B ls[k].2.length d)) (hn : ps.length ≤ 10) :
    Calls Try.prog 21 #[.slice (some ⟨g, 0, none⟩) ps.length ps.length] w fun e w' => e = .returned (.bool (ls.any bigL)) ∧ w = w' := by
  have HI := Lib.hid h
  have HS := Lib.hid hs
  clear h hs
  go_enter Try.func21, Try.ntmps21
  go_wp2_with fail
  go_loop [3] (fun s3 => ∃ k : Nat, k ≤ ps.length ∧ s3 = .int .i64 k ∧ (ls.take k).any bigL = false) (fun s3 => ps.length - (intOf s3).toNat)
  case atStart => exact ⟨0, by omega, rfl, by simp⟩
  case round =>
    obtain ⟨k, hkl, rfl, ht⟩ := hrel
    have HT := Lib.hid ht
    clear ht
    have i3 : (0 : Int) ≤ (k : Int) := by omega
    by_cases hlt : k < ps.length
    · have hd : decide ((k : Int) < (ps.length : Int)) = true := by simp; omega
      have i4 : (k : Int) < (ps.length : Int) := by omega
      have hlt' : k < ls.length := by omega
      obtain ⟨A, c, B, d, hv⟩ := HS.out k hlt hlt'
      obtain ⟨c1, c2⟩ := lsBlock_cell HI.out hlt
      rw [hv] at c1 c2
      have HB : Hid (bigL ls[k] = (decide (100 < ls[k].1.length) || decide (100 < ls[k].2.length))) := Lib.hid rfl
      have HY := Lib.hid fun h => bigL_yes hlt' h
      have HN := Lib.hid fun h => bigL_take hlt' HT.out h
      clear hv
      generalize ls[k].1.length = x at *
      generalize ls[k].2.length = y at *
      by_cases h1 : 100 < x
      · have HF := Lib.hid (HY.out (by rw [HB.out]; simp [h1]))
        have hd2 : decide ((100 : Int) < (x : Int)) = true := by simp; omega
        clear HY HN HB
        go_wp2_with fail
        go_ret
        exact ⟨ret_bool HF.out.symm, rfl⟩
      · have hd2 : decide ((100 : Int) < (x : Int)) = false := by simp; omega
        by_cases h2 : 100 < y
        · have HF := Lib.hid (HY.out (by rw [HB.out]; simp [h2]))
          have hd3 : decide ((100 : Int) < (y : Int)) = true := by simp; omega
          clear HY HN HB
          go_wp2_with fail
          go_ret
          exact ⟨ret_bool HF.out.symm, rfl⟩
        · have HF := Lib.hid (HN.out (by rw [HB.out]; simp; omega))
          have hd3 : decide ((100 : Int) < (y : Int)) = false := by simp; omega
          clear HY HN HB
          go_wp2_with fail
          go_round
          case rel => exact ⟨k + 1, by omega, by go_num, HF.out⟩
          case measure => simp [intOf]; omega
    · have hd : decide ((k : Int) < (ps.length : Int)) = false := by simp; omega
      have HF := Lib.hid (show ls.any bigL = false by have := HT.out; rwa [List.take_of_length_le (by omega)] at this)
      go_wp2_with fail
      go_ret
      exact ⟨ret_bool HF.out.symm, rfl⟩
end Go.Proofs.Ytciolhpkhblnbaa
