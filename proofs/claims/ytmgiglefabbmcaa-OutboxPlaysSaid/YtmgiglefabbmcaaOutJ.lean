/-
  A walk over a box: a further frame is put. No statement is proved in this text.
-/
import Derived.Test.YtmgiglefabbmcaaOutI
set_option maxRecDepth 20000
namespace Go.Proofs.Ytmgiglefabbmcaa
open Go Go.RowKit
theorem In1.bound {α : Type} {enc : α → List Value} {sz : Nat} {e : TypeId} {S : Nat → Prop} {w : World} {v : Value} {l : List α} (h : In1 enc sz e S w v l) : In1 enc sz e (fun k => S k ∧ k < w.heap.size) w v l :=
  ⟨h.1, fun k hk => ⟨h.2 k hk, (World.ownsRow.lt h.1 k hk).2⟩⟩
theorem EachO.bound {S : Nat → Prop} {w : World} : ∀ {qs : List Raw} {l : List Row}, EachO S w qs l → EachO (fun k => S k ∧ k < w.heap.size) w qs l
  | [], [], _ => trivial
  | _ :: _, _ :: _, h => ⟨⟨h.1.1, h.1.2.1, h.1.2.2.bound⟩, EachO.bound h.2⟩
  | [], _ :: _, h => h.elim
  | _ :: _, [], h => h.elim
theorem FO.bound {S : Nat → Prop} {w : World} {q : Fq} (h : FO S w q) : FO (fun k => S k ∧ k < w.heap.size) w q := by
  obtain ⟨qs, h1, h2⟩ := h.r
  exact ⟨h.m.bound, h.f.bound, ⟨qs, h1.bound, h2.bound⟩, h.c.bound, h.s.bound⟩
theorem map_erase {α β : Type} (f : α → β) : ∀ (l : List α) (i : Nat), (l.eraseIdx i).map f = (l.map f).eraseIdx i
  | [], _ => rfl
  | _ :: _, 0 => rfl
  | x :: l, i + 1 => by simp [map_erase f l i]
/-- A further frame. -/
def putL (mx : Int) (L : List Fr) (F : Fr) : List Fr × Fr × Bool :=
  if (L.length : Int) < mx then (L ++ [F], z0, false) else if h : fi L < L.length then (L.eraseIdx (fi L) ++ [F], L[fi L], true) else (L, F, true)
/-- What is true behind it. -/
def PutD (T : Nat → Prop) (w : World) (p : Nat) (mx : Int) (qs : List Fq) (q : Fq) (e : Ending) (w' : World) : Prop :=
  ∃ (qs' : List Fq) (qo : Fq) (lost : Bool) (T' Q : Nat → Prop), e = .returned (.tuple #[.agg (fc qo), .bool lost, .int .i64 0]) ∧ BoxAt T' w' p mx qs' ∧ (qs'.map (·.F), qo.F, lost) = putL mx (qs.map (·.F)) q.F ∧ FO Q w' qo ∧ (∀ k, Q k → ¬ T' k) ∧ (∀ k, Q k → T k ∨ w.heap.size ≤ k) ∧ (∀ k, T' k → T k ∨ w.heap.size ≤ k) ∧ Only T w w'
/-- What stands while a frame is put: the box, the new frame in block X, what goes out in block X + 1. -/
structure PtG (T0 T Q : Nat → Prop) (w : World) (p : Nat) (mx : Int) (qs : List Fq) (u qo : Fq) (W : World) : Prop where
  b : BoxAt T W p mx qs
  x : FB W w.heap.size u
  z : FB W (w.heap.size + 1) qo
  u : FO (fun k => w.heap.size + 2 ≤ k) W u
  o : FO Q W qo
  only : Only T0 w W
  sub : ∀ k, T k → T0 k
  qT : ∀ k, Q k → ¬ T k
  qs : ∀ k, Q k → T0 k
  lt : ∀ k, T0 k → k < w.heap.size
theorem PtG.below {T0 T Q : Nat → Prop} {w W W' : World} {p : Nat} {mx : Int} {qs : List Fq} {u qo : Fq} (h : PtG T0 T Q w p mx qs u qo W) (hb : Below W.heap.size W W') : PtG T0 T Q w p mx qs u qo W' :=
  ⟨h.b.below hb, fb_below h.x hb, fb_below h.z hb, (h.u.bound.on (Below.on hb fun _ hk => hk.2)).mono fun _ hk => hk.1, h.o.on (Below.on hb fun k hk => Nat.lt_of_lt_of_le (h.lt k (h.qs k hk)) h.only.size), h.only.andThen (Only.of hb), h.sub, h.qT, h.qs, h.lt⟩
/-- Behind the append: the box's own cells, and the new frame's box. -/
theorem PtG.mid {T0 T Q : Nat → Prop} {w W W1 W2 : World} {p : Nat} {mx : Int} {qs : List Fq} {u qo : Fq} {A A' : Option Addr} {c : Nat} (h : PtG T0 T Q w p mx qs u qo W)
    (hp : W.heap[p]? = some (.cells #[.int .i64 mx, .slice A qs.length c] 71 (0, 0))) (hr : Row14 W A c qs) (hb : Below W.heap.size W W1) (hg : (A' = A ∧ Only (AB A) W1 W2) ∨ ((∀ k, AB A' k → W1.heap.size ≤ k) ∧ Below W1.heap.size W1 W2)) (hA : ∀ k, AB A k → T k) :
    W2.frozen? ⟨p, 1, none⟩ = false ∧ W2.cell? ⟨p, 1, none⟩ = some (.slice A qs.length c) ∧ FB W2 w.heap.size u := by
  have hO : Only (AB A) W1 W2 := by
    rcases hg with ⟨_, e⟩ | ⟨_, e⟩
    · exact e
    · exact Only.of e
  have hpl := row_lt hp
  have h2 : W2.heap[p]? = some (.cells #[.int .i64 mx, .slice A qs.length c] 71 (0, 0)) := (hO.block p (Nat.lt_of_lt_of_le hpl hb.size) (hr.ne hp (by decide))).trans ((hb.block p hpl).trans hp)
  refine ⟨frozen_of_row _ _ _ _ _ h2, by rw [cell_of_row _ _ _ _ _ _ h2]; rfl, (hO.block _ (Nat.lt_of_lt_of_le (fb_lt h.x) hb.size) fun e => ?_).trans ((hb.block _ (fb_lt h.x)).trans h.x)⟩
  have := h.lt _ (h.sub _ (hA _ e))
  omega
/-- .. and at its end. -/
theorem PtG.done {T0 T Q : Nat → Prop} {w W W1 W2 : World} {p : Nat} {mx : Int} {qs : List Fq} {u qo : Fq} {A A' : Option Addr} {c c' : Nat} (h : PtG T0 T Q w p mx qs u qo W) (hl : (qs.length : Int) < mx)
    (hp : W.heap[p]? = some (.cells #[.int .i64 mx, .slice A qs.length c] 71 (0, 0))) (hro : Row14 W A c qs) (hb : Below W.heap.size W W1) (hr : Row14 W2 A' c' (qs ++ [u])) (hg : (A' = A ∧ Only (AB A) W1 W2) ∨ ((∀ k, AB A' k → W1.heap.size ≤ k) ∧ Below W1.heap.size W1 W2)) :
    ∃ T' : Nat → Prop, BoxAt T' (W2.setCell ⟨p, 1, none⟩ (.slice A' (qs.length + 1) c')) p mx (qs ++ [u]) ∧ FB (W2.setCell ⟨p, 1, none⟩ (.slice A' (qs.length + 1) c')) (w.heap.size + 1) qo ∧ FO Q (W2.setCell ⟨p, 1, none⟩ (.slice A' (qs.length + 1) c')) qo ∧ (∀ k, Q k → ¬ T' k) ∧ (∀ k, T' k → T0 k ∨ w.heap.size + 2 ≤ k) ∧ Only T0 w (W2.setCell ⟨p, 1, none⟩ (.slice A' (qs.length + 1) c')) := by
  have hU : ∀ k, (w.heap.size + 2 ≤ k ∧ k < W.heap.size) → ¬ T k ∧ k < W1.heap.size := fun k hk => ⟨fun e => by have := h.lt k (h.sub k e); omega, Nat.lt_of_lt_of_le hk.2 hb.size⟩
  obtain ⟨m1, m2⟩ := BoxAt.more h.b hl hp hb (h.u.bound.on (Below.on hb fun _ hk => hk.2)) hU hr hg
  have hTs : ∀ k, T k → k < w.heap.size := fun k hk => h.lt k (h.sub k hk)
  refine ⟨_, m1, (m2.block _ (fb_lt h.z) fun e => by have := hTs _ e; omega).trans h.z, h.o.on (m2.on fun k hk => ⟨Nat.lt_of_lt_of_le (h.lt k (h.qs k hk)) h.only.size, h.qT k hk⟩), fun k hk e => ?_, fun k hk => ?_, h.only.andThen (m2.mono h.sub)⟩
  · rcases e with e | e | e
    · exact h.qT k hk e
    · have := h.lt k (h.qs k hk)
      omega
    · have hq := h.lt k (h.qs k hk)
      rcases hg with ⟨rfl, _⟩ | ⟨e2, _⟩
      · obtain ⟨A2, c2, h1, _, h3, _⟩ := h.b.box
        rw [hp] at h1
        injection h1 with h1
        injection h1 with h1 _ _
        have e3 := congrArg (fun x => x[1]?) h1
        simp at e3
        rw [e3.1] at e
        exact h.qT k hk (h3 k e)
      · have := e2 k e
        have := hb.size
        have := h.only.size
        omega
  · rcases hk with hk | hk | hk
    · exact .inl (h.sub k hk)
    · exact .inr (by omega)
    · rcases hg with ⟨rfl, _⟩ | ⟨e2, _⟩
      · obtain ⟨A2, c2, h1, _, h3, _⟩ := h.b.box
        rw [hp] at h1
        injection h1 with h1
        injection h1 with h1 _ _
        have e3 := congrArg (fun x => x[1]?) h1
        simp at e3
        rw [e3.1] at hk
        exact .inl (h.sub k (h3 k hk))
      · have := e2 k hk
        have := hb.size
        have := fb_lt h.z
        exact .inr (by omega)
theorem putEnd {T T' Q : Nat → Prop} {w W : World} {p : Nat} {mx : Int} {qs QS : List Fq} {q qo : Fq} {lost : Bool} {e : Ending} (he : e = .returned (.tuple #[.agg (fc qo), .bool lost, .int .i64 0])) (hl : ∀ k, T k → k < w.heap.size)
    (h1 : BoxAt T' W p mx QS) (h3 : FO Q W qo) (h4 : ∀ k, Q k → ¬ T' k) (hq : ∀ k, Q k → T k ∨ w.heap.size + 2 ≤ k) (h5 : ∀ k, T' k → T k ∨ w.heap.size + 2 ≤ k) (h6 : Only T w W) (hp : (QS.map (·.F), qo.F, lost) = putL mx (qs.map (·.F)) q.F) :
    PutD T w p mx qs q e (W.setRow (w.heap.size + 1) (fc qo)) := by
  have hne : ∀ k, (T k ∨ w.heap.size + 2 ≤ k) → k ≠ w.heap.size + 1 := fun k hk e => by
    rcases hk with hk | hk
    · have := hl k hk; omega
    · omega
  have hw : ∀ k, (T k ∨ w.heap.size + 2 ≤ k) → (T k ∨ w.heap.size ≤ k) := fun k hk => hk.imp id fun e => by omega
  exact ⟨QS, qo, lost, T', Q, he, h1.on (fun k hk => setRow_other _ _ _ _ (hne k (h5 k hk))) (by simp), hp, h3.on (fun k hk => setRow_other _ _ _ _ (hne k (hq k hk))), h4, fun k hk => hw k (hq k hk), fun k hk => hw k (h5 k hk), h6.trans (only_setRow W (w.heap.size + 1) _) (fun _ e => e) (fun k hk e => absurd e (by omega))⟩
set_option maxHeartbeats 8000000 in
theorem put_any (T : Nat → Prop) (w : World) (p : Nat) (mx : Int) (qs : List Fq) (h : BoxAt T w p mx qs) (q : Fq) (hr : FR w q) (hV : Fit 20000 q.F.v) :
    Calls Try.prog 9 #[.pointer (some ⟨p, 0, none⟩), .agg (fc q)] w (PutD T w p mx qs q) := by
  have B0 := Lib.hid (below_after (below_one w (.cells (fc q) 32)) (below_one _ (.cells #[.int .u8 0, .int .i64 0, .int .i64 0, .int .i64 0, .int .i64 0, .int .i64 0, .int .i64 0, .int .i64 0, .int .i64 0, .slice none 0 0, .slice none 0 0, .slice none 0 0, .slice none 0 0, .slice none 0 0] 32)) (Nat.le_refl _))
  have X0 := Lib.hid (fb_below (fb_new w q) (below_one _ (.cells #[.int .u8 0, .int .i64 0, .int .i64 0, .int .i64 0, .int .i64 0, .int .i64 0, .int .i64 0, .int .i64 0, .int .i64 0, .slice none 0 0, .slice none 0 0, .slice none 0 0, .slice none 0 0, .slice none 0 0] 32)))
  have Z0 := Lib.hid (show FB ((w.alloc (.cells (fc q) 32)).alloc (.cells #[.int .u8 0, .int .i64 0, .int .i64 0, .int .i64 0, .int .i64 0, .int .i64 0, .int .i64 0, .int .i64 0, .int .i64 0, .slice none 0 0, .slice none 0 0, .slice none 0 0, .slice none 0 0, .slice none 0 0] 32)) (w.heap.size + 1) q0 by have := zero_new (w.alloc (.cells (fc q) 32)); simpa using this)
  have R0 := Lib.hid (hr.below B0.out)
  have HV := Lib.hid hV
  have HB := Lib.hid h
  have LT := Lib.hid h.lt
  have SQ := Lib.hid (size32 q)
  have hfew := h.few
  clear h hr hV
  go_enter Try.func9, Try.ntmps9
  go_wp2_with (refine wpList_load_row rfl 32 (.tmp 3) rfl w.heap.size rfl 32 (fc q) (0, 0) _ X0.out Try.underlying32 rfl SQ.out ?_)
  (with_reducible refine (apart_any q _ R0.out HV.out).mono ?_)
  rintro e1 w1 ⟨u, rfl, hu, ho, hb⟩
  have X1 := Lib.hid (fb_below X0.out hb)
  have SU := Lib.hid (size32 u)
  have G2 : Hid (PtG T T (fun _ => False) w p mx qs u q0 (w1.setRow w.heap.size (fc u))) := Lib.hid (by
    have hz : ((w.alloc (.cells (fc q) 32)).alloc (.cells #[.int .u8 0, .int .i64 0, .int .i64 0, .int .i64 0, .int .i64 0, .int .i64 0, .int .i64 0, .int .i64 0, .int .i64 0, .slice none 0 0, .slice none 0 0, .slice none 0 0, .slice none 0 0, .slice none 0 0] 32)).heap.size = w.heap.size + 2 := by simp
    have hb2 := below_after B0.out hb (Nat.le_refl _)
    refine ⟨(HB.out.below hb2).on (fun k hk => setRow_other _ _ _ _ (fun e => by have := LT.out k hk; omega)) (by simp), setRow_set X1.out, (setRow_other _ _ _ _ (by omega)).trans (fb_below Z0.out hb), (ho.mono fun k hk => by rw [hz] at hk; exact hk).on fun k hk => setRow_other _ _ _ _ (by omega), fo_zero _ _, (Only.of (S := T) hb2).trans (only_setRow w1 w.heap.size _) (fun _ e => e) (fun k hk e => absurd e (by omega)), fun _ e => e, fun _ e => e.elim, fun _ e => e.elim, LT.out⟩)
  have HU := Lib.hid hu
  clear hb ho hu B0 X0 Z0 R0
  go_upto_region 4 with (refine wpList_store_row rfl 32 (.tmp 3) (.tmp 12) rfl w.heap.size (fc u) rfl rfl 32 (fc q) X1.out SU.out rfl (fc_one u) ?_)
  clear X1
  generalize w1.setRow w.heap.size (fc u) = w2 at *
  obtain ⟨A, c, c0, c1, f1, -⟩ := G2.out.b.cells
  by_cases hlt : (qs.length : Int) < mx
  · have hd : decide (mx ≤ (qs.length : Int)) = false := by simp; omega
    go_wp2_with fail
    go_quiet (fail)
    go_upto_region 9 with (fail)
    have G3 := Lib.hid (G2.out.below (below_drewN (n := nq) (Below.refl _ _)))
    clear c0 c1 f1 G2
    generalize w2.drewN nq = w3 at *
    obtain ⟨A, c, hp, hrow, hAT, -⟩ := G3.out.b.box
    have AT := Lib.hid hAT
    have P3 := Lib.hid hp
    have R3 := Lib.hid hrow
    have C3 := Lib.hid (show w3.cell? ⟨p, 1, none⟩ = some (.slice A (qs).length c) by rw [cell_of_row _ _ _ _ _ _ hp]; rfl)
    have L3 : Hid ((qs).length ≤ 5000) := Lib.hid (Nat.le_trans G3.out.b.few (by decide))
    clear hp hrow hAT
    refine wp_region_held_drew (S := fun W => W.cell? ⟨w.heap.size, 0, none⟩ = some (.int .u8 u.F.k) ∧ W.cell? ⟨w.heap.size, 1, none⟩ = some (.int .i64 u.F.f.1) ∧ W.cell? ⟨w.heap.size, 2, none⟩ = some (.int .i64 u.F.f.2) ∧ W.cell? ⟨w.heap.size, 3, none⟩ = some (.int .i64 u.F.t.1) ∧ W.cell? ⟨w.heap.size, 4, none⟩ = some (.int .i64 u.F.t.2) ∧ W.cell? ⟨w.heap.size, 5, none⟩ = some (.int .i64 u.F.n) ∧ W.cell? ⟨w.heap.size, 6, none⟩ = some (.int .i64 u.F.q) ∧ W.cell? ⟨w.heap.size, 7, none⟩ = some (.int .i64 u.F.b.1) ∧ W.cell? ⟨w.heap.size, 8, none⟩ = some (.int .i64 u.F.b.2) ∧ W.cell? ⟨w.heap.size, 9, none⟩ = some (.slice u.a.1 u.a.2.1 u.a.2.2) ∧ W.cell? ⟨w.heap.size, 10, none⟩ = some (.slice u.b.1 u.b.2.1 u.b.2.2) ∧ W.cell? ⟨w.heap.size, 11, none⟩ = some (.slice u.c.1 u.c.2.1 u.c.2.2) ∧ W.cell? ⟨w.heap.size, 12, none⟩ = some (.slice u.d.1 u.d.2.1 u.d.2.2) ∧ W.cell? ⟨w.heap.size, 13, none⟩ = some (.slice u.e.1 u.e.2.1 u.e.2.2)) (by kernel_rfl) ?_ (fun hHeld => ?_)
    · exact fb_cells G3.out.x
    (refine wpAnyH_take (i := 0) (oi := ⟨_, _, _, _, _, _⟩) (v := ?_) rfl (by kernel_rfl) (by kernel_rfl) (by kernel_rfl) (fun _ _ _ h => h) (Or.inl ⟨by rfl, ?_⟩) (by assumption) ?_; rotate_left 1; · (intro w hSw; (try dsimp only at hSw); go_simp; all_goals with_reducible rfl))
    try simp only [Act.put, List.setIfInBounds_toArray, List.set_cons_zero, List.set_cons_succ]
    (refine wpAnyH_take (i := 1) (oi := ⟨_, _, _, _, _, _⟩) (v := ?_) rfl (by kernel_rfl) (by kernel_rfl) (by kernel_rfl) (fun _ _ _ h => h) (Or.inl ⟨by rfl, ?_⟩) (by assumption) ?_; rotate_left 1; · (intro w hSw; (try dsimp only at hSw); go_simp; all_goals with_reducible rfl))
    try simp only [Act.put, List.setIfInBounds_toArray, List.set_cons_zero, List.set_cons_succ]
    (refine wpAnyH_take (i := 2) (oi := ⟨_, _, _, _, _, _⟩) (v := ?_) rfl (by kernel_rfl) (by kernel_rfl) (by kernel_rfl) (fun _ _ _ h => h) (Or.inl ⟨by rfl, ?_⟩) (by assumption) ?_; rotate_left 1; · (intro w hSw; (try dsimp only at hSw); go_simp; all_goals with_reducible rfl))
    try simp only [Act.put, List.setIfInBounds_toArray, List.set_cons_zero, List.set_cons_succ]
    (refine wpAnyH_take (i := 3) (oi := ⟨_, _, _, _, _, _⟩) (v := ?_) rfl (by kernel_rfl) (by kernel_rfl) (by kernel_rfl) (fun _ _ _ h => h) (Or.inl ⟨by rfl, ?_⟩) (by assumption) ?_; rotate_left 1; · (intro w hSw; (try dsimp only at hSw); go_simp; all_goals with_reducible rfl))
    try simp only [Act.put, List.setIfInBounds_toArray, List.set_cons_zero, List.set_cons_succ]
    (refine wpAnyH_take (i := 5) (oi := ⟨_, _, _, _, _, _⟩) (v := ?_) rfl (by kernel_rfl) (by kernel_rfl) (by kernel_rfl) (fun _ _ _ h => h) (Or.inl ⟨by rfl, ?_⟩) (by assumption) ?_; rotate_left 1; · (intro w hSw; (try dsimp only at hSw); go_simp; all_goals with_reducible rfl))
    try simp only [Act.put, List.setIfInBounds_toArray, List.set_cons_zero, List.set_cons_succ]
    refine wpAnyH_ready (rs := [4, 6]) (by kernel_rfl) (by simp) ?_
    refine AllReadyH.cons (o := ⟨_, _, _, _, _, _⟩) rfl (fun Kq hKq => ?_) (AllReadyH.cons (o := ⟨_, _, _, _, _, _⟩) rfl (fun Kq hKq => ?_) (AllReadyH.nil))
    · have c9 := C3.out
      go_simp
      clear hHeld
      clear c9
      refine hKq.out _ _ ?_ (fun hHeld => ?_)
      · (try dsimp only); exact fb_cells G3.out.x
      clear hKq Kq
      try simp only [Act.put, List.setIfInBounds_toArray, List.set_cons_zero, List.set_cons_succ]
      refine wpAnyH_ready (rs := [6]) (by kernel_rfl) (by simp) ?_
      refine AllReadyH.cons (o := ⟨_, _, _, _, _, _⟩) rfl (fun Kq hKq => ?_) (AllReadyH.nil)
      go_simp
      clear hHeld
      have hq2 : Below w3.heap.size w3 (w3.alloc (.cells #[.int .u8 u.F.k, .int .i64 u.F.f.1, .int .i64 u.F.f.2, .int .i64 u.F.t.1, .int .i64 u.F.t.2, .int .i64 u.F.n, .int .i64 u.F.q, .int .i64 u.F.b.1, .int .i64 u.F.b.2, .slice u.a.1 u.a.2.1 u.a.2.2, .slice u.b.1 u.b.2.1 u.b.2.2, .slice u.c.1 u.c.2.1 u.c.2.2, .slice u.d.1 u.d.2.1 u.d.2.2, .slice u.e.1 u.e.2.1 u.e.2.2] 32)).drew := (below_one w3 (.cells #[.int .u8 u.F.k, .int .i64 u.F.f.1, .int .i64 u.F.f.2, .int .i64 u.F.t.1, .int .i64 u.F.t.2, .int .i64 u.F.n, .int .i64 u.F.q, .int .i64 u.F.b.1, .int .i64 u.F.b.2, .slice u.a.1 u.a.2.1 u.a.2.2, .slice u.b.1 u.b.2.1 u.b.2.2, .slice u.c.1 u.c.2.1 u.c.2.2, .slice u.d.1 u.d.2.1 u.d.2.2, .slice u.e.1 u.e.2.1 u.e.2.2] 32)).drew; have B6 := Lib.hid hq2; have X6 := Lib.hid (show FB (w3.alloc (.cells #[.int .u8 u.F.k, .int .i64 u.F.f.1, .int .i64 u.F.f.2, .int .i64 u.F.t.1, .int .i64 u.F.t.2, .int .i64 u.F.n, .int .i64 u.F.q, .int .i64 u.F.b.1, .int .i64 u.F.b.2, .slice u.a.1 u.a.2.1 u.a.2.2, .slice u.b.1 u.b.2.1 u.b.2.2, .slice u.c.1 u.c.2.1 u.c.2.2, .slice u.d.1 u.d.2.1 u.d.2.2, .slice u.e.1 u.e.2.1 u.e.2.2] 32)).drew w3.heap.size u from fb_new w3 u); generalize (w3.alloc (.cells #[.int .u8 u.F.k, .int .i64 u.F.f.1, .int .i64 u.F.f.2, .int .i64 u.F.t.1, .int .i64 u.F.t.2, .int .i64 u.F.n, .int .i64 u.F.q, .int .i64 u.F.b.1, .int .i64 u.F.b.2, .slice u.a.1 u.a.2.1 u.a.2.2, .slice u.b.1 u.b.2.1 u.b.2.2, .slice u.c.1 u.c.2.1 u.c.2.2, .slice u.d.1 u.d.2.1 u.d.2.2, .slice u.e.1 u.e.2.1 u.e.2.2] 32)).drew = w6 at *; clear hq2
      refine hKq.out _ _ ?_ (fun hHeld => ?_)
      · (try dsimp only); exact fb_cells (fb_below G3.out.x B6.out)
      clear hKq Kq
      try simp only [Act.put, List.setIfInBounds_toArray, List.set_cons_zero, List.set_cons_succ]
      refine wpAnyH_ready (rs := [7]) (by kernel_rfl) (by simp) ?_
      refine AllReadyH.cons (o := ⟨_, _, _, _, _, _⟩) rfl (fun Kq hKq => ?_) (AllReadyH.nil)
      clear hHeld
      refine step_append_frame rfl (.tmp 35) (.tmp 37) rfl w6 rfl rfl rfl ((R3.out).on (Below.on B6.out fun k hk => R3.out.lt k hk)) X6.out L3.out ?_; intro A7 c7 w7 h1 h2; have D7 := Lib.hid (G3.out.done hlt P3.out R3.out B6.out h1 h2); have M7 := Lib.hid (G3.out.mid P3.out R3.out B6.out h2 AT.out); clear h1 h2
      refine hKq.out _ _ ?_ (fun hHeld => ?_)
      · (try dsimp only); exact fb_cells M7.out.2.2
      clear hKq Kq
      try simp only [Act.put, List.setIfInBounds_toArray, List.set_cons_zero, List.set_cons_succ]
      (refine wpAnyH_take (i := 8) (oi := ⟨_, _, _, _, _, _⟩) (v := ?_) rfl (by kernel_rfl) (by kernel_rfl) (by kernel_rfl) (fun _ _ _ h => h) (Or.inl ⟨by rfl, ?_⟩) (by assumption) ?_; rotate_left 1; · (intro w hSw; (try dsimp only at hSw); go_simp; all_goals with_reducible rfl))
      try simp only [Act.put, List.setIfInBounds_toArray, List.set_cons_zero, List.set_cons_succ]
      (refine wpAnyH_take (i := 9) (oi := ⟨_, _, _, _, _, _⟩) (v := ?_) rfl (by kernel_rfl) (by kernel_rfl) (by kernel_rfl) (fun _ _ _ h => h) (Or.inl ⟨by rfl, ?_⟩) (by assumption) ?_; rotate_left 1; · (intro w hSw; (try dsimp only at hSw); go_simp; all_goals with_reducible rfl))
      try simp only [Act.put, List.setIfInBounds_toArray, List.set_cons_zero, List.set_cons_succ]
      refine wpAnyH_ready (rs := [10]) (by kernel_rfl) (by simp) ?_
      refine AllReadyH.cons (o := ⟨_, _, _, _, _, _⟩) rfl (fun Kq hKq => ?_) (AllReadyH.nil)
      obtain ⟨f9, c9, -⟩ := M7.out
      go_simp
      clear hHeld
      clear f9 c9; have Y7 := Lib.hid (show FB (w7.setCell ⟨p, 1, none⟩ (.slice A7 ((qs).length + 1) c7)) w.heap.size u from (Below.heap_setCell _ _ _ _ (show w.heap.size ≠ p from fun e => by have := LT.out p (G3.out.sub p G3.out.b.p); omega)).trans M7.out.2.2)
      refine hKq.out _ _ ?_ (fun hHeld => ?_)
      · (try dsimp only); exact fb_cells Y7.out
      clear hKq Kq
      try simp only [Act.put, List.setIfInBounds_toArray, List.set_cons_zero, List.set_cons_succ]
      refine wpAnyH_done (by kernel_rfl) ?_ _
      obtain ⟨T', k1, k2, k3, k4, k5, k6⟩ := D7.out
      have Z9 := Lib.hid k2
      have K1 := Lib.hid k1
      have K3 := Lib.hid k3
      have K4 := Lib.hid k4
      have K5 := Lib.hid k5
      have K6 := Lib.hid k6
      have SO := Lib.hid (size32 (q0))
      clear k1 k2 k3 k4 k5 k6 D7 M7 Y7
      generalize w7.setCell ⟨p, 1, none⟩ (.slice A7 ((qs).length + 1) c7) = w8 at *
      go_wp2_with first | (refine wpList_load_row rfl 32 (.tmp 4) rfl (w.heap.size + 1) rfl 32 (fc (q0)) (0, 0) _ Z9.out Try.underlying32 rfl SO.out ?_) | (refine wpList_store_row rfl 32 (.tmp 4) (.tmp 41) rfl (w.heap.size + 1) (fc (q0)) rfl rfl 32 (fc (q0)) Z9.out SO.out rfl (fc_one _) ?_)
      refine bodyPost_ret (results_three Try.results9 _ _ (w.heap.size + 1) rfl (setRow_set Z9.out) Try.underlying32 rfl SO.out rfl rfl) rfl ?_
      exact putEnd (QS := (qs ++ [u])) rfl (LT.out) K1.out K3.out K4.out (fun _ e => e.elim) K5.out K6.out (by rw [← HU.out]; unfold putL; rw [if_pos (by simpa using hlt)]; simp; rfl)
    · go_simp
      clear hHeld
      have hq2 : Below w3.heap.size w3 (w3.alloc (.cells #[.int .u8 u.F.k, .int .i64 u.F.f.1, .int .i64 u.F.f.2, .int .i64 u.F.t.1, .int .i64 u.F.t.2, .int .i64 u.F.n, .int .i64 u.F.q, .int .i64 u.F.b.1, .int .i64 u.F.b.2, .slice u.a.1 u.a.2.1 u.a.2.2, .slice u.b.1 u.b.2.1 u.b.2.2, .slice u.c.1 u.c.2.1 u.c.2.2, .slice u.d.1 u.d.2.1 u.d.2.2, .slice u.e.1 u.e.2.1 u.e.2.2] 32)).drew := (below_one w3 (.cells #[.int .u8 u.F.k, .int .i64 u.F.f.1, .int .i64 u.F.f.2, .int .i64 u.F.t.1, .int .i64 u.F.t.2, .int .i64 u.F.n, .int .i64 u.F.q, .int .i64 u.F.b.1, .int .i64 u.F.b.2, .slice u.a.1 u.a.2.1 u.a.2.2, .slice u.b.1 u.b.2.1 u.b.2.2, .slice u.c.1 u.c.2.1 u.c.2.2, .slice u.d.1 u.d.2.1 u.d.2.2, .slice u.e.1 u.e.2.1 u.e.2.2] 32)).drew; have B6 := Lib.hid hq2; have X6 := Lib.hid (show FB (w3.alloc (.cells #[.int .u8 u.F.k, .int .i64 u.F.f.1, .int .i64 u.F.f.2, .int .i64 u.F.t.1, .int .i64 u.F.t.2, .int .i64 u.F.n, .int .i64 u.F.q, .int .i64 u.F.b.1, .int .i64 u.F.b.2, .slice u.a.1 u.a.2.1 u.a.2.2, .slice u.b.1 u.b.2.1 u.b.2.2, .slice u.c.1 u.c.2.1 u.c.2.2, .slice u.d.1 u.d.2.1 u.d.2.2, .slice u.e.1 u.e.2.1 u.e.2.2] 32)).drew w3.heap.size u from fb_new w3 u); generalize (w3.alloc (.cells #[.int .u8 u.F.k, .int .i64 u.F.f.1, .int .i64 u.F.f.2, .int .i64 u.F.t.1, .int .i64 u.F.t.2, .int .i64 u.F.n, .int .i64 u.F.q, .int .i64 u.F.b.1, .int .i64 u.F.b.2, .slice u.a.1 u.a.2.1 u.a.2.2, .slice u.b.1 u.b.2.1 u.b.2.2, .slice u.c.1 u.c.2.1 u.c.2.2, .slice u.d.1 u.d.2.1 u.d.2.2, .slice u.e.1 u.e.2.1 u.e.2.2] 32)).drew = w6 at *; clear hq2
      refine hKq.out _ _ ?_ (fun hHeld => ?_)
      · (try dsimp only); exact fb_cells (fb_below G3.out.x B6.out)
      clear hKq Kq
      try simp only [Act.put, List.setIfInBounds_toArray, List.set_cons_zero, List.set_cons_succ]
      refine wpAnyH_ready (rs := [4]) (by kernel_rfl) (by simp) ?_
      refine AllReadyH.cons (o := ⟨_, _, _, _, _, _⟩) rfl (fun Kq hKq => ?_) (AllReadyH.nil)
      have c9 := cell_below B6.out C3.out
      go_simp
      clear hHeld
      clear c9
      refine hKq.out _ _ ?_ (fun hHeld => ?_)
      · (try dsimp only); exact fb_cells (fb_below G3.out.x B6.out)
      clear hKq Kq
      try simp only [Act.put, List.setIfInBounds_toArray, List.set_cons_zero, List.set_cons_succ]
      refine wpAnyH_ready (rs := [7]) (by kernel_rfl) (by simp) ?_
      refine AllReadyH.cons (o := ⟨_, _, _, _, _, _⟩) rfl (fun Kq hKq => ?_) (AllReadyH.nil)
      clear hHeld
      refine step_append_frame rfl (.tmp 35) (.tmp 37) rfl w6 rfl rfl rfl ((R3.out).on (Below.on B6.out fun k hk => R3.out.lt k hk)) X6.out L3.out ?_; intro A7 c7 w7 h1 h2; have D7 := Lib.hid (G3.out.done hlt P3.out R3.out B6.out h1 h2); have M7 := Lib.hid (G3.out.mid P3.out R3.out B6.out h2 AT.out); clear h1 h2
      refine hKq.out _ _ ?_ (fun hHeld => ?_)
      · (try dsimp only); exact fb_cells M7.out.2.2
      clear hKq Kq
      try simp only [Act.put, List.setIfInBounds_toArray, List.set_cons_zero, List.set_cons_succ]
      (refine wpAnyH_take (i := 8) (oi := ⟨_, _, _, _, _, _⟩) (v := ?_) rfl (by kernel_rfl) (by kernel_rfl) (by kernel_rfl) (fun _ _ _ h => h) (Or.inl ⟨by rfl, ?_⟩) (by assumption) ?_; rotate_left 1; · (intro w hSw; (try dsimp only at hSw); go_simp; all_goals with_reducible rfl))
      try simp only [Act.put, List.setIfInBounds_toArray, List.set_cons_zero, List.set_cons_succ]
      (refine wpAnyH_take (i := 9) (oi := ⟨_, _, _, _, _, _⟩) (v := ?_) rfl (by kernel_rfl) (by kernel_rfl) (by kernel_rfl) (fun _ _ _ h => h) (Or.inl ⟨by rfl, ?_⟩) (by assumption) ?_; rotate_left 1; · (intro w hSw; (try dsimp only at hSw); go_simp; all_goals with_reducible rfl))
      try simp only [Act.put, List.setIfInBounds_toArray, List.set_cons_zero, List.set_cons_succ]
      refine wpAnyH_ready (rs := [10]) (by kernel_rfl) (by simp) ?_
      refine AllReadyH.cons (o := ⟨_, _, _, _, _, _⟩) rfl (fun Kq hKq => ?_) (AllReadyH.nil)
      obtain ⟨f9, c9, -⟩ := M7.out
      go_simp
      clear hHeld
      clear f9 c9; have Y7 := Lib.hid (show FB (w7.setCell ⟨p, 1, none⟩ (.slice A7 ((qs).length + 1) c7)) w.heap.size u from (Below.heap_setCell _ _ _ _ (show w.heap.size ≠ p from fun e => by have := LT.out p (G3.out.sub p G3.out.b.p); omega)).trans M7.out.2.2)
      refine hKq.out _ _ ?_ (fun hHeld => ?_)
      · (try dsimp only); exact fb_cells Y7.out
      clear hKq Kq
      try simp only [Act.put, List.setIfInBounds_toArray, List.set_cons_zero, List.set_cons_succ]
      refine wpAnyH_done (by kernel_rfl) ?_ _
      obtain ⟨T', k1, k2, k3, k4, k5, k6⟩ := D7.out
      have Z9 := Lib.hid k2
      have K1 := Lib.hid k1
      have K3 := Lib.hid k3
      have K4 := Lib.hid k4
      have K5 := Lib.hid k5
      have K6 := Lib.hid k6
      have SO := Lib.hid (size32 (q0))
      clear k1 k2 k3 k4 k5 k6 D7 M7 Y7
      generalize w7.setCell ⟨p, 1, none⟩ (.slice A7 ((qs).length + 1) c7) = w8 at *
      go_wp2_with first | (refine wpList_load_row rfl 32 (.tmp 4) rfl (w.heap.size + 1) rfl 32 (fc (q0)) (0, 0) _ Z9.out Try.underlying32 rfl SO.out ?_) | (refine wpList_store_row rfl 32 (.tmp 4) (.tmp 41) rfl (w.heap.size + 1) (fc (q0)) rfl rfl 32 (fc (q0)) Z9.out SO.out rfl (fc_one _) ?_)
      refine bodyPost_ret (results_three Try.results9 _ _ (w.heap.size + 1) rfl (setRow_set Z9.out) Try.underlying32 rfl SO.out rfl rfl) rfl ?_
      exact putEnd (QS := (qs ++ [u])) rfl (LT.out) K1.out K3.out K4.out (fun _ e => e.elim) K5.out K6.out (by rw [← HU.out]; unfold putL; rw [if_pos (by simpa using hlt)]; simp; rfl)
  · have hd : decide (mx ≤ (qs.length : Int)) = true := by simp; omega
    go_wp2_with fail
    go_quiet (fail)
    go_upto_region 5 with (fail)
    have G2b := Lib.hid (G2.out.below (below_drewN (n := nq) (Below.refl _ _)))
    clear c0 c1 f1 G2
    generalize w2.drewN nq = v3 at *
    have HDI := Lib.hid (displaced_any T v3 p mx qs G2b.out.b)
    obtain ⟨dd, hdd⟩ : ∃ dd, dz (qs.map (·.F)) = dd := ⟨_, rfl⟩
    rw [hdd] at HDI
    by_cases hfi : fi (qs.map (·.F)) < qs.length
    · have hdf : dd = ((fi (qs.map (·.F)) : Nat) : Int) := by rw [← hdd]; unfold dz; rw [if_pos (by simpa using hfi)]
      have HFI := Lib.hid (show putL mx (qs.map (·.F)) q.F = ((qs.map (·.F)).eraseIdx (fi (qs.map (·.F))) ++ [q.F], (qs[fi (qs.map (·.F))]).F, true) by
        unfold putL
        rw [if_neg (by simpa using hlt), dif_pos (by simpa using hfi)]
        simp)
      clear hdd
      subst hdf
      generalize fi (qs.map (·.F)) = i at *
      have HRM := Lib.hid fun W (hW : BoxAt T W p mx qs) => remove_any T W p mx qs hW i hfi
      generalize qs[i] = qi at *
      have dn : decide ((i : Int) < 0) = false := by simp
      go_wp2_with fail
      (with_reducible refine HDI.out.mono ?_)
      rintro e4 v4 ⟨rfl, hb⟩
      have G4 := Lib.hid (G2b.out.below hb)
      clear hb G2b HDI
      go_wp2_with fail
      (with_reducible refine (HRM.out v4 G4.out.b).mono ?_)
      rintro e5 v5 ⟨rfl, ⟨T1, Q1, r1, r2, r3, r4, r5⟩, ho⟩
      have SI := Lib.hid (size32 qi)
      have hnz : ∀ k, T k → k ≠ w.heap.size + 1 := fun k hk e => by have := LT.out k hk; omega
      have hnx : ¬ T w.heap.size := fun e => by have := LT.out _ e; omega
      have hnx1 : ¬ T (w.heap.size + 1) := fun e => by have := LT.out _ e; omega
      have Z5 := Lib.hid (fb_only G4.out.z ho hnx1)
      have G5 : Hid (PtG T T1 Q1 w p mx (qs.eraseIdx i) u qi (v5.setRow (w.heap.size + 1) (fc qi))) := Lib.hid ⟨r1.on (fun k hk => setRow_other _ _ _ _ (hnz k (r5 k hk))) (by simp), (setRow_other _ _ _ _ (by omega)).trans (fb_only G4.out.x ho hnx), setRow_set Z5.out,
        ((G4.out.u.bound.on (ho.on fun k hk => ⟨hk.2, fun e => by have := LT.out k e; omega⟩)).mono fun _ hk => hk.1).on fun k hk => setRow_other _ _ _ _ (by omega),
        r2.on fun k hk => setRow_other _ _ _ _ (hnz k (r4 k hk)), (G4.out.only.andThen ho).trans (only_setRow v5 (w.heap.size + 1) _) (fun _ e => e) (fun k hk e => absurd e (by omega)), r5, r3, r4, LT.out⟩
      have HL2 := Lib.hid (show ((qs.eraseIdx i).length : Int) < mx by rw [List.length_eraseIdx_of_lt hfi]; have := G4.out.b.len; omega)
      clear r1 r2 r3 r4 r5 ho hnz hnx hnx1 HRM G4
      go_upto_region 9 with (refine wpList_store_row rfl 32 (.tmp 4) (.tmp 30) rfl (w.heap.size + 1) (fc qi) rfl rfl 32 (fc q0) Z5.out SI.out rfl (fc_one qi) ?_)
      have G3 := G5
      clear G5 Z5
      generalize v5.setRow (w.heap.size + 1) (fc qi) = w3 at *
      obtain ⟨A, c, hp, hrow, hAT, -⟩ := G3.out.b.box
      have AT := Lib.hid hAT
      have P3 := Lib.hid hp
      have R3 := Lib.hid hrow
      have C3 := Lib.hid (show w3.cell? ⟨p, 1, none⟩ = some (.slice A ((qs.eraseIdx i)).length c) by rw [cell_of_row _ _ _ _ _ _ hp]; rfl)
      have L3 : Hid (((qs.eraseIdx i)).length ≤ 5000) := Lib.hid (Nat.le_trans G3.out.b.few (by decide))
      clear hp hrow hAT
      refine wp_region_held_drew (S := fun W => W.cell? ⟨w.heap.size, 0, none⟩ = some (.int .u8 u.F.k) ∧ W.cell? ⟨w.heap.size, 1, none⟩ = some (.int .i64 u.F.f.1) ∧ W.cell? ⟨w.heap.size, 2, none⟩ = some (.int .i64 u.F.f.2) ∧ W.cell? ⟨w.heap.size, 3, none⟩ = some (.int .i64 u.F.t.1) ∧ W.cell? ⟨w.heap.size, 4, none⟩ = some (.int .i64 u.F.t.2) ∧ W.cell? ⟨w.heap.size, 5, none⟩ = some (.int .i64 u.F.n) ∧ W.cell? ⟨w.heap.size, 6, none⟩ = some (.int .i64 u.F.q) ∧ W.cell? ⟨w.heap.size, 7, none⟩ = some (.int .i64 u.F.b.1) ∧ W.cell? ⟨w.heap.size, 8, none⟩ = some (.int .i64 u.F.b.2) ∧ W.cell? ⟨w.heap.size, 9, none⟩ = some (.slice u.a.1 u.a.2.1 u.a.2.2) ∧ W.cell? ⟨w.heap.size, 10, none⟩ = some (.slice u.b.1 u.b.2.1 u.b.2.2) ∧ W.cell? ⟨w.heap.size, 11, none⟩ = some (.slice u.c.1 u.c.2.1 u.c.2.2) ∧ W.cell? ⟨w.heap.size, 12, none⟩ = some (.slice u.d.1 u.d.2.1 u.d.2.2) ∧ W.cell? ⟨w.heap.size, 13, none⟩ = some (.slice u.e.1 u.e.2.1 u.e.2.2)) (by kernel_rfl) ?_ (fun hHeld => ?_)
      · exact fb_cells G3.out.x
      (refine wpAnyH_take (i := 0) (oi := ⟨_, _, _, _, _, _⟩) (v := ?_) rfl (by kernel_rfl) (by kernel_rfl) (by kernel_rfl) (fun _ _ _ h => h) (Or.inl ⟨by rfl, ?_⟩) (by assumption) ?_; rotate_left 1; · (intro w hSw; (try dsimp only at hSw); go_simp; all_goals with_reducible rfl))
      try simp only [Act.put, List.setIfInBounds_toArray, List.set_cons_zero, List.set_cons_succ]
      (refine wpAnyH_take (i := 1) (oi := ⟨_, _, _, _, _, _⟩) (v := ?_) rfl (by kernel_rfl) (by kernel_rfl) (by kernel_rfl) (fun _ _ _ h => h) (Or.inl ⟨by rfl, ?_⟩) (by assumption) ?_; rotate_left 1; · (intro w hSw; (try dsimp only at hSw); go_simp; all_goals with_reducible rfl))
      try simp only [Act.put, List.setIfInBounds_toArray, List.set_cons_zero, List.set_cons_succ]
      (refine wpAnyH_take (i := 2) (oi := ⟨_, _, _, _, _, _⟩) (v := ?_) rfl (by kernel_rfl) (by kernel_rfl) (by kernel_rfl) (fun _ _ _ h => h) (Or.inl ⟨by rfl, ?_⟩) (by assumption) ?_; rotate_left 1; · (intro w hSw; (try dsimp only at hSw); go_simp; all_goals with_reducible rfl))
      try simp only [Act.put, List.setIfInBounds_toArray, List.set_cons_zero, List.set_cons_succ]
      (refine wpAnyH_take (i := 3) (oi := ⟨_, _, _, _, _, _⟩) (v := ?_) rfl (by kernel_rfl) (by kernel_rfl) (by kernel_rfl) (fun _ _ _ h => h) (Or.inl ⟨by rfl, ?_⟩) (by assumption) ?_; rotate_left 1; · (intro w hSw; (try dsimp only at hSw); go_simp; all_goals with_reducible rfl))
      try simp only [Act.put, List.setIfInBounds_toArray, List.set_cons_zero, List.set_cons_succ]
      (refine wpAnyH_take (i := 5) (oi := ⟨_, _, _, _, _, _⟩) (v := ?_) rfl (by kernel_rfl) (by kernel_rfl) (by kernel_rfl) (fun _ _ _ h => h) (Or.inl ⟨by rfl, ?_⟩) (by assumption) ?_; rotate_left 1; · (intro w hSw; (try dsimp only at hSw); go_simp; all_goals with_reducible rfl))
      try simp only [Act.put, List.setIfInBounds_toArray, List.set_cons_zero, List.set_cons_succ]
      refine wpAnyH_ready (rs := [4, 6]) (by kernel_rfl) (by simp) ?_
      refine AllReadyH.cons (o := ⟨_, _, _, _, _, _⟩) rfl (fun Kq hKq => ?_) (AllReadyH.cons (o := ⟨_, _, _, _, _, _⟩) rfl (fun Kq hKq => ?_) (AllReadyH.nil))
      · have c9 := C3.out
        go_simp
        clear hHeld
        clear c9
        refine hKq.out _ _ ?_ (fun hHeld => ?_)
        · (try dsimp only); exact fb_cells G3.out.x
        clear hKq Kq
        try simp only [Act.put, List.setIfInBounds_toArray, List.set_cons_zero, List.set_cons_succ]
        refine wpAnyH_ready (rs := [6]) (by kernel_rfl) (by simp) ?_
        refine AllReadyH.cons (o := ⟨_, _, _, _, _, _⟩) rfl (fun Kq hKq => ?_) (AllReadyH.nil)
        go_simp
        clear hHeld
        have hq2 : Below w3.heap.size w3 (w3.alloc (.cells #[.int .u8 u.F.k, .int .i64 u.F.f.1, .int .i64 u.F.f.2, .int .i64 u.F.t.1, .int .i64 u.F.t.2, .int .i64 u.F.n, .int .i64 u.F.q, .int .i64 u.F.b.1, .int .i64 u.F.b.2, .slice u.a.1 u.a.2.1 u.a.2.2, .slice u.b.1 u.b.2.1 u.b.2.2, .slice u.c.1 u.c.2.1 u.c.2.2, .slice u.d.1 u.d.2.1 u.d.2.2, .slice u.e.1 u.e.2.1 u.e.2.2] 32)).drew := (below_one w3 (.cells #[.int .u8 u.F.k, .int .i64 u.F.f.1, .int .i64 u.F.f.2, .int .i64 u.F.t.1, .int .i64 u.F.t.2, .int .i64 u.F.n, .int .i64 u.F.q, .int .i64 u.F.b.1, .int .i64 u.F.b.2, .slice u.a.1 u.a.2.1 u.a.2.2, .slice u.b.1 u.b.2.1 u.b.2.2, .slice u.c.1 u.c.2.1 u.c.2.2, .slice u.d.1 u.d.2.1 u.d.2.2, .slice u.e.1 u.e.2.1 u.e.2.2] 32)).drew; have B6 := Lib.hid hq2; have X6 := Lib.hid (show FB (w3.alloc (.cells #[.int .u8 u.F.k, .int .i64 u.F.f.1, .int .i64 u.F.f.2, .int .i64 u.F.t.1, .int .i64 u.F.t.2, .int .i64 u.F.n, .int .i64 u.F.q, .int .i64 u.F.b.1, .int .i64 u.F.b.2, .slice u.a.1 u.a.2.1 u.a.2.2, .slice u.b.1 u.b.2.1 u.b.2.2, .slice u.c.1 u.c.2.1 u.c.2.2, .slice u.d.1 u.d.2.1 u.d.2.2, .slice u.e.1 u.e.2.1 u.e.2.2] 32)).drew w3.heap.size u from fb_new w3 u); generalize (w3.alloc (.cells #[.int .u8 u.F.k, .int .i64 u.F.f.1, .int .i64 u.F.f.2, .int .i64 u.F.t.1, .int .i64 u.F.t.2, .int .i64 u.F.n, .int .i64 u.F.q, .int .i64 u.F.b.1, .int .i64 u.F.b.2, .slice u.a.1 u.a.2.1 u.a.2.2, .slice u.b.1 u.b.2.1 u.b.2.2, .slice u.c.1 u.c.2.1 u.c.2.2, .slice u.d.1 u.d.2.1 u.d.2.2, .slice u.e.1 u.e.2.1 u.e.2.2] 32)).drew = w6 at *; clear hq2
        refine hKq.out _ _ ?_ (fun hHeld => ?_)
        · (try dsimp only); exact fb_cells (fb_below G3.out.x B6.out)
        clear hKq Kq
        try simp only [Act.put, List.setIfInBounds_toArray, List.set_cons_zero, List.set_cons_succ]
        refine wpAnyH_ready (rs := [7]) (by kernel_rfl) (by simp) ?_
        refine AllReadyH.cons (o := ⟨_, _, _, _, _, _⟩) rfl (fun Kq hKq => ?_) (AllReadyH.nil)
        clear hHeld
        refine step_append_frame rfl (.tmp 35) (.tmp 37) rfl w6 rfl rfl rfl ((R3.out).on (Below.on B6.out fun k hk => R3.out.lt k hk)) X6.out L3.out ?_; intro A7 c7 w7 h1 h2; have D7 := Lib.hid (G3.out.done HL2.out P3.out R3.out B6.out h1 h2); have M7 := Lib.hid (G3.out.mid P3.out R3.out B6.out h2 AT.out); clear h1 h2
        refine hKq.out _ _ ?_ (fun hHeld => ?_)
        · (try dsimp only); exact fb_cells M7.out.2.2
        clear hKq Kq
        try simp only [Act.put, List.setIfInBounds_toArray, List.set_cons_zero, List.set_cons_succ]
        (refine wpAnyH_take (i := 8) (oi := ⟨_, _, _, _, _, _⟩) (v := ?_) rfl (by kernel_rfl) (by kernel_rfl) (by kernel_rfl) (fun _ _ _ h => h) (Or.inl ⟨by rfl, ?_⟩) (by assumption) ?_; rotate_left 1; · (intro w hSw; (try dsimp only at hSw); go_simp; all_goals with_reducible rfl))
        try simp only [Act.put, List.setIfInBounds_toArray, List.set_cons_zero, List.set_cons_succ]
        (refine wpAnyH_take (i := 9) (oi := ⟨_, _, _, _, _, _⟩) (v := ?_) rfl (by kernel_rfl) (by kernel_rfl) (by kernel_rfl) (fun _ _ _ h => h) (Or.inl ⟨by rfl, ?_⟩) (by assumption) ?_; rotate_left 1; · (intro w hSw; (try dsimp only at hSw); go_simp; all_goals with_reducible rfl))
        try simp only [Act.put, List.setIfInBounds_toArray, List.set_cons_zero, List.set_cons_succ]
        refine wpAnyH_ready (rs := [10]) (by kernel_rfl) (by simp) ?_
        refine AllReadyH.cons (o := ⟨_, _, _, _, _, _⟩) rfl (fun Kq hKq => ?_) (AllReadyH.nil)
        obtain ⟨f9, c9, -⟩ := M7.out
        go_simp
        clear hHeld
        clear f9 c9; have Y7 := Lib.hid (show FB (w7.setCell ⟨p, 1, none⟩ (.slice A7 (((qs.eraseIdx i)).length + 1) c7)) w.heap.size u from (Below.heap_setCell _ _ _ _ (show w.heap.size ≠ p from fun e => by have := LT.out p (G3.out.sub p G3.out.b.p); omega)).trans M7.out.2.2)
        refine hKq.out _ _ ?_ (fun hHeld => ?_)
        · (try dsimp only); exact fb_cells Y7.out
        clear hKq Kq
        try simp only [Act.put, List.setIfInBounds_toArray, List.set_cons_zero, List.set_cons_succ]
        refine wpAnyH_done (by kernel_rfl) ?_ _
        obtain ⟨T', k1, k2, k3, k4, k5, k6⟩ := D7.out
        have Z9 := Lib.hid k2
        have K1 := Lib.hid k1
        have K3 := Lib.hid k3
        have K4 := Lib.hid k4
        have K5 := Lib.hid k5
        have K6 := Lib.hid k6
        have SO := Lib.hid (size32 (qi))
        clear k1 k2 k3 k4 k5 k6 D7 M7 Y7
        generalize w7.setCell ⟨p, 1, none⟩ (.slice A7 ((qs.eraseIdx i).length + 1) c7) = w8 at *
        go_wp2_with first | (refine wpList_load_row rfl 32 (.tmp 4) rfl (w.heap.size + 1) rfl 32 (fc (qi)) (0, 0) _ Z9.out Try.underlying32 rfl SO.out ?_) | (refine wpList_store_row rfl 32 (.tmp 4) (.tmp 41) rfl (w.heap.size + 1) (fc (qi)) rfl rfl 32 (fc (qi)) Z9.out SO.out rfl (fc_one _) ?_)
        refine bodyPost_ret (results_three Try.results9 _ _ (w.heap.size + 1) rfl (setRow_set Z9.out) Try.underlying32 rfl SO.out rfl rfl) rfl ?_
        exact putEnd (QS := (qs.eraseIdx i ++ [u])) rfl (LT.out) K1.out K3.out K4.out (fun k hk => .inl (G3.out.qs k hk)) K5.out K6.out (by rw [HFI.out, ← HU.out]; simp [map_erase])
      · go_simp
        clear hHeld
        have hq2 : Below w3.heap.size w3 (w3.alloc (.cells #[.int .u8 u.F.k, .int .i64 u.F.f.1, .int .i64 u.F.f.2, .int .i64 u.F.t.1, .int .i64 u.F.t.2, .int .i64 u.F.n, .int .i64 u.F.q, .int .i64 u.F.b.1, .int .i64 u.F.b.2, .slice u.a.1 u.a.2.1 u.a.2.2, .slice u.b.1 u.b.2.1 u.b.2.2, .slice u.c.1 u.c.2.1 u.c.2.2, .slice u.d.1 u.d.2.1 u.d.2.2, .slice u.e.1 u.e.2.1 u.e.2.2] 32)).drew := (below_one w3 (.cells #[.int .u8 u.F.k, .int .i64 u.F.f.1, .int .i64 u.F.f.2, .int .i64 u.F.t.1, .int .i64 u.F.t.2, .int .i64 u.F.n, .int .i64 u.F.q, .int .i64 u.F.b.1, .int .i64 u.F.b.2, .slice u.a.1 u.a.2.1 u.a.2.2, .slice u.b.1 u.b.2.1 u.b.2.2, .slice u.c.1 u.c.2.1 u.c.2.2, .slice u.d.1 u.d.2.1 u.d.2.2, .slice u.e.1 u.e.2.1 u.e.2.2] 32)).drew; have B6 := Lib.hid hq2; have X6 := Lib.hid (show FB (w3.alloc (.cells #[.int .u8 u.F.k, .int .i64 u.F.f.1, .int .i64 u.F.f.2, .int .i64 u.F.t.1, .int .i64 u.F.t.2, .int .i64 u.F.n, .int .i64 u.F.q, .int .i64 u.F.b.1, .int .i64 u.F.b.2, .slice u.a.1 u.a.2.1 u.a.2.2, .slice u.b.1 u.b.2.1 u.b.2.2, .slice u.c.1 u.c.2.1 u.c.2.2, .slice u.d.1 u.d.2.1 u.d.2.2, .slice u.e.1 u.e.2.1 u.e.2.2] 32)).drew w3.heap.size u from fb_new w3 u); generalize (w3.alloc (.cells #[.int .u8 u.F.k, .int .i64 u.F.f.1, .int .i64 u.F.f.2, .int .i64 u.F.t.1, .int .i64 u.F.t.2, .int .i64 u.F.n, .int .i64 u.F.q, .int .i64 u.F.b.1, .int .i64 u.F.b.2, .slice u.a.1 u.a.2.1 u.a.2.2, .slice u.b.1 u.b.2.1 u.b.2.2, .slice u.c.1 u.c.2.1 u.c.2.2, .slice u.d.1 u.d.2.1 u.d.2.2, .slice u.e.1 u.e.2.1 u.e.2.2] 32)).drew = w6 at *; clear hq2
        refine hKq.out _ _ ?_ (fun hHeld => ?_)
        · (try dsimp only); exact fb_cells (fb_below G3.out.x B6.out)
        clear hKq Kq
        try simp only [Act.put, List.setIfInBounds_toArray, List.set_cons_zero, List.set_cons_succ]
        refine wpAnyH_ready (rs := [4]) (by kernel_rfl) (by simp) ?_
        refine AllReadyH.cons (o := ⟨_, _, _, _, _, _⟩) rfl (fun Kq hKq => ?_) (AllReadyH.nil)
        have c9 := cell_below B6.out C3.out
        go_simp
        clear hHeld
        clear c9
        refine hKq.out _ _ ?_ (fun hHeld => ?_)
        · (try dsimp only); exact fb_cells (fb_below G3.out.x B6.out)
        clear hKq Kq
        try simp only [Act.put, List.setIfInBounds_toArray, List.set_cons_zero, List.set_cons_succ]
        refine wpAnyH_ready (rs := [7]) (by kernel_rfl) (by simp) ?_
        refine AllReadyH.cons (o := ⟨_, _, _, _, _, _⟩) rfl (fun Kq hKq => ?_) (AllReadyH.nil)
        clear hHeld
        refine step_append_frame rfl (.tmp 35) (.tmp 37) rfl w6 rfl rfl rfl ((R3.out).on (Below.on B6.out fun k hk => R3.out.lt k hk)) X6.out L3.out ?_; intro A7 c7 w7 h1 h2; have D7 := Lib.hid (G3.out.done HL2.out P3.out R3.out B6.out h1 h2); have M7 := Lib.hid (G3.out.mid P3.out R3.out B6.out h2 AT.out); clear h1 h2
        refine hKq.out _ _ ?_ (fun hHeld => ?_)
        · (try dsimp only); exact fb_cells M7.out.2.2
        clear hKq Kq
        try simp only [Act.put, List.setIfInBounds_toArray, List.set_cons_zero, List.set_cons_succ]
        (refine wpAnyH_take (i := 8) (oi := ⟨_, _, _, _, _, _⟩) (v := ?_) rfl (by kernel_rfl) (by kernel_rfl) (by kernel_rfl) (fun _ _ _ h => h) (Or.inl ⟨by rfl, ?_⟩) (by assumption) ?_; rotate_left 1; · (intro w hSw; (try dsimp only at hSw); go_simp; all_goals with_reducible rfl))
        try simp only [Act.put, List.setIfInBounds_toArray, List.set_cons_zero, List.set_cons_succ]
        (refine wpAnyH_take (i := 9) (oi := ⟨_, _, _, _, _, _⟩) (v := ?_) rfl (by kernel_rfl) (by kernel_rfl) (by kernel_rfl) (fun _ _ _ h => h) (Or.inl ⟨by rfl, ?_⟩) (by assumption) ?_; rotate_left 1; · (intro w hSw; (try dsimp only at hSw); go_simp; all_goals with_reducible rfl))
        try simp only [Act.put, List.setIfInBounds_toArray, List.set_cons_zero, List.set_cons_succ]
        refine wpAnyH_ready (rs := [10]) (by kernel_rfl) (by simp) ?_
        refine AllReadyH.cons (o := ⟨_, _, _, _, _, _⟩) rfl (fun Kq hKq => ?_) (AllReadyH.nil)
        obtain ⟨f9, c9, -⟩ := M7.out
        go_simp
        clear hHeld
        clear f9 c9; have Y7 := Lib.hid (show FB (w7.setCell ⟨p, 1, none⟩ (.slice A7 (((qs.eraseIdx i)).length + 1) c7)) w.heap.size u from (Below.heap_setCell _ _ _ _ (show w.heap.size ≠ p from fun e => by have := LT.out p (G3.out.sub p G3.out.b.p); omega)).trans M7.out.2.2)
        refine hKq.out _ _ ?_ (fun hHeld => ?_)
        · (try dsimp only); exact fb_cells Y7.out
        clear hKq Kq
        try simp only [Act.put, List.setIfInBounds_toArray, List.set_cons_zero, List.set_cons_succ]
        refine wpAnyH_done (by kernel_rfl) ?_ _
        obtain ⟨T', k1, k2, k3, k4, k5, k6⟩ := D7.out
        have Z9 := Lib.hid k2
        have K1 := Lib.hid k1
        have K3 := Lib.hid k3
        have K4 := Lib.hid k4
        have K5 := Lib.hid k5
        have K6 := Lib.hid k6
        have SO := Lib.hid (size32 (qi))
        clear k1 k2 k3 k4 k5 k6 D7 M7 Y7
        generalize w7.setCell ⟨p, 1, none⟩ (.slice A7 ((qs.eraseIdx i).length + 1) c7) = w8 at *
        go_wp2_with first | (refine wpList_load_row rfl 32 (.tmp 4) rfl (w.heap.size + 1) rfl 32 (fc (qi)) (0, 0) _ Z9.out Try.underlying32 rfl SO.out ?_) | (refine wpList_store_row rfl 32 (.tmp 4) (.tmp 41) rfl (w.heap.size + 1) (fc (qi)) rfl rfl 32 (fc (qi)) Z9.out SO.out rfl (fc_one _) ?_)
        refine bodyPost_ret (results_three Try.results9 _ _ (w.heap.size + 1) rfl (setRow_set Z9.out) Try.underlying32 rfl SO.out rfl rfl) rfl ?_
        exact putEnd (QS := (qs.eraseIdx i ++ [u])) rfl (LT.out) K1.out K3.out K4.out (fun k hk => .inl (G3.out.qs k hk)) K5.out K6.out (by rw [HFI.out, ← HU.out]; simp [map_erase])
    · have hfl : fi (qs.map (·.F)) = qs.length := by have := fi_le (qs.map (·.F)); simp at this; omega
      have hdf : dd = -1 := by rw [← hdd]; unfold dz; rw [if_neg (by simpa using hfi)]
      have HFI := Lib.hid (show putL mx (qs.map (·.F)) q.F = (qs.map (·.F), q.F, true) by
        unfold putL
        rw [if_neg (by simpa using hlt), dif_neg (by simpa using hfi)])
      clear hdd hfl
      subst hdf
      have dn : decide ((-1 : Int) < 0) = true := by simp
      go_wp2_with fail
      (with_reducible refine HDI.out.mono ?_)
      rintro e4 v4 ⟨rfl, hb⟩
      have G4 := Lib.hid (G2b.out.below hb)
      have X4 := Lib.hid G4.out.x
      have Z4 := Lib.hid G4.out.z
      clear hb G2b HDI
      go_wp2_with first
        | (refine wpList_load_row rfl 32 (.tmp 3) rfl w.heap.size rfl 32 (fc u) (0, 0) _ X4.out Try.underlying32 rfl SU.out ?_)
        | (refine wpList_store_row rfl 32 (.tmp 4) (.tmp 27) rfl (w.heap.size + 1) (fc u) rfl rfl 32 (fc q0) Z4.out SU.out rfl (fc_one u) ?_)
      refine bodyPost_ret (results_three Try.results9 _ _ (w.heap.size + 1) rfl (setRow_set Z4.out) Try.underlying32 rfl SU.out rfl rfl) rfl ?_
      exact putEnd (T' := T) (Q := fun k => w.heap.size + 2 ≤ k) (QS := qs) rfl LT.out G4.out.b G4.out.u (fun k hk e => by have := LT.out k e; omega) (fun k hk => .inr hk) (fun k hk => .inl hk) G4.out.only (by rw [HFI.out, ← HU.out])
end Go.Proofs.Ytmgiglefabbmcaa
