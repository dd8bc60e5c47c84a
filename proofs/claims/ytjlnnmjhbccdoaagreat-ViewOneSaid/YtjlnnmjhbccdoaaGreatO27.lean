/-
  Carried over and put together: contracts of this program's functions, and plain facts. No statement is proved in this text.
-/
import Derived.Test.YtjlnnmjhbccdoaaGreatO04
import Derived.Test.YtjlnnmjhbccdoaaGreatO10
import Derived.Test.YtjlnnmjhbccdoaaGreatO12
import Derived.Test.YtjlnnmjhbccdoaaGreatO13
import Derived.Test.YtjlnnmjhbccdoaaGreatO14
import Derived.Test.YtjlnnmjhbccdoaaGreatO16
import Derived.Test.YtjlnnmjhbccdoaaGreatO23
import Derived.Test.YtjlnnmjhbccdoaaGreatO26
set_option maxRecDepth 20000
namespace Go.Proofs.YtjlnnmjhbccdoaaGreat
open Go Go.RowKit
structure Vw where
 m : List Ros.Mm
 f : List Sets.Id2
 r : List RowSets.Row
 c : List Clocks.Tick
 s : List Sets.Id2
abbrev SL := Option Addr × Nat × Nat
structure RV (w : World) (a b c d e : SL) (V : Vw) : Prop where
 m : Ms w (.slice a.1 a.2.1 a.2.2) V.m
 f : Ids w (.slice b.1 b.2.1 b.2.2) V.f
 r : RowsAt w (.slice c.1 c.2.1 c.2.2) V.r
 c : Rcs encT 3 w (.slice d.1 d.2.1 d.2.2) V.c
 s : Ids w (.slice e.1 e.2.1 e.2.2) V.s
theorem RV.below {w w' : World} {a b c d e : SL} {V : Vw} (h : RV w a b c d e V) (hb : Below w.heap.size w w') : RV w' a b c d e V := ⟨h.m.below hb, h.f.below hb, h.r.below hb, h.c.below hb, h.s.below hb⟩
theorem rcs_len {α : Type} [Inhabited α] {enc : α → List Value} {sz : Nat} {w : World} {A : Option Addr} {n c : Nat} {l : List α} (h : Rcs enc sz w (.slice A n c) l) : n = l.length := by
 obtain ⟨A', c', hv, _⟩ := h
 injection hv
theorem ids_len {w : World} {A : Option Addr} {n c : Nat} {l : List Sets.Id2} (h : Ids w (.slice A n c) l) : n = l.length := by
 obtain ⟨A', c', hv, _⟩ := h
 injection hv
theorem rows_len {w : World} {A : Option Addr} {n c : Nat} {l : List RowSets.Row} (h : RowsAt w (.slice A n c) l) : n = l.length := by
 obtain ⟨A', c', hv, _⟩ := h.shape
 injection hv
def VAt (w : World) (v : Value) (V : Vw) : Prop := ∃ a b c d e : SL, v = .agg #[.slice a.1 a.2.1 a.2.2, .slice b.1 b.2.1 b.2.2, .slice c.1 c.2.1 c.2.2, .slice d.1 d.2.1 d.2.2, .slice e.1 e.2.1 e.2.2] ∧ RV w a b c d e V
theorem VAt.below {w w' : World} {v : Value} {V : Vw} (h : VAt w v V) (hb : Below w.heap.size w w') : VAt w' v V := by
 obtain ⟨a, b, c, d, e, h1, h2⟩ := h
 exact ⟨a, b, c, d, e, h1, h2.below hb⟩
theorem sl_rcs {α : Type} [Inhabited α] {enc : α → List Value} {sz : Nat} {w : World} {v : Value} {l : List α} (h : Rcs enc sz w v l) : ∃ a : SL, v = .slice a.1 a.2.1 a.2.2 := by
 obtain ⟨A, c, hv, _⟩ := h
 exact ⟨(A, l.length, c), hv⟩
theorem sl_ids {w : World} {v : Value} {l : List Sets.Id2} (h : Ids w v l) : ∃ a : SL, v = .slice a.1 a.2.1 a.2.2 := by
 obtain ⟨A, c, hv, _⟩ := h
 exact ⟨(A, l.length, c), hv⟩
theorem sl_rows {w : World} {v : Value} {l : List RowSets.Row} (h : RowsAt w v l) : ∃ a : SL, v = .slice a.1 a.2.1 a.2.2 := by
 obtain ⟨A, c, hv, _⟩ := h.shape
 exact ⟨(A, l.length, c), hv⟩
theorem vAt_of {w : World} {a b c d e : Value} {m : List Ros.Mm} {f : List Sets.Id2} {r : List RowSets.Row} {t : List Clocks.Tick} {s : List Sets.Id2} (h1 : Ms w a m) (h2 : Ids w b f) (h3 : RowsAt w c r) (h4 : Rcs encT 3 w d t) (h5 : Ids w e s) : VAt w (.agg #[a, b, c, d, e]) ⟨m, f, r, t, s⟩ := by
 obtain ⟨a, rfl⟩ := sl_rcs h1
 obtain ⟨b, rfl⟩ := sl_ids h2
 obtain ⟨c, rfl⟩ := sl_rows h3
 obtain ⟨d, rfl⟩ := sl_rcs h4
 obtain ⟨e, rfl⟩ := sl_ids h5
 exact ⟨a, b, c, d, e, rfl, h1, h2, h3, h4, h5⟩
def VBox (w : World) (g : Nat) (a b c d e : SL) : Prop := w.heap[g]? = some (.cells #[.slice a.1 a.2.1 a.2.2, .slice b.1 b.2.1 b.2.2, .slice c.1 c.2.1 c.2.2, .slice d.1 d.2.1 d.2.2, .slice e.1 e.2.1 e.2.2] 27 (0, 0))
theorem vbox_cells {w : World} {g : Nat} {a b c d e : SL} (h : VBox w g a b c d e) : w.cell? ⟨g, 0, none⟩ = some (.slice a.1 a.2.1 a.2.2) ∧ w.cell? ⟨g, 1, none⟩ = some (.slice b.1 b.2.1 b.2.2) ∧ w.cell? ⟨g, 2, none⟩ = some (.slice c.1 c.2.1 c.2.2) ∧ w.cell? ⟨g, 3, none⟩ = some (.slice d.1 d.2.1 d.2.2) ∧ w.cell? ⟨g, 4, none⟩ = some (.slice e.1 e.2.1 e.2.2) := by
 unfold VBox at h
 exact ⟨by rw [cell_of_row _ _ 0 _ _ _ h]; rfl, by rw [cell_of_row _ _ 1 _ _ _ h]; rfl, by rw [cell_of_row _ _ 2 _ _ _ h]; rfl, by rw [cell_of_row _ _ 3 _ _ _ h]; rfl, by rw [cell_of_row _ _ 4 _ _ _ h]; rfl⟩
theorem vbox_free {w : World} {g : Nat} {a b c d e : SL} (h : VBox w g a b c d e) : w.frozen? ⟨g, 0, none⟩ = false ∧ w.frozen? ⟨g, 1, none⟩ = false ∧ w.frozen? ⟨g, 2, none⟩ = false ∧ w.frozen? ⟨g, 3, none⟩ = false ∧ w.frozen? ⟨g, 4, none⟩ = false := by
 unfold VBox at h
 exact ⟨by simp [World.frozen?, h], by simp [World.frozen?, h], by simp [World.frozen?, h], by simp [World.frozen?, h], by simp [World.frozen?, h]⟩
theorem vbox_new (w : World) (a b c d e : SL) : VBox (w.alloc (.cells #[.slice a.1 a.2.1 a.2.2, .slice b.1 b.2.1 b.2.2, .slice c.1 c.2.1 c.2.2, .slice d.1 d.2.1 d.2.2, .slice e.1 e.2.1 e.2.2] 27)) w.heap.size a b c d e := heap_alloc_new w _
theorem vbox_lt {w : World} {g : Nat} {a b c d e : SL} (h : VBox w g a b c d e) : g < w.heap.size := row_lt h
theorem vbox_below {w w' : World} {g : Nat} {a b c d e : SL} (h : VBox w g a b c d e) (hb : Below w.heap.size w w') : VBox w' g a b c d e := (hb.block _ (vbox_lt h)).trans h
theorem vbox_set {w : World} {g : Nat} {a b c d e : SL} (h : VBox w g a b c d e) (a' b' c' d' e' : SL) : VBox (((((w.setCell ⟨g, 0, none⟩ (.slice a'.1 a'.2.1 a'.2.2)).setCell ⟨g, 1, none⟩ (.slice b'.1 b'.2.1 b'.2.2)).setCell ⟨g, 2, none⟩ (.slice c'.1 c'.2.1 c'.2.2)).setCell ⟨g, 3, none⟩ (.slice d'.1 d'.2.1 d'.2.2)).setCell ⟨g, 4, none⟩ (.slice e'.1 e'.2.1 e'.2.2)) g a' b' c' d' e' := by
 unfold VBox at *
 simp [World.setCell, Array.getElem?_modify, h]
def HoldsV (w : World) (g : Nat) (V : Vw) : Prop := ∃ a b c d e : SL, VBox w g a b c d e ∧ RV w a b c d e V
theorem HoldsV.below {w w' : World} {g : Nat} {V : Vw} (h : HoldsV w g V) (hb : Below w.heap.size w w') : HoldsV w' g V := by
 obtain ⟨a, b, c, d, e, h1, h2⟩ := h
 exact ⟨a, b, c, d, e, vbox_below h1 hb, h2.below hb⟩
theorem RV.at_ {w : World} {a b c d e : SL} {V : Vw} (h : RV w a b c d e V) : VAt w (.agg #[.slice a.1 a.2.1 a.2.2, .slice b.1 b.2.1 b.2.2, .slice c.1 c.2.1 c.2.2, .slice d.1 d.2.1 d.2.2, .slice e.1 e.2.1 e.2.2]) V := ⟨a, b, c, d, e, rfl, h⟩
structure Fit (n : Nat) (V : Vw) : Prop where
 m : V.m.length ≤ n
 f : V.f.length ≤ n
 r : V.r.length ≤ n
 c : V.c.length ≤ n
 s : V.s.length ≤ n
 n : ∀ r ∈ V.r, r.2.2.length ≤ n
theorem Fit.mono {n k : Nat} {V : Vw} (h : Fit n V) (hk : n ≤ k) : Fit k V := ⟨Nat.le_trans h.m hk, Nat.le_trans h.f hk, Nat.le_trans h.r hk, Nat.le_trans h.c hk, Nat.le_trans h.s hk, fun r hr => Nat.le_trans (h.n r hr) hk⟩
def coreB (V U : Vw) : Bool := decide (V.m = U.m) && (sameB V.f U.f && (sameR V.r U.r && decide (V.c = U.c)))
set_option maxHeartbeats 4000000 in
theorem sameRows_is (v u : Value) (l m : List RowSets.Row) (w : World) (h : RowsAt w v l) (h2 : RowsAt w u m) (hl : l.length ≤ 100000) (sl : ∀ r ∈ l, r.2.2.length ≤ 40000) (sm : ∀ r ∈ m, r.2.2.length ≤ 40000) :
  Calls Tryz.prog 39 #[v, u] w fun e w' => e = .returned (.bool (sameR l m)) ∧ Below w.heap.size w w' := by
 have HI := Lib.hid h
 have HJ := Lib.hid h2
 have SL := Lib.hid sl
 have SM := Lib.hid sm
 clear h h2 sl sm
 go_enter Tryz.func39, Tryz.ntmps39
 go_wp2_with fail
 (with_reducible refine (equalW_any v u l m _ HI.out HJ.out hl SL.out SM.out).mono ?_)
 rintro e w1 ⟨rfl, hb⟩
 have HB := Lib.hid hb
 clear hb
 generalize hz : sameR l m = z at *
 have HZ := Lib.hid hz
 clear hz
 go_wp2_with fail
 go_ret
 exact ⟨ret_bool HZ.out.symm, HB.out⟩
set_option maxHeartbeats 4000000 in
theorem core_any (v u : Value) (V U : Vw) (w : World) (h : VAt w v V) (k : VAt w u U) (hV : Fit 1000 V) (hU : Fit 1000 U) :
  Calls Tryz.prog 24 #[v, u] w fun e w' => e = .returned (.bool (coreB V U)) ∧ Below w.heap.size w w' := by
 obtain ⟨a, b, c, d, e, rfl, hr⟩ := h
 obtain ⟨a', b', c', d', e', rfl, kr⟩ := k
 have X1 := Lib.hid (vbox_below (vbox_new w a b c d e) (below_one _ (.cells #[.slice a'.1 a'.2.1 a'.2.2, .slice b'.1 b'.2.1 b'.2.2, .slice c'.1 c'.2.1 c'.2.2, .slice d'.1 d'.2.1 d'.2.2, .slice e'.1 e'.2.1 e'.2.2] 27)))
 have X2 : Hid (VBox ((w.alloc (.cells #[.slice a.1 a.2.1 a.2.2, .slice b.1 b.2.1 b.2.2, .slice c.1 c.2.1 c.2.2, .slice d.1 d.2.1 d.2.2, .slice e.1 e.2.1 e.2.2] 27)).alloc (.cells #[.slice a'.1 a'.2.1 a'.2.2, .slice b'.1 b'.2.1 b'.2.2, .slice c'.1 c'.2.1 c'.2.2, .slice d'.1 d'.2.1 d'.2.2, .slice e'.1 e'.2.1 e'.2.2] 27)) (w.heap.size + 1) a' b' c' d' e') := Lib.hid (by simpa using vbox_new (w.alloc (.cells #[.slice a.1 a.2.1 a.2.2, .slice b.1 b.2.1 b.2.2, .slice c.1 c.2.1 c.2.2, .slice d.1 d.2.1 d.2.2, .slice e.1 e.2.1 e.2.2] 27)) a' b' c' d' e')
 have BB := Lib.hid (below_two w (.cells #[.slice a.1 a.2.1 a.2.2, .slice b.1 b.2.1 b.2.2, .slice c.1 c.2.1 c.2.2, .slice d.1 d.2.1 d.2.2, .slice e.1 e.2.1 e.2.2] 27) (.cells #[.slice a'.1 a'.2.1 a'.2.2, .slice b'.1 b'.2.1 b'.2.2, .slice c'.1 c'.2.1 c'.2.2, .slice d'.1 d'.2.1 d'.2.2, .slice e'.1 e'.2.1 e'.2.2] 27))
 have RA := Lib.hid (hr.below BB.out)
 have RB := Lib.hid (kr.below BB.out)
 clear hr kr
 obtain ⟨p0, p1, p2, p3, p4⟩ := vbox_cells X1.out
 obtain ⟨q0, q1, q2, q3, q4⟩ := vbox_cells X2.out
 have HE : Hid (coreB V U = (decide (V.m = U.m) && (sameB V.f U.f && (sameR V.r U.r && decide (V.c = U.c))))) := Lib.hid rfl
 have LV := Lib.hid hV
 have LU := Lib.hid hU
 clear hV hU
 go_enter Tryz.func24, Tryz.ntmps24
 go_wp2_with fail
 (with_reducible refine (sameM_is _ _ V.m U.m _ RA.out.m RB.out.m (Nat.le_trans LV.out.m (by decide))).mono ?_)
 rintro e1 w1 ⟨rfl, hb⟩
 have B1 := Lib.hid (below_after BB.out hb (Nat.le_refl _))
 have P1 := Lib.hid (vbox_below X1.out hb)
 have Q1 := Lib.hid (vbox_below X2.out hb)
 have R1 := Lib.hid (RA.out.below hb)
 have S1 := Lib.hid (RB.out.below hb)
 clear hb p0 p1 p2 p3 p4 q0 q1 q2 q3 q4 BB X1 X2 RA RB
 obtain ⟨p0, p1, p2, p3, p4⟩ := vbox_cells P1.out
 obtain ⟨q0, q1, q2, q3, q4⟩ := vbox_cells Q1.out
 generalize decide (V.m = U.m) = y1 at *
 cases y1
 ·go_wp2_with fail
  go_ret
  exact ⟨ret_bool (by rw [HE.out]; rfl), B1.out⟩
 ·go_wp2_with fail
  (with_reducible refine (equal_any _ _ V.f U.f _ R1.out.f S1.out.f (Nat.le_trans LV.out.f (by decide))).mono ?_)
  rintro e2 w2 ⟨rfl, hb⟩
  have B2 := Lib.hid (below_after B1.out hb (Nat.le_refl _))
  have P2 := Lib.hid (vbox_below P1.out hb)
  have Q2 := Lib.hid (vbox_below Q1.out hb)
  have R2 := Lib.hid (R1.out.below hb)
  have S2 := Lib.hid (S1.out.below hb)
  clear hb p0 p1 p2 p3 p4 q0 q1 q2 q3 q4 B1 P1 Q1 R1 S1
  obtain ⟨p0, p1, p2, p3, p4⟩ := vbox_cells P2.out
  obtain ⟨q0, q1, q2, q3, q4⟩ := vbox_cells Q2.out
  generalize sameB V.f U.f = y2 at *
  cases y2
  ·go_wp2_with fail
   go_ret
   exact ⟨ret_bool (by rw [HE.out]; rfl), B2.out⟩
  ·go_wp2_with fail
   (with_reducible refine (sameRows_is _ _ V.r U.r _ R2.out.r S2.out.r (Nat.le_trans LV.out.r (by decide)) (fun r hr => Nat.le_trans (LV.out.n r hr) (by decide)) (fun r hr => Nat.le_trans (LU.out.n r hr) (by decide))).mono ?_)
   rintro e3 w3 ⟨rfl, hb⟩
   have B3 := Lib.hid (below_after B2.out hb (Nat.le_refl _))
   have P3 := Lib.hid (vbox_below P2.out hb)
   have Q3 := Lib.hid (vbox_below Q2.out hb)
   have R3 := Lib.hid (R2.out.below hb)
   have S3 := Lib.hid (S2.out.below hb)
   clear hb p0 p1 p2 p3 p4 q0 q1 q2 q3 q4 B2 P2 Q2 R2 S2
   obtain ⟨p0, p1, p2, p3, p4⟩ := vbox_cells P3.out
   obtain ⟨q0, q1, q2, q3, q4⟩ := vbox_cells Q3.out
   generalize sameR V.r U.r = y3 at *
   cases y3
   ·go_wp2_with fail
    go_ret
    exact ⟨ret_bool (by rw [HE.out]; rfl), B3.out⟩
   ·go_wp2_with fail
    (with_reducible refine (equalT_any _ _ V.c U.c _ R3.out.c S3.out.c (Nat.le_trans LV.out.c (by decide))).mono ?_)
    rintro e4 w4 ⟨rfl, hb⟩
    have B4 := Lib.hid (below_after B3.out hb (Nat.le_refl _))
    have P4 := Lib.hid (vbox_below P3.out hb)
    have Q4 := Lib.hid (vbox_below Q3.out hb)
    have R4 := Lib.hid (R3.out.below hb)
    have S4 := Lib.hid (S3.out.below hb)
    clear hb p0 p1 p2 p3 p4 q0 q1 q2 q3 q4 B3 P3 Q3 R3 S3
    obtain ⟨p0, p1, p2, p3, p4⟩ := vbox_cells P4.out
    obtain ⟨q0, q1, q2, q3, q4⟩ := vbox_cells Q4.out
    generalize decide (V.c = U.c) = y4 at *
    go_wp2_with fail
    go_ret
    exact ⟨ret_bool (by rw [HE.out]; rfl), B4.out⟩
set_option maxHeartbeats 4000000 in
theorem copiedI_any (v : Value) (l : List Sets.Id2) (w : World) (h : Ids w v l) (hl : l.length ≤ 40000) :
  Calls Tryz.prog 65 #[v] w fun e w' => ∃ X, e = .returned X ∧ Ids w' X l ∧ Below w.heap.size w w' := by
 have q23 : ∀ (w : World) (a : Option Addr) (n c n' c' : Nat), (binOp .eql 23 (.slice a n c) (.slice none n' c')).run Tryz.prog w = .ok (.bool a.isNone) w := fun w a n c n' c' => Lib.run_eql_slice_nil w _ _ a n c n' c' Tryz.underlying23
 have HI := Lib.hid h
 obtain ⟨A, c, rfl, hz, hy⟩ := h
 clear hy
 cases A with
 | none =>
  obtain rfl := hz rfl
  have hn : l.length = 0 := by
   obtain ⟨_, _, hv, h0, h1, _⟩ := HI.out
   injection hv with e1 e2 e3
   have := h0 e1.symm
   omega
  have hn : l = [] := List.eq_nil_of_length_eq_zero hn
  subst hn
  go_enter Tryz.func65, Tryz.ntmps65
  go_wp2_with fail
  go_ret
  exact ⟨_, rfl, HI.out, Below.refl _ _⟩
 | some ad =>
  clear hz
  go_enter Tryz.func65, Tryz.ntmps65
  go_wp2_with first
   | (at_make; refine wpList_make_room _ rfl (.tmp 6) rfl _ rfl (by omega) (by omega) ?_; intro v2 w2 h1 h2; have HO := Lib.hid h1; have H2 := Lib.hid h2; have HK := Lib.hid (HI.out.below h2); have HZ := Lib.hid h2.size; clear h1 h2)
   | (at_builtin; refine wpList_append_list rfl (.tmp 7) (.tmp 8) rfl _ w.heap.size v2 _ [] l rfl rfl HO.out HK.out (by simp; omega) HZ.out ?_; intro v3 w3 h1 h2; have HP := Lib.hid h1; have H3 := Lib.hid (H2.out.trans h2); clear h1 h2)
  go_ret
  exact ⟨_, rfl, ids_of_owns HP.out, H3.out⟩
def seenV (V U : Vw) : List Sets.Id2 := if Clocks.cmp V.c U.c = 1 then Sets.join V.s U.s else if Clocks.cmp V.c U.c = 2 then U.s else if Clocks.cmp V.c U.c = 3 then V.s else []
set_option maxHeartbeats 4000000 in
theorem seen_any (v u : Value) (V U : Vw) (w : World) (h : VAt w v V) (k : VAt w u U) (hV : Fit 1000 V) (hU : Fit 1000 U) :
  Calls Tryz.prog 52 #[v, u] w fun e w' => ∃ X, e = .returned X ∧ Ids w' X (seenV V U) ∧ Below w.heap.size w w' := by
 obtain ⟨a, b, c, d, e, rfl, hr⟩ := h
 obtain ⟨a', b', c', d', e', rfl, kr⟩ := k
 have X1 := Lib.hid (vbox_below (vbox_new w a b c d e) (below_one _ (.cells #[.slice a'.1 a'.2.1 a'.2.2, .slice b'.1 b'.2.1 b'.2.2, .slice c'.1 c'.2.1 c'.2.2, .slice d'.1 d'.2.1 d'.2.2, .slice e'.1 e'.2.1 e'.2.2] 27)))
 have X2 : Hid (VBox ((w.alloc (.cells #[.slice a.1 a.2.1 a.2.2, .slice b.1 b.2.1 b.2.2, .slice c.1 c.2.1 c.2.2, .slice d.1 d.2.1 d.2.2, .slice e.1 e.2.1 e.2.2] 27)).alloc (.cells #[.slice a'.1 a'.2.1 a'.2.2, .slice b'.1 b'.2.1 b'.2.2, .slice c'.1 c'.2.1 c'.2.2, .slice d'.1 d'.2.1 d'.2.2, .slice e'.1 e'.2.1 e'.2.2] 27)) (w.heap.size + 1) a' b' c' d' e') := Lib.hid (by simpa using vbox_new (w.alloc (.cells #[.slice a.1 a.2.1 a.2.2, .slice b.1 b.2.1 b.2.2, .slice c.1 c.2.1 c.2.2, .slice d.1 d.2.1 d.2.2, .slice e.1 e.2.1 e.2.2] 27)) a' b' c' d' e')
 have BB := Lib.hid (below_two w (.cells #[.slice a.1 a.2.1 a.2.2, .slice b.1 b.2.1 b.2.2, .slice c.1 c.2.1 c.2.2, .slice d.1 d.2.1 d.2.2, .slice e.1 e.2.1 e.2.2] 27) (.cells #[.slice a'.1 a'.2.1 a'.2.2, .slice b'.1 b'.2.1 b'.2.2, .slice c'.1 c'.2.1 c'.2.2, .slice d'.1 d'.2.1 d'.2.2, .slice e'.1 e'.2.1 e'.2.2] 27))
 have RA := Lib.hid (hr.below BB.out)
 have RB := Lib.hid (kr.below BB.out)
 clear hr kr
 obtain ⟨p0, p1, p2, p3, p4⟩ := vbox_cells X1.out
 obtain ⟨q0, q1, q2, q3, q4⟩ := vbox_cells X2.out
 have HE : Hid (seenV V U = if Clocks.cmp V.c U.c = 1 then Sets.join V.s U.s else if Clocks.cmp V.c U.c = 2 then U.s else if Clocks.cmp V.c U.c = 3 then V.s else []) := Lib.hid rfl
 have LV := Lib.hid hV
 have LU := Lib.hid hU
 clear hV hU
 go_enter Tryz.func52, Tryz.ntmps52
 go_wp2_with fail
 (with_reducible refine (compare_clocks _ _ V.c U.c _ RA.out.c RB.out.c (Nat.le_trans LV.out.c (by decide)) (Nat.le_trans LU.out.c (by decide))).mono ?_)
 rintro e1 w1 ⟨rfl, hb⟩
 have B1 := Lib.hid (below_after BB.out hb (Nat.le_refl _))
 have P1 := Lib.hid (vbox_below X1.out hb)
 have Q1 := Lib.hid (vbox_below X2.out hb)
 have R1 := Lib.hid (RA.out.below hb)
 have S1 := Lib.hid (RB.out.below hb)
 clear hb p0 p1 p2 p3 p4 q0 q1 q2 q3 q4 BB X1 X2 RA RB
 obtain ⟨p0, p1, p2, p3, p4⟩ := vbox_cells P1.out
 obtain ⟨q0, q1, q2, q3, q4⟩ := vbox_cells Q1.out
 generalize Clocks.cmp V.c U.c = z at *
 by_cases h1 : z = 1
 ·subst h1
  rw [if_pos rfl] at HE
  go_wp2_with fail
  (with_reducible refine (join_any _ _ V.s U.s _ R1.out.s S1.out.s (Nat.le_trans LV.out.s (by decide)) (Nat.le_trans LU.out.s (by decide))).mono ?_)
  rintro e2 w2 ⟨X, rfl, hx, hb⟩
  have B2' := Lib.hid (below_after B1.out hb (Nat.le_refl _))
  have HX := Lib.hid hx
  clear hb hx p0 p1 p2 p3 p4 q0 q1 q2 q3 q4
  go_wp2_with fail
  go_ret
  exact ⟨_, rfl, by rw [HE.out]; exact HX.out, B2'.out⟩
 ·have n1 : ((z : Int) == 1) = false := by simp; omega
  rw [if_neg h1] at HE
  clear h1
  by_cases h2 : z = 2
  ·subst h2
   rw [if_pos rfl] at HE
   go_wp2_with fail
   (with_reducible refine (copiedI_any _ U.s _ S1.out.s (Nat.le_trans LU.out.s (by decide))).mono ?_)
   rintro e2 w2 ⟨X, rfl, hx, hb⟩
   have B2' := Lib.hid (below_after B1.out hb (Nat.le_refl _))
   have HX := Lib.hid hx
   clear hb hx p0 p1 p2 p3 p4 q0 q1 q2 q3 q4
   go_wp2_with fail
   go_ret
   exact ⟨_, rfl, by rw [HE.out]; exact HX.out, B2'.out⟩
  ·have n2 : ((z : Int) == 2) = false := by simp; omega
   rw [if_neg h2] at HE
   clear h2
   by_cases h3 : z = 3
   ·subst h3
    rw [if_pos rfl] at HE
    go_wp2_with fail
    (with_reducible refine (copiedI_any _ V.s _ R1.out.s (Nat.le_trans LV.out.s (by decide))).mono ?_)
    rintro e2 w2 ⟨X, rfl, hx, hb⟩
    have B2' := Lib.hid (below_after B1.out hb (Nat.le_refl _))
    have HX := Lib.hid hx
    clear hb hx p0 p1 p2 p3 p4 q0 q1 q2 q3 q4
    go_wp2_with fail
    go_ret
    exact ⟨_, rfl, by rw [HE.out]; exact HX.out, B2'.out⟩
   ·have n3 : ((z : Int) == 3) = false := by simp; omega
    rw [if_neg h3] at HE
    clear h3
    go_wp2_with fail
    go_ret
    exact ⟨_, rfl, by rw [HE.out]; exact Ids.nil _, B1.out⟩
theorem badS_asks : AsksI 100 #[] badI (fun _ => True) where
 enters := fun args W => enters_fn Tryz.func100 (by kernel_rfl) rfl args W
 kept _ _ _ _ := trivial
 call a i W _ := by
  have HB := Lib.hid (below_one W (.cells #[.int .i64 a, .int .i64 i] 29))
  have HN : Hid (badI (a, i) = !vidROW a i) := Lib.hid rfl
  have HC := Lib.hid fun W => may_any a i W
  generalize badI (a, i) = z at *
  generalize vidROW a i = y at *
  have HE := Lib.hid HN.out.symm
  clear HN
  go_enter Tryz.func100, Tryz.ntmps100
  go_wp2_with fail
  refine (HC.out _).mono ?_
  rintro e w1 ⟨rfl, hb⟩
  have H1 := Lib.hid (below_after HB.out hb (Nat.le_refl _))
  clear hb
  go_wp2_with fail
  go_ret
  exact ⟨ret_bool HE.out, H1.out⟩
theorem containsS_any (v : Value) (l : List Sets.Id2) (w : World) (h : Ids w v l) (hl : l.length ≤ 100000) :
  Calls Tryz.prog 99 #[v, .func (.func 100) #[] #[]] w fun e w' => e = .returned (.bool (l.any badI)) ∧ Below w.heap.size w w' := by
 have HI := Lib.hid h
 clear h
 go_enter Tryz.func99, Tryz.ntmps99
 go_wp2_with fail
 refine (indexI_any badS_asks v l _ HI.out trivial hl).mono ?_
 rintro e w1 ⟨⟨r, rfl, hr⟩, hb⟩
 have HR := Lib.hid (foundP_any hr)
 have HB := Lib.hid hb
 clear hr hb
 go_wp2_with fail
 go_ret
 exact ⟨ret_bool HR.out, HB.out⟩
def maySB (l : List Sets.Id2) : Bool := risesB l && !l.any badI
theorem maySeen_any (v : Value) (l : List Sets.Id2) (w : World) (h : Ids w v l) (hl : l.length ≤ 100000) :
  Calls Tryz.prog 41 #[v] w fun e w' => e = .returned (.bool (maySB l)) ∧ Below w.heap.size w w' := by
 have HI := Lib.hid h
 have HE : Hid (maySB l = (risesB l && !l.any badI)) := Lib.hid rfl
 clear h
 generalize maySB l = z0 at *
 go_enter Tryz.func41, Tryz.ntmps41
 go_wp2_with fail
 (with_reducible refine (rising_any v l _ HI.out hl).mono ?_)
 rintro e w1 ⟨rfl, hb⟩
 have HB := Lib.hid hb
 have H1 := Lib.hid (HI.out.below hb)
 clear hb HI
 generalize risesB l = y at *
 cases y
 ·go_wp2_with fail
  go_ret
  exact ⟨ret_bool (by rw [HE.out]; rfl), HB.out⟩
 ·go_wp2_with fail
  (with_reducible refine (containsS_any v l _ H1.out hl).mono ?_)
  rintro e w2 ⟨rfl, hb⟩
  have H2 := Lib.hid (below_after HB.out hb (Nat.le_refl _))
  clear hb
  generalize l.any badI = x at *
  go_wp2_with fail
  go_ret
  exact ⟨ret_bool (by rw [HE.out]; rfl), H2.out⟩
end Go.Proofs.YtjlnnmjhbccdoaaGreat
namespace Go.Proofs.YtjlnnmjhbccdoaaGreat
open Go Go.RowKit
section
variable {P : Program} {ops : Array Oper} {Q : Exit → Act → World → Prop} {R : World → World → Prop} {F : Nat → Value → World → Prop} {G : World → Prop} {a0 : Act}
structure StoodR (F : Nat → Value → World → Prop) (G : World → Prop) (ops : Array Oper) (a0 : Act) (listed : Array Bool) (a : Act) (w : World) : Prop where
 held : G w
 defers : a.defers = a0.defers
 size : a.tmps.size = a0.tmps.size
 old : ∀ s : Tmp, (∀ (i : Nat) (o : Oper), ops[i]? = some o → o.dst ≠ some s) → a.tmps.getD s undef = a0.tmps.getD s undef
 new : ∀ (i : Nat) (o : Oper) (s : Tmp), listed.getD i false = true → ops[i]? = some o → o.dst = some s → F i (a.tmps.getD s undef) w
 done : ∀ (i : Nat) (o : Oper), listed.getD i false = true → ops[i]? = some o → o.dst = none → ∃ v, F i v w
def OwesR (P : Program) (ops : Array Oper) (Q : Exit → Act → World → Prop) (R : World → World → Prop) (F : Nat → Value → World → Prop) (G : World → Prop) (a0 : Act) (i : Nat) (o : Oper) : Prop :=
 ∀ a w, G w → (∀ s : Tmp, (∀ (i : Nat) (o : Oper), ops[i]? = some o → o.dst ≠ some s) → a.tmps.getD s undef = a0.tmps.getD s undef) →
  (∀ (j : Nat) (o' : Oper) (s : Tmp), (o.after.any fun e => e.on == j && Region.binds .any e) = true → ops[j]? = some o' → o'.dst = some s → F j (a.tmps.getD s undef) w) →
  ∀ K : Act → World → Prop, (∀ v w', G w' → R w w' → F i v w' → K (a.put o.dst v) w') →
  if Region.wanted o (yielded ops a.tmps) = true then Oper.wp P o a w K Q else K (a.put o.dst undef) w
theorem wpAny_factsR (hasc : ∀ (i : Nat) (o : Oper), ops[i]? = some o → ∀ e ∈ o.after, e.on < i) (hdst : ∀ (i j : Nat) (o o' : Oper) (s : Tmp), ops[i]? = some o → ops[j]? = some o' → o.dst = some s → o'.dst = some s → i = j) (hin : ∀ (i : Nat) (o : Oper) (s : Tmp), ops[i]? = some o → o.dst = some s → s < a0.tmps.size)
  (mono : ∀ i v w w', F i v w → R w w' → F i v w')
  (step : ∀ (i : Nat) (o : Oper), ops[i]? = some o → OwesR P ops Q R F G a0 i o)
  (fin : ∀ a w, StoodR F G ops a0 (Array.replicate ops.size true) a w → Q .normal a w) :
  ∀ (fuel : Nat) (listed : Array Bool) (a : Act) (w : World), listed.size = ops.size → listed.toList.countP (fun b => !b) ≤ fuel → StoodR F G ops a0 listed a w → wpAny P .any ops Q fuel listed a w := by
 have last : ∀ (listed : Array Bool) (a : Act) (w : World), listed.size = ops.size → StoodR F G ops a0 listed a w → Region.ready .any ops listed = [] → Q .normal a w := fun listed a w hs h hr =>
  fin a w ⟨h.held, h.defers, h.size, h.old, fun i o s _ ho hd => h.new i o s (all_listed hs hasc hr i (by
   rcases Nat.lt_or_ge i ops.size with h1 | h1
   ·exact h1
   ·rw [Array.getElem?_eq_none h1] at ho; cases ho)) ho hd, fun i o _ ho hd => h.done i o (all_listed hs hasc hr i (by
   rcases Nat.lt_or_ge i ops.size with h1 | h1
   ·exact h1
   ·rw [Array.getElem?_eq_none h1] at ho; cases ho)) ho hd⟩
 intro fuel
 induction fuel with
 | zero =>
  intro listed a w hs hc h
  have hr : Region.ready .any ops listed = [] := by
   refine List.filter_eq_nil_iff.2 fun i hi => ?_
   have hi2 : i < listed.toList.length := by rw [Array.length_toList, hs]; exact List.mem_range.1 hi
   have h0 := List.countP_eq_zero.1 (Nat.le_zero.1 hc) listed.toList[i] (List.getElem_mem hi2)
   have h1 : listed.getD i true = true := by
    rw [Array.getD_eq_getD_getElem?, Array.getElem?_eq_getElem (by simpa using hi2)]
    simpa using h0
   rw [h1]
   simp
  exact ⟨hr, last listed a w hs h hr⟩
 | succ fuel ih =>
  intro listed a w hs hc h
  refine ⟨last listed a w hs h, fun i hi => ?_⟩
  obtain ⟨hi1, hi2⟩ := List.mem_filter.1 hi
  have hi3 : i < ops.size := List.mem_range.1 hi1
  rw [Bool.and_eq_true, Bool.not_eq_true', Array.getElem?_eq_getElem hi3, Option.map_some, Option.getD_some] at hi2
  obtain ⟨hl, hall⟩ := hi2
  have ho : ops[i]? = some ops[i] := Array.getElem?_eq_getElem hi3
  have hil : i < listed.toList.length := by rw [Array.length_toList, hs]; exact hi3
  have hlf : listed.toList[i] = false := by
   rw [Array.getD_eq_getD_getElem?, Array.getElem?_eq_getElem (by omega)] at hl
   simpa using hl
  have hcnt : (listed.setIfInBounds i true).toList.countP (fun b => !b) ≤ fuel := by
   rw [Array.toList_setIfInBounds, List.countP_set hil, hlf]
   simp only [Bool.not_false, if_true, Bool.not_true, Bool.false_eq_true, if_false]
   omega
  have key : ∀ v w', G w' → R w w' → F i v w' → wpAny P .any ops Q fuel (listed.setIfInBounds i true) (a.put ops[i].dst v) w' := by
   intro v w' hG hb hF
   refine ih _ _ _ (by simpa using hs) hcnt ⟨hG, (put_defers _ _ _).trans h.defers, (put_size _ _ _).trans h.size, fun s hn => (put_getD_other _ _ _ _ (hn i _ ho)).trans (h.old s hn), fun j o s hj hoj hd => ?_, fun j o hj hoj hd => ?_⟩
   ·by_cases e : j = i
    ·subst e
     obtain rfl := Option.some.inj (ho.symm.trans hoj)
     rw [hd, put_getD_self _ _ _ (by rw [h.size]; exact hin _ _ _ hoj hd)]
     exact hF
    ·rw [put_getD_other _ _ _ _ (fun e2 => e (hdst j i o ops[i] s hoj ho hd e2))]
     refine mono _ _ _ _ (h.new j o s ?_ hoj hd) hb
     rw [Array.getD_eq_getD_getElem?, Array.getElem?_setIfInBounds_ne (fun e2 => e e2.symm)] at hj
     rw [Array.getD_eq_getD_getElem?]
     exact hj
   ·by_cases e : j = i
    ·subst e
     exact ⟨v, hF⟩
    ·obtain ⟨u, hu⟩ := h.done j o (by
      rw [Array.getD_eq_getD_getElem?, Array.getElem?_setIfInBounds_ne (fun e2 => e e2.symm)] at hj
      rw [Array.getD_eq_getD_getElem?]
      exact hj) hoj hd
     exact ⟨u, mono _ _ _ _ hu hb⟩
  have hst := step i ops[i] ho a w h.held h.old (fun j o' s hj hoj hd => h.new j o' s (by
   obtain ⟨e, he, h2⟩ := Array.any_eq_true'.1 hj
   rw [Bool.and_eq_true, beq_iff_eq] at h2
   have h3 := (Array.all_eq_true_iff_forall_mem.1 hall) e he
   rw [h2.2, h2.1] at h3
   simpa using h3) hoj hd) (wpAny P .any ops Q fuel (listed.setIfInBounds i true)) key
  unfold wpOp
  rw [ho]
  show if Region.wanted ops[i] (yielded ops a.tmps) = true then _ else _
  split
  ·rename_i hw; rw [if_pos hw] at hst; exact .inl hst
  ·rename_i hw; rw [if_neg hw] at hst; exact hst
theorem wp_region_factsR {id : Nat} {w0 : World} (hm : P.follows .mixedOrders = true) (F : Nat → Value → World → Prop) (G : World → Prop)
  (hasc : (List.range ops.size).all (fun i => ((ops[i]?).map fun o => o.after.all fun e => decide (e.on < i)).getD true) = true)
  (hdst : (List.range ops.size).all (fun i => (List.range ops.size).all fun j => decide (i = j) || ((ops[i]?).bind (·.dst)).isNone || ((ops[i]?).bind (·.dst)) != ((ops[j]?).bind (·.dst))) = true)
  (hin : (List.range ops.size).all (fun i => (((ops[i]?).bind (·.dst)).map fun s => decide (s < a0.tmps.size)).getD true) = true)
  (mono : ∀ i v w w', F i v w → R w w' → F i v w')
  (hG : G w0.drew)
  (step : ∀ (i : Nat) (o : Oper), ops[i]? = some o → OwesR P ops Q R F G a0 i o)
  (fin : ∀ a w, G w → a.defers = a0.defers → a.tmps.size = a0.tmps.size → (∀ s : Tmp, (∀ (i : Nat) (o : Oper), ops[i]? = some o → o.dst ≠ some s) → a.tmps.getD s undef = a0.tmps.getD s undef) → (∀ (i : Nat) (o : Oper) (s : Tmp), ops[i]? = some o → o.dst = some s → F i (a.tmps.getD s undef) w) → (∀ (i : Nat) (o : Oper), ops[i]? = some o → o.dst = none → ∃ v, F i v w) → Q .normal a w) :
  (Code.region id ops true).wp P Q a0 w0 := by
 have lt : ∀ {i : Nat} {o : Oper}, ops[i]? = some o → i < ops.size := fun {i o} ho => by
  rcases Nat.lt_or_ge i ops.size with h1 | h1
  ·exact h1
  ·rw [Array.getElem?_eq_none h1] at ho; cases ho
 refine wp_region_any hm (wpAny_factsR (F := F) (G := G) (a0 := a0) ?_ ?_ ?_ mono step (fun a w h => fin a w h.held h.defers h.size h.old (fun i o s ho hd => h.new i o s (by simp [lt ho]) ho hd) fun i o ho hd => h.done i o (by simp [lt ho]) ho hd) _ _ _ _ (by simp) (Nat.le_trans List.countP_le_length (by simp)) ⟨hG, rfl, rfl, fun _ _ => rfl, fun i o s hi ho _ => ?_, fun i o hi ho _ => ?_⟩)
 ·intro i o ho e he
  have := List.all_eq_true.1 hasc i (List.mem_range.2 (lt ho))
  rw [ho] at this
  simpa using (Array.all_eq_true_iff_forall_mem.1 this) e he
 ·intro i j o o' s ho ho' hd hd'
  have := List.all_eq_true.1 (List.all_eq_true.1 hdst i (List.mem_range.2 (lt ho))) j (List.mem_range.2 (lt ho'))
  rw [ho, ho'] at this
  simp [hd, hd'] at this
  exact this
 ·intro i o s ho hd
  have := List.all_eq_true.1 hin i (List.mem_range.2 (lt ho))
  rw [ho] at this
  simpa [hd] using this
 ·rw [Array.getD_eq_getD_getElem?] at hi
  simp [lt ho] at hi
 ·rw [Array.getD_eq_getD_getElem?] at hi
  simp [lt ho] at hi
def DueR (P : Program) (ds : List (Option Tmp)) (Q : Exit → Act → World → Prop) (R : World → World → Prop) (F : Nat → Value → World → Prop) (G : World → Prop) (a0 : Act) (i : Nat) (o : Oper) : Prop :=
 ∀ a w, G w → (∀ s : Tmp, ds.contains (some s) = false → a.tmps.getD s undef = a0.tmps.getD s undef) →
  (∀ (j : Nat) (s : Tmp), (o.after.any fun e => e.on == j && Region.binds .any e) = true → ds.getD j none = some s → F j (a.tmps.getD s undef) w) →
  ∀ K : Act → World → Prop, (∀ v w', G w' → R w w' → F i v w' → K (a.put o.dst v) w') →
  if met ds o a = true then Oper.wp P o a w K Q else K (a.put o.dst undef) w
def AllDueR (P : Program) (ds : List (Option Tmp)) (Q : Exit → Act → World → Prop) (R : World → World → Prop) (F : Nat → Value → World → Prop) (G : World → Prop) (a0 : Act) : Nat → List Oper → Prop
 | _, [] => True
 | k, o :: r => DueR P ds Q R F G a0 k o ∧ AllDueR P ds Q R F G a0 (k + 1) r
theorem AllDueR.nil {ds : List (Option Tmp)} {k : Nat} : AllDueR P ds Q R F G a0 k [] := trivial
theorem AllDueR.cons {ds : List (Option Tmp)} {k : Nat} {o : Oper} {r : List Oper} (h : DueR P ds Q R F G a0 k o) (hr : AllDueR P ds Q R F G a0 (k + 1) r) : AllDueR P ds Q R F G a0 k (o :: r) := ⟨h, hr⟩
theorem AllDueR.at_ {ds : List (Option Tmp)} : ∀ {l : List Oper} {k i : Nat} {o : Oper}, AllDueR P ds Q R F G a0 k l → l[i]? = some o → DueR P ds Q R F G a0 (k + i) o
 | [], _, _, _, _, h => by simp at h
 | o' :: r, k, 0, o, h, ho => by
  simp at ho
  subst ho
  exact h.1
 | o' :: r, k, i + 1, o, h, ho => by
  have := AllDueR.at_ (i := i) h.2 (by simpa using ho)
  rwa [show k + 1 + i = k + (i + 1) by omega] at this
theorem wp_region_dueR {l : List Oper} {id : Nat} {w0 : World} (hm : P.follows .mixedOrders = true) (ds : List (Option Tmp)) (F : Nat → Value → World → Prop) (G : World → Prop) (hds : ds = l.map (·.dst))
  (hasc : (List.range l.toArray.size).all (fun i => ((l.toArray[i]?).map fun o => o.after.all fun e => decide (e.on < i)).getD true) = true)
  (hdst : (List.range l.toArray.size).all (fun i => (List.range l.toArray.size).all fun j => decide (i = j) || ((l.toArray[i]?).bind (·.dst)).isNone || ((l.toArray[i]?).bind (·.dst)) != ((l.toArray[j]?).bind (·.dst))) = true)
  (hin : (List.range l.toArray.size).all (fun i => (((l.toArray[i]?).bind (·.dst)).map fun s => decide (s < a0.tmps.size)).getD true) = true)
  (mono : ∀ i v w w', F i v w → R w w' → F i v w')
  (hG : G w0.drew)
  (step : AllDueR P ds Q R F G a0 0 l)
  (fin : ∀ a w, G w → a.defers = a0.defers → a.tmps.size = a0.tmps.size → (∀ s : Tmp, ds.contains (some s) = false → a.tmps.getD s undef = a0.tmps.getD s undef) → (∀ (i : Nat) (s : Tmp), ds.getD i none = some s → F i (a.tmps.getD s undef) w) → (∀ i, i < ds.length → ds.getD i none = none → ∃ v, F i v w) → Q .normal a w) :
  (Code.region id l.toArray true).wp P Q a0 w0 := by
 have atd : ∀ {j : Nat} {o : Oper}, l.toArray[j]? = some o → ds.getD j none = o.dst := fun {j o} h => by
  rw [List.getElem?_toArray] at h
  rw [hds, List.getD_eq_getElem?_getD, List.getElem?_map, h]
  rfl
 have old' : ∀ {a : Act}, (∀ s : Tmp, (∀ (i : Nat) (o : Oper), l.toArray[i]? = some o → o.dst ≠ some s) → a.tmps.getD s undef = a0.tmps.getD s undef) → ∀ s : Tmp, ds.contains (some s) = false → a.tmps.getD s undef = a0.tmps.getD s undef := fun {a} h s hs => h s fun i o ho hd => by
  have : some s ∈ ds := by
   rw [hds]
   exact List.mem_map.2 ⟨o, List.mem_of_getElem? (by rw [← List.getElem?_toArray]; exact ho), hd⟩
  rw [List.contains_iff_mem.2 this] at hs
  cases hs
 refine wp_region_factsR (R := R) hm F G hasc hdst hin mono hG (fun i o ho => ?_) (fun a w h1 h2 h3 h4 h5 h6 => fin a w h1 h2 h3 (old' h4) (fun i s hs => ?_) fun i hi hn => ?_)
 ·intro a w hGw hold hf K hK
  rw [met_wanted, ← hds]
  have hd := step.at_ (i := i) (by rw [← List.getElem?_toArray]; exact ho)
  rw [Nat.zero_add] at hd
  refine hd a w hGw (old' hold) (fun j s hj hs => ?_) K hK
  rcases h : l.toArray[j]? with _ | o'
  ·rw [hds, List.getD_eq_getElem?_getD, List.getElem?_map] at hs
   rw [List.getElem?_toArray] at h
   rw [h] at hs
   cases hs
  ·exact hf j o' s hj h (by rw [← atd h]; exact hs)
 ·rcases h : l.toArray[i]? with _ | o'
  ·rw [hds, List.getD_eq_getElem?_getD, List.getElem?_map] at hs
   rw [List.getElem?_toArray] at h
   rw [h] at hs
   cases hs
  ·exact h5 i o' s h (by rw [← atd h]; exact hs)
 ·rcases h : l.toArray[i]? with _ | o'
  ·rw [hds, List.length_map] at hi
   rw [List.getElem?_toArray, List.getElem?_eq_getElem hi] at h
   cases h
  ·exact h6 i o' h (by rw [← atd h]; exact hn)
theorem due_metR {ds : List (Option Tmp)} {i : Nat} {o : Oper}
  (hg : o.guard = none ∨ ∃ k b s, o.guard = some (k, b) ∧ ds.getD k none = some s ∧ (o.after.any fun e => e.on == k && Region.binds .any e) = true ∧ ∀ v w, F k v w → v = .bool b)
  (h : ∀ a w, G w → (∀ s : Tmp, ds.contains (some s) = false → a.tmps.getD s undef = a0.tmps.getD s undef) →
   (∀ (j : Nat) (s : Tmp), (o.after.any fun e => e.on == j && Region.binds .any e) = true → ds.getD j none = some s → F j (a.tmps.getD s undef) w) →
   ∀ K : Act → World → Prop, (∀ v w', G w' → R w w' → F i v w' → K (a.put o.dst v) w') → Oper.wp P o a w K Q) : DueR P ds Q R F G a0 i o := by
 intro a w hG hold hf K hK
 have hm : met ds o a = true := by
  unfold met
  rcases hg with hg | ⟨k, b, s, hg, hs, ha, hv⟩
  ·rw [hg]
  ·rw [hg]
   have := hv _ _ (hf k s ha hs)
   simp only [hs, this, boolOf, beq_self_eq_true]
 rw [if_pos hm]
 exact h a w hG hold hf K hK
end
end Go.Proofs.YtjlnnmjhbccdoaaGreat
