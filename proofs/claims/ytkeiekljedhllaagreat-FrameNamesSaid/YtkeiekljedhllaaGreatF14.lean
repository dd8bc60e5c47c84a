/-
  Carried over and put together: contracts of this program's functions, and plain facts. No statement is proved in this text.
-/
import Derived.Test.YtkeiekljedhllaaGreatF05
import Derived.Test.YtkeiekljedhllaaGreatF07
import Derived.Test.YtkeiekljedhllaaGreatF08
import Derived.Test.YtkeiekljedhllaaGreatF09
import Derived.Test.YtkeiekljedhllaaGreatF10
import Derived.Test.YtkeiekljedhllaaGreatF11
import Derived.Test.YtkeiekljedhllaaGreatF13
set_option maxRecDepth 20000
namespace Go.Proofs.YtkeiekljedhllaaGreat
open Go Go.RowKit
/-- What a view says. -/
structure Vw where
  m : List Ros.Mm
  f : List Sets.Id2
  r : List RowSets.Row
  c : List Clocks.Tick
  s : List Sets.Id2
/-- A slice's parts. -/
abbrev SL := Option Addr × Nat × Nat
/-- Five slices read as a view. -/
structure RV (w : World) (a b c d e : SL) (V : Vw) : Prop where
  m : Ms w (.slice a.1 a.2.1 a.2.2) V.m
  f : Ids w (.slice b.1 b.2.1 b.2.2) V.f
  r : RowsAt w (.slice c.1 c.2.1 c.2.2) V.r
  c : Rcs encT 3 w (.slice d.1 d.2.1 d.2.2) V.c
  s : Ids w (.slice e.1 e.2.1 e.2.2) V.s
theorem RV.below {w w' : World} {a b c d e : SL} {V : Vw} (h : RV w a b c d e V) (hb : Below w.heap.size w w') : RV w' a b c d e V := ⟨h.m.below hb, h.f.below hb, h.r.below hb, h.c.below hb, h.s.below hb⟩
theorem rcs_len {α : Type} [Inhabited α] {enc : α → List Value} {sz : Nat} {w : World} {A : Option Addr} {n c : Nat} {l : List α} (h : Rcs enc sz w (.slice A n c) l) : n = l.length := by
  obtain ⟨A', c', hv, _⟩ := h
  injection hv
theorem ids_len {w : World} {A : Option Addr} {n c : Nat} {l : List Sets.Id2} (h : Ids w (.slice A n c) l) : n = l.length := by
  obtain ⟨A', c', hv, _⟩ := h
  injection hv
theorem rows_len {w : World} {A : Option Addr} {n c : Nat} {l : List RowSets.Row} (h : RowsAt w (.slice A n c) l) : n = l.length := by
  obtain ⟨A', c', hv, _⟩ := h.shape
  injection hv
/-- The value v is a view, and reads as V. -/
def VAt (w : World) (v : Value) (V : Vw) : Prop := ∃ a b c d e : SL, v = .agg #[.slice a.1 a.2.1 a.2.2, .slice b.1 b.2.1 b.2.2, .slice c.1 c.2.1 c.2.2, .slice d.1 d.2.1 d.2.2, .slice e.1 e.2.1 e.2.2] ∧ RV w a b c d e V
theorem VAt.below {w w' : World} {v : Value} {V : Vw} (h : VAt w v V) (hb : Below w.heap.size w w') : VAt w' v V := by
  obtain ⟨a, b, c, d, e, h1, h2⟩ := h
  exact ⟨a, b, c, d, e, h1, h2.below hb⟩
theorem sl_ids {w : World} {v : Value} {l : List Sets.Id2} (h : Ids w v l) : ∃ a : SL, v = .slice a.1 a.2.1 a.2.2 := by
  obtain ⟨A, c, hv, _⟩ := h
  exact ⟨(A, l.length, c), hv⟩
/-- Block g holds five slices. -/
def VBox (w : World) (g : Nat) (a b c d e : SL) : Prop := w.heap[g]? = some (.cells #[.slice a.1 a.2.1 a.2.2, .slice b.1 b.2.1 b.2.2, .slice c.1 c.2.1 c.2.2, .slice d.1 d.2.1 d.2.2, .slice e.1 e.2.1 e.2.2] 33 (0, 0))
theorem vbox_cells {w : World} {g : Nat} {a b c d e : SL} (h : VBox w g a b c d e) : w.cell? ⟨g, 0, none⟩ = some (.slice a.1 a.2.1 a.2.2) ∧ w.cell? ⟨g, 1, none⟩ = some (.slice b.1 b.2.1 b.2.2) ∧ w.cell? ⟨g, 2, none⟩ = some (.slice c.1 c.2.1 c.2.2) ∧ w.cell? ⟨g, 3, none⟩ = some (.slice d.1 d.2.1 d.2.2) ∧ w.cell? ⟨g, 4, none⟩ = some (.slice e.1 e.2.1 e.2.2) := by
  unfold VBox at h
  exact ⟨by rw [cell_of_row _ _ 0 _ _ _ h]; rfl, by rw [cell_of_row _ _ 1 _ _ _ h]; rfl, by rw [cell_of_row _ _ 2 _ _ _ h]; rfl, by rw [cell_of_row _ _ 3 _ _ _ h]; rfl, by rw [cell_of_row _ _ 4 _ _ _ h]; rfl⟩
theorem vbox_free {w : World} {g : Nat} {a b c d e : SL} (h : VBox w g a b c d e) : w.frozen? ⟨g, 0, none⟩ = false ∧ w.frozen? ⟨g, 1, none⟩ = false ∧ w.frozen? ⟨g, 2, none⟩ = false ∧ w.frozen? ⟨g, 3, none⟩ = false ∧ w.frozen? ⟨g, 4, none⟩ = false := by
  unfold VBox at h
  exact ⟨by simp [World.frozen?, h], by simp [World.frozen?, h], by simp [World.frozen?, h], by simp [World.frozen?, h], by simp [World.frozen?, h]⟩
theorem vbox_new (w : World) (a b c d e : SL) : VBox (w.alloc (.cells #[.slice a.1 a.2.1 a.2.2, .slice b.1 b.2.1 b.2.2, .slice c.1 c.2.1 c.2.2, .slice d.1 d.2.1 d.2.2, .slice e.1 e.2.1 e.2.2] 33)) w.heap.size a b c d e := heap_alloc_new w _
theorem vbox_lt {w : World} {g : Nat} {a b c d e : SL} (h : VBox w g a b c d e) : g < w.heap.size := row_lt h
theorem vbox_below {w w' : World} {g : Nat} {a b c d e : SL} (h : VBox w g a b c d e) (hb : Below w.heap.size w w') : VBox w' g a b c d e := (hb.block _ (vbox_lt h)).trans h
/-- Block g holds the view V. -/
def HoldsV (w : World) (g : Nat) (V : Vw) : Prop := ∃ a b c d e : SL, VBox w g a b c d e ∧ RV w a b c d e V
theorem HoldsV.below {w w' : World} {g : Nat} {V : Vw} (h : HoldsV w g V) (hb : Below w.heap.size w w') : HoldsV w' g V := by
  obtain ⟨a, b, c, d, e, h1, h2⟩ := h
  exact ⟨a, b, c, d, e, vbox_below h1 hb, h2.below hb⟩
theorem RV.at_ {w : World} {a b c d e : SL} {V : Vw} (h : RV w a b c d e V) : VAt w (.agg #[.slice a.1 a.2.1 a.2.2, .slice b.1 b.2.1 b.2.2, .slice c.1 c.2.1 c.2.2, .slice d.1 d.2.1 d.2.2, .slice e.1 e.2.1 e.2.2]) V := ⟨a, b, c, d, e, rfl, h⟩
/-- All lists of a view are at most n long. -/
structure FitVIE (n : Nat) (V : Vw) : Prop where
  m : V.m.length ≤ n
  f : V.f.length ≤ n
  r : V.r.length ≤ n
  c : V.c.length ≤ n
  s : V.s.length ≤ n
  n : ∀ r ∈ V.r, r.2.2.length ≤ n
theorem FitVIE.mono {n k : Nat} {V : Vw} (h : FitVIE n V) (hk : n ≤ k) : FitVIE k V := ⟨Nat.le_trans h.m hk, Nat.le_trans h.f hk, Nat.le_trans h.r hk, Nat.le_trans h.c hk, Nat.le_trans h.s hk, fun r hr => Nat.le_trans (h.n r hr) hk⟩
/-- Are two views the same, but for Seen? -/
def coreB (V U : Vw) : Bool := decide (V.m = U.m) && (sameB V.f U.f && (sameR V.r U.r && decide (V.c = U.c)))
set_option maxHeartbeats 4000000 in
theorem sameRows_is (v u : Value) (l m : List RowSets.Row) (w : World) (h : RowsAt w v l) (h2 : RowsAt w u m) (hl : l.length ≤ 100000) (sl : ∀ r ∈ l, r.2.2.length ≤ 40000) (sm : ∀ r ∈ m, r.2.2.length ≤ 40000) :
    Calls Tryz.prog 28 #[v, u] w fun e w' => e = .returned (.bool (sameR l m)) ∧ Below w.heap.size w w' := by
  have HI := Lib.hid h
  have HJ := Lib.hid h2
  have SL := Lib.hid sl
  have SM := Lib.hid sm
  clear h h2 sl sm
  go_enter Tryz.func28, Tryz.ntmps28
  go_wp2_with fail
  (with_reducible refine (equalW_any v u l m _ HI.out HJ.out hl SL.out SM.out).mono ?_)
  rintro e w1 ⟨rfl, hb⟩
  have HB := Lib.hid hb
  clear hb
  generalize hz : sameR l m = z at *
  have HZ := Lib.hid hz
  clear hz
  go_wp2_with fail
  go_ret
  exact ⟨ret_bool HZ.out.symm, HB.out⟩
set_option maxHeartbeats 4000000 in
theorem core_any (v u : Value) (V U : Vw) (w : World) (h : VAt w v V) (k : VAt w u U) (hV : FitVIE 5000 V) (hU : FitVIE 5000 U) :
    Calls Tryz.prog 65 #[v, u] w fun e w' => e = .returned (.bool (coreB V U)) ∧ Below w.heap.size w w' := by
  obtain ⟨a, b, c, d, e, rfl, hr⟩ := h
  obtain ⟨a', b', c', d', e', rfl, kr⟩ := k
  have X1 := Lib.hid (vbox_below (vbox_new w a b c d e) (below_one _ (.cells #[.slice a'.1 a'.2.1 a'.2.2, .slice b'.1 b'.2.1 b'.2.2, .slice c'.1 c'.2.1 c'.2.2, .slice d'.1 d'.2.1 d'.2.2, .slice e'.1 e'.2.1 e'.2.2] 33)))
  have X2 : Hid (VBox ((w.alloc (.cells #[.slice a.1 a.2.1 a.2.2, .slice b.1 b.2.1 b.2.2, .slice c.1 c.2.1 c.2.2, .slice d.1 d.2.1 d.2.2, .slice e.1 e.2.1 e.2.2] 33)).alloc (.cells #[.slice a'.1 a'.2.1 a'.2.2, .slice b'.1 b'.2.1 b'.2.2, .slice c'.1 c'.2.1 c'.2.2, .slice d'.1 d'.2.1 d'.2.2, .slice e'.1 e'.2.1 e'.2.2] 33)) (w.heap.size + 1) a' b' c' d' e') := Lib.hid (by simpa using vbox_new (w.alloc (.cells #[.slice a.1 a.2.1 a.2.2, .slice b.1 b.2.1 b.2.2, .slice c.1 c.2.1 c.2.2, .slice d.1 d.2.1 d.2.2, .slice e.1 e.2.1 e.2.2] 33)) a' b' c' d' e')
  have BB := Lib.hid (below_two w (.cells #[.slice a.1 a.2.1 a.2.2, .slice b.1 b.2.1 b.2.2, .slice c.1 c.2.1 c.2.2, .slice d.1 d.2.1 d.2.2, .slice e.1 e.2.1 e.2.2] 33) (.cells #[.slice a'.1 a'.2.1 a'.2.2, .slice b'.1 b'.2.1 b'.2.2, .slice c'.1 c'.2.1 c'.2.2, .slice d'.1 d'.2.1 d'.2.2, .slice e'.1 e'.2.1 e'.2.2] 33))
  have RA := Lib.hid (hr.below BB.out)
  have RB := Lib.hid (kr.below BB.out)
  clear hr kr
  obtain ⟨p0, p1, p2, p3, p4⟩ := vbox_cells X1.out
  obtain ⟨q0, q1, q2, q3, q4⟩ := vbox_cells X2.out
  have HE : Hid (coreB V U = (decide (V.m = U.m) && (sameB V.f U.f && (sameR V.r U.r && decide (V.c = U.c))))) := Lib.hid rfl
  have LV := Lib.hid hV
  have LU := Lib.hid hU
  clear hV hU
  go_enter Tryz.func65, Tryz.ntmps65
  go_wp2_with fail
  (with_reducible refine (sameM_is _ _ V.m U.m _ RA.out.m RB.out.m (Nat.le_trans LV.out.m (by decide))).mono ?_)
  rintro e1 w1 ⟨rfl, hb⟩
  have B1 := Lib.hid (below_after BB.out hb (Nat.le_refl _))
  have P1 := Lib.hid (vbox_below X1.out hb)
  have Q1 := Lib.hid (vbox_below X2.out hb)
  have R1 := Lib.hid (RA.out.below hb)
  have S1 := Lib.hid (RB.out.below hb)
  clear hb p0 p1 p2 p3 p4 q0 q1 q2 q3 q4 BB X1 X2 RA RB
  obtain ⟨p0, p1, p2, p3, p4⟩ := vbox_cells P1.out
  obtain ⟨q0, q1, q2, q3, q4⟩ := vbox_cells Q1.out
  generalize decide (V.m = U.m) = y1 at *
  cases y1
  · go_wp2_with fail
    go_ret
    exact ⟨ret_bool (by rw [HE.out]; rfl), B1.out⟩
  · go_wp2_with fail
    (with_reducible refine (equal_any _ _ V.f U.f _ R1.out.f S1.out.f (Nat.le_trans LV.out.f (by decide))).mono ?_)
    rintro e2 w2 ⟨rfl, hb⟩
    have B2 := Lib.hid (below_after B1.out hb (Nat.le_refl _))
    have P2 := Lib.hid (vbox_below P1.out hb)
    have Q2 := Lib.hid (vbox_below Q1.out hb)
    have R2 := Lib.hid (R1.out.below hb)
    have S2 := Lib.hid (S1.out.below hb)
    clear hb p0 p1 p2 p3 p4 q0 q1 q2 q3 q4 B1 P1 Q1 R1 S1
    obtain ⟨p0, p1, p2, p3, p4⟩ := vbox_cells P2.out
    obtain ⟨q0, q1, q2, q3, q4⟩ := vbox_cells Q2.out
    generalize sameB V.f U.f = y2 at *
    cases y2
    · go_wp2_with fail
      go_ret
      exact ⟨ret_bool (by rw [HE.out]; rfl), B2.out⟩
    · go_wp2_with fail
      (with_reducible refine (sameRows_is _ _ V.r U.r _ R2.out.r S2.out.r (Nat.le_trans LV.out.r (by decide)) (fun r hr => Nat.le_trans (LV.out.n r hr) (by decide)) (fun r hr => Nat.le_trans (LU.out.n r hr) (by decide))).mono ?_)
      rintro e3 w3 ⟨rfl, hb⟩
      have B3 := Lib.hid (below_after B2.out hb (Nat.le_refl _))
      have P3 := Lib.hid (vbox_below P2.out hb)
      have Q3 := Lib.hid (vbox_below Q2.out hb)
      have R3 := Lib.hid (R2.out.below hb)
      have S3 := Lib.hid (S2.out.below hb)
      clear hb p0 p1 p2 p3 p4 q0 q1 q2 q3 q4 B2 P2 Q2 R2 S2
      obtain ⟨p0, p1, p2, p3, p4⟩ := vbox_cells P3.out
      obtain ⟨q0, q1, q2, q3, q4⟩ := vbox_cells Q3.out
      generalize sameR V.r U.r = y3 at *
      cases y3
      · go_wp2_with fail
        go_ret
        exact ⟨ret_bool (by rw [HE.out]; rfl), B3.out⟩
      · go_wp2_with fail
        (with_reducible refine (equalT_any _ _ V.c U.c _ R3.out.c S3.out.c (Nat.le_trans LV.out.c (by decide))).mono ?_)
        rintro e4 w4 ⟨rfl, hb⟩
        have B4 := Lib.hid (below_after B3.out hb (Nat.le_refl _))
        have P4 := Lib.hid (vbox_below P3.out hb)
        have Q4 := Lib.hid (vbox_below Q3.out hb)
        have R4 := Lib.hid (R3.out.below hb)
        have S4 := Lib.hid (S3.out.below hb)
        clear hb p0 p1 p2 p3 p4 q0 q1 q2 q3 q4 B3 P3 Q3 R3 S3
        obtain ⟨p0, p1, p2, p3, p4⟩ := vbox_cells P4.out
        obtain ⟨q0, q1, q2, q3, q4⟩ := vbox_cells Q4.out
        generalize decide (V.c = U.c) = y4 at *
        go_wp2_with fail
        go_ret
        exact ⟨ret_bool (by rw [HE.out]; rfl), B4.out⟩
/-- A closure that is asked whether an ID may not be. -/
theorem badS_asks : AsksI 61 #[] badI (fun _ => True) where
  enters := fun args W => enters_fn Tryz.func61 (by kernel_rfl) rfl args W
  kept _ _ _ _ := trivial
  call a i W _ := by
    have HB := Lib.hid (below_one W (.cells #[.int .i64 a, .int .i64 i] 24))
    have HN : Hid (badI (a, i) = !vidROW a i) := Lib.hid rfl
    have HC := Lib.hid fun W => may_any a i W
    generalize badI (a, i) = z at *
    generalize vidROW a i = y at *
    have HE := Lib.hid HN.out.symm
    clear HN
    go_enter Tryz.func61, Tryz.ntmps61
    go_wp2_with fail
    refine (HC.out _).mono ?_
    rintro e w1 ⟨rfl, hb⟩
    have H1 := Lib.hid (below_after HB.out hb (Nat.le_refl _))
    clear hb
    go_wp2_with fail
    go_ret
    exact ⟨ret_bool HE.out, H1.out⟩
theorem containsS_any (v : Value) (l : List Sets.Id2) (w : World) (h : Ids w v l) (hl : l.length ≤ 100000) :
    Calls Tryz.prog 60 #[v, .func (.func 61) #[] #[]] w fun e w' => e = .returned (.bool (l.any badI)) ∧ Below w.heap.size w w' := by
  have HI := Lib.hid h
  clear h
  go_enter Tryz.func60, Tryz.ntmps60
  go_wp2_with fail
  refine (indexI_any badS_asks v l _ HI.out trivial hl).mono ?_
  rintro e w1 ⟨⟨r, rfl, hr⟩, hb⟩
  have HR := Lib.hid (foundP_any hr)
  have HB := Lib.hid hb
  clear hr hb
  go_wp2_with fail
  go_ret
  exact ⟨ret_bool HR.out, HB.out⟩
/-- Does a list rise, and may all its IDs be? -/
def maySB (l : List Sets.Id2) : Bool := risesB l && !l.any badI
theorem maySeen_any (v : Value) (l : List Sets.Id2) (w : World) (h : Ids w v l) (hl : l.length ≤ 100000) :
    Calls Tryz.prog 30 #[v] w fun e w' => e = .returned (.bool (maySB l)) ∧ Below w.heap.size w w' := by
  have HI := Lib.hid h
  have HE : Hid (maySB l = (risesB l && !l.any badI)) := Lib.hid rfl
  clear h
  generalize maySB l = z0 at *
  go_enter Tryz.func30, Tryz.ntmps30
  go_wp2_with fail
  (with_reducible refine (rising_any v l _ HI.out hl).mono ?_)
  rintro e w1 ⟨rfl, hb⟩
  have HB := Lib.hid hb
  have H1 := Lib.hid (HI.out.below hb)
  clear hb HI
  generalize risesB l = y at *
  cases y
  · go_wp2_with fail
    go_ret
    exact ⟨ret_bool (by rw [HE.out]; rfl), HB.out⟩
  · go_wp2_with fail
    (with_reducible refine (containsS_any v l _ H1.out hl).mono ?_)
    rintro e w2 ⟨rfl, hb⟩
    have H2 := Lib.hid (below_after HB.out hb (Nat.le_refl _))
    clear hb
    generalize l.any badI = x at *
    go_wp2_with fail
    go_ret
    exact ⟨ret_bool (by rw [HE.out]; rfl), H2.out⟩
end Go.Proofs.YtkeiekljedhllaaGreat
namespace Go.Proofs.YtkeiekljedhllaaGreat
open Go Go.RowKit
section
variable {P : Program} {ops : Array Oper} {Q : Exit → Act → World → Prop} {R : World → World → Prop} {F : Nat → Value → World → Prop} {G : World → Prop} {a0 : Act}
/-- What one operation owes, by the slots of the others. -/
def DueR (P : Program) (ds : List (Option Tmp)) (Q : Exit → Act → World → Prop) (R : World → World → Prop) (F : Nat → Value → World → Prop) (G : World → Prop) (a0 : Act) (i : Nat) (o : Oper) : Prop :=
  ∀ a w, G w → (∀ s : Tmp, ds.contains (some s) = false → a.tmps.getD s undef = a0.tmps.getD s undef) →
    (∀ (j : Nat) (s : Tmp), (o.after.any fun e => e.on == j && Region.binds .any e) = true → ds.getD j none = some s → F j (a.tmps.getD s undef) w) →
    ∀ K : Act → World → Prop, (∀ v w', G w' → R w w' → F i v w' → K (a.put o.dst v) w') →
    if met ds o a = true then Oper.wp P o a w K Q else K (a.put o.dst undef) w
/-- What all owe, from the k-th on. -/
def AllDueR (P : Program) (ds : List (Option Tmp)) (Q : Exit → Act → World → Prop) (R : World → World → Prop) (F : Nat → Value → World → Prop) (G : World → Prop) (a0 : Act) : Nat → List Oper → Prop
  | _, [] => True
  | k, o :: r => DueR P ds Q R F G a0 k o ∧ AllDueR P ds Q R F G a0 (k + 1) r
theorem AllDueR.nil {ds : List (Option Tmp)} {k : Nat} : AllDueR P ds Q R F G a0 k [] := trivial
theorem AllDueR.cons {ds : List (Option Tmp)} {k : Nat} {o : Oper} {r : List Oper} (h : DueR P ds Q R F G a0 k o) (hr : AllDueR P ds Q R F G a0 (k + 1) r) : AllDueR P ds Q R F G a0 k (o :: r) := ⟨h, hr⟩
theorem AllDueR.at_ {ds : List (Option Tmp)} : ∀ {l : List Oper} {k i : Nat} {o : Oper}, AllDueR P ds Q R F G a0 k l → l[i]? = some o → DueR P ds Q R F G a0 (k + i) o
  | [], _, _, _, _, h => by simp at h
  | o' :: r, k, 0, o, h, ho => by
    simp at ho
    subst ho
    exact h.1
  | o' :: r, k, i + 1, o, h, ho => by
    have := AllDueR.at_ (i := i) h.2 (by simpa using ho)
    rwa [show k + 1 + i = k + (i + 1) by omega] at this
end
end Go.Proofs.YtkeiekljedhllaaGreat
namespace Go.Proofs.YtkeiekljedhllaaGreat
open Go Go.RowKit
/-- Blocks that hold a number somewhere keep their cells. -/
def Kp (w w' : World) : Prop := w.heap.size ≤ w'.heap.size ∧ ∀ a b : Addr, a.block = b.block → (∃ k n, w.cell? a = some (.int k n)) → ∀ u, w.cell? b = some u → w'.cell? b = some u
theorem Rcs.kp {α : Type} {enc : α → List Value} {sz : Nat} {w w' : World} {v : Value} {l : List α} (h : Rcs enc sz w v l) (hk : Kp w w') (h0 : ∀ x, ∃ k n, (enc x)[0]? = some (.int k n)) : Rcs enc sz w' v l := by
  obtain ⟨A, c, hv, hz, hc, hh⟩ := h
  refine ⟨A, c, hv, hz, hc, fun k h => ?_⟩
  obtain ⟨ad, h1, h2, h3⟩ := hh k h
  obtain ⟨i, n, hi⟩ := h0 l[k]
  exact ⟨ad, h1, Nat.lt_of_lt_of_le h2 hk.1, fun j u hu => hk.2 _ _ (by rw [addr_block, addr_block]) ⟨i, n, h3 0 _ hi⟩ _ (h3 j u hu)⟩
theorem Ids.kp {w w' : World} {v : Value} {l : List Sets.Id2} (h : Ids w v l) (hk : Kp w w') : Ids w' v l := ids_rcs ((rcs_ids h).kp hk fun _ => ⟨_, _, rfl⟩)
theorem Ms.kp {w w' : World} {v : Value} {l : List Ros.Mm} (h : Ms w v l) (hk : Kp w w') : Ms w' v l := Rcs.kp h hk fun _ => ⟨_, _, rfl⟩
theorem ticks_kp {w w' : World} {v : Value} {l : List Clocks.Tick} (h : Rcs encT 3 w v l) (hk : Kp w w') : Rcs encT 3 w' v l := Rcs.kp h hk fun _ => ⟨_, _, rfl⟩
theorem each_kp {w w' : World} (hk : Kp w w') : ∀ {qs : List Raw} {l : List RowSets.Row}, EachReads w qs l → EachReads w' qs l
  | [], [], _ => trivial
  | _ :: _, _ :: _, h => ⟨⟨h.1.1, h.1.2.1, Ids.kp h.1.2.2 hk⟩, each_kp hk h.2⟩
  | [], _ :: _, h => h.elim
  | _ :: _, [], h => h.elim
theorem RowsAt.kp {w w' : World} {v : Value} {l : List RowSets.Row} (h : RowsAt w v l) (hk : Kp w w') : RowsAt w' v l := by
  obtain ⟨qs, h1, h2⟩ := h
  exact ⟨qs, h1.kp hk fun _ => ⟨_, _, rfl⟩, each_kp hk h2⟩
theorem RV.kp {w w' : World} {a b c d e : SL} {V : Vw} (h : RV w a b c d e V) (hk : Kp w w') : RV w' a b c d e V := ⟨Ms.kp h.m hk, Ids.kp h.f hk, h.r.kp hk, ticks_kp h.c hk, Ids.kp h.s hk⟩
theorem VAt.kp {w w' : World} {v : Value} {V : Vw} (h : VAt w v V) (hk : Kp w w') : VAt w' v V := by
  obtain ⟨a, b, c, d, e, h1, h2⟩ := h
  exact ⟨a, b, c, d, e, h1, h2.kp hk⟩
theorem gone_nots_len {fl : List Sets.Id2} {l : List RowSets.Row} {n : Nat} (h : ∀ r ∈ l, r.2.2.length ≤ n) : ∀ r ∈ RowSets.gone fl l, r.2.2.length ≤ n := by
  intro r hr
  unfold RowSets.gone at hr
  obtain ⟨s, hs, rfl⟩ := List.mem_map.1 hr
  exact Nat.le_trans (List.length_filter_le _ _) (h s (List.mem_filter.1 hs).1)
/-- May a view be? -/
def mayV (V : Vw) : Bool := Ros.mayB V.m V.f && (mayBROW V.r && (mayBCLK V.c && (sameR V.r (RowSets.gone V.f V.r) && maySB V.s)))
/-- What stands of the world. -/
structure MvG (w : World) (g : Nat) (a b c d e : SL) (V : Vw) (W : World) : Prop where
  x : VBox W g a b c d e
  r : RV W a b c d e V
  below : Below w.heap.size w W
theorem MvG.step {w : World} {g : Nat} {a b c d e : SL} {V : Vw} {W W' : World} (h : MvG w g a b c d e V W) (hb : Below W.heap.size W W') : MvG w g a b c d e V W' := ⟨vbox_below h.x hb, h.r.below hb, below_after h.below hb (Nat.le_refl _)⟩
/-- The slots of the region's operations. -/
def mvtDs : List (Option Tmp) := [some 21, some 22, some 23, some 24, some 25, some 26, some 27, some 28, some 29, some 30, some 31, some 32, some 33, some 2]
/-- What is said of them. -/
def mvtF (g : Nat) (_ b c _ e : SL) (V : Vw) : Nat → Value → World → Prop := fun i v w => match i with
  | 0 => v = .pointer (some ⟨g, 2, none⟩)
  | 1 => v = .slice c.1 c.2.1 c.2.2
  | 2 => v = .pointer (some ⟨g, 2, none⟩)
  | 3 => v = .slice c.1 c.2.1 c.2.2
  | 4 => v = .pointer (some ⟨g, 1, none⟩)
  | 5 => v = .slice b.1 b.2.1 b.2.2
  | 6 => RowsAt w v (RowSets.gone V.f V.r)
  | 7 => v = .bool true
  | 8 => v = .bool true
  | 9 => v = .pointer (some ⟨g, 4, none⟩)
  | 10 => v = .slice e.1 e.2.1 e.2.2
  | 11 => v = .bool (maySB V.s)
  | 12 => v = .bool (maySB V.s)
  | 13 => v = .bool (maySB V.s)
  | _ => True
theorem mvtF_mono (g : Nat) (a b c d e : SL) (V : Vw) : ∀ i v w w', mvtF g a b c d e V i v w → Below w.heap.size w w' → mvtF g a b c d e V i v w' := by
  intro i v w w' h hb
  unfold mvtF at h ⊢
  split at h
  all_goals first | exact h | exact h.below hb
/-- The slots of the region's operations. -/
def mvfDs : List (Option Tmp) := [some 21, some 22, some 23, some 24, some 25, some 26, some 27, some 28, some 29, some 30, some 31, some 32, some 33, some 2]
/-- What is said of them. -/
def mvfF (g : Nat) (_ b c _ _ : SL) (V : Vw) : Nat → Value → World → Prop := fun i v w => match i with
  | 0 => v = .pointer (some ⟨g, 2, none⟩)
  | 1 => v = .slice c.1 c.2.1 c.2.2
  | 2 => v = .pointer (some ⟨g, 2, none⟩)
  | 3 => v = .slice c.1 c.2.1 c.2.2
  | 4 => v = .pointer (some ⟨g, 1, none⟩)
  | 5 => v = .slice b.1 b.2.1 b.2.2
  | 6 => RowsAt w v (RowSets.gone V.f V.r)
  | 7 => v = .bool false
  | 8 => v = .bool false
  | 9 => v = undef
  | 10 => v = undef
  | 11 => v = undef
  | 12 => v = .bool false
  | 13 => v = .bool false
  | _ => True
theorem mvfF_mono (g : Nat) (a b c d e : SL) (V : Vw) : ∀ i v w w', mvfF g a b c d e V i v w → Below w.heap.size w w' → mvfF g a b c d e V i v w' := by
  intro i v w w' h hb
  unfold mvfF at h ⊢
  split at h
  all_goals first | exact h | exact h.below hb
set_option maxHeartbeats 8000000 in
theorem mayV_any (v : Value) (V : Vw) (w : World) (h : VAt w v V) (hV : FitVIE 5000 V) :
    Calls Tryz.prog 19 #[v] w fun e w' => e = .returned (.bool (mayV V)) ∧ Below w.heap.size w w' := by
  obtain ⟨a, b, c, d, e, rfl, hr⟩ := h
  have G0 : Hid (MvG w w.heap.size a b c d e V (w.alloc (.cells #[.slice a.1 a.2.1 a.2.2, .slice b.1 b.2.1 b.2.2, .slice c.1 c.2.1 c.2.2, .slice d.1 d.2.1 d.2.2, .slice e.1 e.2.1 e.2.2] 33))) := Lib.hid ⟨vbox_new w a b c d e, hr.below (below_one w _), below_one w _⟩
  have HE : Hid (mayV V = (Ros.mayB V.m V.f && (mayBROW V.r && (mayBCLK V.c && (sameR V.r (RowSets.gone V.f V.r) && maySB V.s))))) := Lib.hid rfl
  have LV := Lib.hid hV
  clear hr hV
  generalize mayV V = z0 at *
  go_enter Tryz.func19, Tryz.ntmps19
  obtain ⟨p0, p1, p2, p3, p4⟩ := vbox_cells G0.out.x
  go_wp2_with fail
  (with_reducible refine (mayL_any _ _ V.m V.f _ G0.out.r.m G0.out.r.f (Nat.le_trans LV.out.m (by decide)) (Nat.le_trans LV.out.f (by decide))).mono ?_)
  rintro e1 w1 ⟨rfl, hb⟩
  have G1 := Lib.hid (G0.out.step hb)
  clear hb p0 p1 p2 p3 p4 G0
  generalize Ros.mayB V.m V.f = y1 at *
  obtain ⟨p0, p1, p2, p3, p4⟩ := vbox_cells G1.out.x
  cases y1
  · go_wp2_with fail
    go_ret
    exact ⟨ret_bool (by rw [HE.out]; rfl), G1.out.below⟩
  · go_wp2_with fail
    (with_reducible refine (may_rows _ V.r _ G1.out.r.r (fun r hr => Nat.le_trans (LV.out.n r hr) (by decide))).mono ?_)
    rintro e2 w2 ⟨rfl, hb⟩
    have G2 := Lib.hid (G1.out.step hb)
    clear hb p0 p1 p2 p3 p4 G1
    generalize mayBROW V.r = y2 at *
    obtain ⟨p0, p1, p2, p3, p4⟩ := vbox_cells G2.out.x
    cases y2
    · go_wp2_with fail
      go_ret
      exact ⟨ret_bool (by rw [HE.out]; rfl), G2.out.below⟩
    · go_wp2_with fail
      (with_reducible refine (mayClock_any _ V.c _ G2.out.r.c (Nat.le_trans LV.out.c (by decide))).mono ?_)
      rintro e3 w3 ⟨rfl, hb⟩
      have G3 := Lib.hid (G2.out.step hb)
      clear hb p0 p1 p2 p3 p4 G2
      generalize mayBCLK V.c = y3 at *
      cases y3
      · go_wp2_with fail
        go_ret
        exact ⟨ret_bool (by rw [HE.out]; rfl), G3.out.below⟩
      · go_wp2_with fail
        rcases hz : sameR V.r (RowSets.gone V.f V.r) with _ | _
        · have HZ := Lib.hid hz
          rw [hz] at HE
          clear hz
          refine wp_region_due (by kernel_rfl) mvfDs (mvfF w.heap.size a b c d e V) (MvG w w.heap.size a b c d e V) rfl (by kernel_rfl) (by kernel_rfl) (by kernel_rfl) (mvfF_mono w.heap.size a b c d e V) (G3.out.step (below_drewN (n := 1) (Below.refl _ _))) ?_ ?_
          · clear G3
            refine AllDue.cons (due_met (.inl rfl) fun q w1 hG hold hf K hK => ?_) ?_
            · have f1 : q.tmps.getD 1 undef = .pointer (some ⟨w.heap.size, 0, none⟩) := hold 1 (by kernel_rfl)
              clear hf hold
              go_simp
              exact hK _ _ hG (Below.refl _ _) rfl
            refine AllDue.cons (due_met (.inl rfl) fun q w1 hG hold hf K hK => ?_) ?_
            · have f21 : q.tmps.getD 21 undef = .pointer (some ⟨w.heap.size, 2, none⟩) := hf 0 21 (by kernel_rfl) rfl
              have q21 := f21
              rw [Array.getD_eq_getD_getElem?] at q21
              obtain ⟨p0, p1, p2, p3, p4⟩ := vbox_cells hG.x
              clear hf hold
              go_simp
              exact hK _ _ hG (Below.refl _ _) rfl
            refine AllDue.cons (due_met (.inl rfl) fun q w1 hG hold hf K hK => ?_) ?_
            · have f1 : q.tmps.getD 1 undef = .pointer (some ⟨w.heap.size, 0, none⟩) := hold 1 (by kernel_rfl)
              clear hf hold
              go_simp
              exact hK _ _ hG (Below.refl _ _) rfl
            refine AllDue.cons (due_met (.inl rfl) fun q w1 hG hold hf K hK => ?_) ?_
            · have f23 : q.tmps.getD 23 undef = .pointer (some ⟨w.heap.size, 2, none⟩) := hf 2 23 (by kernel_rfl) rfl
              have q23 := f23
              rw [Array.getD_eq_getD_getElem?] at q23
              obtain ⟨p0, p1, p2, p3, p4⟩ := vbox_cells hG.x
              clear hf hold
              go_simp
              exact hK _ _ hG (Below.refl _ _) rfl
            refine AllDue.cons (due_met (.inl rfl) fun q w1 hG hold hf K hK => ?_) ?_
            · have f1 : q.tmps.getD 1 undef = .pointer (some ⟨w.heap.size, 0, none⟩) := hold 1 (by kernel_rfl)
              clear hf hold
              go_simp
              exact hK _ _ hG (Below.refl _ _) rfl
            refine AllDue.cons (due_met (.inl rfl) fun q w1 hG hold hf K hK => ?_) ?_
            · have f25 : q.tmps.getD 25 undef = .pointer (some ⟨w.heap.size, 1, none⟩) := hf 4 25 (by kernel_rfl) rfl
              have q25 := f25
              rw [Array.getD_eq_getD_getElem?] at q25
              obtain ⟨p0, p1, p2, p3, p4⟩ := vbox_cells hG.x
              clear hf hold
              go_simp
              exact hK _ _ hG (Below.refl _ _) rfl
            refine AllDue.cons (due_met (.inl rfl) fun q w1 hG hold hf K hK => ?_) ?_
            · have f24 : q.tmps.getD 24 undef = .slice c.1 c.2.1 c.2.2 := hf 3 24 (by kernel_rfl) rfl
              have q24 := f24
              rw [Array.getD_eq_getD_getElem?] at q24
              have f26 : q.tmps.getD 26 undef = .slice b.1 b.2.1 b.2.2 := hf 5 26 (by kernel_rfl) rfl
              have q26 := f26
              rw [Array.getD_eq_getD_getElem?] at q26
              clear hf hold
              go_simp
              go_at_call 29
              (with_reducible refine (gone_any _ _ V.r V.f _ hG.r.r hG.r.f LV.out.r (fun r hr => Nat.le_trans (LV.out.n r hr) (by decide)) (Nat.le_trans LV.out.f (by decide))).mono ?_)
              rintro e' w' ⟨X, rfl, h1, h2⟩
              exact hK _ _ (hG.step h2) h2 h1
            refine AllDue.cons (due_met (.inl rfl) fun q w1 hG hold hf K hK => ?_) ?_
            · have f22 : q.tmps.getD 22 undef = .slice c.1 c.2.1 c.2.2 := hf 1 22 (by kernel_rfl) rfl
              have q22 := f22
              rw [Array.getD_eq_getD_getElem?] at q22
              have r27 : RowsAt w1 (q.tmps.getD 27 undef) (RowSets.gone V.f V.r) := hf 6 27 (by kernel_rfl) rfl
              obtain ⟨x27, e27⟩ : ∃ x, q.tmps.getD 27 undef = x := ⟨_, rfl⟩
              rw [e27] at r27
              have q27 := e27
              rw [Array.getD_eq_getD_getElem?] at q27
              clear hf hold
              go_simp
              go_at_call 28
              (with_reducible refine (sameRows_is _ _ V.r (RowSets.gone V.f V.r) _ hG.r.r r27 (Nat.le_trans LV.out.r (by decide)) (fun r hr => Nat.le_trans (LV.out.n r hr) (by decide)) (gone_nots_len fun r hr => Nat.le_trans (LV.out.n r hr) (by decide))).mono ?_)
              rintro e' w' ⟨rfl, h2⟩
              exact hK _ _ (hG.step h2) h2 (by rw [HZ.out]; rfl)
            refine AllDue.cons (due_met (.inl rfl) fun q w1 hG hold hf K hK => ?_) ?_
            · have f28 : q.tmps.getD 28 undef = .bool false := hf 7 28 (by kernel_rfl) rfl
              have q28 := f28
              rw [Array.getD_eq_getD_getElem?] at q28
              clear hf hold
              go_simp
              exact hK _ _ hG (Below.refl _ _) rfl
            refine AllDue.cons (due_not (b := true) (s := 29) rfl rfl (by kernel_rfl) (fun _ _ h => h) (fun _ => rfl)) ?_
            refine AllDue.cons (due_not (b := true) (s := 29) rfl rfl (by kernel_rfl) (fun _ _ h => h) (fun _ => rfl)) ?_
            refine AllDue.cons (due_not (b := true) (s := 29) rfl rfl (by kernel_rfl) (fun _ _ h => h) (fun _ => rfl)) ?_
            refine AllDue.cons (due_met (.inl rfl) fun q w1 hG hold hf K hK => ?_) ?_
            · have f29 : q.tmps.getD 29 undef = .bool false := hf 8 29 (by kernel_rfl) rfl
              have q29 := f29
              rw [Array.getD_eq_getD_getElem?] at q29
              have f32 : q.tmps.getD 32 undef = undef := hf 11 32 (by kernel_rfl) rfl
              have q32 := f32
              rw [Array.getD_eq_getD_getElem?] at q32
              clear hf hold
              go_simp
              exact hK _ _ hG (Below.refl _ _) rfl
            refine AllDue.cons (due_met (.inl rfl) fun q w1 hG hold hf K hK => ?_) ?_
            · have f33 : q.tmps.getD 33 undef = .bool false := hf 12 33 (by kernel_rfl) rfl
              have q33 := f33
              rw [Array.getD_eq_getD_getElem?] at q33
              clear hf hold
              go_simp
              exact hK _ _ hG (Below.refl _ _) rfl
            exact AllDue.nil
          · intro ac w7 hG hd hs hold hf
            have f2 : ac.tmps.getD 2 undef = .bool false := hf 13 2 rfl
            clear hf hold
            go_wp2_with fail
            refine bodyPost_ret (results_tmp rfl _ _ _) hd ?_
            exact ⟨by rw [f2]; exact ret_bool (by rw [HE.out]; rfl), hG.below⟩
        · have HZ := Lib.hid hz
          rw [hz] at HE
          clear hz
          refine wp_region_due (by kernel_rfl) mvtDs (mvtF w.heap.size a b c d e V) (MvG w w.heap.size a b c d e V) rfl (by kernel_rfl) (by kernel_rfl) (by kernel_rfl) (mvtF_mono w.heap.size a b c d e V) (G3.out.step (below_drewN (n := 1) (Below.refl _ _))) ?_ ?_
          · clear G3
            refine AllDue.cons (due_met (.inl rfl) fun q w1 hG hold hf K hK => ?_) ?_
            · have f1 : q.tmps.getD 1 undef = .pointer (some ⟨w.heap.size, 0, none⟩) := hold 1 (by kernel_rfl)
              clear hf hold
              go_simp
              exact hK _ _ hG (Below.refl _ _) rfl
            refine AllDue.cons (due_met (.inl rfl) fun q w1 hG hold hf K hK => ?_) ?_
            · have f21 : q.tmps.getD 21 undef = .pointer (some ⟨w.heap.size, 2, none⟩) := hf 0 21 (by kernel_rfl) rfl
              have q21 := f21
              rw [Array.getD_eq_getD_getElem?] at q21
              obtain ⟨p0, p1, p2, p3, p4⟩ := vbox_cells hG.x
              clear hf hold
              go_simp
              exact hK _ _ hG (Below.refl _ _) rfl
            refine AllDue.cons (due_met (.inl rfl) fun q w1 hG hold hf K hK => ?_) ?_
            · have f1 : q.tmps.getD 1 undef = .pointer (some ⟨w.heap.size, 0, none⟩) := hold 1 (by kernel_rfl)
              clear hf hold
              go_simp
              exact hK _ _ hG (Below.refl _ _) rfl
            refine AllDue.cons (due_met (.inl rfl) fun q w1 hG hold hf K hK => ?_) ?_
            · have f23 : q.tmps.getD 23 undef = .pointer (some ⟨w.heap.size, 2, none⟩) := hf 2 23 (by kernel_rfl) rfl
              have q23 := f23
              rw [Array.getD_eq_getD_getElem?] at q23
              obtain ⟨p0, p1, p2, p3, p4⟩ := vbox_cells hG.x
              clear hf hold
              go_simp
              exact hK _ _ hG (Below.refl _ _) rfl
            refine AllDue.cons (due_met (.inl rfl) fun q w1 hG hold hf K hK => ?_) ?_
            · have f1 : q.tmps.getD 1 undef = .pointer (some ⟨w.heap.size, 0, none⟩) := hold 1 (by kernel_rfl)
              clear hf hold
              go_simp
              exact hK _ _ hG (Below.refl _ _) rfl
            refine AllDue.cons (due_met (.inl rfl) fun q w1 hG hold hf K hK => ?_) ?_
            · have f25 : q.tmps.getD 25 undef = .pointer (some ⟨w.heap.size, 1, none⟩) := hf 4 25 (by kernel_rfl) rfl
              have q25 := f25
              rw [Array.getD_eq_getD_getElem?] at q25
              obtain ⟨p0, p1, p2, p3, p4⟩ := vbox_cells hG.x
              clear hf hold
              go_simp
              exact hK _ _ hG (Below.refl _ _) rfl
            refine AllDue.cons (due_met (.inl rfl) fun q w1 hG hold hf K hK => ?_) ?_
            · have f24 : q.tmps.getD 24 undef = .slice c.1 c.2.1 c.2.2 := hf 3 24 (by kernel_rfl) rfl
              have q24 := f24
              rw [Array.getD_eq_getD_getElem?] at q24
              have f26 : q.tmps.getD 26 undef = .slice b.1 b.2.1 b.2.2 := hf 5 26 (by kernel_rfl) rfl
              have q26 := f26
              rw [Array.getD_eq_getD_getElem?] at q26
              clear hf hold
              go_simp
              go_at_call 29
              (with_reducible refine (gone_any _ _ V.r V.f _ hG.r.r hG.r.f LV.out.r (fun r hr => Nat.le_trans (LV.out.n r hr) (by decide)) (Nat.le_trans LV.out.f (by decide))).mono ?_)
              rintro e' w' ⟨X, rfl, h1, h2⟩
              exact hK _ _ (hG.step h2) h2 h1
            refine AllDue.cons (due_met (.inl rfl) fun q w1 hG hold hf K hK => ?_) ?_
            · have f22 : q.tmps.getD 22 undef = .slice c.1 c.2.1 c.2.2 := hf 1 22 (by kernel_rfl) rfl
              have q22 := f22
              rw [Array.getD_eq_getD_getElem?] at q22
              have r27 : RowsAt w1 (q.tmps.getD 27 undef) (RowSets.gone V.f V.r) := hf 6 27 (by kernel_rfl) rfl
              obtain ⟨x27, e27⟩ : ∃ x, q.tmps.getD 27 undef = x := ⟨_, rfl⟩
              rw [e27] at r27
              have q27 := e27
              rw [Array.getD_eq_getD_getElem?] at q27
              clear hf hold
              go_simp
              go_at_call 28
              (with_reducible refine (sameRows_is _ _ V.r (RowSets.gone V.f V.r) _ hG.r.r r27 (Nat.le_trans LV.out.r (by decide)) (fun r hr => Nat.le_trans (LV.out.n r hr) (by decide)) (gone_nots_len fun r hr => Nat.le_trans (LV.out.n r hr) (by decide))).mono ?_)
              rintro e' w' ⟨rfl, h2⟩
              exact hK _ _ (hG.step h2) h2 (by rw [HZ.out]; rfl)
            refine AllDue.cons (due_met (.inl rfl) fun q w1 hG hold hf K hK => ?_) ?_
            · have f28 : q.tmps.getD 28 undef = .bool true := hf 7 28 (by kernel_rfl) rfl
              have q28 := f28
              rw [Array.getD_eq_getD_getElem?] at q28
              clear hf hold
              go_simp
              exact hK _ _ hG (Below.refl _ _) rfl
            refine AllDue.cons (due_met (.inr ⟨8, true, 29, rfl, rfl, by kernel_rfl, fun _ _ h => h⟩) fun q w1 hG hold hf K hK => ?_) ?_
            · have f1 : q.tmps.getD 1 undef = .pointer (some ⟨w.heap.size, 0, none⟩) := hold 1 (by kernel_rfl)
              clear hf hold
              go_simp
              exact hK _ _ hG (Below.refl _ _) rfl
            refine AllDue.cons (due_met (.inr ⟨8, true, 29, rfl, rfl, by kernel_rfl, fun _ _ h => h⟩) fun q w1 hG hold hf K hK => ?_) ?_
            · have f30 : q.tmps.getD 30 undef = .pointer (some ⟨w.heap.size, 4, none⟩) := hf 9 30 (by kernel_rfl) rfl
              have q30 := f30
              rw [Array.getD_eq_getD_getElem?] at q30
              obtain ⟨p0, p1, p2, p3, p4⟩ := vbox_cells hG.x
              clear hf hold
              go_simp
              exact hK _ _ hG (Below.refl _ _) rfl
            refine AllDue.cons (due_met (.inr ⟨8, true, 29, rfl, rfl, by kernel_rfl, fun _ _ h => h⟩) fun q w1 hG hold hf K hK => ?_) ?_
            · have f31 : q.tmps.getD 31 undef = .slice e.1 e.2.1 e.2.2 := hf 10 31 (by kernel_rfl) rfl
              have q31 := f31
              rw [Array.getD_eq_getD_getElem?] at q31
              clear hf hold
              go_simp
              go_at_call 30
              (with_reducible refine (maySeen_any _ V.s _ hG.r.s (Nat.le_trans LV.out.s (by decide))).mono ?_)
              rintro e' w' ⟨rfl, h2⟩
              exact hK _ _ (hG.step h2) h2 rfl
            refine AllDue.cons (due_met (.inl rfl) fun q w1 hG hold hf K hK => ?_) ?_
            · have f29 : q.tmps.getD 29 undef = .bool true := hf 8 29 (by kernel_rfl) rfl
              have q29 := f29
              rw [Array.getD_eq_getD_getElem?] at q29
              have f32 : q.tmps.getD 32 undef = .bool (maySB V.s) := hf 11 32 (by kernel_rfl) rfl
              have q32 := f32
              rw [Array.getD_eq_getD_getElem?] at q32
              clear hf hold
              go_simp
              exact hK _ _ hG (Below.refl _ _) rfl
            refine AllDue.cons (due_met (.inl rfl) fun q w1 hG hold hf K hK => ?_) ?_
            · have f33 : q.tmps.getD 33 undef = .bool (maySB V.s) := hf 12 33 (by kernel_rfl) rfl
              have q33 := f33
              rw [Array.getD_eq_getD_getElem?] at q33
              clear hf hold
              go_simp
              exact hK _ _ hG (Below.refl _ _) rfl
            exact AllDue.nil
          · intro ac w7 hG hd hs hold hf
            have f2 : ac.tmps.getD 2 undef = .bool (maySB V.s) := hf 13 2 rfl
            clear hf hold
            go_wp2_with fail
            refine bodyPost_ret (results_tmp rfl _ _ _) hd ?_
            exact ⟨by rw [f2]; exact ret_bool (by rw [HE.out]; rfl), hG.below⟩
end Go.Proofs.YtkeiekljedhllaaGreat
