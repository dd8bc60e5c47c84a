/-
  Contracts and plain facts.
-/
import Derived.Test.YthkkipbmlafdiaaGreatOy
import Derived.Test.YthkkipbmlafdiaaGreatB05
import Derived.Test.YthkkipbmlafdiaaGreatB13
import Derived.Test.YthkkipbmlafdiaaGreatB14
import Derived.Test.YthkkipbmlafdiaaGreatB15
import Derived.Test.YthkkipbmlafdiaaGreatB16
import Derived.Test.YthkkipbmlafdiaaGreatB18
import Derived.Test.YthkkipbmlafdiaaGreatB25
import Derived.Test.YthkkipbmlafdiaaGreatB28
set_option maxRecDepth 20000
namespace Go.Proofs.YthkkipbmlafdiaaGreat
section
open Go.RowKit Sets Clocks
def upR (l : List Tick) (z : Id2) : List Tick × Int :=
 if mayBCLK l = true ∧ vidCLK z.1 z.2 = true then (if says l z = 1099511627776 ∨ says l z = 0 ∧ l.length = 64 then ([], 40) else (up l z, 0)) else ([], 4)
theorem may_says {l : List Tick} (h : mayBCLK l = true) (z : Id2) : says l z ≤ 1099511627776 := by
 unfold mayBCLK at h;rw [Bool.and_eq_true, Bool.and_eq_true, List.all_eq_true] at h;rcases Int.lt_or_le 0 (says l z) with h1 | h1
 ·have h2 := h.2.1 _ (says_mem h1)
  unfold okT at h2;rw [Bool.and_eq_true, Bool.and_eq_true] at h2;simpa using h2.2.2
 ·omega
def Raised (r : List Tick × Int) (w : World) (e : Ending) (w' : World) : Prop := ∃ v', e = .returned (.tuple #[v', .int .i64 r.2]) ∧ Rcs encT 3 w' v' r.1 ∧ Below w.heap.size w w'
theorem raised_none (k : Int) {w w' : World} (h : Below w.heap.size w w') : Raised ([], k) w (.returned (.tuple #[.slice none 0 0, .int .i64 k])) w' := ⟨_, rfl, Rcs.nil _, h⟩
set_option maxHeartbeats 2000000 in
theorem up_any (v : Value) (l : List Tick) (x y : Int) (w : World) (h : Rcs encT 3 w v l) (hl : l.length ≤ 39999) :
  Calls Tryz.prog 129 #[v, .agg #[.int .i64 x, .int .i64 y]] w (Raised (upR l (x, y)) w) := by
 have HI := hd_ h;have HX := hd_ (ao_ w x y);have HW := hd_ (show Below w.heap.size w (w.alloc (.cells #[.int .i64 x, .int .i64 y] 29)) from (Below.refl _ _).alloc (Nat.le_refl _) _)
 have HM := hd_ (fun W h => mayClock_any v l W h (by omega))
 have HV := hd_ fun W b h => may_any' x y W b h
 have HG := hd_ (fun W h => get_any v l x y W h (by omega))
 have HI1 := hd_ (HI.out.below HW.out);obtain ⟨A, c, rfl, hz⟩ := h;clear hz;cases hm : mayBCLK l
 ·have HF := hd_ (show upR l (x, y) = ([], 4) by simp [upR, hm])
  rw [hm] at HM;clear hm;go_enter Tryz.func129, Tryz.ntmps129
  go_wp2_with fail;(with_reducible refine (HM.out _ HI1.out).mono ?_)
  rintro e w1 ⟨rfl, hb⟩;have B1 := hd_ (ba_ HW.out hb);clear hb;go_wp2_with fail;refine bodyPost_ret (v := .tuple #[.slice none 0 0, .int .i64 4]) (by simp [results, Tryz.results129, go_sem]) rfl ?_
  rw [HF.out];exact raised_none 4 B1.out
 ·have HMS := hd_ (may_says hm (x, y))
  cases hv : vidCLK x y
  ·have HF := hd_ (show upR l (x, y) = ([], 4) by simp [upR, hv])
   rw [hm] at HM;have HVV := hd_ hv;clear hm hv;go_enter Tryz.func129, Tryz.ntmps129
   go_wp2_with fail;(with_reducible refine (HM.out _ HI1.out).mono ?_)
   rintro e w1 ⟨rfl, hb⟩;have B1 := hd_ (ba_ HW.out hb);have X1 := hd_ (ag_ HX.out hb);clear hb;obtain ⟨c1, c2⟩ := ae_ X1.out;go_wp2_with fail;(with_reducible refine (HV.out _ _ HVV.out).mono ?_)
   rintro e w2 ⟨rfl, hb⟩;have B2 := hd_ (ba_ B1.out hb);clear hb;go_wp2_with fail;refine bodyPost_ret (v := .tuple #[.slice none 0 0, .int .i64 4]) (by simp [results, Tryz.results129, go_sem]) rfl ?_
   rw [HF.out];exact raised_none 4 B2.out
  ·have HR := hd_ (show upR l (x, y) = if says l (x, y) = 1099511627776 ∨ says l (x, y) = 0 ∧ l.length = 64 then ([], 40) else (up l (x, y), 0) by
    unfold upR;rw [if_pos ⟨hm, hv⟩])
   have HU := hd_ (up_is l (x, y));have HP := hd_ (says_pos l (x, y));rw [hm] at HM;have HVV := hd_ hv;clear hm hv;generalize says l (x, y) = s at *;by_cases h1 : s = 1099511627776
   ·subst h1
    go_enter Tryz.func129, Tryz.ntmps129
    go_wp2_with fail;(with_reducible refine (HM.out _ HI1.out).mono ?_)
    rintro e w1 ⟨rfl, hb⟩;have B1 := hd_ (ba_ HW.out hb);have X1 := hd_ (ag_ HX.out hb);have I1 := hd_ (HI1.out.below hb);clear hb;obtain ⟨c1, c2⟩ := ae_ X1.out;go_wp2_with fail;(with_reducible refine (HV.out _ _ HVV.out).mono ?_)
    rintro e w2 ⟨rfl, hb⟩;have B2 := hd_ (ba_ B1.out hb);have X2 := hd_ (ag_ X1.out hb);have I2 := hd_ (I1.out.below hb);clear hb c1 c2;obtain ⟨c1, c2⟩ := ae_ X2.out;go_wp2_with fail;(with_reducible refine (HG.out _ I2.out).mono ?_)
    rintro e w3 ⟨rfl, hb⟩;have B3 := hd_ (ba_ B2.out hb);clear hb c1 c2;go_wp2_with fail;refine bodyPost_ret (v := .tuple #[.slice none 0 0, .int .i64 40]) (by simp [results, Tryz.results129, go_sem]) rfl ?_
    rw [HR.out, if_pos (.inl (by trivial))]
    exact raised_none 40 B3.out
   ·have e1 : (s == 1099511627776) = false := by simpa using h1
    by_cases h2 : s = 0 ∧ l.length = 64
    ·obtain ⟨rfl, h64⟩ := h2
     have e2 : ((l.length : Int) == 64) = true := by simp; omega
     have HZ := hd_ h64;clear h64;go_enter Tryz.func129, Tryz.ntmps129
     go_wp2_with fail;(with_reducible refine (HM.out _ HI1.out).mono ?_)
     rintro e w1 ⟨rfl, hb⟩;have B1 := hd_ (ba_ HW.out hb);have X1 := hd_ (ag_ HX.out hb);have I1 := hd_ (HI1.out.below hb);clear hb;obtain ⟨c1, c2⟩ := ae_ X1.out;go_wp2_with fail;(with_reducible refine (HV.out _ _ HVV.out).mono ?_)
     rintro e w2 ⟨rfl, hb⟩;have B2 := hd_ (ba_ B1.out hb);have X2 := hd_ (ag_ X1.out hb);have I2 := hd_ (I1.out.below hb);clear hb c1 c2;obtain ⟨c1, c2⟩ := ae_ X2.out;go_wp2_with fail;(with_reducible refine (HG.out _ I2.out).mono ?_)
     rintro e w3 ⟨rfl, hb⟩;have B3 := hd_ (ba_ B2.out hb);clear hb c1 c2;go_wp2_with fail;refine bodyPost_ret (v := .tuple #[.slice none 0 0, .int .i64 40]) (by simp [results, Tryz.results129, go_sem]) rfl ?_
     rw [HR.out, if_pos (.inr ⟨by trivial, HZ.out⟩)]
     exact raised_none 40 B3.out
    ·have HN := hd_ (show ¬ (s = 1099511627776 ∨ s = 0 ∧ l.length = 64) from fun h => h.elim h1 h2)
     have e3 : ((s == 0) = true ∧ ((l.length : Int) == 64) = false) ∨ (s == 0) = false := by
      by_cases h0 : s = 0
      ·refine .inl ⟨by simpa using h0, ?_⟩
       simp
       exact fun e => h2 ⟨h0, by omega⟩
      ·exact .inr (by simpa using h0)
     have iw : IntKind.i64.wrap (s + 1) = s + 1 := IntWalk.i64_in _ ⟨by have := HP.out; omega, by have := HMS.out; omega⟩
     clear h1 h2;rcases e3 with ⟨e3, e4⟩ | e3
     all_goals
      go_enter Tryz.func129, Tryz.ntmps129
      go_wp2_with fail;(with_reducible refine (HM.out _ HI1.out).mono ?_)
      rintro e w1 ⟨rfl, hb⟩;have B1 := hd_ (ba_ HW.out hb);have X1 := hd_ (ag_ HX.out hb);have I1 := hd_ (HI1.out.below hb);clear hb;obtain ⟨c1, c2⟩ := ae_ X1.out;go_wp2_with fail;(with_reducible refine (HV.out _ _ HVV.out).mono ?_)
      rintro e w2 ⟨rfl, hb⟩;have B2 := hd_ (ba_ B1.out hb);have X2 := hd_ (ag_ X1.out hb);have I2 := hd_ (I1.out.below hb);clear hb c1 c2;obtain ⟨c1, c2⟩ := ae_ X2.out;go_wp2_with fail;(with_reducible refine (HG.out _ I2.out).mono ?_)
      rintro e w3 ⟨rfl, hb⟩;have B3 := hd_ (ba_ B2.out hb);have X3 := hd_ (ag_ X2.out hb);have I3 := hd_ (I2.out.below hb);clear hb c1 c2;obtain ⟨c1, c2⟩ := ae_ X3.out;go_wp2_with fail;have B4 := hd_ (B3.out.alloc B3.out.size (.cells #[.int .i64 x, .int .i64 y, .int .i64 (s + 1)] 53));have I4 := hd_ (I3.out.below ((Below.refl _ _).alloc (Nat.le_refl _) (.cells #[.int .i64 x, .int .i64 y, .int .i64 (s + 1)] 53)));have J4 := hd_ (show Rcs encT 3 (w3.alloc (.cells #[.int .i64 x, .int .i64 y, .int .i64 (s + 1)] 53)) (.slice (some ⟨w3.heap.size, 0, none⟩) 1 1) [((x, y), s + 1)] from rcs_lit encT_len w3 [((x, y), s + 1)] #[.int .i64 x, .int .i64 y, .int .i64 (s + 1)] 53 rfl)
      with_reducible refine (join_anyCLK _ _ l [((x, y), s + 1)] _ I4.out J4.out (by omega) (by simp)).mono ?_
      rintro e w5 ⟨V, rfl, hr, hb⟩;have R5 := hd_ hr;have B5 := hd_ (ba_ B4.out hb);clear hr hb;go_wp2_with fail;refine bodyPost_ret (v := .tuple #[V, .int .i64 0]) (by simp [results, Tryz.results129, go_sem]) rfl ?_
      rw [HR.out, if_neg HN.out];exact ⟨V, rfl, by rw [← HU.out]; exact R5.out, B5.out⟩
end
section
open Go Go.RowKit
structure Vw where
 m : List Ros.Mm
 f : List Sets.Id2
 r : List RowSets.Row
 c : List Clocks.Tick
 s : List Sets.Id2
abbrev SL := Option Addr × Nat × Nat
structure RV (w : World) (a b c d e : SL) (V : Vw) : Prop where
 m : Ms w (.slice a.1 a.2.1 a.2.2) V.m
 f : Ids w (.slice b.1 b.2.1 b.2.2) V.f
 r : RowsAt w (.slice c.1 c.2.1 c.2.2) V.r
 c : Rcs encT 3 w (.slice d.1 d.2.1 d.2.2) V.c
 s : Ids w (.slice e.1 e.2.1 e.2.2) V.s
theorem RV.below {w w' : World} {a b c d e : SL} {V : Vw} (h : RV w a b c d e V) (hb : Below w.heap.size w w') : RV w' a b c d e V := ⟨h.m.below hb, h.f.below hb, h.r.below hb, h.c.below hb, h.s.below hb⟩
def VAt (w : World) (v : Value) (V : Vw) : Prop := ∃ a b c d e : SL, v = .agg #[.slice a.1 a.2.1 a.2.2, .slice b.1 b.2.1 b.2.2, .slice c.1 c.2.1 c.2.2, .slice d.1 d.2.1 d.2.2, .slice e.1 e.2.1 e.2.2] ∧ RV w a b c d e V
theorem VAt.below {w w' : World} {v : Value} {V : Vw} (h : VAt w v V) (hb : Below w.heap.size w w') : VAt w' v V := by
 obtain ⟨a, b, c, d, e, h1, h2⟩ := h;exact ⟨a, b, c, d, e, h1, h2.below hb⟩
theorem sl_rcs {α : Type} [Inhabited α] {enc : α → List Value} {sz : Nat} {w : World} {v : Value} {l : List α} (h : Rcs enc sz w v l) : ∃ a : SL, v = .slice a.1 a.2.1 a.2.2 := by
 obtain ⟨A, c, hv, _⟩ := h;exact ⟨(A, l.length, c), hv⟩
theorem sl_ids {w : World} {v : Value} {l : List Sets.Id2} (h : Ids w v l) : ∃ a : SL, v = .slice a.1 a.2.1 a.2.2 := by
 obtain ⟨A, c, hv, _⟩ := h;exact ⟨(A, l.length, c), hv⟩
theorem sl_rows {w : World} {v : Value} {l : List RowSets.Row} (h : RowsAt w v l) : ∃ a : SL, v = .slice a.1 a.2.1 a.2.2 := by
 obtain ⟨A, c, hv, _⟩ := h.shape;exact ⟨(A, l.length, c), hv⟩
theorem vAt_of {w : World} {a b c d e : Value} {m : List Ros.Mm} {f : List Sets.Id2} {r : List RowSets.Row} {t : List Clocks.Tick} {s : List Sets.Id2} (h1 : Ms w a m) (h2 : Ids w b f) (h3 : RowsAt w c r) (h4 : Rcs encT 3 w d t) (h5 : Ids w e s) : VAt w (.agg #[a, b, c, d, e]) ⟨m, f, r, t, s⟩ := by
 obtain ⟨a, rfl⟩ := sl_rcs h1;obtain ⟨b, rfl⟩ := sl_ids h2;obtain ⟨c, rfl⟩ := sl_rows h3;obtain ⟨d, rfl⟩ := sl_rcs h4;obtain ⟨e, rfl⟩ := sl_ids h5;exact ⟨a, b, c, d, e, rfl, h1, h2, h3, h4, h5⟩
def VBox (w : World) (g : Nat) (a b c d e : SL) : Prop := w.heap[g]? = some (.cells #[.slice a.1 a.2.1 a.2.2, .slice b.1 b.2.1 b.2.2, .slice c.1 c.2.1 c.2.2, .slice d.1 d.2.1 d.2.2, .slice e.1 e.2.1 e.2.2] 27 (0, 0))
theorem aa_ {w : World} {g : Nat} {a b c d e : SL} (h : VBox w g a b c d e) : w.cell? ⟨g, 0, none⟩ = some (.slice a.1 a.2.1 a.2.2) ∧ w.cell? ⟨g, 1, none⟩ = some (.slice b.1 b.2.1 b.2.2) ∧ w.cell? ⟨g, 2, none⟩ = some (.slice c.1 c.2.1 c.2.2) ∧ w.cell? ⟨g, 3, none⟩ = some (.slice d.1 d.2.1 d.2.2) ∧ w.cell? ⟨g, 4, none⟩ = some (.slice e.1 e.2.1 e.2.2) := by
 unfold VBox at h;exact ⟨by rw [cell_of_row _ _ 0 _ _ _ h]; rfl, by rw [cell_of_row _ _ 1 _ _ _ h]; rfl, by rw [cell_of_row _ _ 2 _ _ _ h]; rfl, by rw [cell_of_row _ _ 3 _ _ _ h]; rfl, by rw [cell_of_row _ _ 4 _ _ _ h]; rfl⟩
theorem al_ {w : World} {g : Nat} {a b c d e : SL} (h : VBox w g a b c d e) : w.frozen? ⟨g, 0, none⟩ = false ∧ w.frozen? ⟨g, 1, none⟩ = false ∧ w.frozen? ⟨g, 2, none⟩ = false ∧ w.frozen? ⟨g, 3, none⟩ = false ∧ w.frozen? ⟨g, 4, none⟩ = false := by
 unfold VBox at h;exact ⟨by simp [World.frozen?, h], by simp [World.frozen?, h], by simp [World.frozen?, h], by simp [World.frozen?, h], by simp [World.frozen?, h]⟩
theorem ak_ (w : World) (a b c d e : SL) : VBox (w.alloc (.cells #[.slice a.1 a.2.1 a.2.2, .slice b.1 b.2.1 b.2.2, .slice c.1 c.2.1 c.2.2, .slice d.1 d.2.1 d.2.2, .slice e.1 e.2.1 e.2.2] 27)) w.heap.size a b c d e := heap_alloc_new w _
theorem vbox_lt {w : World} {g : Nat} {a b c d e : SL} (h : VBox w g a b c d e) : g < w.heap.size := row_lt h
theorem ab_ {w w' : World} {g : Nat} {a b c d e : SL} (h : VBox w g a b c d e) (hb : Below w.heap.size w w') : VBox w' g a b c d e := (hb.block _ (vbox_lt h)).trans h
theorem a2_ {w : World} {g : Nat} {a b c d e : SL} (h : VBox w g a b c d e) (a' b' c' d' e' : SL) : VBox (((((w.setCell ⟨g, 0, none⟩ (.slice a'.1 a'.2.1 a'.2.2)).setCell ⟨g, 1, none⟩ (.slice b'.1 b'.2.1 b'.2.2)).setCell ⟨g, 2, none⟩ (.slice c'.1 c'.2.1 c'.2.2)).setCell ⟨g, 3, none⟩ (.slice d'.1 d'.2.1 d'.2.2)).setCell ⟨g, 4, none⟩ (.slice e'.1 e'.2.1 e'.2.2)) g a' b' c' d' e' := by
 unfold VBox at *;simp [World.setCell, Array.getElem?_modify, h]
def HoldsV (w : World) (g : Nat) (V : Vw) : Prop := ∃ a b c d e : SL, VBox w g a b c d e ∧ RV w a b c d e V
theorem HoldsV.below {w w' : World} {g : Nat} {V : Vw} (h : HoldsV w g V) (hb : Below w.heap.size w w') : HoldsV w' g V := by
 obtain ⟨a, b, c, d, e, h1, h2⟩ := h;exact ⟨a, b, c, d, e, ab_ h1 hb, h2.below hb⟩
theorem RV.at_ {w : World} {a b c d e : SL} {V : Vw} (h : RV w a b c d e V) : VAt w (.agg #[.slice a.1 a.2.1 a.2.2, .slice b.1 b.2.1 b.2.2, .slice c.1 c.2.1 c.2.2, .slice d.1 d.2.1 d.2.2, .slice e.1 e.2.1 e.2.2]) V := ⟨a, b, c, d, e, rfl, h⟩
structure FitVIE (n : Nat) (V : Vw) : Prop where
 m : V.m.length ≤ n
 f : V.f.length ≤ n
 r : V.r.length ≤ n
 c : V.c.length ≤ n
 s : V.s.length ≤ n
 n : ∀ r ∈ V.r, r.2.2.length ≤ n
theorem FitVIE.mono {n k : Nat} {V : Vw} (h : FitVIE n V) (hk : n ≤ k) : FitVIE k V := ⟨Nat.le_trans h.m hk, Nat.le_trans h.f hk, Nat.le_trans h.r hk, Nat.le_trans h.c hk, Nat.le_trans h.s hk, fun r hr => Nat.le_trans (h.n r hr) hk⟩
def coreB (V U : Vw) : Bool := decide (V.m = U.m) && (sameB V.f U.f && (sameR V.r U.r && decide (V.c = U.c)))
set_option maxHeartbeats 4000000 in
theorem sameRows_is (v u : Value) (l m : List RowSets.Row) (w : World) (h : RowsAt w v l) (h2 : RowsAt w u m) (hl : l.length ≤ 100000) (sl : ∀ r ∈ l, r.2.2.length ≤ 40000) (sm : ∀ r ∈ m, r.2.2.length ≤ 40000) :
  Calls Tryz.prog 47 #[v, u] w fun e w' => e = .returned (.bool (sameR l m)) ∧ Below w.heap.size w w' := by
 have HI := hd_ h;have HJ := hd_ h2;have SL := hd_ sl;have SM := hd_ sm;clear h h2 sl sm;go_enter Tryz.func47, Tryz.ntmps47
 go_wp2_with fail;(with_reducible refine (equalW_any v u l m _ HI.out HJ.out hl SL.out SM.out).mono ?_)
 rintro e w1 ⟨rfl, hb⟩;have HB := hd_ hb;clear hb;generalize hz : sameR l m = z at *;have HZ := hd_ hz;clear hz;go_wp2_with fail;go_ret;exact ⟨af_ HZ.out.symm, HB.out⟩
set_option maxHeartbeats 4000000 in
theorem core_any (v u : Value) (V U : Vw) (w : World) (h : VAt w v V) (k : VAt w u U) (hV : FitVIE 1000 V) (hU : FitVIE 1000 U) :
  Calls Tryz.prog 25 #[v, u] w fun e w' => e = .returned (.bool (coreB V U)) ∧ Below w.heap.size w w' := by
 obtain ⟨a, b, c, d, e, rfl, hr⟩ := h;obtain ⟨a', b', c', d', e', rfl, kr⟩ := k;have X1 := hd_ (ab_ (ak_ w a b c d e) (ad_ _ (.cells #[.slice a'.1 a'.2.1 a'.2.2, .slice b'.1 b'.2.1 b'.2.2, .slice c'.1 c'.2.1 c'.2.2, .slice d'.1 d'.2.1 d'.2.2, .slice e'.1 e'.2.1 e'.2.2] 27)));have X2 : Hid (VBox ((w.alloc (.cells #[.slice a.1 a.2.1 a.2.2, .slice b.1 b.2.1 b.2.2, .slice c.1 c.2.1 c.2.2, .slice d.1 d.2.1 d.2.2, .slice e.1 e.2.1 e.2.2] 27)).alloc (.cells #[.slice a'.1 a'.2.1 a'.2.2, .slice b'.1 b'.2.1 b'.2.2, .slice c'.1 c'.2.1 c'.2.2, .slice d'.1 d'.2.1 d'.2.2, .slice e'.1 e'.2.1 e'.2.2] 27)) (w.heap.size + 1) a' b' c' d' e') := hd_ (by simpa using ak_ (w.alloc (.cells #[.slice a.1 a.2.1 a.2.2, .slice b.1 b.2.1 b.2.2, .slice c.1 c.2.1 c.2.2, .slice d.1 d.2.1 d.2.2, .slice e.1 e.2.1 e.2.2] 27)) a' b' c' d' e')
 have BB := hd_ (below_two w (.cells #[.slice a.1 a.2.1 a.2.2, .slice b.1 b.2.1 b.2.2, .slice c.1 c.2.1 c.2.2, .slice d.1 d.2.1 d.2.2, .slice e.1 e.2.1 e.2.2] 27) (.cells #[.slice a'.1 a'.2.1 a'.2.2, .slice b'.1 b'.2.1 b'.2.2, .slice c'.1 c'.2.1 c'.2.2, .slice d'.1 d'.2.1 d'.2.2, .slice e'.1 e'.2.1 e'.2.2] 27));have RA := hd_ (hr.below BB.out);have RB := hd_ (kr.below BB.out);clear hr kr;obtain ⟨p0, p1, p2, p3, p4⟩ := aa_ X1.out;obtain ⟨q0, q1, q2, q3, q4⟩ := aa_ X2.out;have HE : Hid (coreB V U = (decide (V.m = U.m) && (sameB V.f U.f && (sameR V.r U.r && decide (V.c = U.c))))) := hd_ rfl
 have LV := hd_ hV;have LU := hd_ hU;clear hV hU;go_enter Tryz.func25, Tryz.ntmps25
 go_wp2_with fail;(with_reducible refine (sameM_is _ _ V.m U.m _ RA.out.m RB.out.m (Nat.le_trans LV.out.m (by decide))).mono ?_)
 rintro e1 w1 ⟨rfl, hb⟩;have B1 := hd_ (ba_ BB.out hb);have P1 := hd_ (ab_ X1.out hb);have Q1 := hd_ (ab_ X2.out hb);have R1 := hd_ (RA.out.below hb);have S1 := hd_ (RB.out.below hb);clear hb p0 p1 p2 p3 p4 q0 q1 q2 q3 q4 BB X1 X2 RA RB;obtain ⟨p0, p1, p2, p3, p4⟩ := aa_ P1.out;obtain ⟨q0, q1, q2, q3, q4⟩ := aa_ Q1.out;generalize decide (V.m = U.m) = y1 at *;cases y1
 ·go_wp2_with fail
  go_ret;exact ⟨af_ (by rw [HE.out]; rfl), B1.out⟩
 ·go_wp2_with fail
  with_reducible refine (equal_any _ _ V.f U.f _ R1.out.f S1.out.f (Nat.le_trans LV.out.f (by decide))).mono ?_
  rintro e2 w2 ⟨rfl, hb⟩;have B2 := hd_ (ba_ B1.out hb);have P2 := hd_ (ab_ P1.out hb);have Q2 := hd_ (ab_ Q1.out hb);have R2 := hd_ (R1.out.below hb);have S2 := hd_ (S1.out.below hb);clear hb p0 p1 p2 p3 p4 q0 q1 q2 q3 q4 B1 P1 Q1 R1 S1;obtain ⟨p0, p1, p2, p3, p4⟩ := aa_ P2.out;obtain ⟨q0, q1, q2, q3, q4⟩ := aa_ Q2.out;generalize sameB V.f U.f = y2 at *;cases y2
  ·go_wp2_with fail
   go_ret;exact ⟨af_ (by rw [HE.out]; rfl), B2.out⟩
  ·go_wp2_with fail
   with_reducible refine (sameRows_is _ _ V.r U.r _ R2.out.r S2.out.r (Nat.le_trans LV.out.r (by decide)) (fun r hr => Nat.le_trans (LV.out.n r hr) (by decide)) (fun r hr => Nat.le_trans (LU.out.n r hr) (by decide))).mono ?_
   rintro e3 w3 ⟨rfl, hb⟩;have B3 := hd_ (ba_ B2.out hb);have P3 := hd_ (ab_ P2.out hb);have Q3 := hd_ (ab_ Q2.out hb);have R3 := hd_ (R2.out.below hb);have S3 := hd_ (S2.out.below hb);clear hb p0 p1 p2 p3 p4 q0 q1 q2 q3 q4 B2 P2 Q2 R2 S2;obtain ⟨p0, p1, p2, p3, p4⟩ := aa_ P3.out;obtain ⟨q0, q1, q2, q3, q4⟩ := aa_ Q3.out;generalize sameR V.r U.r = y3 at *;cases y3
   ·go_wp2_with fail
    go_ret;exact ⟨af_ (by rw [HE.out]; rfl), B3.out⟩
   ·go_wp2_with fail
    with_reducible refine (equalT_any _ _ V.c U.c _ R3.out.c S3.out.c (Nat.le_trans LV.out.c (by decide))).mono ?_
    rintro e4 w4 ⟨rfl, hb⟩;have B4 := hd_ (ba_ B3.out hb);have P4 := hd_ (ab_ P3.out hb);have Q4 := hd_ (ab_ Q3.out hb);have R4 := hd_ (R3.out.below hb);have S4 := hd_ (S3.out.below hb);clear hb p0 p1 p2 p3 p4 q0 q1 q2 q3 q4 B3 P3 Q3 R3 S3;obtain ⟨p0, p1, p2, p3, p4⟩ := aa_ P4.out;obtain ⟨q0, q1, q2, q3, q4⟩ := aa_ Q4.out;generalize decide (V.c = U.c) = y4 at *;go_wp2_with fail;go_ret;exact ⟨af_ (by rw [HE.out]; rfl), B4.out⟩
set_option maxHeartbeats 4000000 in
theorem copiedI_any (v : Value) (l : List Sets.Id2) (w : World) (h : Ids w v l) (hl : l.length ≤ 40000) :
  Calls Tryz.prog 73 #[v] w fun e w' => ∃ X, e = .returned X ∧ Ids w' X l ∧ Below w.heap.size w w' := by
 have q23 : ∀ (w : World) (a : Option Addr) (n c n' c' : Nat), (binOp .eql 23 (.slice a n c) (.slice none n' c')).run Tryz.prog w = .ok (.bool a.isNone) w := fun w a n c n' c' => Lib.run_eql_slice_nil w _ _ a n c n' c' Tryz.underlying23
 have HI := hd_ h;obtain ⟨A, c, rfl, hz, hy⟩ := h;clear hy;cases A with
 | none =>
  obtain rfl := hz rfl
  have hn : l.length = 0 := by
   obtain ⟨_, _, hv, h0, h1, _⟩ := HI.out;injection hv with e1 e2 e3
   have := h0 e1.symm
   omega
  have hn : l = [] := List.eq_nil_of_length_eq_zero hn
  subst hn;go_enter Tryz.func73, Tryz.ntmps73
  go_wp2_with fail;go_ret;exact ⟨_, rfl, HI.out, Below.refl _ _⟩
 | some ad =>
  clear hz;go_enter Tryz.func73, Tryz.ntmps73
  go_wp2_with first
   | (at_make; refine wpList_make_room _ rfl (.tmp 6) rfl _ rfl (by omega) (by omega) ?_; intro v2 w2 h1 h2; have HO := hd_ h1; have H2 := hd_ h2; have HK := hd_ (HI.out.below h2); have HZ := hd_ h2.size; clear h1 h2)
   | (at_builtin; refine wpList_append_list rfl (.tmp 7) (.tmp 8) rfl _ w.heap.size v2 _ [] l rfl rfl HO.out HK.out (by simp; omega) HZ.out ?_; intro v3 w3 h1 h2; have HP := hd_ h1; have H3 := hd_ (H2.out.trans h2); clear h1 h2)
  go_ret;exact ⟨_, rfl, ids_of_owns HP.out, H3.out⟩
def seenV (V U : Vw) : List Sets.Id2 := if Clocks.cmp V.c U.c = 1 then Sets.join V.s U.s else if Clocks.cmp V.c U.c = 2 then U.s else if Clocks.cmp V.c U.c = 3 then V.s else []
set_option maxHeartbeats 4000000 in
theorem seen_any (v u : Value) (V U : Vw) (w : World) (h : VAt w v V) (k : VAt w u U) (hV : FitVIE 1000 V) (hU : FitVIE 1000 U) :
  Calls Tryz.prog 60 #[v, u] w fun e w' => ∃ X, e = .returned X ∧ Ids w' X (seenV V U) ∧ Below w.heap.size w w' := by
 obtain ⟨a, b, c, d, e, rfl, hr⟩ := h;obtain ⟨a', b', c', d', e', rfl, kr⟩ := k;have X1 := hd_ (ab_ (ak_ w a b c d e) (ad_ _ (.cells #[.slice a'.1 a'.2.1 a'.2.2, .slice b'.1 b'.2.1 b'.2.2, .slice c'.1 c'.2.1 c'.2.2, .slice d'.1 d'.2.1 d'.2.2, .slice e'.1 e'.2.1 e'.2.2] 27)));have X2 : Hid (VBox ((w.alloc (.cells #[.slice a.1 a.2.1 a.2.2, .slice b.1 b.2.1 b.2.2, .slice c.1 c.2.1 c.2.2, .slice d.1 d.2.1 d.2.2, .slice e.1 e.2.1 e.2.2] 27)).alloc (.cells #[.slice a'.1 a'.2.1 a'.2.2, .slice b'.1 b'.2.1 b'.2.2, .slice c'.1 c'.2.1 c'.2.2, .slice d'.1 d'.2.1 d'.2.2, .slice e'.1 e'.2.1 e'.2.2] 27)) (w.heap.size + 1) a' b' c' d' e') := hd_ (by simpa using ak_ (w.alloc (.cells #[.slice a.1 a.2.1 a.2.2, .slice b.1 b.2.1 b.2.2, .slice c.1 c.2.1 c.2.2, .slice d.1 d.2.1 d.2.2, .slice e.1 e.2.1 e.2.2] 27)) a' b' c' d' e')
 have BB := hd_ (below_two w (.cells #[.slice a.1 a.2.1 a.2.2, .slice b.1 b.2.1 b.2.2, .slice c.1 c.2.1 c.2.2, .slice d.1 d.2.1 d.2.2, .slice e.1 e.2.1 e.2.2] 27) (.cells #[.slice a'.1 a'.2.1 a'.2.2, .slice b'.1 b'.2.1 b'.2.2, .slice c'.1 c'.2.1 c'.2.2, .slice d'.1 d'.2.1 d'.2.2, .slice e'.1 e'.2.1 e'.2.2] 27));have RA := hd_ (hr.below BB.out);have RB := hd_ (kr.below BB.out);clear hr kr;obtain ⟨p0, p1, p2, p3, p4⟩ := aa_ X1.out;obtain ⟨q0, q1, q2, q3, q4⟩ := aa_ X2.out;have HE : Hid (seenV V U = if Clocks.cmp V.c U.c = 1 then Sets.join V.s U.s else if Clocks.cmp V.c U.c = 2 then U.s else if Clocks.cmp V.c U.c = 3 then V.s else []) := hd_ rfl
 have LV := hd_ hV;have LU := hd_ hU;clear hV hU;go_enter Tryz.func60, Tryz.ntmps60
 go_wp2_with fail;(with_reducible refine (compare_clocks _ _ V.c U.c _ RA.out.c RB.out.c (Nat.le_trans LV.out.c (by decide)) (Nat.le_trans LU.out.c (by decide))).mono ?_)
 rintro e1 w1 ⟨rfl, hb⟩;have B1 := hd_ (ba_ BB.out hb);have P1 := hd_ (ab_ X1.out hb);have Q1 := hd_ (ab_ X2.out hb);have R1 := hd_ (RA.out.below hb);have S1 := hd_ (RB.out.below hb);clear hb p0 p1 p2 p3 p4 q0 q1 q2 q3 q4 BB X1 X2 RA RB;obtain ⟨p0, p1, p2, p3, p4⟩ := aa_ P1.out;obtain ⟨q0, q1, q2, q3, q4⟩ := aa_ Q1.out;generalize Clocks.cmp V.c U.c = z at *;by_cases h1 : z = 1
 ·subst h1
  rw [if_pos rfl] at HE;go_wp2_with fail;(with_reducible refine (join_any _ _ V.s U.s _ R1.out.s S1.out.s (Nat.le_trans LV.out.s (by decide)) (Nat.le_trans LU.out.s (by decide))).mono ?_)
  rintro e2 w2 ⟨X, rfl, hx, hb⟩;have B2' := hd_ (ba_ B1.out hb)
  have HX := hd_ hx;clear hb hx p0 p1 p2 p3 p4 q0 q1 q2 q3 q4;go_wp2_with fail;go_ret;exact ⟨_, rfl, by rw [HE.out]; exact HX.out, B2'.out⟩
 ·have n1 : ((z : Int) == 1) = false := by simp; omega
  rw [if_neg h1] at HE;clear h1;by_cases h2 : z = 2
  ·subst h2
   rw [if_pos rfl] at HE;go_wp2_with fail;(with_reducible refine (copiedI_any _ U.s _ S1.out.s (Nat.le_trans LU.out.s (by decide))).mono ?_)
   rintro e2 w2 ⟨X, rfl, hx, hb⟩;have B2' := hd_ (ba_ B1.out hb)
   have HX := hd_ hx;clear hb hx p0 p1 p2 p3 p4 q0 q1 q2 q3 q4;go_wp2_with fail;go_ret;exact ⟨_, rfl, by rw [HE.out]; exact HX.out, B2'.out⟩
  ·have n2 : ((z : Int) == 2) = false := by simp; omega
   rw [if_neg h2] at HE;clear h2;by_cases h3 : z = 3
   ·subst h3
    rw [if_pos rfl] at HE;go_wp2_with fail;(with_reducible refine (copiedI_any _ V.s _ R1.out.s (Nat.le_trans LV.out.s (by decide))).mono ?_)
    rintro e2 w2 ⟨X, rfl, hx, hb⟩;have B2' := hd_ (ba_ B1.out hb)
    have HX := hd_ hx;clear hb hx p0 p1 p2 p3 p4 q0 q1 q2 q3 q4;go_wp2_with fail;go_ret;exact ⟨_, rfl, by rw [HE.out]; exact HX.out, B2'.out⟩
   ·have n3 : ((z : Int) == 3) = false := by simp; omega
    rw [if_neg h3] at HE;clear h3;go_wp2_with fail;go_ret;exact ⟨_, rfl, by rw [HE.out]; exact Ids.nil _, B1.out⟩
theorem badS_asks : AsksI 109 #[] badI (fun _ => True) where
 enters := fun args W => enters_fn Tryz.func109 (by kernel_rfl) rfl args W
 kept _ _ _ _ := trivial
 call a i W _ := by
  have HB := hd_ (ad_ W (.cells #[.int .i64 a, .int .i64 i] 29));have HN : Hid (badI (a, i) = !vidROW a i) := hd_ rfl
  have HC := hd_ fun W => may_any a i W
  generalize badI (a, i) = z at *;generalize vidROW a i = y at *;have HE := hd_ HN.out.symm;clear HN;go_enter Tryz.func109, Tryz.ntmps109
  go_wp2_with fail;refine (HC.out _).mono ?_
  rintro e w1 ⟨rfl, hb⟩;have H1 := hd_ (ba_ HB.out hb);clear hb;go_wp2_with fail;go_ret;exact ⟨af_ HE.out, H1.out⟩
theorem containsS_any (v : Value) (l : List Sets.Id2) (w : World) (h : Ids w v l) (hl : l.length ≤ 100000) :
  Calls Tryz.prog 108 #[v, .func (.func 109) #[] #[]] w fun e w' => e = .returned (.bool (l.any badI)) ∧ Below w.heap.size w w' := by
 have HI := hd_ h;clear h;go_enter Tryz.func108, Tryz.ntmps108
 go_wp2_with fail;refine (indexI_any badS_asks v l _ HI.out trivial hl).mono ?_
 rintro e w1 ⟨⟨r, rfl, hr⟩, hb⟩;have HR := hd_ (foundP_any hr);have HB := hd_ hb;clear hr hb;go_wp2_with fail;go_ret;exact ⟨af_ HR.out, HB.out⟩
def maySB (l : List Sets.Id2) : Bool := risesB l && !l.any badI
theorem maySeen_any (v : Value) (l : List Sets.Id2) (w : World) (h : Ids w v l) (hl : l.length ≤ 100000) :
  Calls Tryz.prog 49 #[v] w fun e w' => e = .returned (.bool (maySB l)) ∧ Below w.heap.size w w' := by
 have HI := hd_ h;have HE : Hid (maySB l = (risesB l && !l.any badI)) := hd_ rfl
 clear h;generalize maySB l = z0 at *;go_enter Tryz.func49, Tryz.ntmps49
 go_wp2_with fail;(with_reducible refine (rising_any v l _ HI.out hl).mono ?_)
 rintro e w1 ⟨rfl, hb⟩;have HB := hd_ hb;have H1 := hd_ (HI.out.below hb);clear hb HI;generalize risesB l = y at *;cases y
 ·go_wp2_with fail
  go_ret;exact ⟨af_ (by rw [HE.out]; rfl), HB.out⟩
 ·go_wp2_with fail
  with_reducible refine (containsS_any v l _ H1.out hl).mono ?_
  rintro e w2 ⟨rfl, hb⟩;have H2 := hd_ (ba_ HB.out hb);clear hb;generalize l.any badI = x at *;go_wp2_with fail;go_ret;exact ⟨af_ (by rw [HE.out]; rfl), H2.out⟩
end
end Go.Proofs.YthkkipbmlafdiaaGreat
