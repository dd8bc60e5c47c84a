/-
  Contracts and plain facts.
-/
import Derived.Test.YthkkipbmlafdiaaGreatB18
import Derived.Test.YthkkipbmlafdiaaGreatB31
set_option maxRecDepth 20000
namespace Go.Proofs.YthkkipbmlafdiaaGreat
section
open Go Go.RowKit
theorem keepN_more {f g : List Sets.Id2} (h : ∀ x, RowSets.rem f x = true → RowSets.rem g x = true) (l : List Sets.Id2) : RowSets.keepN g (RowSets.keepN f l) = RowSets.keepN g l := by
 unfold RowSets.keepN;rw [List.filter_filter];congr 1
 funext x
 by_cases e : RowSets.rem f x = true
 ·rw [e, h x e]; rfl
 ·simp [e]
theorem gone_more {f g : List Sets.Id2} (h : ∀ x, RowSets.rem f x = true → RowSets.rem g x = true) (l : List RowSets.Row) : RowSets.gone g (RowSets.gone f l) = RowSets.gone g l := by
 unfold RowSets.gone;rw [List.filter_map, List.map_map, List.filter_filter];congr 1
 ·funext r
  simp only [Function.comp, keepN_more h]
 ·congr 1
  funext r
  by_cases e : RowSets.rem f r.1 = true
  ·simp [Function.comp, e, h r.1 e]
  ·simp [Function.comp, e]
theorem floor_got {f : List Sets.Id2} {a : Int} (h : 0 < Ros.floorZ f a) : ∃ g ∈ f, g.1 = a ∧ g.2 = Ros.floorZ f a := by
 induction f with
 | nil => exact absurd (show (0 : Int) < 0 from h) (by decide)
 | cons x l ih =>
  rw [Ros.floorZ_cons] at h ⊢;by_cases e : x.1 = a
  ·rw [if_pos e] at h ⊢
   rcases Int.lt_or_le (Ros.floorZ l a) x.2 with h1 | h1
   ·exact ⟨x, List.mem_cons_self .., e, by omega⟩
   ·obtain ⟨g, h2, h3, h4⟩ := ih (by omega)
    exact ⟨g, List.mem_cons_of_mem _ h2, h3, by omega⟩
  ·rw [if_neg e] at h ⊢
   obtain ⟨g, h2, h3, h4⟩ := ih h;exact ⟨g, List.mem_cons_of_mem _ h2, h3, h4⟩
theorem rem_up {a b : Ros.Ls} {f : List Sets.Id2} (hf : f = a.2 ∨ f = b.2) (hv : ∀ x ∈ f, Ros.vidP x = true) (x : Sets.Id2) (h : RowSets.rem f x = true) : RowSets.rem (Ros.joinL a b).2 x = true := by
 unfold RowSets.rem at h;obtain ⟨g, hg, h2⟩ := List.any_eq_true.1 h;rw [Bool.and_eq_true] at h2;have e1 := of_decide_eq_true h2.1;have e2 := of_decide_eq_true h2.2;have hn := Ros.never_floor (la := a) (lb := b) (g := g) (by rcases hf with rfl | rfl; exact .inl hg; exact .inr hg) (hv g hg)
 have hp := (Ros.vid_iff.1 (hv g hg)).2.2.1;obtain ⟨k, hk, h3, h4⟩ := floor_got (f := (Ros.joinL a b).2) (a := g.1) (by omega)
 unfold RowSets.rem;refine List.any_eq_true.2 ⟨k, hk, ?_⟩
 rw [Bool.and_eq_true];exact ⟨decide_eq_true (h3.trans e1), decide_eq_true (by omega)⟩
structure OkV (V : Vw) : Prop where
 ma : Ros.mayB V.m V.f = true
 nr : RowSets.Norm V.r
 gr : RowSets.gone V.f V.r = V.r
 nc : Clocks.Norm V.c
theorem OkV.floors {V : Vw} (h : OkV V) : ∀ x ∈ V.f, Ros.vidP x = true := fun x hx => (Ros.valid_of h.ma).fv x hx
structure SameC (V U : Vw) : Prop where
 m : V.m = U.m
 f : V.f = U.f
 r : V.r = U.r
 c : V.c = U.c
theorem SameC.refl (V : Vw) : SameC V V := ⟨rfl, rfl, rfl, rfl⟩
theorem SameC.symm {V U : Vw} (h : SameC V U) : SameC U V := ⟨h.m.symm, h.f.symm, h.r.symm, h.c.symm⟩
theorem SameC.trans {V U T : Vw} (h : SameC V U) (k : SameC U T) : SameC V T := ⟨h.m.trans k.m, h.f.trans k.f, h.r.trans k.r, h.c.trans k.c⟩
theorem joinV_same {V V' U U' : Vw} (h : SameC V V') (k : SameC U U') : SameC (joinV V U) (joinV V' U') := by
 have e1 : (V.m, V.f) = (V'.m, V'.f) := by rw [h.m, h.f]
 have e2 : (U.m, U.f) = (U'.m, U'.f) := by rw [k.m, k.f]
 refine ⟨?_, ?_, ?_, ?_⟩
 ·show (Ros.joinL (V.m, V.f) (U.m, U.f)).1 = (Ros.joinL (V'.m, V'.f) (U'.m, U'.f)).1
  rw [e1, e2]
 ·show (Ros.joinL (V.m, V.f) (U.m, U.f)).2 = (Ros.joinL (V'.m, V'.f) (U'.m, U'.f)).2
  rw [e1, e2]
 ·show RowSets.gone (Ros.joinL (V.m, V.f) (U.m, U.f)).2 (RowSets.joinR V.r U.r) = RowSets.gone (Ros.joinL (V'.m, V'.f) (U'.m, U'.f)).2 (RowSets.joinR V'.r U'.r)
  rw [e1, e2, h.r, k.r]
 ·show Clocks.joinC V.c U.c = Clocks.joinC V'.c U'.c
  rw [h.c, k.c]
theorem joinV_comm (V U : Vw) : SameC (joinV V U) (joinV U V) := by
 refine ⟨?_, ?_, ?_, ?_⟩
 ·show (Ros.joinL (V.m, V.f) (U.m, U.f)).1 = (Ros.joinL (U.m, U.f) (V.m, V.f)).1
  rw [Ros.joinL_comm]
 ·show (Ros.joinL (V.m, V.f) (U.m, U.f)).2 = (Ros.joinL (U.m, U.f) (V.m, V.f)).2
  rw [Ros.joinL_comm]
 ·show RowSets.gone (Ros.joinL (V.m, V.f) (U.m, U.f)).2 (RowSets.joinR V.r U.r) = RowSets.gone (Ros.joinL (U.m, U.f) (V.m, V.f)).2 (RowSets.joinR U.r V.r)
  rw [Ros.joinL_comm, RowSets.joinR_comm]
 ·exact Clocks.join_comm _ _
theorem joinV_self {V : Vw} (h : OkV V) : SameC (joinV V V) V := by
 have e := Ros.valid_self (a := (V.m, V.f)) h.ma;refine ⟨?_, ?_, ?_, ?_⟩
 ·show (Ros.joinL (V.m, V.f) (V.m, V.f)).1 = V.m
  rw [e]
 ·show (Ros.joinL (V.m, V.f) (V.m, V.f)).2 = V.f
  rw [e]
 ·show RowSets.gone (Ros.joinL (V.m, V.f) (V.m, V.f)).2 (RowSets.joinR V.r V.r) = V.r
  rw [e, RowSets.joinR_self h.nr];exact h.gr
 ·exact Clocks.join_self h.nc
theorem okV_join {V U : Vw} (h : OkV V) (k : OkV U) : OkV (joinV V U) where
 ma := Ros.valid_join (a := (V.m, V.f)) (b := (U.m, U.f)) h.ma k.ma
 nr := by
  have h1 := RowSets.norm_joinR h.nr k.nr;refine ⟨RowSets.up_gone _ h1.1, fun r hr => ?_⟩
  have hr : r ∈ RowSets.gone (Ros.joinL (V.m, V.f) (U.m, U.f)).2 (RowSets.joinR V.r U.r) := hr
  unfold RowSets.gone at hr;obtain ⟨s, hs, rfl⟩ := List.mem_map.1 hr;exact RowSets.rises_keepN (h1.2 s (List.mem_filter.1 hs).1)
 gr := RowSets.gone_gone _ _
 nc := Clocks.norm_join _ _
theorem joinV_assoc {V U T : Vw} (h : OkV V) (k : OkV U) (t : OkV T) : SameC (joinV (joinV V U) T) (joinV V (joinV U T)) := by
 have hA := Ros.joinL_assoc (V.m, V.f) (U.m, U.f) (T.m, T.f);have hVU := okV_join h k;have hUT := okV_join k t;refine ⟨?_, ?_, ?_, Clocks.join_assoc _ _ _⟩
 ·show (Ros.joinL (Ros.joinL (V.m, V.f) (U.m, U.f)) (T.m, T.f)).1 = (Ros.joinL (V.m, V.f) (Ros.joinL (U.m, U.f) (T.m, T.f))).1
  rw [hA]
 ·show (Ros.joinL (Ros.joinL (V.m, V.f) (U.m, U.f)) (T.m, T.f)).2 = (Ros.joinL (V.m, V.f) (Ros.joinL (U.m, U.f) (T.m, T.f))).2
  rw [hA]
 ·have e1 := gone_more (f := (Ros.joinL (V.m, V.f) (U.m, U.f)).2) (g := (Ros.joinL (Ros.joinL (V.m, V.f) (U.m, U.f)) (T.m, T.f)).2) (rem_up (.inl rfl) hVU.floors) (RowSets.joinR V.r U.r)
  have e2 := gone_more (f := (Ros.joinL (U.m, U.f) (T.m, T.f)).2) (g := (Ros.joinL (V.m, V.f) (Ros.joinL (U.m, U.f) (T.m, T.f))).2) (rem_up (.inr rfl) hUT.floors) (RowSets.joinR U.r T.r);show RowSets.gone (Ros.joinL (Ros.joinL (V.m, V.f) (U.m, U.f)) (T.m, T.f)).2 (RowSets.joinR (RowSets.gone (Ros.joinL (V.m, V.f) (U.m, U.f)).2 (RowSets.joinR V.r U.r)) T.r) = RowSets.gone (Ros.joinL (V.m, V.f) (Ros.joinL (U.m, U.f) (T.m, T.f))).2 (RowSets.joinR V.r (RowSets.gone (Ros.joinL (U.m, U.f) (T.m, T.f)).2 (RowSets.joinR U.r T.r)))
  rw [RowSets.gone_join, e1, ← RowSets.gone_join, RowSets.gone_join _ V.r, e2, ← RowSets.gone_join, RowSets.joinR_assoc, hA]
theorem may_normT {l : List Clocks.Tick} (h : mayBCLK l = true) : Clocks.Norm l := by
 unfold mayBCLK at h;rw [Bool.and_eq_true, Bool.and_eq_true, List.all_eq_true] at h;refine ⟨(risesT_iff l).1 h.2.2, fun t ht => ?_⟩
 have h2 := h.2.1 t ht;unfold okT at h2;rw [Bool.and_eq_true, Bool.and_eq_true] at h2;have := of_decide_eq_true h2.2.1
 omega
theorem sameW_eq {r s : RowSets.Row} (h : sameW r s = true) (hr : Sets.Rises r.2.2) (hs : Sets.Rises s.2.2) : r = s := by
 unfold sameW at h;rw [Bool.and_eq_true, Bool.and_eq_true, Bool.and_eq_true] at h;obtain ⟨h1, h2, h3, h4⟩ := h;have h4 : Sets.setOf r.2.2 = Sets.setOf s.2.2 := by unfold sameB at h4; exact of_decide_eq_true h4
 rw [Sets.setOf_self hr, Sets.setOf_self hs] at h4;exact Prod.ext (Prod.ext (of_decide_eq_true h1) (of_decide_eq_true h2)) (Prod.ext (of_decide_eq_true h3) h4)
theorem sameR_eq : ∀ {l m : List RowSets.Row}, sameR l m = true → (∀ r ∈ l, Sets.Rises r.2.2) → (∀ r ∈ m, Sets.Rises r.2.2) → l = m
 | [], [], _, _, _ => rfl
 | [], _ :: _, h, _, _ => by cases h
 | _ :: _, [], h, _, _ => by cases h
 | r :: l, s :: m, h, hl, hm => by
  rw [sameR, Bool.and_eq_true] at h;rw [sameW_eq h.1 (hl r (List.mem_cons_self ..)) (hm s (List.mem_cons_self ..)), sameR_eq h.2 (fun x hx => hl x (List.mem_cons_of_mem _ hx)) (fun x hx => hm x (List.mem_cons_of_mem _ hx))]
theorem gone_rises {f : List Sets.Id2} {l : List RowSets.Row} (h : ∀ r ∈ l, Sets.Rises r.2.2) : ∀ r ∈ RowSets.gone f l, Sets.Rises r.2.2 := fun r hr => by
 unfold RowSets.gone at hr;obtain ⟨s, hs, rfl⟩ := List.mem_map.1 hr;exact RowSets.rises_keepN (h s (List.mem_filter.1 hs).1)
theorem okV_of {V : Vw} (h : mayV V = true) : OkV V := by
 unfold mayV at h;rw [Bool.and_eq_true, Bool.and_eq_true, Bool.and_eq_true, Bool.and_eq_true] at h;obtain ⟨h1, h2, h3, h4, _⟩ := h;have hn := may_norm ((may_iff _).1 h2);exact ⟨h1, hn, (sameR_eq h4 hn.2 (gone_rises hn.2)).symm, may_normT h3⟩
theorem core_same {V U : Vw} (h : coreB V U = true) (hV : RowSets.Norm V.r) (hU : RowSets.Norm U.r) : SameC V U := by
 unfold coreB at h;rw [Bool.and_eq_true, Bool.and_eq_true, Bool.and_eq_true] at h;obtain ⟨h1, h2, h3, h4⟩ := h;exact ⟨of_decide_eq_true h1, by unfold sameB at h2; exact of_decide_eq_true h2, sameR_eq h3 hV.2 hU.2, of_decide_eq_true h4⟩
theorem sameW_self (r : RowSets.Row) : sameW r r = true := by
 unfold sameW sameB;simp
theorem sameR_self : ∀ l : List RowSets.Row, sameR l l = true
 | [] => rfl
 | r :: l => by rw [sameR, sameW_self, sameR_self l]; rfl
theorem same_core {V U : Vw} (h : SameC V U) : coreB V U = true := by
 unfold coreB sameB;rw [h.m, h.f, h.r, h.c, sameR_self];simp
end
section
open Go Go.RowKit
def Le (V U : Vw) : Prop := SameC (joinV U V) U
theorem le_same {V V' U U' : Vw} (h : Le V U) (a : SameC V V') (b : SameC U U') : Le V' U' := (joinV_same b.symm a.symm).trans (h.trans b)
theorem le_refl {V : Vw} (h : OkV V) : Le V V := joinV_self h
theorem le_trans {V U T : Vw} (hV : OkV V) (hU : OkV U) (hT : OkV T) (h : Le V U) (k : Le U T) : Le V T :=
 -- T ∪ V = (T ∪ U) ∪ V = T ∪ (U ∪ V) = T ∪ U = T
 ((joinV_same k.symm (SameC.refl V)).trans (joinV_assoc hT hU hV)).trans ((joinV_same (SameC.refl T) h).trans k)
theorem le_antisymm {V U : Vw} (h : Le V U) (k : Le U V) : SameC V U := (k.symm.trans (joinV_comm V U)).trans h
theorem le_left {V U : Vw} (h : OkV V) (k : OkV U) : Le V (joinV V U) :=
 (joinV_comm _ _).trans ((joinV_assoc h h k).symm.trans (joinV_same (joinV_self h) (SameC.refl U)))
theorem le_right {V U : Vw} (h : OkV V) (k : OkV U) : Le U (joinV V U) := (joinV_assoc h k k).trans (joinV_same (SameC.refl V) (joinV_self k))
theorem join_le {V U T : Vw} (hV : OkV V) (hU : OkV U) (hT : OkV T) (h : Le V T) (k : Le U T) : Le (joinV V U) T :=
 (joinV_assoc hT hV hU).symm.trans ((joinV_same h (SameC.refl U)).trans k)
theorem okV_same {V U : Vw} (h : OkV V) (a : SameC V U) : OkV U := by
 obtain ⟨m, f, r, c, s⟩ := V;obtain ⟨m', f', r', c', s'⟩ := U;obtain ⟨e1, e2, e3, e4⟩ := a;dsimp only at e1 e2 e3 e4;subst e1 e2 e3 e4;exact ⟨h.ma, h.nr, h.gr, h.nc⟩
def J4 (c : Nat → Vw) : Vw := joinV (joinV (c 0) (c 1)) (joinV (c 2) (c 3))
theorem ok_four {c : Nat → Vw} (h : ∀ k, k < 4 → OkV (c k)) : OkV (J4 c) := okV_join (okV_join (h 0 (by omega)) (h 1 (by omega))) (okV_join (h 2 (by omega)) (h 3 (by omega)))
theorem le_four {c : Nat → Vw} (h : ∀ k, k < 4 → OkV (c k)) {k : Nat} (hk : k < 4) : Le (c k) (J4 c) := by
 have h0 := h 0 (by omega)
 have h1 := h 1 (by omega)
 have h2 := h 2 (by omega)
 have h3 := h 3 (by omega)
 have a := okV_join h0 h1;have b := okV_join h2 h3;have t := okV_join a b;match k, hk with
 | 0, _ => exact le_trans h0 a t (le_left h0 h1) (le_left a b)
 | 1, _ => exact le_trans h1 a t (le_right h0 h1) (le_left a b)
 | 2, _ => exact le_trans h2 b t (le_left h2 h3) (le_right a b)
 | 3, _ => exact le_trans h3 b t (le_right h2 h3) (le_right a b)
theorem four_le {c : Nat → Vw} {T : Vw} (h : ∀ k, k < 4 → OkV (c k)) (hT : OkV T) (hl : ∀ k, k < 4 → Le (c k) T) : Le (J4 c) T :=
 join_le (okV_join (h 0 (by omega)) (h 1 (by omega))) (okV_join (h 2 (by omega)) (h 3 (by omega))) hT
  (join_le (h 0 (by omega)) (h 1 (by omega)) hT (hl 0 (by omega)) (hl 1 (by omega)))
  (join_le (h 2 (by omega)) (h 3 (by omega)) hT (hl 2 (by omega)) (hl 3 (by omega)))
def nid (k : Nat) : Sets.Id2 := ((k : Int) + 1, 1)
def cnt_ (V : Vw) (k : Nat) : Nat := (Clocks.says V.c (nid k)).toNat
theorem cnt_says (V : Vw) (k : Nat) : ((cnt_ V k : Nat) : Int) = Clocks.says V.c (nid k) := by
 unfold cnt_;have := Clocks.says_pos V.c (nid k)
 omega
structure Told (n : Nat → Nat) (chg : Nat → Nat → Vw) (V : Vw) : Prop where
 ok : OkV V
 le : ∀ k, k < 4 → cnt_ V k ≤ n k
 rep : SameC V (J4 fun k => chg k (cnt_ V k))
structure Chgs (n : Nat → Nat) (chg : Nat → Nat → Vw) : Prop where
 ok : ∀ k i, k < 4 → i ≤ n k → OkV (chg k i)
 mono : ∀ k i j, k < 4 → i ≤ j → j ≤ n k → Le (chg k i) (chg k j)
theorem Told.four {n : Nat → Nat} {chg : Nat → Nat → Vw} {V : Vw} (h : Told n chg V) (hc : Chgs n chg) : ∀ k, k < 4 → OkV (chg k (cnt_ V k)) := fun k hk => hc.ok k _ hk (h.le k hk)
theorem one_clock {n : Nat → Nat} {chg : Nat → Nat → Vw} {V U : Vw} (hV : Told n chg V) (hU : Told n chg U) (h : ∀ k, k < 4 → cnt_ V k = cnt_ U k) : SameC V U := by
 have e : J4 (fun k => chg k (cnt_ V k)) = J4 fun k => chg k (cnt_ U k) := by
  unfold J4;dsimp only;rw [h 0 (by omega), h 1 (by omega), h 2 (by omega), h 3 (by omega)]
 have a := hV.rep;rw [e] at a;exact a.trans hU.rep.symm
theorem clock_le {n : Nat → Nat} {chg : Nat → Nat → Vw} {V U : Vw} (hc : Chgs n chg) (hV : Told n chg V) (hU : Told n chg U) (h : ∀ k, k < 4 → cnt_ V k ≤ cnt_ U k) : Le V U := by
 refine le_same (four_le (hV.four hc) hU.ok fun k hk => ?_) hV.rep.symm (SameC.refl U)
 have h1 : Le (chg k (cnt_ U k)) U := le_same (le_four (hU.four hc) hk) (SameC.refl _) hU.rep.symm
 exact le_trans (hV.four hc k hk) (hU.four hc k hk) hU.ok (hc.mono k _ _ hk (h k hk) (hU.le k hk)) h1
theorem cnt_join (V U : Vw) (k : Nat) : cnt_ (joinV V U) k = max (cnt_ V k) (cnt_ U k) := by
 have h1 := cnt_says V k;have h2 := cnt_says U k;have h3 := cnt_says (joinV V U) k;have h4 : Clocks.says (joinV V U).c (nid k) = max (Clocks.says V.c (nid k)) (Clocks.says U.c (nid k)) := Clocks.says_join _ _ _
 omega
theorem told_join {n : Nat → Nat} {chg : Nat → Nat → Vw} {V U : Vw} (hc : Chgs n chg) (hV : Told n chg V) (hU : Told n chg U) : Told n chg (joinV V U) := by
 have hJ := okV_join hV.ok hU.ok
 have hl : ∀ k, k < 4 → cnt_ (joinV V U) k ≤ n k := fun k hk => by
  rw [cnt_join];have := hV.le k hk
  have := hU.le k hk
  omega
 have h4 : ∀ k, k < 4 → OkV (chg k (cnt_ (joinV V U) k)) := fun k hk => hc.ok k _ hk (hl k hk)
 have hT := ok_four (c := fun k => chg k (cnt_ (joinV V U) k)) h4
 refine ⟨hJ, hl, le_antisymm (join_le hV.ok hU.ok hT ?_ ?_) (four_le h4 hJ fun k hk => ?_)⟩
 ·refine le_same (four_le (hV.four hc) hT fun k hk => ?_) hV.rep.symm (SameC.refl _)
  exact le_trans (hV.four hc k hk) (h4 k hk) hT (hc.mono k _ _ hk (by rw [cnt_join]; omega) (hl k hk)) (le_four h4 hk)
 ·refine le_same (four_le (hU.four hc) hT fun k hk => ?_) hU.rep.symm (SameC.refl _)
  exact le_trans (hU.four hc k hk) (h4 k hk) hT (hc.mono k _ _ hk (by rw [cnt_join]; omega) (hl k hk)) (le_four h4 hk)
 ·have hv : Le (chg k (cnt_ V k)) V := le_same (le_four (hV.four hc) hk) (SameC.refl _) hV.rep.symm
  have hu : Le (chg k (cnt_ U k)) U := le_same (le_four (hU.four hc) hk) (SameC.refl _) hU.rep.symm
  show Le (chg k (cnt_ (joinV V U) k)) (joinV V U)
  rw [cnt_join];rcases Nat.le_total (cnt_ V k) (cnt_ U k) with h | h
  ·rw [Nat.max_eq_right h]
   exact le_trans (hU.four hc k hk) hU.ok hJ hu (le_right hV.ok hU.ok)
  ·rw [Nat.max_eq_left h]
   exact le_trans (hV.four hc k hk) hV.ok hJ hv (le_left hV.ok hU.ok)
def up1 (n : Nat → Nat) (k : Nat) : Nat → Nat := fun j => if j = k then n j + 1 else n j
def put1 (n : Nat → Nat) (chg : Nat → Nat → Vw) (k : Nat) (T : Vw) : Nat → Nat → Vw := fun j i => if j = k ∧ i = n k + 1 then T else chg j i
theorem put_old {n : Nat → Nat} {chg : Nat → Nat → Vw} {k : Nat} {T : Vw} {j i : Nat} (h : i ≤ n j) : put1 n chg k T j i = chg j i := by
 unfold put1;rw [if_neg];rintro ⟨rfl, rfl⟩;omega
theorem put_new {n : Nat → Nat} {chg : Nat → Nat → Vw} {k : Nat} {T : Vw} : put1 n chg k T k (n k + 1) = T := by
 unfold put1;rw [if_pos ⟨rfl, rfl⟩]
theorem told_old {n : Nat → Nat} {chg : Nat → Nat → Vw} {k : Nat} {T V : Vw} (h : Told n chg V) : Told (up1 n k) (put1 n chg k T) V := by
 refine ⟨h.ok, fun j hj => ?_, ?_⟩
 ·have := h.le j hj
  unfold up1;split <;> omega
 ·have e : J4 (fun j => put1 n chg k T j (cnt_ V j)) = J4 fun j => chg j (cnt_ V j) := by
   unfold J4;dsimp only;rw [put_old (h.le 0 (by omega)), put_old (h.le 1 (by omega)), put_old (h.le 2 (by omega)), put_old (h.le 3 (by omega))]
  rw [e];exact h.rep
theorem told_change {n : Nat → Nat} {chg : Nat → Nat → Vw} {k : Nat} {V T : Vw} (hk : k < 4) (hc : Chgs n chg) (hV : Told n chg V) (hn : cnt_ V k = n k) (hT : OkV T) (hle : Le V T) (hcl : ∀ j, j < 4 → cnt_ T j = if j = k then cnt_ V j + 1 else cnt_ V j) :
  Chgs (up1 n k) (put1 n chg k T) ∧ Told (up1 n k) (put1 n chg k T) T := by
 have hlt : ∀ j, j < 4 → Le (chg j (cnt_ V j)) T := fun j hj => le_trans (hV.four hc j hj) hV.ok hT (le_same (le_four (hV.four hc) hj) (SameC.refl _) hV.rep.symm) hle
 have hC : Chgs (up1 n k) (put1 n chg k T) := by
  refine ⟨fun j i hj hi => ?_, fun j i i' hj h1 h2 => ?_⟩
  ·by_cases e : i ≤ n j
   ·rw [put_old e]; exact hc.ok j i hj e
   ·unfold up1 at hi
    by_cases e2 : j = k
    ·subst e2
     rw [if_pos rfl] at hi;have e3 : i = n j + 1 := by omega
     rw [e3, put_new]; exact hT
    ·rw [if_neg e2] at hi; exact absurd hi e
  ·by_cases e : i' ≤ n j
   ·rw [put_old e, put_old (Nat.le_trans h1 e)]; exact hc.mono j i i' hj h1 e
   ·unfold up1 at h2
    by_cases e2 : j = k
    ·subst e2
     rw [if_pos rfl] at h2;have e3 : i' = n j + 1 := by omega
     rw [e3, put_new];by_cases e4 : i ≤ n j
     ·rw [put_old e4]
      have h3 := hlt j hj;rw [hn] at h3;exact le_trans (hc.ok j i hj e4) (hc.ok j _ hj (Nat.le_refl _)) hT (hc.mono j i _ hj e4 (Nat.le_refl _)) h3
     ·have e5 : i = n j + 1 := by omega
      rw [e5, put_new]; exact le_refl hT
    ·rw [if_neg e2] at h2; exact absurd h2 e
 refine ⟨hC, hT, fun j hj => ?_, ?_⟩
 ·rw [hcl j hj]
  have := hV.le j hj
  unfold up1;split <;> omega
 ·have h4 : ∀ j, j < 4 → OkV (put1 n chg k T j (cnt_ T j)) := fun j hj => hC.ok j _ hj (by
   rw [hcl j hj];have := hV.le j hj
   unfold up1;split <;> omega)
  have hk1 : put1 n chg k T k (cnt_ T k) = T := by rw [hcl k hk, if_pos rfl, hn, put_new]
  refine le_antisymm (le_same (le_four (c := fun j => put1 n chg k T j (cnt_ T j)) h4 hk) ?_ (SameC.refl _)) (four_le h4 hT fun j hj => ?_)
  ·show SameC (put1 n chg k T k (cnt_ T k)) T
   rw [hk1];exact SameC.refl T
  ·show Le (put1 n chg k T j (cnt_ T j)) T
   by_cases e : j = k
   ·subst e
    rw [hk1]; exact le_refl hT
   ·rw [hcl j hj, if_neg e, put_old (hV.le j hj)]
    exact hlt j hj
end
section
open Go Go.RowKit
def SeenIn (k : Nat) (V N : Vw) : Prop := nid k ∈ V.s → ∀ x, Clocks.says V.c x ≤ Clocks.says N.c x
theorem seen_self (k : Nat) (V : Vw) : SeenIn k V V := fun _ _ => Int.le_refl _
theorem seen_more {k : Nat} {V N N' : Vw} (h : SeenIn k V N) (hl : ∀ x, Clocks.says N.c x ≤ Clocks.says N'.c x) : SeenIn k V N' := fun hk x => Int.le_trans (h hk x) (hl x)
theorem says_joinV (V U : Vw) (x : Sets.Id2) : Clocks.says (joinV V U).c x = max (Clocks.says V.c x) (Clocks.says U.c x) := Clocks.says_join _ _ _
theorem seen_join {k : Nat} {V U N : Vw} (h : SeenIn k V N) (g : SeenIn k U N) : SeenIn k (joinV V U) N := fun hk x => by
 rw [says_joinV];have hs : nid k ∈ seenV V U := hk
 unfold seenV at hs;split at hs
 ·rename_i e
  have he := (Clocks.cmp_same _ _).1 e x;rcases (Sets.mem_join _ _ _).1 hs with a | a
  ·have := h a x; omega
  ·have := g a x; omega
 ·split at hs
  ·rename_i e
   have he := ((Clocks.cmp_behind _ _).1 e).1 x;have := g hs x; omega
  ·split at hs
   ·rename_i e
    have he := ((Clocks.cmp_ahead _ _).1 e).1 x;have := h hs x; omega
   ·cases hs
def tellV (V U : Vw) (k : Nat) : Vw := { joinV V U with s := Sets.put (joinV V U).s (nid k) }
theorem nid_inj {j k : Nat} (h : nid j = nid k) : j = k := by
 have := congrArg Prod.fst h
 unfold nid at this;dsimp only at this;omega
theorem tell_same (V U : Vw) (k : Nat) : SameC (tellV V U k) (joinV V U) := ⟨rfl, rfl, rfl, rfl⟩
theorem seen_tell {j k : Nat} {V U N : Vw} (hj : j ≠ k) (h : SeenIn j V N) (g : SeenIn j U N) : SeenIn j (tellV V U k) N := fun hm x => by
 rcases (Sets.mem_put _ _ _).1 hm with e | e
 ·exact absurd (nid_inj e) hj
 ·exact seen_join h g e x
theorem seen_change {j k : Nat} {T N : Vw} (hj : j ≠ k) (hs : T.s = [nid k]) : SeenIn j T N := fun hm => by
 rw [hs, List.mem_singleton] at hm;exact absurd (nid_inj hm) hj
theorem told_same {n : Nat → Nat} {chg : Nat → Nat → Vw} {V U : Vw} (h : Told n chg V) (e : SameC V U) : Told n chg U := by
 have hc : ∀ k, cnt_ V k = cnt_ U k := fun k => by unfold cnt_; rw [e.c]
 refine ⟨okV_same h.ok e, fun k hk => by rw [← hc k]; exact h.le k hk, ?_⟩
 have a := h.rep;rw [show (fun k => chg k (cnt_ V k)) = fun k => chg k (cnt_ U k) from funext fun k => by rw [hc k]] at a
 exact e.symm.trans a
structure Four (n : Nat → Nat) (chg : Nat → Nat → Vw) (now : Nat → Vw) (had : List Vw) : Prop where
 chgs : Chgs n chg
 tnow : ∀ k, k < 4 → Told n chg (now k)
 own : ∀ k, k < 4 → cnt_ (now k) k = n k
 thad : ∀ V ∈ had, Told n chg V
 seen : ∀ V ∈ had, ∀ k, k < 4 → SeenIn k V (now k)
 seenN : ∀ j, j < 4 → ∀ k, k < 4 → SeenIn k (now j) (now k)
def now1 (now : Nat → Vw) (k : Nat) (T : Vw) : Nat → Vw := fun j => if j = k then T else now j
theorem now1_at (now : Nat → Vw) (k : Nat) (T : Vw) : now1 now k T k = T := by unfold now1; rw [if_pos rfl]
theorem now1_other {now : Nat → Vw} {j k : Nat} {T : Vw} (h : j ≠ k) : now1 now k T j = now j := by unfold now1; rw [if_neg h]
theorem stands_step {n : Nat → Nat} {chg : Nat → Nat → Vw} {now : Nat → Vw} {had : List Vw} {k : Nat} {T : Vw} (hk : k < 4) (h : Four n chg now had) (hT : Told n chg T) (hl : ∀ x, Clocks.says (now k).c x ≤ Clocks.says T.c x) (hs : ∀ j, j < 4 → j ≠ k → SeenIn j T (now j)) : Four n chg (now1 now k T) (had ++ [T]) := by
 have hup : ∀ j x, Clocks.says (now j).c x ≤ Clocks.says (now1 now k T j).c x := fun j x => by
  by_cases e : j = k
  ·subst e; rw [now1_at]; exact hl x
  ·rw [now1_other e]; exact Int.le_refl _
 have hTs : ∀ j, j < 4 → SeenIn j T (now1 now k T j) := fun j hj => by
  by_cases e : j = k
  ·subst e; rw [now1_at]; exact seen_self _ _
  ·rw [now1_other e]; exact hs j hj e
 refine ⟨h.chgs, fun j hj => ?_, fun j hj => ?_, fun V hV => ?_, fun V hV j hj => ?_, fun i hi j hj => ?_⟩
 ·by_cases e : j = k
  ·subst e; rw [now1_at]; exact hT
  ·rw [now1_other e]; exact h.tnow j hj
 ·by_cases e : j = k
  ·subst e
   rw [now1_at];have a := h.own j hj;have b := hl (nid j);have c := hT.le j hj;have d := cnt_says (now j) j;have d' := cnt_says T j
   omega
  ·rw [now1_other e]; exact h.own j hj
 ·rcases List.mem_append.1 hV with a | a
  ·exact h.thad V a
  ·rw [List.mem_singleton.1 a]; exact hT
 ·rcases List.mem_append.1 hV with a | a
  ·exact seen_more (h.seen V a j hj) (hup j)
  ·rw [List.mem_singleton.1 a]; exact hTs j hj
 ·by_cases e : i = k
  ·subst e; rw [now1_at]; exact hTs j hj
  ·rw [now1_other e]; exact seen_more (h.seenN i hi j hj) (hup j)
theorem stands_tell {n : Nat → Nat} {chg : Nat → Nat → Vw} {now : Nat → Vw} {had : List Vw} {k : Nat} {U : Vw} (hk : k < 4) (h : Four n chg now had) (hU : U ∈ had) : Four n chg (now1 now k (tellV (now k) U k)) (had ++ [tellV (now k) U k]) := by
 refine stands_step hk h (told_same (told_join h.chgs (h.tnow k hk) (h.thad U hU)) (tell_same _ _ _).symm) (fun x => ?_) fun j hj e => seen_tell e (h.seenN k hk j hj) (h.seen U hU j hj)
 show _ ≤ Clocks.says (joinV (now k) U).c x
 rw [says_joinV];omega
theorem stands_stay {n : Nat → Nat} {chg : Nat → Nat → Vw} {now : Nat → Vw} {had : List Vw} {k : Nat} (hk : k < 4) (h : Four n chg now had) : Four n chg (now1 now k (now k)) (had ++ [now k]) :=
 stands_step hk h (h.tnow k hk) (fun _ => Int.le_refl _) fun j hj _ => h.seenN k hk j hj
theorem stands_change {n : Nat → Nat} {chg : Nat → Nat → Vw} {now : Nat → Vw} {had : List Vw} {k : Nat} {T : Vw} (hk : k < 4) (h : Four n chg now had) (hT : OkV T) (hle : Le (now k) T) (hcl : ∀ x, Clocks.says T.c x = if x = nid k then Clocks.says (now k).c x + 1 else Clocks.says (now k).c x) (hs : T.s = [nid k]) : Four (up1 n k) (put1 n chg k T) (now1 now k T) (had ++ [T]) := by
 obtain ⟨hC, hN⟩ := told_change hk h.chgs (h.tnow k hk) (h.own k hk) hT hle fun j _ => by
  have a := cnt_says T j;have b := cnt_says (now k) j;have c := hcl (nid j);by_cases e : j = k
  ·subst e
   rw [if_pos rfl] at c ⊢;omega
  ·rw [if_neg (fun x => e (nid_inj x))] at c
   rw [if_neg e];omega
 have hl : ∀ x, Clocks.says (now k).c x ≤ Clocks.says T.c x := fun x => by
  rw [hcl x];split <;> omega
 have hup : ∀ j x, Clocks.says (now j).c x ≤ Clocks.says (now1 now k T j).c x := fun j x => by
  by_cases e : j = k
  ·subst e; rw [now1_at]; exact hl x
  ·rw [now1_other e]; exact Int.le_refl _
 have hTs : ∀ j, j < 4 → SeenIn j T (now1 now k T j) := fun j hj => by
  by_cases e : j = k
  ·subst e; rw [now1_at]; exact seen_self _ _
  ·exact seen_change e hs
 refine ⟨hC, fun j hj => ?_, fun j hj => ?_, fun V hV => ?_, fun V hV j hj => ?_, fun i hi j hj => ?_⟩
 ·by_cases e : j = k
  ·subst e; rw [now1_at]; exact hN
  ·rw [now1_other e]; exact told_old (h.tnow j hj)
 ·by_cases e : j = k
  ·subst e
   rw [now1_at];have a := h.own j hj;have b := hcl (nid j);rw [if_pos rfl] at b;have d := cnt_says (now j) j;have d' := cnt_says T j
   unfold up1;rw [if_pos rfl];omega
  ·rw [now1_other e]
   unfold up1;rw [if_neg e];exact h.own j hj
 ·rcases List.mem_append.1 hV with a | a
  ·exact told_old (h.thad V a)
  ·rw [List.mem_singleton.1 a]; exact hN
 ·rcases List.mem_append.1 hV with a | a
  ·exact seen_more (h.seen V a j hj) (hup j)
  ·rw [List.mem_singleton.1 a]; exact hTs j hj
 ·by_cases e : i = k
  ·subst e; rw [now1_at]; exact hTs j hj
  ·rw [now1_other e]; exact seen_more (h.seenN i hi j hj) (hup j)
def noV : Vw := ⟨[], [], [], [], []⟩
theorem four_start : Four (fun _ => 0) (fun _ _ => noV) (fun _ => noV) [noV] := by
 have hok : OkV noV := okV_of (by kernel_rfl)
 have hj : SameC noV (J4 fun _ => noV) := by
  have e : SameC (joinV noV noV) noV := joinV_self hok
  exact (e.symm.trans (joinV_same e.symm e.symm))
 have ht : Told (fun _ => 0) (fun _ _ => noV) noV := ⟨hok, fun _ _ => Nat.le_refl _, hj⟩
 refine ⟨⟨fun _ _ _ _ => hok, fun _ _ _ _ _ _ => le_refl hok⟩, fun _ _ => ht, fun _ _ => rfl, fun V hV => ?_, fun V hV k _ => ?_, fun _ _ _ _ => seen_self _ _⟩
 ·rw [List.mem_singleton.1 hV]; exact ht
 ·rw [List.mem_singleton.1 hV]; exact seen_self _ _
end
section
open Go Go.RowKit
def InB (x : Sets.Id2) : Prop := 1 ≤ x.1 ∧ x.1 ≤ 5 ∧ 1 ≤ x.2 ∧ x.2 ≤ 2
def tenI : List Sets.Id2 := [(1, 1), (1, 2), (2, 1), (2, 2), (3, 1), (3, 2), (4, 1), (4, 2), (5, 1), (5, 2)]
theorem ten_rises : Sets.Rises tenI := (risesB_iff tenI).1 (by kernel_rfl)
theorem ten_mem {x : Sets.Id2} (h : InB x) : x ∈ tenI := by
 obtain ⟨a, i⟩ := x;obtain ⟨h1, h2, h3, h4⟩ := h;dsimp only at h1 h2 h3 h4;have ha : a = 1 ∨ a = 2 ∨ a = 3 ∨ a = 4 ∨ a = 5 := by omega
 have hi : i = 1 ∨ i = 2 := by omega
 rcases ha with rfl | rfl | rfl | rfl | rfl <;> rcases hi with rfl | rfl <;> decide
theorem ten_len {l : List Sets.Id2} (h : Sets.Rises l) (hb : ∀ x ∈ l, InB x) : l.length ≤ 10 := rises_sub h ten_rises fun x hx => ten_mem (hb x hx)
theorem inB_vidROW {x : Sets.Id2} (h : InB x) : vidROW x.1 x.2 = true := by
 obtain ⟨h1, h2, h3, h4⟩ := h;unfold vidROW;rw [decide_eq_true_eq];omega
theorem inB_vidCLK {x : Sets.Id2} (h : InB x) : vidCLK x.1 x.2 = true := by
 obtain ⟨h1, h2, h3, h4⟩ := h;unfold vidCLK;rw [decide_eq_true_eq];omega
theorem nid_inB {k : Nat} (h : k < 4) : InB (nid k) := by
 unfold InB nid;dsimp only;omega
def FewR (N : Int) (r : RowSets.Row) : Prop := InB r.1 ∧ 1 ≤ r.2.1 ∧ r.2.1 ≤ N ∧ (∀ x ∈ r.2.2, InB x) ∧ r.1 ∉ r.2.2
structure Few (N : Int) (V : Vw) : Prop where
 r : ∀ r ∈ V.r, FewR N r
 c : ∀ t ∈ V.c, InB t.1 ∧ t.2 ≤ N
 sr : Sets.Rises V.s
 s : ∀ x ∈ V.s, InB x
theorem Few.mono {N M : Int} {V : Vw} (h : Few N V) (hm : N ≤ M) : Few M V := by
 refine ⟨fun r hr => ?_, fun t ht => ?_, h.sr, h.s⟩
 ·obtain ⟨a, b, c, d, e⟩ := h.r r hr
  exact ⟨a, b, Int.le_trans c hm, d, e⟩
 ·obtain ⟨a, b⟩ := h.c t ht
  exact ⟨a, Int.le_trans b hm⟩
theorem few_rows {N : Int} {V : Vw} (h : Few N V) (hV : OkV V) : V.r.length ≤ 10 ∧ ∀ r ∈ V.r, r.2.2.length ≤ 10 := by
 refine ⟨?_, fun r hr => ten_len (hV.nr.2 r hr) (h.r r hr).2.2.2.1⟩
 have a : (RowSets.ids V.r).length ≤ 10 := ten_len hV.nr.1 fun x hx => by
  obtain ⟨r, hr, rfl⟩ := List.mem_map.1 hx;exact (h.r r hr).1
 simpa [RowSets.ids] using a
theorem few_clock {N : Int} {V : Vw} (h : Few N V) (hV : OkV V) : V.c.length ≤ 10 := by
 have a : (V.c.map (·.1)).length ≤ 10 := ten_len hV.nc.1 fun x hx => by
  obtain ⟨t, ht, rfl⟩ := List.mem_map.1 hx;exact (h.c t ht).1
 simpa using a
theorem few_fit {N : Int} {V : Vw} (h : Few N V) (hV : OkV V) : FitVIE 13 V := by
 have e : Ros.joinL (V.m, V.f) (V.m, V.f) = (V.m, V.f) := Ros.valid_self (a := (V.m, V.f)) hV.ma
 have em : (Ros.joinL (V.m, V.f) (V.m, V.f)).1 = V.m := by rw [e]
 have ef : (Ros.joinL (V.m, V.f) (V.m, V.f)).2 = V.f := by rw [e]
 obtain ⟨a, b⟩ := few_rows h hV;refine ⟨by rw [← em]; exact Ros.len_outM fun k => Ros.kill ((Ros.raw (V.m, V.f) k).or (Ros.raw (V.m, V.f) k)), by rw [← ef]; exact Ros.len_outF fun k => Ros.kill ((Ros.raw (V.m, V.f) k).or (Ros.raw (V.m, V.f) k)), by omega, ?_, ?_, fun r hr => Nat.le_trans (b r hr) (by decide)⟩
 ·exact Nat.le_trans (few_clock h hV) (by decide)
 ·exact Nat.le_trans (ten_len h.sr h.s) (by decide)
theorem few_may {N : Int} {V : Vw} (h : Few N V) (hV : OkV V) (hN : N ≤ 1099511627776) : mayV V = true := by
 unfold mayV;obtain ⟨a, b⟩ := few_rows h hV
 have hr : mayBROW V.r = true := (may_iff _).2 ⟨by omega, fun r hr => by
  obtain ⟨c1, c2, c3, c4, c5⟩ := h.r r hr;exact ⟨inB_vidROW c1, c2, Int.le_trans c3 hN, fun x hx => inB_vidROW (c4 x hx), hV.nr.2 r hr, c5⟩, hV.nr.1⟩
 have hc : mayBCLK V.c = true := by
  unfold mayBCLK;rw [decide_eq_true (show V.c.length ≤ 64 by have := few_clock h hV; omega), (risesT_iff V.c).2 hV.nc.1, List.all_eq_true.2 fun t ht => ?_]
  ·rfl
  ·obtain ⟨c1, c2⟩ := h.c t ht
   have c3 := hV.nc.2 t ht;unfold okT;rw [inB_vidCLK c1, decide_eq_true (show 1 ≤ t.2 by omega), decide_eq_true (show t.2 ≤ 1099511627776 by omega)]
   rfl
 have hs : maySB V.s = true := by
  unfold maySB;rw [(risesB_iff V.s).2 h.sr, List.any_eq_false.2 fun x hx => ?_]
  ·rfl
  ·unfold badI
   rw [inB_vidROW (h.s x hx)];simp
 rw [hV.ma, hr, hc, hV.gr, sameR_self, hs];rfl
theorem few_join {N : Int} {V U : Vw} (h : Few N V) (k : Few N U) (hN : 0 ≤ N) : Few N (joinV V U) := by
 refine ⟨fun r hr => ?_, fun t ht => ?_, ?_, fun x hx => ?_⟩
 ·obtain ⟨r', hr', rfl⟩ := List.mem_map.1 hr
  have hj := (List.mem_filter.1 hr').1
  have hf : FewR N r' := by
   rcases joinR_cases hj with a | a | ⟨s, t, a, b, e⟩
   ·exact h.r _ a
   ·exact k.r _ a
   ·obtain ⟨a1, a2, a3, a4, a5⟩ := h.r _ a
    obtain ⟨_, _, _, b4, b5⟩ := k.r _ b;refine ⟨a1, a2, a3, fun x hx => ?_, fun hx => ?_⟩
    ·rw [e, Sets.mem_join] at hx
     exact hx.elim (a4 x) (b4 x)
    ·rw [e, Sets.mem_join] at hx
     exact hx.elim a5 b5
  obtain ⟨f1, f2, f3, f4, f5⟩ := hf;exact ⟨f1, f2, f3, fun x hx => f4 x (List.mem_filter.1 hx).1, fun hx => f5 (List.mem_filter.1 hx).1⟩
 ·obtain ⟨x, hx, rfl⟩ := List.mem_map.1 ht
  have hm := (Sets.mem_setOf _ _).1 (List.mem_filter.1 hx).1
  have hs : ∀ {W : Vw}, Few N W → Clocks.says W.c x ≤ N := fun {W} hW => by
   rcases Int.lt_or_le 0 (Clocks.says W.c x) with a | a
   ·exact (hW.c _ (Clocks.says_mem a)).2
   ·exact Int.le_trans a hN
  refine ⟨?_, ?_⟩
  ·obtain ⟨u, hu, hux⟩ := List.mem_map.1 hm
   subst hux;rcases List.mem_append.1 hu with a | a
   ·exact (h.c u a).1
   ·exact (k.c u a).1
  ·have := hs h
   have := hs k
   dsimp only;omega
 ·show Sets.Rises (seenV V U)
  unfold seenV;split
  ·exact Sets.rises_join _ _
  ·split
   ·exact k.sr
   ·split
    ·exact h.sr
    ·exact Sets.rises_nil
 ·have hx : x ∈ seenV V U := hx
  unfold seenV at hx;split at hx
  ·exact ((Sets.mem_join _ _ _).1 hx).elim (h.s x) (k.s x)
  ·split at hx
   ·exact k.s x hx
   ·split at hx
    ·exact h.s x hx
    ·cases hx
theorem few_tell {N : Int} {V U : Vw} {k : Nat} (hk : k < 4) (h : Few N V) (g : Few N U) (hN : 0 ≤ N) : Few N (tellV V U k) := by
 have j := few_join h g hN;refine ⟨j.r, j.c, Sets.rises_setOf _, fun x hx => ?_⟩
 rcases (Sets.mem_put _ _ _).1 hx with rfl | e
 ·exact nid_inB hk
 ·exact j.s x e
theorem few_none {N : Int} : Few N noV := ⟨fun x (h : x ∈ []) => (by cases h), fun x (h : x ∈ []) => (by cases h), Sets.rises_nil, fun x (h : x ∈ []) => (by cases h)⟩
end
end Go.Proofs.YthkkipbmlafdiaaGreat
