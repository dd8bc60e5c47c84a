/-
  Carried over and put together: contracts of this program's functions, and plain facts. No statement is proved in this text.
-/
import Derived.Test.YthkkipbmlafdiaaGreatOz
import Derived.ArgAppend
import Derived.Laws.NewBlocks
import Derived.Lib.AppendZerosOnto
import Derived.Shelf.Spec.SlicesInsert
import Derived.Test.YthkkipbmlafdiaaGreatN05
import Derived.Test.YthkkipbmlafdiaaGreatN19
set_option maxRecDepth 20000
namespace Go.Proofs.YthkkipbmlafdiaaGreat
open Go Go.RowKit Sets RowSets
def SmallO (o : Option Row) : Prop := ∀ r, o = some r → r.2.2.length ≤ 20000
theorem joined_any (px py : Option Addr) (ox oy : Option Row) (w : World) (h1 : PRow w px ox) (h2 : PRow w py oy) (hne : ox ≠ none ∨ oy ≠ none) (b1 : SmallO ox) (b2 : SmallO oy) :
  Calls Tryz.prog 126 #[.pointer px, .pointer py] w (GivesRow (joinedO ox oy) w) := by
 cases ox with
 | none =>
  obtain rfl : px = none := h1
  cases oy with
  | none => rcases hne with h | h <;> exact absurd rfl h
  | some s => exact joined_right py s w h2 (by have := b2 s rfl; omega)
 | some r =>
  have hr := b1 r rfl
  cases oy with
  | none =>
   obtain rfl : py = none := h2
   exact joined_left px r w h1 (by omega)
  | some s =>
   have hs := b2 s rfl
   have ej : joinedO (some r) (some s) = if s.2.1 < r.2.1 then r else if r.2.1 < s.2.1 then s else (r.1, r.2.1, join r.2.2 s.2.2) := rfl
   rw [ej]
   by_cases e1 : s.2.1 < r.2.1
   ·rw [if_pos e1]
    exact joined_more px py r s w h1 h2 (by omega) e1
   ·by_cases e2 : r.2.1 < s.2.1
    ·rw [if_neg e1, if_pos e2]
     exact joined_less px py s r w h1 h2 (by omega) e2
    ·rw [if_neg e1, if_neg e2]
     exact joined_equal px py r s w h1 h2 hr hs (by omega)
def LiesW (lo hi : Nat) (w : World) (v : Value) (qs : List Raw) : Prop := Rcs encW 4 w v qs ∧ ∀ ad n c, v = .slice (some ad) n c → 0 < qs.length → lo ≤ ad.block ∧ ad.block < hi
def LiesI (lo hi : Nat) (w : World) (v : Value) (l : List Id2) : Prop := Ids w v l ∧ ∀ ad n c, v = .slice (some ad) n c → 0 < l.length → lo ≤ ad.block ∧ ad.block < hi
def Mid (lo hi : Nat) (w w' : World) : Prop := w.heap.size ≤ w'.heap.size ∧ ∀ k, lo ≤ k → k < hi → w'.heap[k]? = w.heap[k]?
theorem mid_below {lo hi : Nat} {w w' : World} (hb : Below w.heap.size w w') (h : hi ≤ w.heap.size) : Mid lo hi w w' := ⟨hb.size, fun k _ hk => hb.block k (by omega)⟩
theorem LiesW.mid {lo hi : Nat} {w w' : World} {v : Value} {qs : List Raw} (h : LiesW lo hi w v qs) (hm : Mid lo hi w w') : LiesW lo hi w' v qs := by
 obtain ⟨⟨A, c, rfl, h0, hc, hk⟩, hb⟩ := h
 refine ⟨⟨A, c, rfl, h0, hc, fun k hlt => ?_⟩, hb⟩
 obtain ⟨ad, rfl, h1, h2⟩ := hk k hlt
 obtain ⟨b1, b2⟩ := hb ad _ _ rfl (by omega)
 refine ⟨ad, rfl, Nat.lt_of_lt_of_le h1 hm.1, fun j u hu => ?_⟩
 rw [World.cell?_of_block (w := w) (by rw [addr_block]; exact hm.2 _ b1 b2)]
 exact h2 j u hu
theorem LiesI.mid {lo hi : Nat} {w w' : World} {v : Value} {l : List Id2} (h : LiesI lo hi w v l) (hm : Mid lo hi w w') : LiesI lo hi w' v l := by
 obtain ⟨⟨A, c, rfl, h0, hc, hk⟩, hb⟩ := h
 refine ⟨⟨A, c, rfl, h0, hc, fun k hlt => ?_⟩, hb⟩
 obtain ⟨ad, rfl, h1, c1, c2⟩ := hk k hlt
 obtain ⟨b1, b2⟩ := hb ad _ _ rfl (by omega)
 refine ⟨ad, rfl, Nat.lt_of_lt_of_le h1 hm.1, ?_, ?_⟩
 ·rw [World.cell?_of_block (w := w) (by rw [block_of_add]; exact hm.2 _ b1 b2)]
  exact c1
 ·rw [World.cell?_of_block (w := w) (by show w'.heap[(ad.add (k * 2)).block]? = _; rw [block_of_add]; exact hm.2 _ b1 b2)]
  exact c2
theorem liesW_of {lo hi : Nat} {w : World} {v : Value} {qs : List Raw} (h : OwnsW w lo v qs) (hh : w.heap.size ≤ hi) : LiesW lo hi w v qs := by
 refine ⟨rcs_owns encW_len h, fun ad n c e _ => ?_⟩
 have := World.ownsRow.lt h ad.block (by rw [e]; rfl)
 omega
theorem liesI_of {lo hi : Nat} {w : World} {v : Value} {l : List Id2} (h : OwnsI w lo v l) (hh : w.heap.size ≤ hi) : LiesI lo hi w v l := by
 refine ⟨ownsI_ids h, fun ad n c e _ => ?_⟩
 have := World.ownsRow.lt h ad.block (by rw [e]; rfl)
 omega
def hdQ (x : Id2) : List Raw → Option Raw
 | [] => none
 | q :: _ => if q.1 = x then some q else none
def tlQ (x : Id2) : List Raw → List Raw
 | [] => []
 | q :: qs => if q.1 = x then qs else q :: qs
theorem hdQ_cons (x : Id2) (q : Raw) (qs : List Raw) : hdQ x (q :: qs) = if q.1 = x then some q else none := rfl
theorem tlQ_cons (x : Id2) (q : Raw) (qs : List Raw) : tlQ x (q :: qs) = if q.1 = x then qs else q :: qs := rfl
def PRawO (w : World) (p : Option Addr) : Option Raw → Prop
 | none => p = none
 | some q => PRaw w p q
theorem taken_row {w w' : World} {qs : List Raw} {l : List Row} {x : Id2} {p : Option Addr} (h : EachReads w qs l) (hb : Below w.heap.size w w') (hp : PRawO w' p (hdQ x qs)) : PRow w' p (hd x l) ∧ EachReads w (tlQ x qs) (tl x l) := by
 cases qs with
 | nil =>
  cases l with
  | nil => exact ⟨hp, trivial⟩
  | cons r l => exact h.elim
 | cons q qs =>
  cases l with
  | nil => exact h.elim
  | cons r l =>
   rw [hdQ_cons] at hp
   rw [hd_cons, tlQ_cons, tl_cons]
   have e : q.1 = r.1 := h.1.1
   by_cases e2 : q.1 = x
   ·rw [if_pos e2] at hp ⊢
    rw [if_pos (e ▸ e2), if_pos (e ▸ e2)]
    exact ⟨⟨q, hp, h.1.below hb⟩, h.2⟩
   ·rw [if_neg e2] at hp ⊢
    rw [if_neg (fun h => e2 (e.trans h)), if_neg (fun h => e2 (e.trans h))]
    exact ⟨hp, h⟩
theorem elem27 : Tryz.prog.elem 24 = 68 := by kernel_rfl
theorem size26 (W : World) : (sizeOf 68).run Tryz.prog W = .ok 4 W := by kernel_rfl
theorem under27 : Tryz.prog.underlying 24 = some (.slice (Tryz.prog.elem 24)) := by rw [elem27]; exact Tryz.underlying24
theorem headW {w : World} {v : Value} {q : Raw} {qs : List Raw} (h : Rcs encW 4 w v (q :: qs)) :
  ∃ ad c, v = .slice (some ad) (qs.length + 1) c ∧ ∀ w', Below w.heap.size w w' → PRaw w' (some ad) q := by
 obtain ⟨A, c, rfl, _⟩ := id h
 obtain ⟨ad, rfl⟩ := h.addr (by simp)
 refine ⟨ad, c, rfl, fun w' hb => ?_⟩
 obtain ⟨ad', e, c1, c2, c3, c4⟩ := h.raw hb (k := 0) (by simp)
 injection e with e
 subst e
 rw [Nat.zero_mul, add_zero'] at c1 c2 c3 c4
 obtain ⟨A', c', hv, _, _, hk⟩ := h
 injection hv with e1 e2 e3
 obtain ⟨ad', e, h1, _⟩ := hk 0 (by simp)
 rw [← e1] at e
 injection e with e
 subst e
 exact ⟨ad, rfl, Nat.lt_of_lt_of_le h1 hb.size, c1, c2, c3, c4⟩
theorem tailW {lo hi : Nat} {w : World} {v : Value} {q : Raw} {qs : List Raw} (h : LiesW lo hi w v (q :: qs)) :
  ∃ V, (∀ W, (Instr.slice 24 v (some (.int .i64 1)) none none).run Tryz.prog W = .ok V W) ∧ LiesW lo hi w V qs := by
 obtain ⟨hr, hb⟩ := h
 obtain ⟨A, c, rfl, h0, hc, hx⟩ := id hr
 obtain ⟨ad, rfl⟩ := hr.addr (by simp)
 have hb2 := hb ad _ _ rfl (by simp)
 refine ⟨sliced (some ad) 1 (q :: qs).length c 4, fun W => ?_, ?_⟩
 ·rw [run_slice_l (w := W) (P := Tryz.prog) 24 (some ad) (q :: qs).length c under27 .i64 1 (by omega) (by simp; omega)]
  rw [elem27, size26]
  rfl
 ·unfold Go.sliced
  split
  ·rename_i e
   subst e
   have : qs = [] := List.eq_nil_of_length_eq_zero (by simp only [List.length_cons] at hc; omega)
   subst this
   exact ⟨⟨some ad, 0, rfl, (fun h => by cases h), by simp, fun k hk => absurd hk (by simp)⟩, fun ad n c e hl => absurd hl (by simp)⟩
  ·have hd := Rcs.drop (k := 1) (by omega) hr (by simp) (by omega)
   refine ⟨hd, fun ad' n c' e _ => ?_⟩
   injection e with e
   injection e with e
   subst e
   rw [addr_block]
   exact hb2
set_option maxHeartbeats 1000000 in
theorem take_any (lo hi : Nat) (v : Value) (qs : List Raw) (x y : Int) (w : World) (h : LiesW lo hi w v qs) (hl : qs.length ≤ 100000) :
  Calls Tryz.prog 165 #[v, .agg #[.int .i64 x, .int .i64 y]] w fun e w' => ∃ p V, e = .returned (.tuple #[.pointer p, V]) ∧ PRawO w' p (hdQ (x, y) qs) ∧ LiesW lo hi w V (tlQ (x, y) qs) ∧ Below w.heap.size w w' := by
 have HB := Lib.hid (show Below w.heap.size w (w.alloc (.cells #[.int .i64 x, .int .i64 y] 29)) from below_one _ _)
 cases qs with
 | nil =>
  obtain ⟨⟨A, c, rfl, h0, hc, hx⟩, hb⟩ := id h
  have HH := Lib.hid h
  clear hx hb h
  go_enter Tryz.func165, Tryz.ntmps165
  go_wp2_with fail
  go_quiet (fail)
  go_wp2_with fail
  refine bodyPost_ret (v := .tuple #[.pointer none, .slice A 0 c]) (by simp [results, Tryz.results165, go_sem]) rfl ?_
  exact ⟨_, _, rfl, rfl, HH.out, below_drewN HB.out⟩
 | cons q qs =>
  obtain ⟨ad, c, rfl, hc⟩ := headW h.1
  obtain ⟨V, hV, hL⟩ := tailW h
  have HH := Lib.hid h
  have HL := Lib.hid hL
  have HC := Lib.hid hc
  have hlz : ((qs.length : Int) + 1 == 0) = false := by simp; omega
  have i3 : (0 : Int) < (qs.length : Int) + 1 := by omega
  have hq1 : (qs.length : Int) + 1 ≤ 100000 := by simp at hl; omega
  obtain ⟨x1, x2⟩ := box_cells (box_new w x y)
  clear h hL hc
  obtain ⟨ad', e, _, c1, c2, _⟩ := HC.out _ HB.out
  injection e with e
  subst e
  by_cases he : q.1 = (x, y)
  ·have HN := Lib.hid (show hdQ (x, y) (q :: qs) = some q by rw [hdQ_cons, if_pos he])
   have HT := Lib.hid (show tlQ (x, y) (q :: qs) = qs by rw [tlQ_cons, if_pos he])
   have e1 : q.1.1 = x := by rw [he]
   have e2 : q.1.2 = y := by rw [he]
   rw [HN.out, HT.out]
   rw [e1] at c1
   rw [e2] at c2
   clear he e1 e2
   go_enter Tryz.func165, Tryz.ntmps165
   go_wp2_with fail
   go_quiet (fail)
   go_wp2_with fail
   go_quiet (fail)
   go_wp2_with fail
   refine bodyPost_ret (v := .tuple #[.pointer (some ad), V]) (by simp [results, Tryz.results165, go_sem]) rfl ?_
   exact ⟨_, _, rfl, HC.out _ (below_drewN (below_drewN HB.out)), HL.out, below_drewN (below_drewN HB.out)⟩
  ·have HN := Lib.hid (show hdQ (x, y) (q :: qs) = none by rw [hdQ_cons, if_neg he])
   have HT := Lib.hid (show tlQ (x, y) (q :: qs) = q :: qs by rw [tlQ_cons, if_neg he])
   rw [HN.out, HT.out]
   by_cases h1 : q.1.1 = x
   ·have h2 : (q.1.2 == y) = false := by
     simp only [beq_eq_false_iff_ne]
     exact fun e => he (by rw [← h1, ← e])
    have h3 : (q.1.2 != y) = true := by simpa using h2
    have h4 : (q.1.1 == x) = true := by simpa using h1
    rw [h1] at c1 h4
    clear he h1
    go_enter Tryz.func165, Tryz.ntmps165
    go_wp2_with fail
    go_quiet (fail)
    go_wp2_with fail
    refine bodyPost_ret (v := .tuple #[.pointer none, .slice (some ad) (qs.length + 1) c]) (by simp [results, Tryz.results165, go_sem]) rfl ?_
    exact ⟨_, _, rfl, rfl, HH.out, below_drewN HB.out⟩
   ·have h2 : (q.1.1 == x) = false := by simpa using h1
    have h3 : (q.1.1 != x) = true := by simpa using h1
    clear he
    go_enter Tryz.func165, Tryz.ntmps165
    go_wp2_with fail
    go_quiet (fail)
    go_wp2_with fail
    refine bodyPost_ret (v := .tuple #[.pointer none, .slice (some ad) (qs.length + 1) c]) (by simp [results, Tryz.results165, go_sem]) rfl ?_
    exact ⟨_, _, rfl, rfl, HH.out, below_drewN HB.out⟩
end Go.Proofs.YthkkipbmlafdiaaGreat
namespace Go.Proofs.YthkkipbmlafdiaaGreat
open Go Go.RowKit Sets RowSets
theorem lss_lt (x y : Id2) : lss x.1 x.2 y.1 y.2 = decide (lt x y) := by
 unfold lss lt
 by_cases h : x.1 < y.1 <;> by_cases h2 : x.1 = y.1 <;> by_cases h3 : x.2 < y.2 <;> simp [h, h2, h3]
end Go.Proofs.YthkkipbmlafdiaaGreat
namespace Go.Proofs.YthkkipbmlafdiaaGreat
open Go Go.RowKit Sets RowSets
theorem rises_at {l : List Id2} (h : Rises l) {i j : Nat} (hj : j < l.length) (hij : i < j) : lt (l[i]'(by omega)) l[j] := List.pairwise_iff_getElem.1 h i j (by omega) hj hij
theorem cmpZ_lt {a i b j : Int} (h : lt (a, i) (b, j)) : cmpZ a i b j = -1 := by
 have : lss a i b j = true := by rw [lss_lt (a, i) (b, j)]; exact decide_eq_true h
 simp [cmpZ, this]
theorem cmpZ_ge {a i b j : Int} (h : ¬ lt (a, i) (b, j)) : ¬ cmpZ a i b j < 0 := by
 have : lss a i b j = false := by rw [lss_lt (a, i) (b, j)]; exact decide_eq_false h
 unfold cmpZ
 rw [this]
 cases lss b j a i <;> simp
theorem cmpZ_self (a i : Int) : cmpZ a i a i = 0 := by
 have : lss a i a i = false := by rw [lss_lt (a, i) (a, i)]; exact decide_eq_false (lt_irrefl _)
 simp [cmpZ, this]
theorem cmpZ_gt {a i b j : Int} (h : lt (b, j) (a, i)) : cmpZ a i b j = 1 := by
 have h1 : lss b j a i = true := by rw [lss_lt (b, j) (a, i)]; exact decide_eq_true h
 have h2 : lss a i b j = false := by rw [lss_lt (a, i) (b, j)]; exact decide_eq_false (lt_asymm h)
 simp [cmpZ, h1, h2]
theorem lt_total {x y : Id2} (h : ¬ lt x y) (hne : x ≠ y) : lt y x := by
 unfold lt at *
 rcases Int.lt_trichotomy x.1 y.1 with h1 | h1 | h1
 ·exact absurd (.inl h1) h
 ·rcases Int.lt_trichotomy x.2 y.2 with h2 | h2 | h2
  ·exact absurd (.inr ⟨h1, h2⟩) h
  ·exact absurd (Prod.ext h1 h2) hne
  ·exact .inr ⟨h1.symm, h2⟩
 ·exact .inl h1
def PlaceI (l : List Id2) (X : Id2) (k : Nat) : Prop := k ≤ l.length ∧ (∀ t (h : t < l.length), t < k → lt l[t] X) ∧ ∀ t (h : t < l.length), k ≤ t → ¬ lt l[t] X
theorem place_has {l : List Id2} {X : Id2} {k : Nat} (hk : k < l.length) (e : l[k] = X) : hasB X l = true := by
 unfold hasB
 exact decide_eq_true (e ▸ List.getElem_mem hk)
theorem place_not {l : List Id2} {X : Id2} {k : Nat} (hr : Rises l) (h : PlaceI l X k) (hk : k < l.length) (e : l[k] ≠ X) : hasB X l = false := by
 unfold hasB
 refine decide_eq_false fun hm => ?_
 obtain ⟨t, ht, e2⟩ := List.mem_iff_getElem.1 hm
 have hgt := lt_total (h.2.2 k hk (Nat.le_refl _)) e
 rcases Nat.lt_trichotomy t k with h1 | h1 | h1
 ·have := h.2.1 t ht h1
  rw [e2] at this
  exact lt_irrefl _ this
 ·subst h1; exact e e2
 ·have := rises_at hr ht h1
  rw [e2] at this
  exact lt_asymm this hgt
theorem place_end {l : List Id2} {X : Id2} {k : Nat} (h : PlaceI l X k) (hk : l.length ≤ k) : hasB X l = false := by
 unfold hasB
 refine decide_eq_false fun hm => ?_
 obtain ⟨t, ht, e2⟩ := List.mem_iff_getElem.1 hm
 have := h.2.1 t ht (by omega)
 rw [e2] at this
 exact lt_irrefl _ this
set_option maxHeartbeats 4000000 in
set_option maxRecDepth 100000 in
theorem bin_any (v : Value) (l : List Id2) (x y : Int) (w : World) (h : Ids w v l) (hr : Rises l) (hl : l.length ≤ 100000) :
  Calls Tryz.prog 101 #[v, .agg #[.int .i64 x, .int .i64 y], .func (.func 102) #[] #[]] w fun e w' => ∃ k : Nat, e = .returned (.tuple #[.int .i64 k, .bool (hasB (x, y) l)]) ∧ PlaceI l (x, y) k ∧ Below w.heap.size w w' := by
 have B0 := Lib.hid (below_one w (.cells #[.int .i64 x, .int .i64 y] 29))
 have X0 := Lib.hid (box_new w x y)
 have I0 := Lib.hid (h.below B0.out)
 have HR := Lib.hid hr
 obtain ⟨A, c, rfl, hz⟩ := id h
 clear hz h hr
 go_enter Tryz.func101, Tryz.ntmps101
 go_wp2_with fail
 generalize w.alloc (.cells #[.int .i64 x, .int .i64 y] 29) = wb at *
 go_loopw [9, 10] (fun s9 s10 wr => ∃ i j : Nat, s9 = .int .i64 i ∧ s10 = .int .i64 j ∧ i ≤ j ∧ j ≤ l.length ∧ Hid (∀ t (h : t < l.length), t < i → lt l[t] (x, y)) ∧ Hid (∀ t (h : t < l.length), j ≤ t → ¬ lt l[t] (x, y)) ∧ Hid (Below wb.heap.size wb wr)) (fun s9 s10 _ => (intOf s10).toNat - (intOf s9).toNat)
 case atStart => exact ⟨0, l.length, rfl, rfl, by omega, by omega, Lib.hid (fun t h h0 => absurd h0 (by omega)), Lib.hid (fun t h h0 => absurd h0 (by omega)), Lib.hid (Below.refl _ _)⟩
 case round =>
  obtain ⟨i, j, rfl, rfl, hij, hjl, HL, HU, HW⟩ := hrel
  have XR := Lib.hid (box_below X0.out HW.out)
  obtain ⟨x1, x2⟩ := box_cells XR.out
  by_cases hlt : i < j
  ·have hd : decide ((i : Int) < (j : Int)) = true := decide_eq_true (by omega)
   obtain ⟨k, hk⟩ : ∃ k : Nat, ((i : Int) + (j : Int)) / 2 = (k : Int) := ⟨(i + j) / 2, by omega⟩
   have hk1 : k < l.length := by omega
   have i3 : (0 : Int) ≤ (k : Int) := by omega
   have i4 : (k : Int) < (l.length : Int) := by omega
   obtain ⟨ad, rfl, c1, c2⟩ := I0.out.at_ HW.out hk1
   have HF := Lib.hid fun W (hb : Below wr.heap.size wr W) => And.intro ((hb.cell (block_lt_of_cell c1)).trans c1) (And.intro ((hb.cell (block_lt_of_cell c2)).trans c2) (And.intro (box_cells (box_below XR.out hb)) (Lib.hid hb)))
   by_cases hc : lt l[k] (x, y)
   ·have HC : Hid (∀ W, Calls Tryz.prog 102 #[.agg #[.int .i64 l[k].1, .int .i64 l[k].2], .agg #[.int .i64 x, .int .i64 y]] W fun e w' => e = .returned (.int .i64 (-1)) ∧ Below W.heap.size W w') := Lib.hid fun W => by
     have := compare_any l[k].1 l[k].2 x y W
     rw [cmpZ_lt (show lt (l[k].1, l[k].2) (x, y) from hc)] at this
     exact this
    have HL2 : Hid (∀ t (h : t < l.length), t < k + 1 → lt l[t] (x, y)) := Lib.hid fun t h ht => by
     rcases Nat.lt_or_ge t k with h1 | h1
     ·exact lt_trans (rises_at HR.out hk1 h1) hc
     ·obtain rfl : t = k := by omega
      exact hc
    clear hc HL
    generalize l[k].1 = u at *
    generalize l[k].2 = v at *
    go_wp2_with fail
    refine wp_region_held_drew (S := fun w' => w'.cell? (ad.add (k * 2)) = some (.int .i64 u) ∧ w'.cell? ⟨(ad.add (k * 2)).block, (ad.add (k * 2)).off + 1, none⟩ = some (.int .i64 v) ∧ (w'.cell? ⟨w.heap.size, 0, none⟩ = some (.int .i64 x) ∧ w'.cell? ⟨w.heap.size, 1, none⟩ = some (.int .i64 y)) ∧ Hid (Below wr.heap.size wr w')) (by kernel_rfl) ?_ (fun hHeld => ?_)
    ·exact HF.out _ (Below.drew (Below.refl _ _))
    (refine tk_ (i := 0) (oi := ⟨_, _, _, _, _, _⟩) (v := ?_) rfl (Or.inl ⟨by rfl, ?_⟩) ?_; rotate_left 1; · (intro w hSw; (try dsimp only at hSw); go_simp; all_goals with_reducible rfl))
    try simp only [Act.put, si0, si1, si2]
    (refine tk_ (i := 1) (oi := ⟨_, _, _, _, _, _⟩) (v := ?_) rfl (Or.inl ⟨by rfl, ?_⟩) ?_; rotate_left 1; · (intro w hSw; (try dsimp only at hSw); go_simp; all_goals with_reducible rfl))
    try simp only [Act.put, si0, si1, si2]
    (refine tk_ (i := 2) (oi := ⟨_, _, _, _, _, _⟩) (v := ?_) rfl (Or.inl ⟨by rfl, ?_⟩) ?_; rotate_left 1; · (intro w hSw; (try dsimp only at hSw); go_simp; all_goals with_reducible rfl))
    try simp only [Act.put, si0, si1, si2]
    (refine tk_ (i := 3) (oi := ⟨_, _, _, _, _, _⟩) (v := ?_) rfl (Or.inl ⟨by rfl, ?_⟩) ?_; rotate_left 1; · (intro w hSw; (try dsimp only at hSw); go_simp; all_goals with_reducible rfl))
    try simp only [Act.put, si0, si1, si2]
    (refine tk_ (i := 4) (oi := ⟨_, _, _, _, _, _⟩) (v := ?_) rfl (Or.inl ⟨by rfl, ?_⟩) ?_; rotate_left 1; · (intro w hSw; (try dsimp only at hSw); go_simp; all_goals with_reducible rfl))
    try simp only [Act.put, si0, si1, si2]
    (refine tk_ (i := 5) (oi := ⟨_, _, _, _, _, _⟩) (v := ?_) rfl (Or.inl ⟨by rfl, ?_⟩) ?_; rotate_left 1; · (intro w hSw; (try dsimp only at hSw); go_simp; all_goals with_reducible rfl))
    try simp only [Act.put, si0, si1, si2]
    refine wpAnyH_ready (rs := [6]) (by kernel_rfl) (by simp) ?_
    refine AllReadyH.cons (o := ⟨_, _, _, _, _, _⟩) rfl (fun Kq hKq => ?_) (AllReadyH.nil)
    go_simp
    clear hHeld
    go_at_call 102; (with_reducible refine (HC.out _).mono ?_); rintro e w7 ⟨rfl, hb⟩; have P7 := Lib.hid (below_after (Below.drew (Below.refl _ _)) hb (Nat.le_refl _)); clear hb c1 c2 x1 x2
    refine hKq.out _ _ ?_ (fun hHeld => ?_)
    ·(try dsimp only); exact HF.out _ P7.out
    clear hKq Kq
    try simp only [Act.put, si0, si1, si2]
    (refine tk_ (i := 7) (oi := ⟨_, _, _, _, _, _⟩) (v := ?_) rfl (Or.inl ⟨by rfl, ?_⟩) ?_; rotate_left 1; · (intro w hSw; (try dsimp only at hSw); go_simp; all_goals with_reducible rfl))
    try simp only [Act.put, si0, si1, si2]
    refine wpAnyH_done (by kernel_rfl) ?_ _
    go_wp2_with fail
    go_roundw
    case rel => exact ⟨k + 1, j, by go_num, rfl, by omega, by omega, HL2, HU, Lib.hid (below_after HW.out P7.out (Nat.le_refl _))⟩
    case measure => simp [intOf]; omega
   ·obtain ⟨z, hz⟩ : ∃ z, z = cmpZ l[k].1 l[k].2 x y := ⟨_, rfl⟩
    have HC : Hid (∀ W, Calls Tryz.prog 102 #[.agg #[.int .i64 l[k].1, .int .i64 l[k].2], .agg #[.int .i64 x, .int .i64 y]] W fun e w' => e = .returned (.int .i64 z) ∧ Below W.heap.size W w') := Lib.hid fun W => by
     rw [hz]
     exact compare_any l[k].1 l[k].2 x y W
    have hzn : ¬ z < 0 := by rw [hz]; exact cmpZ_ge (show ¬ lt (l[k].1, l[k].2) (x, y) from hc)
    have hdz : decide (z < 0) = false := decide_eq_false hzn
    have HU2 : Hid (∀ t (h : t < l.length), k ≤ t → ¬ lt l[t] (x, y)) := Lib.hid fun t h ht => by
     rcases Nat.eq_or_lt_of_le ht with h1 | h1
     ·subst h1; exact hc
     ·exact fun h2 => hc (lt_trans (rises_at HR.out h h1) h2)
    clear hc HU hz hzn
    generalize l[k].1 = u at *
    generalize l[k].2 = v at *
    go_wp2_with fail
    refine wp_region_held_drew (S := fun w' => w'.cell? (ad.add (k * 2)) = some (.int .i64 u) ∧ w'.cell? ⟨(ad.add (k * 2)).block, (ad.add (k * 2)).off + 1, none⟩ = some (.int .i64 v) ∧ (w'.cell? ⟨w.heap.size, 0, none⟩ = some (.int .i64 x) ∧ w'.cell? ⟨w.heap.size, 1, none⟩ = some (.int .i64 y)) ∧ Hid (Below wr.heap.size wr w')) (by kernel_rfl) ?_ (fun hHeld => ?_)
    ·exact HF.out _ (Below.drew (Below.refl _ _))
    (refine tk_ (i := 0) (oi := ⟨_, _, _, _, _, _⟩) (v := ?_) rfl (Or.inl ⟨by rfl, ?_⟩) ?_; rotate_left 1; · (intro w hSw; (try dsimp only at hSw); go_simp; all_goals with_reducible rfl))
    try simp only [Act.put, si0, si1, si2]
    (refine tk_ (i := 1) (oi := ⟨_, _, _, _, _, _⟩) (v := ?_) rfl (Or.inl ⟨by rfl, ?_⟩) ?_; rotate_left 1; · (intro w hSw; (try dsimp only at hSw); go_simp; all_goals with_reducible rfl))
    try simp only [Act.put, si0, si1, si2]
    (refine tk_ (i := 2) (oi := ⟨_, _, _, _, _, _⟩) (v := ?_) rfl (Or.inl ⟨by rfl, ?_⟩) ?_; rotate_left 1; · (intro w hSw; (try dsimp only at hSw); go_simp; all_goals with_reducible rfl))
    try simp only [Act.put, si0, si1, si2]
    (refine tk_ (i := 3) (oi := ⟨_, _, _, _, _, _⟩) (v := ?_) rfl (Or.inl ⟨by rfl, ?_⟩) ?_; rotate_left 1; · (intro w hSw; (try dsimp only at hSw); go_simp; all_goals with_reducible rfl))
    try simp only [Act.put, si0, si1, si2]
    (refine tk_ (i := 4) (oi := ⟨_, _, _, _, _, _⟩) (v := ?_) rfl (Or.inl ⟨by rfl, ?_⟩) ?_; rotate_left 1; · (intro w hSw; (try dsimp only at hSw); go_simp; all_goals with_reducible rfl))
    try simp only [Act.put, si0, si1, si2]
    (refine tk_ (i := 5) (oi := ⟨_, _, _, _, _, _⟩) (v := ?_) rfl (Or.inl ⟨by rfl, ?_⟩) ?_; rotate_left 1; · (intro w hSw; (try dsimp only at hSw); go_simp; all_goals with_reducible rfl))
    try simp only [Act.put, si0, si1, si2]
    refine wpAnyH_ready (rs := [6]) (by kernel_rfl) (by simp) ?_
    refine AllReadyH.cons (o := ⟨_, _, _, _, _, _⟩) rfl (fun Kq hKq => ?_) (AllReadyH.nil)
    go_simp
    clear hHeld
    go_at_call 102; (with_reducible refine (HC.out _).mono ?_); rintro e w7 ⟨rfl, hb⟩; have P7 := Lib.hid (below_after (Below.drew (Below.refl _ _)) hb (Nat.le_refl _)); clear hb c1 c2 x1 x2
    refine hKq.out _ _ ?_ (fun hHeld => ?_)
    ·(try dsimp only); exact HF.out _ P7.out
    clear hKq Kq
    try simp only [Act.put, si0, si1, si2]
    (refine tk_ (i := 7) (oi := ⟨_, _, _, _, _, _⟩) (v := ?_) rfl (Or.inl ⟨by rfl, ?_⟩) ?_; rotate_left 1; · (intro w hSw; (try dsimp only at hSw); go_simp; all_goals with_reducible rfl))
    try simp only [Act.put, si0, si1, si2]
    refine wpAnyH_done (by kernel_rfl) ?_ _
    go_wp2_with fail
    go_roundw
    case rel => exact ⟨i, k, rfl, rfl, by omega, by omega, HL, HU2, Lib.hid (below_after HW.out P7.out (Nat.le_refl _))⟩
    case measure => simp [intOf]; omega
  ·obtain rfl : i = j := by omega
   have HP := Lib.hid (show PlaceI l (x, y) i from ⟨hjl, HL.out, HU.out⟩)
   clear HL HU
   have hd : decide ((i : Int) < (i : Int)) = false := decide_eq_false (by omega)
   by_cases hin : i < l.length
   ·have hdn : decide ((i : Int) < (l.length : Int)) = true := decide_eq_true (by omega)
    have i3 : (0 : Int) ≤ (i : Int) := by omega
    have i4 : (i : Int) < (l.length : Int) := by omega
    obtain ⟨ad, rfl, c1, c2⟩ := I0.out.at_ HW.out hin
    have HF := Lib.hid fun W (hb : Below wr.heap.size wr W) => And.intro ((hb.cell (block_lt_of_cell c1)).trans c1) (And.intro ((hb.cell (block_lt_of_cell c2)).trans c2) (And.intro (box_cells (box_below XR.out hb)) (Lib.hid hb)))
    have hz : ∃ z, z = cmpZ l[i].1 l[i].2 x y ∧ decide (z = 0) = hasB (x, y) l := by
     refine ⟨_, rfl, ?_⟩
     by_cases e : l[i] = (x, y)
     ·rw [place_has hin e, e]
      exact decide_eq_true (cmpZ_self x y)
     ·rw [place_not HR.out HP.out hin e]
      rw [cmpZ_gt (show lt (x, y) (l[i].1, l[i].2) from lt_total (HP.out.2.2 i hin (Nat.le_refl _)) e)]
      rfl
    obtain ⟨z, hz, hz2⟩ := hz
    have HC : Hid (∀ W, Calls Tryz.prog 102 #[.agg #[.int .i64 l[i].1, .int .i64 l[i].2], .agg #[.int .i64 x, .int .i64 y]] W fun e w' => e = .returned (.int .i64 z) ∧ Below W.heap.size W w') := Lib.hid fun W => by
     rw [hz]
     exact compare_any l[i].1 l[i].2 x y W
    have HZ := Lib.hid hz2
    clear hz hz2
    generalize l[i].1 = u at *
    generalize l[i].2 = v at *
    go_wp2_with fail
    refine wp_region_held_drew (S := fun w' => w'.cell? (ad.add (i * 2)) = some (.int .i64 u) ∧ w'.cell? ⟨(ad.add (i * 2)).block, (ad.add (i * 2)).off + 1, none⟩ = some (.int .i64 v) ∧ (w'.cell? ⟨w.heap.size, 0, none⟩ = some (.int .i64 x) ∧ w'.cell? ⟨w.heap.size, 1, none⟩ = some (.int .i64 y)) ∧ Hid (Below wr.heap.size wr w')) (by kernel_rfl) ?_ (fun hHeld => ?_)
    ·exact HF.out _ (Below.drew (Below.refl _ _))
    (refine tk_ (i := 0) (oi := ⟨_, _, _, _, _, _⟩) (v := ?_) rfl (Or.inl ⟨by rfl, ?_⟩) ?_; rotate_left 1; · (intro w hSw; (try dsimp only at hSw); go_simp; all_goals with_reducible rfl))
    try simp only [Act.put, si0, si1, si2]
    (refine tk_ (i := 1) (oi := ⟨_, _, _, _, _, _⟩) (v := ?_) rfl (Or.inl ⟨by rfl, ?_⟩) ?_; rotate_left 1; · (intro w hSw; (try dsimp only at hSw); go_simp; all_goals with_reducible rfl))
    try simp only [Act.put, si0, si1, si2]
    (refine tk_ (i := 2) (oi := ⟨_, _, _, _, _, _⟩) (v := ?_) rfl (Or.inl ⟨by rfl, ?_⟩) ?_; rotate_left 1; · (intro w hSw; (try dsimp only at hSw); go_simp; all_goals with_reducible rfl))
    try simp only [Act.put, si0, si1, si2]
    (refine tk_ (i := 3) (oi := ⟨_, _, _, _, _, _⟩) (v := ?_) rfl (Or.inl ⟨by rfl, ?_⟩) ?_; rotate_left 1; · (intro w hSw; (try dsimp only at hSw); go_simp; all_goals with_reducible rfl))
    try simp only [Act.put, si0, si1, si2]
    (refine tk_ (i := 4) (oi := ⟨_, _, _, _, _, _⟩) (v := ?_) rfl (Or.inl ⟨by rfl, ?_⟩) ?_; rotate_left 1; · (intro w hSw; (try dsimp only at hSw); go_simp; all_goals with_reducible rfl))
    try simp only [Act.put, si0, si1, si2]
    first | (refine tk_ (i := 5) (oi := ⟨_, _, _, _, _, _⟩) (v := ?_) rfl (Or.inl ⟨by rfl, ?_⟩) ?_; rotate_left 1; · (intro w hSw; (try dsimp only at hSw); go_simp; all_goals with_reducible rfl)) | refine tk_ (i := 5) (oi := ⟨_, _, _, _, _, _⟩) (v := undef) rfl (Or.inr ⟨by kernel_rfl, rfl⟩) ?_
    try simp only [Act.put, si0, si1, si2]
    first | (refine tk_ (i := 6) (oi := ⟨_, _, _, _, _, _⟩) (v := ?_) rfl (Or.inl ⟨by rfl, ?_⟩) ?_; rotate_left 1; · (intro w hSw; (try dsimp only at hSw); go_simp; all_goals with_reducible rfl)) | refine tk_ (i := 6) (oi := ⟨_, _, _, _, _, _⟩) (v := undef) rfl (Or.inr ⟨by kernel_rfl, rfl⟩) ?_
    try simp only [Act.put, si0, si1, si2]
    first | (refine tk_ (i := 7) (oi := ⟨_, _, _, _, _, _⟩) (v := ?_) rfl (Or.inl ⟨by rfl, ?_⟩) ?_; rotate_left 1; · (intro w hSw; (try dsimp only at hSw); go_simp; all_goals with_reducible rfl)) | refine tk_ (i := 7) (oi := ⟨_, _, _, _, _, _⟩) (v := undef) rfl (Or.inr ⟨by kernel_rfl, rfl⟩) ?_
    try simp only [Act.put, si0, si1, si2]
    first | (refine tk_ (i := 8) (oi := ⟨_, _, _, _, _, _⟩) (v := ?_) rfl (Or.inl ⟨by rfl, ?_⟩) ?_; rotate_left 1; · (intro w hSw; (try dsimp only at hSw); go_simp; all_goals with_reducible rfl)) | refine tk_ (i := 8) (oi := ⟨_, _, _, _, _, _⟩) (v := undef) rfl (Or.inr ⟨by kernel_rfl, rfl⟩) ?_
    try simp only [Act.put, si0, si1, si2]
    first | (refine tk_ (i := 9) (oi := ⟨_, _, _, _, _, _⟩) (v := ?_) rfl (Or.inl ⟨by rfl, ?_⟩) ?_; rotate_left 1; · (intro w hSw; (try dsimp only at hSw); go_simp; all_goals with_reducible rfl)) | refine tk_ (i := 9) (oi := ⟨_, _, _, _, _, _⟩) (v := undef) rfl (Or.inr ⟨by kernel_rfl, rfl⟩) ?_
    try simp only [Act.put, si0, si1, si2]
    first | (refine tk_ (i := 10) (oi := ⟨_, _, _, _, _, _⟩) (v := ?_) rfl (Or.inl ⟨by rfl, ?_⟩) ?_; rotate_left 1; · (intro w hSw; (try dsimp only at hSw); go_simp; all_goals with_reducible rfl)) | refine tk_ (i := 10) (oi := ⟨_, _, _, _, _, _⟩) (v := undef) rfl (Or.inr ⟨by kernel_rfl, rfl⟩) ?_
    try simp only [Act.put, si0, si1, si2]
    refine wpAnyH_ready (rs := [11]) (by kernel_rfl) (by simp) ?_
    refine AllReadyH.cons (o := ⟨_, _, _, _, _, _⟩) rfl (fun Kq hKq => ?_) (AllReadyH.nil)
    go_simp
    clear hHeld
    go_at_call 102; (with_reducible refine (HC.out _).mono ?_); rintro e w7 ⟨rfl, hb⟩; have P7 := Lib.hid (below_after (Below.drew (Below.refl _ _)) hb (Nat.le_refl _)); clear hb c1 c2 x1 x2
    refine hKq.out _ _ ?_ (fun hHeld => ?_)
    ·(try dsimp only); exact HF.out _ P7.out
    clear hKq Kq
    try simp only [Act.put, si0, si1, si2]
    first | (refine tk_ (i := 12) (oi := ⟨_, _, _, _, _, _⟩) (v := ?_) rfl (Or.inl ⟨by rfl, ?_⟩) ?_; rotate_left 1; · (intro w hSw; (try dsimp only at hSw); go_simp; all_goals with_reducible rfl)) | refine tk_ (i := 12) (oi := ⟨_, _, _, _, _, _⟩) (v := undef) rfl (Or.inr ⟨by kernel_rfl, rfl⟩) ?_
    try simp only [Act.put, si0, si1, si2]
    (refine tk_ (i := 13) (oi := ⟨_, _, _, _, _, _⟩) (v := ?_) rfl (Or.inl ⟨by rfl, ?_⟩) ?_; rotate_left 1; · (intro w hSw; (try dsimp only at hSw); go_simp; all_goals with_reducible rfl))
    try simp only [Act.put, si0, si1, si2]
    (refine tk_ (i := 14) (oi := ⟨_, _, _, _, _, _⟩) (v := ?_) rfl (Or.inl ⟨by rfl, ?_⟩) ?_; rotate_left 1; · (intro w hSw; (try dsimp only at hSw); go_simp; all_goals with_reducible rfl))
    try simp only [Act.put, si0, si1, si2]
    (refine tk_ (i := 15) (oi := ⟨_, _, _, _, _, _⟩) (v := ?_) rfl (Or.inl ⟨by rfl, ?_⟩) ?_; rotate_left 1; · (intro w hSw; (try dsimp only at hSw); go_simp; all_goals with_reducible rfl))
    try simp only [Act.put, si0, si1, si2]
    refine wpAnyH_done (by kernel_rfl) ?_ _
    go_wp2_with fail
    refine bodyPost_ret (v := .tuple #[.int .i64 i, .bool (z == 0)]) (by simp [results, Tryz.results101, go_sem]) rfl ?_
    exact ⟨i, by rw [← HZ.out]; rfl, HP.out, below_after B0.out (below_after HW.out P7.out (Nat.le_refl _)) (Nat.le_refl _)⟩
   ·have hdn : decide ((i : Int) < (l.length : Int)) = false := decide_eq_false (by omega)
    have HN := Lib.hid (place_end HP.out (by omega))
    go_wp2_with fail
    go_quiet (fail)
    go_wp2_with fail
    refine bodyPost_ret (v := .tuple #[.int .i64 i, .bool false]) (by simp [results, Tryz.results101, go_sem]) rfl ?_
    exact ⟨i, by rw [HN.out], HP.out, below_after B0.out (below_drewN HW.out) (Nat.le_refl _)⟩
end Go.Proofs.YthkkipbmlafdiaaGreat
namespace Go.Proofs.YthkkipbmlafdiaaGreat
open Go Go.RowKit Sets RowSets
def FloorsAt (X : Nat) (s : List Id2) (A : Option Addr) (c : Nat) (W : World) : Prop := One W X 23 (.slice A s.length c) ∧ Ids W (.slice A s.length c) s
theorem FloorsAt.below {X : Nat} {s : List Id2} {A : Option Addr} {c : Nat} {W W' : World} (h : FloorsAt X s A c W) (hb : Below W.heap.size W W') : FloorsAt X s A c W' := ⟨one_below h.1 hb, h.2.below hb⟩
theorem rem_place {fl s : List Id2} (hs : Rises s) (hm : ∀ z, z ∈ s ↔ z ∈ fl) {x : Id2} {k : Nat} (h : PlaceI s x k) : rem fl x = if h : k < s.length then decide (s[k].1 = x.1) else false :=
 rem_next hs hm (fun i h1 h2 => h.2.1 i h1 h2) (fun i h1 h2 => h.2.2 i h1 h2)
set_option maxHeartbeats 2000000 in
theorem goneI_asks (X : Nat) (fl s : List Id2) (A : Option Addr) (c : Nat) (hs : Rises s) (hm : ∀ z, z ∈ s ↔ z ∈ fl) (hl : s.length ≤ 40000) : AsksI 100 #[.pointer (some ⟨X, 0, none⟩)] (fun x => rem fl x) (FloorsAt X s A c) where
 enters := fun args W => enters_fn Tryz.func100 (by kernel_rfl) rfl args W
 kept _ _ h hb := h.below hb
 call a i W hS := by
  have BX := Lib.hid (below_one W (.cells #[.int .i64 a, .int .i64 i] 29))
  have X0 := Lib.hid (box_new W a i)
  have F0 := Lib.hid (hS.below BX.out)
  have HP := Lib.hid fun k (h : PlaceI s (a, i) k) => rem_place hs hm h
  have HR := Lib.hid hs
  clear hS hm
  have f1 := one_cell F0.out.1
  obtain ⟨x1, x2⟩ := box_cells X0.out
  go_enter Tryz.func100, Tryz.ntmps100
  go_wp2_with fail
  refine (bin_any _ s a i _ F0.out.2 HR.out (by omega)).mono ?_
  rintro e w1 ⟨k, rfl, hp, hb⟩
  have F1 := Lib.hid (F0.out.below hb)
  have X1 := Lib.hid (box_below X0.out hb)
  have B1 := Lib.hid (below_after BX.out hb (Nat.le_refl _))
  have HE := Lib.hid (HP.out k hp)
  clear hp hb f1 x1 x2
  have f1 := one_cell F1.out.1
  obtain ⟨x1, x2⟩ := box_cells X1.out
  have i3 : (0 : Int) ≤ (k : Int) := by omega
  by_cases hk : k < s.length
  ·have hd : decide ((k : Int) < (s.length : Int)) = true := decide_eq_true (by omega)
   have i4 : (k : Int) < (s.length : Int) := by omega
   obtain ⟨ad, rfl, c1, c2⟩ := F1.out.2.at_ (Below.refl _ _) hk
   have HE2 := Lib.hid (show rem fl (a, i) = decide (s[k].1 = a) by rw [HE.out, dif_pos hk])
   clear HE
   generalize s[k].1 = u at *
   generalize s[k].2 = v at *
   go_wp2_with fail
   go_quiet (fail)
   go_wp2_with fail
   refine bodyPost_ret (results_tmp rfl _ _ _) rfl ?_
   exact ⟨by show Ending.returned (.bool (u == a)) = _; rw [HE2.out]; rfl, below_drewN B1.out⟩
  ·have hd : decide ((k : Int) < (s.length : Int)) = false := decide_eq_false (by omega)
   have HE2 := Lib.hid (show rem fl (a, i) = false by rw [HE.out, dif_neg hk])
   clear HE
   go_wp2_with fail
   go_quiet (fail)
   go_wp2_with fail
   go_ret
   exact ⟨ret_bool HE2.out.symm, below_drewN B1.out⟩
def FloorsW (X Y : Nat) (s : List Id2) (A : Option Addr) (c : Nat) (W : World) : Prop := One W Y 76 (.func (.func 100) #[] #[.pointer (some ⟨X, 0, none⟩)]) ∧ FloorsAt X s A c W
theorem FloorsW.below {X Y : Nat} {s : List Id2} {A : Option Addr} {c : Nat} {W W' : World} (h : FloorsW X Y s A c W) (hb : Below W.heap.size W W') : FloorsW X Y s A c W' := ⟨one_below h.1 hb, h.2.below hb⟩
theorem goneW_asks (X Y : Nat) (fl s : List Id2) (A : Option Addr) (c : Nat) (hs : Rises s) (hm : ∀ z, z ∈ s ↔ z ∈ fl) (hl : s.length ≤ 40000) : AsksW 105 #[.pointer (some ⟨Y, 0, none⟩)] (fun x => rem fl x) (FloorsW X Y s A c) where
 enters := fun args W => enters_fn Tryz.func105 (by kernel_rfl) rfl args W
 kept _ _ h hb := h.below hb
 call a i n B m k W hS := by
  have HI := Lib.hid (goneI_asks X fl s A c hs hm hl)
  have hK := HI.out.enters
  have BX := Lib.hid (below_one W (.cells #[.int .i64 a, .int .i64 i, .int .i64 n, .slice B m k] 68))
  have X0 := Lib.hid (wbox_new W a i n (.slice B m k))
  have F0 := Lib.hid (hS.below BX.out)
  have HC := Lib.hid fun W (h : FloorsAt X s A c W) => HI.out.call a i W h
  clear hS hm hs hl HI
  have f1 := one_cell F0.out.1
  obtain ⟨x1, x2, x3, x4⟩ := wbox_cells X0.out
  go_enter Tryz.func105, Tryz.ntmps105
  go_wp2_with fail
  refine (HC.out _ F0.out.2).mono ?_
  rintro e w1 ⟨rfl, hb⟩
  have B1 := Lib.hid (below_after BX.out hb (Nat.le_refl _))
  clear hb f1 x1 x2 x3 x4
  go_wp2_with fail
  go_ret
  exact ⟨rfl, B1.out⟩
end Go.Proofs.YthkkipbmlafdiaaGreat
