/-
  Contracts and plain facts.
-/
import Derived.Test.YthkkipbmlafdiaaGreatOy
import Derived.Shelf.Spec.SlicesInsert
import Derived.Lib.AppendZerosOnto
import Derived.Laws.NewBlocks
import Derived.ArgAppend
import Derived.Test.YthkkipbmlafdiaaGreatB20
set_option maxRecDepth 20000
namespace Go.Proofs.YthkkipbmlafdiaaGreat
section
open Go Go.RowKit Sets RowSets
def SmallO (o : Option Row) : Prop := ∀ r, o = some r → r.2.2.length ≤ 20000
theorem joined_any (px py : Option Addr) (ox oy : Option Row) (w : World) (h1 : PRow w px ox) (h2 : PRow w py oy) (hne : ox ≠ none ∨ oy ≠ none) (b1 : SmallO ox) (b2 : SmallO oy) :
  Calls Tryz.prog 126 #[.pointer px, .pointer py] w (GivesRow (joinedO ox oy) w) := by
 cases ox with
 | none =>
  obtain rfl : px = none := h1;cases oy with
  | none => rcases hne with h | h <;> exact absurd rfl h
  | some s => exact joined_right py s w h2 (by have := b2 s rfl; omega)
 | some r =>
  have hr := b1 r rfl;cases oy with
  | none =>
   obtain rfl : py = none := h2;exact joined_left px r w h1 (by omega)
  | some s =>
   have hs := b2 s rfl;have ej : joinedO (some r) (some s) = if s.2.1 < r.2.1 then r else if r.2.1 < s.2.1 then s else (r.1, r.2.1, join r.2.2 s.2.2) := rfl
   rw [ej];by_cases e1 : s.2.1 < r.2.1
   ·rw [if_pos e1]
    exact joined_more px py r s w h1 h2 (by omega) e1
   ·by_cases e2 : r.2.1 < s.2.1
    ·rw [if_neg e1, if_pos e2]
     exact joined_less px py s r w h1 h2 (by omega) e2
    ·rw [if_neg e1, if_neg e2]
     exact joined_equal px py r s w h1 h2 hr hs (by omega)
def LiesW (lo hi : Nat) (w : World) (v : Value) (qs : List Raw) : Prop := Rcs encW 4 w v qs ∧ ∀ ad n c, v = .slice (some ad) n c → 0 < qs.length → lo ≤ ad.block ∧ ad.block < hi
def LiesI (lo hi : Nat) (w : World) (v : Value) (l : List Id2) : Prop := Ids w v l ∧ ∀ ad n c, v = .slice (some ad) n c → 0 < l.length → lo ≤ ad.block ∧ ad.block < hi
def Mid (lo hi : Nat) (w w' : World) : Prop := w.heap.size ≤ w'.heap.size ∧ ∀ k, lo ≤ k → k < hi → w'.heap[k]? = w.heap[k]?
theorem mid_below {lo hi : Nat} {w w' : World} (hb : Below w.heap.size w w') (h : hi ≤ w.heap.size) : Mid lo hi w w' := ⟨hb.size, fun k _ hk => hb.block k (by omega)⟩
theorem LiesW.mid {lo hi : Nat} {w w' : World} {v : Value} {qs : List Raw} (h : LiesW lo hi w v qs) (hm : Mid lo hi w w') : LiesW lo hi w' v qs := by
 obtain ⟨⟨A, c, rfl, h0, hc, hk⟩, hb⟩ := h;refine ⟨⟨A, c, rfl, h0, hc, fun k hlt => ?_⟩, hb⟩
 obtain ⟨ad, rfl, h1, h2⟩ := hk k hlt;obtain ⟨b1, b2⟩ := hb ad _ _ rfl (by omega)
 refine ⟨ad, rfl, Nat.lt_of_lt_of_le h1 hm.1, fun j u hu => ?_⟩
 rw [World.cell?_of_block (w := w) (by rw [addr_block]; exact hm.2 _ b1 b2)]
 exact h2 j u hu
theorem LiesI.mid {lo hi : Nat} {w w' : World} {v : Value} {l : List Id2} (h : LiesI lo hi w v l) (hm : Mid lo hi w w') : LiesI lo hi w' v l := by
 obtain ⟨⟨A, c, rfl, h0, hc, hk⟩, hb⟩ := h;refine ⟨⟨A, c, rfl, h0, hc, fun k hlt => ?_⟩, hb⟩
 obtain ⟨ad, rfl, h1, c1, c2⟩ := hk k hlt;obtain ⟨b1, b2⟩ := hb ad _ _ rfl (by omega)
 refine ⟨ad, rfl, Nat.lt_of_lt_of_le h1 hm.1, ?_, ?_⟩
 ·rw [World.cell?_of_block (w := w) (by rw [block_of_add]; exact hm.2 _ b1 b2)]
  exact c1
 ·rw [World.cell?_of_block (w := w) (by show w'.heap[(ad.add (k * 2)).block]? = _; rw [block_of_add]; exact hm.2 _ b1 b2)]
  exact c2
theorem liesW_of {lo hi : Nat} {w : World} {v : Value} {qs : List Raw} (h : OwnsW w lo v qs) (hh : w.heap.size ≤ hi) : LiesW lo hi w v qs := by
 refine ⟨rcs_owns encW_len h, fun ad n c e _ => ?_⟩
 have := World.ownsRow.lt h ad.block (by rw [e]; rfl)
 omega
theorem liesI_of {lo hi : Nat} {w : World} {v : Value} {l : List Id2} (h : OwnsI w lo v l) (hh : w.heap.size ≤ hi) : LiesI lo hi w v l := by
 refine ⟨ownsI_ids h, fun ad n c e _ => ?_⟩
 have := World.ownsRow.lt h ad.block (by rw [e]; rfl)
 omega
def hdQ (x : Id2) : List Raw → Option Raw
 | [] => none
 | q :: _ => if q.1 = x then some q else none
def tlQ (x : Id2) : List Raw → List Raw
 | [] => []
 | q :: qs => if q.1 = x then qs else q :: qs
theorem hdQ_cons (x : Id2) (q : Raw) (qs : List Raw) : hdQ x (q :: qs) = if q.1 = x then some q else none := rfl
theorem tlQ_cons (x : Id2) (q : Raw) (qs : List Raw) : tlQ x (q :: qs) = if q.1 = x then qs else q :: qs := rfl
def PRawO (w : World) (p : Option Addr) : Option Raw → Prop
 | none => p = none
 | some q => PRaw w p q
theorem taken_row {w w' : World} {qs : List Raw} {l : List Row} {x : Id2} {p : Option Addr} (h : EachReads w qs l) (hb : Below w.heap.size w w') (hp : PRawO w' p (hdQ x qs)) : PRow w' p (hd x l) ∧ EachReads w (tlQ x qs) (tl x l) := by
 cases qs with
 | nil =>
  cases l with
  | nil => exact ⟨hp, trivial⟩
  | cons r l => exact h.elim
 | cons q qs =>
  cases l with
  | nil => exact h.elim
  | cons r l =>
   rw [hdQ_cons] at hp;rw [hd_cons, tlQ_cons, tl_cons];have e : q.1 = r.1 := h.1.1
   by_cases e2 : q.1 = x
   ·rw [if_pos e2] at hp ⊢
    rw [if_pos (e ▸ e2), if_pos (e ▸ e2)]
    exact ⟨⟨q, hp, h.1.below hb⟩, h.2⟩
   ·rw [if_neg e2] at hp ⊢
    rw [if_neg (fun h => e2 (e.trans h)), if_neg (fun h => e2 (e.trans h))]
    exact ⟨hp, h⟩
theorem elem27 : Tryz.prog.elem 24 = 68 := by kernel_rfl
theorem size26 (W : World) : (sizeOf 68).run Tryz.prog W = .ok 4 W := by kernel_rfl
theorem under27 : Tryz.prog.underlying 24 = some (.slice (Tryz.prog.elem 24)) := by rw [elem27]; exact Tryz.underlying24
theorem headW {w : World} {v : Value} {q : Raw} {qs : List Raw} (h : Rcs encW 4 w v (q :: qs)) :
  ∃ ad c, v = .slice (some ad) (qs.length + 1) c ∧ ∀ w', Below w.heap.size w w' → PRaw w' (some ad) q := by
 obtain ⟨A, c, rfl, _⟩ := id h;obtain ⟨ad, rfl⟩ := h.addr (by simp)
 refine ⟨ad, c, rfl, fun w' hb => ?_⟩
 obtain ⟨ad', e, c1, c2, c3, c4⟩ := h.raw hb (k := 0) (by simp)
 injection e with e
 subst e;rw [Nat.zero_mul, add_zero'] at c1 c2 c3 c4;obtain ⟨A', c', hv, _, _, hk⟩ := h;injection hv with e1 e2 e3
 obtain ⟨ad', e, h1, _⟩ := hk 0 (by simp)
 rw [← e1] at e;injection e with e
 subst e;exact ⟨ad, rfl, Nat.lt_of_lt_of_le h1 hb.size, c1, c2, c3, c4⟩
theorem tailW {lo hi : Nat} {w : World} {v : Value} {q : Raw} {qs : List Raw} (h : LiesW lo hi w v (q :: qs)) :
  ∃ V, (∀ W, (Instr.slice 24 v (some (.int .i64 1)) none none).run Tryz.prog W = .ok V W) ∧ LiesW lo hi w V qs := by
 obtain ⟨hr, hb⟩ := h;obtain ⟨A, c, rfl, h0, hc, hx⟩ := id hr;obtain ⟨ad, rfl⟩ := hr.addr (by simp)
 have hb2 := hb ad _ _ rfl (by simp)
 refine ⟨sliced (some ad) 1 (q :: qs).length c 4, fun W => ?_, ?_⟩
 ·rw [run_slice_l (w := W) (P := Tryz.prog) 24 (some ad) (q :: qs).length c under27 .i64 1 (by omega) (by simp; omega)]
  rw [elem27, size26];rfl
 ·unfold Go.sliced
  split
  ·rename_i e
   subst e;have : qs = [] := List.eq_nil_of_length_eq_zero (by simp only [List.length_cons] at hc; omega)
   subst this;exact ⟨⟨some ad, 0, rfl, (fun h => by cases h), by simp, fun k hk => absurd hk (by simp)⟩, fun ad n c e hl => absurd hl (by simp)⟩
  ·have hd := Rcs.drop (k := 1) (by omega) hr (by simp) (by omega)
   refine ⟨hd, fun ad' n c' e _ => ?_⟩
   injection e with e
   injection e with e
   subst e;rw [addr_block];exact hb2
set_option maxHeartbeats 1000000 in
theorem take_any (lo hi : Nat) (v : Value) (qs : List Raw) (x y : Int) (w : World) (h : LiesW lo hi w v qs) (hl : qs.length ≤ 100000) :
  Calls Tryz.prog 165 #[v, .agg #[.int .i64 x, .int .i64 y]] w fun e w' => ∃ p V, e = .returned (.tuple #[.pointer p, V]) ∧ PRawO w' p (hdQ (x, y) qs) ∧ LiesW lo hi w V (tlQ (x, y) qs) ∧ Below w.heap.size w w' := by
 have HB := hd_ (show Below w.heap.size w (w.alloc (.cells #[.int .i64 x, .int .i64 y] 29)) from ad_ _ _)
 cases qs with
 | nil =>
  obtain ⟨⟨A, c, rfl, h0, hc, hx⟩, hb⟩ := id h;have HH := hd_ h;clear hx hb h;go_enter Tryz.func165, Tryz.ntmps165
  go_wp2_with fail;go_quiet (fail)
  go_wp2_with fail;refine bodyPost_ret (v := .tuple #[.pointer none, .slice A 0 c]) (by simp [results, Tryz.results165, go_sem]) rfl ?_
  exact ⟨_, _, rfl, rfl, HH.out, below_drewN HB.out⟩
 | cons q qs =>
  obtain ⟨ad, c, rfl, hc⟩ := headW h.1;obtain ⟨V, hV, hL⟩ := tailW h;have HH := hd_ h;have HL := hd_ hL;have HC := hd_ hc;have hlz : ((qs.length : Int) + 1 == 0) = false := by simp; omega
  have i3 : (0 : Int) < (qs.length : Int) + 1 := by omega
  have hq1 : (qs.length : Int) + 1 ≤ 100000 := by simp at hl; omega
  obtain ⟨x1, x2⟩ := ae_ (ao_ w x y);clear h hL hc;obtain ⟨ad', e, _, c1, c2, _⟩ := HC.out _ HB.out;injection e with e
  subst e;by_cases he : q.1 = (x, y)
  ·have HN := hd_ (show hdQ (x, y) (q :: qs) = some q by rw [hdQ_cons, if_pos he])
   have HT := hd_ (show tlQ (x, y) (q :: qs) = qs by rw [tlQ_cons, if_pos he])
   have e1 : q.1.1 = x := by rw [he]
   have e2 : q.1.2 = y := by rw [he]
   rw [HN.out, HT.out];rw [e1] at c1;rw [e2] at c2;clear he e1 e2;go_enter Tryz.func165, Tryz.ntmps165
   go_wp2_with fail;go_quiet (fail)
   go_wp2_with fail;go_quiet (fail)
   go_wp2_with fail;refine bodyPost_ret (v := .tuple #[.pointer (some ad), V]) (by simp [results, Tryz.results165, go_sem]) rfl ?_
   exact ⟨_, _, rfl, HC.out _ (below_drewN (below_drewN HB.out)), HL.out, below_drewN (below_drewN HB.out)⟩
  ·have HN := hd_ (show hdQ (x, y) (q :: qs) = none by rw [hdQ_cons, if_neg he])
   have HT := hd_ (show tlQ (x, y) (q :: qs) = q :: qs by rw [tlQ_cons, if_neg he])
   rw [HN.out, HT.out];by_cases h1 : q.1.1 = x
   ·have h2 : (q.1.2 == y) = false := by
     simp only [beq_eq_false_iff_ne];exact fun e => he (by rw [← h1, ← e])
    have h3 : (q.1.2 != y) = true := by simpa using h2
    have h4 : (q.1.1 == x) = true := by simpa using h1
    rw [h1] at c1 h4;clear he h1;go_enter Tryz.func165, Tryz.ntmps165
    go_wp2_with fail;go_quiet (fail)
    go_wp2_with fail;refine bodyPost_ret (v := .tuple #[.pointer none, .slice (some ad) (qs.length + 1) c]) (by simp [results, Tryz.results165, go_sem]) rfl ?_
    exact ⟨_, _, rfl, rfl, HH.out, below_drewN HB.out⟩
   ·have h2 : (q.1.1 == x) = false := by simpa using h1
    have h3 : (q.1.1 != x) = true := by simpa using h1
    clear he;go_enter Tryz.func165, Tryz.ntmps165
    go_wp2_with fail;go_quiet (fail)
    go_wp2_with fail;refine bodyPost_ret (v := .tuple #[.pointer none, .slice (some ad) (qs.length + 1) c]) (by simp [results, Tryz.results165, go_sem]) rfl ?_
    exact ⟨_, _, rfl, rfl, HH.out, below_drewN HB.out⟩
end
section
open Go Go.RowKit Sets RowSets
theorem run_copy_recs {P : Program} (w : World) (dT sT ty elem : TypeId) (sz b o dLen dCap : Nat) (a : Addr) (sLen sCap : Nat) (cs : List Value)
  (hu : P.underlying dT = some (.slice elem)) (hs : (P.info? elem).map (·.size) = some sz) (hn : cs.length = Nat.min sLen dLen * sz)
  (hsrc : ∀ j v, cs[j]? = some v → w.cell? (a.add j) = some v) (hc : ∀ j, j < cs.length → (w.cell? ⟨b, o + j, none⟩).isSome = true) (hf : ∀ j, j < cs.length → w.frozen? ⟨b, o + j, none⟩ = false) (h1 : ∀ v ∈ cs, v.oneCell' = true) :
  (Builtin.copy_ #[dT, sT] ty #[.slice (some ⟨b, o, none⟩) dLen dCap, .slice (some a) sLen sCap]).run P w = .ok (goInt (Nat.min sLen dLen)) (w.setCells b o cs) := by
 have hl := run_loadCells_list (P := P) w a cs hsrc;have hst := run_storeCells_cells (P := P) b o cs 0 w (by simpa using hc) (by simpa using hf) h1
 cases hq : P.info? elem with
 | none => simp [hq] at hs
 | some i =>
  have hi : i.size = sz := by simpa [hq] using hs
  rw [hn] at hl;simp [Builtin.copy_, run_underlying hu, Builtin.lenOf, Builtin.firstCells, sizeOf, typeInfo, hq, hi, hl, hst]
theorem cells_three (W : World) (N : Nat) (A B C : List Value) (hA : ∀ p u, A[p]? = some u → W.cell? ⟨N, p, none⟩ = some u) (hN : ∀ p, p < A.length + B.length + C.length → (W.cell? ⟨N, p, none⟩).isSome = true) (p : Nat) (u : Value) (h : (A ++ B ++ C)[p]? = some u) :
  ((W.setCells N A.length B).setCells N (A.length + B.length) C).cell? ⟨N, p, none⟩ = some u := by
 have hp : p < (A ++ B ++ C).length := (List.getElem?_eq_some_iff.1 h).1
 simp only [List.length_append] at hp;by_cases h2 : A.length + B.length ≤ p
 ·rw [List.getElem?_append_right (by simpa using h2), List.length_append] at h
  have hj := (List.getElem?_eq_some_iff.1 h);obtain ⟨hj, e⟩ := hj;have := World.cell?_setCells_in N C (A.length + B.length) (W.setCells N A.length B) (fun j hj => isSome_setCells _ _ _ _ (fun t ht => hN _ (by omega)) _ (hN _ (by omega))) (p - (A.length + B.length)) hj
  rw [show A.length + B.length + (p - (A.length + B.length)) = p by omega, e] at this
  exact this
 ·rw [World.cell?_setCells_out _ _ _ _ _ (fun _ _ => .inl (by show p < _; omega))]
  rw [List.getElem?_append_left (by rw [List.length_append]; omega)] at h
  by_cases h1 : A.length ≤ p
  ·rw [List.getElem?_append_right h1] at h
   obtain ⟨hj, e⟩ := List.getElem?_eq_some_iff.1 h;have := World.cell?_setCells_in N B A.length W (fun j hj => hN _ (by omega)) (p - A.length) hj
   rw [show A.length + (p - A.length) = p by omega, e] at this
   exact this
  ·rw [World.cell?_setCells_out _ _ _ _ _ (fun _ _ => .inl (by show p < _; omega))]
   rw [List.getElem?_append_left (by omega)] at h
   exact hA p u h
theorem rcs_cells {w : World} {N c : Nat} {l : List Raw} (hb : N < w.heap.size) (hc : l.length ≤ c) (h : ∀ p u, (flatR encW l)[p]? = some u → w.cell? ⟨N, p, none⟩ = some u) : Rcs encW 4 w (.slice (some ⟨N, 0, none⟩) l.length c) l := by
 refine ⟨some ⟨N, 0, none⟩, c, rfl, (fun h => by cases h), hc, fun k hk => ⟨_, rfl, hb, fun j u hu => ?_⟩⟩
 rw [add_lit];exact h _ u (flatR_at encW_len l k hk j u hu)
theorem one_flat (l : List Raw) : ∀ u ∈ flatR encW l, u.oneCell' = true := by
 intro u hu;unfold flatR at hu;obtain ⟨q, _, hq⟩ := List.mem_flatMap.1 hu;exact encW_one q u hq
theorem rowAt_cells {w : World} {g : Nat} {d : Array Raw} (h : RowAtR encW 4 w g d) (i j : Nat) (v : Value) (hj : (flatR encW (d.toList.drop i))[j]? = some v) : w.cell? ⟨g, i * 4 + j, none⟩ = some v := by
 obtain ⟨k, hk, m, rfl, hm⟩ := flatR_split encW_len (by omega) hj
 rw [List.length_drop] at hk;have hk2 : i + k < d.size := by simp at hk; omega
 have e : (d.toList.drop i)[k] = d[i + k]! := by rw [getElem!_pos d _ hk2]; simp
 rw [e] at hm;have := (h.2 (i + k) hk2 m v hm).1
 rw [show (i + k) * 4 + m = i * 4 + (k * 4 + m) by omega] at this
 exact this
theorem hsize26 : (Tryz.prog.info? 68).map (·.size) = some 4 := by
 obtain ⟨i0, hi, _, hz, _⟩ := info_parts infoW;rw [hi];simp [hz]
set_option maxHeartbeats 2000000 in
set_option maxRecDepth 100000 in
theorem insert_end (g gx : Nat) (d : Array Raw) (p y v : Int) (B : Option Addr) (m k : Nat) (w : World) (h : RowAtR encW 4 w g d) (hx : WBox w gx p y v (.slice B m k)) (hl : d.size ≤ 1000) :
  Calls Tryz.prog 174 #[.slice (some ⟨g, 0, none⟩) d.size d.size, .int .i64 d.size, .slice (some ⟨gx, 0, none⟩) 1 1] w fun e w' =>
   ∃ V, e = .returned V ∧ Rcs encW 4 w' V (d.toList ++ [((p, y), v, B, m, k)]) ∧ Below w.heap.size w w' := by
 obtain ⟨i0, hi, hz0, hz1, hz2⟩ := info_parts infoW
 obtain ⟨v', w1, hr, h1, h2⟩ := run_append_arg_grows (P := Tryz.prog) (w := w) 24 24 68 i0 (.agg #[.int .i64 0, .int .i64 0, .int .i64 0, .slice none 0 0]) 4 48 Tryz.underlying24 hi hz0 hz1 hz2 rfl (by decide) ⟨g, 0, none⟩ d.size d.size (flatR encW d.toList) (by rw [flatR_len encW_len]; simp)
  (fun j u hu => by rw [add_lit]; have := rowAt_cells h 0 j u (by simpa using hu); rwa [Nat.zero_mul, Nat.zero_add] at this)
  ⟨gx, 0, none⟩ 1 1 (encW ((p, y), v, B, m, k)) rfl
  (World.news_of_block (cs := #[.int .i64 p, .int .i64 y, .int .i64 v, .slice B m k]) hx) (by omega) (by unfold maxLen; omega) (by omega)
 have HV : Hid (Rcs encW 4 w1 v' (d.toList ++ [((p, y), v, B, m, k)])) := hd_ (by
  have ho : OwnsW w1 w.heap.size v' (d.toList ++ [((p, y), v, B, m, k)]) := by
   unfold OwnsW OwnsR;have e1 : (d.toList ++ [((p, y), v, B, m, k)]).length = d.size + 1 := by simp
   have e2 : flatR encW (d.toList ++ [((p, y), v, B, m, k)]) = flatR encW d.toList ++ encW ((p, y), v, B, m, k) := by rw [flatR_append]; simp [flatR]
   rw [e1, e2];exact h1
  exact rcs_owns encW_len ho)
 have HB := hd_ (show Below w.heap.size w w1 from (Below.refl _ w).grown h2 (Nat.le_refl _) (fun k hk => by cases hk))
 clear hi hz0 hz1 hz2 h1 h2;obtain ⟨N, hN⟩ : ∃ N, N = d.size := ⟨_, rfl⟩;rw [← hN] at hr hl ⊢;have i1 : (0 : Int) ≤ (N : Int) := by omega
 clear hN h hx;go_enter Tryz.func174, Tryz.ntmps174
 go_wp2_with (at_builtin; refine Lib.wpList_append_run _ rfl _ _ _ _ rfl _ _ rfl rfl _ _ hr ?_)
 refine bodyPost_ret (v := v') (by simp [results, Tryz.results174, go_sem]) rfl ?_
 exact ⟨_, rfl, HV.out, HB.out⟩
set_option maxHeartbeats 4000000 in
set_option maxRecDepth 100000 in
theorem insert_mid (g gx i : Nat) (d : Array Raw) (p y v : Int) (B : Option Addr) (m k : Nat) (w : World) (h : RowAtR encW 4 w g d) (hx : WBox w gx p y v (.slice B m k)) (hl : d.size ≤ 1000) (hi : i < d.size) :
  Calls Tryz.prog 174 #[.slice (some ⟨g, 0, none⟩) d.size d.size, .int .i64 i, .slice (some ⟨gx, 0, none⟩) 1 1] w fun e w' =>
   ∃ V, e = .returned V ∧ Rcs encW 4 w' V (d.toList.take i ++ [((p, y), v, B, m, k)] ++ d.toList.drop i) ∧ Below w.heap.size w w' := by
 obtain ⟨i0, hi0, hz0, hz1, hz2⟩ := info_parts infoW;have hxl := wbox_lt hx;obtain ⟨A, hA⟩ : ∃ A, A = flatR encW (d.toList.take i) := ⟨_, rfl⟩;obtain ⟨Bq, hBq⟩ : ∃ Bq, Bq = encW ((p, y), v, B, m, k) := ⟨_, rfl⟩;obtain ⟨C, hC⟩ : ∃ C, C = flatR encW (d.toList.drop i) := ⟨_, rfl⟩;have lA : A.length = i * 4 := by rw [hA, flatR_len encW_len, List.length_take]; simp; omega
 have lB : Bq.length = 4 := by rw [hBq]; rfl
 have lC : C.length = (d.size - i) * 4 := by rw [hC, flatR_len encW_len, List.length_drop]; simp
 have oneB : ∀ u ∈ Bq, u.oneCell' = true := by rw [hBq]; exact encW_one _
 have oneC : ∀ u ∈ C, u.oneCell' = true := by rw [hC]; exact one_flat _
 have srcA : ∀ j u, A[j]? = some u → w.cell? ⟨g, j, none⟩ = some u := fun j u hu => by
  have := rowAt_cells h 0 j u (by
   rw [List.drop_zero];have e : flatR encW d.toList = A ++ C := by rw [hA, hC, ← flatR_append, List.take_append_drop]
   rw [e, List.getElem?_append_left (List.getElem?_eq_some_iff.1 hu).1];exact hu)
  rwa [Nat.zero_mul, Nat.zero_add] at this
 have srcB : ∀ j u, Bq[j]? = some u → w.cell? ⟨gx, j, none⟩ = some u := fun j u hu => by
  have := World.news_of_block (cs := #[.int .i64 p, .int .i64 y, .int .i64 v, .slice B m k]) hx j u (by rw [hBq] at hu; exact hu)
  rwa [add_lit] at this
 have srcC : ∀ j u, C[j]? = some u → w.cell? ⟨g, i * 4 + j, none⟩ = some u := fun j u hu => rowAt_cells h i j u (by rw [← hC]; exact hu)
 have hall : flatR encW (d.toList.take i ++ [((p, y), v, B, m, k)] ++ d.toList.drop i) = A ++ Bq ++ C := by
  rw [flatR_append, flatR_append, hA, hBq, hC];simp [flatR]
 have hlen : (d.toList.take i ++ [((p, y), v, B, m, k)] ++ d.toList.drop i).length = d.size + 1 := by simp; omega
 obtain ⟨L, hL⟩ : ∃ L, L = d.toList.take i ++ [((p, y), v, B, m, k)] ++ d.toList.drop i := ⟨_, rfl⟩;rw [← hL] at hall hlen ⊢;have hgw := h.1;clear hA hBq hC hL h hx;obtain ⟨n, hn⟩ : ∃ n, n = d.size := ⟨_, rfl⟩;rw [← hn] at lC hlen hi hl ⊢;clear hn
 have hold : (Builtin.firstCells i0.size i (.slice (some ⟨g, 0, none⟩) i n)).run Tryz.prog w.drew = .ok A.toArray w.drew := by
  rw [hz1];exact run_firstCells_some w.drew 4 i ⟨g, 0, none⟩ i n A lA (fun j u hj => by rw [add_lit]; exact srcA j u hj)
 have hkk : (n : Int) + 1 - (i : Int) = ((n + 1 - i : Nat) : Int) := by omega
 have hik : i + (n + 1 - i) = n + 1 := by omega
 have hrz : ∀ ty, (Builtin.append_ #[24, 3] ty #[.slice (some ⟨g, 0, none⟩) i n, .int .i64 ((n : Int) + 1 - (i : Int))]).run Tryz.prog w =
   .ok (.slice (some ⟨w.heap.size, 0, none⟩) (n + 1) (grownCap w (n + 1) n 68)) (w.drew.alloc (.cells (A.toArray ++ Builtin.zeroCells (Value.agg #[.int .i64 0, .int .i64 0, .int .i64 0, .slice none 0 0]).cells (n + 1 - i) ++ Builtin.zeroCells (Value.agg #[.int .i64 0, .int .i64 0, .int .i64 0, .slice none 0 0]).cells (grownCap w (n + 1) n 68 - (n + 1))) 68)) := fun ty => by
  have h := Lib.run_append_grow_zeros w 24 3 ty 68 i0 _ .i64 .i64 Tryz.underlying24 Tryz.underlying3 hi0 hz0 (some ⟨g, 0, none⟩) i n A hold (n + 1 - i) (by omega) (by omega) (by omega) (by omega) (by rw [hz2]; omega) (by rw [hz2, hik]; exact growslice_fits (by omega) (by omega))
  rw [hik] at h;rw [hkk];exact h
 obtain ⟨G, hG⟩ : ∃ G, G = grownCap w (n + 1) n 68 := ⟨_, rfl⟩;have hGn : n + 1 ≤ G := by rw [hG]; exact grownCap_ge w _ _ _
 have hG63 : G ≤ 9223372036854775807 := by
  have := grownCap_le_maxLen w (n + 1) n 68 (by unfold maxLen; omega)
  rw [← hG] at this;unfold maxLen at this;omega
 obtain ⟨ROW, hROW⟩ : ∃ ROW : Array Value, ROW = A.toArray ++ Builtin.zeroCells (Value.agg #[.int .i64 0, .int .i64 0, .int .i64 0, .slice none 0 0]).cells (n + 1 - i) ++ Builtin.zeroCells (Value.agg #[.int .i64 0, .int .i64 0, .int .i64 0, .slice none 0 0]).cells (G - (n + 1)) := ⟨_, rfl⟩;rw [← hG] at hrz;rw [← hROW] at hrz
 have hRl : (n + 1) * 4 ≤ ROW.size := by
  rw [hROW];simp [Builtin.zeroCells, Value.cells, lA]
  omega
 have hRA : ∀ j u, A[j]? = some u → ROW[j]? = some u := fun j u hu => by
  have hj := (List.getElem?_eq_some_iff.1 hu).1;rw [hROW, Array.getElem?_append_left (by simp; omega), Array.getElem?_append_left (by simpa using hj)]
  simpa using hu
 obtain ⟨W1, hW1⟩ : ∃ W1, W1 = w.drew.alloc (.cells ROW 68) := ⟨_, rfl⟩;rw [← hW1] at hrz
 have hN : ∀ j, j < (n + 1) * 4 → (W1.cell? ⟨w.heap.size, j, none⟩).isSome = true := fun j hj => by
  rw [hW1, World.cell?_alloc_at (w := w.drew) ROW _ w.heap.size j rfl, Array.getElem?_eq_getElem (by omega)]; rfl
 have hNA : ∀ j u, A[j]? = some u → W1.cell? ⟨w.heap.size, j, none⟩ = some u := fun j u hu => by
  rw [hW1, World.cell?_alloc_at (w := w.drew) ROW _ w.heap.size j rfl]; exact hRA j u hu
 have hNf : ∀ j, W1.frozen? ⟨w.heap.size, j, none⟩ = false := fun j => by rw [hW1]; exact World.frozen?_alloc_at (w := w.drew) ROW _ w.heap.size j rfl
 have hOb : ∀ j u, w.cell? ⟨g, j, none⟩ = some u → W1.cell? ⟨g, j, none⟩ = some u := fun j u h => by rw [hW1, World.cell?_alloc_past (w := w.drew) _ g j hgw]; exact h
 have hOv : ∀ j u, w.cell? ⟨gx, j, none⟩ = some u → W1.cell? ⟨gx, j, none⟩ = some u := fun j u h => by rw [hW1, World.cell?_alloc_past (w := w.drew) _ gx j hxl]; exact h
 have hcpA : ∀ (W : World), (∀ x, W.cell? x = W1.cell? x) → (∀ x, W.frozen? x = W1.frozen? x) → ∀ ty dc, (Builtin.copy_ #[24, 24] ty #[.slice (some ⟨w.heap.size, i * 4, none⟩) (n + 1 - i) dc, .slice (some ⟨gx, 0, none⟩) 1 1]).run Tryz.prog W = .ok (goInt 1) (W.setCells w.heap.size (i * 4) Bq) := fun W hWc hWf ty dc => by
  have := run_copy_recs (P := Tryz.prog) W 24 24 ty 68 4 w.heap.size (i * 4) (n + 1 - i) dc ⟨gx, 0, none⟩ 1 1 Bq Tryz.underlying24 hsize26 (by rw [lB]; simp only [Nat.min_def]; split <;> omega)
   (fun j u hj => by rw [add_lit, hWc]; exact hOv _ u (srcB j u hj))
   (fun j hj => by rw [hWc]; exact hN _ (by omega)) (fun j hj => by rw [hWf]; exact hNf _) oneB
  rwa [show Nat.min 1 (n + 1 - i) = 1 by simp only [Nat.min_def]; split <;> omega] at this
 have hgN : g ≠ w.heap.size := by omega
 have hcpB : ∀ (W : World), (∀ x, W.cell? x = (W1.setCells w.heap.size (i * 4) Bq).cell? x) → (∀ x, W.frozen? x = (W1.setCells w.heap.size (i * 4) Bq).frozen? x) → ∀ ty dc sc, (Builtin.copy_ #[24, 24] ty #[.slice (some ⟨w.heap.size, (i + 1) * 4, none⟩) (n + 1 - (i + 1)) dc, .slice (some ⟨g, i * 4, none⟩) (n - i) sc]).run Tryz.prog W = .ok (goInt (n - i : Nat)) (W.setCells w.heap.size ((i + 1) * 4) C) := fun W hWc hWf ty dc sc => by
  have := run_copy_recs (P := Tryz.prog) W 24 24 ty 68 4 w.heap.size ((i + 1) * 4) (n + 1 - (i + 1)) dc ⟨g, i * 4, none⟩ (n - i) sc C Tryz.underlying24 hsize26 (by rw [lC]; simp only [Nat.min_def]; split <;> omega)
   (fun j u hj => by
    rw [Addr.add_lit, hWc, World.cell?_setCells_out _ _ _ _ _ (fun h _ => absurd h hgN)]
    exact hOb _ u (srcC j u hj))
   (fun j hj => by rw [hWc]; exact isSome_setCells _ _ _ _ (fun t ht => hN _ (by omega)) _ (hN _ (by omega)))
   (fun j hj => by rw [hWf, World.frozen?_setCells]; exact hNf _) oneC
  rwa [show Nat.min (n - i) (n + 1 - (i + 1)) = n - i by simp only [Nat.min_def]; split <;> omega] at this
 have hfin : ∀ F : World, (∀ x, F.cell? x = ((W1.setCells w.heap.size (i * 4) Bq).setCells w.heap.size ((i + 1) * 4) C).cell? x) → w.heap.size < F.heap.size → Rcs encW 4 F (.slice (some ⟨w.heap.size, 0, none⟩) (n + 1) G) L := fun F hF hs => by
  have := rcs_cells (w := F) (N := w.heap.size) (c := G) (l := L) hs (by omega) (fun q u hq => by
   rw [hall] at hq;have e := cells_three W1 w.heap.size A Bq C hNA (fun q hq => hN q (by rw [lA, lB, lC] at hq; omega)) q u hq
   rw [lA, lB] at e;rw [hF, show (i + 1) * 4 = i * 4 + 4 by omega]
   exact e)
  rwa [hlen] at this
 subst hW1;have hE1 : ∀ x, ((w.alloc (.cells ROW 68)).drew).cell? x = (w.drew.alloc (.cells ROW 68)).cell? x := fun x => rfl
 have hE2 : ∀ x, ((w.alloc (.cells ROW 68)).drew).frozen? x = (w.drew.alloc (.cells ROW 68)).frozen? x := fun x => rfl
 have hF1 : ∀ x, (((w.alloc (.cells ROW 68)).drew.setCells w.heap.size (i * 4) Bq).drew).cell? x = ((w.drew.alloc (.cells ROW 68)).setCells w.heap.size (i * 4) Bq).cell? x := fun x => rfl
 have hF2 : ∀ x, (((w.alloc (.cells ROW 68)).drew.setCells w.heap.size (i * 4) Bq).drew).frozen? x = ((w.drew.alloc (.cells ROW 68)).setCells w.heap.size (i * 4) Bq).frozen? x := fun x => rfl
 have hz2' : ¬ ((i : Int) = (n : Int)) := by omega
 have hw1 : IntKind.i64.wrap ((i : Int) + 1) = (i : Int) + 1 := by rw [IntKind.wrap_i64]; omega
 have hb1 : (0 : Int) ≤ (i : Int) + 1 := by omega
 have hin : i ≤ n := by omega
 have htn : ((i : Int) + 1).toNat = i + 1 := by omega
 have hb3 : (i : Int) ≤ (n : Int) := by omega
 have hGi : ¬ (G = i) := by omega
 have hGim : ¬ (G = i + 1) := by omega
 have hci : ¬ (n = i) := by omega
 have HF := hd_ hfin;have mixed := Checked.mixed Tryz.checked;have mixed : Tryz.prog.follows .mixedOrders = true := mixed
 clear hfin hkk hik hold hROW hG hRl hRA hN hNA hNf hOb hOv srcA srcB srcC lA lB lC oneB oneC hall hlen hi0 hz0 hz1 hz2;go_enter Tryz.func174, Tryz.ntmps174
 go_wp2_with (first
  | (at_builtin; refine Lib.wpList_append_run _ rfl _ _ _ _ rfl _ _ rfl rfl _ _ (hrz _) ?_)
  | (at_builtin; refine wpList_copy_runI _ rfl _ _ 24 24 rfl _ _ rfl rfl (hcpA _ hE1 hE2 _ _) ?_))
 go_region_law_o (refine step_copy_runI rfl _ _ 24 24 rfl (.slice (some ⟨w.heap.size, (i + 1) * 4, none⟩) (n + 1 - (i + 1)) (G - (i + 1))) (.slice (some ⟨g, i * 4, none⟩) (n - i) (n - i)) (by simp [Act.eval, Act.put]) (by simp [Act.eval, Act.put]) (hcpB _ hF1 hF2 3 (G - (i + 1)) (n - i)) ?_)
 go_wp2
 go_ret;exact ⟨_, rfl, HF.out _ (fun x => by rw [drew_setCells, show (w.alloc (.cells ROW 68)).drew.drew = (w.drew.alloc (.cells ROW 68)).drew from rfl, ← drew_setCells, ← drew_setCells]; rfl) (by simp), below_setCells (Below.drew (below_setCells (Below.drew ((Below.refl _ w).alloc (Nat.le_refl _) _)) (Nat.le_refl _) _ _)) (Nat.le_refl _) _ _⟩
end
section
open Go Go.RowKit Sets RowSets
theorem lss_lt (x y : Id2) : lss x.1 x.2 y.1 y.2 = decide (lt x y) := by
 unfold lss lt;by_cases h : x.1 < y.1 <;> by_cases h2 : x.1 = y.1 <;> by_cases h3 : x.2 < y.2 <;> simp [h, h2, h3]
theorem notLess_lt (x y : Id2) : notLess x y = decide (¬ lt x y) := by
 unfold notLess;rw [lss_lt];by_cases h : lt x y <;> simp [h]
theorem insertG_none (r : Row) : ∀ (l : List Row), (∀ x ∈ ids l, notLess x r.1 = false) → insertG r l = l ++ [r]
 | [], _ => rfl
 | u :: l, h => by
  have h1 := h u.1 (by simp [ids])
  rw [notLess_lt] at h1;have h2 : lt u.1 r.1 := by simpa using h1
  rw [insertG, if_pos h2, insertG_none r l fun x hx => h x (by simp only [ids, List.map_cons]; exact List.mem_cons_of_mem _ hx)]
  rfl
theorem insertG_at (r : Row) : ∀ (l : List Row) (k : Nat) (hk : k < (ids l).length), notLess (ids l)[k] r.1 = true → (∀ x ∈ (ids l).take k, notLess x r.1 = false) → insertG r l = l.take k ++ [r] ++ l.drop k
 | [], k, hk, _, _ => by simp [ids] at hk
 | u :: l, 0, _, h1, _ => by
  have h2 : notLess u.1 r.1 = true := h1
  rw [notLess_lt] at h2;have h3 : ¬ lt u.1 r.1 := by simpa using h2
  rw [insertG, if_neg h3];rfl
 | u :: l, k + 1, hk, h1, h => by
  have h2 := h u.1 (by simp [ids])
  rw [notLess_lt] at h2;have h3 : lt u.1 r.1 := by simpa using h2
  rw [insertG, if_pos h3, insertG_at r l k (by simpa [ids] using hk) (by simpa [ids] using h1) fun x hx => h x (by simp only [ids, List.map_cons, List.take_succ_cons]; exact List.mem_cons_of_mem _ hx)]
  rfl
set_option maxHeartbeats 2000000 in
theorem insertRow_any (g : Nat) (d : Array Raw) (l : List Row) (p y v : Int) (B : Option Addr) (m k : Nat) (not : List Id2) (w : World) (h : RowAtR encW 4 w g d) (hE : EachReads w d.toList l) (hN : Ids w (.slice B m k) not) (hl : d.size ≤ 1000) :
  Calls Tryz.prog 134 #[.slice (some ⟨g, 0, none⟩) d.size d.size, .agg #[.int .i64 p, .int .i64 y, .int .i64 v, .slice B m k]] w fun e w' => ∃ V, e = .returned V ∧ RowsAt w' V (insertG ((p, y), v, not) l) ∧ Below w.heap.size w w' := by
 have hlen : d.size = l.length := by rw [← hE.len]; simp
 have hlo := hE.owners;have HX := hd_ (av_ w p y v (.slice B m k));have HB := hd_ (ad_ w (.cells #[.int .i64 p, .int .i64 y, .int .i64 v, .slice B m k] 68));have HR := hd_ (rowAtR_kept h HB.out);have HC := hd_ (rowAtR_rcs HR.out (Nat.le_refl _));have HE := hd_ fun W (hb : Below w.heap.size w W) => And.intro (hE.below hb) (hN.below hb)
 have HL := hd_ hl;have HI := hd_ fun W (hb : Below (w.alloc (.cells #[.int .i64 p, .int .i64 y, .int .i64 v, .slice B m k] 68)).heap.size (w.alloc (.cells #[.int .i64 p, .int .i64 y, .int .i64 v, .slice B m k] 68)) W) => rowAtR_kept HR.out hb
 have HD := hd_ hlen;have HO := hd_ hlo;clear h hE hN hlen hlo;have i0 : (0 : Int) ≤ (d.size : Int) := by omega
 go_enter Tryz.func134, Tryz.ntmps134
 go_wp2_with fail;refine (indexW_any (notLess_asks w.heap.size p y v (.slice B m k)) _ d.toList _ HC.out HX.out (by simp; omega)).mono ?_
 rintro e w1 ⟨⟨r, rfl, hr⟩, hb⟩;have H1 := hd_ (ba_ HB.out hb);have X1 := hd_ (ay_ HX.out hb);have R1 := hd_ (HI.out w1 hb);obtain ⟨c1, c2, c3, c4⟩ := ai_ X1.out;have B2 := hd_ (ah_ H1.out (ad_ w1 (.cells #[.int .i64 p, .int .i64 y, .int .i64 v, .slice B m k] 68)) (Nat.le_refl _));have R2 := hd_ (rowAtR_kept R1.out (ad_ w1 (.cells #[.int .i64 p, .int .i64 y, .int .i64 v, .slice B m k] 68)));have X2 := hd_ (av_ w1 p y v (.slice B m k));rw [HO.out] at hr;rcases hr with ⟨rfl, hn⟩ | ⟨j, hj, rfl, hj1, hj2⟩
 ·have HG := hd_ (insertG_none ((p, y), v, not) l hn)
  clear hn hb;go_wp2_with fail;refine (insert_end g w1.heap.size d p y v B m k _ R2.out X2.out HL.out).mono ?_
  rintro e w3 ⟨V, rfl, hc, hb⟩;have B3 := hd_ (ba_ B2.out hb)
  have HF := hd_ (show RowsAt w3 V (insertG ((p, y), v, not) l) from by
   obtain ⟨h1, h2⟩ := HE.out w3 B3.out;rw [HG.out];exact ⟨_, hc, h1.append (EachReads.one (show Reads w3 ((p, y), v, B, m, k) ((p, y), v, not) from ⟨rfl, rfl, h2⟩))⟩)
  clear hc hb;go_wp2_with fail;go_ret;exact ⟨V, rfl, HF.out, B3.out⟩
 ·have HG := hd_ (insertG_at ((p, y), v, not) l j hj hj1 hj2)
  have hjd : j < d.size := by rw [HD.out]; simpa [ids] using hj
  have i1 : (0 : Int) ≤ (j : Int) := by omega
  have i2 : ¬ ((j : Int) < 0) := by omega
  clear hj1 hj2 hb hj;go_wp2_with fail;refine (insert_mid g w1.heap.size j d p y v B m k _ R2.out X2.out HL.out hjd).mono ?_
  rintro e w3 ⟨V, rfl, hc, hb⟩;have B3 := hd_ (ba_ B2.out hb)
  have HF := hd_ (show RowsAt w3 V (insertG ((p, y), v, not) l) from by
   obtain ⟨h1, h2⟩ := HE.out w3 B3.out;rw [HG.out];exact ⟨_, hc, ((h1.take j).append (EachReads.one (show Reads w3 ((p, y), v, B, m, k) ((p, y), v, not) from ⟨rfl, rfl, h2⟩))).append (h1.drop j)⟩)
  clear hc hb;go_wp2_with fail;go_ret;exact ⟨V, rfl, HF.out, B3.out⟩
end
end Go.Proofs.YthkkipbmlafdiaaGreat
