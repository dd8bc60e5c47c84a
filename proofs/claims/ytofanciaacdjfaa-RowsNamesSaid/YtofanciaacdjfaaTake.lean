/-
  Walks over what counts of two rows, and over the first row of a list, if it is an ID's. No statement is proved in this text; it holds for every input that its premises let by.
-/
import Derived.Test.YtofanciaacdjfaaJoined
namespace Go.Proofs.Ytofanciaacdjfaa
open Go Go.RowKit Sets RowSets
/-- A list of an option that is not too long. -/
def SmallO (o : Option Row) : Prop := ∀ r, o = some r → r.2.2.length ≤ 20000
theorem joined_any (px py : Option Addr) (ox oy : Option Row) (w : World) (h1 : PRow w px ox) (h2 : PRow w py oy) (hne : ox ≠ none ∨ oy ≠ none) (b1 : SmallO ox) (b2 : SmallO oy) :
    Calls Try.prog 30 #[.pointer px, .pointer py] w (GivesRow (joinedO ox oy) w) := by
  cases ox with
  | none =>
    obtain rfl : px = none := h1
    cases oy with
    | none => rcases hne with h | h <;> exact absurd rfl h
    | some s => exact joined_right py s w h2 (by have := b2 s rfl; omega)
  | some r =>
    have hr := b1 r rfl
    cases oy with
    | none =>
      obtain rfl : py = none := h2
      exact joined_left px r w h1 (by omega)
    | some s =>
      have hs := b2 s rfl
      have ej : joinedO (some r) (some s) = if s.2.1 < r.2.1 then r else if r.2.1 < s.2.1 then s else (r.1, r.2.1, join r.2.2 s.2.2) := rfl
      rw [ej]
      by_cases e1 : s.2.1 < r.2.1
      · rw [if_pos e1]
        exact joined_more px py r s w h1 h2 (by omega) e1
      · by_cases e2 : r.2.1 < s.2.1
        · rw [if_neg e1, if_pos e2]
          exact joined_less px py s r w h1 h2 (by omega) e2
        · rw [if_neg e1, if_neg e2]
          exact joined_equal px py r s w h1 h2 hr hs (by omega)
/-- Rows whose structs lie in memory from lo on, ahead of hi. -/
def LiesW (lo hi : Nat) (w : World) (v : Value) (qs : List Raw) : Prop := Rcs encW 4 w v qs ∧ ∀ ad n c, v = .slice (some ad) n c → 0 < qs.length → lo ≤ ad.block ∧ ad.block < hi
def LiesI (lo hi : Nat) (w : World) (v : Value) (l : List Id2) : Prop := Ids w v l ∧ ∀ ad n c, v = .slice (some ad) n c → 0 < l.length → lo ≤ ad.block ∧ ad.block < hi
/-- What is kept between lo and hi. -/
def Mid (lo hi : Nat) (w w' : World) : Prop := w.heap.size ≤ w'.heap.size ∧ ∀ k, lo ≤ k → k < hi → w'.heap[k]? = w.heap[k]?
theorem mid_below {lo hi : Nat} {w w' : World} (hb : Below w.heap.size w w') (h : hi ≤ w.heap.size) : Mid lo hi w w' := ⟨hb.size, fun k _ hk => hb.block k (by omega)⟩
theorem LiesW.mid {lo hi : Nat} {w w' : World} {v : Value} {qs : List Raw} (h : LiesW lo hi w v qs) (hm : Mid lo hi w w') : LiesW lo hi w' v qs := by
  obtain ⟨⟨A, c, rfl, h0, hc, hk⟩, hb⟩ := h
  refine ⟨⟨A, c, rfl, h0, hc, fun k hlt => ?_⟩, hb⟩
  obtain ⟨ad, rfl, h1, h2⟩ := hk k hlt
  obtain ⟨b1, b2⟩ := hb ad _ _ rfl (by omega)
  refine ⟨ad, rfl, Nat.lt_of_lt_of_le h1 hm.1, fun j u hu => ?_⟩
  rw [World.cell?_of_block (w := w) (by rw [addr_block]; exact hm.2 _ b1 b2)]
  exact h2 j u hu
theorem LiesI.mid {lo hi : Nat} {w w' : World} {v : Value} {l : List Id2} (h : LiesI lo hi w v l) (hm : Mid lo hi w w') : LiesI lo hi w' v l := by
  obtain ⟨⟨A, c, rfl, h0, hc, hk⟩, hb⟩ := h
  refine ⟨⟨A, c, rfl, h0, hc, fun k hlt => ?_⟩, hb⟩
  obtain ⟨ad, rfl, h1, c1, c2⟩ := hk k hlt
  obtain ⟨b1, b2⟩ := hb ad _ _ rfl (by omega)
  refine ⟨ad, rfl, Nat.lt_of_lt_of_le h1 hm.1, ?_, ?_⟩
  · rw [World.cell?_of_block (w := w) (by rw [block_of_add]; exact hm.2 _ b1 b2)]
    exact c1
  · rw [World.cell?_of_block (w := w) (by show w'.heap[(ad.add (k * 2)).block]? = _; rw [block_of_add]; exact hm.2 _ b1 b2)]
    exact c2
theorem liesW_of {lo hi : Nat} {w : World} {v : Value} {qs : List Raw} (h : OwnsW w lo v qs) (hh : w.heap.size ≤ hi) : LiesW lo hi w v qs := by
  refine ⟨rcs_owns encW_len h, fun ad n c e _ => ?_⟩
  have := World.ownsRow.lt h ad.block (by rw [e]; rfl)
  omega
theorem liesI_of {lo hi : Nat} {w : World} {v : Value} {l : List Id2} (h : OwnsI w lo v l) (hh : w.heap.size ≤ hi) : LiesI lo hi w v l := by
  refine ⟨ownsI_ids h, fun ad n c e _ => ?_⟩
  have := World.ownsRow.lt h ad.block (by rw [e]; rfl)
  omega
/-- The first raw row, if it is this ID's; what is left. -/
def hdQ (x : Id2) : List Raw → Option Raw
  | [] => none
  | q :: _ => if q.1 = x then some q else none
def tlQ (x : Id2) : List Raw → List Raw
  | [] => []
  | q :: qs => if q.1 = x then qs else q :: qs
theorem hdQ_cons (x : Id2) (q : Raw) (qs : List Raw) : hdQ x (q :: qs) = if q.1 = x then some q else none := rfl
theorem tlQ_cons (x : Id2) (q : Raw) (qs : List Raw) : tlQ x (q :: qs) = if q.1 = x then qs else q :: qs := rfl
def PRawO (w : World) (p : Option Addr) : Option Raw → Prop
  | none => p = none
  | some q => PRaw w p q
theorem taken_row {w w' : World} {qs : List Raw} {l : List Row} {x : Id2} {p : Option Addr} (h : EachReads w qs l) (hb : Below w.heap.size w w') (hp : PRawO w' p (hdQ x qs)) : PRow w' p (hd x l) ∧ EachReads w (tlQ x qs) (tl x l) := by
  cases qs with
  | nil =>
    cases l with
    | nil => exact ⟨hp, trivial⟩
    | cons r l => exact h.elim
  | cons q qs =>
    cases l with
    | nil => exact h.elim
    | cons r l =>
      rw [hdQ_cons] at hp
      rw [hd_cons, tlQ_cons, tl_cons]
      have e : q.1 = r.1 := h.1.1
      by_cases e2 : q.1 = x
      · rw [if_pos e2] at hp ⊢
        rw [if_pos (e ▸ e2), if_pos (e ▸ e2)]
        exact ⟨⟨q, hp, h.1.below hb⟩, h.2⟩
      · rw [if_neg e2] at hp ⊢
        rw [if_neg (fun h => e2 (e.trans h)), if_neg (fun h => e2 (e.trans h))]
        exact ⟨hp, h⟩
theorem elem27 : Try.prog.elem 27 = 26 := by kernel_rfl
theorem size26 (W : World) : (sizeOf 26).run Try.prog W = .ok 4 W := by kernel_rfl
theorem under27 : Try.prog.underlying 27 = some (.slice (Try.prog.elem 27)) := by rw [elem27]; exact Try.underlying27
/-- The first one of a list. -/
theorem headW {w : World} {v : Value} {q : Raw} {qs : List Raw} (h : Rcs encW 4 w v (q :: qs)) :
    ∃ ad c, v = .slice (some ad) (qs.length + 1) c ∧ ∀ w', Below w.heap.size w w' → PRaw w' (some ad) q := by
  obtain ⟨A, c, rfl, _⟩ := id h
  obtain ⟨ad, rfl⟩ := h.addr (by simp)
  refine ⟨ad, c, rfl, fun w' hb => ?_⟩
  obtain ⟨ad', e, c1, c2, c3, c4⟩ := h.raw hb (k := 0) (by simp)
  injection e with e
  subst e
  rw [Nat.zero_mul, add_zero'] at c1 c2 c3 c4
  obtain ⟨A', c', hv, _, _, hk⟩ := h
  injection hv with e1 e2 e3
  obtain ⟨ad', e, h1, _⟩ := hk 0 (by simp)
  rw [← e1] at e
  injection e with e
  subst e
  exact ⟨ad, rfl, Nat.lt_of_lt_of_le h1 hb.size, c1, c2, c3, c4⟩
/-- All but the first one of a list. -/
theorem tailW {lo hi : Nat} {w : World} {v : Value} {q : Raw} {qs : List Raw} (h : LiesW lo hi w v (q :: qs)) :
    ∃ V, (∀ W, (Instr.slice 27 v (some (.int .i64 1)) none none).run Try.prog W = .ok V W) ∧ LiesW lo hi w V qs := by
  obtain ⟨hr, hb⟩ := h
  obtain ⟨A, c, rfl, h0, hc, hx⟩ := id hr
  obtain ⟨ad, rfl⟩ := hr.addr (by simp)
  have hb2 := hb ad _ _ rfl (by simp)
  refine ⟨sliced (some ad) 1 (q :: qs).length c 4, fun W => ?_, ?_⟩
  · rw [run_slice_l (w := W) (P := Try.prog) 27 (some ad) (q :: qs).length c under27 .i64 1 (by omega) (by simp; omega)]
    rw [elem27, size26]
    rfl
  · unfold Go.sliced
    split
    · rename_i e
      subst e
      have : qs = [] := List.eq_nil_of_length_eq_zero (by simp only [List.length_cons] at hc; omega)
      subst this
      exact ⟨⟨some ad, 0, rfl, (fun h => by cases h), by simp, fun k hk => absurd hk (by simp)⟩, fun ad n c e hl => absurd hl (by simp)⟩
    · have hd := Rcs.drop (k := 1) (by omega) hr (by simp) (by omega)
      refine ⟨hd, fun ad' n c' e _ => ?_⟩
      injection e with e
      injection e with e
      subst e
      rw [addr_block]
      exact hb2
set_option maxHeartbeats 1000000 in
theorem take_any (lo hi : Nat) (v : Value) (qs : List Raw) (x y : Int) (w : World) (h : LiesW lo hi w v qs) (hl : qs.length ≤ 100000) :
    Calls Try.prog 55 #[v, .agg #[.int .i64 x, .int .i64 y]] w fun e w' => ∃ p V, e = .returned (.tuple #[.pointer p, V]) ∧ PRawO w' p (hdQ (x, y) qs) ∧ LiesW lo hi w V (tlQ (x, y) qs) ∧ Below w.heap.size w w' := by
  have HB := Lib.hid (show Below w.heap.size w (w.alloc (.cells #[.int .i64 x, .int .i64 y] 23)) from below_one _ _)
  cases qs with
  | nil =>
    obtain ⟨⟨A, c, rfl, h0, hc, hx⟩, hb⟩ := id h
    have HH := Lib.hid h
    clear hx hb h
    go_enter Try.func55, Try.ntmps55
    go_wp2_with fail
    go_quiet (fail)
    go_wp2_with fail
    refine bodyPost_ret (v := .tuple #[.pointer none, .slice A 0 c]) (by simp [results, Try.results55, go_sem]) rfl ?_
    exact ⟨_, _, rfl, rfl, HH.out, below_drewN HB.out⟩
  | cons q qs =>
    obtain ⟨ad, c, rfl, hc⟩ := headW h.1
    obtain ⟨V, hV, hL⟩ := tailW h
    have HH := Lib.hid h
    have HL := Lib.hid hL
    have HC := Lib.hid hc
    have hlz : ((qs.length : Int) + 1 == 0) = false := by simp; omega
    have i3 : (0 : Int) < (qs.length : Int) + 1 := by omega
    have hq1 : (qs.length : Int) + 1 ≤ 100000 := by simp at hl; omega
    obtain ⟨x1, x2⟩ := box_cells (box_new w x y)
    clear h hL hc
    obtain ⟨ad', e, _, c1, c2, _⟩ := HC.out _ HB.out
    injection e with e
    subst e
    by_cases he : q.1 = (x, y)
    · have HN := Lib.hid (show hdQ (x, y) (q :: qs) = some q by rw [hdQ_cons, if_pos he])
      have HT := Lib.hid (show tlQ (x, y) (q :: qs) = qs by rw [tlQ_cons, if_pos he])
      have e1 : q.1.1 = x := by rw [he]
      have e2 : q.1.2 = y := by rw [he]
      rw [HN.out, HT.out]
      rw [e1] at c1
      rw [e2] at c2
      clear he e1 e2
      go_enter Try.func55, Try.ntmps55
      go_wp2_with fail
      go_quiet (fail)
      go_wp2_with fail
      go_quiet (fail)
      go_wp2_with fail
      refine bodyPost_ret (v := .tuple #[.pointer (some ad), V]) (by simp [results, Try.results55, go_sem]) rfl ?_
      exact ⟨_, _, rfl, HC.out _ (below_drewN (below_drewN HB.out)), HL.out, below_drewN (below_drewN HB.out)⟩
    · have HN := Lib.hid (show hdQ (x, y) (q :: qs) = none by rw [hdQ_cons, if_neg he])
      have HT := Lib.hid (show tlQ (x, y) (q :: qs) = q :: qs by rw [tlQ_cons, if_neg he])
      rw [HN.out, HT.out]
      by_cases h1 : q.1.1 = x
      · have h2 : (q.1.2 == y) = false := by
          simp only [beq_eq_false_iff_ne]
          exact fun e => he (by rw [← h1, ← e])
        have h3 : (q.1.2 != y) = true := by simpa using h2
        have h4 : (q.1.1 == x) = true := by simpa using h1
        rw [h1] at c1 h4
        clear he h1
        go_enter Try.func55, Try.ntmps55
        go_wp2_with fail
        go_quiet (fail)
        go_wp2_with fail
        refine bodyPost_ret (v := .tuple #[.pointer none, .slice (some ad) (qs.length + 1) c]) (by simp [results, Try.results55, go_sem]) rfl ?_
        exact ⟨_, _, rfl, rfl, HH.out, below_drewN HB.out⟩
      · have h2 : (q.1.1 == x) = false := by simpa using h1
        have h3 : (q.1.1 != x) = true := by simpa using h1
        clear he
        go_enter Try.func55, Try.ntmps55
        go_wp2_with fail
        go_quiet (fail)
        go_wp2_with fail
        refine bodyPost_ret (v := .tuple #[.pointer none, .slice (some ad) (qs.length + 1) c]) (by simp [results, Try.results55, go_sem]) rfl ?_
        exact ⟨_, _, rfl, rfl, HH.out, below_drewN HB.out⟩
end Go.Proofs.Ytofanciaacdjfaa
