/-
  Carried over and put together: contracts of this program's functions, and plain facts. No statement is proved in this text.
-/
import Derived.Test.YtloghkiabgnpnaaDoorH05
import Derived.Test.YtloghkiabgnpnaaDoorH10
import Derived.Test.YtloghkiabgnpnaaDoorH11
set_option maxRecDepth 20000
set_option maxRecDepth 200000
namespace Go.Proofs.YtloghkiabgnpnaaDoor
open Go Go.RowKit
/-- What a view says. -/
structure Vw where
  m : List Ros.Mm
  f : List Sets.Id2
  r : List RowSets.Row
  c : List Clocks.Tick
  s : List Sets.Id2
/-- A slice's parts. -/
abbrev SL := Option Addr × Nat × Nat
/-- Five slices read as a view. -/
structure RV (w : World) (a b c d e : SL) (V : Vw) : Prop where
  m : Ms w (.slice a.1 a.2.1 a.2.2) V.m
  f : Ids w (.slice b.1 b.2.1 b.2.2) V.f
  r : RowsAt w (.slice c.1 c.2.1 c.2.2) V.r
  c : Rcs encT 3 w (.slice d.1 d.2.1 d.2.2) V.c
  s : Ids w (.slice e.1 e.2.1 e.2.2) V.s
theorem RV.below {w w' : World} {a b c d e : SL} {V : Vw} (h : RV w a b c d e V) (hb : Below w.heap.size w w') : RV w' a b c d e V := ⟨h.m.below hb, h.f.below hb, h.r.below hb, h.c.below hb, h.s.below hb⟩
theorem rcs_len {α : Type} [Inhabited α] {enc : α → List Value} {sz : Nat} {w : World} {A : Option Addr} {n c : Nat} {l : List α} (h : Rcs enc sz w (.slice A n c) l) : n = l.length := by
  obtain ⟨A', c', hv, _⟩ := h
  injection hv
theorem ids_len {w : World} {A : Option Addr} {n c : Nat} {l : List Sets.Id2} (h : Ids w (.slice A n c) l) : n = l.length := by
  obtain ⟨A', c', hv, _⟩ := h
  injection hv
theorem rows_len {w : World} {A : Option Addr} {n c : Nat} {l : List RowSets.Row} (h : RowsAt w (.slice A n c) l) : n = l.length := by
  obtain ⟨A', c', hv, _⟩ := h.shape
  injection hv
/-- The value v is a view, and reads as V. -/
def VAt (w : World) (v : Value) (V : Vw) : Prop := ∃ a b c d e : SL, v = .agg #[.slice a.1 a.2.1 a.2.2, .slice b.1 b.2.1 b.2.2, .slice c.1 c.2.1 c.2.2, .slice d.1 d.2.1 d.2.2, .slice e.1 e.2.1 e.2.2] ∧ RV w a b c d e V
theorem VAt.below {w w' : World} {v : Value} {V : Vw} (h : VAt w v V) (hb : Below w.heap.size w w') : VAt w' v V := by
  obtain ⟨a, b, c, d, e, h1, h2⟩ := h
  exact ⟨a, b, c, d, e, h1, h2.below hb⟩
theorem sl_rcs {α : Type} [Inhabited α] {enc : α → List Value} {sz : Nat} {w : World} {v : Value} {l : List α} (h : Rcs enc sz w v l) : ∃ a : SL, v = .slice a.1 a.2.1 a.2.2 := by
  obtain ⟨A, c, hv, _⟩ := h
  exact ⟨(A, l.length, c), hv⟩
theorem sl_ids {w : World} {v : Value} {l : List Sets.Id2} (h : Ids w v l) : ∃ a : SL, v = .slice a.1 a.2.1 a.2.2 := by
  obtain ⟨A, c, hv, _⟩ := h
  exact ⟨(A, l.length, c), hv⟩
theorem sl_rows {w : World} {v : Value} {l : List RowSets.Row} (h : RowsAt w v l) : ∃ a : SL, v = .slice a.1 a.2.1 a.2.2 := by
  obtain ⟨A, c, hv, _⟩ := h.shape
  exact ⟨(A, l.length, c), hv⟩
theorem vAt_of {w : World} {a b c d e : Value} {m : List Ros.Mm} {f : List Sets.Id2} {r : List RowSets.Row} {t : List Clocks.Tick} {s : List Sets.Id2} (h1 : Ms w a m) (h2 : Ids w b f) (h3 : RowsAt w c r) (h4 : Rcs encT 3 w d t) (h5 : Ids w e s) : VAt w (.agg #[a, b, c, d, e]) ⟨m, f, r, t, s⟩ := by
  obtain ⟨a, rfl⟩ := sl_rcs h1
  obtain ⟨b, rfl⟩ := sl_ids h2
  obtain ⟨c, rfl⟩ := sl_rows h3
  obtain ⟨d, rfl⟩ := sl_rcs h4
  obtain ⟨e, rfl⟩ := sl_ids h5
  exact ⟨a, b, c, d, e, rfl, h1, h2, h3, h4, h5⟩
/-- Block g holds five slices. -/
def VBox (w : World) (g : Nat) (a b c d e : SL) : Prop := w.heap[g]? = some (.cells #[.slice a.1 a.2.1 a.2.2, .slice b.1 b.2.1 b.2.2, .slice c.1 c.2.1 c.2.2, .slice d.1 d.2.1 d.2.2, .slice e.1 e.2.1 e.2.2] 29 (0, 0))
theorem vbox_cells {w : World} {g : Nat} {a b c d e : SL} (h : VBox w g a b c d e) : w.cell? ⟨g, 0, none⟩ = some (.slice a.1 a.2.1 a.2.2) ∧ w.cell? ⟨g, 1, none⟩ = some (.slice b.1 b.2.1 b.2.2) ∧ w.cell? ⟨g, 2, none⟩ = some (.slice c.1 c.2.1 c.2.2) ∧ w.cell? ⟨g, 3, none⟩ = some (.slice d.1 d.2.1 d.2.2) ∧ w.cell? ⟨g, 4, none⟩ = some (.slice e.1 e.2.1 e.2.2) := by
  unfold VBox at h
  exact ⟨by rw [cell_of_row _ _ 0 _ _ _ h]; rfl, by rw [cell_of_row _ _ 1 _ _ _ h]; rfl, by rw [cell_of_row _ _ 2 _ _ _ h]; rfl, by rw [cell_of_row _ _ 3 _ _ _ h]; rfl, by rw [cell_of_row _ _ 4 _ _ _ h]; rfl⟩
theorem vbox_free {w : World} {g : Nat} {a b c d e : SL} (h : VBox w g a b c d e) : w.frozen? ⟨g, 0, none⟩ = false ∧ w.frozen? ⟨g, 1, none⟩ = false ∧ w.frozen? ⟨g, 2, none⟩ = false ∧ w.frozen? ⟨g, 3, none⟩ = false ∧ w.frozen? ⟨g, 4, none⟩ = false := by
  unfold VBox at h
  exact ⟨by simp [World.frozen?, h], by simp [World.frozen?, h], by simp [World.frozen?, h], by simp [World.frozen?, h], by simp [World.frozen?, h]⟩
theorem vbox_new (w : World) (a b c d e : SL) : VBox (w.alloc (.cells #[.slice a.1 a.2.1 a.2.2, .slice b.1 b.2.1 b.2.2, .slice c.1 c.2.1 c.2.2, .slice d.1 d.2.1 d.2.2, .slice e.1 e.2.1 e.2.2] 29)) w.heap.size a b c d e := heap_alloc_new w _
theorem vbox_lt {w : World} {g : Nat} {a b c d e : SL} (h : VBox w g a b c d e) : g < w.heap.size := row_lt h
theorem vbox_below {w w' : World} {g : Nat} {a b c d e : SL} (h : VBox w g a b c d e) (hb : Below w.heap.size w w') : VBox w' g a b c d e := (hb.block _ (vbox_lt h)).trans h
theorem vbox_set {w : World} {g : Nat} {a b c d e : SL} (h : VBox w g a b c d e) (a' b' c' d' e' : SL) : VBox (((((w.setCell ⟨g, 0, none⟩ (.slice a'.1 a'.2.1 a'.2.2)).setCell ⟨g, 1, none⟩ (.slice b'.1 b'.2.1 b'.2.2)).setCell ⟨g, 2, none⟩ (.slice c'.1 c'.2.1 c'.2.2)).setCell ⟨g, 3, none⟩ (.slice d'.1 d'.2.1 d'.2.2)).setCell ⟨g, 4, none⟩ (.slice e'.1 e'.2.1 e'.2.2)) g a' b' c' d' e' := by
  unfold VBox at *
  simp [World.setCell, Array.getElem?_modify, h]
/-- Block g holds the view V. -/
def HoldsV (w : World) (g : Nat) (V : Vw) : Prop := ∃ a b c d e : SL, VBox w g a b c d e ∧ RV w a b c d e V
theorem HoldsV.below {w w' : World} {g : Nat} {V : Vw} (h : HoldsV w g V) (hb : Below w.heap.size w w') : HoldsV w' g V := by
  obtain ⟨a, b, c, d, e, h1, h2⟩ := h
  exact ⟨a, b, c, d, e, vbox_below h1 hb, h2.below hb⟩
theorem RV.at_ {w : World} {a b c d e : SL} {V : Vw} (h : RV w a b c d e V) : VAt w (.agg #[.slice a.1 a.2.1 a.2.2, .slice b.1 b.2.1 b.2.2, .slice c.1 c.2.1 c.2.2, .slice d.1 d.2.1 d.2.2, .slice e.1 e.2.1 e.2.2]) V := ⟨a, b, c, d, e, rfl, h⟩
/-- All lists of a view are at most n long. -/
structure Fit (n : Nat) (V : Vw) : Prop where
  m : V.m.length ≤ n
  f : V.f.length ≤ n
  r : V.r.length ≤ n
  c : V.c.length ≤ n
  s : V.s.length ≤ n
  n : ∀ r ∈ V.r, r.2.2.length ≤ n
theorem Fit.mono {n k : Nat} {V : Vw} (h : Fit n V) (hk : n ≤ k) : Fit k V := ⟨Nat.le_trans h.m hk, Nat.le_trans h.f hk, Nat.le_trans h.r hk, Nat.le_trans h.c hk, Nat.le_trans h.s hk, fun r hr => Nat.le_trans (h.n r hr) hk⟩
end Go.Proofs.YtloghkiabgnpnaaDoor
namespace Go.Proofs.YtloghkiabgnpnaaDoor
namespace Agr
open Sets
abbrev Mm := Ros.Mm
abbrev Row := RowSets.Row
/-- The status of the first entry of an ID. -/
def st (m : List Mm) (y : Sets.Id2) : Int := ((getO m y).getD noneM).2.1
/-- Is an ID a member? -/
def isMem (m : List Mm) (y : Sets.Id2) : Bool := (getO m y).isSome
theorem isMem_iff {m : List Mm} {y : Sets.Id2} : isMem m y = true ↔ y ∈ idsM m := by
  unfold isMem getO idsM
  rw [List.find?_isSome, List.mem_map]
  constructor
  · rintro ⟨x, hx, h⟩
    exact ⟨x, hx, isM_iff.1 h⟩
  · rintro ⟨x, hx, rfl⟩
    exact ⟨x, hx, isM_iff.2 rfl⟩
theorem getO_id {m : List Mm} {y : Sets.Id2} (h : y ∈ idsM m) : ((getO m y).getD noneM).1 = y := by
  have h1 := isMem_iff.2 h
  obtain ⟨x, hx⟩ := Option.isSome_iff_exists.1 h1
  rw [hx]
  exact isM_iff.1 (List.find?_some hx)
/-- The IDs of the members whose status is in question. -/
def chosenL (p : Int → Bool) (m : List Mm) : List Sets.Id2 := ((firstsL m).filter fun x => p x.2.1).map (·.1)
theorem chosenL_is (p : Int → Bool) (m : List Mm) : chosenL p m = (setOf (idsM m)).filter fun y => p (st m y) := by
  unfold chosenL firstsL
  rw [List.filter_map, List.map_map]
  have h : ∀ y ∈ (setOf (idsM m)).filter ((fun x => p x.2.1) ∘ fun y => (getO m y).getD noneM), ((fun x : Mm => x.1) ∘ fun y => (getO m y).getD noneM) y = id y := fun y hy => getO_id ((mem_setOf _ _).1 (List.mem_filter.1 hy).1)
  rw [List.map_congr_left h, List.map_id]
  rfl
theorem mem_chosen {p : Int → Bool} {m : List Mm} {y : Sets.Id2} : y ∈ chosenL p m ↔ y ∈ idsM m ∧ p (st m y) = true := by
  rw [chosenL_is, List.mem_filter, mem_setOf]
theorem rises_chosen (p : Int → Bool) (m : List Mm) : Rises (chosenL p m) := by
  rw [chosenL_is]
  exact List.Pairwise.filter _ (rises_setOf _)
theorem chosen_len (p : Int → Bool) (m : List Mm) : (chosenL p m).length ≤ m.length := by
  unfold chosenL
  rw [List.length_map]
  exact Nat.le_trans (List.length_filter_le _ _) (firstsL_len m)
/-- Does a row count? -/
def saysB (m : List Mm) (r : Row) : Bool := isMem m r.1 && decide (st m r.1 < 6)
/-- Is an ID said to be not reached? -/
def notB (m : List Mm) (rs : List Row) (y : Sets.Id2) : Bool := rs.any fun r => saysB m r && (decide (r.1 ≠ y) && decide (y ∈ r.2.2))
def notL (m : List Mm) (rs : List Row) : List Sets.Id2 := rs.flatMap fun r => if r.1 ∈ chosenL (fun s => decide (s < 6)) m then del r.2.2 r.1 else []
/-- All that are not reached. -/
def nr (m : List Mm) (rs : List Row) : List Sets.Id2 := both (notL m rs) (chosenL (fun _ => true) m)
theorem saysB_iff {m : List Mm} {r : Row} : saysB m r = true ↔ r.1 ∈ chosenL (fun s => decide (s < 6)) m := by
  unfold saysB
  rw [mem_chosen, Bool.and_eq_true, isMem_iff]
theorem notB_iff {m : List Mm} {rs : List Row} {y : Sets.Id2} : notB m rs y = true ↔ ∃ r ∈ rs, saysB m r = true ∧ r.1 ≠ y ∧ y ∈ r.2.2 := by
  unfold notB
  rw [List.any_eq_true]
  simp
theorem mem_notL {m : List Mm} {rs : List Row} {y : Sets.Id2} : y ∈ notL m rs ↔ notB m rs y = true := by
  unfold notL
  rw [notB_iff, List.mem_flatMap]
  constructor
  · rintro ⟨r, hr, h⟩
    by_cases c : r.1 ∈ chosenL (fun s => decide (s < 6)) m
    · rw [if_pos c, mem_del] at h
      exact ⟨r, hr, saysB_iff.2 c, fun e => h.2 e.symm, h.1⟩
    · rw [if_neg c] at h
      cases h
  · rintro ⟨r, hr, h1, h2, h3⟩
    exact ⟨r, hr, by rw [if_pos (saysB_iff.1 h1), mem_del]; exact ⟨h3, fun e => h2 e.symm⟩⟩
theorem mem_nr {m : List Mm} {rs : List Row} {y : Sets.Id2} : y ∈ nr m rs ↔ y ∈ idsM m ∧ notB m rs y = true := by
  unfold nr
  rw [mem_both, mem_notL, mem_chosen]
  constructor
  · rintro ⟨h1, h2, _⟩
    exact ⟨h2, h1⟩
  · rintro ⟨h1, h2⟩
    exact ⟨h2, h1, rfl⟩
theorem rises_nr (m : List Mm) (rs : List Row) : Rises (nr m rs) := rises_both _ _
theorem nr_len (m : List Mm) (rs : List Row) : (nr m rs).length ≤ m.length := by
  unfold nr
  rw [both_comm]
  refine Nat.le_trans (setOf_len _) (Nat.le_trans (List.length_filter_le _ _) (chosen_len _ _))
/-- Is an ID a member that is reached? -/
def reachedB (m : List Mm) (rs : List Row) (y : Sets.Id2) : Bool := isMem m y && !notB m rs y
theorem reached_is (m : List Mm) (rs : List Row) (y : Sets.Id2) : (isMem m y && !hasB y (nr m rs)) = reachedB m rs y := by
  unfold reachedB hasB
  rcases h : isMem m y with _ | _
  · rfl
  · have h1 := isMem_iff.1 h
    congr 2
    rcases c : notB m rs y with _ | _
    · exact decide_eq_false fun e => by rw [(mem_nr.1 e).2] at c; cases c
    · exact decide_eq_true (mem_nr.2 ⟨h1, c⟩)
def voterB (s : Int) : Bool := decide (s = 3) || decide (s = 4)
def awaitB (s : Int) : Bool := !decide (s = 5) && !decide (s = 6)
/-- Is there somebody, and have all seen it? -/
def seenB (s l : List Sets.Id2) : Bool := decide (0 < l.length) && decide ((without l s).length = 0)
theorem seenB_iff {s l : List Sets.Id2} : seenB s l = true ↔ l ≠ [] ∧ ∀ y ∈ l, y ∈ s := by
  unfold seenB
  rw [Bool.and_eq_true, decide_eq_true_iff, decide_eq_true_iff, List.length_pos_iff, List.length_eq_zero_iff]
  refine and_congr_right fun _ => ?_
  constructor
  · intro h y hy
    by_cases c : y ∈ s
    · exact c
    · have := (mem_without l s y).2 ⟨hy, c⟩
      rw [h] at this
      cases this
  · intro h
    refine List.eq_nil_iff_forall_not_mem.2 fun y hy => ?_
    obtain ⟨h1, h2⟩ := (mem_without l s y).1 hy
    exact h2 (h y h1)
def allB (m : List Mm) (rs : List Row) (s : List Sets.Id2) : Bool := seenB s (chosenL voterB m) && decide ((both (chosenL awaitB m) (nr m rs)).length = 0)
def reachB (m : List Mm) (rs : List Row) (s : List Sets.Id2) : Bool := seenB s (without (chosenL voterB m) (nr m rs))
/-- The statuses of a rank. -/
def rankP (a b : Int) (s : Int) : Bool := decide (a ≤ s) && decide (s ≤ b)
def ofRank (m : List Mm) (rs : List Row) (a b : Int) : List Sets.Id2 := without (chosenL (rankP a b) m) (nr m rs)
/-- The leader, where there is one. -/
def leadO (m : List Mm) (rs : List Row) : Option Sets.Id2 :=
  match ofRank m rs 3 4 with
  | y :: _ => some y
  | [] => match ofRank m rs 2 2 with
    | y :: _ => some y
    | [] => match ofRank m rs 1 1 with
      | y :: _ => some y
      | [] => none
theorem mem_ofRank {m : List Mm} {rs : List Row} {a b : Int} {y : Sets.Id2} : y ∈ ofRank m rs a b ↔ reachedB m rs y = true ∧ a ≤ st m y ∧ st m y ≤ b := by
  unfold ofRank reachedB rankP
  rw [mem_without, mem_chosen, mem_nr, Bool.and_eq_true, Bool.and_eq_true, isMem_iff, decide_eq_true_iff, decide_eq_true_iff]
  constructor
  · rintro ⟨⟨h1, h2⟩, h3⟩
    refine ⟨⟨h1, ?_⟩, h2⟩
    rcases c : notB m rs y with _ | _
    · rfl
    · exact absurd ⟨h1, c⟩ h3
  · rintro ⟨⟨h1, h2⟩, h3⟩
    refine ⟨⟨h1, h3⟩, fun h => ?_⟩
    rw [h.2] at h2
    cases h2
theorem rises_ofRank (m : List Mm) (rs : List Row) (a b : Int) : Rises (ofRank m rs a b) := rises_without _ _
/-- A status's rank: the lesser, the sooner one leads; 0: never. -/
def rk (s : Int) : Int := if s = 3 ∨ s = 4 then 1 else if s = 2 then 2 else if s = 1 then 3 else 0
/-- Is an ID one of those of whom one leads, and is there none ahead of it? -/
structure Best (m : List Mm) (rs : List Row) (y : Sets.Id2) : Prop where
  is : reachedB m rs y = true
  rank : rk (st m y) ≠ 0
  best : ∀ z, reachedB m rs z = true → rk (st m z) ≠ 0 → rk (st m y) < rk (st m z) ∨ rk (st m y) = rk (st m z) ∧ ¬ lt z y
theorem best_one {m : List Mm} {rs : List Row} {y z : Sets.Id2} (h : Best m rs y) (k : Best m rs z) : y = z := by
  have h1 := h.best z k.is k.rank
  have h2 := k.best y h.is h.rank
  rcases lt_total y z with c | c | c
  · rcases h2 with e | e
    · rcases h1 with f | f
      · omega
      · omega
    · exact absurd c e.2
  · exact c
  · rcases h1 with e | e
    · rcases h2 with f | f
      · omega
      · omega
    · exact absurd c e.2
theorem rk_spec (s : Int) : (rk s = 1 ↔ 3 ≤ s ∧ s ≤ 4) ∧ (rk s = 2 ↔ 2 ≤ s ∧ s ≤ 2) ∧ (rk s = 3 ↔ 1 ≤ s ∧ s ≤ 1) ∧ (rk s = 0 ∨ rk s = 1 ∨ rk s = 2 ∨ rk s = 3) := by
  unfold rk
  split
  · omega
  · split
    · omega
    · split <;> omega
theorem head_least {l : List Sets.Id2} {y z : Sets.Id2} {t : List Sets.Id2} (h : Rises l) (e : l = y :: t) (hz : z ∈ l) : ¬ lt z y := by
  subst e
  rcases List.mem_cons.1 hz with rfl | hz
  · exact lt_irrefl _
  · exact lt_asymm ((rises_cons.1 h).1 z hz)
theorem leadO_some {m : List Mm} {rs : List Row} {y : Sets.Id2} (h : leadO m rs = some y) : Best m rs y := by
  have key : ∀ a b (k : Int) t, ofRank m rs a b = y :: t → (∀ s, rk s = k ↔ a ≤ s ∧ s ≤ b) → k ≠ 0 → (∀ z, reachedB m rs z = true → rk (st m z) ≠ 0 → k ≤ rk (st m z)) → Best m rs y := by
    intro a b k t e hk h0 hb
    have hy : y ∈ ofRank m rs a b := by rw [e]; simp
    obtain ⟨h1, h2⟩ := mem_ofRank.1 hy
    have hy2 := (hk _).2 h2
    refine ⟨h1, by rw [hy2]; exact h0, fun z hz hz0 => ?_⟩
    have := hb z hz hz0
    by_cases c : rk (st m z) = k
    · exact .inr ⟨hy2.trans c.symm, head_least (rises_ofRank _ _ _ _) e (mem_ofRank.2 ⟨hz, (hk _).1 c⟩)⟩
    · exact .inl (by omega)
  have none_of : ∀ a b (k : Int), ofRank m rs a b = [] → (∀ s, rk s = k ↔ a ≤ s ∧ s ≤ b) → ∀ z, reachedB m rs z = true → rk (st m z) ≠ k := by
    intro a b k e hk z hz c
    have := mem_ofRank.2 ⟨hz, (hk _).1 c⟩
    rw [e] at this
    cases this
  unfold leadO at h
  split at h
  · rename_i y' t e
    obtain rfl := Option.some.inj h
    exact key 3 4 1 t e (fun s => (rk_spec s).1) (by decide) fun z _ h0 => by have := (rk_spec (st m z)).2.2.2; omega
  · rename_i e1
    split at h
    · rename_i y' t e
      obtain rfl := Option.some.inj h
      exact key 2 2 2 t e (fun s => (rk_spec s).2.1) (by decide) fun z hz h0 => by have := (rk_spec (st m z)).2.2.2; have := none_of 3 4 1 e1 (fun s => (rk_spec s).1) z hz; omega
    · rename_i e2
      split at h
      · rename_i y' t e
        obtain rfl := Option.some.inj h
        exact key 1 1 3 t e (fun s => (rk_spec s).2.2.1) (by decide) fun z hz h0 => by have := (rk_spec (st m z)).2.2.2; have := none_of 3 4 1 e1 (fun s => (rk_spec s).1) z hz; have := none_of 2 2 2 e2 (fun s => (rk_spec s).2.1) z hz; omega
      · cases h
theorem leadO_none {m : List Mm} {rs : List Row} (h : leadO m rs = none) : ∀ z, reachedB m rs z = true → rk (st m z) = 0 := by
  have none_of : ∀ a b (k : Int), ofRank m rs a b = [] → (∀ s, rk s = k ↔ a ≤ s ∧ s ≤ b) → ∀ z, reachedB m rs z = true → rk (st m z) ≠ k := by
    intro a b k e hk z hz c
    have := mem_ofRank.2 ⟨hz, (hk _).1 c⟩
    rw [e] at this
    cases this
  unfold leadO at h
  split at h
  · cases h
  · rename_i e1
    split at h
    · cases h
    · rename_i e2
      split at h
      · cases h
      · rename_i e3
        intro z hz
        have := (rk_spec (st m z)).2.2.2
        have := none_of 3 4 1 e1 (fun s => (rk_spec s).1) z hz
        have := none_of 2 2 2 e2 (fun s => (rk_spec s).2.1) z hz
        have := none_of 1 1 3 e3 (fun s => (rk_spec s).2.2.1) z hz
        omega
/-- The document's own way to the leader: one member behind the other. -/
def refStep (m : List Mm) (rs : List Row) (acc : Sets.Id2 × Int) (x : Mm) : Sets.Id2 × Int :=
  if rk (st m x.1) = 0 ∨ notB m rs x.1 = true then acc
  else if acc.2 = 0 ∨ rk (st m x.1) < acc.2 ∨ rk (st m x.1) = acc.2 ∧ lt x.1 acc.1 then (x.1, rk (st m x.1)) else acc
def refLead (m : List Mm) (rs : List Row) : Sets.Id2 × Int := m.foldl (refStep m rs) ((0, 0), 0)
/-- What stands behind some members. -/
def LeadInv (m : List Mm) (rs : List Row) (l : List Mm) (acc : Sets.Id2 × Int) : Prop :=
  (acc = ((0, 0), 0) ∧ ∀ x ∈ l, rk (st m x.1) = 0 ∨ notB m rs x.1 = true) ∨
  (∃ x ∈ l, acc.1 = x.1 ∧ acc.2 = rk (st m x.1) ∧ rk (st m x.1) ≠ 0 ∧ notB m rs x.1 = false ∧ ∀ z ∈ l, rk (st m z.1) ≠ 0 → notB m rs z.1 = false → rk (st m x.1) < rk (st m z.1) ∨ rk (st m x.1) = rk (st m z.1) ∧ ¬ lt z.1 x.1)
theorem leadInv_next {m : List Mm} {rs : List Row} {l : List Mm} {acc : Sets.Id2 × Int} (h : LeadInv m rs l acc) (x : Mm) : LeadInv m rs (l ++ [x]) (refStep m rs acc x) := by
  unfold refStep
  by_cases c : rk (st m x.1) = 0 ∨ notB m rs x.1 = true
  · rw [if_pos c]
    rcases h with ⟨h1, h2⟩ | ⟨z, hz, h1, h2, h3, h4, h5⟩
    · refine .inl ⟨h1, fun y hy => ?_⟩
      rcases List.mem_append.1 hy with hy | hy
      · exact h2 y hy
      · rw [List.mem_singleton.1 hy]; exact c
    · refine .inr ⟨z, List.mem_append_left _ hz, h1, h2, h3, h4, fun y hy y1 y2 => ?_⟩
      rcases List.mem_append.1 hy with hy | hy
      · exact h5 y hy y1 y2
      · rw [List.mem_singleton.1 hy] at y1 y2
        rcases c with c | c
        · exact absurd c y1
        · rw [c] at y2; cases y2
  · rw [if_neg c]
    have c1 : rk (st m x.1) ≠ 0 := fun e => c (.inl e)
    have c2 : notB m rs x.1 = false := Bool.eq_false_iff.2 fun e => c (.inr e)
    have nn : 0 < rk (st m x.1) := by have := (rk_spec (st m x.1)).2.2.2; omega
    rcases h with ⟨h1, h2⟩ | ⟨z, hz, h1, h2, h3, h4, h5⟩
    · rw [if_pos (.inl (by rw [h1]))]
      refine .inr ⟨x, by simp, rfl, rfl, c1, c2, fun y hy y1 y2 => ?_⟩
      rcases List.mem_append.1 hy with hy | hy
      · rcases h2 y hy with e | e
        · exact absurd e y1
        · rw [e] at y2; cases y2
      · rw [List.mem_singleton.1 hy]
        exact .inr ⟨rfl, lt_irrefl _⟩
    · have nz : 0 < rk (st m z.1) := by have := (rk_spec (st m z.1)).2.2.2; omega
      by_cases d : acc.2 = 0 ∨ rk (st m x.1) < acc.2 ∨ rk (st m x.1) = acc.2 ∧ lt x.1 acc.1
      · rw [if_pos d]
        refine .inr ⟨x, by simp, rfl, rfl, c1, c2, fun y hy y1 y2 => ?_⟩
        rcases List.mem_append.1 hy with hy | hy
        · have h6 := h5 y hy y1 y2
          rw [h1, h2] at d
          rcases d with d | d | d
          · omega
          · rcases h6 with h6 | h6
            · exact .inl (by omega)
            · exact .inl (by omega)
          · rcases h6 with h6 | h6
            · exact .inl (by omega)
            · exact .inr ⟨by omega, fun e => h6.2 (lt_trans e d.2)⟩
        · rw [List.mem_singleton.1 hy]
          exact .inr ⟨rfl, lt_irrefl _⟩
      · rw [if_neg d]
        refine .inr ⟨z, List.mem_append_left _ hz, h1, h2, h3, h4, fun y hy y1 y2 => ?_⟩
        rcases List.mem_append.1 hy with hy | hy
        · exact h5 y hy y1 y2
        · rw [List.mem_singleton.1 hy]
          rw [h1, h2] at d
          by_cases e : rk (st m z.1) < rk (st m x.1)
          · exact .inl e
          · refine .inr ⟨?_, fun f => d (.inr (.inr ⟨?_, f⟩))⟩
            · have : ¬ rk (st m x.1) < rk (st m z.1) := fun f => d (.inr (.inl f))
              omega
            · have : ¬ rk (st m x.1) < rk (st m z.1) := fun f => d (.inr (.inl f))
              omega
theorem leadInv_fold (m : List Mm) (rs : List Row) : ∀ (l pre : List Mm) (acc : Sets.Id2 × Int), LeadInv m rs pre acc → LeadInv m rs (pre ++ l) (l.foldl (refStep m rs) acc)
  | [], pre, acc, h => by simpa using h
  | x :: l, pre, acc, h => by
    have := leadInv_fold m rs l (pre ++ [x]) _ (leadInv_next h x)
    simpa using this
theorem refLead_is (m : List Mm) (rs : List Row) : refLead m rs = match leadO m rs with | some y => (y, rk (st m y)) | none => ((0, 0), 0) := by
  have h := leadInv_fold m rs m [] ((0, 0), 0) (.inl ⟨rfl, fun x hx => by cases hx⟩)
  rw [List.nil_append] at h
  change LeadInv m rs m (refLead m rs) at h
  have good : ∀ x ∈ m, notB m rs x.1 = false → reachedB m rs x.1 = true := fun x hx e => by
    unfold reachedB
    rw [isMem_iff.2 (List.mem_map.2 ⟨x, hx, rfl⟩), e]
    rfl
  rcases hl : leadO m rs with _ | y
  · rcases h with ⟨h1, -⟩ | ⟨z, hz, h1, h2, h3, h4, -⟩
    · exact h1
    · exact absurd (leadO_none hl z.1 (good z hz h4)) h3
  · have hb := leadO_some hl
    have hr := hb.is
    unfold reachedB at hr
    rw [Bool.and_eq_true, isMem_iff] at hr
    obtain ⟨w, hw, rfl⟩ := List.mem_map.1 hr.1
    have hn : notB m rs w.1 = false := by have := hr.2; simpa using this
    rcases h with ⟨-, h2⟩ | ⟨z, hz, h1, h2, h3, h4, h5⟩
    · rcases h2 w hw with e | e
      · exact absurd e hb.rank
      · rw [e] at hn; cases hn
    · have hz2 : Best m rs z.1 := by
        refine ⟨good z hz h4, h3, fun u hu hu0 => ?_⟩
        unfold reachedB at hu
        rw [Bool.and_eq_true, isMem_iff] at hu
        obtain ⟨v, hv, rfl⟩ := List.mem_map.1 hu.1
        exact h5 v hv hu0 (by have := hu.2; simpa using this)
      have e := best_one hb hz2
      show refLead m rs = (w.1, rk (st m w.1))
      refine Prod.ext ?_ ?_
      · rw [h1, e]
      · rw [h2, e]
/-- The document's own way to who is not reached. -/
def refNr (m : List Mm) (rs : List Row) : List Sets.Id2 := setOf ((idsM m).filter fun y => notB m rs y)
theorem refNr_is (m : List Mm) (rs : List Row) : refNr m rs = nr m rs := rises_ext (rises_setOf _) (rises_nr _ _) fun y => by
  unfold refNr
  rw [mem_setOf, List.mem_filter, mem_nr]
def okA (m : List Mm) (rs : List Row) (s : List Sets.Id2) (x : Mm) : Bool := (!voterB (st m x.1) || hasB x.1 s) && (!notB m rs x.1 || !awaitB (st m x.1))
def refAll (m : List Mm) (rs : List Row) (s : List Sets.Id2) : Bool := m.all (okA m rs s) && m.any fun x => voterB (st m x.1)
theorem voter_await {s : Int} (h : voterB s = true) : awaitB s = true := by
  unfold voterB at h
  unfold awaitB
  simp at h ⊢
  omega
theorem allB_iff {m : List Mm} {rs : List Row} {s : List Sets.Id2} : allB m rs s = true ↔ (∃ y ∈ idsM m, voterB (st m y) = true) ∧ (∀ y ∈ idsM m, voterB (st m y) = true → y ∈ s) ∧ ∀ y ∈ idsM m, awaitB (st m y) = true → notB m rs y = false := by
  unfold allB
  rw [Bool.and_eq_true, seenB_iff, decide_eq_true_iff, List.length_eq_zero_iff, and_assoc]
  refine and_congr ?_ (and_congr ?_ ?_)
  · constructor
    · intro h
      obtain ⟨y, hy⟩ := List.exists_mem_of_ne_nil _ h
      exact ⟨y, mem_chosen.1 hy⟩
    · rintro ⟨y, h1, h2⟩ e
      have := mem_chosen.2 ⟨h1, h2⟩
      rw [e] at this
      cases this
  · exact ⟨fun h y h1 h2 => h y (mem_chosen.2 ⟨h1, h2⟩), fun h y hy => h y (mem_chosen.1 hy).1 (mem_chosen.1 hy).2⟩
  · constructor
    · intro h y h1 h2
      rcases c : notB m rs y with _ | _
      · rfl
      · have := (mem_both _ _ y).2 ⟨mem_chosen.2 ⟨h1, h2⟩, mem_nr.2 ⟨h1, c⟩⟩
        rw [h] at this
        cases this
    · intro h
      refine List.eq_nil_iff_forall_not_mem.2 fun y hy => ?_
      obtain ⟨h1, h2⟩ := (mem_both _ _ y).1 hy
      have := h y (mem_chosen.1 h1).1 (mem_chosen.1 h1).2
      rw [(mem_nr.1 h2).2] at this
      cases this
theorem refAll_is (m : List Mm) (rs : List Row) (s : List Sets.Id2) : refAll m rs s = allB m rs s := by
  rw [Bool.eq_iff_iff, allB_iff]
  unfold refAll
  rw [Bool.and_eq_true, List.all_eq_true, List.any_eq_true]
  constructor
  · rintro ⟨h1, x, hx, h2⟩
    refine ⟨⟨x.1, List.mem_map.2 ⟨x, hx, rfl⟩, h2⟩, fun y hy hv => ?_, fun y hy ha => ?_⟩
    · obtain ⟨x, hx, rfl⟩ := List.mem_map.1 hy
      have := h1 x hx
      unfold okA at this
      rw [hv] at this
      simp [hasB] at this
      exact this.1
    · obtain ⟨x, hx, rfl⟩ := List.mem_map.1 hy
      have := h1 x hx
      unfold okA at this
      rw [ha] at this
      simp at this
      exact this.2
  · rintro ⟨⟨y, hy, hv⟩, h2, h3⟩
    obtain ⟨x, hx, rfl⟩ := List.mem_map.1 hy
    refine ⟨fun z hz => ?_, x, hx, hv⟩
    have hzm : z.1 ∈ idsM m := List.mem_map.2 ⟨z, hz, rfl⟩
    unfold okA
    rw [Bool.and_eq_true]
    constructor
    · rcases c : voterB (st m z.1) with _ | _
      · rfl
      · simpa [hasB] using h2 z.1 hzm c
    · rcases c : awaitB (st m z.1) with _ | _
      · simp
      · simpa using h3 z.1 hzm c
def okR (m : List Mm) (rs : List Row) (s : List Sets.Id2) (x : Mm) : Bool := !(voterB (st m x.1) && !notB m rs x.1) || hasB x.1 s
def refReach (m : List Mm) (rs : List Row) (s : List Sets.Id2) : Bool := m.all (okR m rs s) && m.any fun x => voterB (st m x.1) && !notB m rs x.1
theorem reachB_iff {m : List Mm} {rs : List Row} {s : List Sets.Id2} : reachB m rs s = true ↔ (∃ y ∈ idsM m, voterB (st m y) = true ∧ notB m rs y = false) ∧ ∀ y ∈ idsM m, voterB (st m y) = true → notB m rs y = false → y ∈ s := by
  have hm : ∀ y, y ∈ without (chosenL voterB m) (nr m rs) ↔ y ∈ idsM m ∧ voterB (st m y) = true ∧ notB m rs y = false := by
    intro y
    rw [mem_without, mem_chosen, mem_nr, and_assoc]
    refine and_congr_right fun h1 => and_congr_right fun _ => ?_
    rcases notB m rs y with _ | _
    · simp
    · simp [h1]
  unfold reachB
  rw [seenB_iff]
  refine and_congr ?_ ?_
  · constructor
    · intro h
      obtain ⟨y, hy⟩ := List.exists_mem_of_ne_nil _ h
      exact ⟨y, (hm y).1 hy⟩
    · rintro ⟨y, h1, h2⟩ e
      have := (hm y).2 ⟨h1, h2⟩
      rw [e] at this
      cases this
  · exact ⟨fun h y h1 h2 h3 => h y ((hm y).2 ⟨h1, h2, h3⟩), fun h y hy => h y ((hm y).1 hy).1 ((hm y).1 hy).2.1 ((hm y).1 hy).2.2⟩
theorem refReach_is (m : List Mm) (rs : List Row) (s : List Sets.Id2) : refReach m rs s = reachB m rs s := by
  rw [Bool.eq_iff_iff, reachB_iff]
  unfold refReach
  rw [Bool.and_eq_true, List.all_eq_true, List.any_eq_true]
  constructor
  · rintro ⟨h1, x, hx, h2⟩
    rw [Bool.and_eq_true] at h2
    refine ⟨⟨x.1, List.mem_map.2 ⟨x, hx, rfl⟩, h2.1, by simpa using h2.2⟩, fun y hy hv hn => ?_⟩
    obtain ⟨x, hx, rfl⟩ := List.mem_map.1 hy
    have := h1 x hx
    unfold okR at this
    rw [hv, hn] at this
    simpa [hasB] using this
  · rintro ⟨⟨y, hy, hv, hn⟩, h2⟩
    obtain ⟨x, hx, rfl⟩ := List.mem_map.1 hy
    refine ⟨fun z hz => ?_, x, hx, by rw [hv, hn]; rfl⟩
    have hzm : z.1 ∈ idsM m := List.mem_map.2 ⟨z, hz, rfl⟩
    unfold okR
    rcases c : voterB (st m z.1) with _ | _
    · rfl
    · rcases d : notB m rs z.1 with _ | _
      · simpa [hasB] using h2 z.1 hzm c d
      · rfl
/-- P9.2, P9.3. -/
theorem all_more {m : List Mm} {rs : List Row} {s t : List Sets.Id2} (h : allB m rs s = true) : allB m rs (s ++ t) = true := by
  rw [allB_iff] at h ⊢
  exact ⟨h.1, fun y h1 h2 => List.mem_append_left _ (h.2.1 y h1 h2), h.2.2⟩
theorem reach_more {m : List Mm} {rs : List Row} {s t : List Sets.Id2} (h : reachB m rs s = true) : reachB m rs (s ++ t) = true := by
  rw [reachB_iff] at h ⊢
  exact ⟨h.1, fun y h1 h2 h3 => List.mem_append_left _ (h.2 y h1 h2 h3)⟩
/-- P9.4. -/
theorem all_reach {m : List Mm} {rs : List Row} {s : List Sets.Id2} (h : allB m rs s = true) : reachB m rs s = true := by
  rw [allB_iff] at h
  rw [reachB_iff]
  obtain ⟨⟨y, h1, h2⟩, h3, h4⟩ := h
  exact ⟨⟨y, h1, h2, h4 y h1 (voter_await h2)⟩, fun z z1 z2 _ => h3 z z1 z2⟩
theorem reach_all {m : List Mm} {rs : List Row} {s : List Sets.Id2} (h0 : nr m rs = []) : allB m rs s = reachB m rs s := by
  have hn : ∀ y ∈ idsM m, notB m rs y = false := fun y hy => by
    rcases c : notB m rs y with _ | _
    · rfl
    · have := mem_nr.2 ⟨hy, c⟩
      rw [h0] at this
      cases this
  rw [Bool.eq_iff_iff, allB_iff, reachB_iff]
  constructor
  · rintro ⟨⟨y, h1, h2⟩, h3, h4⟩
    exact ⟨⟨y, h1, h2, hn y h1⟩, fun z z1 z2 _ => h3 z z1 z2⟩
  · rintro ⟨⟨y, h1, h2, -⟩, h3⟩
    exact ⟨⟨y, h1, h2⟩, fun z z1 z2 => h3 z z1 z2 (hn z z1), fun z z1 _ => hn z z1⟩
/-- P9.6. -/
theorem notB_more (m : List Mm) (rs : List Row) (r : Row) (y : Sets.Id2) : notB m (rs ++ [r]) y = (notB m rs y || saysB m r && (decide (r.1 ≠ y) && decide (y ∈ r.2.2))) := by
  unfold notB
  rw [List.any_append]
  simp
theorem nr_more (m : List Mm) (rs : List Row) (r : Row) : without (nr m rs) (nr m (rs ++ [r])) = [] := by
  refine List.eq_nil_iff_forall_not_mem.2 fun y hy => ?_
  obtain ⟨h1, h2⟩ := (mem_without _ _ y).1 hy
  refine h2 (mem_nr.2 ⟨(mem_nr.1 h1).1, ?_⟩)
  rw [notB_more, (mem_nr.1 h1).2]
  rfl
theorem reached_more {m : List Mm} {rs : List Row} {r : Row} {y : Sets.Id2} (h : reachedB m rs y = false) : reachedB m (rs ++ [r]) y = false := by
  unfold reachedB at h ⊢
  rw [notB_more]
  rcases d : isMem m y with _ | _
  · rfl
  · rcases c : notB m rs y with _ | _
    · rw [c, d] at h; simp at h
    · rfl
theorem nr_same {m : List Mm} {rs : List Row} {r : Row} (h : ∀ y, saysB m r = true → r.1 ≠ y → y ∉ r.2.2) : nr m (rs ++ [r]) = nr m rs := by
  refine rises_ext (rises_nr _ _) (rises_nr _ _) fun y => ?_
  rw [mem_nr, mem_nr, notB_more]
  refine and_congr_right fun _ => ?_
  rcases c : notB m rs y with _ | _
  · rcases d : saysB m r with _ | _
    · simp
    · simp only [Bool.false_or, Bool.true_and, Bool.and_eq_true, decide_eq_true_iff]
      constructor
      · rintro ⟨h1, h2⟩
        exact absurd h2 (h y d h1)
      · intro e
        cases e
  · simp
end Agr
end Go.Proofs.YtloghkiabgnpnaaDoor
