/-
  A list of lists of IDs that a law keeps in a row of its own, and numbers that came in; which nodes are told by numbers. No statement is proved in this text.
-/
import Derived.Test.YtbjknjbjldodlaaRingG
import Derived.Test.YtbjknjbjldodlaaRecs
import Derived.Lib.SmallJoins
import Derived.Deep.SlicePairs
namespace Go.Proofs.Ytbjknjbjldodlaa
open Go.RowKit Sets
/-- Lists in a row of slices. -/
structure NotAt (W : World) (g : Nat) (vs : List Value) (nots : List (List Id2)) : Prop where
  lots : Lots W g vs
  len : vs.length = nots.length
  ids : ∀ (k : Nat) (h1 : k < vs.length) (h2 : k < nots.length), Ids W vs[k] nots[k]
theorem lots_lt {W : World} {g : Nat} {vs : List Value} (h : Lots W g vs) : g < W.heap.size := row_lt h
theorem NotAt.below {W W' : World} {g : Nat} {vs : List Value} {nots : List (List Id2)} (h : NotAt W g vs nots) (hb : Below W.heap.size W W') : NotAt W' g vs nots :=
  ⟨(hb.block g (lots_lt h.lots)).trans h.lots, h.len, fun k h1 h2 => (h.ids k h1 h2).below hb⟩
theorem NotAt.cell {W : World} {g : Nat} {vs : List Value} {nots : List (List Id2)} (h : NotAt W g vs nots) {k : Nat} (hk : k < nots.length) : ∃ A c, W.cell? ⟨g, k, none⟩ = some (.slice A (nots[k]).length c) ∧ Ids W (.slice A (nots[k]).length c) nots[k] ∧ W.frozen? ⟨g, k, none⟩ = false := by
  have hk1 : k < vs.length := by rw [h.len]; exact hk
  have hi := h.ids k hk1 hk
  obtain ⟨A, c, e, _⟩ := id hi
  rw [e] at hi
  have hc := lots_cell h.lots hk1
  rw [e] at hc
  refine ⟨A, c, hc, hi, ?_⟩
  have hl := h.lots
  unfold Lots at hl
  simp [World.frozen?, hl]
/-- A list of IDs reads as it did where another slice is put into a cell that holds a slice. -/
theorem Ids.stored {w : World} {v : Value} {l : List Id2} {p : Addr} {A : Option Addr} {n c : Nat} (h : Ids w v l) (hp : w.cell? p = some (.slice A n c)) (u : Value) : Ids (w.setCell p u) v l :=
by
  have key : ∀ q x, w.cell? q = some (.int .i64 x) → (w.setCell p u).cell? q = some (.int .i64 x) := fun q x hq => by
    have e : p ≠ q := fun e => by
      rw [e, hq] at hp
      cases hp
    rw [show (w.setCell p u).cell? q = w.cell? q by apply World.cell?_setCell_other; exact e]
    exact hq
  obtain ⟨A', c', hv, h0, hn, hk⟩ := h
  refine ⟨A', c', hv, h0, hn, fun k h => ?_⟩
  obtain ⟨ad, h1, h2, h3, h4⟩ := hk k h
  exact ⟨ad, h1, by simpa using h2, key _ _ h3, key _ _ h4⟩
theorem NotAt.set {W : World} {g : Nat} {vs : List Value} {nots : List (List Id2)} (h : NotAt W g vs nots) {k : Nat} (hk : k < nots.length) {v : Value} {nt : List Id2} (hv : Ids W v nt) :
    NotAt (W.setCell ⟨g, k, none⟩ v) g (vs.set k v) (nots.set k nt) := by
  obtain ⟨A, c, hc, _, _⟩ := h.cell hk
  refine ⟨?_, by simp [h.len], fun j h1 h2 => ?_⟩
  · have hl := h.lots
    unfold Lots at *
    have hk1 : k < vs.length := by rw [h.len]; exact hk
    simp [World.setCell, Array.getElem?_modify, hl]
  · rw [List.length_set] at h1 h2
    rw [List.getElem_set, List.getElem_set]
    split
    · exact hv.stored hc v
    · exact (h.ids j h1 h2).stored hc v
theorem made_nil (n : Nat) : madeCells (Value.slice none 0 0).cells (n * 1) = (List.replicate n (.slice none 0 0)).toArray := by
  apply Array.ext
  · simp [madeCells]
  · intro i h1 h2
    simp [madeCells, Value.cells, Nat.mod_one]
theorem info25s : (Try.prog.info? 25).map (fun i => (i.zero, i.size, i.bytes)) = some (some (.slice none 0 0), 1, 24) := by kernel_rfl
theorem run_makeN (n : Nat) (hn : n ≤ 1000) (W : World) : (Instr.makeSlice 35 (.int .i64 (n : Int)) (.int .i64 (n : Int))).run Try.prog W = .ok (.slice (some ⟨W.heap.size, 0, none⟩) n n) (W.alloc (.cells (Array.replicate n (.slice none 0 0)) 25)) := by
  obtain ⟨i0, hi, hz0, hz1, hz2⟩ := info_parts info25s
  rw [run_makeSlice W 35 25 i0 (.slice none 0 0) Try.underlying35 hi hz0 .i64 .i64 n n (by omega) (by omega) (by rw [hz1]; simp; omega) (by rw [hz2]; omega) (by omega), hz1, Int.toNat_natCast, made_nil, List.toArray_replicate]
theorem notAt_made (W : World) (n : Nat) : NotAt (W.alloc (.cells (Array.replicate n (.slice none 0 0)) 25)) W.heap.size (List.replicate n (.slice none 0 0)) (List.replicate n []) :=
  ⟨(by unfold Lots; rw [List.toArray_replicate]; exact heap_alloc_new W _), by simp, fun k h1 h2 => by
    rw [List.getElem_replicate, List.getElem_replicate]
    exact Ids.nil _⟩
/-- A number that came in. -/
def encU (n : Int) : List Value := [.int .u8 n]
theorem encU_len (n : Int) : (encU n).length = 1 := rfl
theorem byte_at {w w' : World} {ad : Addr} {n c : Nat} {l : List Int} (h : Rcs encU 1 w (.slice (some ad) n c) l) (hb : Below w.heap.size w w') {k : Nat} (hk : k < l.length) : w'.cell? (ad.add k) = some (.int .u8 l[k]) := by
  have := h.first hb hk (u := .int .u8 l[k]) rfl
  rwa [Nat.mul_one] at this
/-- Which IDs are nodes. -/
def selB (b : Int) : Bool := b.tmod 2 == 1
def hereOf : List Id2 → List Int → List Id2
  | [], _ => []
  | _ :: _, [] => []
  | x :: l, b :: bs => if selB b = true then x :: hereOf l bs else hereOf l bs
theorem mem_hereOf {z : Id2} : ∀ {l : List Id2} {bs : List Int}, z ∈ hereOf l bs → z ∈ l
  | [], _, h => by simp [hereOf] at h
  | _ :: _, [], h => by simp [hereOf] at h
  | x :: l, b :: bs, h => by
    rw [hereOf] at h
    split at h
    · rcases List.mem_cons.1 h with e | h
      · simp [e]
      · simp [mem_hereOf h]
    · simp [mem_hereOf h]
theorem hereOf_len : ∀ (l : List Id2) (bs : List Int), (hereOf l bs).length ≤ l.length
  | [], _ => by simp [hereOf]
  | _ :: _, [] => by simp [hereOf]
  | x :: l, b :: bs => by
    have := hereOf_len l bs
    rw [hereOf]
    split <;> simp <;> omega
theorem hereOf_take : ∀ (l : List Id2) (bs : List Int) {k : Nat} (hk : k < l.length), hereOf (l.take (k + 1)) bs = hereOf (l.take k) bs ++ (if h : k < bs.length then (if selB bs[k] = true then [(l[k].1, l[k].2)] else []) else [])
  | x :: l, [], k, _ => by cases k <;> simp [hereOf]
  | x :: l, b :: bs, 0, _ => by
    simp only [List.take_succ_cons, List.take_zero, hereOf]
    split <;> simp [*]
  | x :: l, b :: bs, k + 1, hk => by
    have ih := hereOf_take l bs (k := k) (by simpa using hk)
    simp only [List.take_succ_cons, hereOf] at ih ⊢
    rw [ih]
    simp only [List.length_cons, Nat.add_lt_add_iff_right, List.getElem_cons_succ]
    split <;> simp
/-- What all have found. -/
def foundK (nots : List (List Id2)) : List Id2 := nots.foldl join []
theorem mem_foldJoin (z : Id2) : ∀ (nots : List (List Id2)) (acc : List Id2), z ∈ nots.foldl join acc ↔ z ∈ acc ∨ ∃ nt ∈ nots, z ∈ nt
  | [], acc => by simp
  | nt :: nots, acc => by
    rw [List.foldl_cons, mem_foldJoin z nots, mem_join]
    simp only [List.mem_cons, exists_eq_or_imp]
    exact or_assoc
theorem mem_foundK (z : Id2) (nots : List (List Id2)) : z ∈ foundK nots ↔ ∃ nt ∈ nots, z ∈ nt := by
  unfold foundK
  rw [mem_foldJoin]
  simp
theorem foldJoin_rises : ∀ (nots : List (List Id2)) (acc : List Id2), Rises acc → Rises (nots.foldl join acc)
  | [], _, h => h
  | _ :: nots, _, _ => foldJoin_rises nots _ (rises_join _ _)
theorem foundK_take {nots : List (List Id2)} {k : Nat} (hk : k < nots.length) : foundK (nots.take (k + 1)) = join (foundK (nots.take k)) nots[k] := by
  unfold foundK
  rw [List.take_succ_eq_append_getElem hk, List.foldl_append]
  rfl
theorem foundK_len {nots : List (List Id2)} {l : List Id2} (h : ∀ nt ∈ nots, ∀ z ∈ nt, z ∈ l) (k : Nat) : (foundK (nots.take k)).length ≤ l.length :=
  len_of_mem (foldJoin_rises _ _ rises_nil) fun z hz => by
    obtain ⟨nt, h1, h2⟩ := (mem_foundK z _).1 hz
    exact h nt (List.mem_of_mem_take h1) z h2
/-- What is left without all nodes. -/
def leftK (l here : List Id2) : List Id2 := here.foldl del l
theorem mem_leftK (z : Id2) : ∀ (here l : List Id2), z ∈ leftK l here ↔ z ∈ l ∧ z ∉ here
  | [], l => by simp [leftK]
  | x :: here, l => by
    have e : leftK l (x :: here) = leftK (del l x) here := rfl
    rw [e, mem_leftK z here, mem_del, List.mem_cons, not_or, and_assoc]
theorem leftK_take {l here : List Id2} {k : Nat} (hk : k < here.length) : leftK l (here.take (k + 1)) = del (leftK l (here.take k)) (here[k].1, here[k].2) := by
  unfold leftK
  rw [List.take_succ_eq_append_getElem hk, List.foldl_append]
  rfl
theorem leftK_len : ∀ (here l : List Id2), (leftK l here).length ≤ l.length
  | [], _ => Nat.le_refl _
  | x :: here, l => Nat.le_trans (leftK_len here (del l x)) (len_del l x)
end Go.Proofs.Ytbjknjbjldodlaa
