/-
  Structs of two numbers written in place; what stands when some blocks are written. No statement is proved in this text.
-/
import Derived.Test.YtmgkbfhkipfimaaRecs
import Derived.Test.YtmgkbfhkipfimaaRowSetOps
import Derived.Test.YtmgkbfhkipfimaaIdeRefB
import Derived.Test.YtmgkbfhkipfimaaXSetOps
import Derived.Test.YtmgkbfhkipfimaaRingB
import Derived.Test.YtmgkbfhkipfimaaWlkM
import Derived.Laws.IdiomCopy
import Derived.Laws.NewBlocks
set_option maxRecDepth 20000
namespace Go.Proofs.Ytmgkbfhkipfimaa
open Go Go.RowKit Sets
/-- An ID's cells. -/
def encJ (x : Id2) : List Value := [.int .i64 x.1, .int .i64 x.2]
theorem encJ_len (x : Id2) : (encJ x).length = 2 := rfl
theorem encJ_one (x : Id2) : ∀ u ∈ encJ x, u.oneCell' = true := by
  intro u hu
  simp [encJ] at hu
  rcases hu with rfl | rfl <;> rfl
theorem ids_rcs {w : World} {v : Value} {l : List Id2} (h : Rcs encJ 2 w v l) : Ids w v l := by
  obtain ⟨A, c, rfl, h0, hc, hk⟩ := id h
  refine ⟨A, c, rfl, h0, hc, fun k hlt => ?_⟩
  obtain ⟨ad, rfl, h1, h2⟩ := hk k hlt
  exact ⟨ad, rfl, h1, h.first (Below.refl _ _) hlt rfl, h.cell (Below.refl _ _) hlt 1 (by omega) rfl⟩
theorem rcs_ids {w : World} {v : Value} {l : List Id2} (h : Ids w v l) : Rcs encJ 2 w v l := by
  obtain ⟨A, c, rfl, h0, hc, hk⟩ := id h
  refine ⟨A, c, rfl, h0, hc, fun k hlt => ?_⟩
  obtain ⟨ad, rfl, h1, c1, c2⟩ := hk k hlt
  refine ⟨ad, rfl, h1, fun j u hu => ?_⟩
  have hj : j < 2 := (List.getElem?_eq_some_iff.1 hu).1
  match j, hj with
  | 0, _ => rw [← Option.some.inj hu]; exact c1
  | 1, _ => rw [← Option.some.inj hu, addr_behind _ _ _ (by omega)]; exact c2
theorem flat_is (l : List Id2) : flat l = flatR encJ l := by
  induction l with
  | nil => rfl
  | cons x l ih =>
    unfold flatR at *
    rw [List.flatMap_cons, ← ih]
    rfl
theorem ownsI_of {w : World} {base : Nat} {v : Value} {l : List Id2} (h : Owns w base v l) : OwnsR encJ 2 24 w base v l := by
  unfold OwnsR
  rw [← flat_is]
  exact h
section
variable {α : Type} [Inhabited α] {enc : α → List Value} {sz : Nat}
theorem add_lit (g j : Nat) : (⟨g, 0, none⟩ : Addr).add j = ⟨g, j, none⟩ := by unfold Addr.add; split <;> simp_all
/-- From the beginning of block g on the structs of d lie, free to be written. -/
def RowAtR (enc : α → List Value) (sz : Nat) (w : World) (g : Nat) (d : Array α) : Prop :=
  g < w.heap.size ∧ ∀ k, k < d.size → ∀ j u, (enc d[k]!)[j]? = some u → w.cell? ⟨g, k * sz + j, none⟩ = some u ∧ w.frozen? ⟨g, k * sz + j, none⟩ = false
theorem rowAtR_rcs {w : World} {g c : Nat} {d : Array α} (h : RowAtR enc sz w g d) (hc : d.size ≤ c) : Rcs enc sz w (.slice (some ⟨g, 0, none⟩) d.size c) d.toList := by
  refine ⟨some ⟨g, 0, none⟩, c, by simp, (fun h => by cases h), by simpa using hc, fun k hk => ⟨_, rfl, h.1, fun j u hu => ?_⟩⟩
  have hk2 : k < d.size := by simpa using hk
  have he : d.toList[k] = d[k]! := by rw [getElem!_pos d k hk2]; simp
  rw [he] at hu
  rw [add_lit]
  exact (h.2 k hk2 j u hu).1
theorem rowAtR_block {w w' : World} {g : Nat} {d : Array α} (h : RowAtR enc sz w g d) (hs : w.heap.size ≤ w'.heap.size) (hb : w'.heap[g]? = w.heap[g]?) : RowAtR enc sz w' g d :=
  ⟨Nat.lt_of_lt_of_le h.1 hs, fun k hk j u hu => ⟨(World.cell?_of_block hb).trans (h.2 k hk j u hu).1, (World.frozen?_of_block hb).trans (h.2 k hk j u hu).2⟩⟩
theorem rowAtR_kept {w w' : World} {g : Nat} {d : Array α} (h : RowAtR enc sz w g d) (hb : Below w.heap.size w w') : RowAtR enc sz w' g d := rowAtR_block h hb.size (hb.block g h.1)
/-- A row of the call's own. -/
theorem rowAtR_owns (hs : ∀ a, (enc a).length = sz) {e : TypeId} {w : World} {base g c : Nat} {d : Array α} (h : OwnsR enc sz e w base (.slice (some ⟨g, 0, none⟩) d.size c) d.toList) : RowAtR enc sz w g d := by
  have hr := rcs_owns hs h
  rcases id h.2 with ⟨h1, _⟩ | ⟨g', cap, cur, h1, hb, hh, _⟩
  · cases h1
  · injection h1 with e1 e2 e3
    injection e1 with e1
    injection e1 with e1
    subst e1
    refine ⟨row_lt hh, fun k hk j u hu => ⟨?_, by simp [World.frozen?, hh]⟩⟩
    have hk2 : k < d.toList.length := by simpa using hk
    obtain ⟨A, c', hv, _, _, hx⟩ := hr
    injection hv with a1 a2 a3
    subst a1
    obtain ⟨ad, e, _, hc⟩ := hx k hk2
    injection e with e
    subst e
    have he : d.toList[k] = d[k]! := by rw [getElem!_pos d k hk]; simp
    rw [he] at hc
    have c1 := hc j u hu
    rwa [add_lit] at c1
theorem heap_setCells (g : Nat) : ∀ (vs : List Value) (o : Nat) (w : World) (k : Nat), k ≠ g → (w.setCells g o vs).heap[k]? = w.heap[k]?
  | [], _, _, _, _ => rfl
  | v :: vs, o, w, k, h => by rw [World.setCells, heap_setCells g vs _ _ k h, Below.heap_setCell _ _ _ _ h]
theorem size_setCells (g : Nat) : ∀ (vs : List Value) (o : Nat) (w : World), (w.setCells g o vs).heap.size = w.heap.size
  | [], _, _ => rfl
  | v :: vs, o, w => by rw [World.setCells, size_setCells g vs, World.size_setCell]
theorem rest_setCells (g : Nat) : ∀ (vs : List Value) (o : Nat) (w : World), (w.setCells g o vs).os = w.os ∧ (w.setCells g o vs).tape = w.tape ∧ (w.setCells g o vs).output = w.output
  | [], _, _ => ⟨rfl, rfl, rfl⟩
  | v :: vs, o, w => by rw [World.setCells]; exact rest_setCells g vs _ _
theorem grown_setCells {a w : World} {g : Nat} (h : a.grownBy w (some g)) (o : Nat) (vs : List Value) : a.grownBy (w.setCells g o vs) (some g) := by
  obtain ⟨r1, r2, r3⟩ := rest_setCells g vs o w
  refine ⟨r1.trans h.os, r2.trans h.tape, r3.trans h.output, by rw [size_setCells]; exact h.size, fun m hm hne => ?_⟩
  rw [heap_setCells _ _ _ _ _ (fun e => hne (by rw [e]))]
  exact h.block m hm hne
theorem below_setCells {b0 : Nat} {a w : World} {g : Nat} (h : Below b0 a w) (hg : b0 ≤ g) (o : Nat) (vs : List Value) : Below b0 a (w.setCells g o vs) := by
  obtain ⟨r1, r2, r3⟩ := rest_setCells g vs o w
  refine ⟨r1.trans h.os, r2.trans h.tape, r3.trans h.output, by rw [size_setCells]; exact h.size, fun m hm => ?_⟩
  rw [heap_setCells _ _ _ _ _ (by omega)]
  exact h.block m hm
theorem grown_below {a w w' : World} {g : Nat} (h : a.grownBy w (some g)) (hb : Below w.heap.size w w') : a.grownBy w' (some g) :=
  ⟨hb.os.trans h.os, hb.tape.trans h.tape, hb.output.trans h.output, Nat.le_trans h.size hb.size, fun k hk hne => (hb.block k (Nat.lt_of_lt_of_le hk h.size)).trans (h.block k hk hne)⟩
theorem grown_trans {a w w' : World} {g : Nat} (h : a.grownBy w (some g)) (k : w.grownBy w' (some g)) : a.grownBy w' (some g) :=
  ⟨k.os.trans h.os, k.tape.trans h.tape, k.output.trans h.output, Nat.le_trans h.size k.size, fun j hj hne => (k.block j (Nat.lt_of_lt_of_le hj h.size) hne).trans (h.block j hj hne)⟩
theorem below_grown {b0 : Nat} {w w' : World} {g : Nat} (h : w.grownBy w' (some g)) (hg : b0 ≤ g) (hw : b0 ≤ w.heap.size) : Below b0 w w' := (Below.refl b0 w).grown h hw fun k e => by cases e; exact hg
/-- One struct written. -/
theorem rowAtR_set (hs : ∀ a, (enc a).length = sz) {w : World} {g : Nat} {d : Array α} (h : RowAtR enc sz w g d) {i : Nat} (hi : i < d.size) (t : α) :
    RowAtR enc sz (w.setCells g (i * sz) (enc t)) g (d.setIfInBounds i t) := by
  refine ⟨by rw [size_setCells]; exact h.1, fun k hk j u hu => ⟨?_, ?_⟩⟩
  · have hk2 : k < d.size := by simpa using hk
    by_cases e : k = i
    · subst e
      rw [getElem!_pos _ k hk, Array.getElem_setIfInBounds_self] at hu
      have hj : j < (enc t).length := (List.getElem?_eq_some_iff.1 hu).1
      rw [World.cell?_setCells_in g (enc t) (k * sz) w (fun m hm => ?_) j hj]
      · rw [← hu, List.getElem?_eq_getElem hj]
      · have hm2 : m < (enc d[k]!).length := by rw [hs] at hm ⊢; exact hm
        rw [(h.2 k hk2 m _ (List.getElem?_eq_getElem hm2)).1]
        rfl
    · have hg : (d.setIfInBounds i t)[k]! = d[k]! := by
        rw [getElem!_pos _ k hk, getElem!_pos d k hk2, Array.getElem_setIfInBounds_ne _ (fun h => e h.symm)]
      rw [hg] at hu
      have hj : j < sz := by rw [← hs d[k]!]; exact (List.getElem?_eq_some_iff.1 hu).1
      rw [World.cell?_setCells_out g (enc t) (i * sz) w _ (fun _ _ => ?_)]
      · exact (h.2 k hk2 j u hu).1
      · rw [hs]
        show k * sz + j < i * sz ∨ i * sz + sz ≤ k * sz + j
        rcases Nat.lt_or_gt_of_ne e with h1 | h1
        · have : (k + 1) * sz ≤ i * sz := Nat.mul_le_mul_right _ h1
          rw [Nat.add_mul] at this
          omega
        · have : (i + 1) * sz ≤ k * sz := Nat.mul_le_mul_right _ h1
          rw [Nat.add_mul] at this
          omega
  · have hk2 : k < d.size := by simpa using hk
    rw [World.frozen?_setCells]
    have hj : j < sz := by rw [← hs (d.setIfInBounds i t)[k]!]; exact (List.getElem?_eq_some_iff.1 hu).1
    have hj2 : j < (enc d[k]!).length := by rw [hs]; exact hj
    exact (h.2 k hk2 j _ (List.getElem?_eq_getElem hj2)).2
end
theorem RowAtR.id {w : World} {g : Nat} {d : Array Id2} (h : RowAtR encJ 2 w g d) {k : Nat} (hk : k < d.size) :
    (w.cell? ⟨g, k * 2, none⟩ = some (.int .i64 d[k]!.1) ∧ w.cell? ⟨g, k * 2 + 1, none⟩ = some (.int .i64 d[k]!.2)) ∧
    (w.frozen? ⟨g, k * 2, none⟩ = false ∧ w.frozen? ⟨g, k * 2 + 1, none⟩ = false) :=
  ⟨⟨(h.2 k hk 0 _ rfl).1, (h.2 k hk 1 _ rfl).1⟩, (h.2 k hk 0 _ rfl).2, (h.2 k hk 1 _ rfl).2⟩
theorem rowI_set {w : World} {g : Nat} {d : Array Id2} (h : RowAtR encJ 2 w g d) {i : Nat} (hi : i < d.size) (a j : Int) :
    RowAtR encJ 2 ((w.setCell ⟨g, i * 2, none⟩ (.int .i64 a)).setCell ⟨g, i * 2 + 1, none⟩ (.int .i64 j)) g (d.setIfInBounds i (a, j)) :=
  rowAtR_set encJ_len h hi (a, j)
theorem grown_setI {a w : World} {g : Nat} (h : a.grownBy w (some g)) (i : Nat) (x y : Value) : a.grownBy ((w.setCell ⟨g, i * 2, none⟩ x).setCell ⟨g, i * 2 + 1, none⟩ y) (some g) := grown_setCells h (i * 2) [x, y]
theorem below_setI {b0 : Nat} {a w : World} {g : Nat} (h : Below b0 a w) (hg : b0 ≤ g) (i : Nat) (x y : Value) : Below b0 a ((w.setCell ⟨g, i * 2, none⟩ x).setCell ⟨g, i * 2 + 1, none⟩ y) := below_setCells h hg (i * 2) [x, y]
/-- Nothing but the blocks of S, and new ones, was written. -/
structure Fr (S : Nat → Prop) (w w' : World) : Prop where
  os : w'.os = w.os
  tape : w'.tape = w.tape
  output : w'.output = w.output
  size : w.heap.size ≤ w'.heap.size
  same : ∀ k, k < w.heap.size → ¬ S k → w'.heap[k]? = w.heap[k]?
theorem Fr.refl (S : Nat → Prop) (w : World) : Fr S w w := ⟨rfl, rfl, rfl, Nat.le_refl _, fun _ _ _ => rfl⟩
theorem Fr.of_below {S : Nat → Prop} {w w' : World} (h : Below w.heap.size w w') : Fr S w w' := ⟨h.os, h.tape, h.output, h.size, fun k hk _ => h.block k hk⟩
theorem Fr.of_grown {S : Nat → Prop} {w w' : World} {row : Option Nat} (h : w.grownBy w' row) (hS : ∀ g, row = some g → S g) : Fr S w w' := ⟨h.os, h.tape, h.output, h.size, fun k hk hn => h.block k hk (fun e => hn (hS k e.symm))⟩
theorem Fr.of_set {S : Nat → Prop} (w : World) {b i : Nat} (v : Value) (hS : S b) : Fr S w (w.setCell ⟨b, i, none⟩ v) :=
  ⟨rfl, rfl, rfl, by simp [World.setCell], fun _ _ hn => Below.heap_setCell _ _ _ _ (fun e => hn (by rw [e]; exact hS))⟩
theorem Fr.mono {S T : Nat → Prop} {w w' : World} (h : Fr S w w') (hT : ∀ k, S k → T k) : Fr T w w' := ⟨h.os, h.tape, h.output, h.size, fun k hk hn => h.same k hk (fun e => hn (hT k e))⟩
theorem Fr.trans {S T : Nat → Prop} {a b c : World} (h : Fr S a b) (k : Fr T b c) (hT : ∀ i, T i → S i ∨ a.heap.size ≤ i) : Fr S a c :=
  ⟨k.os.trans h.os, k.tape.trans h.tape, k.output.trans h.output, Nat.le_trans h.size k.size, fun i hi hn =>
    (k.same i (Nat.lt_of_lt_of_le hi h.size) (fun e => by rcases hT i e with e | e; exact hn e; omega)).trans (h.same i hi hn)⟩
theorem Fr.step {S : Nat → Prop} {a b c : World} (h : Fr S a b) (k : Fr S b c) : Fr S a c := h.trans k fun _ e => .inl e
theorem Fr.below {S : Nat → Prop} {w w' : World} (h : Fr S w w') {B : Nat} (hB : B ≤ w.heap.size) (hS : ∀ k, S k → B ≤ k) : Below B w w' :=
  ⟨h.os, h.tape, h.output, h.size, fun k hk => h.same k (Nat.lt_of_lt_of_le hk hB) (fun e => by have := hS k e; omega)⟩
theorem Ids.frame {S : Nat → Prop} {w w' : World} {v : Value} {l : List Id2} (h : Ids w v l) (k : Fr S w w') (hv : ∀ g, v.ownBlock = some g → ¬ S g) : Ids w' v l := by
  obtain ⟨A, c, rfl, h0, hn, hx⟩ := h
  refine ⟨A, c, rfl, h0, hn, fun i hi => ?_⟩
  obtain ⟨ad, rfl, h2, h3, h4⟩ := hx i hi
  have e := k.same ad.block h2 (hv _ rfl)
  refine ⟨ad, rfl, Nat.lt_of_lt_of_le h2 k.size, ?_, ?_⟩
  · rw [World.cell?_of_block (w := w) (by rw [block_of_add]; exact e)]
    exact h3
  · rw [World.cell?_of_block (w := w) (by show w'.heap[(ad.add (i * 2)).block]? = w.heap[(ad.add (i * 2)).block]?; rw [block_of_add]; exact e)]
    exact h4
variable {S S' : Nat → Prop} {W W' : World}
/-- What an operation writes, and what blocks there are then. -/
structure Upd (S : Nat → Prop) (W W' : World) (S' : Nat → Prop) : Prop where
  sub : ∀ k, S' k → S k ∨ W.heap.size ≤ k
  fr : Fr S W W'
theorem Upd.trans {S' S'' : Nat → Prop} {W'' : World} (h : Upd S W W' S') (k : Upd S' W' W'' S'') : Upd S W W'' S'' := by
  refine ⟨fun i hi => ?_, h.fr.trans k.fr h.sub⟩
  rcases k.sub i hi with e | e
  · exact h.sub i e
  · exact .inr (Nat.le_trans h.fr.size e)
theorem Upd.of_fr (h : Fr S W W') : Upd S W W' S := ⟨fun _ e => .inl e, h⟩
theorem Upd.keep (h : Below W.heap.size W W') : Upd S W W' S := .of_fr (.of_below h)
/-- The block g holds the IDs of a list, from its head on, free to be written. -/
abbrev RowJ (w : World) (g : Nat) (l : List Id2) : Prop := RowAtR encJ 2 w g l.toArray
theorem rowJ_kept {w w' : World} {g : Nat} {l : List Id2} (h : RowJ w g l) (hb : Below w.heap.size w w') : RowJ w' g l := rowAtR_kept h hb
theorem rowJ_ids {w : World} {g c : Nat} {l : List Id2} (h : RowJ w g l) (hc : l.length ≤ c) : Ids w (.slice (some ⟨g, 0, none⟩) l.length c) l := by
  have := rowAtR_rcs (c := c) h (by simpa using hc)
  exact ids_rcs (by simpa using this)
theorem rowJ_owns {w : World} {base g n c : Nat} {l : List Id2} (h : Owns w base (.slice (some ⟨g, 0, none⟩) n c) l) : RowJ w g l := by
  have hn : n = l.length := by
    rcases id h.2 with ⟨h1, _⟩ | ⟨g', cap, cur, h1, _⟩
    · cases h1
    · injection h1
  subst hn
  have := ownsI_of h
  exact rowAtR_owns (d := l.toArray) encJ_len (by simpa using this)
theorem rowJ_cells {w : World} {g : Nat} {l : List Id2} (h : RowJ w g l) {k : Nat} (hk : k < l.length) :
    (w.cell? ⟨g, k * 2, none⟩ = some (.int .i64 l[k]!.1) ∧ w.cell? ⟨g, k * 2 + 1, none⟩ = some (.int .i64 l[k]!.2)) ∧ w.frozen? ⟨g, k * 2, none⟩ = false ∧ w.frozen? ⟨g, k * 2 + 1, none⟩ = false := by
  have := RowAtR.id h (k := k) (by simpa using hk)
  simpa using this
theorem rowJ_set {w : World} {g : Nat} {l : List Id2} (h : RowJ w g l) {i : Nat} (hi : i < l.length) (a j : Int) :
    RowJ ((w.setCell ⟨g, i * 2, none⟩ (.int .i64 a)).setCell ⟨g, i * 2 + 1, none⟩ (.int .i64 j)) g (l.set i (a, j)) := by
  have := rowI_set h (i := i) (by simpa using hi) a j
  simpa using this
theorem rowJ_swp {w : World} {g : Nat} {l : List Id2} (h : RowJ w g l) {p q : Nat} (hp : p < l.length) (hq : q < l.length) :
    RowJ ((((w.setCell ⟨g, p * 2, none⟩ (.int .i64 l[q]!.1)).setCell ⟨g, p * 2 + 1, none⟩ (.int .i64 l[q]!.2)).setCell ⟨g, q * 2, none⟩ (.int .i64 l[p]!.1)).setCell ⟨g, q * 2 + 1, none⟩ (.int .i64 l[p]!.2)) g (swp l p q) :=
  rowJ_set (rowJ_set h hp l[q]!.1 l[q]!.2) (i := q) (by simpa using hq) l[p]!.1 l[p]!.2
theorem grown_swp {a w : World} {g : Nat} (h : a.grownBy w (some g)) (i k : Nat) (x y x' y' : Value) : a.grownBy ((((w.setCell ⟨g, i * 2, none⟩ x).setCell ⟨g, i * 2 + 1, none⟩ y).setCell ⟨g, k * 2, none⟩ x').setCell ⟨g, k * 2 + 1, none⟩ y') (some g) := grown_setI (grown_setI h i x y) k x' y'
end Go.Proofs.Ytmgkbfhkipfimaa
