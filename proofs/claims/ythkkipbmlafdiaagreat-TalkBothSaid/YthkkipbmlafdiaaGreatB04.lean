/-
  Contracts and plain facts.
-/
import Derived.Test.YthkkipbmlafdiaaGreatOy
import Derived.Laws.IdiomCopy
import Derived.Laws.NewBlocks
import Derived.Lib.SliceRun
import Derived.Test.YthkkipbmlafdiaaGreatB00
import Derived.Test.YthkkipbmlafdiaaGreatB01
import Derived.Test.YthkkipbmlafdiaaGreatB03
set_option maxRecDepth 20000
namespace Go.Proofs.YthkkipbmlafdiaaGreat
section
open Go Go.RowKit Sets RowSets
def encI (x : Id2) : List Value := [.int .i64 x.1, .int .i64 x.2]
theorem encI_len (x : Id2) : (encI x).length = 2 := rfl
theorem encI_one (x : Id2) : ∀ u ∈ encI x, u.oneCell' = true := by
 intro u hu;simp [encI] at hu
 rcases hu with rfl | rfl <;> rfl
theorem ids_rcs {w : World} {v : Value} {l : List Id2} (h : Rcs encI 2 w v l) : Ids w v l := by
 obtain ⟨A, c, rfl, h0, hc, hk⟩ := id h;refine ⟨A, c, rfl, h0, hc, fun k hlt => ?_⟩
 obtain ⟨ad, rfl, h1, h2⟩ := hk k hlt;exact ⟨ad, rfl, h1, h.first (Below.refl _ _) hlt rfl, h.cell (Below.refl _ _) hlt 1 (by omega) rfl⟩
theorem rcs_ids {w : World} {v : Value} {l : List Id2} (h : Ids w v l) : Rcs encI 2 w v l := by
 obtain ⟨A, c, rfl, h0, hc, hk⟩ := id h;refine ⟨A, c, rfl, h0, hc, fun k hlt => ?_⟩
 obtain ⟨ad, rfl, h1, c1, c2⟩ := hk k hlt;refine ⟨ad, rfl, h1, fun j u hu => ?_⟩
 have hj : j < 2 := (List.getElem?_eq_some_iff.1 hu).1
 match j, hj with
 | 0, _ => rw [← Option.some.inj hu]; exact c1
 | 1, _ => rw [← Option.some.inj hu, addr_behind _ _ _ (by omega)]; exact c2
theorem flat_is (l : List Id2) : flat l = flatR encI l := by
 induction l with
 | nil => rfl
 | cons x l ih =>
  unfold flatR at *;rw [List.flatMap_cons, ← ih];rfl
theorem ownsI_of {w : World} {base : Nat} {v : Value} {l : List Id2} (h : Owns w base v l) : OwnsR encI 2 29 w base v l := by
 unfold OwnsR;rw [← flat_is];exact h
abbrev Raw := Id2 × Int × (Option Addr × Nat × Nat)
def slc (r : Raw) : Value := .slice r.2.2.1 r.2.2.2.1 r.2.2.2.2
def encW (r : Raw) : List Value := [.int .i64 r.1.1, .int .i64 r.1.2, .int .i64 r.2.1, slc r]
theorem encW_len (r : Raw) : (encW r).length = 4 := rfl
theorem encW_one (r : Raw) : ∀ u ∈ encW r, u.oneCell' = true := by
 intro u hu;simp [encW, slc] at hu
 rcases hu with rfl | rfl | rfl | rfl <;> rfl
def Reads (w : World) (q : Raw) (r : Row) : Prop := q.1 = r.1 ∧ q.2.1 = r.2.1 ∧ Ids w (slc q) r.2.2
theorem Reads.below {w w' : World} {q : Raw} {r : Row} (h : Reads w q r) (hb : Below w.heap.size w w') : Reads w' q r := ⟨h.1, h.2.1, h.2.2.below hb⟩
def EachReads (w : World) : List Raw → List Row → Prop
 | [], [] => True
 | q :: qs, r :: l => Reads w q r ∧ EachReads w qs l
 | _, _ => False
theorem EachReads.below {w w' : World} (hb : Below w.heap.size w w') : ∀ {qs : List Raw} {l : List Row}, EachReads w qs l → EachReads w' qs l
 | [], [], _ => trivial
 | _ :: _, _ :: _, h => ⟨h.1.below hb, EachReads.below hb h.2⟩
 | [], _ :: _, h => h.elim
 | _ :: _, [], h => h.elim
theorem EachReads.len {w : World} : ∀ {qs : List Raw} {l : List Row}, EachReads w qs l → qs.length = l.length
 | [], [], _ => rfl
 | _ :: _, _ :: _, h => by rw [List.length_cons, List.length_cons, h.2.len]
 | [], _ :: _, h => h.elim
 | _ :: _, [], h => h.elim
theorem EachReads.at_ {w : World} : ∀ {qs : List Raw} {l : List Row}, EachReads w qs l → ∀ (k : Nat) (h : k < qs.length) (h' : k < l.length), Reads w qs[k] l[k]
 | _ :: _, _ :: _, h, 0, _, _ => h.1
 | _ :: _, _ :: _, h, k + 1, h1, h2 => EachReads.at_ h.2 k (by simpa using h1) (by simpa using h2)
 | [], [], _, _, h1, _ => absurd h1 (by simp)
 | [], _ :: _, h, _, _, _ => h.elim
 | _ :: _, [], h, _, _, _ => h.elim
theorem EachReads.append {w : World} {qs qs' : List Raw} {l l' : List Row} (h : EachReads w qs l) (h' : EachReads w qs' l') : EachReads w (qs ++ qs') (l ++ l') := by
 induction qs generalizing l with
 | nil =>
  cases l with
  | nil => exact h'
  | cons r l => exact h.elim
 | cons q qs ih =>
  cases l with
  | nil => exact h.elim
  | cons r l => exact ⟨h.1, ih h.2⟩
theorem EachReads.one {w : World} {q : Raw} {r : Row} (h : Reads w q r) : EachReads w [q] [r] := ⟨h, trivial⟩
theorem EachReads.take {w : World} : ∀ {qs : List Raw} {l : List Row} (k : Nat), EachReads w qs l → EachReads w (qs.take k) (l.take k)
 | [], [], k, _ => by simp [EachReads]
 | _ :: _, _ :: _, 0, _ => trivial
 | _ :: _, _ :: _, k + 1, h => ⟨h.1, EachReads.take k h.2⟩
 | [], _ :: _, _, h => h.elim
 | _ :: _, [], _, h => h.elim
theorem EachReads.drop {w : World} : ∀ {qs : List Raw} {l : List Row} (k : Nat), EachReads w qs l → EachReads w (qs.drop k) (l.drop k)
 | [], [], k, _ => by simp [EachReads]
 | _ :: _, _ :: _, 0, h => h
 | _ :: _, _ :: _, k + 1, h => EachReads.drop k h.2
 | [], _ :: _, _, h => h.elim
 | _ :: _, [], _, h => h.elim
def RowsAt (w : World) (v : Value) (l : List Row) : Prop := ∃ qs, Rcs encW 4 w v qs ∧ EachReads w qs l
theorem RowsAt.below {w w' : World} {v : Value} {l : List Row} (h : RowsAt w v l) (hb : Below w.heap.size w w') : RowsAt w' v l := by
 obtain ⟨qs, h1, h2⟩ := h;exact ⟨qs, h1.below hb, h2.below hb⟩
theorem RowsAt.nil (w : World) : RowsAt w (.slice none 0 0) [] := ⟨[], Rcs.nil w, trivial⟩
theorem RowsAt.at_ {w w' : World} {A : Option Addr} {n c : Nat} {l : List Row} (h : RowsAt w (.slice A n c) l) (hw : Below w.heap.size w w') {k : Nat} (hk : k < l.length) :
  ∃ ad s, A = some ad ∧ w'.cell? (ad.add (k * 4)) = some (.int .i64 l[k].1.1) ∧ w'.cell? ⟨(ad.add (k * 4)).block, (ad.add (k * 4)).off + 1, none⟩ = some (.int .i64 l[k].1.2) ∧
   w'.cell? ⟨(ad.add (k * 4)).block, (ad.add (k * 4)).off + 2, none⟩ = some (.int .i64 l[k].2.1) ∧ w'.cell? ⟨(ad.add (k * 4)).block, (ad.add (k * 4)).off + 3, none⟩ = some s ∧ Ids w s l[k].2.2 := by
 obtain ⟨qs, h1, h2⟩ := h;have hl := h2.len;have hq : k < qs.length := by omega
 obtain ⟨e1, e2, e3⟩ := h2.at_ k hq hk;obtain ⟨ad, rfl⟩ := h1.addr (by omega)
 refine ⟨ad, slc qs[k], rfl, ?_, ?_, ?_, h1.cell hw hq 3 (by omega) rfl, e3⟩
 ·rw [← e1]; exact h1.first hw hq rfl
 ·rw [← e1]; exact h1.cell hw hq 1 (by omega) rfl
 ·rw [← e2]; exact h1.cell hw hq 2 (by omega) rfl
theorem RowsAt.shape {w : World} {v : Value} {l : List Row} (h : RowsAt w v l) : ∃ A c, v = .slice A l.length c ∧ (A = none → c = 0) ∧ l.length ≤ c := by
 obtain ⟨qs, ⟨A, c, rfl, h0, hc, _⟩, h2⟩ := h;rw [← h2.len];exact ⟨A, c, rfl, h0, hc⟩
section
variable {α : Type} [Inhabited α] {enc : α → List Value} {sz : Nat}
theorem add_lit (g j : Nat) : (⟨g, 0, none⟩ : Addr).add j = ⟨g, j, none⟩ := by unfold Addr.add; split <;> simp_all
def RowAtR (enc : α → List Value) (sz : Nat) (w : World) (g : Nat) (d : Array α) : Prop :=
 g < w.heap.size ∧ ∀ k, k < d.size → ∀ j u, (enc d[k]!)[j]? = some u → w.cell? ⟨g, k * sz + j, none⟩ = some u ∧ w.frozen? ⟨g, k * sz + j, none⟩ = false
theorem rowAtR_rcs {w : World} {g c : Nat} {d : Array α} (h : RowAtR enc sz w g d) (hc : d.size ≤ c) : Rcs enc sz w (.slice (some ⟨g, 0, none⟩) d.size c) d.toList := by
 refine ⟨some ⟨g, 0, none⟩, c, by simp, (fun h => by cases h), by simpa using hc, fun k hk => ⟨_, rfl, h.1, fun j u hu => ?_⟩⟩
 have hk2 : k < d.size := by simpa using hk
 have he : d.toList[k] = d[k]! := by rw [getElem!_pos d k hk2]; simp
 rw [he] at hu;rw [add_lit];exact (h.2 k hk2 j u hu).1
theorem rowAtR_block {w w' : World} {g : Nat} {d : Array α} (h : RowAtR enc sz w g d) (hs : w.heap.size ≤ w'.heap.size) (hb : w'.heap[g]? = w.heap[g]?) : RowAtR enc sz w' g d :=
 ⟨Nat.lt_of_lt_of_le h.1 hs, fun k hk j u hu => ⟨(World.cell?_of_block hb).trans (h.2 k hk j u hu).1, (World.frozen?_of_block hb).trans (h.2 k hk j u hu).2⟩⟩
theorem rowAtR_kept {w w' : World} {g : Nat} {d : Array α} (h : RowAtR enc sz w g d) (hb : Below w.heap.size w w') : RowAtR enc sz w' g d := rowAtR_block h hb.size (hb.block g h.1)
theorem rowAtR_owns (hs : ∀ a, (enc a).length = sz) {e : TypeId} {w : World} {base g c : Nat} {d : Array α} (h : OwnsR enc sz e w base (.slice (some ⟨g, 0, none⟩) d.size c) d.toList) : RowAtR enc sz w g d := by
 have hr := rcs_owns hs h;rcases id h.2 with ⟨h1, _⟩ | ⟨g', cap, cur, h1, hb, hh, _⟩
 ·cases h1
 ·injection h1 with e1 e2 e3
  injection e1 with e1
  injection e1 with e1
  subst e1;refine ⟨row_lt hh, fun k hk j u hu => ⟨?_, by simp [World.frozen?, hh]⟩⟩
  have hk2 : k < d.toList.length := by simpa using hk
  obtain ⟨A, c', hv, _, _, hx⟩ := hr;injection hv with a1 a2 a3
  subst a1;obtain ⟨ad, e, _, hc⟩ := hx k hk2;injection e with e
  subst e;have he : d.toList[k] = d[k]! := by rw [getElem!_pos d k hk]; simp
  rw [he] at hc;have c1 := hc j u hu;rwa [add_lit] at c1
theorem heap_setCells (g : Nat) : ∀ (vs : List Value) (o : Nat) (w : World) (k : Nat), k ≠ g → (w.setCells g o vs).heap[k]? = w.heap[k]?
 | [], _, _, _, _ => rfl
 | v :: vs, o, w, k, h => by rw [World.setCells, heap_setCells g vs _ _ k h, Below.heap_setCell _ _ _ _ h]
theorem size_setCells (g : Nat) : ∀ (vs : List Value) (o : Nat) (w : World), (w.setCells g o vs).heap.size = w.heap.size
 | [], _, _ => rfl
 | v :: vs, o, w => by rw [World.setCells, size_setCells g vs, World.size_setCell]
theorem rest_setCells (g : Nat) : ∀ (vs : List Value) (o : Nat) (w : World), (w.setCells g o vs).os = w.os ∧ (w.setCells g o vs).tape = w.tape ∧ (w.setCells g o vs).output = w.output
 | [], _, _ => ⟨rfl, rfl, rfl⟩
 | v :: vs, o, w => by rw [World.setCells]; exact rest_setCells g vs _ _
theorem grown_setCells {a w : World} {g : Nat} (h : a.grownBy w (some g)) (o : Nat) (vs : List Value) : a.grownBy (w.setCells g o vs) (some g) := by
 obtain ⟨r1, r2, r3⟩ := rest_setCells g vs o w;refine ⟨r1.trans h.os, r2.trans h.tape, r3.trans h.output, by rw [size_setCells]; exact h.size, fun m hm hne => ?_⟩
 rw [heap_setCells _ _ _ _ _ (fun e => hne (by rw [e]))]
 exact h.block m hm hne
theorem below_setCells {b0 : Nat} {a w : World} {g : Nat} (h : Below b0 a w) (hg : b0 ≤ g) (o : Nat) (vs : List Value) : Below b0 a (w.setCells g o vs) := by
 obtain ⟨r1, r2, r3⟩ := rest_setCells g vs o w;refine ⟨r1.trans h.os, r2.trans h.tape, r3.trans h.output, by rw [size_setCells]; exact h.size, fun m hm => ?_⟩
 rw [heap_setCells _ _ _ _ _ (by omega)]
 exact h.block m hm
theorem am_ {a w w' : World} {g : Nat} (h : a.grownBy w (some g)) (hb : Below w.heap.size w w') : a.grownBy w' (some g) :=
 ⟨hb.os.trans h.os, hb.tape.trans h.tape, hb.output.trans h.output, Nat.le_trans h.size hb.size, fun k hk hne => (hb.block k (Nat.lt_of_lt_of_le hk h.size)).trans (h.block k hk hne)⟩
theorem grown_trans {a w w' : World} {g : Nat} (h : a.grownBy w (some g)) (k : w.grownBy w' (some g)) : a.grownBy w' (some g) :=
 ⟨k.os.trans h.os, k.tape.trans h.tape, k.output.trans h.output, Nat.le_trans h.size k.size, fun j hj hne => (k.block j (Nat.lt_of_lt_of_le hj h.size) hne).trans (h.block j hj hne)⟩
theorem aj_ {b0 : Nat} {w w' : World} {g : Nat} (h : w.grownBy w' (some g)) (hg : b0 ≤ g) (hw : b0 ≤ w.heap.size) : Below b0 w w' := (Below.refl b0 w).grown h hw fun k e => by cases e; exact hg
theorem rowAtR_set (hs : ∀ a, (enc a).length = sz) {w : World} {g : Nat} {d : Array α} (h : RowAtR enc sz w g d) {i : Nat} (hi : i < d.size) (t : α) :
  RowAtR enc sz (w.setCells g (i * sz) (enc t)) g (d.setIfInBounds i t) := by
 refine ⟨by rw [size_setCells]; exact h.1, fun k hk j u hu => ⟨?_, ?_⟩⟩
 ·have hk2 : k < d.size := by simpa using hk
  by_cases e : k = i
  ·subst e
   rw [getElem!_pos _ k hk, Array.getElem_setIfInBounds_self] at hu;have hj : j < (enc t).length := (List.getElem?_eq_some_iff.1 hu).1
   rw [World.cell?_setCells_in g (enc t) (k * sz) w (fun m hm => ?_) j hj]
   ·rw [← hu, List.getElem?_eq_getElem hj]
   ·have hm2 : m < (enc d[k]!).length := by rw [hs] at hm ⊢; exact hm
    rw [(h.2 k hk2 m _ (List.getElem?_eq_getElem hm2)).1];rfl
  ·have hg : (d.setIfInBounds i t)[k]! = d[k]! := by
    rw [getElem!_pos _ k hk, getElem!_pos d k hk2, Array.getElem_setIfInBounds_ne _ (fun h => e h.symm)]
   rw [hg] at hu;have hj : j < sz := by rw [← hs d[k]!]; exact (List.getElem?_eq_some_iff.1 hu).1
   rw [World.cell?_setCells_out g (enc t) (i * sz) w _ (fun _ _ => ?_)]
   ·exact (h.2 k hk2 j u hu).1
   ·rw [hs]
    show k * sz + j < i * sz ∨ i * sz + sz ≤ k * sz + j
    rcases Nat.lt_or_gt_of_ne e with h1 | h1
    ·have : (k + 1) * sz ≤ i * sz := Nat.mul_le_mul_right _ h1
     rw [Nat.add_mul] at this;omega
    ·have : (i + 1) * sz ≤ k * sz := Nat.mul_le_mul_right _ h1
     rw [Nat.add_mul] at this;omega
 ·have hk2 : k < d.size := by simpa using hk
  rw [World.frozen?_setCells];have hj : j < sz := by rw [← hs (d.setIfInBounds i t)[k]!]; exact (List.getElem?_eq_some_iff.1 hu).1
  have hj2 : j < (enc d[k]!).length := by rw [hs]; exact hj
  exact (h.2 k hk2 j _ (List.getElem?_eq_getElem hj2)).2
theorem rowAtR_front (hs : ∀ a, (enc a).length = sz) {w : World} {g : Nat} {d : Array α} (h : RowAtR enc sz w g d) {i : Nat} (hi : i ≤ d.size) (vs : List Value) : RowAtR enc sz (w.setCells g (i * sz) vs) g (d.extract 0 i) := by
 refine ⟨by rw [size_setCells]; exact h.1, fun k hk j u hu => ?_⟩
 have hk2 : k < i := by simp at hk; omega
 have hg : (d.extract 0 i)[k]! = d[k]! := by
  rw [getElem!_pos _ k hk, getElem!_pos d k (by omega)]
  simp
 rw [hg] at hu;have hj : j < sz := by rw [← hs d[k]!]; exact (List.getElem?_eq_some_iff.1 hu).1
 rw [World.cell?_setCells_out g vs _ w _ (fun _ _ => .inl ?_), World.frozen?_setCells]
 ·exact h.2 k (by omega) j u hu
 ·show k * sz + j < i * sz
  have : (k + 1) * sz ≤ i * sz := Nat.mul_le_mul_right _ hk2
  rw [Nat.add_mul] at this;omega
theorem run_clear_recs {P : Program} (hs : ∀ a, (enc a).length = sz) (h0 : 0 < sz) {t e : TypeId} (ht : P.underlying t = some (.slice e)) {z : Value} (hz : ∀ w, (zeroValue e).run P w = .ok z w) (hzs : z.cells.size = sz) (hz1 : ∀ u ∈ z.cells.toList, u.oneCell' = true)
  {w : World} {g : Nat} {d : Array α} (h : RowAtR enc sz w g d) {i : Nat} (hi : i < d.size) (c : Nat) (ty : TypeId) :
  ∃ vs, (Builtin.clear_ #[t] ty #[.slice (some ⟨g, i * sz, none⟩) (d.size - i) c]).run P w = .ok (.tuple #[]) (w.setCells g (i * sz) vs) := by
 obtain ⟨m, hm⟩ : ∃ m, d.size - i = m + 1 := ⟨d.size - i - 1, by omega⟩
 rw [hm];refine ⟨(Builtin.zeroCells z.cells (m + 1)).toList, ?_⟩
 have hlen : (Builtin.zeroCells z.cells (m + 1)).toList.length = (m + 1) * sz := by simp [size_zeroCells, hzs]
 have cell : ∀ j, j < (m + 1) * sz → (w.cell? ⟨g, i * sz + j, none⟩).isSome = true ∧ w.frozen? ⟨g, i * sz + j, none⟩ = false := by
  intro j hj;have hq : j / sz < m + 1 := (Nat.div_lt_iff_lt_mul h0).2 hj
  have hr := Nat.mod_lt j h0;have he : j = j / sz * sz + j % sz := by rw [Nat.mul_comm]; exact (Nat.div_add_mod j sz).symm
  have hl : j % sz < (enc d[i + j / sz]!).length := by rw [hs]; exact hr
  have hx := h.2 (i + j / sz) (by omega) (j % sz) _ (List.getElem?_eq_getElem hl)
  have e2 : (i + j / sz) * sz + j % sz = i * sz + j := by rw [Nat.add_mul]; omega
  rw [e2] at hx;exact ⟨by rw [hx.1]; rfl, hx.2⟩
 have hst := run_storeCells_cells (P := P) g (i * sz) (Builtin.zeroCells z.cells (m + 1)).toList 0 w (by rw [hlen]; simpa using fun j hj => (cell j hj).1) (by rw [hlen]; simpa using fun j hj => (cell j hj).2) (by
  intro v hv;simp only [Builtin.zeroCells, Array.toList_map, List.mem_map] at hv;obtain ⟨x, _, rfl⟩ := hv;have h3 : x % z.cells.size < z.cells.size := Nat.mod_lt _ (by omega)
  rw [getElem!_pos z.cells _ h3];exact hz1 _ (by simp))
 simp only [Nat.add_zero] at hst;simp [Builtin.clear_, run_underlying ht, hz, hst]
end
end
section
open Go.RowKit Sets RowSets
def WBox (w : World) (g : Nat) (a i n : Int) (v : Value) : Prop := w.heap[g]? = some (.cells #[.int .i64 a, .int .i64 i, .int .i64 n, v] 68 (0, 0))
theorem ai_ {w : World} {g : Nat} {a i n : Int} {v : Value} (h : WBox w g a i n v) : w.cell? ⟨g, 0, none⟩ = some (.int .i64 a) ∧ w.cell? ⟨g, 1, none⟩ = some (.int .i64 i) ∧ w.cell? ⟨g, 2, none⟩ = some (.int .i64 n) ∧ w.cell? ⟨g, 3, none⟩ = some v := by
 unfold WBox at h;exact ⟨by rw [cell_of_row _ _ 0 _ _ _ h]; rfl, by rw [cell_of_row _ _ 1 _ _ _ h]; rfl, by rw [cell_of_row _ _ 2 _ _ _ h]; rfl, by rw [cell_of_row _ _ 3 _ _ _ h]; rfl⟩
theorem wbox_free {w : World} {g : Nat} {a i n : Int} {v : Value} (h : WBox w g a i n v) : w.frozen? ⟨g, 0, none⟩ = false ∧ w.frozen? ⟨g, 1, none⟩ = false ∧ w.frozen? ⟨g, 2, none⟩ = false ∧ w.frozen? ⟨g, 3, none⟩ = false := by
 unfold WBox at h;exact ⟨by simp [World.frozen?, h], by simp [World.frozen?, h], by simp [World.frozen?, h], by simp [World.frozen?, h]⟩
theorem av_ (w : World) (a i n : Int) (v : Value) : WBox (w.alloc (.cells #[.int .i64 a, .int .i64 i, .int .i64 n, v] 68)) w.heap.size a i n v := heap_alloc_new w _
theorem wbox_lt {w : World} {g : Nat} {a i n : Int} {v : Value} (h : WBox w g a i n v) : g < w.heap.size := row_lt h
theorem ay_ {w w' : World} {g : Nat} {a i n : Int} {v : Value} (h : WBox w g a i n v) (hb : Below w.heap.size w w') : WBox w' g a i n v := (hb.block _ (wbox_lt h)).trans h
def One (w : World) (g t : Nat) (v : Value) : Prop := w.heap[g]? = some (.cells #[v] t (0, 0))
theorem one_cell {w : World} {g t : Nat} {v : Value} (h : One w g t v) : w.cell? ⟨g, 0, none⟩ = some v := by
 unfold One at h;rw [cell_of_row _ _ 0 _ _ _ h];rfl
theorem one_free {w : World} {g t : Nat} {v : Value} (h : One w g t v) : w.frozen? ⟨g, 0, none⟩ = false := by
 unfold One at h;simp [World.frozen?, h]
theorem one_new (w : World) (t : Nat) (v : Value) : One (w.alloc (.cells #[v] t)) w.heap.size t v := heap_alloc_new w _
theorem one_lt {w : World} {g t : Nat} {v : Value} (h : One w g t v) : g < w.heap.size := row_lt h
theorem a0_ {w w' : World} {g t : Nat} {v : Value} (h : One w g t v) (hb : Below w.heap.size w w') : One w' g t v := (hb.block _ (one_lt h)).trans h
theorem ad_ (w : World) (o : Obj) : Below w.heap.size w (w.alloc o) := (Below.refl _ _).alloc (Nat.le_refl _) o
def isI (x y : Id2) : Bool := decide (x = y)
def notLess (x y : Id2) : Bool := !lss x.1 x.2 y.1 y.2
def badI (x : Id2) : Bool := !vidROW x.1 x.2
structure AsksI (K : Nat) (caps : Array Value) (p : Id2 → Bool) (S : World → Prop) : Prop where
 enters : ∀ args W, (callFunc K args).run Tryz.prog W = .ok (.enter K args) W
 kept : ∀ W W', S W → Below W.heap.size W W' → S W'
 call : ∀ a i W, S W → Calls Tryz.prog K (#[.agg #[.int .i64 a, .int .i64 i]] ++ caps) W fun e w' => e = .returned (.bool (p (a, i))) ∧ Below W.heap.size W w'
structure AsksW (K : Nat) (caps : Array Value) (p : Id2 → Bool) (S : World → Prop) : Prop where
 enters : ∀ args W, (callFunc K args).run Tryz.prog W = .ok (.enter K args) W
 kept : ∀ W W', S W → Below W.heap.size W W' → S W'
 call : ∀ a i n A m c W, S W → Calls Tryz.prog K (#[.agg #[.int .i64 a, .int .i64 i, .int .i64 n, .slice A m c]] ++ caps) W fun e w' => e = .returned (.bool (p (a, i))) ∧ Below W.heap.size W w'
theorem badI_asks : AsksI 170 #[] badI (fun _ => True) where
 enters := fun args W => enters_fn Tryz.func170 (by kernel_rfl) rfl args W
 kept _ _ _ _ := trivial
 call a i W _ := by
  have HB := hd_ (ad_ W (.cells #[.int .i64 a, .int .i64 i] 29));have HN : Hid (badI (a, i) = !vidROW a i) := hd_ rfl
  have HC := hd_ fun W => may_any a i W
  generalize badI (a, i) = z at *;generalize vidROW a i = y at *;have HE := hd_ HN.out.symm;clear HN;go_enter Tryz.func170, Tryz.ntmps170
  go_wp2_with fail;refine (HC.out _).mono ?_
  rintro e w1 ⟨rfl, hb⟩;have H1 := hd_ (ba_ HB.out hb);clear hb;go_wp2_with fail;go_ret;exact ⟨af_ HE.out, H1.out⟩
theorem isI_asks (X : Nat) (p q : Int) : AsksW 172 #[.pointer (some ⟨X, 0, none⟩)] (fun x => isI x (p, q)) (fun W => Box W X p q) where
 enters := fun args W => enters_fn Tryz.func172 (by kernel_rfl) rfl args W
 kept _ _ h hb := ag_ h hb
 call a i n A m c W hS := by
  have HB := hd_ (ad_ W (.cells #[.int .i64 a, .int .i64 i, .int .i64 n, .slice A m c] 68));have HX := hd_ (ag_ hS HB.out);clear hS;obtain ⟨c1, c2⟩ := ae_ HX.out;by_cases h1 : a = p
  ·subst h1
   by_cases h2 : i = q
   ·subst h2
    have HR := hd_ (show isI (a, i) (a, i) = true by simp [isI])
    go_enter Tryz.func172, Tryz.ntmps172
    go_wp2_with fail;go_ret;exact ⟨af_ HR.out.symm, HB.out⟩
   ·have h3 : (i == q) = false := by simpa using h2
    have HR := hd_ (show isI (a, i) (a, q) = false by simp [isI, h2])
    clear h2;go_enter Tryz.func172, Tryz.ntmps172
    go_wp2_with fail;go_ret;exact ⟨af_ HR.out.symm, HB.out⟩
  ·have h3 : (a == p) = false := by simpa using h1
   have HR := hd_ (show isI (a, i) (p, q) = false by simp [isI, h1])
   clear h1;go_enter Tryz.func172, Tryz.ntmps172
   go_wp2_with fail;go_ret;exact ⟨af_ HR.out.symm, HB.out⟩
theorem notLess_asks (X : Nat) (p q k : Int) (v : Value) : AsksW 173 #[.pointer (some ⟨X, 0, none⟩)] (fun x => notLess x (p, q)) (fun W => WBox W X p q k v) where
 enters := fun args W => enters_fn Tryz.func173 (by kernel_rfl) rfl args W
 kept _ _ h hb := ay_ h hb
 call a i n A m c W hS := by
  have HB := hd_ (ad_ W (.cells #[.int .i64 a, .int .i64 i, .int .i64 n, .slice A m c] 68));have HX := hd_ (ay_ hS HB.out);clear hS;obtain ⟨c1, c2, c3, c4⟩ := ai_ HX.out;have HN : Hid (notLess (a, i) (p, q) = !lss a i p q) := hd_ rfl
  have HC := hd_ fun W => less_any a i p q W
  generalize notLess (a, i) (p, q) = z at *;generalize lss a i p q = y at *;have HE := hd_ HN.out.symm;clear HN;go_enter Tryz.func173, Tryz.ntmps173
  go_wp2_with fail;refine (HC.out _).mono ?_
  rintro e w1 ⟨rfl, hb⟩;have H1 := hd_ (ba_ HB.out hb);clear hb;go_wp2_with fail;go_ret;exact ⟨af_ HE.out, H1.out⟩
theorem cmpW_any (a i n : Int) (A : Option Addr) (m c : Nat) (b j k : Int) (B : Option Addr) (m' c' : Nat) (w : World) :
  Calls Tryz.prog 190 #[.agg #[.int .i64 a, .int .i64 i, .int .i64 n, .slice A m c], .agg #[.int .i64 b, .int .i64 j, .int .i64 k, .slice B m' c']] w fun e w' => e = .returned (.int .i64 (cmpZ a i b j)) ∧ Below w.heap.size w w' := by
 have HB := hd_ (below_two w (.cells #[.int .i64 a, .int .i64 i, .int .i64 n, .slice A m c] 68) (.cells #[.int .i64 b, .int .i64 j, .int .i64 k, .slice B m' c'] 68));have HC := hd_ fun W => compare_any a i b j W
 generalize cmpZ a i b j = z at *;go_enter Tryz.func190, Tryz.ntmps190
 go_wp2_with fail;refine (HC.out _).mono ?_
 rintro e w1 ⟨rfl, hb⟩;have H1 := hd_ (ba_ HB.out hb);clear hb;go_wp2_with fail;go_ret;exact ⟨rfl, H1.out⟩
theorem eqW_any (a i n : Int) (A : Option Addr) (m c : Nat) (b j k : Int) (B : Option Addr) (m' c' : Nat) (w : World) :
  Calls Tryz.prog 192 #[.agg #[.int .i64 a, .int .i64 i, .int .i64 n, .slice A m c], .agg #[.int .i64 b, .int .i64 j, .int .i64 k, .slice B m' c']] w fun e w' => e = .returned (.bool (isI (a, i) (b, j))) ∧ Below w.heap.size w w' := by
 have HB := hd_ (below_two w (.cells #[.int .i64 a, .int .i64 i, .int .i64 n, .slice A m c] 68) (.cells #[.int .i64 b, .int .i64 j, .int .i64 k, .slice B m' c'] 68));by_cases h1 : a = b
 ·subst h1
  by_cases h2 : i = j
  ·subst h2
   have HR := hd_ (show isI (a, i) (a, i) = true by simp [isI])
   go_enter Tryz.func192, Tryz.ntmps192
   go_wp2_with fail;go_ret;exact ⟨af_ HR.out.symm, HB.out⟩
  ·have h3 : (i == j) = false := by simpa using h2
   have HR := hd_ (show isI (a, i) (a, j) = false by simp [isI, h2])
   clear h2;go_enter Tryz.func192, Tryz.ntmps192
   go_wp2_with fail;go_ret;exact ⟨af_ HR.out.symm, HB.out⟩
 ·have h3 : (a == b) = false := by simpa using h1
  have HR := hd_ (show isI (a, i) (b, j) = false by simp [isI, h1])
  clear h1;go_enter Tryz.func192, Tryz.ntmps192
  go_wp2_with fail;go_ret;exact ⟨af_ HR.out.symm, HB.out⟩
end
section
open Go.RowKit Sets RowSets
theorem Rcs.raw {w w' : World} {A : Option Addr} {n c : Nat} {qs : List Raw} (h : Rcs encW 4 w (.slice A n c) qs) (hw : Below w.heap.size w w') {k : Nat} (hk : k < qs.length) :
  ∃ ad, A = some ad ∧ w'.cell? (ad.add (k * 4)) = some (.int .i64 qs[k].1.1) ∧ w'.cell? ⟨(ad.add (k * 4)).block, (ad.add (k * 4)).off + 1, none⟩ = some (.int .i64 qs[k].1.2) ∧ w'.cell? ⟨(ad.add (k * 4)).block, (ad.add (k * 4)).off + 2, none⟩ = some (.int .i64 qs[k].2.1) ∧ w'.cell? ⟨(ad.add (k * 4)).block, (ad.add (k * 4)).off + 3, none⟩ = some (.slice qs[k].2.2.1 qs[k].2.2.2.1 qs[k].2.2.2.2) := by
 obtain ⟨ad, rfl⟩ := h.addr (by omega)
 exact ⟨ad, rfl, h.first hw hk rfl, h.cell hw hk 1 (by omega) rfl, h.cell hw hk 2 (by omega) rfl, h.cell hw hk 3 (by omega) rfl⟩
def FoundP (p : Id2 → Bool) (l : List Id2) (r : Int) : Prop := (r = -1 ∧ ∀ x ∈ l, p x = false) ∨ ∃ k : Nat, ∃ h : k < l.length, r = k ∧ p l[k] = true ∧ ∀ x ∈ l.take k, p x = false
theorem foundP_next {p : Id2 → Bool} {l : List Id2} {k : Nat} (hk : k < l.length) (h : ∀ x ∈ l.take k, p x = false) (hn : p l[k] = false) : ∀ x ∈ l.take (k + 1), p x = false := by
 intro x hx;rw [List.take_succ_eq_append_getElem hk] at hx;rcases List.mem_append.1 hx with h1 | h1
 ·exact h x h1
 ·rw [List.mem_singleton.1 h1]
  exact hn
theorem foundP_none {p : Id2 → Bool} {l : List Id2} {k : Nat} (hk : l.length ≤ k) (h : ∀ x ∈ l.take k, p x = false) : FoundP p l (-1) := .inl ⟨rfl, by rwa [List.take_of_length_le hk] at h⟩
theorem foundP_any {p : Id2 → Bool} {l : List Id2} {r : Int} (h : FoundP p l r) : decide (0 ≤ r) = l.any p := by
 rcases h with ⟨rfl, h⟩ | ⟨k, hk, rfl, h1, _⟩
 ·have : l.any p = false := by
   rw [List.any_eq_false];intro x hx;rw [h x hx];simp
  rw [this];rfl
 ·have : l.any p = true := List.any_eq_true.2 ⟨l[k], List.getElem_mem hk, h1⟩
  rw [this];simp
set_option maxHeartbeats 1000000 in
theorem indexW_any {K : Nat} {caps : Array Value} {p : Id2 → Bool} {S : World → Prop} (hP : AsksW K caps p S) (v : Value) (qs : List Raw) (w : World) (h : Rcs encW 4 w v qs) (hS : S w) (hl : qs.length ≤ 100000) :
  Calls Tryz.prog 152 #[v, .func (.func K) #[] caps] w fun e w' => (∃ r, e = .returned (.int .i64 r) ∧ FoundP p (qs.map (·.1)) r) ∧ Below w.heap.size w w' := by
 have HP := hd_ hP;have HI := hd_ h;have HS0 := hd_ hS;have hK := hP.enters;obtain ⟨A, c, rfl, hz⟩ := h;clear hz hP hS;go_enter Tryz.func152, Tryz.ntmps152
 go_wp2_with fail;go_loopw [8] (fun s3 wr => ∃ k : Nat, k ≤ qs.length ∧ s3 = .int .i64 k ∧ Hid (∀ x ∈ (qs.map (·.1)).take k, p x = false) ∧ Hid (S wr) ∧ Hid (Below w.heap.size w wr)) (fun s3 _ => qs.length - (intOf s3).toNat)
 case atStart => exact ⟨0, by omega, rfl, hd_ (fun x hx => by simp at hx), HS0, hd_ (Below.refl _ _)⟩
 case round =>
  obtain ⟨k, hkl, rfl, HT, HS, HW⟩ := hrel;have i3 : (0 : Int) ≤ (k : Int) := by omega
  by_cases hlt : k < qs.length
  ·have hd : decide ((k : Int) < (qs.length : Int)) = true := by simp; omega
   have i4 : (k : Int) < (qs.length : Int) := by omega
   obtain ⟨ad, rfl, c1, c2, c3, c4⟩ := HI.out.raw HW.out hlt;have hkm : k < (qs.map (·.1)).length := by simpa using hlt
   have H0 := hd_ fun (h : p (qs[k].1.1, qs[k].1.2) = false) => foundP_next hkm HT.out (by rw [List.getElem_map]; exact h)
   have H1 := hd_ fun (h : p (qs[k].1.1, qs[k].1.2) = true) => (show FoundP p (qs.map (·.1)) k from .inr ⟨k, hkm, rfl, by rw [List.getElem_map]; exact h, HT.out⟩)
   have HC := hd_ fun W hs => HP.out.call qs[k].1.1 qs[k].1.2 qs[k].2.1 qs[k].2.2.1 qs[k].2.2.2.1 qs[k].2.2.2.2 W hs
   clear hkm;generalize qs[k].1.1 = a at *;generalize qs[k].1.2 = i at *;generalize qs[k].2.1 = n at *;generalize qs[k].2.2.1 = B at *;generalize qs[k].2.2.2.1 = m at *;generalize qs[k].2.2.2.2 = d at *;cases hp : p (a, i)
   ·rw [hp] at HC
    have HF := hd_ (H0.out hp);clear hp H0 H1;go_wp2_with fail;(with_reducible refine (HC.out _ HS.out).mono ?_)
    rintro e w1 ⟨rfl, hb⟩;have HB := hd_ (ba_ HW.out hb);have HS1 := hd_ (HP.out.kept _ _ HS.out hb);clear hb;go_wp2_with fail;go_roundw
    case rel => exact ⟨k + 1, by omega, by go_num, HF, HS1, HB⟩
    case measure => simp [intOf]; omega
   ·rw [hp] at HC
    have HF := hd_ (H1.out hp);clear hp H0 H1;go_wp2_with fail;(with_reducible refine (HC.out _ HS.out).mono ?_)
    rintro e w1 ⟨rfl, hb⟩;have HB := hd_ (ba_ HW.out hb);clear hb;go_wp2_with fail;go_ret;exact ⟨⟨_, rfl, HF.out⟩, HB.out⟩
  ·have hd : decide ((k : Int) < (qs.length : Int)) = false := by simp; omega
   have HF := hd_ (foundP_none (by simp; omega) HT.out)
   go_wp2_with fail;go_ret;exact ⟨⟨_, rfl, HF.out⟩, HW.out⟩
set_option maxHeartbeats 1000000 in
theorem indexI_any {K : Nat} {caps : Array Value} {p : Id2 → Bool} {S : World → Prop} (hP : AsksI K caps p S) (v : Value) (l : List Id2) (w : World) (h : Ids w v l) (hS : S w) (hl : l.length ≤ 100000) :
  Calls Tryz.prog 154 #[v, .func (.func K) #[] caps] w fun e w' => (∃ r, e = .returned (.int .i64 r) ∧ FoundP p l r) ∧ Below w.heap.size w w' := by
 have HP := hd_ hP;have HI := hd_ h;have HS0 := hd_ hS;have hK := hP.enters;obtain ⟨A, c, rfl, hz⟩ := h;clear hz hP hS;go_enter Tryz.func154, Tryz.ntmps154
 go_wp2_with fail;go_loopw [8] (fun s3 wr => ∃ k : Nat, k ≤ l.length ∧ s3 = .int .i64 k ∧ Hid (∀ x ∈ l.take k, p x = false) ∧ Hid (S wr) ∧ Hid (Below w.heap.size w wr)) (fun s3 _ => l.length - (intOf s3).toNat)
 case atStart => exact ⟨0, by omega, rfl, hd_ (fun x hx => by simp at hx), HS0, hd_ (Below.refl _ _)⟩
 case round =>
  obtain ⟨k, hkl, rfl, HT, HS, HW⟩ := hrel;have i3 : (0 : Int) ≤ (k : Int) := by omega
  by_cases hlt : k < l.length
  ·have hd : decide ((k : Int) < (l.length : Int)) = true := by simp; omega
   have i4 : (k : Int) < (l.length : Int) := by omega
   obtain ⟨ad, rfl, c1, c2⟩ := HI.out.at_ HW.out hlt;have HM : Hid (l[k] = (l[k].1, l[k].2)) := hd_ rfl
   have HC := hd_ fun W hs => HP.out.call l[k].1 l[k].2 W hs
   have H0 := hd_ fun h => foundP_next hlt HT.out h
   have H1 := hd_ fun h => (show FoundP p l k from .inr ⟨k, hlt, rfl, h, HT.out⟩)
   rw [HM.out] at H0 H1;clear HM;generalize l[k].1 = a at *;generalize l[k].2 = i at *;cases hp : p (a, i)
   ·rw [hp] at HC
    have HF := hd_ (H0.out hp);clear hp H0 H1;go_wp2_with fail;(with_reducible refine (HC.out _ HS.out).mono ?_)
    rintro e w1 ⟨rfl, hb⟩;have HB := hd_ (ba_ HW.out hb);have HS1 := hd_ (HP.out.kept _ _ HS.out hb);clear hb;go_wp2_with fail;go_roundw
    case rel => exact ⟨k + 1, by omega, by go_num, HF, HS1, HB⟩
    case measure => simp [intOf]; omega
   ·rw [hp] at HC
    have HF := hd_ (H1.out hp);clear hp H0 H1;go_wp2_with fail;(with_reducible refine (HC.out _ HS.out).mono ?_)
    rintro e w1 ⟨rfl, hb⟩;have HB := hd_ (ba_ HW.out hb);clear hb;go_wp2_with fail;go_ret;exact ⟨⟨_, rfl, HF.out⟩, HB.out⟩
  ·have hd : decide ((k : Int) < (l.length : Int)) = false := by simp; omega
   have HF := hd_ (foundP_none (by omega) HT.out)
   go_wp2_with fail;go_ret;exact ⟨⟨_, rfl, HF.out⟩, HW.out⟩
def allV (l : List Id2) : Bool := !l.any badI
theorem containsBad_any (v : Value) (l : List Id2) (w : World) (h : Ids w v l) (hl : l.length ≤ 100000) :
  Calls Tryz.prog 108 #[v, .func (.func 170) #[] #[]] w fun e w' => e = .returned (.bool (l.any badI)) ∧ Below w.heap.size w w' := by
 have HI := hd_ h;clear h;go_enter Tryz.func108, Tryz.ntmps108
 go_wp2_with fail;refine (indexI_any badI_asks v l _ HI.out trivial hl).mono ?_
 rintro e w1 ⟨⟨r, rfl, hr⟩, hb⟩;have HR := hd_ (foundP_any hr);have HB := hd_ hb;clear hr hb;go_wp2_with fail;go_ret;exact ⟨af_ HR.out, HB.out⟩
theorem mayAll_any (v : Value) (l : List Id2) (w : World) (h : Ids w v l) (hl : l.length ≤ 100000) :
  Calls Tryz.prog 131 #[v] w fun e w' => e = .returned (.bool (allV l)) ∧ Below w.heap.size w w' := by
 have HI := hd_ h;have HE : Hid (allV l = !l.any badI) := hd_ rfl
 clear h;go_enter Tryz.func131, Tryz.ntmps131
 go_wp2_with fail;refine (containsBad_any v l _ HI.out hl).mono ?_
 rintro e w1 ⟨rfl, hb⟩;have HB := hd_ hb;clear hb;generalize l.any badI = z at *;go_wp2_with fail;go_ret;exact ⟨af_ HE.out.symm, HB.out⟩
theorem find_any (v : Value) (qs : List Raw) (x y : Int) (w : World) (h : Rcs encW 4 w v qs) (hl : qs.length ≤ 100000) :
  Calls Tryz.prog 133 #[v, .agg #[.int .i64 x, .int .i64 y]] w fun e w' => (∃ r, e = .returned (.int .i64 r) ∧ FoundP (fun u => isI u (x, y)) (qs.map (·.1)) r) ∧ Below w.heap.size w w' := by
 have HB := hd_ (ad_ w (.cells #[.int .i64 x, .int .i64 y] 29));have HI := hd_ (h.below HB.out);have HX := hd_ (ao_ w x y);clear h;go_enter Tryz.func133, Tryz.ntmps133
 go_wp2_with fail;refine (indexW_any (isI_asks w.heap.size x y) v qs _ HI.out HX.out hl).mono ?_
 rintro e w1 ⟨⟨r, rfl, hr⟩, hb⟩;have HR := hd_ hr;have H1 := hd_ (ba_ HB.out hb);clear hr hb;go_wp2_with fail;go_ret;exact ⟨⟨r, rfl, HR.out⟩, H1.out⟩
end
end Go.Proofs.YthkkipbmlafdiaaGreat
