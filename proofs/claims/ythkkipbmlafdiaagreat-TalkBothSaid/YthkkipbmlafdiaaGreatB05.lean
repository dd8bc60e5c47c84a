/-
  Contracts and plain facts.
-/
import Derived.Test.YthkkipbmlafdiaaGreatOy
import Derived.BigRegion
import Derived.Test.YthkkipbmlafdiaaGreatB04
set_option maxRecDepth 20000
namespace Go.Proofs.YthkkipbmlafdiaaGreat
section
open Go.RowKit Sets RowSets
theorem infoI : (Tryz.prog.info? 29).map (fun i => (i.zero, i.size, i.bytes)) = some (some (.agg #[.int .i64 0, .int .i64 0]), 2, 16) := by kernel_rfl
theorem infoW : (Tryz.prog.info? 68).map (fun i => (i.zero, i.size, i.bytes)) = some (some (.agg #[.int .i64 0, .int .i64 0, .int .i64 0, .slice none 0 0]), 4, 48) := by kernel_rfl
abbrev OwnsI (w : World) (base : Nat) (v : Value) (l : List Id2) : Prop := OwnsR encI 2 29 w base v l
abbrev OwnsW (w : World) (base : Nat) (v : Value) (l : List Raw) : Prop := OwnsR encW 4 68 w base v l
theorem OwnsR.mono {α : Type} {enc : α → List Value} {sz : Nat} {e : TypeId} {w : World} {base b : Nat} {v : Value} {l : List α} (h : OwnsR enc sz e w base v l) (hb : b ≤ base) : OwnsR enc sz e w b v l := by
 refine ⟨h.1, ?_⟩
 rcases id h.2 with h1 | ⟨g, cap, cur, h1, h2, h3⟩
 ·exact .inl h1
 ·exact .inr ⟨g, cap, cur, h1, Nat.le_trans hb h2, h3⟩
theorem ownsI_ids {w : World} {base : Nat} {v : Value} {l : List Id2} (h : OwnsI w base v l) : Ids w v l := ids_rcs (rcs_owns encI_len h)
theorem cloneI_any (v : Value) (l : List Id2) (w : World) (h : Ids w v l) (hl : l.length ≤ 100000) :
  Calls Tryz.prog 187 #[v] w fun e w' => ∃ v', e = .returned v' ∧ OwnsI w' w.heap.size v' l ∧ Below w.heap.size w w' := by
 have q24 : ∀ (w : World) (a : Option Addr) (n c n' c' : Nat), (binOp .eql 23 (.slice a n c) (.slice none n' c')).run Tryz.prog w = .ok (.bool a.isNone) w := fun w a n c n' c' => Lib.run_eql_slice_nil w _ _ a n c n' c' Tryz.underlying23
 rcases h.shape with ⟨rfl, rfl⟩ | ⟨ad, c, rfl, hc⟩
 ·go_enter Tryz.func187, Tryz.ntmps187
  go_wp2
  go_ret;exact ⟨_, rfl, OwnsR.nil _ _ _, Below.refl _ _⟩
 ·have HI := hd_ (rcs_ids h)
  clear h;go_enter Tryz.func187, Tryz.ntmps187
  go_wp2_with (at_builtin; refine wpList_append_recs 23 29 Tryz.underlying23 infoI rfl encI_len (by omega) encI_one (by omega) rfl (.tmp 5) (.tmp 6) rfl _ w.heap.size _ _ [] l rfl rfl (World.ownsRow_made w #[] 0 (Nat.le_refl _) (Nat.zero_le _) (by simp)) (HI.out.below ((Below.refl _ _).alloc (Nat.le_refl _) _)) (by simpa using hl) (by simp) ?_; intro v' w' h1 h2)
  go_wp2
  go_ret;exact ⟨_, rfl, h1, ((Below.refl _ _).alloc (Nat.le_refl _) _).trans h2⟩
theorem cloneW_any (v : Value) (l : List Raw) (w : World) (h : Rcs encW 4 w v l) (hl : l.length ≤ 100000) :
  Calls Tryz.prog 188 #[v] w fun e w' => ∃ v', e = .returned v' ∧ OwnsW w' w.heap.size v' l ∧ Below w.heap.size w w' := by
 have q27 : ∀ (w : World) (a : Option Addr) (n c n' c' : Nat), (binOp .eql 24 (.slice a n c) (.slice none n' c')).run Tryz.prog w = .ok (.bool a.isNone) w := fun w a n c n' c' => Lib.run_eql_slice_nil w _ _ a n c n' c' Tryz.underlying24
 rcases h.shape with ⟨rfl, rfl⟩ | ⟨ad, c, rfl, hc⟩
 ·go_enter Tryz.func188, Tryz.ntmps188
  go_wp2
  go_ret;exact ⟨_, rfl, OwnsR.nil _ _ _, Below.refl _ _⟩
 ·have HI := hd_ h
  clear h;go_enter Tryz.func188, Tryz.ntmps188
  go_wp2_with (at_builtin; refine wpList_append_recs 24 68 Tryz.underlying24 infoW rfl encW_len (by omega) encW_one (by omega) rfl (.tmp 5) (.tmp 6) rfl _ w.heap.size _ _ [] l rfl rfl (World.ownsRow_made w #[] 0 (Nat.le_refl _) (Nat.zero_le _) (by simp)) (HI.out.below ((Below.refl _ _).alloc (Nat.le_refl _) _)) (by simpa using hl) (by simp) ?_; intro v' w' h1 h2)
  go_wp2
  go_ret;exact ⟨_, rfl, h1, ((Below.refl _ _).alloc (Nat.le_refl _) _).trans h2⟩
theorem wbox_not {w : World} {g : Nat} {a i n : Int} {v : Value} (h : WBox w g a i n v) (u : Value) : WBox (w.setCell ⟨g, 3, none⟩ u) g a i n u := by
 unfold WBox at *;simp [World.setCell, Array.getElem?_modify, h]
theorem wbox_num {w : World} {g : Nat} {a i n : Int} {v : Value} (h : WBox w g a i n v) (m : Int) : WBox (w.setCell ⟨g, 2, none⟩ (.int .i64 m)) g a i m v := by
 unfold WBox at *;simp [World.setCell, Array.getElem?_modify, h]
theorem wbox_set {w : World} {g : Nat} {a i n : Int} {v : Value} (h : WBox w g a i n v) (b j m : Int) (u : Value) : WBox ((((w.setCell ⟨g, 0, none⟩ (.int .i64 b)).setCell ⟨g, 1, none⟩ (.int .i64 j)).setCell ⟨g, 2, none⟩ (.int .i64 m)).setCell ⟨g, 3, none⟩ u) g b j m u := by
 unfold WBox at *;simp [World.setCell, Array.getElem?_modify, h]
theorem grown_set1 {a w : World} {g : Nat} (h : a.grownBy w (some g)) (i : Nat) (x : Value) : a.grownBy (w.setCell ⟨g, i, none⟩ x) (some g) := grown_setCells h i [x]
theorem grown_set4 {a w : World} {g : Nat} (h : a.grownBy w (some g)) (x y z t : Value) : a.grownBy ((((w.setCell ⟨g, 0, none⟩ x).setCell ⟨g, 1, none⟩ y).setCell ⟨g, 2, none⟩ z).setCell ⟨g, 3, none⟩ t) (some g) := grown_setCells h 0 [x, y, z, t]
theorem below_set4 {b0 : Nat} {a w : World} {g : Nat} (h : Below b0 a w) (hg : b0 ≤ g) (x y z t : Value) : Below b0 a ((((w.setCell ⟨g, 0, none⟩ x).setCell ⟨g, 1, none⟩ y).setCell ⟨g, 2, none⟩ z).setCell ⟨g, 3, none⟩ t) := below_setCells h hg 0 [x, y, z, t]
theorem OwnsR.grown {α : Type} {enc : α → List Value} {sz : Nat} {e : TypeId} {w w' : World} {base g : Nat} {v : Value} {l : List α} (h : OwnsR enc sz e w base v l) (hg : w.grownBy w' (some g)) (hne : v.ownBlock ≠ some g) : OwnsR enc sz e w' base v l := World.ownsRow.kept h hg (.inr hne)
theorem ownsR_ne {α : Type} {enc : α → List Value} {sz : Nat} {e : TypeId} {w : World} {base g : Nat} {v : Value} {l : List α} (h : OwnsR enc sz e w base v l) (hg : g < base) : v.ownBlock ≠ some g := fun hx => by
 have := (World.ownsRow.lt h g hx).1
 omega
theorem slice_of_owns {α : Type} {enc : α → List Value} {sz : Nat} {e : TypeId} {w : World} {base : Nat} {v : Value} {l : List α} (h : OwnsR enc sz e w base v l) : ∃ A m c, v = .slice A m c := by
 rcases ownsR_split h with ⟨rfl, _⟩ | ⟨g, cap, rfl, _⟩
 ·exact ⟨_, _, _, rfl⟩
 ·exact ⟨_, _, _, rfl⟩
set_option maxHeartbeats 1000000 in
theorem copied_any (a i n : Int) (A : Option Addr) (m c : Nat) (l : List Id2) (w : World) (h : Ids w (.slice A m c) l) (hl : l.length ≤ 100000) :
  Calls Tryz.prog 153 #[.agg #[.int .i64 a, .int .i64 i, .int .i64 n, .slice A m c]] w fun e w' => ∃ B m' c', e = .returned (.agg #[.int .i64 a, .int .i64 i, .int .i64 n, .slice B m' c']) ∧ OwnsI w' w.heap.size (.slice B m' c') l ∧ Below w.heap.size w w' := by
 have B0 := hd_ (below_two w (.cells #[.int .i64 a, .int .i64 i, .int .i64 n, .slice A m c] 68) (.cells #[.int .i64 0, .int .i64 0, .int .i64 0, .slice none 0 0] 68));have X0 := hd_ (show WBox ((w.alloc (.cells #[.int .i64 a, .int .i64 i, .int .i64 n, .slice A m c] 68)).alloc (.cells #[.int .i64 0, .int .i64 0, .int .i64 0, .slice none 0 0] 68)) w.heap.size a i n (.slice A m c) from (Below.heap_alloc _ _ _ (by simp)).trans (av_ w a i n _))
 have Y0 := hd_ (show WBox ((w.alloc (.cells #[.int .i64 a, .int .i64 i, .int .i64 n, .slice A m c] 68)).alloc (.cells #[.int .i64 0, .int .i64 0, .int .i64 0, .slice none 0 0] 68)) (w.heap.size + 1) 0 0 0 (.slice none 0 0) from by have := av_ (w.alloc (.cells #[.int .i64 a, .int .i64 i, .int .i64 n, .slice A m c] 68)) 0 0 0 (.slice none 0 0); simpa using this)
 have I0 := hd_ (h.below B0.out);have Z0 := hd_ (show w.heap.size + 2 ≤ ((w.alloc (.cells #[.int .i64 a, .int .i64 i, .int .i64 n, .slice A m c] 68)).alloc (.cells #[.int .i64 0, .int .i64 0, .int .i64 0, .slice none 0 0] 68)).heap.size by simp)
 clear h;obtain ⟨c1, c2, c3, c4⟩ := ai_ X0.out;obtain ⟨f1, f2, f3, f4⟩ := wbox_free X0.out;go_enter Tryz.func153, Tryz.ntmps153
 go_wp2_with fail;refine (cloneI_any _ l _ I0.out hl).mono ?_
 rintro e w1 ⟨v', rfl, ho, hb⟩;obtain ⟨B, m', c', rfl⟩ := slice_of_owns ho;have O1 := hd_ (ho.mono Z0.out);have B1 := hd_ (ba_ B0.out hb);have X1 := hd_ (ay_ X0.out hb);have Y1 := hd_ (ay_ Y0.out hb);clear ho hb c1 c2 c3 c4 f1 f2 f3 f4;obtain ⟨c1, c2, c3, c4⟩ := ai_ X1.out;obtain ⟨f1, f2, f3, f4⟩ := wbox_free X1.out;have X2 := hd_ (wbox_not X1.out (.slice B m' c'));have Y2 := hd_ (show WBox (w1.setCell ⟨w.heap.size, 3, none⟩ (.slice B m' c')) (w.heap.size + 1) 0 0 0 (.slice none 0 0) from (Below.heap_setCell _ _ _ _ (by show w.heap.size + 1 ≠ w.heap.size; omega)).trans Y1.out)
 have O2 := hd_ (show OwnsI (w1.setCell ⟨w.heap.size, 3, none⟩ (.slice B m' c')) (w.heap.size + 2) (.slice B m' c') l from O1.out.grown (grown_set1 (World.grownBy.refl _ _) 3 _) (ownsR_ne O1.out (by omega)))
 have B2 := hd_ (show Below w.heap.size w (w1.setCell ⟨w.heap.size, 3, none⟩ (.slice B m' c')) from B1.out.setCell (p := ⟨w.heap.size, 3, none⟩) (Nat.le_refl _) _)
 obtain ⟨d1, d2, d3, d4⟩ := ai_ X2.out;obtain ⟨y1, y2, y3, y4⟩ := ai_ Y2.out;obtain ⟨g1, g2, g3, g4⟩ := wbox_free Y2.out;have Y3 := hd_ (wbox_set Y2.out a i n (.slice B m' c'));have O3 := hd_ (O2.out.grown (grown_set4 (World.grownBy.refl _ (some (w.heap.size + 1))) (.int .i64 a) (.int .i64 i) (.int .i64 n) (.slice B m' c')) (ownsR_ne O2.out (by omega)))
 have B3 := hd_ (below_set4 (g := w.heap.size + 1) B2.out (by omega) (.int .i64 a) (.int .i64 i) (.int .i64 n) (.slice B m' c'))
 go_wp2_with fail;obtain ⟨q0, q1, q2, q3⟩ := ai_ Y3.out;refine bodyPost_ret (v := .agg #[.int .i64 a, .int .i64 i, .int .i64 n, .slice B m' c']) (by simp [results, Tryz.results153, go_sem, q0, q1, q2, q3]) rfl ?_
 exact ⟨B, m', c', rfl, O3.out.mono (by omega), B3.out⟩
end
section
open Go Go.RowKit Sets RowSets
section
variable {α : Type} [Inhabited α] {enc : α → List Value} {sz : Nat}
omit [Inhabited α] in
theorem made_flat (hs : ∀ a, (enc a).length = sz) (h0 : 0 < sz) {zc : Array Value} {r0 : α} (hz : zc.toList = enc r0) (n : Nat) : (madeCells zc (n * sz)).toList = flatR enc (List.replicate n r0) := by
 have hzs : zc.size = sz := by rw [← Array.length_toList, hz, hs]
 apply List.ext_getElem?
 intro j;by_cases hj : j < n * sz
 ·have hk : j / sz < n := (Nat.div_lt_iff_lt_mul h0).2 hj
  have hm := Nat.mod_lt j h0;have he : j = j / sz * sz + j % sz := by rw [Nat.mul_comm]; exact (Nat.div_add_mod j sz).symm
  have hk2 : j / sz < (List.replicate n r0).length := by simpa using hk
  have hg : (List.replicate n r0)[j / sz] = r0 := by simp
  have hl : j % sz < (enc r0).length := by rw [hs]; exact hm
  have h1 := flatR_at hs (List.replicate n r0) (j / sz) hk2 (j % sz) ((enc r0)[j % sz]) (by rw [hg]; exact List.getElem?_eq_getElem hl)
  rw [← he] at h1;rw [h1, Array.getElem?_toList, Array.getElem?_eq_getElem (by rw [size_madeCells]; exact hj)]
  congr 1
  have hl2 : j % sz < zc.size := by rw [hzs]; exact hm
  simp only [madeCells, Array.getElem_map, Array.getElem_range, hzs];rw [getElem!_pos zc _ hl2, ← Array.getElem_toList];simp only [hz]
 ·rw [List.getElem?_eq_none (by simp [size_madeCells]; omega), List.getElem?_eq_none (by rw [flatR_len hs]; simp; omega)]
variable {P : Program}
theorem wpList_make_all {ops : Array Oper} {rest : List Oper} {o : Oper} {a : Act} {Q : Exit → Act → World → Prop} (t e : TypeId) {z : Value} {bytes : Nat} (r0 : α) (ht : P.underlying t = some (.slice e))
  (hinfo : (P.info? e).map (fun i => (i.zero, i.size, i.bytes)) = some (some z, sz, bytes)) (hs : ∀ a, (enc a).length = sz) (h0 : 0 < sz) (hz : z.cells.toList = enc r0) (hby : bytes ≤ 1000)
  (w : World) (hgd : o.guard = none) (x : Operand) (hop : o.op = .makeSlice t x x) (n : Nat) (hx : a.eval x = .int .i64 n) (hn : n ≤ 100000)
  (h : ∀ w', RowAtR enc sz w' w.heap.size (Array.replicate n r0) → w.heap.size < w'.heap.size → Below w.heap.size w w' → wpList P ops Q rest (a.put o.dst (.slice (some ⟨w.heap.size, 0, none⟩) n n)) w') : wpList P ops Q (o :: rest) a w := by
 obtain ⟨i0, hi, hz0, hz1, hz2⟩ := info_parts hinfo;have hnb : n * bytes ≤ 100000 * 1000 := Nat.mul_le_mul hn hby
 refine wpList_make_full w hgd x x t hop w.heap.size e i0 z sz ht hi hz0 hz1 .i64 .i64 n n n hx hx rfl rfl (by rw [hz2]; have := Nat.mul_comm n bytes; omega) (by unfold maxLen; omega) (Nat.le_refl _) fun w' h1 h2 => ?_
 rw [made_flat hs h0 hz] at h1
 have ho : OwnsR enc sz e w' w.heap.size (.slice (some ⟨w.heap.size, 0, none⟩) (Array.replicate n r0).size n) (Array.replicate n r0).toList := by
  unfold OwnsR;simpa using h1
 have hr := rowAtR_owns hs ho;exact h w' hr hr.1 ((Below.refl w.heap.size w).grown h2 (Nat.le_refl _) (fun k hk => by cases hk))
end
theorem RowAtR.row {w : World} {g : Nat} {d : Array Raw} (h : RowAtR encW 4 w g d) {k : Nat} (hk : k < d.size) :
  (w.cell? ⟨g, k * 4, none⟩ = some (.int .i64 d[k]!.1.1) ∧ w.cell? ⟨g, k * 4 + 1, none⟩ = some (.int .i64 d[k]!.1.2) ∧ w.cell? ⟨g, k * 4 + 2, none⟩ = some (.int .i64 d[k]!.2.1) ∧ w.cell? ⟨g, k * 4 + 3, none⟩ = some (.slice d[k]!.2.2.1 d[k]!.2.2.2.1 d[k]!.2.2.2.2)) ∧
  (w.frozen? ⟨g, k * 4, none⟩ = false ∧ w.frozen? ⟨g, k * 4 + 1, none⟩ = false ∧ w.frozen? ⟨g, k * 4 + 2, none⟩ = false ∧ w.frozen? ⟨g, k * 4 + 3, none⟩ = false) :=
 ⟨⟨(h.2 k hk 0 _ rfl).1, (h.2 k hk 1 _ rfl).1, (h.2 k hk 2 _ rfl).1, (h.2 k hk 3 _ rfl).1⟩, (h.2 k hk 0 _ rfl).2, (h.2 k hk 1 _ rfl).2, (h.2 k hk 2 _ rfl).2, (h.2 k hk 3 _ rfl).2⟩
theorem RowAtR.id {w : World} {g : Nat} {d : Array Id2} (h : RowAtR encI 2 w g d) {k : Nat} (hk : k < d.size) :
  (w.cell? ⟨g, k * 2, none⟩ = some (.int .i64 d[k]!.1) ∧ w.cell? ⟨g, k * 2 + 1, none⟩ = some (.int .i64 d[k]!.2)) ∧
  (w.frozen? ⟨g, k * 2, none⟩ = false ∧ w.frozen? ⟨g, k * 2 + 1, none⟩ = false) :=
 ⟨⟨(h.2 k hk 0 _ rfl).1, (h.2 k hk 1 _ rfl).1⟩, (h.2 k hk 0 _ rfl).2, (h.2 k hk 1 _ rfl).2⟩
theorem rowW_set {w : World} {g : Nat} {d : Array Raw} (h : RowAtR encW 4 w g d) {i : Nat} (hi : i < d.size) (a j n : Int) (A : Option Addr) (m c : Nat) :
  RowAtR encW 4 ((((w.setCell ⟨g, i * 4, none⟩ (.int .i64 a)).setCell ⟨g, i * 4 + 1, none⟩ (.int .i64 j)).setCell ⟨g, i * 4 + 2, none⟩ (.int .i64 n)).setCell ⟨g, i * 4 + 3, none⟩ (.slice A m c)) g (d.setIfInBounds i ((a, j), n, A, m, c)) :=
 rowAtR_set encW_len h hi ((a, j), n, A, m, c)
theorem rowI_set {w : World} {g : Nat} {d : Array Id2} (h : RowAtR encI 2 w g d) {i : Nat} (hi : i < d.size) (a j : Int) :
  RowAtR encI 2 ((w.setCell ⟨g, i * 2, none⟩ (.int .i64 a)).setCell ⟨g, i * 2 + 1, none⟩ (.int .i64 j)) g (d.setIfInBounds i (a, j)) :=
 rowAtR_set encI_len h hi (a, j)
theorem grown_setW {a w : World} {g : Nat} (h : a.grownBy w (some g)) (i : Nat) (x y z t : Value) : a.grownBy ((((w.setCell ⟨g, i * 4, none⟩ x).setCell ⟨g, i * 4 + 1, none⟩ y).setCell ⟨g, i * 4 + 2, none⟩ z).setCell ⟨g, i * 4 + 3, none⟩ t) (some g) := grown_setCells h (i * 4) [x, y, z, t]
theorem grown_setI {a w : World} {g : Nat} (h : a.grownBy w (some g)) (i : Nat) (x y : Value) : a.grownBy ((w.setCell ⟨g, i * 2, none⟩ x).setCell ⟨g, i * 2 + 1, none⟩ y) (some g) := grown_setCells h (i * 2) [x, y]
theorem below_setW {b0 : Nat} {a w : World} {g : Nat} (h : Below b0 a w) (hg : b0 ≤ g) (i : Nat) (x y z t : Value) : Below b0 a ((((w.setCell ⟨g, i * 4, none⟩ x).setCell ⟨g, i * 4 + 1, none⟩ y).setCell ⟨g, i * 4 + 2, none⟩ z).setCell ⟨g, i * 4 + 3, none⟩ t) := below_setCells h hg (i * 4) [x, y, z, t]
theorem below_setI {b0 : Nat} {a w : World} {g : Nat} (h : Below b0 a w) (hg : b0 ≤ g) (i : Nat) (x y : Value) : Below b0 a ((w.setCell ⟨g, i * 2, none⟩ x).setCell ⟨g, i * 2 + 1, none⟩ y) := below_setCells h hg (i * 2) [x, y]
def OwnRow (w : World) (lo : Nat) (q : Raw) (r : Row) : Prop := q.1 = r.1 ∧ q.2.1 = r.2.1 ∧ OwnsI w lo (slc q) r.2.2
def EachOwn (w : World) (lo : Nat) : List Raw → List Row → Prop
 | [], [] => True
 | q :: qs, r :: l => OwnRow w lo q r ∧ EachOwn w lo qs l
 | _, _ => False
def Apart (q q' : Raw) : Prop := ∀ b, (slc q).ownBlock = some b → (slc q').ownBlock ≠ some b
theorem EachOwn.imp {w w' : World} {lo lo' : Nat} (f : ∀ q r, OwnRow w lo q r → OwnRow w' lo' q r) : ∀ {qs : List Raw} {l : List Row}, EachOwn w lo qs l → EachOwn w' lo' qs l
 | [], [], _ => trivial
 | _ :: _, _ :: _, h => ⟨f _ _ h.1, EachOwn.imp f h.2⟩
 | [], _ :: _, h => h.elim
 | _ :: _, [], h => h.elim
theorem EachOwn.below {w w' : World} {lo : Nat} {qs : List Raw} {l : List Row} (h : EachOwn w lo qs l) (hb : Below w.heap.size w w') : EachOwn w' lo qs l := h.imp fun _ _ k => ⟨k.1, k.2.1, k.2.2.below hb⟩
theorem EachOwn.grown {w w' : World} {lo g : Nat} {qs : List Raw} {l : List Row} (h : EachOwn w lo qs l) (hb : w.grownBy w' (some g)) (hg : g < lo) : EachOwn w' lo qs l := h.imp fun _ _ k => ⟨k.1, k.2.1, k.2.2.grown hb (ownsR_ne k.2.2 hg)⟩
theorem EachOwn.append {w : World} {lo : Nat} {qs qs' : List Raw} {l l' : List Row} (h : EachOwn w lo qs l) (h' : EachOwn w lo qs' l') : EachOwn w lo (qs ++ qs') (l ++ l') := by
 induction qs generalizing l with
 | nil =>
  cases l with
  | nil => exact h'
  | cons r l => exact h.elim
 | cons q qs ih =>
  cases l with
  | nil => exact h.elim
  | cons r l => exact ⟨h.1, ih h.2⟩
theorem EachOwn.reads {w : World} {lo : Nat} : ∀ {qs : List Raw} {l : List Row}, EachOwn w lo qs l → EachReads w qs l
 | [], [], _ => trivial
 | _ :: _, _ :: _, h => ⟨⟨h.1.1, h.1.2.1, ownsI_ids h.1.2.2⟩, EachOwn.reads h.2⟩
 | [], _ :: _, h => h.elim
 | _ :: _, [], h => h.elim
theorem EachOwn.len {w : World} {lo : Nat} {qs : List Raw} {l : List Row} (h : EachOwn w lo qs l) : qs.length = l.length := h.reads.len
theorem EachOwn.lt {w : World} {lo : Nat} : ∀ {qs : List Raw} {l : List Row}, EachOwn w lo qs l → ∀ q ∈ qs, ∀ b, (slc q).ownBlock = some b → lo ≤ b ∧ b < w.heap.size
 | [], [], _ => fun q hq => by cases hq
 | _ :: _, _ :: _, h => fun q hq b hb => by
  rcases List.mem_cons.1 hq with rfl | hq
  ·exact World.ownsRow.lt h.1.2.2 b hb
  ·exact EachOwn.lt h.2 q hq b hb
 | [], _ :: _, h => h.elim
 | _ :: _, [], h => h.elim
theorem apart_snoc {w : World} {lo : Nat} {qs : List Raw} {l : List Row} {q : Raw} (h : EachOwn w lo qs l) (ha : qs.Pairwise Apart) (hq : ∀ b, (slc q).ownBlock = some b → w.heap.size ≤ b) : (qs ++ [q]).Pairwise Apart := by
 refine List.pairwise_append.2 ⟨ha, List.pairwise_singleton _ _, fun x hx y hy b hb e => ?_⟩
 rw [List.mem_singleton.1 hy] at e;have h1 := (h.lt x hx b hb).2;have h2 := hq b e;omega
theorem take_set_snoc {α : Type} {d : Array α} {k : Nat} (hk : k < d.size) (q : α) : (d.setIfInBounds k q).toList.take (k + 1) = d.toList.take k ++ [q] := by
 have hk2 : k < (d.setIfInBounds k q).toList.length := by simpa using hk
 rw [List.take_succ_eq_append_getElem hk2];congr 1
 ·rw [Array.toList_setIfInBounds, List.take_set_of_le (Nat.le_refl _)]
 ·simp
theorem take_snoc {α : Type} {l : List α} {k : Nat} (hk : k < l.length) : l.take (k + 1) = l.take k ++ [l[k]] := List.take_succ_eq_append_getElem hk
set_option maxHeartbeats 2000000 in
theorem copiedAll_any (v : Value) (l : List Row) (w : World) (h : RowsAt w v l) (hl : l.length ≤ 1000) (hn : ∀ r ∈ l, r.2.2.length ≤ 100000) :
  Calls Tryz.prog 104 #[v] w fun e w' => ∃ g, ∃ d : Array Raw, e = .returned (.slice (some ⟨g, 0, none⟩) d.size d.size) ∧ w.heap.size ≤ g ∧ RowAtR encW 4 w' g d ∧ EachOwn w' (g + 1) d.toList l ∧ d.toList.Pairwise Apart ∧ Below w.heap.size w w' := by
 obtain ⟨qs, h1, h2⟩ := h;have hlen := h2.len.symm;have HI := hd_ h1;have HE := hd_ h2;have HN := hd_ hn;obtain ⟨A, c, rfl, hz⟩ := h1;clear hz h2 hn;go_enter Tryz.func104, Tryz.ntmps104
 go_wp2_with (at_make; refine wpList_make_all (enc := encW) 24 68 ((0, 0), 0, none, 0, 0) Tryz.underlying24 infoW encW_len (by omega) rfl (by omega) w rfl (.tmp 7) rfl qs.length rfl (by omega) ?_; intro w1 k1 k2 k3; have R1 := hd_ k1; have S1 := hd_ k2; have B1 := hd_ k3; clear k1 k2 k3)
 have hsz0 : (Array.replicate qs.length (((0, 0), 0, none, 0, 0) : Raw)).size = qs.length := by simp
 obtain ⟨g, hg⟩ : ∃ g, w.heap.size = g := ⟨_, rfl⟩;have HG := hd_ hg;rw [hg] at R1 S1;simp only [hg];clear hg;go_loopw [11] (fun s11 wr => ∃ k : Nat, ∃ dk : Array Raw, k ≤ qs.length ∧ s11 = .int .i64 k ∧ dk.size = qs.length ∧ Hid (RowAtR encW 4 wr g dk) ∧ Hid (EachOwn wr (g + 1) (dk.toList.take k) (l.take k)) ∧ Hid ((dk.toList.take k).Pairwise Apart) ∧ Hid (Below w.heap.size w wr) ∧ Hid (g < wr.heap.size)) (fun s11 _ => qs.length - (intOf s11).toNat)
 case atStart => exact ⟨0, _, by omega, rfl, hsz0, R1, hd_ trivial, hd_ List.Pairwise.nil, B1, S1⟩
 case round =>
  obtain ⟨k, dk, hkl, rfl, hds, HR, HO, HA, HW, HS⟩ := hrel;have i3 : (0 : Int) ≤ (k : Int) := by omega
  by_cases hlt : k < qs.length
  ·have hd : decide ((k : Int) < (qs.length : Int)) = true := by simp; omega
   have i4 : (k : Int) < (qs.length : Int) := by omega
   obtain ⟨ad, rfl, c1, c2, c3, c4⟩ := HI.out.raw HW.out hlt;have hlt2 : k < l.length := by omega
   have HQ := hd_ (HE.out.at_ k hlt hlt2);have HL := hd_ (HN.out l[k] (List.getElem_mem hlt2));have HX := hd_ (av_ wr qs[k].1.1 qs[k].1.2 qs[k].2.1 (.slice qs[k].2.2.1 qs[k].2.2.2.1 qs[k].2.2.2.2));have HB := hd_ (ad_ wr (.cells #[.int .i64 qs[k].1.1, .int .i64 qs[k].1.2, .int .i64 qs[k].2.1, .slice qs[k].2.2.1 qs[k].2.2.2.1 qs[k].2.2.2.2] 68));have HQ1 := hd_ (show (qs[k].1.1, qs[k].1.2) = l[k].1 from HQ.out.1)
   have HQ2 := hd_ HQ.out.2.1;have HJ := hd_ (show Ids w (.slice qs[k].2.2.1 qs[k].2.2.2.1 qs[k].2.2.2.2) l[k].2.2 from HQ.out.2.2)
   have HTL := hd_ (take_snoc hlt2);clear HQ;generalize qs[k].1.1 = a at *;generalize qs[k].1.2 = i at *;generalize qs[k].2.1 = n at *;generalize qs[k].2.2.1 = B at *;generalize qs[k].2.2.2.1 = m at *;generalize qs[k].2.2.2.2 = d at *;obtain ⟨x1, x2, x3, x4⟩ := ai_ HX.out;go_wp2_with fail;refine (copied_any a i n B m d l[k].2.2 _ (HJ.out.below (HW.out.alloc HW.out.size _)) HL.out).mono ?_
   rintro e w2 ⟨C, m', c', rfl, ho, hb⟩;have HB2 := hd_ (below_boxed (Below.refl wr.heap.size wr) hb (Nat.le_refl _));have R2 := hd_ (rowAtR_kept HR.out HB2.out);have O2 := hd_ (ho.mono (show wr.heap.size ≤ _ by simp))
   have E2 := hd_ (HO.out.below HB2.out);have W2 := hd_ (ba_ HW.out HB2.out);have S2 := hd_ (Nat.lt_of_lt_of_le HS.out HB2.out.size);have A2 := hd_ (apart_snoc (q := ((a, i), n, C, m', c')) HO.out HA.out (fun b hb => (World.ownsRow.lt O2.out b hb).1))
   clear ho hb x1 x2 x3 x4 c1 c2 c3 c4;obtain ⟨⟨c1, c2, c3, c4⟩, f1, f2, f3, f4⟩ := R2.out.row (k := k) (by omega)
   have R3 := hd_ (rowW_set R2.out (show k < dk.size by omega) a i n C m' c')
   have G3 := hd_ (grown_setW (World.grownBy.refl w2 (some g)) k (.int .i64 a) (.int .i64 i) (.int .i64 n) (.slice C m' c'));have W3 := hd_ (below_setW (g := g) W2.out (by rw [HG.out]; exact Nat.le_refl g) k (.int .i64 a) (.int .i64 i) (.int .i64 n) (.slice C m' c'))
   have S3 := hd_ (Nat.lt_of_lt_of_le S2.out G3.out.size);have hgw : g + 1 ≤ wr.heap.size := HS.out
   have O3 := hd_ ((O2.out.mono hgw).grown G3.out (ownsR_ne (O2.out.mono hgw) (by omega)))
   have E3 := hd_ (E2.out.grown G3.out (by omega))
   have HT := hd_ (take_set_snoc (show k < dk.size by omega) (((a, i), n, C, m', c') : Raw))
   have E4 := hd_ (E3.out.append (show EachOwn _ (g + 1) [((a, i), n, C, m', c')] [l[k]] from ⟨⟨HQ1.out, HQ2.out, O3.out⟩, trivial⟩))
   rw [← HT.out, ← HTL.out] at E4;rw [← HT.out] at A2;clear E2 E3 O2 O3 HO HA R2 HR;go_wp2_with fail;go_roundw
   case rel => exact ⟨k + 1, _, by omega, by go_num, by simpa using hds, R3, E4, A2, W3, S3⟩
   case measure => simp [intOf]; omega
  ·obtain rfl : k = qs.length := by omega
   have hd : decide ((qs.length : Int) < (qs.length : Int)) = false := by simp
   have HT := hd_ (show dk.toList.take qs.length = dk.toList from List.take_of_length_le (by simp; omega))
   have HT2 := hd_ (show l.take qs.length = l from List.take_of_length_le (by omega))
   rw [HT.out, HT2.out] at HO;rw [HT.out] at HA;go_wp2_with fail;go_ret;exact ⟨g, dk, by rw [hds]; rfl, by rw [HG.out]; exact Nat.le_refl g, HR.out, HO.out, HA.out, HW.out⟩
end
end Go.Proofs.YthkkipbmlafdiaaGreat
