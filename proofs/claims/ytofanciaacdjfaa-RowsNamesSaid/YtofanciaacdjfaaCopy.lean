/-
  Walks over the library's copy of a list, and over the program's copy of a row, and of rows; the row of an ID. No statement is proved in this text; it holds for every input that its premises let by.
-/
import Derived.Test.YtofanciaacdjfaaFind
import Derived.BigRegion
namespace Go.Proofs.Ytofanciaacdjfaa
open Go.RowKit Sets RowSets
theorem infoI : (Try.prog.info? 23).map (fun i => (i.zero, i.size, i.bytes)) = some (some (.agg #[.int .i64 0, .int .i64 0]), 2, 16) := by kernel_rfl
theorem infoW : (Try.prog.info? 26).map (fun i => (i.zero, i.size, i.bytes)) = some (some (.agg #[.int .i64 0, .int .i64 0, .int .i64 0, .slice none 0 0]), 4, 48) := by kernel_rfl
/-- The slice v is the call's own, and holds IDs. -/
abbrev OwnsI (w : World) (base : Nat) (v : Value) (l : List Id2) : Prop := OwnsR encI 2 23 w base v l
abbrev OwnsW (w : World) (base : Nat) (v : Value) (l : List Raw) : Prop := OwnsR encW 4 26 w base v l
theorem OwnsR.mono {α : Type} {enc : α → List Value} {sz : Nat} {e : TypeId} {w : World} {base b : Nat} {v : Value} {l : List α} (h : OwnsR enc sz e w base v l) (hb : b ≤ base) : OwnsR enc sz e w b v l := by
  refine ⟨h.1, ?_⟩
  rcases id h.2 with h1 | ⟨g, cap, cur, h1, h2, h3⟩
  · exact .inl h1
  · exact .inr ⟨g, cap, cur, h1, Nat.le_trans hb h2, h3⟩
theorem ownsI_ids {w : World} {base : Nat} {v : Value} {l : List Id2} (h : OwnsI w base v l) : Ids w v l := ids_rcs (rcs_owns encI_len h)
theorem cloneI_any (v : Value) (l : List Id2) (w : World) (h : Ids w v l) (hl : l.length ≤ 100000) :
    Calls Try.prog 56 #[v] w fun e w' => ∃ v', e = .returned v' ∧ OwnsI w' w.heap.size v' l ∧ Below w.heap.size w w' := by
  have q24 : ∀ (w : World) (a : Option Addr) (n c n' c' : Nat), (binOp .eql 24 (.slice a n c) (.slice none n' c')).run Try.prog w = .ok (.bool a.isNone) w := fun w a n c n' c' => Lib.run_eql_slice_nil w _ _ a n c n' c' Try.underlying24
  rcases h.shape with ⟨rfl, rfl⟩ | ⟨ad, c, rfl, hc⟩
  · go_enter Try.func56, Try.ntmps56
    go_wp2
    go_ret
    exact ⟨_, rfl, OwnsR.nil _ _ _, Below.refl _ _⟩
  · have HI := Lib.hid (rcs_ids h)
    clear h
    go_enter Try.func56, Try.ntmps56
    go_wp2_with (at_builtin; refine wpList_append_recs 24 23 Try.underlying24 infoI rfl encI_len (by omega) encI_one (by omega) rfl (.tmp 5) (.tmp 6) rfl _ w.heap.size _ _ [] l rfl rfl (World.ownsRow_made w #[] 0 (Nat.le_refl _) (Nat.zero_le _) (by simp)) (HI.out.below ((Below.refl _ _).alloc (Nat.le_refl _) _)) (by simpa using hl) (by simp) ?_; intro v' w' h1 h2)
    go_wp2
    go_ret
    exact ⟨_, rfl, h1, ((Below.refl _ _).alloc (Nat.le_refl _) _).trans h2⟩
theorem cloneW_any (v : Value) (l : List Raw) (w : World) (h : Rcs encW 4 w v l) (hl : l.length ≤ 100000) :
    Calls Try.prog 60 #[v] w fun e w' => ∃ v', e = .returned v' ∧ OwnsW w' w.heap.size v' l ∧ Below w.heap.size w w' := by
  have q27 : ∀ (w : World) (a : Option Addr) (n c n' c' : Nat), (binOp .eql 27 (.slice a n c) (.slice none n' c')).run Try.prog w = .ok (.bool a.isNone) w := fun w a n c n' c' => Lib.run_eql_slice_nil w _ _ a n c n' c' Try.underlying27
  rcases h.shape with ⟨rfl, rfl⟩ | ⟨ad, c, rfl, hc⟩
  · go_enter Try.func60, Try.ntmps60
    go_wp2
    go_ret
    exact ⟨_, rfl, OwnsR.nil _ _ _, Below.refl _ _⟩
  · have HI := Lib.hid h
    clear h
    go_enter Try.func60, Try.ntmps60
    go_wp2_with (at_builtin; refine wpList_append_recs 27 26 Try.underlying27 infoW rfl encW_len (by omega) encW_one (by omega) rfl (.tmp 5) (.tmp 6) rfl _ w.heap.size _ _ [] l rfl rfl (World.ownsRow_made w #[] 0 (Nat.le_refl _) (Nat.zero_le _) (by simp)) (HI.out.below ((Below.refl _ _).alloc (Nat.le_refl _) _)) (by simpa using hl) (by simp) ?_; intro v' w' h1 h2)
    go_wp2
    go_ret
    exact ⟨_, rfl, h1, ((Below.refl _ _).alloc (Nat.le_refl _) _).trans h2⟩
theorem wbox_not {w : World} {g : Nat} {a i n : Int} {v : Value} (h : WBox w g a i n v) (u : Value) : WBox (w.setCell ⟨g, 3, none⟩ u) g a i n u := by
  unfold WBox at *
  simp [World.setCell, Array.getElem?_modify, h]
theorem wbox_num {w : World} {g : Nat} {a i n : Int} {v : Value} (h : WBox w g a i n v) (m : Int) : WBox (w.setCell ⟨g, 2, none⟩ (.int .i64 m)) g a i m v := by
  unfold WBox at *
  simp [World.setCell, Array.getElem?_modify, h]
theorem wbox_set {w : World} {g : Nat} {a i n : Int} {v : Value} (h : WBox w g a i n v) (b j m : Int) (u : Value) : WBox ((((w.setCell ⟨g, 0, none⟩ (.int .i64 b)).setCell ⟨g, 1, none⟩ (.int .i64 j)).setCell ⟨g, 2, none⟩ (.int .i64 m)).setCell ⟨g, 3, none⟩ u) g b j m u := by
  unfold WBox at *
  simp [World.setCell, Array.getElem?_modify, h]
theorem heap_set4 {w : World} {g k : Nat} (x y z t : Value) (h : k ≠ g) : ((((w.setCell ⟨g, 0, none⟩ x).setCell ⟨g, 1, none⟩ y).setCell ⟨g, 2, none⟩ z).setCell ⟨g, 3, none⟩ t).heap[k]? = w.heap[k]? := by
  rw [Below.heap_setCell _ _ _ _ h, Below.heap_setCell _ _ _ _ h, Below.heap_setCell _ _ _ _ h, Below.heap_setCell _ _ _ _ h]
theorem grown_set1 {a w : World} {g : Nat} (h : a.grownBy w (some g)) (i : Nat) (x : Value) : a.grownBy (w.setCell ⟨g, i, none⟩ x) (some g) := grown_setCells h i [x]
theorem grown_set4 {a w : World} {g : Nat} (h : a.grownBy w (some g)) (x y z t : Value) : a.grownBy ((((w.setCell ⟨g, 0, none⟩ x).setCell ⟨g, 1, none⟩ y).setCell ⟨g, 2, none⟩ z).setCell ⟨g, 3, none⟩ t) (some g) := grown_setCells h 0 [x, y, z, t]
theorem below_set4 {b0 : Nat} {a w : World} {g : Nat} (h : Below b0 a w) (hg : b0 ≤ g) (x y z t : Value) : Below b0 a ((((w.setCell ⟨g, 0, none⟩ x).setCell ⟨g, 1, none⟩ y).setCell ⟨g, 2, none⟩ z).setCell ⟨g, 3, none⟩ t) := below_setCells h hg 0 [x, y, z, t]
theorem OwnsR.grown {α : Type} {enc : α → List Value} {sz : Nat} {e : TypeId} {w w' : World} {base g : Nat} {v : Value} {l : List α} (h : OwnsR enc sz e w base v l) (hg : w.grownBy w' (some g)) (hne : v.ownBlock ≠ some g) : OwnsR enc sz e w' base v l := World.ownsRow.kept h hg (.inr hne)
/-- Where a row of the call's own lies. -/
theorem ownsR_ne {α : Type} {enc : α → List Value} {sz : Nat} {e : TypeId} {w : World} {base g : Nat} {v : Value} {l : List α} (h : OwnsR enc sz e w base v l) (hg : g < base) : v.ownBlock ≠ some g := fun hx => by
  have := (World.ownsRow.lt h g hx).1
  omega
theorem slice_of_owns {α : Type} {enc : α → List Value} {sz : Nat} {e : TypeId} {w : World} {base : Nat} {v : Value} {l : List α} (h : OwnsR enc sz e w base v l) : ∃ A m c, v = .slice A m c := by
  rcases ownsR_split h with ⟨rfl, _⟩ | ⟨g, cap, rfl, _⟩
  · exact ⟨_, _, _, rfl⟩
  · exact ⟨_, _, _, rfl⟩
set_option maxHeartbeats 1000000 in
theorem copied_any (a i n : Int) (A : Option Addr) (m c : Nat) (l : List Id2) (w : World) (h : Ids w (.slice A m c) l) (hl : l.length ≤ 100000) :
    Calls Try.prog 31 #[.agg #[.int .i64 a, .int .i64 i, .int .i64 n, .slice A m c]] w fun e w' => ∃ B m' c', e = .returned (.agg #[.int .i64 a, .int .i64 i, .int .i64 n, .slice B m' c']) ∧ OwnsI w' w.heap.size (.slice B m' c') l ∧ Below w.heap.size w w' := by
  have B0 := Lib.hid (below_two w (.cells #[.int .i64 a, .int .i64 i, .int .i64 n, .slice A m c] 26) (.cells #[.int .i64 0, .int .i64 0, .int .i64 0, .slice none 0 0] 26))
  have X0 := Lib.hid (show WBox ((w.alloc (.cells #[.int .i64 a, .int .i64 i, .int .i64 n, .slice A m c] 26)).alloc (.cells #[.int .i64 0, .int .i64 0, .int .i64 0, .slice none 0 0] 26)) w.heap.size a i n (.slice A m c) from (Below.heap_alloc _ _ _ (by simp)).trans (wbox_new w a i n _))
  have Y0 := Lib.hid (show WBox ((w.alloc (.cells #[.int .i64 a, .int .i64 i, .int .i64 n, .slice A m c] 26)).alloc (.cells #[.int .i64 0, .int .i64 0, .int .i64 0, .slice none 0 0] 26)) (w.heap.size + 1) 0 0 0 (.slice none 0 0) from by have := wbox_new (w.alloc (.cells #[.int .i64 a, .int .i64 i, .int .i64 n, .slice A m c] 26)) 0 0 0 (.slice none 0 0); simpa using this)
  have I0 := Lib.hid (h.below B0.out)
  have Z0 := Lib.hid (show w.heap.size + 2 ≤ ((w.alloc (.cells #[.int .i64 a, .int .i64 i, .int .i64 n, .slice A m c] 26)).alloc (.cells #[.int .i64 0, .int .i64 0, .int .i64 0, .slice none 0 0] 26)).heap.size by simp)
  clear h
  obtain ⟨c1, c2, c3, c4⟩ := wbox_cells X0.out
  obtain ⟨f1, f2, f3, f4⟩ := wbox_free X0.out
  go_enter Try.func31, Try.ntmps31
  go_wp2_with fail
  refine (cloneI_any _ l _ I0.out hl).mono ?_
  rintro e w1 ⟨v', rfl, ho, hb⟩
  obtain ⟨B, m', c', rfl⟩ := slice_of_owns ho
  have O1 := Lib.hid (ho.mono Z0.out)
  have B1 := Lib.hid (below_after B0.out hb (Nat.le_refl _))
  have X1 := Lib.hid (wbox_below X0.out hb)
  have Y1 := Lib.hid (wbox_below Y0.out hb)
  clear ho hb c1 c2 c3 c4 f1 f2 f3 f4
  obtain ⟨c1, c2, c3, c4⟩ := wbox_cells X1.out
  obtain ⟨f1, f2, f3, f4⟩ := wbox_free X1.out
  have X2 := Lib.hid (wbox_not X1.out (.slice B m' c'))
  have Y2 := Lib.hid (show WBox (w1.setCell ⟨w.heap.size, 3, none⟩ (.slice B m' c')) (w.heap.size + 1) 0 0 0 (.slice none 0 0) from (Below.heap_setCell _ _ _ _ (by show w.heap.size + 1 ≠ w.heap.size; omega)).trans Y1.out)
  have O2 := Lib.hid (show OwnsI (w1.setCell ⟨w.heap.size, 3, none⟩ (.slice B m' c')) (w.heap.size + 2) (.slice B m' c') l from O1.out.grown (grown_set1 (World.grownBy.refl _ _) 3 _) (ownsR_ne O1.out (by omega)))
  have B2 := Lib.hid (show Below w.heap.size w (w1.setCell ⟨w.heap.size, 3, none⟩ (.slice B m' c')) from B1.out.setCell (p := ⟨w.heap.size, 3, none⟩) (Nat.le_refl _) _)
  obtain ⟨d1, d2, d3, d4⟩ := wbox_cells X2.out
  obtain ⟨y1, y2, y3, y4⟩ := wbox_cells Y2.out
  obtain ⟨g1, g2, g3, g4⟩ := wbox_free Y2.out
  have Y3 := Lib.hid (wbox_set Y2.out a i n (.slice B m' c'))
  have O3 := Lib.hid (O2.out.grown (grown_set4 (World.grownBy.refl _ (some (w.heap.size + 1))) (.int .i64 a) (.int .i64 i) (.int .i64 n) (.slice B m' c')) (ownsR_ne O2.out (by omega)))
  have B3 := Lib.hid (below_set4 (g := w.heap.size + 1) B2.out (by omega) (.int .i64 a) (.int .i64 i) (.int .i64 n) (.slice B m' c'))
  go_wp2_with fail
  obtain ⟨q0, q1, q2, q3⟩ := wbox_cells Y3.out
  refine bodyPost_ret (v := .agg #[.int .i64 a, .int .i64 i, .int .i64 n, .slice B m' c']) (by simp [results, Try.results31, go_sem, q0, q1, q2, q3]) rfl ?_
  exact ⟨B, m', c', rfl, O3.out.mono (by omega), B3.out⟩
end Go.Proofs.Ytofanciaacdjfaa
