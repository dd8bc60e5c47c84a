/-
  The first question of each statement: the document's examples. No statement is proved in this text.
-/
import Derived.Test.YtpmfanglgkohjaaOf
namespace Go.Proofs.Ytpmfanglgkohjaa
open Go.RowKit Sets Clocks
/-- A literal of ticks. -/
theorem of_lit (ps : List Tick) (n : Nat) (hn : n = ps.length * 3) (hl : n ≤ 100) (W : World) : Calls Try.prog 10 #[.slice (some ⟨W.heap.size, 0, none⟩) n n] (W.alloc (.cells (flatR encT ps).toArray 3)) (Lists ps W) :=
  (of_any W.heap.size n ps _ (heap_alloc_new W _) hn hl).mono fun _ _ ⟨v, h1, h2, h3⟩ => ⟨v, h1, h2, below_boxed (Below.refl _ _) h3 (Nat.le_refl _)⟩
theorem up_lit (v : Value) (l : List Tick) (x y : Int) (r : List Tick) (k : Int) (w : World) (h : Rcs encT 3 w v l) (hl : l.length ≤ 39999) (e : upR l (x, y) = (r, k)) :
    Calls Try.prog 12 #[v, .agg #[.int .i64 x, .int .i64 y]] w fun e w' => ∃ v', e = .returned (.tuple #[v', .int .i64 k]) ∧ Rcs encT 3 w' v' r ∧ Below w.heap.size w w' := by
  have := up_any v l x y w h hl
  rw [e] at this
  exact this
set_option maxHeartbeats 4000000 in
set_option maxRecDepth 100000 in
theorem works_any (w : World) : Calls Try.prog 8 #[] w fun e w' => e = .returned (.bool true) ∧ Below w.heap.size w w' := by
  have E0 := Lib.hid (show upR [] (2, 1) = ([((2, 1), 1)], 0) by decide +kernel)
  have E1 := Lib.hid (show sameT (joinC [((1, 1), 2), ((2, 1), 1)] [((1, 1), 1), ((3, 1), 1)]) [((1, 1), 2), ((2, 1), 1), ((3, 1), 1)] = true by decide +kernel)
  have E2 := Lib.hid (show cmp [((1, 1), 2), ((2, 1), 1)] [((1, 1), 1), ((3, 1), 1)] = 4 by decide +kernel)
  have E3 := Lib.hid (show sameT [((2, 1), 1)] [((2, 1), 1)] = true by decide +kernel)
  have E4 := Lib.hid (show cmp [] [((1, 1), 0)] = 1 by decide +kernel)
  go_enter Try.func8, Try.ntmps8
  have B0 := Lib.hid (show Below w.heap.size w w from Below.refl _ _)
  go_wp2_with fail
  refine (of_lit [((1, 1), 2), ((2, 1), 1)] 6 rfl (by decide) w).mono ?_
  rintro e w1 ⟨a, rfl, hi, hb⟩
  have B1 := Lib.hid (below_after B0.out hb (Nat.le_refl _))
  have Ia1 := Lib.hid hi
  clear hi
  clear hb
  go_wp2_with fail
  refine (of_lit [((1, 1), 1), ((3, 1), 1)] 6 rfl (by decide) w1).mono ?_
  rintro e w2 ⟨b, rfl, hi, hb⟩
  have B2 := Lib.hid (below_after B1.out hb (Nat.le_refl _))
  have Ia2 := Lib.hid (Ia1.out.below hb)
  have Ib2 := Lib.hid hi
  clear hi
  clear hb
  go_wp2_with fail
  refine (up_lit (.slice none 0 0) [] 2 1 _ _ _ (Rcs.nil _) (by decide) E0.out).mono ?_
  rintro e w3 ⟨u, rfl, hi, hb⟩
  have B3 := Lib.hid (below_after B2.out hb (Nat.le_refl _))
  have Ia3 := Lib.hid (Ia2.out.below hb)
  have Ib3 := Lib.hid (Ib2.out.below hb)
  have Iu3 := Lib.hid hi
  clear hi
  clear hb
  go_wp2_with fail
  refine (join_any a b [((1, 1), 2), ((2, 1), 1)] [((1, 1), 1), ((3, 1), 1)] _ Ia3.out Ib3.out (by decide) (by decide)).mono ?_
  rintro e w4 ⟨j, rfl, hi, hb⟩
  have B4 := Lib.hid (below_after B3.out hb (Nat.le_refl _))
  have Ia4 := Lib.hid (Ia3.out.below hb)
  have Ib4 := Lib.hid (Ib3.out.below hb)
  have Iu4 := Lib.hid (Iu3.out.below hb)
  have Ij4 := Lib.hid hi
  clear hi
  clear hb
  go_wp2_with fail
  refine (of_lit [((1, 1), 2), ((2, 1), 1), ((3, 1), 1)] 9 rfl (by decide) w4).mono ?_
  rintro e w5 ⟨c, rfl, hi, hb⟩
  have B5 := Lib.hid (below_after B4.out hb (Nat.le_refl _))
  have Ia5 := Lib.hid (Ia4.out.below hb)
  have Ib5 := Lib.hid (Ib4.out.below hb)
  have Iu5 := Lib.hid (Iu4.out.below hb)
  have Ij5 := Lib.hid (Ij4.out.below hb)
  have Ic5 := Lib.hid hi
  clear hi
  clear hb
  go_wp2_with fail
  refine (ticks_any j c _ [((1, 1), 2), ((2, 1), 1), ((3, 1), 1)] _ Ij5.out Ic5.out (by decide +kernel)).mono ?_
  rw [E1.out]
  rintro e w6 ⟨rfl, hb⟩
  have B6 := Lib.hid (below_after B5.out hb (Nat.le_refl _))
  have Ia6 := Lib.hid (Ia5.out.below hb)
  have Ib6 := Lib.hid (Ib5.out.below hb)
  have Iu6 := Lib.hid (Iu5.out.below hb)
  clear hb
  go_wp2_with fail
  refine (compare_clocks a b [((1, 1), 2), ((2, 1), 1)] [((1, 1), 1), ((3, 1), 1)] _ Ia6.out Ib6.out (by decide) (by decide)).mono ?_
  rw [E2.out]
  rintro e w7 ⟨rfl, hb⟩
  have B7 := Lib.hid (below_after B6.out hb (Nat.le_refl _))
  have Iu7 := Lib.hid (Iu6.out.below hb)
  clear hb
  go_wp2_with fail
  refine (of_lit [((2, 1), 1)] 3 rfl (by decide) w7).mono ?_
  rintro e w8 ⟨d, rfl, hi, hb⟩
  have B8 := Lib.hid (below_after B7.out hb (Nat.le_refl _))
  have Iu8 := Lib.hid (Iu7.out.below hb)
  have Id8 := Lib.hid hi
  clear hi
  clear hb
  go_wp2_with fail
  refine (ticks_any u d [((2, 1), 1)] [((2, 1), 1)] _ Iu8.out Id8.out (by decide)).mono ?_
  rw [E3.out]
  rintro e w9 ⟨rfl, hb⟩
  have B9 := Lib.hid (below_after B8.out hb (Nat.le_refl _))
  clear hb
  go_wp2_with fail
  refine (of_lit [((1, 1), 0)] 3 rfl (by decide) w9).mono ?_
  rintro e w10 ⟨f, rfl, hi, hb⟩
  have B10 := Lib.hid (below_after B9.out hb (Nat.le_refl _))
  have If10 := Lib.hid hi
  clear hi
  clear hb
  go_wp2_with fail
  refine (compare_clocks (.slice none 0 0) f [] [((1, 1), 0)] _ (Rcs.nil _) If10.out (by decide) (by decide)).mono ?_
  rw [E4.out]
  rintro e w11 ⟨rfl, hb⟩
  have B11 := Lib.hid (below_after B10.out hb (Nat.le_refl _))
  clear hb
  go_wp2_with fail
  go_ret
  exact ⟨rfl, B11.out⟩
/-- Is a list, or are three, put into a row, large? -/
theorem large_lit1 (v : Value) (l : List Tick) (W W0 : World) (h1 : Rcs encT 3 W0 v l) :
    Calls Try.prog 14 #[.slice (some ⟨W.heap.size, 0, none⟩) 1 1] (W.alloc (.cells #[v] 24)) fun e w' => e = .returned (.bool (decide (150 < l.length))) ∧ Below W.heap.size W w' :=
  (large_one W.heap.size v l _ _ (heap_alloc_new W _) h1).mono fun e w' ⟨he, hw⟩ => ⟨he, hw ▸ (Below.refl _ _).alloc (Nat.le_refl _) _⟩
theorem large_lit3 (v u t : Value) (l m n : List Tick) (W W0 : World) (h1 : Rcs encT 3 W0 v l) (h2 : Rcs encT 3 W0 u m) (h3 : Rcs encT 3 W0 t n) :
    Calls Try.prog 14 #[.slice (some ⟨W.heap.size, 0, none⟩) 3 3] (W.alloc (.cells #[v, u, t] 24)) fun e w' => e = .returned (.bool (decide (150 < l.length ∨ 150 < m.length ∨ 150 < n.length))) ∧ Below W.heap.size W w' :=
  (large_three W.heap.size v u t l m n _ _ (heap_alloc_new W _) h1 h2 h3).mono fun e w' ⟨he, hw⟩ => ⟨he, hw ▸ (Below.refl _ _).alloc (Nat.le_refl _) _⟩
end Go.Proofs.Ytpmfanglgkohjaa
