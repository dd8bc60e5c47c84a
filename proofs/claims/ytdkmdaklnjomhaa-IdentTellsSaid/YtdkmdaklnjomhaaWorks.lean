/-
  The first question of each statement: the document's examples. No statement is proved in this text.
-/
import Derived.Test.YtdkmdaklnjomhaaOf
namespace Go.Proofs.Ytdkmdaklnjomhaa
open Go.RowKit Sets
/-- A literal of IDs. -/
theorem of_lit (ps : List (Int × Int)) (n : Nat) (hn : n = ps.length * 2) (hl : n ≤ 100) (W : World) : Calls Try.prog 14 #[.slice (some ⟨W.heap.size, 0, none⟩) n n] (W.alloc (.cells (flat ps).toArray 3)) (Lists ps W) :=
  (of_any W.heap.size n ps _ (heap_alloc_new W _) hn hl).mono fun _ _ ⟨v, h1, h2, h3⟩ => ⟨v, h1, h2, below_boxed (Below.refl _ _) h3 (Nat.le_refl _)⟩
set_option maxHeartbeats 4000000 in
set_option maxRecDepth 100000 in
theorem works_any (w : World) : Calls Try.prog 9 #[] w fun e w' => e = .returned (.bool true) ∧ Below w.heap.size w w' := by
  have E1 := Lib.hid (show sameB (put [(1, 1), (3, 5)] (2, 1)) [(1, 1), (2, 1), (3, 5)] = true by decide +kernel)
  have E2 := Lib.hid (show sameB (del [(1, 1), (1, 2)] (1, 1)) [(1, 2)] = true by decide +kernel)
  have E3 := Lib.hid (show sameB (join [(2, 1), (1, 1)] [(2, 1)]) [(1, 1), (2, 1)] = true by decide +kernel)
  have E4 := Lib.hid (show sameB (without [(1, 1), (1, 2)] [(1, 2)]) [(1, 1)] = true by decide +kernel)
  have E5 := Lib.hid (show vid 13 1 = false by decide)
  have E6 := Lib.hid (show vid 1 0 = false by decide)
  go_enter Try.func9, Try.ntmps9
  have B0 := Lib.hid (show Below w.heap.size w w from Below.refl _ _)
  go_wp2_with fail
  refine (of_lit [(1, 1), (3, 5)] 4 rfl (by decide) w).mono ?_
  rintro e w1 ⟨a, rfl, hi, hb⟩
  have B1 := Lib.hid (below_after B0.out hb (Nat.le_refl _))
  have Ia1 := Lib.hid hi
  clear hi
  clear hb
  go_wp2_with fail
  refine (put_any a [(1, 1), (3, 5)] 2 1 _ Ia1.out (by decide)).mono ?_
  rintro e w2 ⟨p, rfl, hi, hb⟩
  have B2 := Lib.hid (below_after B1.out hb (Nat.le_refl _))
  have Ip2 := Lib.hid hi
  clear hi
  clear hb
  go_wp2_with fail
  refine (of_lit [(1, 1), (2, 1), (3, 5)] 6 rfl (by decide) w2).mono ?_
  rintro e w3 ⟨b, rfl, hi, hb⟩
  have B3 := Lib.hid (below_after B2.out hb (Nat.le_refl _))
  have Ip3 := Lib.hid (Ip2.out.below hb)
  have Ib3 := Lib.hid hi
  clear hi
  clear hb
  go_wp2_with fail
  refine (ids_any p b _ _ _ Ip3.out Ib3.out (by decide +kernel)).mono ?_
  rw [E1.out]
  rintro e w4 ⟨rfl, hb⟩
  have B4 := Lib.hid (below_after B3.out hb (Nat.le_refl _))
  clear hb
  go_wp2_with fail
  refine (of_lit [(1, 1), (1, 2)] 4 rfl (by decide) w4).mono ?_
  rintro e w5 ⟨a2, rfl, hi, hb⟩
  have B5 := Lib.hid (below_after B4.out hb (Nat.le_refl _))
  have Ia25 := Lib.hid hi
  clear hi
  clear hb
  go_wp2_with fail
  refine (del_any a2 [(1, 1), (1, 2)] 1 1 _ Ia25.out (by decide)).mono ?_
  rintro e w6 ⟨p2, rfl, hi, hb⟩
  have B6 := Lib.hid (below_after B5.out hb (Nat.le_refl _))
  have Ip26 := Lib.hid hi
  clear hi
  clear hb
  go_wp2_with fail
  refine (of_lit [(1, 2)] 2 rfl (by decide) w6).mono ?_
  rintro e w7 ⟨b2, rfl, hi, hb⟩
  have B7 := Lib.hid (below_after B6.out hb (Nat.le_refl _))
  have Ip27 := Lib.hid (Ip26.out.below hb)
  have Ib27 := Lib.hid hi
  clear hi
  clear hb
  go_wp2_with fail
  refine (ids_any p2 b2 _ _ _ Ip27.out Ib27.out (by decide +kernel)).mono ?_
  rw [E2.out]
  rintro e w8 ⟨rfl, hb⟩
  have B8 := Lib.hid (below_after B7.out hb (Nat.le_refl _))
  clear hb
  go_wp2_with fail
  refine (of_lit [(2, 1), (1, 1)] 4 rfl (by decide) w8).mono ?_
  rintro e w9 ⟨a3, rfl, hi, hb⟩
  have B9 := Lib.hid (below_after B8.out hb (Nat.le_refl _))
  have Ia39 := Lib.hid hi
  clear hi
  clear hb
  go_wp2_with fail
  refine (of_lit [(2, 1)] 2 rfl (by decide) w9).mono ?_
  rintro e w10 ⟨b3, rfl, hi, hb⟩
  have B10 := Lib.hid (below_after B9.out hb (Nat.le_refl _))
  have Ia310 := Lib.hid (Ia39.out.below hb)
  have Ib310 := Lib.hid hi
  clear hi
  clear hb
  go_wp2_with fail
  refine (join_any a3 b3 [(2, 1), (1, 1)] [(2, 1)] _ Ia310.out Ib310.out (by decide) (by decide)).mono ?_
  rintro e w11 ⟨p3, rfl, hi, hb⟩
  have B11 := Lib.hid (below_after B10.out hb (Nat.le_refl _))
  have Ip311 := Lib.hid hi
  clear hi
  clear hb
  go_wp2_with fail
  refine (of_lit [(1, 1), (2, 1)] 4 rfl (by decide) w11).mono ?_
  rintro e w12 ⟨c3, rfl, hi, hb⟩
  have B12 := Lib.hid (below_after B11.out hb (Nat.le_refl _))
  have Ip312 := Lib.hid (Ip311.out.below hb)
  have Ic312 := Lib.hid hi
  clear hi
  clear hb
  go_wp2_with fail
  refine (ids_any p3 c3 _ _ _ Ip312.out Ic312.out (by decide +kernel)).mono ?_
  rw [E3.out]
  rintro e w13 ⟨rfl, hb⟩
  have B13 := Lib.hid (below_after B12.out hb (Nat.le_refl _))
  clear hb
  go_wp2_with fail
  refine (of_lit [(1, 1), (1, 2)] 4 rfl (by decide) w13).mono ?_
  rintro e w14 ⟨a4, rfl, hi, hb⟩
  have B14 := Lib.hid (below_after B13.out hb (Nat.le_refl _))
  have Ia414 := Lib.hid hi
  clear hi
  clear hb
  go_wp2_with fail
  refine (of_lit [(1, 2)] 2 rfl (by decide) w14).mono ?_
  rintro e w15 ⟨b4, rfl, hi, hb⟩
  have B15 := Lib.hid (below_after B14.out hb (Nat.le_refl _))
  have Ia415 := Lib.hid (Ia414.out.below hb)
  have Ib415 := Lib.hid hi
  clear hi
  clear hb
  go_wp2_with fail
  refine (without_any a4 b4 [(1, 1), (1, 2)] [(1, 2)] _ Ia415.out Ib415.out (by decide) (by decide)).mono ?_
  rintro e w16 ⟨p4, rfl, hi, hb⟩
  have B16 := Lib.hid (below_after B15.out hb (Nat.le_refl _))
  have Ip416 := Lib.hid hi
  clear hi
  clear hb
  go_wp2_with fail
  refine (of_lit [(1, 1)] 2 rfl (by decide) w16).mono ?_
  rintro e w17 ⟨c4, rfl, hi, hb⟩
  have B17 := Lib.hid (below_after B16.out hb (Nat.le_refl _))
  have Ip417 := Lib.hid (Ip416.out.below hb)
  have Ic417 := Lib.hid hi
  clear hi
  clear hb
  go_wp2_with fail
  refine (ids_any p4 c4 _ _ _ Ip417.out Ic417.out (by decide +kernel)).mono ?_
  rw [E4.out]
  rintro e w18 ⟨rfl, hb⟩
  have B18 := Lib.hid (below_after B17.out hb (Nat.le_refl _))
  clear hb
  go_wp2_with fail
  refine (may_any 13 1 _).mono ?_
  rw [E5.out]
  rintro e w19 ⟨rfl, hb⟩
  have B19 := Lib.hid (below_after B18.out hb (Nat.le_refl _))
  clear hb
  go_wp2_with fail
  refine (may_any 1 0 _).mono ?_
  rw [E6.out]
  rintro e w20 ⟨rfl, hb⟩
  have B20 := Lib.hid (below_after B19.out hb (Nat.le_refl _))
  clear hb
  go_wp2_with fail
  go_ret
  exact ⟨rfl, B20.out⟩
/-- Are two lists, or three, put into a row, large? -/
theorem large_lit2 (v u : Value) (l m : List (Int × Int)) (W W0 : World) (h1 : Ids W0 v l) (h2 : Ids W0 u m) :
    Calls Try.prog 18 #[.slice (some ⟨W.heap.size, 0, none⟩) 2 2] (W.alloc (.cells #[v, u] 29)) fun e w' => e = .returned (.bool (decide (200 < l.length ∨ 200 < m.length))) ∧ Below W.heap.size W w' :=
  (large_two W.heap.size v u l m _ (heap_alloc_new W _) h1.len h2.len (by obtain ⟨A, c, h, _⟩ := h1; exact ⟨_, _, _, h⟩) (by obtain ⟨A, c, h, _⟩ := h2; exact ⟨_, _, _, h⟩)).mono fun e w' ⟨he, hw⟩ => ⟨he, hw ▸ (Below.refl _ _).alloc (Nat.le_refl _) _⟩
theorem large_lit3 (v u t : Value) (l m n : List (Int × Int)) (W W0 : World) (h1 : Ids W0 v l) (h2 : Ids W0 u m) (h3 : Ids W0 t n) :
    Calls Try.prog 18 #[.slice (some ⟨W.heap.size, 0, none⟩) 3 3] (W.alloc (.cells #[v, u, t] 29)) fun e w' => e = .returned (.bool (decide (200 < l.length ∨ 200 < m.length ∨ 200 < n.length))) ∧ Below W.heap.size W w' :=
  (large_three W.heap.size v u t l m n _ (heap_alloc_new W _) h1.len h2.len h3.len (by obtain ⟨A, c, h, _⟩ := h1; exact ⟨_, _, _, h⟩) (by obtain ⟨A, c, h, _⟩ := h2; exact ⟨_, _, _, h⟩) (by obtain ⟨A, c, h, _⟩ := h3; exact ⟨_, _, _, h⟩)).mono fun e w' ⟨he, hw⟩ => ⟨he, hw ▸ (Below.refl _ _).alloc (Nat.le_refl _) _⟩
end Go.Proofs.Ytdkmdaklnjomhaa
