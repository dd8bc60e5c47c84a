/-
  A walk over a closed statement: the examples. No statement is proved in this text.
-/
import Derived.Test.YtmgkbfhkipfimaaWlkN
import Derived.Test.YtmgkbfhkipfimaaXSetOps
set_option maxRecDepth 20000
namespace Go.Proofs.Ytmgkbfhkipfimaa
open Go Go.RowKit Sets
variable {S : Nat → Prop}
/-- A literal list of IDs. -/
theorem lit_ids (w : World) (l : List Id2) (cs : Array Value) (h : cs.toList = flatR encJ l) : Ids (w.alloc (.cells cs 24)) (.slice (some ⟨w.heap.size, 0, none⟩) l.length l.length) l := ids_rcs (rcs_lit encJ_len w l cs 24 h)
theorem lit_arg (w : World) (hS : ∀ k, S k → k < w.heap.size) (l : List Id2) (cs : Array Value) (h : cs.toList = flatR encJ l) : ∀ W', Fr S (w.alloc (.cells cs 24)) W' → Ids W' (.slice (some ⟨w.heap.size, 0, none⟩) l.length l.length) l := fun _ k =>
  (lit_ids w l cs h).frame k fun g hg e => by
    have e2 : w.heap.size = g := Option.some.inj hg
    have := hS g e
    omega
set_option maxHeartbeats 4000000 in
theorem names_any (W : World) : Calls Try.prog 3 #[] W fun e w' => e = .returned (.bool true) ∧ Below W.heap.size W w' := by
  go_enter Try.func3, Try.ntmps3
  go_wp2_with fail
  refine (of_lit [1] 1 rfl (by omega) W).mono ?_
  rintro e w1 ⟨v1, rfl, -, hb⟩
  have B1 := Lib.hid hb
  clear hb
  go_wp2_with fail
  refine (next_nil 1).mono ?_
  rintro e w2 ⟨rfl, hb⟩
  have B2 := Lib.hid (below_after B1.out hb (Nat.le_refl _))
  clear hb B1
  go_upto_region 3 with fail
  have B3 := Lib.hid (below_after B2.out (below_one w2 (.cells #[.int .i64 0, .int .i64 0] 24)) (Nat.le_refl _))
  generalize World.alloc w2 (.cells #[.int .i64 0, .int .i64 0] 24) = w3 at *
  clear B2
  go_wp2_with fail
  refine (works_any _).mono ?_
  rintro e w4 ⟨rfl, hb⟩
  have B4 := Lib.hid (below_after B3.out hb (Nat.le_refl _))
  clear hb B3
  go_wp2_with fail
  refine (left_none _).mono ?_
  rintro e w5 ⟨rfl, hb⟩
  have B5 := Lib.hid (below_after B4.out hb (Nat.le_refl _))
  clear hb B4
  go_wp2_with fail
  refine copy_nil.mono ?_
  rintro e w6 ⟨rfl, hb⟩
  have B6 := Lib.hid (below_after B5.out hb (Nat.le_refl _))
  clear hb B5
  go_wp2_with fail
  refine (row_any _ [] 1 _ (Ids.nil _) (by decide) (by decide)).mono ?_
  rintro e w7 ⟨v7, rfl, hv, hb⟩
  have B7 := Lib.hid (below_after B6.out hb (Nat.le_refl _))
  obtain ⟨A7, c7, rfl, -⟩ := hv.ids
  rw [show (rowP [] 1).length = 0 by decide +kernel]
  clear hb B6 hv
  go_wp2_with fail
  refine (of_lit [2, 1, 2, 2] 4 rfl (by omega) w7).mono ?_
  rintro e w8 ⟨v8, rfl, ho, hb⟩
  have B8 := Lib.hid (below_after B7.out hb (Nat.le_refl _))
  have V8 := Lib.hid (ids_of_owns ho)
  clear hb B7 ho
  go_wp2_with fail
  refine (row_any _ (ofs [2, 1, 2, 2]) 5 _ V8.out (by decide) (by decide)).mono ?_
  rintro e w9 ⟨v9, rfl, hv, hb⟩
  have B9 := Lib.hid (below_after B8.out hb (Nat.le_refl _))
  obtain ⟨A9, c9, rfl, -⟩ := hv.ids
  rw [show (rowP (ofs [2, 1, 2, 2]) 5).length = 2 by decide +kernel]
  clear hb B8 hv V8
  go_wp2_with fail
  refine (new_any _).mono ?_
  rintro e u1 ⟨p, S, rfl, hw, hlo, hb⟩
  have O1 : Hid (Ow W u1 p S []) := Lib.hid ⟨hw, fun k hk => Nat.le_trans B9.out.size (hlo k hk), below_after B9.out hb (Nat.le_refl _)⟩
  clear hw hlo hb B9
  go_wp2_with fail
  refine (of_lit [1, 2, 3] 3 rfl (by omega) u1).mono ?_
  rintro e u2 ⟨v2, rfl, ho, hb⟩
  have V2 := Lib.hid (Ow.new O1.out.wl.lt ho)
  have O2 := Lib.hid (O1.out.keep hb)
  clear ho hb O1
  go_wp2_with fail
  refine (next_any (x := (1, 1)) (r := [(2, 1), (3, 1)]) (ps := ofs [1, 2, 3]) (d := 4) O2.out.wl V2.out (by decide) (by decide) (by decide) (by decide) (by decide +kernel)).mono ?_
  rintro e u3 ⟨rfl, S3, hw, hu⟩
  have O3 := Lib.hid (O2.out.next hw hu)
  clear hw hu O2 V2
  go_upto_region 7 with fail
  have X4 := Lib.hid (box_new u3 1 1)
  have O4 := Lib.hid (O3.out.keep (below_one u3 (.cells #[.int .i64 1, .int .i64 1] 24)))
  generalize World.alloc u3 (.cells #[.int .i64 1, .int .i64 1] 24) = u4 at *
  generalize u3.heap.size = g5 at *
  clear O3
  go_wp2_with fail
  refine (left_any O4.out.wl).mono ?_
  rintro e u5 ⟨rfl, hb⟩
  have X5 := Lib.hid (box_below X4.out hb)
  have O5 := Lib.hid (O4.out.keep hb)
  clear hb X4 O4
  go_upto_region 9 with fail
  go_cut [7] (fun s7 wx => ∃ (A : Option Addr) (c : Nat), s7 = .slice A 2 c ∧ Hid (Ow W wx p S3 [(2, 1), (3, 1)]) ∧ Hid (∀ W', Fr S3 wx W' → Ids W' (.slice A 2 c) [(2, 1), (3, 1)]))
  case first =>
    have Ox0 := Lib.hid (O5.out.keep (Below.refl _ _).drew)
    have Xx0 := Lib.hid (box_below X5.out (Below.refl _ _).drew)
    refine wp_region_held_drew (S := fun w' => w'.cell? ⟨g5, 0, none⟩ = some (.int .i64 1) ∧ w'.cell? ⟨g5, 1, none⟩ = some (.int .i64 1)) (by kernel_rfl) ?_ (fun hHeld => ?_)
    · exact box_cells Xx0.out
    generalize World.drew u5 = x0 at *
    (refine wpAnyH_take (i := 2) (oi := ⟨_, _, _, _, _, _⟩) (v := ?_) rfl (by kernel_rfl) (by kernel_rfl) (by kernel_rfl) (fun _ _ _ h => h) (Or.inl ⟨by rfl, ?_⟩) (by assumption) ?_; rotate_left 1; · (intro w hSw; (try dsimp only at hSw); go_simp; all_goals with_reducible rfl))
    try simp only [Act.put, List.setIfInBounds_toArray, List.set_cons_zero, List.set_cons_succ]
    refine wpAnyH_ready (rs := [0, 3]) (by kernel_rfl) (by simp) ?_
    refine AllReadyH.cons (o := ⟨_, _, _, _, _, _⟩) rfl (fun Kq hKq => ?_) (AllReadyH.cons (o := ⟨_, _, _, _, _, _⟩) rfl (fun Kq hKq => ?_) (AllReadyH.nil))
    · go_simp
      clear hHeld
      have BB := Lib.hid (below_one x0 (.cells #[.int .i64 1, .int .i64 2, .int .i64 3] 3))
      have INx1 := Lib.hid (lit_ints x0 [1, 2, 3])
      have Ox1 := Lib.hid (Ox0.out.keep BB.out)
      have Xx1 := Lib.hid (box_below Xx0.out BB.out)
      have INx1 : Hid (Ints (World.alloc x0 (.cells #[.int .i64 1, .int .i64 2, .int .i64 3] 3)) x0.heap.size [1, 2, 3]) := INx1
      clear BB
      generalize World.alloc x0 (.cells #[.int .i64 1, .int .i64 2, .int .i64 3] 3) = x1 at *
      generalize x0.heap.size = gi at *
      refine hKq.out _ _ ?_ (fun hHeld => ?_)
      · (try dsimp only); exact box_cells Xx1.out
      clear hKq Kq
      try simp only [Act.put, List.setIfInBounds_toArray, List.set_cons_zero, List.set_cons_succ]
      refine wpAnyH_ready (rs := [1, 3]) (by kernel_rfl) (by simp) ?_
      refine AllReadyH.cons (o := ⟨_, _, _, _, _, _⟩) rfl (fun Kq hKq => ?_) (AllReadyH.cons (o := ⟨_, _, _, _, _, _⟩) rfl (fun Kq hKq => ?_) (AllReadyH.nil))
      · go_simp
        clear hHeld
        go_at_call 11; (with_reducible refine (of_any gi 3 [1, 2, 3] _ INx1.out rfl (by omega)).mono ?_); rintro e x2 ⟨vo, rfl, ho, hb⟩
        have Vx2 := Lib.hid (ids_of_owns ho)
        have Ox2 := Lib.hid (Ox1.out.keep hb)
        have Xx2 := Lib.hid (box_below Xx1.out hb)
        have INx2 := Lib.hid (ints_below INx1.out hb)
        clear ho hb
        refine hKq.out _ _ ?_ (fun hHeld => ?_)
        · (try dsimp only); exact box_cells Xx2.out
        clear hKq Kq
        try simp only [Act.put, List.setIfInBounds_toArray, List.set_cons_zero, List.set_cons_succ]
        refine wpAnyH_ready (rs := [3]) (by kernel_rfl) (by simp) ?_
        refine AllReadyH.cons (o := ⟨_, _, _, _, _, _⟩) rfl (fun Kq hKq => ?_) (AllReadyH.nil)
        go_simp
        clear hHeld
        have BB := Lib.hid (below_one x2 (.cells #[.int .i64 1, .int .i64 1] 24))
        have IDx3 : Hid (Ids (World.alloc x2 (.cells #[.int .i64 1, .int .i64 1] 24)) (.slice (some ⟨x2.heap.size, 0, none⟩) 1 1) [(1, 1)]) := Lib.hid (lit_ids x2 [(1, 1)] _ rfl)
        have Ox3 := Lib.hid (Ox2.out.keep BB.out)
        have Xx3 := Lib.hid (box_below Xx2.out BB.out)
        have INx3 := Lib.hid (ints_below INx2.out BB.out)
        have Vx3 := Lib.hid (Vx2.out.below BB.out)
        clear BB
        generalize World.alloc x2 (.cells #[.int .i64 1, .int .i64 1] 24) = x3 at *
        generalize x2.heap.size = gd at *
        refine hKq.out _ _ ?_ (fun hHeld => ?_)
        · (try dsimp only); exact box_cells Xx3.out
        clear hKq Kq
        try simp only [Act.put, List.setIfInBounds_toArray, List.set_cons_zero, List.set_cons_succ]
        refine wpAnyH_ready (rs := [4]) (by kernel_rfl) (by simp) ?_
        refine AllReadyH.cons (o := ⟨_, _, _, _, _, _⟩) rfl (fun Kq hKq => ?_) (AllReadyH.nil)
        go_simp
        clear hHeld
        go_at_call 17; (with_reducible refine (without_new _ _ (ofs [1, 2, 3]) [(1, 1)] _ Vx3.out IDx3.out (by decide) (by decide)).mono ?_); rintro e x4 ⟨vr, rfl, hr, hb⟩
        have Rx4 : Hid (∀ W', Fr S3 x4 W' → Ids W' vr [(2, 1), (3, 1)]) := Lib.hid (by rw [show without (ofs [1, 2, 3]) [(1, 1)] = [(2, 1), (3, 1)] by decide +kernel] at hr; exact Ow.new Ox3.out.wl.lt hr)
        obtain ⟨Av, cv, rfl, -⟩ := Rx4.out _ (.refl _ _)
        have Ox4 := Lib.hid (Ox3.out.keep hb)
        have Xx4 := Lib.hid (box_below Xx3.out hb)
        have INx4 := Lib.hid (ints_below INx3.out hb)
        have IDx4 := Lib.hid (IDx3.out.below hb)
        have Vx4 := Lib.hid (Vx3.out.below hb)
        clear hr hb
        refine hKq.out _ _ ?_ (fun hHeld => ?_)
        · (try dsimp only); exact box_cells Xx4.out
        clear hKq Kq
        try simp only [Act.put, List.setIfInBounds_toArray, List.set_cons_zero, List.set_cons_succ]
        (refine wpAnyH_take (i := 5) (oi := ⟨_, _, _, _, _, _⟩) (v := ?_) rfl (by kernel_rfl) (by kernel_rfl) (by kernel_rfl) (fun _ _ _ h => h) (Or.inl ⟨by rfl, ?_⟩) (by assumption) ?_; rotate_left 1; · (intro w hSw; (try dsimp only at hSw); go_simp; all_goals with_reducible rfl))
        try simp only [Act.put, List.setIfInBounds_toArray, List.set_cons_zero, List.set_cons_succ]
        refine wpAnyH_done (by kernel_rfl) ?_ _
        go_wp2_with fail
        go_meet
        exact ⟨Av, cv, rfl, Ox4, Rx4⟩
      · go_simp
        clear hHeld
        have BB := Lib.hid (below_one x1 (.cells #[.int .i64 1, .int .i64 1] 24))
        have IDx2 : Hid (Ids (World.alloc x1 (.cells #[.int .i64 1, .int .i64 1] 24)) (.slice (some ⟨x1.heap.size, 0, none⟩) 1 1) [(1, 1)]) := Lib.hid (lit_ids x1 [(1, 1)] _ rfl)
        have Ox2 := Lib.hid (Ox1.out.keep BB.out)
        have Xx2 := Lib.hid (box_below Xx1.out BB.out)
        have INx2 := Lib.hid (ints_below INx1.out BB.out)
        clear BB
        generalize World.alloc x1 (.cells #[.int .i64 1, .int .i64 1] 24) = x2 at *
        generalize x1.heap.size = gd at *
        refine hKq.out _ _ ?_ (fun hHeld => ?_)
        · (try dsimp only); exact box_cells Xx2.out
        clear hKq Kq
        try simp only [Act.put, List.setIfInBounds_toArray, List.set_cons_zero, List.set_cons_succ]
        refine wpAnyH_ready (rs := [1]) (by kernel_rfl) (by simp) ?_
        refine AllReadyH.cons (o := ⟨_, _, _, _, _, _⟩) rfl (fun Kq hKq => ?_) (AllReadyH.nil)
        go_simp
        clear hHeld
        go_at_call 11; (with_reducible refine (of_any gi 3 [1, 2, 3] _ INx2.out rfl (by omega)).mono ?_); rintro e x3 ⟨vo, rfl, ho, hb⟩
        have Vx3 := Lib.hid (ids_of_owns ho)
        have Ox3 := Lib.hid (Ox2.out.keep hb)
        have Xx3 := Lib.hid (box_below Xx2.out hb)
        have INx3 := Lib.hid (ints_below INx2.out hb)
        have IDx3 := Lib.hid (IDx2.out.below hb)
        clear ho hb
        refine hKq.out _ _ ?_ (fun hHeld => ?_)
        · (try dsimp only); exact box_cells Xx3.out
        clear hKq Kq
        try simp only [Act.put, List.setIfInBounds_toArray, List.set_cons_zero, List.set_cons_succ]
        refine wpAnyH_ready (rs := [4]) (by kernel_rfl) (by simp) ?_
        refine AllReadyH.cons (o := ⟨_, _, _, _, _, _⟩) rfl (fun Kq hKq => ?_) (AllReadyH.nil)
        go_simp
        clear hHeld
        go_at_call 17; (with_reducible refine (without_new _ _ (ofs [1, 2, 3]) [(1, 1)] _ Vx3.out IDx3.out (by decide) (by decide)).mono ?_); rintro e x4 ⟨vr, rfl, hr, hb⟩
        have Rx4 : Hid (∀ W', Fr S3 x4 W' → Ids W' vr [(2, 1), (3, 1)]) := Lib.hid (by rw [show without (ofs [1, 2, 3]) [(1, 1)] = [(2, 1), (3, 1)] by decide +kernel] at hr; exact Ow.new Ox3.out.wl.lt hr)
        obtain ⟨Av, cv, rfl, -⟩ := Rx4.out _ (.refl _ _)
        have Ox4 := Lib.hid (Ox3.out.keep hb)
        have Xx4 := Lib.hid (box_below Xx3.out hb)
        have INx4 := Lib.hid (ints_below INx3.out hb)
        have IDx4 := Lib.hid (IDx3.out.below hb)
        have Vx4 := Lib.hid (Vx3.out.below hb)
        clear hr hb
        refine hKq.out _ _ ?_ (fun hHeld => ?_)
        · (try dsimp only); exact box_cells Xx4.out
        clear hKq Kq
        try simp only [Act.put, List.setIfInBounds_toArray, List.set_cons_zero, List.set_cons_succ]
        (refine wpAnyH_take (i := 5) (oi := ⟨_, _, _, _, _, _⟩) (v := ?_) rfl (by kernel_rfl) (by kernel_rfl) (by kernel_rfl) (fun _ _ _ h => h) (Or.inl ⟨by rfl, ?_⟩) (by assumption) ?_; rotate_left 1; · (intro w hSw; (try dsimp only at hSw); go_simp; all_goals with_reducible rfl))
        try simp only [Act.put, List.setIfInBounds_toArray, List.set_cons_zero, List.set_cons_succ]
        refine wpAnyH_done (by kernel_rfl) ?_ _
        go_wp2_with fail
        go_meet
        exact ⟨Av, cv, rfl, Ox4, Rx4⟩
    · go_simp
      clear hHeld
      have BB := Lib.hid (below_one x0 (.cells #[.int .i64 1, .int .i64 1] 24))
      have IDx1 : Hid (Ids (World.alloc x0 (.cells #[.int .i64 1, .int .i64 1] 24)) (.slice (some ⟨x0.heap.size, 0, none⟩) 1 1) [(1, 1)]) := Lib.hid (lit_ids x0 [(1, 1)] _ rfl)
      have Ox1 := Lib.hid (Ox0.out.keep BB.out)
      have Xx1 := Lib.hid (box_below Xx0.out BB.out)
      clear BB
      generalize World.alloc x0 (.cells #[.int .i64 1, .int .i64 1] 24) = x1 at *
      generalize x0.heap.size = gd at *
      refine hKq.out _ _ ?_ (fun hHeld => ?_)
      · (try dsimp only); exact box_cells Xx1.out
      clear hKq Kq
      try simp only [Act.put, List.setIfInBounds_toArray, List.set_cons_zero, List.set_cons_succ]
      refine wpAnyH_ready (rs := [0]) (by kernel_rfl) (by simp) ?_
      refine AllReadyH.cons (o := ⟨_, _, _, _, _, _⟩) rfl (fun Kq hKq => ?_) (AllReadyH.nil)
      go_simp
      clear hHeld
      have BB := Lib.hid (below_one x1 (.cells #[.int .i64 1, .int .i64 2, .int .i64 3] 3))
      have INx2 := Lib.hid (lit_ints x1 [1, 2, 3])
      have Ox2 := Lib.hid (Ox1.out.keep BB.out)
      have Xx2 := Lib.hid (box_below Xx1.out BB.out)
      have IDx2 := Lib.hid (IDx1.out.below BB.out)
      have INx2 : Hid (Ints (World.alloc x1 (.cells #[.int .i64 1, .int .i64 2, .int .i64 3] 3)) x1.heap.size [1, 2, 3]) := INx2
      clear BB
      generalize World.alloc x1 (.cells #[.int .i64 1, .int .i64 2, .int .i64 3] 3) = x2 at *
      generalize x1.heap.size = gi at *
      refine hKq.out _ _ ?_ (fun hHeld => ?_)
      · (try dsimp only); exact box_cells Xx2.out
      clear hKq Kq
      try simp only [Act.put, List.setIfInBounds_toArray, List.set_cons_zero, List.set_cons_succ]
      refine wpAnyH_ready (rs := [1]) (by kernel_rfl) (by simp) ?_
      refine AllReadyH.cons (o := ⟨_, _, _, _, _, _⟩) rfl (fun Kq hKq => ?_) (AllReadyH.nil)
      go_simp
      clear hHeld
      go_at_call 11; (with_reducible refine (of_any gi 3 [1, 2, 3] _ INx2.out rfl (by omega)).mono ?_); rintro e x3 ⟨vo, rfl, ho, hb⟩
      have Vx3 := Lib.hid (ids_of_owns ho)
      have Ox3 := Lib.hid (Ox2.out.keep hb)
      have Xx3 := Lib.hid (box_below Xx2.out hb)
      have INx3 := Lib.hid (ints_below INx2.out hb)
      have IDx3 := Lib.hid (IDx2.out.below hb)
      clear ho hb
      refine hKq.out _ _ ?_ (fun hHeld => ?_)
      · (try dsimp only); exact box_cells Xx3.out
      clear hKq Kq
      try simp only [Act.put, List.setIfInBounds_toArray, List.set_cons_zero, List.set_cons_succ]
      refine wpAnyH_ready (rs := [4]) (by kernel_rfl) (by simp) ?_
      refine AllReadyH.cons (o := ⟨_, _, _, _, _, _⟩) rfl (fun Kq hKq => ?_) (AllReadyH.nil)
      go_simp
      clear hHeld
      go_at_call 17; (with_reducible refine (without_new _ _ (ofs [1, 2, 3]) [(1, 1)] _ Vx3.out IDx3.out (by decide) (by decide)).mono ?_); rintro e x4 ⟨vr, rfl, hr, hb⟩
      have Rx4 : Hid (∀ W', Fr S3 x4 W' → Ids W' vr [(2, 1), (3, 1)]) := Lib.hid (by rw [show without (ofs [1, 2, 3]) [(1, 1)] = [(2, 1), (3, 1)] by decide +kernel] at hr; exact Ow.new Ox3.out.wl.lt hr)
      obtain ⟨Av, cv, rfl, -⟩ := Rx4.out _ (.refl _ _)
      have Ox4 := Lib.hid (Ox3.out.keep hb)
      have Xx4 := Lib.hid (box_below Xx3.out hb)
      have INx4 := Lib.hid (ints_below INx3.out hb)
      have IDx4 := Lib.hid (IDx3.out.below hb)
      have Vx4 := Lib.hid (Vx3.out.below hb)
      clear hr hb
      refine hKq.out _ _ ?_ (fun hHeld => ?_)
      · (try dsimp only); exact box_cells Xx4.out
      clear hKq Kq
      try simp only [Act.put, List.setIfInBounds_toArray, List.set_cons_zero, List.set_cons_succ]
      (refine wpAnyH_take (i := 5) (oi := ⟨_, _, _, _, _, _⟩) (v := ?_) rfl (by kernel_rfl) (by kernel_rfl) (by kernel_rfl) (fun _ _ _ h => h) (Or.inl ⟨by rfl, ?_⟩) (by assumption) ?_; rotate_left 1; · (intro w hSw; (try dsimp only at hSw); go_simp; all_goals with_reducible rfl))
      try simp only [Act.put, List.setIfInBounds_toArray, List.set_cons_zero, List.set_cons_succ]
      refine wpAnyH_done (by kernel_rfl) ?_ _
      go_wp2_with fail
      go_meet
      exact ⟨Av, cv, rfl, Ox4, Rx4⟩
  case rest =>
    obtain ⟨Al, cl, rfl, O6, R6⟩ := hcut
    rename World => u6
    obtain ⟨ad, cc, e6, hh⟩ := (R6.out _ (.refl _ _)).head
    injection e6 with e7 e8 e9
    subst e7 e9
    have HH := Lib.hid hh
    clear hh e8
    obtain ⟨c0, c1⟩ := HH.out u6 (Below.refl _ _)
    have LA := Lib.hid (lit_arg u6 O6.out.wl.lt [(2, 1), (9, 1)] _ rfl)
    have O7 := Lib.hid (O6.out.keep (below_one u6 (.cells #[.int .i64 2, .int .i64 1, .int .i64 9, .int .i64 1] 24)))
    have B7 := Lib.hid (below_one u6 (.cells #[.int .i64 2, .int .i64 1, .int .i64 9, .int .i64 1] 24))
    go_wp2_with fail
    refine (next_any (x := (2, 1)) (r := [(3, 1)]) (ps := [(2, 1), (9, 1)]) (d := 4) O7.out.wl LA.out (by decide) (by decide) (by decide) (by decide) (by decide +kernel)).mono ?_
    rintro e u8 ⟨rfl, S8, hw, hu⟩
    have O8 := Lib.hid (O7.out.next hw hu)
    clear c0 c1
    have HN : Hid (∀ w', Below u8.heap.size u8 w' → w'.cell? ad = some (.int .i64 2) ∧ w'.cell? ⟨ad.block, ad.off + 1, none⟩ = some (.int .i64 1)) := Lib.hid (by
      obtain ⟨ad', c', e, hh⟩ := (R6.out u8 ((Fr.of_below B7.out).step hu.fr)).head
      injection e with e1 e2 e3
      injection e1 with e1
      subst e1
      exact hh)
    clear hw hu O7 LA B7 HH R6 O6
    go_upto_region 11 with fail
    have X9 := Lib.hid (box_new u8 2 1)
    have O9 := Lib.hid (O8.out.keep (below_one u8 (.cells #[.int .i64 2, .int .i64 1] 24)))
    obtain ⟨c0, c1⟩ := HN.out _ (below_one u8 (.cells #[.int .i64 2, .int .i64 1] 24))
    generalize World.alloc u8 (.cells #[.int .i64 2, .int .i64 1] 24) = u9 at *
    generalize u8.heap.size = g8 at *
    obtain ⟨p0, p1⟩ := box_cells X9.out
    clear O8 HN
    go_wp2_with fail
    go_quiet (fail)
    have O10 := Lib.hid (O9.out.keep (below_drewN (n := nq) (Below.refl _ _)))
    clear O9 X9 c0 c1 p0 p1
    generalize u9.drewN nq = u10 at *
    go_upto_region 13 with fail
    have LA := Lib.hid (lit_arg u10 O10.out.wl.lt [(9, 1)] _ rfl)
    have O11 := Lib.hid (O10.out.keep (below_one u10 (.cells #[.int .i64 9, .int .i64 1] 24)))
    go_wp2_with fail
    refine (next_any (x := (9, 1)) (r := []) (ps := [(9, 1)]) (d := 4) O11.out.wl LA.out (by decide) (by decide) (by decide) (by decide) (by decide +kernel)).mono ?_
    rintro e u12 ⟨rfl, S12, hw, hu⟩
    have O12 := Lib.hid (O11.out.next hw hu)
    clear hw hu O11 LA O10
    go_upto_region 14 with fail
    have X13 := Lib.hid (box_new u12 9 1)
    have O13 := Lib.hid (O12.out.keep (below_one u12 (.cells #[.int .i64 9, .int .i64 1] 24)))
    generalize World.alloc u12 (.cells #[.int .i64 9, .int .i64 1] 24) = u13 at *
    generalize u12.heap.size = g9 at *
    obtain ⟨p0, p1⟩ := box_cells X13.out
    clear O12
    go_wp2_with fail
    refine (left_any O13.out.wl).mono ?_
    rintro e u14 ⟨rfl, hb⟩
    have B14 := Lib.hid (below_after O13.out.below hb (Nat.le_refl _))
    go_wp2_with fail
    go_ret
    exact ⟨rfl, B14.out⟩
  end Go.Proofs.Ytmgkbfhkipfimaa
