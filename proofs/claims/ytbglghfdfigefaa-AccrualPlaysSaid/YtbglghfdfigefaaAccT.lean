/-
  Walks over the document's detector: a time as it counts, somebody begins, and is heard, the limit, whether it is late. No statement is proved in this text; it holds for every input that its premises let by.
-/
import Derived.Test.YtbglghfdfigefaaAccS
set_option maxRecDepth 20000
namespace Go.Proofs.Ytbglghfdfigefaa
open Go Go.RowKit
theorem at_any (l : Nat) (d : Dt) (v : Value) (x : Int) (w : World) (h : DBox 54 w l d v) (h0 : 0 ≤ d.la) (h1 : d.la ≤ 1099511627776) (hn : d.bg = false → d.la = 0) : Calls Try.prog 28 #[.pointer (some ⟨l, 0, none⟩), .int .i64 x] w fun e w' => e = .returned (.int .i64 (d.time x)) ∧ w' = w := by
  obtain ⟨c0, c1, c2, c3, c4, c5⟩ := dbox_cells h
  clear h c0 c1 c2 c5
  have E : Hid (d.time x = max d.la (min x 1099511627776)) := Lib.hid rfl
  have HN := Lib.hid hn
  have H0 := Lib.hid h0
  have H1 := Lib.hid h1
  clear hn h0 h1
  generalize d.time x = z at *
  cases hb : d.bg
  · have hz := HN.out hb
    rw [hb] at c3
    clear hb
    by_cases ha : x < 0
    · skip
      go_enter Try.func28, Try.ntmps28
      go_wp2_with fail
      go_ret
      exact ⟨ret_int (by have := H0.out; have := H1.out; rw [E.out]; omega), rfl⟩
    · have ha2 : 0 ≤ x := by omega
      by_cases hc : 1099511627776 < x
      · skip
        go_enter Try.func28, Try.ntmps28
        go_wp2_with fail
        go_ret
        exact ⟨ret_int (by have := H0.out; have := H1.out; rw [E.out]; omega), rfl⟩
      · have hc2 : x ≤ 1099511627776 := by omega
        go_enter Try.func28, Try.ntmps28
        go_wp2_with fail
        go_ret
        exact ⟨ret_int (by have := H0.out; have := H1.out; rw [E.out]; omega), rfl⟩
  · rw [hb] at c3
    clear hb
    by_cases ha : x < 0
    · skip
      by_cases hq : 0 < d.la
      · go_enter Try.func28, Try.ntmps28
        go_wp2_with fail
        go_ret
        exact ⟨ret_int (by have := H0.out; have := H1.out; rw [E.out]; omega), rfl⟩
      · have hq2 : d.la ≤ 0 := by omega
        go_enter Try.func28, Try.ntmps28
        go_wp2_with fail
        go_ret
        exact ⟨ret_int (by have := H0.out; have := H1.out; rw [E.out]; omega), rfl⟩
    · have ha2 : 0 ≤ x := by omega
      by_cases hc : 1099511627776 < x
      · skip
        by_cases hq : 1099511627776 < d.la
        · go_enter Try.func28, Try.ntmps28
          go_wp2_with fail
          go_ret
          exact ⟨ret_int (by have := H0.out; have := H1.out; rw [E.out]; omega), rfl⟩
        · have hq2 : d.la ≤ 1099511627776 := by omega
          go_enter Try.func28, Try.ntmps28
          go_wp2_with fail
          go_ret
          exact ⟨ret_int (by have := H0.out; have := H1.out; rw [E.out]; omega), rfl⟩
      · have hc2 : x ≤ 1099511627776 := by omega
        by_cases hq : x < d.la
        · go_enter Try.func28, Try.ntmps28
          go_wp2_with fail
          go_ret
          exact ⟨ret_int (by have := H0.out; have := H1.out; rw [E.out]; omega), rfl⟩
        · have hq2 : d.la ≤ x := by omega
          go_enter Try.func28, Try.ntmps28
          go_wp2_with fail
          go_ret
          exact ⟨ret_int (by have := H0.out; have := H1.out; rw [E.out]; omega), rfl⟩
theorem rbegin_any (base l n : Nat) (d : Dt) (v : Value) (x : Int) (w : World) (h : Det 54 w base l d v) (hd : ROk n d) : Calls Try.prog 19 #[.pointer (some ⟨l, 0, none⟩), .int .i64 x] w (Done 54 base l (d.start x) w) := by
  have H := Lib.hid h
  have HD := Lib.hid hd
  have HN : Hid (d.bg = false → d.la = 0) := Lib.hid fun e => (hd.ok.no e).1
  obtain ⟨c0, c1, c2, c3, c4, c5⟩ := dbox_cells h.box
  obtain ⟨f3, f4, f5⟩ := dbox_free h.box
  clear h hd
  cases hb : d.bg
  · have E := Lib.hid (show d.start x = ⟨d.mn, d.mx, d.wi, true, d.time x, d.ga⟩ by unfold Dt.start; rw [hb]; rfl)
    have HB := Lib.hid hb
    rw [hb] at c3
    clear hb
    go_enter Try.func19, Try.ntmps19
    go_wp2_with fail
    (with_reducible refine (at_any l d v x _ H.out.box HD.out.l0 HD.out.l1 HN.out).mono ?_)
    rintro e w1 ⟨rfl, rfl⟩
    go_wp2_with fail
    go_end0
    refine ⟨rfl, v, ?_, (H.out.put _).2⟩
    rw [E.out]
    exact (H.out.put _).1
  · have E := Lib.hid (show d.start x = d by unfold Dt.start; rw [hb]; rfl)
    rw [hb] at c3
    clear hb
    go_enter Try.func19, Try.ntmps19
    go_wp2_with fail
    go_end0
    refine ⟨rfl, v, ?_, grown_refl _ _⟩
    rw [E.out]
    exact H.out
set_option maxHeartbeats 2000000 in
theorem rheard_any (base l n : Nat) (d : Dt) (v : Value) (x : Int) (w : World) (h : Det 54 w base l d v) (hd : ROk n d) (hB : base ≤ w.heap.size) : Calls Try.prog 20 #[.pointer (some ⟨l, 0, none⟩), .int .i64 x] w (Done 54 base l (d.rheard x) w) := by
  obtain ⟨A, c, rfl, -, -⟩ := gaps_slice h.gaps
  have H := Lib.hid h
  have HD := Lib.hid hd
  have HB := Lib.hid hB
  have HL := Lib.hid (show d.ga.length ≤ 4096 by have := hd.len; have := hd.few; omega)
  have HN : Hid (d.bg = false → d.la = 0) := Lib.hid fun e => (hd.ok.no e).1
  have hr1 := (hd.time x).1
  have hr2 := (hd.time x).2
  have hr3 : 0 ≤ d.la := hd.ok.l0
  obtain ⟨c0, c1, c2, c3, c4, c5⟩ := dbox_cells h.box
  obtain ⟨f3, f4, f5⟩ := dbox_free h.box
  have hwr : IntKind.i64.wrap (d.time x - d.la) = d.time x - d.la := IntWalk.i64_in _ ⟨by omega, by omega⟩
  clear h hd hB hr1 hr2 hr3
  cases hb : d.bg
  · have E := Lib.hid (show d.rheard x = ⟨d.mn, d.mx, d.wi, true, d.time x, d.ga⟩ by unfold Dt.rheard; rw [hb]; rfl)
    rw [hb] at c3
    clear hb
    go_enter Try.func20, Try.ntmps20
    go_wp2_with fail
    (with_reducible refine (at_any l d _ x _ H.out.box HD.out.l0 HD.out.l1 HN.out).mono ?_)
    rintro e w1 ⟨rfl, rfl⟩
    go_wp2_with fail
    go_end0
    have Z := H.out.put (d.time x)
    rw [E.out]
    exact ⟨rfl, _, Z.1, Z.2⟩
  · have E := Lib.hid (show d.rheard x = ⟨d.mn, d.mx, d.wi, true, d.time x, d.ga ++ [d.time x - d.la]⟩ by unfold Dt.rheard; rw [hb]; rfl)
    rw [hb] at c3
    clear hb
    have HSt : Hid (∀ W, Below w.heap.size w W → (W.cell? ⟨l, 4, none⟩ = some (.int .i64 d.la) ∧ W.cell? ⟨l, 5, none⟩ = some (.slice A d.ga.length c))) := Lib.hid fun W hb =>
      have b := dbox_cells (dbox_below H.out.box hb)
      ⟨b.2.2.2.2.1, b.2.2.2.2.2⟩
    go_enter Try.func20, Try.ntmps20
    go_wp2_with fail
    (with_reducible refine (at_any l d _ x _ H.out.box HD.out.l0 HD.out.l1 HN.out).mono ?_)
    rintro e w1 ⟨rfl, rfl⟩
    go_wp2_with fail
    have KB := Lib.hid (show Below w1.heap.size w1 w1.drew from (Below.refl _ _).drew)
    clear c0 c1 c2 c3 c4 c5 f3 f4 f5
    refine wp_region_held_drew (S := fun W => W.cell? ⟨l, 4, none⟩ = some (.int .i64 d.la)) (by kernel_rfl) ?_ (fun hHeld => ?_)
    · exact (HSt.out _ KB.out).1
    (refine wpAnyH_take (i := 0) (oi := ⟨_, _, _, _, _, _⟩) (v := ?_) rfl (by kernel_rfl) (by kernel_rfl) (by kernel_rfl) (fun _ _ _ h => h) (Or.inl ⟨by rfl, ?_⟩) (by assumption) ?_; rotate_left 1; · (intro w hSw; (try dsimp only at hSw); go_simp; all_goals with_reducible rfl))
    try simp only [Act.put, List.setIfInBounds_toArray, List.set_cons_zero, List.set_cons_succ]
    (refine wpAnyH_take (i := 2) (oi := ⟨_, _, _, _, _, _⟩) (v := ?_) rfl (by kernel_rfl) (by kernel_rfl) (by kernel_rfl) (fun _ _ _ h => h) (Or.inl ⟨by rfl, ?_⟩) (by assumption) ?_; rotate_left 1; · (intro w hSw; (try dsimp only at hSw); go_simp; all_goals with_reducible rfl))
    try simp only [Act.put, List.setIfInBounds_toArray, List.set_cons_zero, List.set_cons_succ]
    (refine wpAnyH_take (i := 3) (oi := ⟨_, _, _, _, _, _⟩) (v := ?_) rfl (by kernel_rfl) (by kernel_rfl) (by kernel_rfl) (fun _ _ _ h => h) (Or.inl ⟨by rfl, ?_⟩) (by assumption) ?_; rotate_left 1; · (intro w hSw; (try dsimp only at hSw); go_simp; all_goals with_reducible rfl))
    try simp only [Act.put, List.setIfInBounds_toArray, List.set_cons_zero, List.set_cons_succ]
    (refine wpAnyH_take (i := 4) (oi := ⟨_, _, _, _, _, _⟩) (v := ?_) rfl (by kernel_rfl) (by kernel_rfl) (by kernel_rfl) (fun _ _ _ h => h) (Or.inl ⟨by rfl, ?_⟩) (by assumption) ?_; rotate_left 1; · (intro w hSw; (try dsimp only at hSw); go_simp; all_goals with_reducible rfl))
    try simp only [Act.put, List.setIfInBounds_toArray, List.set_cons_zero, List.set_cons_succ]
    (refine wpAnyH_take (i := 7) (oi := ⟨_, _, _, _, _, _⟩) (v := ?_) rfl (by kernel_rfl) (by kernel_rfl) (by kernel_rfl) (fun _ _ _ h => h) (Or.inl ⟨by rfl, ?_⟩) (by assumption) ?_; rotate_left 1; · (intro w hSw; (try dsimp only at hSw); go_simp; all_goals with_reducible rfl))
    try simp only [Act.put, List.setIfInBounds_toArray, List.set_cons_zero, List.set_cons_succ]
    (refine wpAnyH_take (i := 8) (oi := ⟨_, _, _, _, _, _⟩) (v := ?_) rfl (by kernel_rfl) (by kernel_rfl) (by kernel_rfl) (fun _ _ _ h => h) (Or.inl ⟨by rfl, ?_⟩) (by assumption) ?_; rotate_left 1; · (intro w hSw; (try dsimp only at hSw); go_simp; all_goals with_reducible rfl))
    try simp only [Act.put, List.setIfInBounds_toArray, List.set_cons_zero, List.set_cons_succ]
    (refine wpAnyH_take (i := 9) (oi := ⟨_, _, _, _, _, _⟩) (v := ?_) rfl (by kernel_rfl) (by kernel_rfl) (by kernel_rfl) (fun _ _ _ h => h) (Or.inl ⟨by rfl, ?_⟩) (by assumption) ?_; rotate_left 1; · (intro w hSw; (try dsimp only at hSw); go_simp; all_goals with_reducible rfl))
    try simp only [Act.put, List.setIfInBounds_toArray, List.set_cons_zero, List.set_cons_succ]
    (refine wpAnyH_take (i := 10) (oi := ⟨_, _, _, _, _, _⟩) (v := ?_) rfl (by kernel_rfl) (by kernel_rfl) (by kernel_rfl) (fun _ _ _ h => h) (Or.inl ⟨by rfl, ?_⟩) (by assumption) ?_; rotate_left 1; · (intro w hSw; (try dsimp only at hSw); go_simp; all_goals with_reducible rfl))
    try simp only [Act.put, List.setIfInBounds_toArray, List.set_cons_zero, List.set_cons_succ]
    (refine wpAnyH_take (i := 11) (oi := ⟨_, _, _, _, _, _⟩) (v := ?_) rfl (by kernel_rfl) (by kernel_rfl) (by kernel_rfl) (fun _ _ _ h => h) (Or.inl ⟨by rfl, ?_⟩) (by assumption) ?_; rotate_left 1; · (intro w hSw; (try dsimp only at hSw); go_simp; all_goals with_reducible rfl))
    try simp only [Act.put, List.setIfInBounds_toArray, List.set_cons_zero, List.set_cons_succ]
    (refine wpAnyH_take (i := 12) (oi := ⟨_, _, _, _, _, _⟩) (v := ?_) rfl (by kernel_rfl) (by kernel_rfl) (by kernel_rfl) (fun _ _ _ h => h) (Or.inl ⟨by rfl, ?_⟩) (by assumption) ?_; rotate_left 1; · (intro w hSw; (try dsimp only at hSw); go_simp; all_goals with_reducible rfl))
    try simp only [Act.put, List.setIfInBounds_toArray, List.set_cons_zero, List.set_cons_succ]
    refine wpAnyH_ready (rs := [1, 5, 13]) (by kernel_rfl) (by simp) ?_
    refine AllReadyH.cons (o := ⟨_, _, _, _, _, _⟩) rfl (fun Kq hKq => ?_) (AllReadyH.cons (o := ⟨_, _, _, _, _, _⟩) rfl (fun Kq hKq => ?_) (AllReadyH.cons (o := ⟨_, _, _, _, _, _⟩) rfl (fun Kq hKq => ?_) (AllReadyH.nil)))
    · clear hHeld
      refine step_lit0 (by rfl) (by rfl) _ ?_; intro b0 W1 hlo hx hb; have KB2 := KB; have KB := Lib.hid (below_after KB.out hb (Nat.le_refl _)); have XB := Lib.hid hx; have XN := Lib.hid (Nat.le_trans KB2.out.size hlo); clear hx hlo hb KB2
      refine hKq.out _ _ ?_ (fun hHeld => ?_)
      · (try dsimp only); exact (HSt.out _ KB.out).1
      clear hKq Kq
      try simp only [Act.put, List.setIfInBounds_toArray, List.set_cons_zero, List.set_cons_succ]
      refine wpAnyH_ready (rs := [5, 13]) (by kernel_rfl) (by simp) ?_
      refine AllReadyH.cons (o := ⟨_, _, _, _, _, _⟩) rfl (fun Kq hKq => ?_) (AllReadyH.cons (o := ⟨_, _, _, _, _, _⟩) rfl (fun Kq hKq => ?_) (AllReadyH.nil))
      · have c5 := (HSt.out _ KB.out).2
        go_simp
        clear hHeld
        clear c5
        refine hKq.out _ _ ?_ (fun hHeld => ?_)
        · (try dsimp only); exact (HSt.out _ KB.out).1
        clear hKq Kq
        try simp only [Act.put, List.setIfInBounds_toArray, List.set_cons_zero, List.set_cons_succ]
        refine wpAnyH_ready (rs := [6, 13]) (by kernel_rfl) (by simp) ?_
        refine AllReadyH.cons (o := ⟨_, _, _, _, _, _⟩) rfl (fun Kq hKq => ?_) (AllReadyH.cons (o := ⟨_, _, _, _, _, _⟩) rfl (fun Kq hKq => ?_) (AllReadyH.nil))
        · clear hHeld
          refine step_copied (by rfl) (.tmp 13) (.tmp 17) (by rfl) _ w1.heap.size b0 _ d.ga (by rfl) (by rfl) XB.out XN.out ((gaps_rcs H.out.gaps).below KB.out) HL.out ?_; intro A6 c6 W6 hx hb; have KB2 := KB; have KB := Lib.hid (below_after KB.out hb (Nat.le_refl _)); have OW := Lib.hid hx; clear hx hb KB2
          refine hKq.out _ _ ?_ (fun hHeld => ?_)
          · (try dsimp only); exact (HSt.out _ KB.out).1
          clear hKq Kq
          try simp only [Act.put, List.setIfInBounds_toArray, List.set_cons_zero, List.set_cons_succ]
          refine wpAnyH_ready (rs := [13]) (by kernel_rfl) (by simp) ?_
          refine AllReadyH.cons (o := ⟨_, _, _, _, _, _⟩) rfl (fun Kq hKq => ?_) (AllReadyH.nil)
          clear hHeld
          refine step_lit1 (by rfl) (.tmp 24) (by rfl) _ _ (by rfl) ?_; intro b1 W2 hx hb; have KB2 := KB; have KB := Lib.hid (below_after KB.out hb (Nat.le_refl _)); have OW := Lib.hid (OwnsR.below OW.out hb); have XL := Lib.hid hx; clear hx hb KB2
          refine hKq.out _ _ ?_ (fun hHeld => ?_)
          · (try dsimp only); exact (HSt.out _ KB.out).1
          clear hKq Kq
          try simp only [Act.put, List.setIfInBounds_toArray, List.set_cons_zero, List.set_cons_succ]
          refine wpAnyH_ready (rs := [14]) (by kernel_rfl) (by simp) ?_
          refine AllReadyH.cons (o := ⟨_, _, _, _, _, _⟩) rfl (fun Kq hKq => ?_) (AllReadyH.nil)
          clear hHeld
          refine step_pushed (by rfl) (.tmp 18) (.tmp 25) (by rfl) _ w1.heap.size b1 _ d.ga _ (by rfl) (by rfl) OW.out XL.out HL.out KB.out.size ?_; intro A7 n7 c7 W7 hx hb; have KB := Lib.hid (KB.out.trans hb); have OW := Lib.hid hx; have D7 := Lib.hid (H.out.below KB.out); clear hx hb XL
          refine hKq.out _ _ ?_ (fun hHeld => ?_)
          · (try dsimp only); exact (HSt.out _ KB.out).1
          clear hKq Kq
          try simp only [Act.put, List.setIfInBounds_toArray, List.set_cons_zero, List.set_cons_succ]
          (refine wpAnyH_take (i := 15) (oi := ⟨_, _, _, _, _, _⟩) (v := ?_) rfl (by kernel_rfl) (by kernel_rfl) (by kernel_rfl) (fun _ _ _ h => h) (Or.inl ⟨by rfl, ?_⟩) (by assumption) ?_; rotate_left 1; · (intro w hSw; (try dsimp only at hSw); go_simp; all_goals with_reducible rfl))
          try simp only [Act.put, List.setIfInBounds_toArray, List.set_cons_zero, List.set_cons_succ]
          (refine wpAnyH_take (i := 16) (oi := ⟨_, _, _, _, _, _⟩) (v := ?_) rfl (by kernel_rfl) (by kernel_rfl) (by kernel_rfl) (fun _ _ _ h => h) (Or.inl ⟨by rfl, ?_⟩) (by assumption) ?_; rotate_left 1; · (intro w hSw; (try dsimp only at hSw); go_simp; all_goals with_reducible rfl))
          try simp only [Act.put, List.setIfInBounds_toArray, List.set_cons_zero, List.set_cons_succ]
          refine wpAnyH_ready (rs := [17]) (by kernel_rfl) (by simp) ?_
          refine AllReadyH.cons (o := ⟨_, _, _, _, _, _⟩) rfl (fun Kq hKq => ?_) (AllReadyH.nil)
          have cc := (dbox_cells D7.out.box).2.2.2.2.2
          have ff := (dbox_free D7.out.box).2.2
          go_simp
          clear hHeld
          have X := Lib.hid (D7.out.gap (OwnsR.mono_base OW.out HB.out))
          have GB := Lib.hid (grown_trans (grown_below KB.out (some l)) X.out.2)
          refine hKq.out _ _ ?_ (fun hHeld => ?_)
          · exact (dbox_cells X.out.1.box).2.2.2.2.1
          clear hKq Kq
          try simp only [Act.put, List.setIfInBounds_toArray, List.set_cons_zero, List.set_cons_succ]
          refine wpAnyH_done (by kernel_rfl) ?_ _
          have X1 := Lib.hid X.out.1
          clear X cc ff hHeld D7 OW
          generalize hW : World.setCell _ _ _ = w9 at *
          clear hW
          obtain ⟨c0, c1, c2, c3, c4, c5⟩ := dbox_cells X1.out.box
          obtain ⟨f3, f4, f5⟩ := dbox_free X1.out.box
          clear c0 c1 c2 c5 f5
          go_wp2_with fail
          go_end0
          have Z := X1.out.put (d.time x)
          rw [E.out]
          exact ⟨rfl, _, Z.1, grown_trans GB.out Z.2⟩
        · clear hHeld
          refine step_lit1 (by rfl) (.tmp 24) (by rfl) _ _ (by rfl) ?_; intro b1 W2 hx hb; have KB2 := KB; have KB := Lib.hid (below_after KB.out hb (Nat.le_refl _)); have XB := Lib.hid ((hb.block _ (row_lt XB.out)).trans XB.out); have XL := Lib.hid hx; clear hx hb KB2
          refine hKq.out _ _ ?_ (fun hHeld => ?_)
          · (try dsimp only); exact (HSt.out _ KB.out).1
          clear hKq Kq
          try simp only [Act.put, List.setIfInBounds_toArray, List.set_cons_zero, List.set_cons_succ]
          refine wpAnyH_ready (rs := [6]) (by kernel_rfl) (by simp) ?_
          refine AllReadyH.cons (o := ⟨_, _, _, _, _, _⟩) rfl (fun Kq hKq => ?_) (AllReadyH.nil)
          clear hHeld
          refine step_copied (by rfl) (.tmp 13) (.tmp 17) (by rfl) _ w1.heap.size b0 _ d.ga (by rfl) (by rfl) XB.out XN.out ((gaps_rcs H.out.gaps).below KB.out) HL.out ?_; intro A6 c6 W6 hx hb; have KB2 := KB; have KB := Lib.hid (below_after KB.out hb (Nat.le_refl _)); have XL := Lib.hid (XL.out.below hb); have OW := Lib.hid hx; clear hx hb KB2
          refine hKq.out _ _ ?_ (fun hHeld => ?_)
          · (try dsimp only); exact (HSt.out _ KB.out).1
          clear hKq Kq
          try simp only [Act.put, List.setIfInBounds_toArray, List.set_cons_zero, List.set_cons_succ]
          refine wpAnyH_ready (rs := [14]) (by kernel_rfl) (by simp) ?_
          refine AllReadyH.cons (o := ⟨_, _, _, _, _, _⟩) rfl (fun Kq hKq => ?_) (AllReadyH.nil)
          clear hHeld
          refine step_pushed (by rfl) (.tmp 18) (.tmp 25) (by rfl) _ w1.heap.size b1 _ d.ga _ (by rfl) (by rfl) OW.out XL.out HL.out KB.out.size ?_; intro A7 n7 c7 W7 hx hb; have KB := Lib.hid (KB.out.trans hb); have OW := Lib.hid hx; have D7 := Lib.hid (H.out.below KB.out); clear hx hb XL
          refine hKq.out _ _ ?_ (fun hHeld => ?_)
          · (try dsimp only); exact (HSt.out _ KB.out).1
          clear hKq Kq
          try simp only [Act.put, List.setIfInBounds_toArray, List.set_cons_zero, List.set_cons_succ]
          (refine wpAnyH_take (i := 15) (oi := ⟨_, _, _, _, _, _⟩) (v := ?_) rfl (by kernel_rfl) (by kernel_rfl) (by kernel_rfl) (fun _ _ _ h => h) (Or.inl ⟨by rfl, ?_⟩) (by assumption) ?_; rotate_left 1; · (intro w hSw; (try dsimp only at hSw); go_simp; all_goals with_reducible rfl))
          try simp only [Act.put, List.setIfInBounds_toArray, List.set_cons_zero, List.set_cons_succ]
          (refine wpAnyH_take (i := 16) (oi := ⟨_, _, _, _, _, _⟩) (v := ?_) rfl (by kernel_rfl) (by kernel_rfl) (by kernel_rfl) (fun _ _ _ h => h) (Or.inl ⟨by rfl, ?_⟩) (by assumption) ?_; rotate_left 1; · (intro w hSw; (try dsimp only at hSw); go_simp; all_goals with_reducible rfl))
          try simp only [Act.put, List.setIfInBounds_toArray, List.set_cons_zero, List.set_cons_succ]
          refine wpAnyH_ready (rs := [17]) (by kernel_rfl) (by simp) ?_
          refine AllReadyH.cons (o := ⟨_, _, _, _, _, _⟩) rfl (fun Kq hKq => ?_) (AllReadyH.nil)
          have cc := (dbox_cells D7.out.box).2.2.2.2.2
          have ff := (dbox_free D7.out.box).2.2
          go_simp
          clear hHeld
          have X := Lib.hid (D7.out.gap (OwnsR.mono_base OW.out HB.out))
          have GB := Lib.hid (grown_trans (grown_below KB.out (some l)) X.out.2)
          refine hKq.out _ _ ?_ (fun hHeld => ?_)
          · exact (dbox_cells X.out.1.box).2.2.2.2.1
          clear hKq Kq
          try simp only [Act.put, List.setIfInBounds_toArray, List.set_cons_zero, List.set_cons_succ]
          refine wpAnyH_done (by kernel_rfl) ?_ _
          have X1 := Lib.hid X.out.1
          clear X cc ff hHeld D7 OW
          generalize hW : World.setCell _ _ _ = w9 at *
          clear hW
          obtain ⟨c0, c1, c2, c3, c4, c5⟩ := dbox_cells X1.out.box
          obtain ⟨f3, f4, f5⟩ := dbox_free X1.out.box
          clear c0 c1 c2 c5 f5
          go_wp2_with fail
          go_end0
          have Z := X1.out.put (d.time x)
          rw [E.out]
          exact ⟨rfl, _, Z.1, grown_trans GB.out Z.2⟩
      · clear hHeld
        refine step_lit1 (by rfl) (.tmp 24) (by rfl) _ _ (by rfl) ?_; intro b1 W2 hx hb; have KB2 := KB; have KB := Lib.hid (below_after KB.out hb (Nat.le_refl _)); have XB := Lib.hid ((hb.block _ (row_lt XB.out)).trans XB.out); have XL := Lib.hid hx; clear hx hb KB2
        refine hKq.out _ _ ?_ (fun hHeld => ?_)
        · (try dsimp only); exact (HSt.out _ KB.out).1
        clear hKq Kq
        try simp only [Act.put, List.setIfInBounds_toArray, List.set_cons_zero, List.set_cons_succ]
        refine wpAnyH_ready (rs := [5]) (by kernel_rfl) (by simp) ?_
        refine AllReadyH.cons (o := ⟨_, _, _, _, _, _⟩) rfl (fun Kq hKq => ?_) (AllReadyH.nil)
        have c5 := (HSt.out _ KB.out).2
        go_simp
        clear hHeld
        clear c5
        refine hKq.out _ _ ?_ (fun hHeld => ?_)
        · (try dsimp only); exact (HSt.out _ KB.out).1
        clear hKq Kq
        try simp only [Act.put, List.setIfInBounds_toArray, List.set_cons_zero, List.set_cons_succ]
        refine wpAnyH_ready (rs := [6]) (by kernel_rfl) (by simp) ?_
        refine AllReadyH.cons (o := ⟨_, _, _, _, _, _⟩) rfl (fun Kq hKq => ?_) (AllReadyH.nil)
        clear hHeld
        refine step_copied (by rfl) (.tmp 13) (.tmp 17) (by rfl) _ w1.heap.size b0 _ d.ga (by rfl) (by rfl) XB.out XN.out ((gaps_rcs H.out.gaps).below KB.out) HL.out ?_; intro A6 c6 W6 hx hb; have KB2 := KB; have KB := Lib.hid (below_after KB.out hb (Nat.le_refl _)); have XL := Lib.hid (XL.out.below hb); have OW := Lib.hid hx; clear hx hb KB2
        refine hKq.out _ _ ?_ (fun hHeld => ?_)
        · (try dsimp only); exact (HSt.out _ KB.out).1
        clear hKq Kq
        try simp only [Act.put, List.setIfInBounds_toArray, List.set_cons_zero, List.set_cons_succ]
        refine wpAnyH_ready (rs := [14]) (by kernel_rfl) (by simp) ?_
        refine AllReadyH.cons (o := ⟨_, _, _, _, _, _⟩) rfl (fun Kq hKq => ?_) (AllReadyH.nil)
        clear hHeld
        refine step_pushed (by rfl) (.tmp 18) (.tmp 25) (by rfl) _ w1.heap.size b1 _ d.ga _ (by rfl) (by rfl) OW.out XL.out HL.out KB.out.size ?_; intro A7 n7 c7 W7 hx hb; have KB := Lib.hid (KB.out.trans hb); have OW := Lib.hid hx; have D7 := Lib.hid (H.out.below KB.out); clear hx hb XL
        refine hKq.out _ _ ?_ (fun hHeld => ?_)
        · (try dsimp only); exact (HSt.out _ KB.out).1
        clear hKq Kq
        try simp only [Act.put, List.setIfInBounds_toArray, List.set_cons_zero, List.set_cons_succ]
        (refine wpAnyH_take (i := 15) (oi := ⟨_, _, _, _, _, _⟩) (v := ?_) rfl (by kernel_rfl) (by kernel_rfl) (by kernel_rfl) (fun _ _ _ h => h) (Or.inl ⟨by rfl, ?_⟩) (by assumption) ?_; rotate_left 1; · (intro w hSw; (try dsimp only at hSw); go_simp; all_goals with_reducible rfl))
        try simp only [Act.put, List.setIfInBounds_toArray, List.set_cons_zero, List.set_cons_succ]
        (refine wpAnyH_take (i := 16) (oi := ⟨_, _, _, _, _, _⟩) (v := ?_) rfl (by kernel_rfl) (by kernel_rfl) (by kernel_rfl) (fun _ _ _ h => h) (Or.inl ⟨by rfl, ?_⟩) (by assumption) ?_; rotate_left 1; · (intro w hSw; (try dsimp only at hSw); go_simp; all_goals with_reducible rfl))
        try simp only [Act.put, List.setIfInBounds_toArray, List.set_cons_zero, List.set_cons_succ]
        refine wpAnyH_ready (rs := [17]) (by kernel_rfl) (by simp) ?_
        refine AllReadyH.cons (o := ⟨_, _, _, _, _, _⟩) rfl (fun Kq hKq => ?_) (AllReadyH.nil)
        have cc := (dbox_cells D7.out.box).2.2.2.2.2
        have ff := (dbox_free D7.out.box).2.2
        go_simp
        clear hHeld
        have X := Lib.hid (D7.out.gap (OwnsR.mono_base OW.out HB.out))
        have GB := Lib.hid (grown_trans (grown_below KB.out (some l)) X.out.2)
        refine hKq.out _ _ ?_ (fun hHeld => ?_)
        · exact (dbox_cells X.out.1.box).2.2.2.2.1
        clear hKq Kq
        try simp only [Act.put, List.setIfInBounds_toArray, List.set_cons_zero, List.set_cons_succ]
        refine wpAnyH_done (by kernel_rfl) ?_ _
        have X1 := Lib.hid X.out.1
        clear X cc ff hHeld D7 OW
        generalize hW : World.setCell _ _ _ = w9 at *
        clear hW
        obtain ⟨c0, c1, c2, c3, c4, c5⟩ := dbox_cells X1.out.box
        obtain ⟨f3, f4, f5⟩ := dbox_free X1.out.box
        clear c0 c1 c2 c5 f5
        go_wp2_with fail
        go_end0
        have Z := X1.out.put (d.time x)
        rw [E.out]
        exact ⟨rfl, _, Z.1, grown_trans GB.out Z.2⟩
    · have c5 := (HSt.out _ KB.out).2
      go_simp
      clear hHeld
      clear c5
      refine hKq.out _ _ ?_ (fun hHeld => ?_)
      · (try dsimp only); exact (HSt.out _ KB.out).1
      clear hKq Kq
      try simp only [Act.put, List.setIfInBounds_toArray, List.set_cons_zero, List.set_cons_succ]
      refine wpAnyH_ready (rs := [1, 13]) (by kernel_rfl) (by simp) ?_
      refine AllReadyH.cons (o := ⟨_, _, _, _, _, _⟩) rfl (fun Kq hKq => ?_) (AllReadyH.cons (o := ⟨_, _, _, _, _, _⟩) rfl (fun Kq hKq => ?_) (AllReadyH.nil))
      · clear hHeld
        refine step_lit0 (by rfl) (by rfl) _ ?_; intro b0 W1 hlo hx hb; have KB2 := KB; have KB := Lib.hid (below_after KB.out hb (Nat.le_refl _)); have XB := Lib.hid hx; have XN := Lib.hid (Nat.le_trans KB2.out.size hlo); clear hx hlo hb KB2
        refine hKq.out _ _ ?_ (fun hHeld => ?_)
        · (try dsimp only); exact (HSt.out _ KB.out).1
        clear hKq Kq
        try simp only [Act.put, List.setIfInBounds_toArray, List.set_cons_zero, List.set_cons_succ]
        refine wpAnyH_ready (rs := [6, 13]) (by kernel_rfl) (by simp) ?_
        refine AllReadyH.cons (o := ⟨_, _, _, _, _, _⟩) rfl (fun Kq hKq => ?_) (AllReadyH.cons (o := ⟨_, _, _, _, _, _⟩) rfl (fun Kq hKq => ?_) (AllReadyH.nil))
        · clear hHeld
          refine step_copied (by rfl) (.tmp 13) (.tmp 17) (by rfl) _ w1.heap.size b0 _ d.ga (by rfl) (by rfl) XB.out XN.out ((gaps_rcs H.out.gaps).below KB.out) HL.out ?_; intro A6 c6 W6 hx hb; have KB2 := KB; have KB := Lib.hid (below_after KB.out hb (Nat.le_refl _)); have OW := Lib.hid hx; clear hx hb KB2
          refine hKq.out _ _ ?_ (fun hHeld => ?_)
          · (try dsimp only); exact (HSt.out _ KB.out).1
          clear hKq Kq
          try simp only [Act.put, List.setIfInBounds_toArray, List.set_cons_zero, List.set_cons_succ]
          refine wpAnyH_ready (rs := [13]) (by kernel_rfl) (by simp) ?_
          refine AllReadyH.cons (o := ⟨_, _, _, _, _, _⟩) rfl (fun Kq hKq => ?_) (AllReadyH.nil)
          clear hHeld
          refine step_lit1 (by rfl) (.tmp 24) (by rfl) _ _ (by rfl) ?_; intro b1 W2 hx hb; have KB2 := KB; have KB := Lib.hid (below_after KB.out hb (Nat.le_refl _)); have OW := Lib.hid (OwnsR.below OW.out hb); have XL := Lib.hid hx; clear hx hb KB2
          refine hKq.out _ _ ?_ (fun hHeld => ?_)
          · (try dsimp only); exact (HSt.out _ KB.out).1
          clear hKq Kq
          try simp only [Act.put, List.setIfInBounds_toArray, List.set_cons_zero, List.set_cons_succ]
          refine wpAnyH_ready (rs := [14]) (by kernel_rfl) (by simp) ?_
          refine AllReadyH.cons (o := ⟨_, _, _, _, _, _⟩) rfl (fun Kq hKq => ?_) (AllReadyH.nil)
          clear hHeld
          refine step_pushed (by rfl) (.tmp 18) (.tmp 25) (by rfl) _ w1.heap.size b1 _ d.ga _ (by rfl) (by rfl) OW.out XL.out HL.out KB.out.size ?_; intro A7 n7 c7 W7 hx hb; have KB := Lib.hid (KB.out.trans hb); have OW := Lib.hid hx; have D7 := Lib.hid (H.out.below KB.out); clear hx hb XL
          refine hKq.out _ _ ?_ (fun hHeld => ?_)
          · (try dsimp only); exact (HSt.out _ KB.out).1
          clear hKq Kq
          try simp only [Act.put, List.setIfInBounds_toArray, List.set_cons_zero, List.set_cons_succ]
          (refine wpAnyH_take (i := 15) (oi := ⟨_, _, _, _, _, _⟩) (v := ?_) rfl (by kernel_rfl) (by kernel_rfl) (by kernel_rfl) (fun _ _ _ h => h) (Or.inl ⟨by rfl, ?_⟩) (by assumption) ?_; rotate_left 1; · (intro w hSw; (try dsimp only at hSw); go_simp; all_goals with_reducible rfl))
          try simp only [Act.put, List.setIfInBounds_toArray, List.set_cons_zero, List.set_cons_succ]
          (refine wpAnyH_take (i := 16) (oi := ⟨_, _, _, _, _, _⟩) (v := ?_) rfl (by kernel_rfl) (by kernel_rfl) (by kernel_rfl) (fun _ _ _ h => h) (Or.inl ⟨by rfl, ?_⟩) (by assumption) ?_; rotate_left 1; · (intro w hSw; (try dsimp only at hSw); go_simp; all_goals with_reducible rfl))
          try simp only [Act.put, List.setIfInBounds_toArray, List.set_cons_zero, List.set_cons_succ]
          refine wpAnyH_ready (rs := [17]) (by kernel_rfl) (by simp) ?_
          refine AllReadyH.cons (o := ⟨_, _, _, _, _, _⟩) rfl (fun Kq hKq => ?_) (AllReadyH.nil)
          have cc := (dbox_cells D7.out.box).2.2.2.2.2
          have ff := (dbox_free D7.out.box).2.2
          go_simp
          clear hHeld
          have X := Lib.hid (D7.out.gap (OwnsR.mono_base OW.out HB.out))
          have GB := Lib.hid (grown_trans (grown_below KB.out (some l)) X.out.2)
          refine hKq.out _ _ ?_ (fun hHeld => ?_)
          · exact (dbox_cells X.out.1.box).2.2.2.2.1
          clear hKq Kq
          try simp only [Act.put, List.setIfInBounds_toArray, List.set_cons_zero, List.set_cons_succ]
          refine wpAnyH_done (by kernel_rfl) ?_ _
          have X1 := Lib.hid X.out.1
          clear X cc ff hHeld D7 OW
          generalize hW : World.setCell _ _ _ = w9 at *
          clear hW
          obtain ⟨c0, c1, c2, c3, c4, c5⟩ := dbox_cells X1.out.box
          obtain ⟨f3, f4, f5⟩ := dbox_free X1.out.box
          clear c0 c1 c2 c5 f5
          go_wp2_with fail
          go_end0
          have Z := X1.out.put (d.time x)
          rw [E.out]
          exact ⟨rfl, _, Z.1, grown_trans GB.out Z.2⟩
        · clear hHeld
          refine step_lit1 (by rfl) (.tmp 24) (by rfl) _ _ (by rfl) ?_; intro b1 W2 hx hb; have KB2 := KB; have KB := Lib.hid (below_after KB.out hb (Nat.le_refl _)); have XB := Lib.hid ((hb.block _ (row_lt XB.out)).trans XB.out); have XL := Lib.hid hx; clear hx hb KB2
          refine hKq.out _ _ ?_ (fun hHeld => ?_)
          · (try dsimp only); exact (HSt.out _ KB.out).1
          clear hKq Kq
          try simp only [Act.put, List.setIfInBounds_toArray, List.set_cons_zero, List.set_cons_succ]
          refine wpAnyH_ready (rs := [6]) (by kernel_rfl) (by simp) ?_
          refine AllReadyH.cons (o := ⟨_, _, _, _, _, _⟩) rfl (fun Kq hKq => ?_) (AllReadyH.nil)
          clear hHeld
          refine step_copied (by rfl) (.tmp 13) (.tmp 17) (by rfl) _ w1.heap.size b0 _ d.ga (by rfl) (by rfl) XB.out XN.out ((gaps_rcs H.out.gaps).below KB.out) HL.out ?_; intro A6 c6 W6 hx hb; have KB2 := KB; have KB := Lib.hid (below_after KB.out hb (Nat.le_refl _)); have XL := Lib.hid (XL.out.below hb); have OW := Lib.hid hx; clear hx hb KB2
          refine hKq.out _ _ ?_ (fun hHeld => ?_)
          · (try dsimp only); exact (HSt.out _ KB.out).1
          clear hKq Kq
          try simp only [Act.put, List.setIfInBounds_toArray, List.set_cons_zero, List.set_cons_succ]
          refine wpAnyH_ready (rs := [14]) (by kernel_rfl) (by simp) ?_
          refine AllReadyH.cons (o := ⟨_, _, _, _, _, _⟩) rfl (fun Kq hKq => ?_) (AllReadyH.nil)
          clear hHeld
          refine step_pushed (by rfl) (.tmp 18) (.tmp 25) (by rfl) _ w1.heap.size b1 _ d.ga _ (by rfl) (by rfl) OW.out XL.out HL.out KB.out.size ?_; intro A7 n7 c7 W7 hx hb; have KB := Lib.hid (KB.out.trans hb); have OW := Lib.hid hx; have D7 := Lib.hid (H.out.below KB.out); clear hx hb XL
          refine hKq.out _ _ ?_ (fun hHeld => ?_)
          · (try dsimp only); exact (HSt.out _ KB.out).1
          clear hKq Kq
          try simp only [Act.put, List.setIfInBounds_toArray, List.set_cons_zero, List.set_cons_succ]
          (refine wpAnyH_take (i := 15) (oi := ⟨_, _, _, _, _, _⟩) (v := ?_) rfl (by kernel_rfl) (by kernel_rfl) (by kernel_rfl) (fun _ _ _ h => h) (Or.inl ⟨by rfl, ?_⟩) (by assumption) ?_; rotate_left 1; · (intro w hSw; (try dsimp only at hSw); go_simp; all_goals with_reducible rfl))
          try simp only [Act.put, List.setIfInBounds_toArray, List.set_cons_zero, List.set_cons_succ]
          (refine wpAnyH_take (i := 16) (oi := ⟨_, _, _, _, _, _⟩) (v := ?_) rfl (by kernel_rfl) (by kernel_rfl) (by kernel_rfl) (fun _ _ _ h => h) (Or.inl ⟨by rfl, ?_⟩) (by assumption) ?_; rotate_left 1; · (intro w hSw; (try dsimp only at hSw); go_simp; all_goals with_reducible rfl))
          try simp only [Act.put, List.setIfInBounds_toArray, List.set_cons_zero, List.set_cons_succ]
          refine wpAnyH_ready (rs := [17]) (by kernel_rfl) (by simp) ?_
          refine AllReadyH.cons (o := ⟨_, _, _, _, _, _⟩) rfl (fun Kq hKq => ?_) (AllReadyH.nil)
          have cc := (dbox_cells D7.out.box).2.2.2.2.2
          have ff := (dbox_free D7.out.box).2.2
          go_simp
          clear hHeld
          have X := Lib.hid (D7.out.gap (OwnsR.mono_base OW.out HB.out))
          have GB := Lib.hid (grown_trans (grown_below KB.out (some l)) X.out.2)
          refine hKq.out _ _ ?_ (fun hHeld => ?_)
          · exact (dbox_cells X.out.1.box).2.2.2.2.1
          clear hKq Kq
          try simp only [Act.put, List.setIfInBounds_toArray, List.set_cons_zero, List.set_cons_succ]
          refine wpAnyH_done (by kernel_rfl) ?_ _
          have X1 := Lib.hid X.out.1
          clear X cc ff hHeld D7 OW
          generalize hW : World.setCell _ _ _ = w9 at *
          clear hW
          obtain ⟨c0, c1, c2, c3, c4, c5⟩ := dbox_cells X1.out.box
          obtain ⟨f3, f4, f5⟩ := dbox_free X1.out.box
          clear c0 c1 c2 c5 f5
          go_wp2_with fail
          go_end0
          have Z := X1.out.put (d.time x)
          rw [E.out]
          exact ⟨rfl, _, Z.1, grown_trans GB.out Z.2⟩
      · clear hHeld
        refine step_lit1 (by rfl) (.tmp 24) (by rfl) _ _ (by rfl) ?_; intro b1 W2 hx hb; have KB2 := KB; have KB := Lib.hid (below_after KB.out hb (Nat.le_refl _)); have XL := Lib.hid hx; clear hx hb KB2
        refine hKq.out _ _ ?_ (fun hHeld => ?_)
        · (try dsimp only); exact (HSt.out _ KB.out).1
        clear hKq Kq
        try simp only [Act.put, List.setIfInBounds_toArray, List.set_cons_zero, List.set_cons_succ]
        refine wpAnyH_ready (rs := [1]) (by kernel_rfl) (by simp) ?_
        refine AllReadyH.cons (o := ⟨_, _, _, _, _, _⟩) rfl (fun Kq hKq => ?_) (AllReadyH.nil)
        clear hHeld
        refine step_lit0 (by rfl) (by rfl) _ ?_; intro b0 W1 hlo hx hb; have KB2 := KB; have KB := Lib.hid (below_after KB.out hb (Nat.le_refl _)); have XL := Lib.hid (XL.out.below hb); have XB := Lib.hid hx; have XN := Lib.hid (Nat.le_trans KB2.out.size hlo); clear hx hlo hb KB2
        refine hKq.out _ _ ?_ (fun hHeld => ?_)
        · (try dsimp only); exact (HSt.out _ KB.out).1
        clear hKq Kq
        try simp only [Act.put, List.setIfInBounds_toArray, List.set_cons_zero, List.set_cons_succ]
        refine wpAnyH_ready (rs := [6]) (by kernel_rfl) (by simp) ?_
        refine AllReadyH.cons (o := ⟨_, _, _, _, _, _⟩) rfl (fun Kq hKq => ?_) (AllReadyH.nil)
        clear hHeld
        refine step_copied (by rfl) (.tmp 13) (.tmp 17) (by rfl) _ w1.heap.size b0 _ d.ga (by rfl) (by rfl) XB.out XN.out ((gaps_rcs H.out.gaps).below KB.out) HL.out ?_; intro A6 c6 W6 hx hb; have KB2 := KB; have KB := Lib.hid (below_after KB.out hb (Nat.le_refl _)); have XL := Lib.hid (XL.out.below hb); have OW := Lib.hid hx; clear hx hb KB2
        refine hKq.out _ _ ?_ (fun hHeld => ?_)
        · (try dsimp only); exact (HSt.out _ KB.out).1
        clear hKq Kq
        try simp only [Act.put, List.setIfInBounds_toArray, List.set_cons_zero, List.set_cons_succ]
        refine wpAnyH_ready (rs := [14]) (by kernel_rfl) (by simp) ?_
        refine AllReadyH.cons (o := ⟨_, _, _, _, _, _⟩) rfl (fun Kq hKq => ?_) (AllReadyH.nil)
        clear hHeld
        refine step_pushed (by rfl) (.tmp 18) (.tmp 25) (by rfl) _ w1.heap.size b1 _ d.ga _ (by rfl) (by rfl) OW.out XL.out HL.out KB.out.size ?_; intro A7 n7 c7 W7 hx hb; have KB := Lib.hid (KB.out.trans hb); have OW := Lib.hid hx; have D7 := Lib.hid (H.out.below KB.out); clear hx hb XL
        refine hKq.out _ _ ?_ (fun hHeld => ?_)
        · (try dsimp only); exact (HSt.out _ KB.out).1
        clear hKq Kq
        try simp only [Act.put, List.setIfInBounds_toArray, List.set_cons_zero, List.set_cons_succ]
        (refine wpAnyH_take (i := 15) (oi := ⟨_, _, _, _, _, _⟩) (v := ?_) rfl (by kernel_rfl) (by kernel_rfl) (by kernel_rfl) (fun _ _ _ h => h) (Or.inl ⟨by rfl, ?_⟩) (by assumption) ?_; rotate_left 1; · (intro w hSw; (try dsimp only at hSw); go_simp; all_goals with_reducible rfl))
        try simp only [Act.put, List.setIfInBounds_toArray, List.set_cons_zero, List.set_cons_succ]
        (refine wpAnyH_take (i := 16) (oi := ⟨_, _, _, _, _, _⟩) (v := ?_) rfl (by kernel_rfl) (by kernel_rfl) (by kernel_rfl) (fun _ _ _ h => h) (Or.inl ⟨by rfl, ?_⟩) (by assumption) ?_; rotate_left 1; · (intro w hSw; (try dsimp only at hSw); go_simp; all_goals with_reducible rfl))
        try simp only [Act.put, List.setIfInBounds_toArray, List.set_cons_zero, List.set_cons_succ]
        refine wpAnyH_ready (rs := [17]) (by kernel_rfl) (by simp) ?_
        refine AllReadyH.cons (o := ⟨_, _, _, _, _, _⟩) rfl (fun Kq hKq => ?_) (AllReadyH.nil)
        have cc := (dbox_cells D7.out.box).2.2.2.2.2
        have ff := (dbox_free D7.out.box).2.2
        go_simp
        clear hHeld
        have X := Lib.hid (D7.out.gap (OwnsR.mono_base OW.out HB.out))
        have GB := Lib.hid (grown_trans (grown_below KB.out (some l)) X.out.2)
        refine hKq.out _ _ ?_ (fun hHeld => ?_)
        · exact (dbox_cells X.out.1.box).2.2.2.2.1
        clear hKq Kq
        try simp only [Act.put, List.setIfInBounds_toArray, List.set_cons_zero, List.set_cons_succ]
        refine wpAnyH_done (by kernel_rfl) ?_ _
        have X1 := Lib.hid X.out.1
        clear X cc ff hHeld D7 OW
        generalize hW : World.setCell _ _ _ = w9 at *
        clear hW
        obtain ⟨c0, c1, c2, c3, c4, c5⟩ := dbox_cells X1.out.box
        obtain ⟨f3, f4, f5⟩ := dbox_free X1.out.box
        clear c0 c1 c2 c5 f5
        go_wp2_with fail
        go_end0
        have Z := X1.out.put (d.time x)
        rw [E.out]
        exact ⟨rfl, _, Z.1, grown_trans GB.out Z.2⟩
    · clear hHeld
      refine step_lit1 (by rfl) (.tmp 24) (by rfl) _ _ (by rfl) ?_; intro b1 W2 hx hb; have KB2 := KB; have KB := Lib.hid (below_after KB.out hb (Nat.le_refl _)); have XL := Lib.hid hx; clear hx hb KB2
      refine hKq.out _ _ ?_ (fun hHeld => ?_)
      · (try dsimp only); exact (HSt.out _ KB.out).1
      clear hKq Kq
      try simp only [Act.put, List.setIfInBounds_toArray, List.set_cons_zero, List.set_cons_succ]
      refine wpAnyH_ready (rs := [1, 5]) (by kernel_rfl) (by simp) ?_
      refine AllReadyH.cons (o := ⟨_, _, _, _, _, _⟩) rfl (fun Kq hKq => ?_) (AllReadyH.cons (o := ⟨_, _, _, _, _, _⟩) rfl (fun Kq hKq => ?_) (AllReadyH.nil))
      · clear hHeld
        refine step_lit0 (by rfl) (by rfl) _ ?_; intro b0 W1 hlo hx hb; have KB2 := KB; have KB := Lib.hid (below_after KB.out hb (Nat.le_refl _)); have XL := Lib.hid (XL.out.below hb); have XB := Lib.hid hx; have XN := Lib.hid (Nat.le_trans KB2.out.size hlo); clear hx hlo hb KB2
        refine hKq.out _ _ ?_ (fun hHeld => ?_)
        · (try dsimp only); exact (HSt.out _ KB.out).1
        clear hKq Kq
        try simp only [Act.put, List.setIfInBounds_toArray, List.set_cons_zero, List.set_cons_succ]
        refine wpAnyH_ready (rs := [5]) (by kernel_rfl) (by simp) ?_
        refine AllReadyH.cons (o := ⟨_, _, _, _, _, _⟩) rfl (fun Kq hKq => ?_) (AllReadyH.nil)
        have c5 := (HSt.out _ KB.out).2
        go_simp
        clear hHeld
        clear c5
        refine hKq.out _ _ ?_ (fun hHeld => ?_)
        · (try dsimp only); exact (HSt.out _ KB.out).1
        clear hKq Kq
        try simp only [Act.put, List.setIfInBounds_toArray, List.set_cons_zero, List.set_cons_succ]
        refine wpAnyH_ready (rs := [6]) (by kernel_rfl) (by simp) ?_
        refine AllReadyH.cons (o := ⟨_, _, _, _, _, _⟩) rfl (fun Kq hKq => ?_) (AllReadyH.nil)
        clear hHeld
        refine step_copied (by rfl) (.tmp 13) (.tmp 17) (by rfl) _ w1.heap.size b0 _ d.ga (by rfl) (by rfl) XB.out XN.out ((gaps_rcs H.out.gaps).below KB.out) HL.out ?_; intro A6 c6 W6 hx hb; have KB2 := KB; have KB := Lib.hid (below_after KB.out hb (Nat.le_refl _)); have XL := Lib.hid (XL.out.below hb); have OW := Lib.hid hx; clear hx hb KB2
        refine hKq.out _ _ ?_ (fun hHeld => ?_)
        · (try dsimp only); exact (HSt.out _ KB.out).1
        clear hKq Kq
        try simp only [Act.put, List.setIfInBounds_toArray, List.set_cons_zero, List.set_cons_succ]
        refine wpAnyH_ready (rs := [14]) (by kernel_rfl) (by simp) ?_
        refine AllReadyH.cons (o := ⟨_, _, _, _, _, _⟩) rfl (fun Kq hKq => ?_) (AllReadyH.nil)
        clear hHeld
        refine step_pushed (by rfl) (.tmp 18) (.tmp 25) (by rfl) _ w1.heap.size b1 _ d.ga _ (by rfl) (by rfl) OW.out XL.out HL.out KB.out.size ?_; intro A7 n7 c7 W7 hx hb; have KB := Lib.hid (KB.out.trans hb); have OW := Lib.hid hx; have D7 := Lib.hid (H.out.below KB.out); clear hx hb XL
        refine hKq.out _ _ ?_ (fun hHeld => ?_)
        · (try dsimp only); exact (HSt.out _ KB.out).1
        clear hKq Kq
        try simp only [Act.put, List.setIfInBounds_toArray, List.set_cons_zero, List.set_cons_succ]
        (refine wpAnyH_take (i := 15) (oi := ⟨_, _, _, _, _, _⟩) (v := ?_) rfl (by kernel_rfl) (by kernel_rfl) (by kernel_rfl) (fun _ _ _ h => h) (Or.inl ⟨by rfl, ?_⟩) (by assumption) ?_; rotate_left 1; · (intro w hSw; (try dsimp only at hSw); go_simp; all_goals with_reducible rfl))
        try simp only [Act.put, List.setIfInBounds_toArray, List.set_cons_zero, List.set_cons_succ]
        (refine wpAnyH_take (i := 16) (oi := ⟨_, _, _, _, _, _⟩) (v := ?_) rfl (by kernel_rfl) (by kernel_rfl) (by kernel_rfl) (fun _ _ _ h => h) (Or.inl ⟨by rfl, ?_⟩) (by assumption) ?_; rotate_left 1; · (intro w hSw; (try dsimp only at hSw); go_simp; all_goals with_reducible rfl))
        try simp only [Act.put, List.setIfInBounds_toArray, List.set_cons_zero, List.set_cons_succ]
        refine wpAnyH_ready (rs := [17]) (by kernel_rfl) (by simp) ?_
        refine AllReadyH.cons (o := ⟨_, _, _, _, _, _⟩) rfl (fun Kq hKq => ?_) (AllReadyH.nil)
        have cc := (dbox_cells D7.out.box).2.2.2.2.2
        have ff := (dbox_free D7.out.box).2.2
        go_simp
        clear hHeld
        have X := Lib.hid (D7.out.gap (OwnsR.mono_base OW.out HB.out))
        have GB := Lib.hid (grown_trans (grown_below KB.out (some l)) X.out.2)
        refine hKq.out _ _ ?_ (fun hHeld => ?_)
        · exact (dbox_cells X.out.1.box).2.2.2.2.1
        clear hKq Kq
        try simp only [Act.put, List.setIfInBounds_toArray, List.set_cons_zero, List.set_cons_succ]
        refine wpAnyH_done (by kernel_rfl) ?_ _
        have X1 := Lib.hid X.out.1
        clear X cc ff hHeld D7 OW
        generalize hW : World.setCell _ _ _ = w9 at *
        clear hW
        obtain ⟨c0, c1, c2, c3, c4, c5⟩ := dbox_cells X1.out.box
        obtain ⟨f3, f4, f5⟩ := dbox_free X1.out.box
        clear c0 c1 c2 c5 f5
        go_wp2_with fail
        go_end0
        have Z := X1.out.put (d.time x)
        rw [E.out]
        exact ⟨rfl, _, Z.1, grown_trans GB.out Z.2⟩
      · have c5 := (HSt.out _ KB.out).2
        go_simp
        clear hHeld
        clear c5
        refine hKq.out _ _ ?_ (fun hHeld => ?_)
        · (try dsimp only); exact (HSt.out _ KB.out).1
        clear hKq Kq
        try simp only [Act.put, List.setIfInBounds_toArray, List.set_cons_zero, List.set_cons_succ]
        refine wpAnyH_ready (rs := [1]) (by kernel_rfl) (by simp) ?_
        refine AllReadyH.cons (o := ⟨_, _, _, _, _, _⟩) rfl (fun Kq hKq => ?_) (AllReadyH.nil)
        clear hHeld
        refine step_lit0 (by rfl) (by rfl) _ ?_; intro b0 W1 hlo hx hb; have KB2 := KB; have KB := Lib.hid (below_after KB.out hb (Nat.le_refl _)); have XL := Lib.hid (XL.out.below hb); have XB := Lib.hid hx; have XN := Lib.hid (Nat.le_trans KB2.out.size hlo); clear hx hlo hb KB2
        refine hKq.out _ _ ?_ (fun hHeld => ?_)
        · (try dsimp only); exact (HSt.out _ KB.out).1
        clear hKq Kq
        try simp only [Act.put, List.setIfInBounds_toArray, List.set_cons_zero, List.set_cons_succ]
        refine wpAnyH_ready (rs := [6]) (by kernel_rfl) (by simp) ?_
        refine AllReadyH.cons (o := ⟨_, _, _, _, _, _⟩) rfl (fun Kq hKq => ?_) (AllReadyH.nil)
        clear hHeld
        refine step_copied (by rfl) (.tmp 13) (.tmp 17) (by rfl) _ w1.heap.size b0 _ d.ga (by rfl) (by rfl) XB.out XN.out ((gaps_rcs H.out.gaps).below KB.out) HL.out ?_; intro A6 c6 W6 hx hb; have KB2 := KB; have KB := Lib.hid (below_after KB.out hb (Nat.le_refl _)); have XL := Lib.hid (XL.out.below hb); have OW := Lib.hid hx; clear hx hb KB2
        refine hKq.out _ _ ?_ (fun hHeld => ?_)
        · (try dsimp only); exact (HSt.out _ KB.out).1
        clear hKq Kq
        try simp only [Act.put, List.setIfInBounds_toArray, List.set_cons_zero, List.set_cons_succ]
        refine wpAnyH_ready (rs := [14]) (by kernel_rfl) (by simp) ?_
        refine AllReadyH.cons (o := ⟨_, _, _, _, _, _⟩) rfl (fun Kq hKq => ?_) (AllReadyH.nil)
        clear hHeld
        refine step_pushed (by rfl) (.tmp 18) (.tmp 25) (by rfl) _ w1.heap.size b1 _ d.ga _ (by rfl) (by rfl) OW.out XL.out HL.out KB.out.size ?_; intro A7 n7 c7 W7 hx hb; have KB := Lib.hid (KB.out.trans hb); have OW := Lib.hid hx; have D7 := Lib.hid (H.out.below KB.out); clear hx hb XL
        refine hKq.out _ _ ?_ (fun hHeld => ?_)
        · (try dsimp only); exact (HSt.out _ KB.out).1
        clear hKq Kq
        try simp only [Act.put, List.setIfInBounds_toArray, List.set_cons_zero, List.set_cons_succ]
        (refine wpAnyH_take (i := 15) (oi := ⟨_, _, _, _, _, _⟩) (v := ?_) rfl (by kernel_rfl) (by kernel_rfl) (by kernel_rfl) (fun _ _ _ h => h) (Or.inl ⟨by rfl, ?_⟩) (by assumption) ?_; rotate_left 1; · (intro w hSw; (try dsimp only at hSw); go_simp; all_goals with_reducible rfl))
        try simp only [Act.put, List.setIfInBounds_toArray, List.set_cons_zero, List.set_cons_succ]
        (refine wpAnyH_take (i := 16) (oi := ⟨_, _, _, _, _, _⟩) (v := ?_) rfl (by kernel_rfl) (by kernel_rfl) (by kernel_rfl) (fun _ _ _ h => h) (Or.inl ⟨by rfl, ?_⟩) (by assumption) ?_; rotate_left 1; · (intro w hSw; (try dsimp only at hSw); go_simp; all_goals with_reducible rfl))
        try simp only [Act.put, List.setIfInBounds_toArray, List.set_cons_zero, List.set_cons_succ]
        refine wpAnyH_ready (rs := [17]) (by kernel_rfl) (by simp) ?_
        refine AllReadyH.cons (o := ⟨_, _, _, _, _, _⟩) rfl (fun Kq hKq => ?_) (AllReadyH.nil)
        have cc := (dbox_cells D7.out.box).2.2.2.2.2
        have ff := (dbox_free D7.out.box).2.2
        go_simp
        clear hHeld
        have X := Lib.hid (D7.out.gap (OwnsR.mono_base OW.out HB.out))
        have GB := Lib.hid (grown_trans (grown_below KB.out (some l)) X.out.2)
        refine hKq.out _ _ ?_ (fun hHeld => ?_)
        · exact (dbox_cells X.out.1.box).2.2.2.2.1
        clear hKq Kq
        try simp only [Act.put, List.setIfInBounds_toArray, List.set_cons_zero, List.set_cons_succ]
        refine wpAnyH_done (by kernel_rfl) ?_ _
        have X1 := Lib.hid X.out.1
        clear X cc ff hHeld D7 OW
        generalize hW : World.setCell _ _ _ = w9 at *
        clear hW
        obtain ⟨c0, c1, c2, c3, c4, c5⟩ := dbox_cells X1.out.box
        obtain ⟨f3, f4, f5⟩ := dbox_free X1.out.box
        clear c0 c1 c2 c5 f5
        go_wp2_with fail
        go_end0
        have Z := X1.out.put (d.time x)
        rw [E.out]
        exact ⟨rfl, _, Z.1, grown_trans GB.out Z.2⟩
end Go.Proofs.Ytbglghfdfigefaa
