/-
  A walk: a frame is put to the document's box. No statement is proved in this text.
-/
import Derived.Test.YtmgiglefabbmcaaOutY
import Derived.Test.YtmgiglefabbmcaaOutZ
set_option maxRecDepth 20000
namespace Go.Proofs.Ytmgiglefabbmcaa
open Go Go.RowKit
/-- What stands behind the list's store. -/
structure RD (W : World) (x : Nat) (mx : Int) (qs : List Fq) (wx : World) : Prop where
  rb : ∃ A' c', RB wx x mx A' c' qs ∧ ∀ k, AB A' k → W.heap.size + 1 < k
  z : FB wx (W.heap.size + 1) q0
  o : Only (fun k => k = x) W wx
theorem RD.make {W w3 v : World} {x : Nat} {mx : Int} {A A' : Option Addr} {c c' N : Nat} {qs qs' : List Fq} (h : RB w3 x mx A c qs) (hb : Below W.heap.size W w3) (hz : FB w3 (W.heap.size + 1) q0) (xl : x < W.heap.size) (tr : Tr w3 v A' c' qs') (hN : N = qs'.length) :
    RD W x mx qs' (v.setCell ⟨x, 1, none⟩ (.slice A' N c')) := by
  subst hN
  have h1 := fb_lt hz
  exact ⟨⟨A', c', (h.step tr.b).set tr.row, fun k hk => by have := tr.own k hk; omega⟩, (Below.heap_setCell _ _ _ _ (show W.heap.size + 1 ≠ x by omega)).trans (fb_below hz tr.b), (Only.of (below_after hb tr.b (Nat.le_refl _))).andThen (only_setCell v x 1 _)⟩
theorem tr_start {w W : World} {g : Nat} (h : Below w.heap.size w W) (hg : W.heap[g]? = some (.cells #[] 32 (0, 0))) (hs : w.heap.size ≤ g) : Tr w W (some ⟨g, 0, none⟩) 0 [] := ⟨row14_lit0 hg, fun k ⟨_, e, e2⟩ => by
  injection e with e
  subst e
  subst e2
  exact hs, h⟩
theorem fb_past {v : World} {g x : Nat} {q : Fq} (h : FB v g q) (hx : g ≠ x) (i : Nat) (u : Value) : FB (v.setCell ⟨x, i, none⟩ u) g q := (Below.heap_setCell _ _ _ _ hx).trans h
set_option maxHeartbeats 16000000 in
theorem rput_any (W : World) (x : Nat) (mx : Int) (A : Option Addr) (c : Nat) (qs : List Fq) (h : RB W x mx A c qs) (hm : (qs.length : Int) ≤ mx ∧ mx ≤ 4096) (q : Fq) :
    Calls Try.prog 22 #[.pointer (some ⟨x, 0, none⟩), .agg (fc q)] W fun e w' => e = .returned (.tuple #[.agg (fc (putQ mx qs q).2.1), .bool (putQ mx qs q).2.2]) ∧ (∃ A' c', RB w' x mx A' c' (putQ mx qs q).1 ∧ (A' = A ∨ ∀ k, AB A' k → W.heap.size ≤ k)) ∧ Only (fun k => k = x) W w' := by
  have G0 := Lib.hid (ApG.first W q)
  rw [fc_zero] at G0
  have H0 := Lib.hid (h.step G0.out.b)
  have XL := Lib.hid (row_lt h.cells)
  have H0L := Lib.hid h.row.lt
  have hl : qs.length ≤ 4096 := by omega
  have HM := Lib.hid hm
  clear h hm
  have p0 : ((W.alloc (.cells (fc q) 32)).alloc (.cells #[.int .u8 0, .int .i64 0, .int .i64 0, .int .i64 0, .int .i64 0, .int .i64 0, .int .i64 0, .int .i64 0, .int .i64 0, .slice none 0 0, .slice none 0 0, .slice none 0 0, .slice none 0 0, .slice none 0 0] 32)).cell? ⟨x, 0, none⟩ = some (.int .i64 mx) := by rw [cell_of_row _ _ _ _ _ _ H0.out.cells]; rfl
  obtain ⟨p1, -⟩ := H0.out.at1
  go_enter Try.func22, Try.ntmps22
  go_wp2_with fail
  go_quiet (fail)
  have B3 := Lib.hid (below_drewN (n := nq) G0.out.b)
  have H3 := Lib.hid (H0.out.step (below_drewN (n := nq) (Below.refl _ _)))
  have X3 := Lib.hid (fb_below G0.out.x (below_drewN (n := nq) (Below.refl _ _)))
  have Z3 := Lib.hid (fb_below G0.out.z (below_drewN (n := nq) (Below.refl _ _)))
  clear p0 p1 G0 H0
  by_cases hlt : (qs.length : Int) < mx
  case pos =>
    have hd : decide ((qs.length : Int) < mx) = true := by simp; omega
    have hP : putQ mx qs q = (qs ++ [q], q0, false) := by unfold putQ; rw [if_pos hlt]
    go_upto_region 2 with (fail)
    generalize ((W.alloc (.cells (fc q) 32)).alloc (.cells #[.int .u8 0, .int .i64 0, .int .i64 0, .int .i64 0, .int .i64 0, .int .i64 0, .int .i64 0, .int .i64 0, .int .i64 0, .slice none 0 0, .slice none 0 0, .slice none 0 0, .slice none 0 0, .slice none 0 0] 32)).drewN nq = w3 at *
    have HRC := Lib.hid H3.out.row.rcs
    go_cut [0] (fun s0 wx => s0 = .pointer (some ⟨x, 0, none⟩) ∧ Hid (RD W x mx (qs ++ [q]) wx))
    case first =>
      refine wp_region_held_drew (S := fun W' => (Instr.loadAt 32 (.pointer (some (⟨W.heap.size, 0, none⟩ : Addr)))).run Try.prog W' = .ok (.agg (fc q)) W') (by kernel_rfl) ?_ (fun hHeld => ?_)
      · exact fb_run (fb_below X3.out (wb_drew (Below.refl _ w3)))
      (refine wpAnyH_take (i := 0) (oi := ⟨_, _, _, _, _, _⟩) (v := ?_) rfl (by kernel_rfl) (by kernel_rfl) (by kernel_rfl) (fun _ _ _ h => h) (Or.inl ⟨by rfl, ?_⟩) (by assumption) ?_; rotate_left 1; · (intro w hSw; (try dsimp only at hSw); go_simp; all_goals with_reducible rfl))
      try simp only [Act.put, List.setIfInBounds_toArray, List.set_cons_zero, List.set_cons_succ]
      (refine wpAnyH_take (i := 2) (oi := ⟨_, _, _, _, _, _⟩) (v := ?_) rfl (by kernel_rfl) (by kernel_rfl) (by kernel_rfl) (fun _ _ _ h => h) (Or.inl ⟨by rfl, ?_⟩) (by assumption) ?_; rotate_left 1; · (intro w hSw; (try dsimp only at hSw); go_simp; all_goals with_reducible rfl))
      try simp only [Act.put, List.setIfInBounds_toArray, List.set_cons_zero, List.set_cons_succ]
      (refine wpAnyH_take (i := 3) (oi := ⟨_, _, _, _, _, _⟩) (v := ?_) rfl (by kernel_rfl) (by kernel_rfl) (by kernel_rfl) (fun _ _ _ h => h) (Or.inl ⟨by rfl, ?_⟩) (by assumption) ?_; rotate_left 1; · (intro w hSw; (try dsimp only at hSw); go_simp; all_goals with_reducible rfl))
      try simp only [Act.put, List.setIfInBounds_toArray, List.set_cons_zero, List.set_cons_succ]
      (refine wpAnyH_take (i := 4) (oi := ⟨_, _, _, _, _, _⟩) (v := ?_) rfl (by kernel_rfl) (by kernel_rfl) (by kernel_rfl) (fun _ _ _ h => h) (Or.inl ⟨by rfl, ?_⟩) (by assumption) ?_; rotate_left 1; · (intro w hSw; (try dsimp only at hSw); go_simp; all_goals with_reducible rfl))
      try simp only [Act.put, List.setIfInBounds_toArray, List.set_cons_zero, List.set_cons_succ]
      refine wpAnyH_take (i := 7) (oi := ⟨_, _, _, _, _, _⟩) (v := .agg (fc q)) rfl (by kernel_rfl) (by kernel_rfl) (by kernel_rfl) (fun _ _ _ h => h) (yieldsIf_loadAt rfl 32 (.tmp 3) rfl (.pointer (some (⟨W.heap.size, 0, none⟩ : Addr))) rfl (fun _ h => h)) (by assumption) ?_
      try simp only [Act.put, List.setIfInBounds_toArray, List.set_cons_zero, List.set_cons_succ]
      refine wpAnyH_ready (rs := [1, 5, 8]) (by kernel_rfl) (by simp) ?_
      refine AllReadyH.cons (o := ⟨_, _, _, _, _, _⟩) rfl (fun Kq hKq => ?_) (AllReadyH.cons (o := ⟨_, _, _, _, _, _⟩) rfl (fun Kq hKq => ?_) (AllReadyH.cons (o := ⟨_, _, _, _, _, _⟩) rfl (fun Kq hKq => ?_) (AllReadyH.nil)))
      · clear hHeld
        refine step_build0 rfl rfl (w3.drew) ?_; have hq2 : Below (w3.drew).heap.size (w3.drew) ((w3.drew).alloc (.cells #[] 32)) := below_one (w3.drew) _; have BB1 := Lib.hid (below_after (wb_drew (Below.refl _ w3)) hq2 (Nat.le_refl _)); have LZ1 := Lib.hid (heap_alloc_new (w3.drew) (.cells #[] 32)); have LG := Lib.hid ((wb_drew (Below.refl _ w3)).size); generalize (w3.drew).alloc (.cells #[] 32) = v1 at *; generalize (w3.drew).heap.size = g0 at *; clear hq2
        refine hKq.out _ _ ?_ (fun hHeld => ?_)
        · (try dsimp only); exact fb_run (fb_below X3.out BB1.out)
        clear hKq Kq
        try simp only [Act.put, List.setIfInBounds_toArray, List.set_cons_zero, List.set_cons_succ]
        refine wpAnyH_ready (rs := [5, 8]) (by kernel_rfl) (by simp) ?_
        refine AllReadyH.cons (o := ⟨_, _, _, _, _, _⟩) rfl (fun Kq hKq => ?_) (AllReadyH.cons (o := ⟨_, _, _, _, _, _⟩) rfl (fun Kq hKq => ?_) (AllReadyH.nil))
        · obtain ⟨c9, f9⟩ := (H3.out.step BB1.out).at1
          go_simp
          clear hHeld
          clear c9 f9
          refine hKq.out _ _ ?_ (fun hHeld => ?_)
          · (try dsimp only); exact fb_run (fb_below X3.out BB1.out)
          clear hKq Kq
          try simp only [Act.put, List.setIfInBounds_toArray, List.set_cons_zero, List.set_cons_succ]
          refine wpAnyH_ready (rs := [6, 8]) (by kernel_rfl) (by simp) ?_
          refine AllReadyH.cons (o := ⟨_, _, _, _, _, _⟩) rfl (fun Kq hKq => ?_) (AllReadyH.cons (o := ⟨_, _, _, _, _, _⟩) rfl (fun Kq hKq => ?_) (AllReadyH.nil))
          · clear hHeld
            refine step_append_first rfl (.tmp 19) (.tmp 23) rfl v1 rfl rfl LZ1.out (HRC.out.below BB1.out) (by omega) ?_; intro A2 c2 v2 N2 hN h1 h2; have HN6 := Lib.hid hN; clear hN; have TR2 := Lib.hid ((tr_start BB1.out LZ1.out LG.out).app (xs := qs) h1 h2); have BB2 := Lib.hid TR2.out.b; clear h1 h2
            refine hKq.out _ _ ?_ (fun hHeld => ?_)
            · (try dsimp only); exact fb_run (fb_below X3.out BB2.out)
            clear hKq Kq
            try simp only [Act.put, List.setIfInBounds_toArray, List.set_cons_zero, List.set_cons_succ]
            refine wpAnyH_ready (rs := [8]) (by kernel_rfl) (by simp) ?_
            refine AllReadyH.cons (o := ⟨_, _, _, _, _, _⟩) rfl (fun Kq hKq => ?_) (AllReadyH.nil)
            clear hHeld
            refine step_build1 rfl (.tmp 25) rfl (v2) q rfl ?_; have hq2 : Below (v2).heap.size (v2) ((v2).alloc (.cells (fc q) 32)) := below_one (v2) (.cells (fc q) 32); have BB3 := Lib.hid (below_after BB2.out hq2 (Nat.le_refl _)); have TR3 := Lib.hid (TR2.out.step hq2); have TI3 := Lib.hid (ti_new (s := q) TR2.out); generalize (v2).alloc (.cells (fc q) 32) = v3 at *; generalize (v2).heap.size = bl at *; clear hq2
            refine hKq.out _ _ ?_ (fun hHeld => ?_)
            · (try dsimp only); exact fb_run (fb_below X3.out BB3.out)
            clear hKq Kq
            try simp only [Act.put, List.setIfInBounds_toArray, List.set_cons_zero, List.set_cons_succ]
            refine wpAnyH_ready (rs := [9]) (by kernel_rfl) (by simp) ?_
            refine AllReadyH.cons (o := ⟨_, _, _, _, _, _⟩) rfl (fun Kq hKq => ?_) (AllReadyH.nil)
            clear hHeld
            refine step_append_frames rfl (.tmp 24) (.tmp 26) rfl v3 rfl rfl HN6.out rfl TR3.out.row TI3.out.rcs (by simp; omega) ?_; intro A4 c4 v4 N4 hN h1 h2; have HN9 := Lib.hid hN; clear hN; have TR4 := Lib.hid (TR3.out.app h1 h2); have BB4 := Lib.hid TR4.out.b; clear h1 h2
            refine hKq.out _ _ ?_ (fun hHeld => ?_)
            · (try dsimp only); exact fb_run (fb_below X3.out BB4.out)
            clear hKq Kq
            try simp only [Act.put, List.setIfInBounds_toArray, List.set_cons_zero, List.set_cons_succ]
            (refine wpAnyH_take (i := 10) (oi := ⟨_, _, _, _, _, _⟩) (v := ?_) rfl (by kernel_rfl) (by kernel_rfl) (by kernel_rfl) (fun _ _ _ h => h) (Or.inl ⟨by rfl, ?_⟩) (by assumption) ?_; rotate_left 1; · (intro w hSw; (try dsimp only at hSw); go_simp; all_goals with_reducible rfl))
            try simp only [Act.put, List.setIfInBounds_toArray, List.set_cons_zero, List.set_cons_succ]
            (refine wpAnyH_take (i := 11) (oi := ⟨_, _, _, _, _, _⟩) (v := ?_) rfl (by kernel_rfl) (by kernel_rfl) (by kernel_rfl) (fun _ _ _ h => h) (Or.inl ⟨by rfl, ?_⟩) (by assumption) ?_; rotate_left 1; · (intro w hSw; (try dsimp only at hSw); go_simp; all_goals with_reducible rfl))
            try simp only [Act.put, List.setIfInBounds_toArray, List.set_cons_zero, List.set_cons_succ]
            refine wpAnyH_ready (rs := [12]) (by kernel_rfl) (by simp) ?_
            refine AllReadyH.cons (o := ⟨_, _, _, _, _, _⟩) rfl (fun Kq hKq => ?_) (AllReadyH.nil)
            obtain ⟨c9, f9⟩ := (H3.out.step BB4.out).at1
            go_simp
            clear hHeld
            clear c9 f9; have HD := Lib.hid (RD.make H3.out B3.out Z3.out XL.out TR4.out HN9.out); have X5 := Lib.hid (fb_past (fb_below X3.out BB4.out) (show W.heap.size ≠ x by have := XL.out; omega) 1 (.slice A4 N4 c4))
            refine hKq.out _ _ ?_ (fun hHeld => ?_)
            · (try dsimp only); exact fb_run X5.out
            clear hKq Kq
            try simp only [Act.put, List.setIfInBounds_toArray, List.set_cons_zero, List.set_cons_succ]
            refine wpAnyH_done (by kernel_rfl) ?_ _
            go_wp2_with fail
            go_meet
            exact ⟨rfl, HD⟩
          · clear hHeld
            refine step_build1 rfl (.tmp 25) rfl (v1) q rfl ?_; have hq2 : Below (v1).heap.size (v1) ((v1).alloc (.cells (fc q) 32)) := below_one (v1) (.cells (fc q) 32); have BB2 := Lib.hid (below_after BB1.out hq2 (Nat.le_refl _)); have LT2 := Lib.hid (show FB ((v1).alloc (.cells (fc q) 32)) (v1).heap.size q from fb_new (v1) q); have LZ2 := Lib.hid ((hq2.block _ (row_lt LZ1.out)).trans LZ1.out); have LN := Lib.hid (show g0 < (v1).heap.size from row_lt LZ1.out); generalize (v1).alloc (.cells (fc q) 32) = v2 at *; generalize (v1).heap.size = bl at *; clear hq2
            refine hKq.out _ _ ?_ (fun hHeld => ?_)
            · (try dsimp only); exact fb_run (fb_below X3.out BB2.out)
            clear hKq Kq
            try simp only [Act.put, List.setIfInBounds_toArray, List.set_cons_zero, List.set_cons_succ]
            refine wpAnyH_ready (rs := [6]) (by kernel_rfl) (by simp) ?_
            refine AllReadyH.cons (o := ⟨_, _, _, _, _, _⟩) rfl (fun Kq hKq => ?_) (AllReadyH.nil)
            clear hHeld
            refine step_append_first rfl (.tmp 19) (.tmp 23) rfl v2 rfl rfl LZ2.out (HRC.out.below BB2.out) (by omega) ?_; intro A3 c3 v3 N3 hN h1 h2; have HN6 := Lib.hid hN; clear hN; have TR3 := Lib.hid ((tr_start BB2.out LZ2.out LG.out).app (xs := qs) h1 h2); have BB3 := Lib.hid TR3.out.b; have TI3 := Lib.hid (Ti.app (w := w3) ⟨LT2.out, fun ⟨_, e, e2⟩ => by injection e with e; subst e; have := LN.out; dsimp only at e2; omega⟩ h2); clear h1 h2
            refine hKq.out _ _ ?_ (fun hHeld => ?_)
            · (try dsimp only); exact fb_run (fb_below X3.out BB3.out)
            clear hKq Kq
            try simp only [Act.put, List.setIfInBounds_toArray, List.set_cons_zero, List.set_cons_succ]
            refine wpAnyH_ready (rs := [9]) (by kernel_rfl) (by simp) ?_
            refine AllReadyH.cons (o := ⟨_, _, _, _, _, _⟩) rfl (fun Kq hKq => ?_) (AllReadyH.nil)
            clear hHeld
            refine step_append_frames rfl (.tmp 24) (.tmp 26) rfl v3 rfl rfl HN6.out rfl TR3.out.row TI3.out.rcs (by simp; omega) ?_; intro A4 c4 v4 N4 hN h1 h2; have HN9 := Lib.hid hN; clear hN; have TR4 := Lib.hid (TR3.out.app h1 h2); have BB4 := Lib.hid TR4.out.b; clear h1 h2
            refine hKq.out _ _ ?_ (fun hHeld => ?_)
            · (try dsimp only); exact fb_run (fb_below X3.out BB4.out)
            clear hKq Kq
            try simp only [Act.put, List.setIfInBounds_toArray, List.set_cons_zero, List.set_cons_succ]
            (refine wpAnyH_take (i := 10) (oi := ⟨_, _, _, _, _, _⟩) (v := ?_) rfl (by kernel_rfl) (by kernel_rfl) (by kernel_rfl) (fun _ _ _ h => h) (Or.inl ⟨by rfl, ?_⟩) (by assumption) ?_; rotate_left 1; · (intro w hSw; (try dsimp only at hSw); go_simp; all_goals with_reducible rfl))
            try simp only [Act.put, List.setIfInBounds_toArray, List.set_cons_zero, List.set_cons_succ]
            (refine wpAnyH_take (i := 11) (oi := ⟨_, _, _, _, _, _⟩) (v := ?_) rfl (by kernel_rfl) (by kernel_rfl) (by kernel_rfl) (fun _ _ _ h => h) (Or.inl ⟨by rfl, ?_⟩) (by assumption) ?_; rotate_left 1; · (intro w hSw; (try dsimp only at hSw); go_simp; all_goals with_reducible rfl))
            try simp only [Act.put, List.setIfInBounds_toArray, List.set_cons_zero, List.set_cons_succ]
            refine wpAnyH_ready (rs := [12]) (by kernel_rfl) (by simp) ?_
            refine AllReadyH.cons (o := ⟨_, _, _, _, _, _⟩) rfl (fun Kq hKq => ?_) (AllReadyH.nil)
            obtain ⟨c9, f9⟩ := (H3.out.step BB4.out).at1
            go_simp
            clear hHeld
            clear c9 f9; have HD := Lib.hid (RD.make H3.out B3.out Z3.out XL.out TR4.out HN9.out); have X5 := Lib.hid (fb_past (fb_below X3.out BB4.out) (show W.heap.size ≠ x by have := XL.out; omega) 1 (.slice A4 N4 c4))
            refine hKq.out _ _ ?_ (fun hHeld => ?_)
            · (try dsimp only); exact fb_run X5.out
            clear hKq Kq
            try simp only [Act.put, List.setIfInBounds_toArray, List.set_cons_zero, List.set_cons_succ]
            refine wpAnyH_done (by kernel_rfl) ?_ _
            go_wp2_with fail
            go_meet
            exact ⟨rfl, HD⟩
        · clear hHeld
          refine step_build1 rfl (.tmp 25) rfl (v1) q rfl ?_; have hq2 : Below (v1).heap.size (v1) ((v1).alloc (.cells (fc q) 32)) := below_one (v1) (.cells (fc q) 32); have BB2 := Lib.hid (below_after BB1.out hq2 (Nat.le_refl _)); have LT2 := Lib.hid (show FB ((v1).alloc (.cells (fc q) 32)) (v1).heap.size q from fb_new (v1) q); have LZ2 := Lib.hid ((hq2.block _ (row_lt LZ1.out)).trans LZ1.out); have LN := Lib.hid (show g0 < (v1).heap.size from row_lt LZ1.out); generalize (v1).alloc (.cells (fc q) 32) = v2 at *; generalize (v1).heap.size = bl at *; clear hq2
          refine hKq.out _ _ ?_ (fun hHeld => ?_)
          · (try dsimp only); exact fb_run (fb_below X3.out BB2.out)
          clear hKq Kq
          try simp only [Act.put, List.setIfInBounds_toArray, List.set_cons_zero, List.set_cons_succ]
          refine wpAnyH_ready (rs := [5]) (by kernel_rfl) (by simp) ?_
          refine AllReadyH.cons (o := ⟨_, _, _, _, _, _⟩) rfl (fun Kq hKq => ?_) (AllReadyH.nil)
          obtain ⟨c9, f9⟩ := (H3.out.step BB2.out).at1
          go_simp
          clear hHeld
          clear c9 f9
          refine hKq.out _ _ ?_ (fun hHeld => ?_)
          · (try dsimp only); exact fb_run (fb_below X3.out BB2.out)
          clear hKq Kq
          try simp only [Act.put, List.setIfInBounds_toArray, List.set_cons_zero, List.set_cons_succ]
          refine wpAnyH_ready (rs := [6]) (by kernel_rfl) (by simp) ?_
          refine AllReadyH.cons (o := ⟨_, _, _, _, _, _⟩) rfl (fun Kq hKq => ?_) (AllReadyH.nil)
          clear hHeld
          refine step_append_first rfl (.tmp 19) (.tmp 23) rfl v2 rfl rfl LZ2.out (HRC.out.below BB2.out) (by omega) ?_; intro A3 c3 v3 N3 hN h1 h2; have HN6 := Lib.hid hN; clear hN; have TR3 := Lib.hid ((tr_start BB2.out LZ2.out LG.out).app (xs := qs) h1 h2); have BB3 := Lib.hid TR3.out.b; have TI3 := Lib.hid (Ti.app (w := w3) ⟨LT2.out, fun ⟨_, e, e2⟩ => by injection e with e; subst e; have := LN.out; dsimp only at e2; omega⟩ h2); clear h1 h2
          refine hKq.out _ _ ?_ (fun hHeld => ?_)
          · (try dsimp only); exact fb_run (fb_below X3.out BB3.out)
          clear hKq Kq
          try simp only [Act.put, List.setIfInBounds_toArray, List.set_cons_zero, List.set_cons_succ]
          refine wpAnyH_ready (rs := [9]) (by kernel_rfl) (by simp) ?_
          refine AllReadyH.cons (o := ⟨_, _, _, _, _, _⟩) rfl (fun Kq hKq => ?_) (AllReadyH.nil)
          clear hHeld
          refine step_append_frames rfl (.tmp 24) (.tmp 26) rfl v3 rfl rfl HN6.out rfl TR3.out.row TI3.out.rcs (by simp; omega) ?_; intro A4 c4 v4 N4 hN h1 h2; have HN9 := Lib.hid hN; clear hN; have TR4 := Lib.hid (TR3.out.app h1 h2); have BB4 := Lib.hid TR4.out.b; clear h1 h2
          refine hKq.out _ _ ?_ (fun hHeld => ?_)
          · (try dsimp only); exact fb_run (fb_below X3.out BB4.out)
          clear hKq Kq
          try simp only [Act.put, List.setIfInBounds_toArray, List.set_cons_zero, List.set_cons_succ]
          (refine wpAnyH_take (i := 10) (oi := ⟨_, _, _, _, _, _⟩) (v := ?_) rfl (by kernel_rfl) (by kernel_rfl) (by kernel_rfl) (fun _ _ _ h => h) (Or.inl ⟨by rfl, ?_⟩) (by assumption) ?_; rotate_left 1; · (intro w hSw; (try dsimp only at hSw); go_simp; all_goals with_reducible rfl))
          try simp only [Act.put, List.setIfInBounds_toArray, List.set_cons_zero, List.set_cons_succ]
          (refine wpAnyH_take (i := 11) (oi := ⟨_, _, _, _, _, _⟩) (v := ?_) rfl (by kernel_rfl) (by kernel_rfl) (by kernel_rfl) (fun _ _ _ h => h) (Or.inl ⟨by rfl, ?_⟩) (by assumption) ?_; rotate_left 1; · (intro w hSw; (try dsimp only at hSw); go_simp; all_goals with_reducible rfl))
          try simp only [Act.put, List.setIfInBounds_toArray, List.set_cons_zero, List.set_cons_succ]
          refine wpAnyH_ready (rs := [12]) (by kernel_rfl) (by simp) ?_
          refine AllReadyH.cons (o := ⟨_, _, _, _, _, _⟩) rfl (fun Kq hKq => ?_) (AllReadyH.nil)
          obtain ⟨c9, f9⟩ := (H3.out.step BB4.out).at1
          go_simp
          clear hHeld
          clear c9 f9; have HD := Lib.hid (RD.make H3.out B3.out Z3.out XL.out TR4.out HN9.out); have X5 := Lib.hid (fb_past (fb_below X3.out BB4.out) (show W.heap.size ≠ x by have := XL.out; omega) 1 (.slice A4 N4 c4))
          refine hKq.out _ _ ?_ (fun hHeld => ?_)
          · (try dsimp only); exact fb_run X5.out
          clear hKq Kq
          try simp only [Act.put, List.setIfInBounds_toArray, List.set_cons_zero, List.set_cons_succ]
          refine wpAnyH_done (by kernel_rfl) ?_ _
          go_wp2_with fail
          go_meet
          exact ⟨rfl, HD⟩
      · obtain ⟨c9, f9⟩ := (H3.out.step (wb_drew (Below.refl _ w3))).at1
        go_simp
        clear hHeld
        clear c9 f9
        refine hKq.out _ _ ?_ (fun hHeld => ?_)
        · (try dsimp only); exact fb_run (fb_below X3.out (wb_drew (Below.refl _ w3)))
        clear hKq Kq
        try simp only [Act.put, List.setIfInBounds_toArray, List.set_cons_zero, List.set_cons_succ]
        refine wpAnyH_ready (rs := [1, 8]) (by kernel_rfl) (by simp) ?_
        refine AllReadyH.cons (o := ⟨_, _, _, _, _, _⟩) rfl (fun Kq hKq => ?_) (AllReadyH.cons (o := ⟨_, _, _, _, _, _⟩) rfl (fun Kq hKq => ?_) (AllReadyH.nil))
        · clear hHeld
          refine step_build0 rfl rfl (w3.drew) ?_; have hq2 : Below (w3.drew).heap.size (w3.drew) ((w3.drew).alloc (.cells #[] 32)) := below_one (w3.drew) _; have BB1 := Lib.hid (below_after (wb_drew (Below.refl _ w3)) hq2 (Nat.le_refl _)); have LZ1 := Lib.hid (heap_alloc_new (w3.drew) (.cells #[] 32)); have LG := Lib.hid ((wb_drew (Below.refl _ w3)).size); generalize (w3.drew).alloc (.cells #[] 32) = v1 at *; generalize (w3.drew).heap.size = g0 at *; clear hq2
          refine hKq.out _ _ ?_ (fun hHeld => ?_)
          · (try dsimp only); exact fb_run (fb_below X3.out BB1.out)
          clear hKq Kq
          try simp only [Act.put, List.setIfInBounds_toArray, List.set_cons_zero, List.set_cons_succ]
          refine wpAnyH_ready (rs := [6, 8]) (by kernel_rfl) (by simp) ?_
          refine AllReadyH.cons (o := ⟨_, _, _, _, _, _⟩) rfl (fun Kq hKq => ?_) (AllReadyH.cons (o := ⟨_, _, _, _, _, _⟩) rfl (fun Kq hKq => ?_) (AllReadyH.nil))
          · clear hHeld
            refine step_append_first rfl (.tmp 19) (.tmp 23) rfl v1 rfl rfl LZ1.out (HRC.out.below BB1.out) (by omega) ?_; intro A2 c2 v2 N2 hN h1 h2; have HN6 := Lib.hid hN; clear hN; have TR2 := Lib.hid ((tr_start BB1.out LZ1.out LG.out).app (xs := qs) h1 h2); have BB2 := Lib.hid TR2.out.b; clear h1 h2
            refine hKq.out _ _ ?_ (fun hHeld => ?_)
            · (try dsimp only); exact fb_run (fb_below X3.out BB2.out)
            clear hKq Kq
            try simp only [Act.put, List.setIfInBounds_toArray, List.set_cons_zero, List.set_cons_succ]
            refine wpAnyH_ready (rs := [8]) (by kernel_rfl) (by simp) ?_
            refine AllReadyH.cons (o := ⟨_, _, _, _, _, _⟩) rfl (fun Kq hKq => ?_) (AllReadyH.nil)
            clear hHeld
            refine step_build1 rfl (.tmp 25) rfl (v2) q rfl ?_; have hq2 : Below (v2).heap.size (v2) ((v2).alloc (.cells (fc q) 32)) := below_one (v2) (.cells (fc q) 32); have BB3 := Lib.hid (below_after BB2.out hq2 (Nat.le_refl _)); have TR3 := Lib.hid (TR2.out.step hq2); have TI3 := Lib.hid (ti_new (s := q) TR2.out); generalize (v2).alloc (.cells (fc q) 32) = v3 at *; generalize (v2).heap.size = bl at *; clear hq2
            refine hKq.out _ _ ?_ (fun hHeld => ?_)
            · (try dsimp only); exact fb_run (fb_below X3.out BB3.out)
            clear hKq Kq
            try simp only [Act.put, List.setIfInBounds_toArray, List.set_cons_zero, List.set_cons_succ]
            refine wpAnyH_ready (rs := [9]) (by kernel_rfl) (by simp) ?_
            refine AllReadyH.cons (o := ⟨_, _, _, _, _, _⟩) rfl (fun Kq hKq => ?_) (AllReadyH.nil)
            clear hHeld
            refine step_append_frames rfl (.tmp 24) (.tmp 26) rfl v3 rfl rfl HN6.out rfl TR3.out.row TI3.out.rcs (by simp; omega) ?_; intro A4 c4 v4 N4 hN h1 h2; have HN9 := Lib.hid hN; clear hN; have TR4 := Lib.hid (TR3.out.app h1 h2); have BB4 := Lib.hid TR4.out.b; clear h1 h2
            refine hKq.out _ _ ?_ (fun hHeld => ?_)
            · (try dsimp only); exact fb_run (fb_below X3.out BB4.out)
            clear hKq Kq
            try simp only [Act.put, List.setIfInBounds_toArray, List.set_cons_zero, List.set_cons_succ]
            (refine wpAnyH_take (i := 10) (oi := ⟨_, _, _, _, _, _⟩) (v := ?_) rfl (by kernel_rfl) (by kernel_rfl) (by kernel_rfl) (fun _ _ _ h => h) (Or.inl ⟨by rfl, ?_⟩) (by assumption) ?_; rotate_left 1; · (intro w hSw; (try dsimp only at hSw); go_simp; all_goals with_reducible rfl))
            try simp only [Act.put, List.setIfInBounds_toArray, List.set_cons_zero, List.set_cons_succ]
            (refine wpAnyH_take (i := 11) (oi := ⟨_, _, _, _, _, _⟩) (v := ?_) rfl (by kernel_rfl) (by kernel_rfl) (by kernel_rfl) (fun _ _ _ h => h) (Or.inl ⟨by rfl, ?_⟩) (by assumption) ?_; rotate_left 1; · (intro w hSw; (try dsimp only at hSw); go_simp; all_goals with_reducible rfl))
            try simp only [Act.put, List.setIfInBounds_toArray, List.set_cons_zero, List.set_cons_succ]
            refine wpAnyH_ready (rs := [12]) (by kernel_rfl) (by simp) ?_
            refine AllReadyH.cons (o := ⟨_, _, _, _, _, _⟩) rfl (fun Kq hKq => ?_) (AllReadyH.nil)
            obtain ⟨c9, f9⟩ := (H3.out.step BB4.out).at1
            go_simp
            clear hHeld
            clear c9 f9; have HD := Lib.hid (RD.make H3.out B3.out Z3.out XL.out TR4.out HN9.out); have X5 := Lib.hid (fb_past (fb_below X3.out BB4.out) (show W.heap.size ≠ x by have := XL.out; omega) 1 (.slice A4 N4 c4))
            refine hKq.out _ _ ?_ (fun hHeld => ?_)
            · (try dsimp only); exact fb_run X5.out
            clear hKq Kq
            try simp only [Act.put, List.setIfInBounds_toArray, List.set_cons_zero, List.set_cons_succ]
            refine wpAnyH_done (by kernel_rfl) ?_ _
            go_wp2_with fail
            go_meet
            exact ⟨rfl, HD⟩
          · clear hHeld
            refine step_build1 rfl (.tmp 25) rfl (v1) q rfl ?_; have hq2 : Below (v1).heap.size (v1) ((v1).alloc (.cells (fc q) 32)) := below_one (v1) (.cells (fc q) 32); have BB2 := Lib.hid (below_after BB1.out hq2 (Nat.le_refl _)); have LT2 := Lib.hid (show FB ((v1).alloc (.cells (fc q) 32)) (v1).heap.size q from fb_new (v1) q); have LZ2 := Lib.hid ((hq2.block _ (row_lt LZ1.out)).trans LZ1.out); have LN := Lib.hid (show g0 < (v1).heap.size from row_lt LZ1.out); generalize (v1).alloc (.cells (fc q) 32) = v2 at *; generalize (v1).heap.size = bl at *; clear hq2
            refine hKq.out _ _ ?_ (fun hHeld => ?_)
            · (try dsimp only); exact fb_run (fb_below X3.out BB2.out)
            clear hKq Kq
            try simp only [Act.put, List.setIfInBounds_toArray, List.set_cons_zero, List.set_cons_succ]
            refine wpAnyH_ready (rs := [6]) (by kernel_rfl) (by simp) ?_
            refine AllReadyH.cons (o := ⟨_, _, _, _, _, _⟩) rfl (fun Kq hKq => ?_) (AllReadyH.nil)
            clear hHeld
            refine step_append_first rfl (.tmp 19) (.tmp 23) rfl v2 rfl rfl LZ2.out (HRC.out.below BB2.out) (by omega) ?_; intro A3 c3 v3 N3 hN h1 h2; have HN6 := Lib.hid hN; clear hN; have TR3 := Lib.hid ((tr_start BB2.out LZ2.out LG.out).app (xs := qs) h1 h2); have BB3 := Lib.hid TR3.out.b; have TI3 := Lib.hid (Ti.app (w := w3) ⟨LT2.out, fun ⟨_, e, e2⟩ => by injection e with e; subst e; have := LN.out; dsimp only at e2; omega⟩ h2); clear h1 h2
            refine hKq.out _ _ ?_ (fun hHeld => ?_)
            · (try dsimp only); exact fb_run (fb_below X3.out BB3.out)
            clear hKq Kq
            try simp only [Act.put, List.setIfInBounds_toArray, List.set_cons_zero, List.set_cons_succ]
            refine wpAnyH_ready (rs := [9]) (by kernel_rfl) (by simp) ?_
            refine AllReadyH.cons (o := ⟨_, _, _, _, _, _⟩) rfl (fun Kq hKq => ?_) (AllReadyH.nil)
            clear hHeld
            refine step_append_frames rfl (.tmp 24) (.tmp 26) rfl v3 rfl rfl HN6.out rfl TR3.out.row TI3.out.rcs (by simp; omega) ?_; intro A4 c4 v4 N4 hN h1 h2; have HN9 := Lib.hid hN; clear hN; have TR4 := Lib.hid (TR3.out.app h1 h2); have BB4 := Lib.hid TR4.out.b; clear h1 h2
            refine hKq.out _ _ ?_ (fun hHeld => ?_)
            · (try dsimp only); exact fb_run (fb_below X3.out BB4.out)
            clear hKq Kq
            try simp only [Act.put, List.setIfInBounds_toArray, List.set_cons_zero, List.set_cons_succ]
            (refine wpAnyH_take (i := 10) (oi := ⟨_, _, _, _, _, _⟩) (v := ?_) rfl (by kernel_rfl) (by kernel_rfl) (by kernel_rfl) (fun _ _ _ h => h) (Or.inl ⟨by rfl, ?_⟩) (by assumption) ?_; rotate_left 1; · (intro w hSw; (try dsimp only at hSw); go_simp; all_goals with_reducible rfl))
            try simp only [Act.put, List.setIfInBounds_toArray, List.set_cons_zero, List.set_cons_succ]
            (refine wpAnyH_take (i := 11) (oi := ⟨_, _, _, _, _, _⟩) (v := ?_) rfl (by kernel_rfl) (by kernel_rfl) (by kernel_rfl) (fun _ _ _ h => h) (Or.inl ⟨by rfl, ?_⟩) (by assumption) ?_; rotate_left 1; · (intro w hSw; (try dsimp only at hSw); go_simp; all_goals with_reducible rfl))
            try simp only [Act.put, List.setIfInBounds_toArray, List.set_cons_zero, List.set_cons_succ]
            refine wpAnyH_ready (rs := [12]) (by kernel_rfl) (by simp) ?_
            refine AllReadyH.cons (o := ⟨_, _, _, _, _, _⟩) rfl (fun Kq hKq => ?_) (AllReadyH.nil)
            obtain ⟨c9, f9⟩ := (H3.out.step BB4.out).at1
            go_simp
            clear hHeld
            clear c9 f9; have HD := Lib.hid (RD.make H3.out B3.out Z3.out XL.out TR4.out HN9.out); have X5 := Lib.hid (fb_past (fb_below X3.out BB4.out) (show W.heap.size ≠ x by have := XL.out; omega) 1 (.slice A4 N4 c4))
            refine hKq.out _ _ ?_ (fun hHeld => ?_)
            · (try dsimp only); exact fb_run X5.out
            clear hKq Kq
            try simp only [Act.put, List.setIfInBounds_toArray, List.set_cons_zero, List.set_cons_succ]
            refine wpAnyH_done (by kernel_rfl) ?_ _
            go_wp2_with fail
            go_meet
            exact ⟨rfl, HD⟩
        · clear hHeld
          refine step_build1 rfl (.tmp 25) rfl (w3.drew) q rfl ?_; have hq2 : Below (w3.drew).heap.size (w3.drew) ((w3.drew).alloc (.cells (fc q) 32)) := below_one (w3.drew) (.cells (fc q) 32); have BB1 := Lib.hid (below_after (wb_drew (Below.refl _ w3)) hq2 (Nat.le_refl _)); have LT1 := Lib.hid (show FB ((w3.drew).alloc (.cells (fc q) 32)) (w3.drew).heap.size q from fb_new (w3.drew) q); generalize (w3.drew).alloc (.cells (fc q) 32) = v1 at *; generalize (w3.drew).heap.size = bl at *; clear hq2
          refine hKq.out _ _ ?_ (fun hHeld => ?_)
          · (try dsimp only); exact fb_run (fb_below X3.out BB1.out)
          clear hKq Kq
          try simp only [Act.put, List.setIfInBounds_toArray, List.set_cons_zero, List.set_cons_succ]
          refine wpAnyH_ready (rs := [1]) (by kernel_rfl) (by simp) ?_
          refine AllReadyH.cons (o := ⟨_, _, _, _, _, _⟩) rfl (fun Kq hKq => ?_) (AllReadyH.nil)
          clear hHeld
          refine step_build0 rfl rfl (v1) ?_; have hq2 : Below (v1).heap.size (v1) ((v1).alloc (.cells #[] 32)) := below_one (v1) _; have BB2 := Lib.hid (below_after BB1.out hq2 (Nat.le_refl _)); have LZ2 := Lib.hid (heap_alloc_new (v1) (.cells #[] 32)); have LG := Lib.hid (BB1.out.size); have LT2 := Lib.hid (fb_below LT1.out hq2); have LN := Lib.hid (show bl < (v1).heap.size from fb_lt LT1.out); generalize (v1).alloc (.cells #[] 32) = v2 at *; generalize (v1).heap.size = g0 at *; clear hq2
          refine hKq.out _ _ ?_ (fun hHeld => ?_)
          · (try dsimp only); exact fb_run (fb_below X3.out BB2.out)
          clear hKq Kq
          try simp only [Act.put, List.setIfInBounds_toArray, List.set_cons_zero, List.set_cons_succ]
          refine wpAnyH_ready (rs := [6]) (by kernel_rfl) (by simp) ?_
          refine AllReadyH.cons (o := ⟨_, _, _, _, _, _⟩) rfl (fun Kq hKq => ?_) (AllReadyH.nil)
          clear hHeld
          refine step_append_first rfl (.tmp 19) (.tmp 23) rfl v2 rfl rfl LZ2.out (HRC.out.below BB2.out) (by omega) ?_; intro A3 c3 v3 N3 hN h1 h2; have HN6 := Lib.hid hN; clear hN; have TR3 := Lib.hid ((tr_start BB2.out LZ2.out LG.out).app (xs := qs) h1 h2); have BB3 := Lib.hid TR3.out.b; have TI3 := Lib.hid (Ti.app (w := w3) ⟨LT2.out, fun ⟨_, e, e2⟩ => by injection e with e; subst e; have := LN.out; dsimp only at e2; omega⟩ h2); clear h1 h2
          refine hKq.out _ _ ?_ (fun hHeld => ?_)
          · (try dsimp only); exact fb_run (fb_below X3.out BB3.out)
          clear hKq Kq
          try simp only [Act.put, List.setIfInBounds_toArray, List.set_cons_zero, List.set_cons_succ]
          refine wpAnyH_ready (rs := [9]) (by kernel_rfl) (by simp) ?_
          refine AllReadyH.cons (o := ⟨_, _, _, _, _, _⟩) rfl (fun Kq hKq => ?_) (AllReadyH.nil)
          clear hHeld
          refine step_append_frames rfl (.tmp 24) (.tmp 26) rfl v3 rfl rfl HN6.out rfl TR3.out.row TI3.out.rcs (by simp; omega) ?_; intro A4 c4 v4 N4 hN h1 h2; have HN9 := Lib.hid hN; clear hN; have TR4 := Lib.hid (TR3.out.app h1 h2); have BB4 := Lib.hid TR4.out.b; clear h1 h2
          refine hKq.out _ _ ?_ (fun hHeld => ?_)
          · (try dsimp only); exact fb_run (fb_below X3.out BB4.out)
          clear hKq Kq
          try simp only [Act.put, List.setIfInBounds_toArray, List.set_cons_zero, List.set_cons_succ]
          (refine wpAnyH_take (i := 10) (oi := ⟨_, _, _, _, _, _⟩) (v := ?_) rfl (by kernel_rfl) (by kernel_rfl) (by kernel_rfl) (fun _ _ _ h => h) (Or.inl ⟨by rfl, ?_⟩) (by assumption) ?_; rotate_left 1; · (intro w hSw; (try dsimp only at hSw); go_simp; all_goals with_reducible rfl))
          try simp only [Act.put, List.setIfInBounds_toArray, List.set_cons_zero, List.set_cons_succ]
          (refine wpAnyH_take (i := 11) (oi := ⟨_, _, _, _, _, _⟩) (v := ?_) rfl (by kernel_rfl) (by kernel_rfl) (by kernel_rfl) (fun _ _ _ h => h) (Or.inl ⟨by rfl, ?_⟩) (by assumption) ?_; rotate_left 1; · (intro w hSw; (try dsimp only at hSw); go_simp; all_goals with_reducible rfl))
          try simp only [Act.put, List.setIfInBounds_toArray, List.set_cons_zero, List.set_cons_succ]
          refine wpAnyH_ready (rs := [12]) (by kernel_rfl) (by simp) ?_
          refine AllReadyH.cons (o := ⟨_, _, _, _, _, _⟩) rfl (fun Kq hKq => ?_) (AllReadyH.nil)
          obtain ⟨c9, f9⟩ := (H3.out.step BB4.out).at1
          go_simp
          clear hHeld
          clear c9 f9; have HD := Lib.hid (RD.make H3.out B3.out Z3.out XL.out TR4.out HN9.out); have X5 := Lib.hid (fb_past (fb_below X3.out BB4.out) (show W.heap.size ≠ x by have := XL.out; omega) 1 (.slice A4 N4 c4))
          refine hKq.out _ _ ?_ (fun hHeld => ?_)
          · (try dsimp only); exact fb_run X5.out
          clear hKq Kq
          try simp only [Act.put, List.setIfInBounds_toArray, List.set_cons_zero, List.set_cons_succ]
          refine wpAnyH_done (by kernel_rfl) ?_ _
          go_wp2_with fail
          go_meet
          exact ⟨rfl, HD⟩
      · clear hHeld
        refine step_build1 rfl (.tmp 25) rfl (w3.drew) q rfl ?_; have hq2 : Below (w3.drew).heap.size (w3.drew) ((w3.drew).alloc (.cells (fc q) 32)) := below_one (w3.drew) (.cells (fc q) 32); have BB1 := Lib.hid (below_after (wb_drew (Below.refl _ w3)) hq2 (Nat.le_refl _)); have LT1 := Lib.hid (show FB ((w3.drew).alloc (.cells (fc q) 32)) (w3.drew).heap.size q from fb_new (w3.drew) q); generalize (w3.drew).alloc (.cells (fc q) 32) = v1 at *; generalize (w3.drew).heap.size = bl at *; clear hq2
        refine hKq.out _ _ ?_ (fun hHeld => ?_)
        · (try dsimp only); exact fb_run (fb_below X3.out BB1.out)
        clear hKq Kq
        try simp only [Act.put, List.setIfInBounds_toArray, List.set_cons_zero, List.set_cons_succ]
        refine wpAnyH_ready (rs := [1, 5]) (by kernel_rfl) (by simp) ?_
        refine AllReadyH.cons (o := ⟨_, _, _, _, _, _⟩) rfl (fun Kq hKq => ?_) (AllReadyH.cons (o := ⟨_, _, _, _, _, _⟩) rfl (fun Kq hKq => ?_) (AllReadyH.nil))
        · clear hHeld
          refine step_build0 rfl rfl (v1) ?_; have hq2 : Below (v1).heap.size (v1) ((v1).alloc (.cells #[] 32)) := below_one (v1) _; have BB2 := Lib.hid (below_after BB1.out hq2 (Nat.le_refl _)); have LZ2 := Lib.hid (heap_alloc_new (v1) (.cells #[] 32)); have LG := Lib.hid (BB1.out.size); have LT2 := Lib.hid (fb_below LT1.out hq2); have LN := Lib.hid (show bl < (v1).heap.size from fb_lt LT1.out); generalize (v1).alloc (.cells #[] 32) = v2 at *; generalize (v1).heap.size = g0 at *; clear hq2
          refine hKq.out _ _ ?_ (fun hHeld => ?_)
          · (try dsimp only); exact fb_run (fb_below X3.out BB2.out)
          clear hKq Kq
          try simp only [Act.put, List.setIfInBounds_toArray, List.set_cons_zero, List.set_cons_succ]
          refine wpAnyH_ready (rs := [5]) (by kernel_rfl) (by simp) ?_
          refine AllReadyH.cons (o := ⟨_, _, _, _, _, _⟩) rfl (fun Kq hKq => ?_) (AllReadyH.nil)
          obtain ⟨c9, f9⟩ := (H3.out.step BB2.out).at1
          go_simp
          clear hHeld
          clear c9 f9
          refine hKq.out _ _ ?_ (fun hHeld => ?_)
          · (try dsimp only); exact fb_run (fb_below X3.out BB2.out)
          clear hKq Kq
          try simp only [Act.put, List.setIfInBounds_toArray, List.set_cons_zero, List.set_cons_succ]
          refine wpAnyH_ready (rs := [6]) (by kernel_rfl) (by simp) ?_
          refine AllReadyH.cons (o := ⟨_, _, _, _, _, _⟩) rfl (fun Kq hKq => ?_) (AllReadyH.nil)
          clear hHeld
          refine step_append_first rfl (.tmp 19) (.tmp 23) rfl v2 rfl rfl LZ2.out (HRC.out.below BB2.out) (by omega) ?_; intro A3 c3 v3 N3 hN h1 h2; have HN6 := Lib.hid hN; clear hN; have TR3 := Lib.hid ((tr_start BB2.out LZ2.out LG.out).app (xs := qs) h1 h2); have BB3 := Lib.hid TR3.out.b; have TI3 := Lib.hid (Ti.app (w := w3) ⟨LT2.out, fun ⟨_, e, e2⟩ => by injection e with e; subst e; have := LN.out; dsimp only at e2; omega⟩ h2); clear h1 h2
          refine hKq.out _ _ ?_ (fun hHeld => ?_)
          · (try dsimp only); exact fb_run (fb_below X3.out BB3.out)
          clear hKq Kq
          try simp only [Act.put, List.setIfInBounds_toArray, List.set_cons_zero, List.set_cons_succ]
          refine wpAnyH_ready (rs := [9]) (by kernel_rfl) (by simp) ?_
          refine AllReadyH.cons (o := ⟨_, _, _, _, _, _⟩) rfl (fun Kq hKq => ?_) (AllReadyH.nil)
          clear hHeld
          refine step_append_frames rfl (.tmp 24) (.tmp 26) rfl v3 rfl rfl HN6.out rfl TR3.out.row TI3.out.rcs (by simp; omega) ?_; intro A4 c4 v4 N4 hN h1 h2; have HN9 := Lib.hid hN; clear hN; have TR4 := Lib.hid (TR3.out.app h1 h2); have BB4 := Lib.hid TR4.out.b; clear h1 h2
          refine hKq.out _ _ ?_ (fun hHeld => ?_)
          · (try dsimp only); exact fb_run (fb_below X3.out BB4.out)
          clear hKq Kq
          try simp only [Act.put, List.setIfInBounds_toArray, List.set_cons_zero, List.set_cons_succ]
          (refine wpAnyH_take (i := 10) (oi := ⟨_, _, _, _, _, _⟩) (v := ?_) rfl (by kernel_rfl) (by kernel_rfl) (by kernel_rfl) (fun _ _ _ h => h) (Or.inl ⟨by rfl, ?_⟩) (by assumption) ?_; rotate_left 1; · (intro w hSw; (try dsimp only at hSw); go_simp; all_goals with_reducible rfl))
          try simp only [Act.put, List.setIfInBounds_toArray, List.set_cons_zero, List.set_cons_succ]
          (refine wpAnyH_take (i := 11) (oi := ⟨_, _, _, _, _, _⟩) (v := ?_) rfl (by kernel_rfl) (by kernel_rfl) (by kernel_rfl) (fun _ _ _ h => h) (Or.inl ⟨by rfl, ?_⟩) (by assumption) ?_; rotate_left 1; · (intro w hSw; (try dsimp only at hSw); go_simp; all_goals with_reducible rfl))
          try simp only [Act.put, List.setIfInBounds_toArray, List.set_cons_zero, List.set_cons_succ]
          refine wpAnyH_ready (rs := [12]) (by kernel_rfl) (by simp) ?_
          refine AllReadyH.cons (o := ⟨_, _, _, _, _, _⟩) rfl (fun Kq hKq => ?_) (AllReadyH.nil)
          obtain ⟨c9, f9⟩ := (H3.out.step BB4.out).at1
          go_simp
          clear hHeld
          clear c9 f9; have HD := Lib.hid (RD.make H3.out B3.out Z3.out XL.out TR4.out HN9.out); have X5 := Lib.hid (fb_past (fb_below X3.out BB4.out) (show W.heap.size ≠ x by have := XL.out; omega) 1 (.slice A4 N4 c4))
          refine hKq.out _ _ ?_ (fun hHeld => ?_)
          · (try dsimp only); exact fb_run X5.out
          clear hKq Kq
          try simp only [Act.put, List.setIfInBounds_toArray, List.set_cons_zero, List.set_cons_succ]
          refine wpAnyH_done (by kernel_rfl) ?_ _
          go_wp2_with fail
          go_meet
          exact ⟨rfl, HD⟩
        · obtain ⟨c9, f9⟩ := (H3.out.step BB1.out).at1
          go_simp
          clear hHeld
          clear c9 f9
          refine hKq.out _ _ ?_ (fun hHeld => ?_)
          · (try dsimp only); exact fb_run (fb_below X3.out BB1.out)
          clear hKq Kq
          try simp only [Act.put, List.setIfInBounds_toArray, List.set_cons_zero, List.set_cons_succ]
          refine wpAnyH_ready (rs := [1]) (by kernel_rfl) (by simp) ?_
          refine AllReadyH.cons (o := ⟨_, _, _, _, _, _⟩) rfl (fun Kq hKq => ?_) (AllReadyH.nil)
          clear hHeld
          refine step_build0 rfl rfl (v1) ?_; have hq2 : Below (v1).heap.size (v1) ((v1).alloc (.cells #[] 32)) := below_one (v1) _; have BB2 := Lib.hid (below_after BB1.out hq2 (Nat.le_refl _)); have LZ2 := Lib.hid (heap_alloc_new (v1) (.cells #[] 32)); have LG := Lib.hid (BB1.out.size); have LT2 := Lib.hid (fb_below LT1.out hq2); have LN := Lib.hid (show bl < (v1).heap.size from fb_lt LT1.out); generalize (v1).alloc (.cells #[] 32) = v2 at *; generalize (v1).heap.size = g0 at *; clear hq2
          refine hKq.out _ _ ?_ (fun hHeld => ?_)
          · (try dsimp only); exact fb_run (fb_below X3.out BB2.out)
          clear hKq Kq
          try simp only [Act.put, List.setIfInBounds_toArray, List.set_cons_zero, List.set_cons_succ]
          refine wpAnyH_ready (rs := [6]) (by kernel_rfl) (by simp) ?_
          refine AllReadyH.cons (o := ⟨_, _, _, _, _, _⟩) rfl (fun Kq hKq => ?_) (AllReadyH.nil)
          clear hHeld
          refine step_append_first rfl (.tmp 19) (.tmp 23) rfl v2 rfl rfl LZ2.out (HRC.out.below BB2.out) (by omega) ?_; intro A3 c3 v3 N3 hN h1 h2; have HN6 := Lib.hid hN; clear hN; have TR3 := Lib.hid ((tr_start BB2.out LZ2.out LG.out).app (xs := qs) h1 h2); have BB3 := Lib.hid TR3.out.b; have TI3 := Lib.hid (Ti.app (w := w3) ⟨LT2.out, fun ⟨_, e, e2⟩ => by injection e with e; subst e; have := LN.out; dsimp only at e2; omega⟩ h2); clear h1 h2
          refine hKq.out _ _ ?_ (fun hHeld => ?_)
          · (try dsimp only); exact fb_run (fb_below X3.out BB3.out)
          clear hKq Kq
          try simp only [Act.put, List.setIfInBounds_toArray, List.set_cons_zero, List.set_cons_succ]
          refine wpAnyH_ready (rs := [9]) (by kernel_rfl) (by simp) ?_
          refine AllReadyH.cons (o := ⟨_, _, _, _, _, _⟩) rfl (fun Kq hKq => ?_) (AllReadyH.nil)
          clear hHeld
          refine step_append_frames rfl (.tmp 24) (.tmp 26) rfl v3 rfl rfl HN6.out rfl TR3.out.row TI3.out.rcs (by simp; omega) ?_; intro A4 c4 v4 N4 hN h1 h2; have HN9 := Lib.hid hN; clear hN; have TR4 := Lib.hid (TR3.out.app h1 h2); have BB4 := Lib.hid TR4.out.b; clear h1 h2
          refine hKq.out _ _ ?_ (fun hHeld => ?_)
          · (try dsimp only); exact fb_run (fb_below X3.out BB4.out)
          clear hKq Kq
          try simp only [Act.put, List.setIfInBounds_toArray, List.set_cons_zero, List.set_cons_succ]
          (refine wpAnyH_take (i := 10) (oi := ⟨_, _, _, _, _, _⟩) (v := ?_) rfl (by kernel_rfl) (by kernel_rfl) (by kernel_rfl) (fun _ _ _ h => h) (Or.inl ⟨by rfl, ?_⟩) (by assumption) ?_; rotate_left 1; · (intro w hSw; (try dsimp only at hSw); go_simp; all_goals with_reducible rfl))
          try simp only [Act.put, List.setIfInBounds_toArray, List.set_cons_zero, List.set_cons_succ]
          (refine wpAnyH_take (i := 11) (oi := ⟨_, _, _, _, _, _⟩) (v := ?_) rfl (by kernel_rfl) (by kernel_rfl) (by kernel_rfl) (fun _ _ _ h => h) (Or.inl ⟨by rfl, ?_⟩) (by assumption) ?_; rotate_left 1; · (intro w hSw; (try dsimp only at hSw); go_simp; all_goals with_reducible rfl))
          try simp only [Act.put, List.setIfInBounds_toArray, List.set_cons_zero, List.set_cons_succ]
          refine wpAnyH_ready (rs := [12]) (by kernel_rfl) (by simp) ?_
          refine AllReadyH.cons (o := ⟨_, _, _, _, _, _⟩) rfl (fun Kq hKq => ?_) (AllReadyH.nil)
          obtain ⟨c9, f9⟩ := (H3.out.step BB4.out).at1
          go_simp
          clear hHeld
          clear c9 f9; have HD := Lib.hid (RD.make H3.out B3.out Z3.out XL.out TR4.out HN9.out); have X5 := Lib.hid (fb_past (fb_below X3.out BB4.out) (show W.heap.size ≠ x by have := XL.out; omega) 1 (.slice A4 N4 c4))
          refine hKq.out _ _ ?_ (fun hHeld => ?_)
          · (try dsimp only); exact fb_run X5.out
          clear hKq Kq
          try simp only [Act.put, List.setIfInBounds_toArray, List.set_cons_zero, List.set_cons_succ]
          refine wpAnyH_done (by kernel_rfl) ?_ _
          go_wp2_with fail
          go_meet
          exact ⟨rfl, HD⟩
    case rest =>
      obtain ⟨rfl, HD⟩ := hcut
      rename World => wd
      have HZ := Lib.hid HD.out.z
      have SZ := Lib.hid (size32 q0)
      go_wp2_with (refine wpList_store_row rfl 32 (.tmp 4) (.tmp 30) rfl (W.heap.size + 1) (fc q0) rfl rfl 32 _ HZ.out SZ.out rfl (fc_one q0) ?_)
      refine bodyPost_ret (results_two Try.results22 _ _ (W.heap.size + 1) rfl (setRow_set HZ.out) Try.underlying32 rfl (size32 q0) rfl) rfl ?_
      obtain ⟨A', c', h1, h2⟩ := HD.out.rb
      rw [hP]
      exact ⟨rfl, ⟨A', c', ⟨(setRow_other _ _ _ _ (by have := XL.out; omega)).trans h1.cells, h1.row.on fun k hk => setRow_other _ _ _ _ (by have := h2 k hk; omega)⟩, .inr fun k hk => by have := h2 k hk; omega⟩,
        ⟨HD.out.o.os, HD.out.o.tape, HD.out.o.output, by simpa using HD.out.o.size, fun k hk hn => (setRow_other _ _ _ _ (by omega)).trans (HD.out.o.block k hk hn)⟩⟩
  case neg =>
    have hd : decide ((qs.length : Int) < mx) = false := by simp; omega
    go_upto_region 4 with (fail)
    generalize ((W.alloc (.cells (fc q) 32)).alloc (.cells #[.int .u8 0, .int .i64 0, .int .i64 0, .int .i64 0, .int .i64 0, .int .i64 0, .int .i64 0, .int .i64 0, .int .i64 0, .slice none 0 0, .slice none 0 0, .slice none 0 0, .slice none 0 0, .slice none 0 0] 32)).drewN nq = w3 at *
    go_wp2_with fail
    go_loopw [6] (fun s6 wr => ∃ k : Nat, k ≤ qs.length ∧ s6 = .int .i64 k ∧ Hid (∀ (j : Nat) (h : j < qs.length), j < k → kn qs[j].F = false) ∧ Hid (Below w3.heap.size w3 wr)) (fun s6 _ => qs.length - (intOf s6).toNat)
    case atStart => exact ⟨0, by omega, rfl, Lib.hid (fun j _ h => absurd h (by omega)), Lib.hid (Below.refl _ _)⟩
    case round =>
      obtain ⟨k, hkl, rfl, HK, HW⟩ := hrel
      rename World => wr
      have i3 : (0 : Int) ≤ (k : Int) := by omega
      have H4 := Lib.hid (H3.out.step HW.out)
      obtain ⟨p1, -⟩ := H4.out.at1
      by_cases hlt2 : k < qs.length
      case neg =>
        obtain rfl : k = qs.length := by omega
        have hd2 : decide ((qs.length : Int) < (qs.length : Int)) = false := by simp
        have hfi : fi (qs.map (·.F)) = (qs.map (·.F)).length := fi_none fun j hj => by
          rw [List.getElem_map]
          exact HK.out j (by simpa using hj) (by simpa using hj)
        have hP : putQ mx qs q = (qs, q, true) := by
          unfold putQ
          rw [if_neg (by omega), dif_neg (by rw [hfi]; simp)]
        have X4 := Lib.hid (fb_below X3.out HW.out)
        have Z4 := Lib.hid (fb_below Z3.out HW.out)
        have B4 := Lib.hid (below_after B3.out HW.out (Nat.le_refl _))
        have SQ := Lib.hid (size32 q)
        have HRL := Lib.hid H0L.out
        clear hfi
        go_wp2_with first
          | (refine wpList_load_row rfl 32 (.tmp 3) rfl W.heap.size rfl 32 (fc q) (0, 0) _ X4.out Try.underlying32 rfl SQ.out ?_)
          | (refine wpList_store_row rfl 32 (.tmp 4) (.tmp 68) rfl (W.heap.size + 1) (fc q) rfl rfl 32 _ Z4.out SQ.out rfl (fc_one q) ?_)
        refine bodyPost_ret (results_two Try.results22 _ _ (W.heap.size + 1) rfl (setRow_set Z4.out) Try.underlying32 rfl (size32 q) rfl) rfl ?_
        rw [hP]
        exact ⟨rfl, ⟨A, c, ⟨(setRow_other _ _ _ _ (by have := XL.out; omega)).trans H4.out.cells, H4.out.row.on fun k hk => setRow_other _ _ _ _ (by have := HRL.out k hk; omega)⟩, .inl rfl⟩,
          Only.of (below_setRow B4.out (show W.heap.size ≤ W.heap.size + 1 by omega) _)⟩
      case pos =>
        have hd2 : decide ((k : Int) < (qs.length : Int)) = true := by simp; omega
        have i4 : (k : Int) < (qs.length : Int) := by omega
        obtain ⟨g, o, rfl⟩ : ∃ g o, A = some ⟨g, o, none⟩ := by
          rcases H3.out.row with ⟨_, _, h⟩ | ⟨g, o, _, h, _⟩
          · rw [h] at hlt2; exact absurd hlt2 (by simp)
          · exact ⟨g, o, h⟩
        have HC := Lib.hid (show ∀ j v, (fc qs[k])[j]? = some v → wr.cell? ((⟨g, o + k * 14, none⟩ : Addr).add j) = some v from fun j v hj => by
          have h9 := rcs_frame H3.out.row.rcs HW.out hlt2 j v hj
          rwa [Addr.add_mid] at h9)
        have SK := Lib.hid (size32 qs[k])
        obtain ⟨bk, hbk⟩ : ∃ b, kn qs[k].F = b := ⟨_, rfl⟩
        go_wp2_with (refine wpList_load_recs rfl 32 (.tmp 45) rfl ⟨g, o + k * 14, none⟩ rfl (fc qs[k]) _ HC.out Try.underlying32 rfl SK.out ?_)
        (with_reducible refine (known_any qs[k] _).mono ?_)
        rintro e5 w5 ⟨rfl, hb⟩
        have HW5 := Lib.hid (below_after HW.out hb (Nat.le_refl _))
        clear hb HC HW p1 H4
        rw [hbk]
        cases bk
        case false =>
          have HK5 := Lib.hid (show ∀ (j : Nat) (h : j < qs.length), j < k + 1 → kn qs[j].F = false from fun j h hj => by
            rcases Nat.lt_succ_iff_lt_or_eq.1 hj with e | e
            · exact HK.out j h e
            · subst e; exact hbk)
          clear hbk HK
          go_wp2_with fail
          go_roundw
          case rel => exact ⟨k + 1, by omega, by go_num, HK5, HW5⟩
          case measure => simp [intOf]; omega
        case true =>
          have hfi : fi (qs.map (·.F)) = k := fi_hit (by simpa using hlt2) (by rw [List.getElem_map]; exact hbk) fun j hj => by
            rw [List.getElem_map]
            exact HK.out j (by omega) hj
          have hP : putQ mx qs q = (qs.take k ++ qs.drop (k + 1) ++ [q], qs[k], true) := by
            unfold putQ
            rw [if_neg (by omega), dif_pos (by rw [hfi]; exact hlt2)]
            simp only [hfi]
          clear hfi hbk HK
          have HC5 := Lib.hid (show ∀ j v, (fc qs[k])[j]? = some v → w5.cell? ((⟨g, o + k * 14, none⟩ : Addr).add j) = some v from fun j v hj => by
            have h9 := rcs_frame H3.out.row.rcs HW5.out hlt2 j v hj
            rwa [Addr.add_mid] at h9)
          have H5 := Lib.hid (H3.out.step HW5.out)
          have ZZ := Lib.hid (heap_alloc_new w5 (.cells #[.int .u8 0, .int .i64 0, .int .i64 0, .int .i64 0, .int .i64 0, .int .i64 0, .int .i64 0, .int .i64 0, .int .i64 0, .slice none 0 0, .slice none 0 0, .slice none 0 0, .slice none 0 0, .slice none 0 0] 32))
          have B6 := Lib.hid (show Below w5.heap.size w5 ((w5.alloc (.cells #[.int .u8 0, .int .i64 0, .int .i64 0, .int .i64 0, .int .i64 0, .int .i64 0, .int .i64 0, .int .i64 0, .int .i64 0, .slice none 0 0, .slice none 0 0, .slice none 0 0, .slice none 0 0, .slice none 0 0] 32)).setRow w5.heap.size (fc qs[k])) from below_setRow (below_one w5 _) (Nat.le_refl _) _)
          have X7 := Lib.hid (show FB ((w5.alloc (.cells #[.int .u8 0, .int .i64 0, .int .i64 0, .int .i64 0, .int .i64 0, .int .i64 0, .int .i64 0, .int .i64 0, .int .i64 0, .slice none 0 0, .slice none 0 0, .slice none 0 0, .slice none 0 0, .slice none 0 0] 32)).setRow w5.heap.size (fc qs[k])) w5.heap.size qs[k] from setRow_set ZZ.out)
          have XW5 := Lib.hid (show x < w5.heap.size from row_lt H5.out.cells)
          obtain ⟨p1, -⟩ := H5.out.at1
          go_upto_region 9 with first
            | (refine wpList_load_recs rfl 32 (.tmp 53) rfl ⟨g, o + k * 14, none⟩ rfl (fc qs[k]) _ HC5.out Try.underlying32 rfl SK.out ?_)
            | (refine wpList_store_row rfl 32 (.tmp 7) (.tmp 54) rfl w5.heap.size (fc qs[k]) rfl rfl 32 _ ZZ.out SK.out rfl (fc_one _) ?_)
          clear ZZ p1 HC5
          generalize (w5.alloc (.cells #[.int .u8 0, .int .i64 0, .int .i64 0, .int .i64 0, .int .i64 0, .int .i64 0, .int .i64 0, .int .i64 0, .int .i64 0, .slice none 0 0, .slice none 0 0, .slice none 0 0, .slice none 0 0, .slice none 0 0] 32)).setRow w5.heap.size (fc qs[k]) = w6 at *
          obtain ⟨b7, hb7⟩ : ∃ b, b = w5.heap.size := ⟨_, rfl⟩
          rw [← hb7] at X7 XW5
          rw [← hb7]
          clear hb7
          have H6 := Lib.hid (H5.out.step B6.out)
          have BW6 := Lib.hid (below_after HW5.out B6.out (Nat.le_refl _))
          have X6 := Lib.hid (fb_below X3.out BW6.out)
          have Z6 := Lib.hid (fb_below Z3.out BW6.out)
          have BB0 := Lib.hid (below_after B3.out BW6.out (Nat.le_refl _))
          have HWO := Lib.hid (fun W' (hW : Below w6.heap.size w6 W') => without_any g o qs.length c k qs W' (H6.out.row.rcs.below hW) hlt2 (by omega))
          clear H5 B6 BW6 HW5 H3 X3 Z3 B3
          simp only [Act.put]
          go_cut [0, 7] (fun s0 s7 wx => s0 = .pointer (some ⟨x, 0, none⟩) ∧ s7 = .pointer (some ⟨b7, 0, none⟩) ∧ Hid (RD W x mx (qs.take k ++ qs.drop (k + 1) ++ [q]) wx) ∧ Hid (FB wx b7 qs[k]))
          case first =>
            refine wp_region_held_drew (S := fun W' => (Instr.loadAt 32 (.pointer (some (⟨W.heap.size, 0, none⟩ : Addr)))).run Try.prog W' = .ok (.agg (fc q)) W') (by kernel_rfl) ?_ (fun hHeld => ?_)
            · exact fb_run (fb_below X6.out (wb_drew (Below.refl _ w6)))
            (refine wpAnyH_take (i := 0) (oi := ⟨_, _, _, _, _, _⟩) (v := ?_) rfl (by kernel_rfl) (by kernel_rfl) (by kernel_rfl) (fun _ _ _ h => h) (Or.inl ⟨by rfl, ?_⟩) (by assumption) ?_; rotate_left 1; · (intro w hSw; (try dsimp only at hSw); go_simp; all_goals with_reducible rfl))
            try simp only [Act.put, List.setIfInBounds_toArray, List.set_cons_zero, List.set_cons_succ]
            (refine wpAnyH_take (i := 1) (oi := ⟨_, _, _, _, _, _⟩) (v := ?_) rfl (by kernel_rfl) (by kernel_rfl) (by kernel_rfl) (fun _ _ _ h => h) (Or.inl ⟨by rfl, ?_⟩) (by assumption) ?_; rotate_left 1; · (intro w hSw; (try dsimp only at hSw); go_simp; all_goals with_reducible rfl))
            try simp only [Act.put, List.setIfInBounds_toArray, List.set_cons_zero, List.set_cons_succ]
            (refine wpAnyH_take (i := 2) (oi := ⟨_, _, _, _, _, _⟩) (v := ?_) rfl (by kernel_rfl) (by kernel_rfl) (by kernel_rfl) (fun _ _ _ h => h) (Or.inl ⟨by rfl, ?_⟩) (by assumption) ?_; rotate_left 1; · (intro w hSw; (try dsimp only at hSw); go_simp; all_goals with_reducible rfl))
            try simp only [Act.put, List.setIfInBounds_toArray, List.set_cons_zero, List.set_cons_succ]
            (refine wpAnyH_take (i := 3) (oi := ⟨_, _, _, _, _, _⟩) (v := ?_) rfl (by kernel_rfl) (by kernel_rfl) (by kernel_rfl) (fun _ _ _ h => h) (Or.inl ⟨by rfl, ?_⟩) (by assumption) ?_; rotate_left 1; · (intro w hSw; (try dsimp only at hSw); go_simp; all_goals with_reducible rfl))
            try simp only [Act.put, List.setIfInBounds_toArray, List.set_cons_zero, List.set_cons_succ]
            (refine wpAnyH_take (i := 5) (oi := ⟨_, _, _, _, _, _⟩) (v := ?_) rfl (by kernel_rfl) (by kernel_rfl) (by kernel_rfl) (fun _ _ _ h => h) (Or.inl ⟨by rfl, ?_⟩) (by assumption) ?_; rotate_left 1; · (intro w hSw; (try dsimp only at hSw); go_simp; all_goals with_reducible rfl))
            try simp only [Act.put, List.setIfInBounds_toArray, List.set_cons_zero, List.set_cons_succ]
            refine wpAnyH_take (i := 7) (oi := ⟨_, _, _, _, _, _⟩) (v := .agg (fc q)) rfl (by kernel_rfl) (by kernel_rfl) (by kernel_rfl) (fun _ _ _ h => h) (yieldsIf_loadAt rfl 32 (.tmp 3) rfl (.pointer (some (⟨W.heap.size, 0, none⟩ : Addr))) rfl (fun _ h => h)) (by assumption) ?_
            try simp only [Act.put, List.setIfInBounds_toArray, List.set_cons_zero, List.set_cons_succ]
            refine wpAnyH_ready (rs := [4, 8]) (by kernel_rfl) (by simp) ?_
            refine AllReadyH.cons (o := ⟨_, _, _, _, _, _⟩) rfl (fun Kq hKq => ?_) (AllReadyH.cons (o := ⟨_, _, _, _, _, _⟩) rfl (fun Kq hKq => ?_) (AllReadyH.nil))
            · obtain ⟨c9, f9⟩ := (H6.out.step (wb_drew (Below.refl _ w6))).at1
              go_simp
              clear hHeld
              clear c9 f9
              refine hKq.out _ _ ?_ (fun hHeld => ?_)
              · (try dsimp only); exact fb_run (fb_below X6.out (wb_drew (Below.refl _ w6)))
              clear hKq Kq
              try simp only [Act.put, List.setIfInBounds_toArray, List.set_cons_zero, List.set_cons_succ]
              refine wpAnyH_ready (rs := [6, 8]) (by kernel_rfl) (by simp) ?_
              refine AllReadyH.cons (o := ⟨_, _, _, _, _, _⟩) rfl (fun Kq hKq => ?_) (AllReadyH.cons (o := ⟨_, _, _, _, _, _⟩) rfl (fun Kq hKq => ?_) (AllReadyH.nil))
              · go_simp
                clear hHeld
                (go_at_call 34; (with_reducible refine (HWO.out (w6.drew) (wb_drew (Below.refl _ w6))).mono ?_); rintro e7 v1 ⟨v', rfl, ho, hb⟩; obtain ⟨A1, c1, rfl, -, hrow, hbase⟩ := row14_own ho; have TR1 := Lib.hid (show Tr w6 v1 A1 c1 (qs.take k ++ qs.drop (k + 1)) from ⟨hrow, fun k hk => Nat.le_trans ((wb_drew (Below.refl _ w6))).size (hbase k hk), below_after (wb_drew (Below.refl _ w6)) hb (Nat.le_refl _)⟩); have BB1 := Lib.hid TR1.out.b; clear ho hb hrow hbase)
                refine hKq.out _ _ ?_ (fun hHeld => ?_)
                · (try dsimp only); exact fb_run (fb_below X6.out BB1.out)
                clear hKq Kq
                try simp only [Act.put, List.setIfInBounds_toArray, List.set_cons_zero, List.set_cons_succ]
                refine wpAnyH_ready (rs := [8]) (by kernel_rfl) (by simp) ?_
                refine AllReadyH.cons (o := ⟨_, _, _, _, _, _⟩) rfl (fun Kq hKq => ?_) (AllReadyH.nil)
                clear hHeld
                refine step_build1 rfl (.tmp 62) rfl (v1) q rfl ?_; have hq2 : Below (v1).heap.size (v1) ((v1).alloc (.cells (fc q) 32)) := below_one (v1) (.cells (fc q) 32); have BB2 := Lib.hid (below_after BB1.out hq2 (Nat.le_refl _)); have TR2 := Lib.hid (TR1.out.step hq2); have TI2 := Lib.hid (ti_new (s := q) TR1.out); generalize (v1).alloc (.cells (fc q) 32) = v2 at *; generalize (v1).heap.size = bl at *; clear hq2
                refine hKq.out _ _ ?_ (fun hHeld => ?_)
                · (try dsimp only); exact fb_run (fb_below X6.out BB2.out)
                clear hKq Kq
                try simp only [Act.put, List.setIfInBounds_toArray, List.set_cons_zero, List.set_cons_succ]
                refine wpAnyH_ready (rs := [9]) (by kernel_rfl) (by simp) ?_
                refine AllReadyH.cons (o := ⟨_, _, _, _, _, _⟩) rfl (fun Kq hKq => ?_) (AllReadyH.nil)
                clear hHeld
                refine step_append_frames rfl (.tmp 61) (.tmp 63) rfl v2 rfl rfl rfl rfl TR2.out.row TI2.out.rcs (by simp; omega) ?_; intro A3 c3 v3 N3 hN h1 h2; have HN9 := Lib.hid hN; clear hN; have TR3 := Lib.hid (TR2.out.app h1 h2); have BB3 := Lib.hid TR3.out.b; clear h1 h2
                refine hKq.out _ _ ?_ (fun hHeld => ?_)
                · (try dsimp only); exact fb_run (fb_below X6.out BB3.out)
                clear hKq Kq
                try simp only [Act.put, List.setIfInBounds_toArray, List.set_cons_zero, List.set_cons_succ]
                (refine wpAnyH_take (i := 10) (oi := ⟨_, _, _, _, _, _⟩) (v := ?_) rfl (by kernel_rfl) (by kernel_rfl) (by kernel_rfl) (fun _ _ _ h => h) (Or.inl ⟨by rfl, ?_⟩) (by assumption) ?_; rotate_left 1; · (intro w hSw; (try dsimp only at hSw); go_simp; all_goals with_reducible rfl))
                try simp only [Act.put, List.setIfInBounds_toArray, List.set_cons_zero, List.set_cons_succ]
                (refine wpAnyH_take (i := 11) (oi := ⟨_, _, _, _, _, _⟩) (v := ?_) rfl (by kernel_rfl) (by kernel_rfl) (by kernel_rfl) (fun _ _ _ h => h) (Or.inl ⟨by rfl, ?_⟩) (by assumption) ?_; rotate_left 1; · (intro w hSw; (try dsimp only at hSw); go_simp; all_goals with_reducible rfl))
                try simp only [Act.put, List.setIfInBounds_toArray, List.set_cons_zero, List.set_cons_succ]
                refine wpAnyH_ready (rs := [12]) (by kernel_rfl) (by simp) ?_
                refine AllReadyH.cons (o := ⟨_, _, _, _, _, _⟩) rfl (fun Kq hKq => ?_) (AllReadyH.nil)
                obtain ⟨c9, f9⟩ := (H6.out.step BB3.out).at1
                go_simp
                clear hHeld
                clear c9 f9; have HD := Lib.hid (RD.make H6.out BB0.out Z6.out XL.out TR3.out HN9.out); have X5 := Lib.hid (fb_past (fb_below X6.out BB3.out) (show W.heap.size ≠ x by have := XL.out; omega) 1 (.slice A3 N3 c3)); have Y5 := Lib.hid (fb_past (fb_below X7.out BB3.out) (show b7 ≠ x by have := XW5.out; omega) 1 (.slice A3 N3 c3))
                refine hKq.out _ _ ?_ (fun hHeld => ?_)
                · (try dsimp only); exact fb_run X5.out
                clear hKq Kq
                try simp only [Act.put, List.setIfInBounds_toArray, List.set_cons_zero, List.set_cons_succ]
                refine wpAnyH_done (by kernel_rfl) ?_ _
                go_wp2_with fail
                go_meet
                exact ⟨rfl, rfl, HD, Y5⟩
              · clear hHeld
                refine step_build1 rfl (.tmp 62) rfl (w6.drew) q rfl ?_; have hq2 : Below (w6.drew).heap.size (w6.drew) ((w6.drew).alloc (.cells (fc q) 32)) := below_one (w6.drew) (.cells (fc q) 32); have BB1 := Lib.hid (below_after (wb_drew (Below.refl _ w6)) hq2 (Nat.le_refl _)); have LT1 := Lib.hid (show FB ((w6.drew).alloc (.cells (fc q) 32)) (w6.drew).heap.size q from fb_new (w6.drew) q); generalize (w6.drew).alloc (.cells (fc q) 32) = v1 at *; generalize (w6.drew).heap.size = bl at *; clear hq2
                refine hKq.out _ _ ?_ (fun hHeld => ?_)
                · (try dsimp only); exact fb_run (fb_below X6.out BB1.out)
                clear hKq Kq
                try simp only [Act.put, List.setIfInBounds_toArray, List.set_cons_zero, List.set_cons_succ]
                refine wpAnyH_ready (rs := [6]) (by kernel_rfl) (by simp) ?_
                refine AllReadyH.cons (o := ⟨_, _, _, _, _, _⟩) rfl (fun Kq hKq => ?_) (AllReadyH.nil)
                go_simp
                clear hHeld
                (go_at_call 34; (with_reducible refine (HWO.out (v1) BB1.out).mono ?_); rintro e7 v2 ⟨v', rfl, ho, hb⟩; obtain ⟨A2, c2, rfl, -, hrow, hbase⟩ := row14_own ho; have TR2 := Lib.hid (show Tr w6 v2 A2 c2 (qs.take k ++ qs.drop (k + 1)) from ⟨hrow, fun k hk => Nat.le_trans (BB1.out).size (hbase k hk), below_after BB1.out hb (Nat.le_refl _)⟩); have BB2 := Lib.hid TR2.out.b; have TI2 := Lib.hid (show Ti w6 v2 A2 bl q from ⟨fb_below LT1.out hb, fun e => by have h5 := hbase bl e; have h6 := fb_lt LT1.out; omega⟩); clear ho hb hrow hbase)
                refine hKq.out _ _ ?_ (fun hHeld => ?_)
                · (try dsimp only); exact fb_run (fb_below X6.out BB2.out)
                clear hKq Kq
                try simp only [Act.put, List.setIfInBounds_toArray, List.set_cons_zero, List.set_cons_succ]
                refine wpAnyH_ready (rs := [9]) (by kernel_rfl) (by simp) ?_
                refine AllReadyH.cons (o := ⟨_, _, _, _, _, _⟩) rfl (fun Kq hKq => ?_) (AllReadyH.nil)
                clear hHeld
                refine step_append_frames rfl (.tmp 61) (.tmp 63) rfl v2 rfl rfl rfl rfl TR2.out.row TI2.out.rcs (by simp; omega) ?_; intro A3 c3 v3 N3 hN h1 h2; have HN9 := Lib.hid hN; clear hN; have TR3 := Lib.hid (TR2.out.app h1 h2); have BB3 := Lib.hid TR3.out.b; clear h1 h2
                refine hKq.out _ _ ?_ (fun hHeld => ?_)
                · (try dsimp only); exact fb_run (fb_below X6.out BB3.out)
                clear hKq Kq
                try simp only [Act.put, List.setIfInBounds_toArray, List.set_cons_zero, List.set_cons_succ]
                (refine wpAnyH_take (i := 10) (oi := ⟨_, _, _, _, _, _⟩) (v := ?_) rfl (by kernel_rfl) (by kernel_rfl) (by kernel_rfl) (fun _ _ _ h => h) (Or.inl ⟨by rfl, ?_⟩) (by assumption) ?_; rotate_left 1; · (intro w hSw; (try dsimp only at hSw); go_simp; all_goals with_reducible rfl))
                try simp only [Act.put, List.setIfInBounds_toArray, List.set_cons_zero, List.set_cons_succ]
                (refine wpAnyH_take (i := 11) (oi := ⟨_, _, _, _, _, _⟩) (v := ?_) rfl (by kernel_rfl) (by kernel_rfl) (by kernel_rfl) (fun _ _ _ h => h) (Or.inl ⟨by rfl, ?_⟩) (by assumption) ?_; rotate_left 1; · (intro w hSw; (try dsimp only at hSw); go_simp; all_goals with_reducible rfl))
                try simp only [Act.put, List.setIfInBounds_toArray, List.set_cons_zero, List.set_cons_succ]
                refine wpAnyH_ready (rs := [12]) (by kernel_rfl) (by simp) ?_
                refine AllReadyH.cons (o := ⟨_, _, _, _, _, _⟩) rfl (fun Kq hKq => ?_) (AllReadyH.nil)
                obtain ⟨c9, f9⟩ := (H6.out.step BB3.out).at1
                go_simp
                clear hHeld
                clear c9 f9; have HD := Lib.hid (RD.make H6.out BB0.out Z6.out XL.out TR3.out HN9.out); have X5 := Lib.hid (fb_past (fb_below X6.out BB3.out) (show W.heap.size ≠ x by have := XL.out; omega) 1 (.slice A3 N3 c3)); have Y5 := Lib.hid (fb_past (fb_below X7.out BB3.out) (show b7 ≠ x by have := XW5.out; omega) 1 (.slice A3 N3 c3))
                refine hKq.out _ _ ?_ (fun hHeld => ?_)
                · (try dsimp only); exact fb_run X5.out
                clear hKq Kq
                try simp only [Act.put, List.setIfInBounds_toArray, List.set_cons_zero, List.set_cons_succ]
                refine wpAnyH_done (by kernel_rfl) ?_ _
                go_wp2_with fail
                go_meet
                exact ⟨rfl, rfl, HD, Y5⟩
            · clear hHeld
              refine step_build1 rfl (.tmp 62) rfl (w6.drew) q rfl ?_; have hq2 : Below (w6.drew).heap.size (w6.drew) ((w6.drew).alloc (.cells (fc q) 32)) := below_one (w6.drew) (.cells (fc q) 32); have BB1 := Lib.hid (below_after (wb_drew (Below.refl _ w6)) hq2 (Nat.le_refl _)); have LT1 := Lib.hid (show FB ((w6.drew).alloc (.cells (fc q) 32)) (w6.drew).heap.size q from fb_new (w6.drew) q); generalize (w6.drew).alloc (.cells (fc q) 32) = v1 at *; generalize (w6.drew).heap.size = bl at *; clear hq2
              refine hKq.out _ _ ?_ (fun hHeld => ?_)
              · (try dsimp only); exact fb_run (fb_below X6.out BB1.out)
              clear hKq Kq
              try simp only [Act.put, List.setIfInBounds_toArray, List.set_cons_zero, List.set_cons_succ]
              refine wpAnyH_ready (rs := [4]) (by kernel_rfl) (by simp) ?_
              refine AllReadyH.cons (o := ⟨_, _, _, _, _, _⟩) rfl (fun Kq hKq => ?_) (AllReadyH.nil)
              obtain ⟨c9, f9⟩ := (H6.out.step BB1.out).at1
              go_simp
              clear hHeld
              clear c9 f9
              refine hKq.out _ _ ?_ (fun hHeld => ?_)
              · (try dsimp only); exact fb_run (fb_below X6.out BB1.out)
              clear hKq Kq
              try simp only [Act.put, List.setIfInBounds_toArray, List.set_cons_zero, List.set_cons_succ]
              refine wpAnyH_ready (rs := [6]) (by kernel_rfl) (by simp) ?_
              refine AllReadyH.cons (o := ⟨_, _, _, _, _, _⟩) rfl (fun Kq hKq => ?_) (AllReadyH.nil)
              go_simp
              clear hHeld
              (go_at_call 34; (with_reducible refine (HWO.out (v1) BB1.out).mono ?_); rintro e7 v2 ⟨v', rfl, ho, hb⟩; obtain ⟨A2, c2, rfl, -, hrow, hbase⟩ := row14_own ho; have TR2 := Lib.hid (show Tr w6 v2 A2 c2 (qs.take k ++ qs.drop (k + 1)) from ⟨hrow, fun k hk => Nat.le_trans (BB1.out).size (hbase k hk), below_after BB1.out hb (Nat.le_refl _)⟩); have BB2 := Lib.hid TR2.out.b; have TI2 := Lib.hid (show Ti w6 v2 A2 bl q from ⟨fb_below LT1.out hb, fun e => by have h5 := hbase bl e; have h6 := fb_lt LT1.out; omega⟩); clear ho hb hrow hbase)
              refine hKq.out _ _ ?_ (fun hHeld => ?_)
              · (try dsimp only); exact fb_run (fb_below X6.out BB2.out)
              clear hKq Kq
              try simp only [Act.put, List.setIfInBounds_toArray, List.set_cons_zero, List.set_cons_succ]
              refine wpAnyH_ready (rs := [9]) (by kernel_rfl) (by simp) ?_
              refine AllReadyH.cons (o := ⟨_, _, _, _, _, _⟩) rfl (fun Kq hKq => ?_) (AllReadyH.nil)
              clear hHeld
              refine step_append_frames rfl (.tmp 61) (.tmp 63) rfl v2 rfl rfl rfl rfl TR2.out.row TI2.out.rcs (by simp; omega) ?_; intro A3 c3 v3 N3 hN h1 h2; have HN9 := Lib.hid hN; clear hN; have TR3 := Lib.hid (TR2.out.app h1 h2); have BB3 := Lib.hid TR3.out.b; clear h1 h2
              refine hKq.out _ _ ?_ (fun hHeld => ?_)
              · (try dsimp only); exact fb_run (fb_below X6.out BB3.out)
              clear hKq Kq
              try simp only [Act.put, List.setIfInBounds_toArray, List.set_cons_zero, List.set_cons_succ]
              (refine wpAnyH_take (i := 10) (oi := ⟨_, _, _, _, _, _⟩) (v := ?_) rfl (by kernel_rfl) (by kernel_rfl) (by kernel_rfl) (fun _ _ _ h => h) (Or.inl ⟨by rfl, ?_⟩) (by assumption) ?_; rotate_left 1; · (intro w hSw; (try dsimp only at hSw); go_simp; all_goals with_reducible rfl))
              try simp only [Act.put, List.setIfInBounds_toArray, List.set_cons_zero, List.set_cons_succ]
              (refine wpAnyH_take (i := 11) (oi := ⟨_, _, _, _, _, _⟩) (v := ?_) rfl (by kernel_rfl) (by kernel_rfl) (by kernel_rfl) (fun _ _ _ h => h) (Or.inl ⟨by rfl, ?_⟩) (by assumption) ?_; rotate_left 1; · (intro w hSw; (try dsimp only at hSw); go_simp; all_goals with_reducible rfl))
              try simp only [Act.put, List.setIfInBounds_toArray, List.set_cons_zero, List.set_cons_succ]
              refine wpAnyH_ready (rs := [12]) (by kernel_rfl) (by simp) ?_
              refine AllReadyH.cons (o := ⟨_, _, _, _, _, _⟩) rfl (fun Kq hKq => ?_) (AllReadyH.nil)
              obtain ⟨c9, f9⟩ := (H6.out.step BB3.out).at1
              go_simp
              clear hHeld
              clear c9 f9; have HD := Lib.hid (RD.make H6.out BB0.out Z6.out XL.out TR3.out HN9.out); have X5 := Lib.hid (fb_past (fb_below X6.out BB3.out) (show W.heap.size ≠ x by have := XL.out; omega) 1 (.slice A3 N3 c3)); have Y5 := Lib.hid (fb_past (fb_below X7.out BB3.out) (show b7 ≠ x by have := XW5.out; omega) 1 (.slice A3 N3 c3))
              refine hKq.out _ _ ?_ (fun hHeld => ?_)
              · (try dsimp only); exact fb_run X5.out
              clear hKq Kq
              try simp only [Act.put, List.setIfInBounds_toArray, List.set_cons_zero, List.set_cons_succ]
              refine wpAnyH_done (by kernel_rfl) ?_ _
              go_wp2_with fail
              go_meet
              exact ⟨rfl, rfl, HD, Y5⟩
          case rest =>
            obtain ⟨rfl, rfl, HD, HX7⟩ := hcut
            rename World => wd
            have HZ := Lib.hid HD.out.z
            go_wp2_with first
              | (refine wpList_load_row rfl 32 (.tmp 7) rfl b7 rfl 32 (fc qs[k]) (0, 0) _ HX7.out Try.underlying32 rfl SK.out ?_)
              | (refine wpList_store_row rfl 32 (.tmp 4) (.tmp 67) rfl (W.heap.size + 1) (fc qs[k]) rfl rfl 32 _ HZ.out SK.out rfl (fc_one _) ?_)
            refine bodyPost_ret (results_two Try.results22 _ _ (W.heap.size + 1) rfl (setRow_set HZ.out) Try.underlying32 rfl (size32 qs[k]) rfl) rfl ?_
            obtain ⟨A', c', h1, h2⟩ := HD.out.rb
            rw [hP]
            exact ⟨rfl, ⟨A', c', ⟨(setRow_other _ _ _ _ (by have := XL.out; omega)).trans h1.cells, h1.row.on fun k hk => setRow_other _ _ _ _ (by have := h2 k hk; omega)⟩, .inr fun k hk => by have := h2 k hk; omega⟩,
              ⟨HD.out.o.os, HD.out.o.tape, HD.out.o.output, by simpa using HD.out.o.size, fun k hk hn => (setRow_other _ _ _ _ (by omega)).trans (HD.out.o.block k hk hn)⟩⟩
end Go.Proofs.Ytmgiglefabbmcaa
