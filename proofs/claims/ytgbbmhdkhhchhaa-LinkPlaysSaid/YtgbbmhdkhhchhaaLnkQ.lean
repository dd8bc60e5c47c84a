/-
  A walk: no older life, and no fenced one. No statement is proved in this text.
-/
import Derived.Test.YtgbbmhdkhhchhaaLnkP
set_option maxRecDepth 20000
namespace Go.Proofs.Ytgbbmhdkhhchhaa
open Go Go.RowKit
theorem min_two (a b : Int) (w : World) : (Builtin.min_ #[3, 3] 3 #[.int .i64 a, .int .i64 b]).run Try.prog w = .ok (.int .i64 (min a b)) w := by
  have h2 : Builtin.min2 (.int .i64 a) (.int .i64 b) = pure (.int .i64 (min a b)) := by
    show pure (Value.int .i64 (if b < a then b else a)) = _
    by_cases h : b < a
    · rw [if_pos h, show min a b = b by omega]
    · rw [if_neg h, show min a b = a by omega]
  simp [Builtin.min_, h2, List.foldlM, Sem.run_pure]
theorem fbox_free2 {w : World} {g : Nat} {F : Fm} (h : FBox w g F) : w.frozen? ⟨g, 2, none⟩ = false := by
  unfold FBox at h
  simp [World.frozen?, h]
theorem fbox_set2 {w : World} {g : Nat} {F : Fm} (h : FBox w g F) (d : Int) : FBox (w.setCell ⟨g, 2, none⟩ (.int .i64 d)) g ⟨F.k, F.f1, d, F.t1, F.t2, F.n⟩ := by
  unfold FBox at *
  simp [World.setCell, Array.getElem?_modify, h]
/-- What stands of the world. -/
theorem both_cells {w w1 W : World} {m1 m2 : Int} {s : Sp} (hi : Box w1 w.heap.size m1 m2) (hs : SBox w1 (w.heap.size + 1) s) (hb : Below w1.heap.size w1 W) : W.cell? ⟨w.heap.size, 0, none⟩ = some (.int .i64 m1) ∧ W.cell? ⟨w.heap.size, 1, none⟩ = some (.int .i64 m2) ∧ W.cell? ⟨w.heap.size + 1, 0, none⟩ = some (.bool s.q) ∧ W.cell? ⟨w.heap.size + 1, 1, none⟩ = some (.int .u8 s.F.k) ∧ W.cell? ⟨w.heap.size + 1, 2, none⟩ = some (.int .i64 s.F.f1) ∧ W.cell? ⟨w.heap.size + 1, 3, none⟩ = some (.int .i64 s.F.f2) ∧ W.cell? ⟨w.heap.size + 1, 4, none⟩ = some (.int .i64 s.F.t1) ∧ W.cell? ⟨w.heap.size + 1, 5, none⟩ = some (.int .i64 s.F.t2) ∧ W.cell? ⟨w.heap.size + 1, 6, none⟩ = some (.int .i64 s.F.n) := by
  obtain ⟨a0, a1⟩ := box_cells (box_below hi hb (box_lt hi))
  obtain ⟨b0, b1, b2, b3, b4, b5, b6⟩ := sbox_cells (sbox_below hs hb (sbox_lt hs))
  exact ⟨a0, a1, b0, b1, b2, b3, b4, b5, b6⟩
set_option maxHeartbeats 16000000 in
theorem older_any (m1 m2 : Int) (v : Value) (l : List Sp) (s : Sp) (u : Value) (bh : List Sp) (inc : Int) (w : World) (h : Rcs encS 7 w v l) (hin : ∀ s ∈ l, InS s) (hs : InS s) (hu : Rcs encS 7 w u bh) (hbin : ∀ s ∈ bh, InS s) (_hinc : -9223372036854775808 ≤ inc ∧ inc ≤ 9223372036854775807) :
    Calls Try.prog 5 #[.agg #[.int .i64 m1, .int .i64 m2], v, .agg #[.bool s.q, .int .u8 s.F.k, .int .i64 s.F.f1, .int .i64 s.F.f2, .int .i64 s.F.t1, .int .i64 s.F.t2, .int .i64 s.F.n], u, .int .i64 inc] w fun e w' => e = .returned (.bool true) ∧ Below w.heap.size w w' := by
  have B1 := Lib.hid (show Below w.heap.size w ((w.alloc (.cells #[.int .i64 m1, .int .i64 m2] 23)).alloc (.cells #[.bool s.q, .int .u8 s.F.k, .int .i64 s.F.f1, .int .i64 s.F.f2, .int .i64 s.F.t1, .int .i64 s.F.t2, .int .i64 s.F.n] 31)) from ((Below.refl _ _).alloc (Nat.le_refl _) _).alloc (by simp) _)
  have X1 := Lib.hid (show Box ((w.alloc (.cells #[.int .i64 m1, .int .i64 m2] 23)).alloc (.cells #[.bool s.q, .int .u8 s.F.k, .int .i64 s.F.f1, .int .i64 s.F.f2, .int .i64 s.F.t1, .int .i64 s.F.t2, .int .i64 s.F.n] 31)) w.heap.size m1 m2 from (Below.heap_alloc _ _ _ (by simp)).trans (box_new w m1 m2))
  have X2 := Lib.hid (show SBox ((w.alloc (.cells #[.int .i64 m1, .int .i64 m2] 23)).alloc (.cells #[.bool s.q, .int .u8 s.F.k, .int .i64 s.F.f1, .int .i64 s.F.f2, .int .i64 s.F.t1, .int .i64 s.F.t2, .int .i64 s.F.n] 31)) (w.heap.size + 1) s from by have := sbox_new (w.alloc (.cells #[.int .i64 m1, .int .i64 m2] 23)) s; simpa [SBox] using this)
  have HR := Lib.hid (h.below B1.out)
  have HU := Lib.hid (hu.below B1.out)
  have HIN := Lib.hid hin
  have HBI := Lib.hid hbin
  have HIS := Lib.hid hs
  obtain ⟨A, c, rfl, -, hc, -⟩ := id h
  obtain ⟨A2, c2, rfl, -, hc2, -⟩ := id hu
  clear h hin hs hu hbin hc hc2
  have HAW : Hid (∀ W, Calls Try.prog 8 #[] W fun e w' => e = .returned (.bool true) ∧ Below W.heap.size W w') := Lib.hid fun W => awake_any W
  by_cases hl : 100 < l.length
  · have hd : decide ((100 : Int) < (l.length : Int)) = true := by simp; omega
    clear hl
    go_enter Try.func5, Try.ntmps5
    go_wp2_with (go_at_call 8; (with_reducible refine (HAW.out _).mono ?_); rintro e w2 ⟨rfl, hb⟩; have B2 := Lib.hid (B1.out.trans (hb.mono B1.out.size)); clear hb)
    go_ret
    exact ⟨rfl, B2.out⟩
  · have hd : decide ((100 : Int) < (l.length : Int)) = false := by simp; omega
    have HL := Lib.hid (show l.length ≤ 100000 by omega)
    clear hl
    by_cases hl : 100 < bh.length
    · have hd2 : decide ((100 : Int) < (bh.length : Int)) = true := by simp; omega
      clear hl
      go_enter Try.func5, Try.ntmps5
      go_wp2_with (go_at_call 8; (with_reducible refine (HAW.out _).mono ?_); rintro e w2 ⟨rfl, hb⟩; have B2 := Lib.hid (B1.out.trans (hb.mono B1.out.size)); clear hb)
      go_ret
      exact ⟨rfl, B2.out⟩
    · have hd2 : decide ((100 : Int) < (bh.length : Int)) = false := by simp; omega
      have HLB := Lib.hid (show bh.length ≤ 100000 by omega)
      clear hl
      go_enter Try.func5, Try.ntmps5
      go_wp2_with fail
      generalize hW : World.alloc _ _ = w1 at *
      clear hW
      have HME := X1
      (with_reducible refine (HAW.out _).mono ?_)
      rintro e w2 ⟨rfl, hb⟩
      have HR2 := Lib.hid (HR.out.below hb)
      have B2 := Lib.hid hb
      clear hb HR hd hd2
      obtain ⟨b0, b1, -⟩ := both_cells X1.out X2.out B2.out
      go_wp2_with fail
      (with_reducible refine (play_any _ w1.heap.size m1 m2 _ l HR2.out HIN.out HL.out B2.out.size).mono ?_)
      rintro e w3 ⟨x, m, rfl, -, -, h1, hb⟩
      have HX := Lib.hid h1
      have B3 := Lib.hid (B2.out.trans (hb.mono B2.out.size))
      clear hb HR2 h1 b0 b1 B2
      have HNL := Lib.hid (show 0 + l.length ≤ 100000 by have := HL.out; omega)
      have HN0 := Lib.hid (show 0 + l.length < maxLen by have := HL.out; unfold maxLen; omega)
      generalize plays m1 m2 (fun _ => p0) l = M at *
      generalize 0 + l.length = n at *
      obtain ⟨-, -, d0, -, d2, d3, -⟩ := both_cells X1.out X2.out B3.out
      go_wp2_with fail
      (with_reducible refine (newest_any _ _ x n m M HX.out s.F.f1 HIS.out.f1).mono ?_)
      rintro e w' ⟨rfl, rfl⟩
      have S42 := Lib.hid size42
      cases hq : s.q
      · rw [hq] at d0
        have HQ := Lib.hid hq
        clear hq
        by_cases h0 : takeE M s.F m1 m2 = 0
        · have HTE := Lib.hid h0
          have HDN := Lib.hid (take_done h0).1
          have f2a : 1 ≤ s.F.f2 := (mayI_true (take_done h0).2).2.1
          have f2b : s.F.f2 ≤ 1048576 := (mayI_true (take_done h0).2).2.2
          clear h0
          go_wp2_with fail
          clear d0 d2 d3
          refine wp_region_held_drew (S := fun W => W.cell? ⟨w.heap.size, 0, none⟩ = some (.int .i64 m1) ∧ W.cell? ⟨w.heap.size, 1, none⟩ = some (.int .i64 m2) ∧ W.cell? ⟨w.heap.size + 1, 0, none⟩ = some (.bool s.q) ∧ W.cell? ⟨w.heap.size + 1, 1, none⟩ = some (.int .u8 s.F.k) ∧ W.cell? ⟨w.heap.size + 1, 2, none⟩ = some (.int .i64 s.F.f1) ∧ W.cell? ⟨w.heap.size + 1, 3, none⟩ = some (.int .i64 s.F.f2) ∧ W.cell? ⟨w.heap.size + 1, 4, none⟩ = some (.int .i64 s.F.t1) ∧ W.cell? ⟨w.heap.size + 1, 5, none⟩ = some (.int .i64 s.F.t2) ∧ W.cell? ⟨w.heap.size + 1, 6, none⟩ = some (.int .i64 s.F.n)) (by kernel_rfl) ?_ (fun hHeld => ?_)
          · exact both_cells X1.out X2.out (below_drewN (n := 1) B3.out)
          (refine wpAnyH_take (i := 0) (oi := ⟨_, _, _, _, _, _⟩) (v := ?_) rfl (by kernel_rfl) (by kernel_rfl) (by kernel_rfl) (fun _ _ _ h => h) (Or.inl ⟨by rfl, ?_⟩) (by assumption) ?_; rotate_left 1; · (intro w hSw; (try dsimp only at hSw); go_simp; all_goals with_reducible rfl))
          try simp only [Act.put, List.setIfInBounds_toArray, List.set_cons_zero, List.set_cons_succ]
          (refine wpAnyH_take (i := 1) (oi := ⟨_, _, _, _, _, _⟩) (v := ?_) rfl (by kernel_rfl) (by kernel_rfl) (by kernel_rfl) (fun _ _ _ h => h) (Or.inl ⟨by rfl, ?_⟩) (by assumption) ?_; rotate_left 1; · (intro w hSw; (try dsimp only at hSw); go_simp; all_goals with_reducible rfl))
          try simp only [Act.put, List.setIfInBounds_toArray, List.set_cons_zero, List.set_cons_succ]
          (refine wpAnyH_take (i := 3) (oi := ⟨_, _, _, _, _, _⟩) (v := ?_) rfl (by kernel_rfl) (by kernel_rfl) (by kernel_rfl) (fun _ _ _ h => h) (Or.inl ⟨by rfl, ?_⟩) (by assumption) ?_; rotate_left 1; · (intro w hSw; (try dsimp only at hSw); go_simp; all_goals with_reducible rfl))
          try simp only [Act.put, List.setIfInBounds_toArray, List.set_cons_zero, List.set_cons_succ]
          refine wpAnyH_ready (rs := [2]) (by kernel_rfl) (by simp) ?_
          refine AllReadyH.cons (o := ⟨_, _, _, _, _, _⟩) rfl (fun Kq hKq => ?_) AllReadyH.nil
          go_simp
          clear hHeld
          (go_at_call 16; (with_reducible refine (frame_any s _).mono ?_); rintro e v1 ⟨rfl, hb⟩; have J1 := Lib.hid (show Lk v1 w1.heap.size x m n M ∧ Below w1.heap.size w1 v1 from ⟨(HX.out.drewN (c := 1)).below hb, B3.out.trans (((below_drewN (n := 1) (Below.refl _ _)).trans hb).mono HX.out.base)⟩); clear hb)
          refine hKq.out _ _ ?_ (fun hHeld => ?_)
          · (try dsimp only); exact both_cells X1.out X2.out J1.out.2
          clear hKq Kq
          try simp only [Act.put, List.setIfInBounds_toArray, List.set_cons_zero, List.set_cons_succ]
          refine wpAnyH_ready (rs := [4]) (by kernel_rfl) (by simp) ?_
          refine AllReadyH.cons (o := ⟨_, _, _, _, _, _⟩) rfl (fun Kq hKq => ?_) AllReadyH.nil
          go_simp
          clear hHeld
          (go_at_call 15; (with_reducible refine (take_is 0 _ _ _ x n m M J1.out.1 HN0.out s.F m1 m2 HIS.out.f1 HTE.out rfl).mono ?_); rintro e w5 ⟨rfl, m5, h1, h2⟩; have G5 := Lib.hid (show Lk w5 w1.heap.size x m5 (n + 1) (takeM M s.F m1 m2) ∧ Below w1.heap.size w1 w5 from ⟨h1, h2.ahead J1.out.2 J1.out.1⟩); clear h1 h2)
          refine hKq.out _ _ ?_ (fun hHeld => ?_)
          · (try dsimp only); exact both_cells X1.out X2.out G5.out.2
          clear hKq Kq
          try simp only [Act.put, List.setIfInBounds_toArray, List.set_cons_zero, List.set_cons_succ]
          (refine wpAnyH_take (i := 5) (oi := ⟨_, _, _, _, _, _⟩) (v := ?_) rfl (by kernel_rfl) (by kernel_rfl) (by kernel_rfl) (fun _ _ _ h => h) (Or.inl ⟨by rfl, ?_⟩) (by assumption) ?_; rotate_left 1; · (intro w hSw; (try dsimp only at hSw); go_simp; all_goals with_reducible rfl))
          try simp only [Act.put, List.setIfInBounds_toArray, List.set_cons_zero, List.set_cons_succ]
          (refine wpAnyH_take (i := 6) (oi := ⟨_, _, _, _, _, _⟩) (v := ?_) rfl (by kernel_rfl) (by kernel_rfl) (by kernel_rfl) (fun _ _ _ h => h) (Or.inl ⟨by rfl, ?_⟩) (by assumption) ?_; rotate_left 1; · (intro w hSw; (try dsimp only at hSw); go_simp; all_goals with_reducible rfl))
          try simp only [Act.put, List.setIfInBounds_toArray, List.set_cons_zero, List.set_cons_succ]
          refine wpAnyH_done (by kernel_rfl) ?_ _
          clear hHeld J1
          have HUP := Lib.hid (takeM_upto M s.F m1 m2 s.F.f1).1
          generalize takeM M s.F m1 m2 = M1 at *
          obtain ⟨-, -, -, -, d2, -⟩ := both_cells X1.out X2.out G5.out.2
          have hup := HUP.out
          generalize hwas : (M s.F.f1).nw = was at *
          clear hwas
          have HNEW := Lib.hid (newest_any _ _ x (n + 1) m5 M1 G5.out.1 s.F.f1 HIS.out.f1)
          go_wp2_with fail
          (with_reducible refine HNEW.out.mono ?_)
          rintro e w' ⟨rfl, rfl⟩
          go_wp2_with fail
          clear HNEW
          have G0 : Hid (Lk w5 w1.heap.size x m5 (n + 1 + 0) (plays m1 m2 M1 (bh.take 0)) ∧ Below w1.heap.size w1 w5) := G5
          clear d2 G5 hup HUP
          go_loopw [14] (fun s14 wr => ∃ (k : Nat) (m : Option Nat), k ≤ bh.length ∧ s14 = .int .i64 k ∧ Hid (Lk wr w1.heap.size x m ((n + 1) + k) (plays m1 m2 M1 (bh.take k)) ∧ Below w1.heap.size w1 wr)) (fun s14 _ => bh.length - (intOf s14).toNat)
          case atStart => exact ⟨0, _, by omega, rfl, G0⟩
          case round =>
            clear G0
            obtain ⟨k, m, hk, rfl, G1⟩ := hrel
            by_cases hlt : k < bh.length
            · have hd : decide ((k : Int) < (bh.length : Int)) = true := by simp; omega
              have i3 : (0 : Int) ≤ (k : Int) := by omega
              have i4 : (k : Int) < (bh.length : Int) := by omega
              have i5 : (bh.length : Int) ≤ 100000 := by have := HLB.out; omega
              have HPL := Lib.hid (plays_snoc m1 m2 M1 bh k hlt)
              obtain ⟨ad, rfl, hcs⟩ := steps_at HU.out hlt
              have HIS := Lib.hid (HBI.out _ (List.getElem_mem hlt))
              generalize hsy : bh[k] = y at *
              clear hsy
              have HS : Hid (∀ W, Below w1.heap.size w1 W → (W.cell? ⟨w.heap.size, 0, none⟩ = some (.int .i64 m1) ∧ W.cell? ⟨w.heap.size, 1, none⟩ = some (.int .i64 m2) ∧ W.cell? (ad.add (k * 7)) = some (.bool y.q) ∧ W.cell? ⟨(ad.add (k * 7)).block, (ad.add (k * 7)).off + 1, none⟩ = some (.int .u8 y.F.k) ∧ W.cell? ⟨(ad.add (k * 7)).block, (ad.add (k * 7)).off + 2, none⟩ = some (.int .i64 y.F.f1) ∧ W.cell? ⟨(ad.add (k * 7)).block, (ad.add (k * 7)).off + 3, none⟩ = some (.int .i64 y.F.f2) ∧ W.cell? ⟨(ad.add (k * 7)).block, (ad.add (k * 7)).off + 4, none⟩ = some (.int .i64 y.F.t1) ∧ W.cell? ⟨(ad.add (k * 7)).block, (ad.add (k * 7)).off + 5, none⟩ = some (.int .i64 y.F.t2) ∧ W.cell? ⟨(ad.add (k * 7)).block, (ad.add (k * 7)).off + 6, none⟩ = some (.int .i64 y.F.n) ∧ Hid (Below w1.heap.size w1 W))) := Lib.hid fun W hb =>
                have b := box_cells (box_below HME.out hb (box_lt HME.out))
                have s := hcs W hb
                ⟨b.1, b.2, s.1, s.2.1, s.2.2.1, s.2.2.2.1, s.2.2.2.2.1, s.2.2.2.2.2.1, s.2.2.2.2.2.2, Lib.hid hb⟩
              clear hcs
              generalize hMk : plays m1 m2 M1 (bh.take k) = Mk at *
              clear hMk
              have HN := Lib.hid (show (n + 1) + k < maxLen by have := HLB.out; have := HNL.out; unfold maxLen; omega)
              cases hq : y.q
              · have HQ := Lib.hid hq
                have HST := Lib.hid (show step m1 m2 Mk y = takeM Mk y.F m1 m2 by unfold step; rw [hq]; rfl)
                clear hq
                obtain ⟨_, _, c0, _⟩ := HS.out _ G1.out.2
                rw [HQ.out] at c0
                go_wp2_with fail
                clear c0
                refine wp_region_held_drew (S := fun W => W.cell? ⟨w.heap.size, 0, none⟩ = some (.int .i64 m1) ∧ W.cell? ⟨w.heap.size, 1, none⟩ = some (.int .i64 m2) ∧ W.cell? (ad.add (k * 7)) = some (.bool y.q) ∧ W.cell? ⟨(ad.add (k * 7)).block, (ad.add (k * 7)).off + 1, none⟩ = some (.int .u8 y.F.k) ∧ W.cell? ⟨(ad.add (k * 7)).block, (ad.add (k * 7)).off + 2, none⟩ = some (.int .i64 y.F.f1) ∧ W.cell? ⟨(ad.add (k * 7)).block, (ad.add (k * 7)).off + 3, none⟩ = some (.int .i64 y.F.f2) ∧ W.cell? ⟨(ad.add (k * 7)).block, (ad.add (k * 7)).off + 4, none⟩ = some (.int .i64 y.F.t1) ∧ W.cell? ⟨(ad.add (k * 7)).block, (ad.add (k * 7)).off + 5, none⟩ = some (.int .i64 y.F.t2) ∧ W.cell? ⟨(ad.add (k * 7)).block, (ad.add (k * 7)).off + 6, none⟩ = some (.int .i64 y.F.n) ∧ Hid (Below w1.heap.size w1 W)) (by kernel_rfl) ?_ (fun hHeld => ?_)
                · exact HS.out _ (below_drewN (n := 1) G1.out.2)
                (refine wpAnyH_take (i := 0) (oi := ⟨_, _, _, _, _, _⟩) (v := ?_) rfl (by kernel_rfl) (by kernel_rfl) (by kernel_rfl) (fun _ _ _ h => h) (Or.inl ⟨by rfl, ?_⟩) (by assumption) ?_; rotate_left 1; · (intro w hSw; (try dsimp only at hSw); go_simp; all_goals with_reducible rfl))
                try simp only [Act.put, List.setIfInBounds_toArray, List.set_cons_zero, List.set_cons_succ]
                (refine wpAnyH_take (i := 1) (oi := ⟨_, _, _, _, _, _⟩) (v := ?_) rfl (by kernel_rfl) (by kernel_rfl) (by kernel_rfl) (fun _ _ _ h => h) (Or.inl ⟨by rfl, ?_⟩) (by assumption) ?_; rotate_left 1; · (intro w hSw; (try dsimp only at hSw); go_simp; all_goals with_reducible rfl))
                try simp only [Act.put, List.setIfInBounds_toArray, List.set_cons_zero, List.set_cons_succ]
                (refine wpAnyH_take (i := 2) (oi := ⟨_, _, _, _, _, _⟩) (v := ?_) rfl (by kernel_rfl) (by kernel_rfl) (by kernel_rfl) (fun _ _ _ h => h) (Or.inl ⟨by rfl, ?_⟩) (by assumption) ?_; rotate_left 1; · (intro w hSw; (try dsimp only at hSw); go_simp; all_goals with_reducible rfl))
                try simp only [Act.put, List.setIfInBounds_toArray, List.set_cons_zero, List.set_cons_succ]
                (refine wpAnyH_take (i := 3) (oi := ⟨_, _, _, _, _, _⟩) (v := ?_) rfl (by kernel_rfl) (by kernel_rfl) (by kernel_rfl) (fun _ _ _ h => h) (Or.inl ⟨by rfl, ?_⟩) (by assumption) ?_; rotate_left 1; · (intro w hSw; (try dsimp only at hSw); go_simp; all_goals with_reducible rfl))
                try simp only [Act.put, List.setIfInBounds_toArray, List.set_cons_zero, List.set_cons_succ]
                (refine wpAnyH_take (i := 4) (oi := ⟨_, _, _, _, _, _⟩) (v := ?_) rfl (by kernel_rfl) (by kernel_rfl) (by kernel_rfl) (fun _ _ _ h => h) (Or.inl ⟨by rfl, ?_⟩) (by assumption) ?_; rotate_left 1; · (intro w hSw; (try dsimp only at hSw); go_simp; all_goals with_reducible rfl))
                try simp only [Act.put, List.setIfInBounds_toArray, List.set_cons_zero, List.set_cons_succ]
                (refine wpAnyH_take (i := 6) (oi := ⟨_, _, _, _, _, _⟩) (v := ?_) rfl (by kernel_rfl) (by kernel_rfl) (by kernel_rfl) (fun _ _ _ h => h) (Or.inl ⟨by rfl, ?_⟩) (by assumption) ?_; rotate_left 1; · (intro w hSw; (try dsimp only at hSw); go_simp; all_goals with_reducible rfl))
                try simp only [Act.put, List.setIfInBounds_toArray, List.set_cons_zero, List.set_cons_succ]
                refine wpAnyH_ready (rs := [5]) (by kernel_rfl) (by simp) ?_
                refine AllReadyH.cons (o := ⟨_, _, _, _, _, _⟩) rfl (fun Kq hKq => ?_) AllReadyH.nil
                go_simp
                clear hHeld
                (go_at_call 16; (with_reducible refine (frame_any y _).mono ?_); rintro e w7 ⟨rfl, hb⟩; have G2 := Lib.hid (show Lk w7 w1.heap.size x m ((n + 1) + k) Mk ∧ Below w1.heap.size w1 w7 from ⟨G1.out.1.drewN (c := 1) |>.below hb, G1.out.2.trans (((below_drewN (n := 1) (Below.refl _ _)).trans hb).mono G1.out.1.base)⟩); clear hb)
                refine hKq.out _ _ ?_ (fun hHeld => ?_)
                · (try dsimp only); exact HS.out _ G2.out.2
                clear hKq Kq
                try simp only [Act.put, List.setIfInBounds_toArray, List.set_cons_zero, List.set_cons_succ]
                refine wpAnyH_ready (rs := [7]) (by kernel_rfl) (by simp) ?_
                refine AllReadyH.cons (o := ⟨_, _, _, _, _, _⟩) rfl (fun Kq hKq => ?_) AllReadyH.nil
                go_simp
                clear hHeld
                (go_at_call 15; (with_reducible refine (take_any _ w1.heap.size x _ m Mk G2.out.1 HN.out y.F m1 m2 HIS.out.1).mono ?_); rintro e w8 ⟨rfl, m8, h1, h2⟩; have G3 := Lib.hid (show Lk w8 w1.heap.size x m8 ((n + 1) + k + 1) (takeM Mk y.F m1 m2) ∧ Below w1.heap.size w1 w8 from ⟨h1, h2.ahead G2.out.2 G2.out.1⟩); clear h1 h2)
                refine hKq.out _ _ ?_ (fun hHeld => ?_)
                · (try dsimp only); exact HS.out _ G3.out.2
                clear hKq Kq
                try simp only [Act.put, List.setIfInBounds_toArray, List.set_cons_zero, List.set_cons_succ]
                refine wpAnyH_done (by kernel_rfl) ?_ _
                clear hHeld HS G1 G2
                go_wp2_with fail
                go_roundw
                case rel => exact ⟨k + 1, m8, by omega, by go_num, Lib.hid (by rw [HPL.out, HST.out]; exact G3.out)⟩
                case measure => simp [intOf]; omega
              · have HQ := Lib.hid hq
                have HST := Lib.hid (show step m1 m2 Mk y = fenceM Mk y.F.f1 y.F.f2 by unfold step; rw [hq]; rfl)
                clear hq
                obtain ⟨_, _, c0, _, c2, c3, _⟩ := HS.out _ G1.out.2
                rw [HQ.out] at c0
                go_wp2_with (go_at_call 13; (with_reducible refine (fence_any _ w1.heap.size x _ m Mk G1.out.1 HN.out y.F.f1 y.F.f2 HIS.out.1).mono ?_); rintro e w8 ⟨rfl, m8, h1, h2⟩; have G3 := Lib.hid (show Lk w8 w1.heap.size x m8 ((n + 1) + k + 1) (fenceM Mk y.F.f1 y.F.f2) ∧ Below w1.heap.size w1 w8 from ⟨h1, h2.ahead G1.out.2 G1.out.1⟩); clear h1 h2)
                go_roundw
                case rel => exact ⟨k + 1, m8, by omega, by go_num, Lib.hid (by rw [HPL.out, HST.out]; exact G3.out)⟩
                case measure => simp [intOf]; omega
            · have hke : k = bh.length := by omega
              subst hke
              rw [List.take_length] at G1
              have hd : decide ((bh.length : Int) < (bh.length : Int)) = false := by simp
              clear hlt hk
              have KUP := Lib.hid (plays_upto m1 m2 bh M1 s.F.f1)
              have HNK := Lib.hid (show n + 1 + bh.length < maxLen by have := HNL.out; have := HLB.out; unfold maxLen; omega)
              generalize plays m1 m2 M1 bh = K at *
              obtain ⟨-, -, d0, d1, d2, d3, d4, d5, d6⟩ := both_cells X1.out X2.out G1.out.2
              go_wp2_with fail
              (with_reducible refine (frame_any s _).mono ?_)
              rintro e w7 ⟨rfl, hb⟩
              have L7 := Lib.hid (G1.out.1.below hb)
              have B7 := Lib.hid (G1.out.2.trans (hb.mono G1.out.1.base))
              clear hb d0 d1 d2 d3 d4 d5 d6 G1
              go_upto_region 20 with (fail)
              have F8 := Lib.hid (fbox_new w7 s.F)
              have L8 := Lib.hid (L7.out.below (below_one w7 (.cells #[.int .u8 s.F.k, .int .i64 s.F.f1, .int .i64 s.F.f2, .int .i64 s.F.t1, .int .i64 s.F.t2, .int .i64 s.F.n, .int .i64 0, .int .i64 0, .int .i64 0, .slice none 0 0, .slice none 0 0, .slice none 0 0, .slice none 0 0, .slice none 0 0] 42)))
              have B8 := Lib.hid (B7.out.trans ((below_one w7 (.cells #[.int .u8 s.F.k, .int .i64 s.F.f1, .int .i64 s.F.f2, .int .i64 s.F.t1, .int .i64 s.F.t2, .int .i64 s.F.n, .int .i64 0, .int .i64 0, .int .i64 0, .slice none 0 0, .slice none 0 0, .slice none 0 0, .slice none 0 0, .slice none 0 0] 42)).mono L7.out.base))
              have HGF := Lib.hid (show w1.heap.size ≤ w7.heap.size from B7.out.size)
              generalize hW8 : World.alloc w7 _ = w8 at *
              generalize w7.heap.size = gf at *
              clear hW8 L7 B7
              obtain ⟨-, -, d0, -, d2, d3, -⟩ := both_cells X1.out X2.out B8.out
              rw [HQ.out] at d0
              have f2 := fbox_free2 F8.out
              obtain ⟨-, -, e2, -⟩ := fbox_all F8.out
              have hmin := min_two inc (s.F.f2 - 1)
              have HD : Hid (min inc (s.F.f2 - 1) ≤ s.F.f2 - 1) := Lib.hid (by omega)
              generalize min inc (s.F.f2 - 1) = d at *
              go_upto_region 23 with (fail)
              have F9 := Lib.hid (fbox_set2 F8.out d)
              have L9 := Lib.hid (L8.out.storeT F8.out (by decide) 2 (.int .i64 d))
              have B9 := Lib.hid (B8.out.setCell (p := ⟨gf, 2, none⟩) HGF.out (.int .i64 d))
              generalize hW9 : World.setCell w8 _ _ = w9 at *
              clear hW9 d0 d2 d3 f2 e2 hmin F8 L8 B8
              have f5 := fbox_free5 F9.out
              obtain ⟨-, -, -, -, -, e5, -⟩ := fbox_all F9.out
              dsimp only at e5
              go_upto_region 24 with (fail)
              have F10 := Lib.hid (fbox_set5 F9.out 1125899906842624)
              have L10 := Lib.hid (L9.out.storeT F9.out (by decide) 5 (.int .i64 1125899906842624))
              have B10 := Lib.hid (B9.out.setCell (p := ⟨gf, 5, none⟩) HGF.out (.int .i64 1125899906842624))
              generalize hWA : World.setCell w9 _ _ = wa at *
              clear hWA f5 e5 F9 L9 B9
              obtain ⟨b0, b1, d0, -⟩ := both_cells X1.out X2.out B10.out
              rw [HQ.out] at d0
              obtain ⟨p0, p1, p2, p3, p4, p5, p6, p7, p8, p9, pa, pb, pc, pd⟩ := fbox_all F10.out
              dsimp only at p0 p1 p2 p3 p4 p5
              obtain ⟨te, hte⟩ : ∃ te, takeE K ⟨s.F.k, s.F.f1, d, s.F.t1, s.F.t2, 1125899906842624⟩ m1 m2 = te := ⟨_, rfl⟩
              have hne : (te != 0) = true := by
                have := older_refused (K := K) (F := ⟨s.F.k, s.F.f1, d, s.F.t1, s.F.t2, 1125899906842624⟩) (m1 := m1) (m2 := m2) (by
                  have h1 := HDN.out
                  have h2 := KUP.out
                  have h3 := HD.out
                  left
                  dsimp only
                  omega)
                rw [hte] at this
                simpa using this
              have HT9 := Lib.hid hte
              have HMM := Lib.hid (takeM_no (M := K) (F := ⟨s.F.k, s.F.f1, d, s.F.t1, s.F.t2, 1125899906842624⟩) (m1 := m1) (m2 := m2) (by rw [hte]; simpa using hne))
              clear hte
              go_wp2_with fail
              (with_reducible refine (take_of te K _ _ x _ m K L10.out HNK.out s.F.k s.F.f1 d s.F.t1 s.F.t2 1125899906842624 m1 m2 HIS.out.f1 HT9.out HMM.out).mono ?_)
              rintro e wb ⟨rfl, mb, h1, h2⟩
              have LB := Lib.hid h1
              have BB := Lib.hid (h2.ahead B10.out L10.out)
              have FB := Lib.hid (show FBox wb gf _ from h2.kept L10.out F10.out (by decide))
              clear h1 h2 b0 b1 d0 p0 p1 p2 p3 p4 p5 p6 p7 p8 p9 pa pb pc pd
              obtain ⟨-, -, d0, -⟩ := both_cells X1.out X2.out BB.out
              rw [HQ.out] at d0
              go_wp2_with fail
              go_ret
              exact ⟨rfl, B1.out.trans (BB.out.mono B1.out.size)⟩
        · obtain ⟨te, hte⟩ : ∃ te, takeE M s.F m1 m2 = te := ⟨_, rfl⟩
          have HTE := Lib.hid hte
          have h0b : (te == 0) = false := by rw [hte] at h0; simpa using h0
          clear h0 hte
          go_wp2_with fail
          clear d0 d2 d3
          refine wp_region_held_drew (S := fun W => W.cell? ⟨w.heap.size, 0, none⟩ = some (.int .i64 m1) ∧ W.cell? ⟨w.heap.size, 1, none⟩ = some (.int .i64 m2) ∧ W.cell? ⟨w.heap.size + 1, 0, none⟩ = some (.bool s.q) ∧ W.cell? ⟨w.heap.size + 1, 1, none⟩ = some (.int .u8 s.F.k) ∧ W.cell? ⟨w.heap.size + 1, 2, none⟩ = some (.int .i64 s.F.f1) ∧ W.cell? ⟨w.heap.size + 1, 3, none⟩ = some (.int .i64 s.F.f2) ∧ W.cell? ⟨w.heap.size + 1, 4, none⟩ = some (.int .i64 s.F.t1) ∧ W.cell? ⟨w.heap.size + 1, 5, none⟩ = some (.int .i64 s.F.t2) ∧ W.cell? ⟨w.heap.size + 1, 6, none⟩ = some (.int .i64 s.F.n)) (by kernel_rfl) ?_ (fun hHeld => ?_)
          · exact both_cells X1.out X2.out (below_drewN (n := 1) B3.out)
          (refine wpAnyH_take (i := 0) (oi := ⟨_, _, _, _, _, _⟩) (v := ?_) rfl (by kernel_rfl) (by kernel_rfl) (by kernel_rfl) (fun _ _ _ h => h) (Or.inl ⟨by rfl, ?_⟩) (by assumption) ?_; rotate_left 1; · (intro w hSw; (try dsimp only at hSw); go_simp; all_goals with_reducible rfl))
          try simp only [Act.put, List.setIfInBounds_toArray, List.set_cons_zero, List.set_cons_succ]
          (refine wpAnyH_take (i := 1) (oi := ⟨_, _, _, _, _, _⟩) (v := ?_) rfl (by kernel_rfl) (by kernel_rfl) (by kernel_rfl) (fun _ _ _ h => h) (Or.inl ⟨by rfl, ?_⟩) (by assumption) ?_; rotate_left 1; · (intro w hSw; (try dsimp only at hSw); go_simp; all_goals with_reducible rfl))
          try simp only [Act.put, List.setIfInBounds_toArray, List.set_cons_zero, List.set_cons_succ]
          (refine wpAnyH_take (i := 3) (oi := ⟨_, _, _, _, _, _⟩) (v := ?_) rfl (by kernel_rfl) (by kernel_rfl) (by kernel_rfl) (fun _ _ _ h => h) (Or.inl ⟨by rfl, ?_⟩) (by assumption) ?_; rotate_left 1; · (intro w hSw; (try dsimp only at hSw); go_simp; all_goals with_reducible rfl))
          try simp only [Act.put, List.setIfInBounds_toArray, List.set_cons_zero, List.set_cons_succ]
          refine wpAnyH_ready (rs := [2]) (by kernel_rfl) (by simp) ?_
          refine AllReadyH.cons (o := ⟨_, _, _, _, _, _⟩) rfl (fun Kq hKq => ?_) AllReadyH.nil
          go_simp
          clear hHeld
          (go_at_call 16; (with_reducible refine (frame_any s _).mono ?_); rintro e v1 ⟨rfl, hb⟩; have J1 := Lib.hid (show Lk v1 w1.heap.size x m n M ∧ Below w1.heap.size w1 v1 from ⟨(HX.out.drewN (c := 1)).below hb, B3.out.trans (((below_drewN (n := 1) (Below.refl _ _)).trans hb).mono HX.out.base)⟩); clear hb)
          refine hKq.out _ _ ?_ (fun hHeld => ?_)
          · (try dsimp only); exact both_cells X1.out X2.out J1.out.2
          clear hKq Kq
          try simp only [Act.put, List.setIfInBounds_toArray, List.set_cons_zero, List.set_cons_succ]
          refine wpAnyH_ready (rs := [4]) (by kernel_rfl) (by simp) ?_
          refine AllReadyH.cons (o := ⟨_, _, _, _, _, _⟩) rfl (fun Kq hKq => ?_) AllReadyH.nil
          go_simp
          clear hHeld
          (go_at_call 15; (with_reducible refine (take_is te _ _ _ x n m M J1.out.1 HN0.out s.F m1 m2 HIS.out.f1 HTE.out rfl).mono ?_); rintro e w5 ⟨rfl, m5, h1, h2⟩; have G5 := Lib.hid (show Lk w5 w1.heap.size x m5 (n + 1) (takeM M s.F m1 m2) ∧ Below w1.heap.size w1 w5 from ⟨h1, h2.ahead J1.out.2 J1.out.1⟩); clear h1 h2)
          refine hKq.out _ _ ?_ (fun hHeld => ?_)
          · (try dsimp only); exact both_cells X1.out X2.out G5.out.2
          clear hKq Kq
          try simp only [Act.put, List.setIfInBounds_toArray, List.set_cons_zero, List.set_cons_succ]
          (refine wpAnyH_take (i := 5) (oi := ⟨_, _, _, _, _, _⟩) (v := ?_) rfl (by kernel_rfl) (by kernel_rfl) (by kernel_rfl) (fun _ _ _ h => h) (Or.inl ⟨by rfl, ?_⟩) (by assumption) ?_; rotate_left 1; · (intro w hSw; (try dsimp only at hSw); go_simp; all_goals with_reducible rfl))
          try simp only [Act.put, List.setIfInBounds_toArray, List.set_cons_zero, List.set_cons_succ]
          (refine wpAnyH_take (i := 6) (oi := ⟨_, _, _, _, _, _⟩) (v := ?_) rfl (by kernel_rfl) (by kernel_rfl) (by kernel_rfl) (fun _ _ _ h => h) (Or.inl ⟨by rfl, ?_⟩) (by assumption) ?_; rotate_left 1; · (intro w hSw; (try dsimp only at hSw); go_simp; all_goals with_reducible rfl))
          try simp only [Act.put, List.setIfInBounds_toArray, List.set_cons_zero, List.set_cons_succ]
          refine wpAnyH_done (by kernel_rfl) ?_ _
          clear hHeld J1
          have HUP := Lib.hid (takeM_upto M s.F m1 m2 s.F.f1).1
          generalize takeM M s.F m1 m2 = M1 at *
          obtain ⟨-, -, -, -, d2, -⟩ := both_cells X1.out X2.out G5.out.2
          have hup := HUP.out
          generalize hwas : (M s.F.f1).nw = was at *
          clear hwas
          have HNEW := Lib.hid (newest_any _ _ x (n + 1) m5 M1 G5.out.1 s.F.f1 HIS.out.f1)
          go_wp2_with fail
          (with_reducible refine HNEW.out.mono ?_)
          rintro e w' ⟨rfl, rfl⟩
          go_wp2_with fail
          clear HNEW
          have G0 : Hid (Lk w5 w1.heap.size x m5 (n + 1 + 0) (plays m1 m2 M1 (bh.take 0)) ∧ Below w1.heap.size w1 w5) := G5
          clear d2 G5 hup HUP
          go_loopw [14] (fun s14 wr => ∃ (k : Nat) (m : Option Nat), k ≤ bh.length ∧ s14 = .int .i64 k ∧ Hid (Lk wr w1.heap.size x m ((n + 1) + k) (plays m1 m2 M1 (bh.take k)) ∧ Below w1.heap.size w1 wr)) (fun s14 _ => bh.length - (intOf s14).toNat)
          case atStart => exact ⟨0, _, by omega, rfl, G0⟩
          case round =>
            clear G0
            obtain ⟨k, m, hk, rfl, G1⟩ := hrel
            by_cases hlt : k < bh.length
            · have hd : decide ((k : Int) < (bh.length : Int)) = true := by simp; omega
              have i3 : (0 : Int) ≤ (k : Int) := by omega
              have i4 : (k : Int) < (bh.length : Int) := by omega
              have i5 : (bh.length : Int) ≤ 100000 := by have := HLB.out; omega
              have HPL := Lib.hid (plays_snoc m1 m2 M1 bh k hlt)
              obtain ⟨ad, rfl, hcs⟩ := steps_at HU.out hlt
              have HIS := Lib.hid (HBI.out _ (List.getElem_mem hlt))
              generalize hsy : bh[k] = y at *
              clear hsy
              have HS : Hid (∀ W, Below w1.heap.size w1 W → (W.cell? ⟨w.heap.size, 0, none⟩ = some (.int .i64 m1) ∧ W.cell? ⟨w.heap.size, 1, none⟩ = some (.int .i64 m2) ∧ W.cell? (ad.add (k * 7)) = some (.bool y.q) ∧ W.cell? ⟨(ad.add (k * 7)).block, (ad.add (k * 7)).off + 1, none⟩ = some (.int .u8 y.F.k) ∧ W.cell? ⟨(ad.add (k * 7)).block, (ad.add (k * 7)).off + 2, none⟩ = some (.int .i64 y.F.f1) ∧ W.cell? ⟨(ad.add (k * 7)).block, (ad.add (k * 7)).off + 3, none⟩ = some (.int .i64 y.F.f2) ∧ W.cell? ⟨(ad.add (k * 7)).block, (ad.add (k * 7)).off + 4, none⟩ = some (.int .i64 y.F.t1) ∧ W.cell? ⟨(ad.add (k * 7)).block, (ad.add (k * 7)).off + 5, none⟩ = some (.int .i64 y.F.t2) ∧ W.cell? ⟨(ad.add (k * 7)).block, (ad.add (k * 7)).off + 6, none⟩ = some (.int .i64 y.F.n) ∧ Hid (Below w1.heap.size w1 W))) := Lib.hid fun W hb =>
                have b := box_cells (box_below HME.out hb (box_lt HME.out))
                have s := hcs W hb
                ⟨b.1, b.2, s.1, s.2.1, s.2.2.1, s.2.2.2.1, s.2.2.2.2.1, s.2.2.2.2.2.1, s.2.2.2.2.2.2, Lib.hid hb⟩
              clear hcs
              generalize hMk : plays m1 m2 M1 (bh.take k) = Mk at *
              clear hMk
              have HN := Lib.hid (show (n + 1) + k < maxLen by have := HLB.out; have := HNL.out; unfold maxLen; omega)
              cases hq : y.q
              · have HQ := Lib.hid hq
                have HST := Lib.hid (show step m1 m2 Mk y = takeM Mk y.F m1 m2 by unfold step; rw [hq]; rfl)
                clear hq
                obtain ⟨_, _, c0, _⟩ := HS.out _ G1.out.2
                rw [HQ.out] at c0
                go_wp2_with fail
                clear c0
                refine wp_region_held_drew (S := fun W => W.cell? ⟨w.heap.size, 0, none⟩ = some (.int .i64 m1) ∧ W.cell? ⟨w.heap.size, 1, none⟩ = some (.int .i64 m2) ∧ W.cell? (ad.add (k * 7)) = some (.bool y.q) ∧ W.cell? ⟨(ad.add (k * 7)).block, (ad.add (k * 7)).off + 1, none⟩ = some (.int .u8 y.F.k) ∧ W.cell? ⟨(ad.add (k * 7)).block, (ad.add (k * 7)).off + 2, none⟩ = some (.int .i64 y.F.f1) ∧ W.cell? ⟨(ad.add (k * 7)).block, (ad.add (k * 7)).off + 3, none⟩ = some (.int .i64 y.F.f2) ∧ W.cell? ⟨(ad.add (k * 7)).block, (ad.add (k * 7)).off + 4, none⟩ = some (.int .i64 y.F.t1) ∧ W.cell? ⟨(ad.add (k * 7)).block, (ad.add (k * 7)).off + 5, none⟩ = some (.int .i64 y.F.t2) ∧ W.cell? ⟨(ad.add (k * 7)).block, (ad.add (k * 7)).off + 6, none⟩ = some (.int .i64 y.F.n) ∧ Hid (Below w1.heap.size w1 W)) (by kernel_rfl) ?_ (fun hHeld => ?_)
                · exact HS.out _ (below_drewN (n := 1) G1.out.2)
                (refine wpAnyH_take (i := 0) (oi := ⟨_, _, _, _, _, _⟩) (v := ?_) rfl (by kernel_rfl) (by kernel_rfl) (by kernel_rfl) (fun _ _ _ h => h) (Or.inl ⟨by rfl, ?_⟩) (by assumption) ?_; rotate_left 1; · (intro w hSw; (try dsimp only at hSw); go_simp; all_goals with_reducible rfl))
                try simp only [Act.put, List.setIfInBounds_toArray, List.set_cons_zero, List.set_cons_succ]
                (refine wpAnyH_take (i := 1) (oi := ⟨_, _, _, _, _, _⟩) (v := ?_) rfl (by kernel_rfl) (by kernel_rfl) (by kernel_rfl) (fun _ _ _ h => h) (Or.inl ⟨by rfl, ?_⟩) (by assumption) ?_; rotate_left 1; · (intro w hSw; (try dsimp only at hSw); go_simp; all_goals with_reducible rfl))
                try simp only [Act.put, List.setIfInBounds_toArray, List.set_cons_zero, List.set_cons_succ]
                (refine wpAnyH_take (i := 2) (oi := ⟨_, _, _, _, _, _⟩) (v := ?_) rfl (by kernel_rfl) (by kernel_rfl) (by kernel_rfl) (fun _ _ _ h => h) (Or.inl ⟨by rfl, ?_⟩) (by assumption) ?_; rotate_left 1; · (intro w hSw; (try dsimp only at hSw); go_simp; all_goals with_reducible rfl))
                try simp only [Act.put, List.setIfInBounds_toArray, List.set_cons_zero, List.set_cons_succ]
                (refine wpAnyH_take (i := 3) (oi := ⟨_, _, _, _, _, _⟩) (v := ?_) rfl (by kernel_rfl) (by kernel_rfl) (by kernel_rfl) (fun _ _ _ h => h) (Or.inl ⟨by rfl, ?_⟩) (by assumption) ?_; rotate_left 1; · (intro w hSw; (try dsimp only at hSw); go_simp; all_goals with_reducible rfl))
                try simp only [Act.put, List.setIfInBounds_toArray, List.set_cons_zero, List.set_cons_succ]
                (refine wpAnyH_take (i := 4) (oi := ⟨_, _, _, _, _, _⟩) (v := ?_) rfl (by kernel_rfl) (by kernel_rfl) (by kernel_rfl) (fun _ _ _ h => h) (Or.inl ⟨by rfl, ?_⟩) (by assumption) ?_; rotate_left 1; · (intro w hSw; (try dsimp only at hSw); go_simp; all_goals with_reducible rfl))
                try simp only [Act.put, List.setIfInBounds_toArray, List.set_cons_zero, List.set_cons_succ]
                (refine wpAnyH_take (i := 6) (oi := ⟨_, _, _, _, _, _⟩) (v := ?_) rfl (by kernel_rfl) (by kernel_rfl) (by kernel_rfl) (fun _ _ _ h => h) (Or.inl ⟨by rfl, ?_⟩) (by assumption) ?_; rotate_left 1; · (intro w hSw; (try dsimp only at hSw); go_simp; all_goals with_reducible rfl))
                try simp only [Act.put, List.setIfInBounds_toArray, List.set_cons_zero, List.set_cons_succ]
                refine wpAnyH_ready (rs := [5]) (by kernel_rfl) (by simp) ?_
                refine AllReadyH.cons (o := ⟨_, _, _, _, _, _⟩) rfl (fun Kq hKq => ?_) AllReadyH.nil
                go_simp
                clear hHeld
                (go_at_call 16; (with_reducible refine (frame_any y _).mono ?_); rintro e w7 ⟨rfl, hb⟩; have G2 := Lib.hid (show Lk w7 w1.heap.size x m ((n + 1) + k) Mk ∧ Below w1.heap.size w1 w7 from ⟨G1.out.1.drewN (c := 1) |>.below hb, G1.out.2.trans (((below_drewN (n := 1) (Below.refl _ _)).trans hb).mono G1.out.1.base)⟩); clear hb)
                refine hKq.out _ _ ?_ (fun hHeld => ?_)
                · (try dsimp only); exact HS.out _ G2.out.2
                clear hKq Kq
                try simp only [Act.put, List.setIfInBounds_toArray, List.set_cons_zero, List.set_cons_succ]
                refine wpAnyH_ready (rs := [7]) (by kernel_rfl) (by simp) ?_
                refine AllReadyH.cons (o := ⟨_, _, _, _, _, _⟩) rfl (fun Kq hKq => ?_) AllReadyH.nil
                go_simp
                clear hHeld
                (go_at_call 15; (with_reducible refine (take_any _ w1.heap.size x _ m Mk G2.out.1 HN.out y.F m1 m2 HIS.out.1).mono ?_); rintro e w8 ⟨rfl, m8, h1, h2⟩; have G3 := Lib.hid (show Lk w8 w1.heap.size x m8 ((n + 1) + k + 1) (takeM Mk y.F m1 m2) ∧ Below w1.heap.size w1 w8 from ⟨h1, h2.ahead G2.out.2 G2.out.1⟩); clear h1 h2)
                refine hKq.out _ _ ?_ (fun hHeld => ?_)
                · (try dsimp only); exact HS.out _ G3.out.2
                clear hKq Kq
                try simp only [Act.put, List.setIfInBounds_toArray, List.set_cons_zero, List.set_cons_succ]
                refine wpAnyH_done (by kernel_rfl) ?_ _
                clear hHeld HS G1 G2
                go_wp2_with fail
                go_roundw
                case rel => exact ⟨k + 1, m8, by omega, by go_num, Lib.hid (by rw [HPL.out, HST.out]; exact G3.out)⟩
                case measure => simp [intOf]; omega
              · have HQ := Lib.hid hq
                have HST := Lib.hid (show step m1 m2 Mk y = fenceM Mk y.F.f1 y.F.f2 by unfold step; rw [hq]; rfl)
                clear hq
                obtain ⟨_, _, c0, _, c2, c3, _⟩ := HS.out _ G1.out.2
                rw [HQ.out] at c0
                go_wp2_with (go_at_call 13; (with_reducible refine (fence_any _ w1.heap.size x _ m Mk G1.out.1 HN.out y.F.f1 y.F.f2 HIS.out.1).mono ?_); rintro e w8 ⟨rfl, m8, h1, h2⟩; have G3 := Lib.hid (show Lk w8 w1.heap.size x m8 ((n + 1) + k + 1) (fenceM Mk y.F.f1 y.F.f2) ∧ Below w1.heap.size w1 w8 from ⟨h1, h2.ahead G1.out.2 G1.out.1⟩); clear h1 h2)
                go_roundw
                case rel => exact ⟨k + 1, m8, by omega, by go_num, Lib.hid (by rw [HPL.out, HST.out]; exact G3.out)⟩
                case measure => simp [intOf]; omega
            · have hke : k = bh.length := by omega
              subst hke
              rw [List.take_length] at G1
              have hd : decide ((bh.length : Int) < (bh.length : Int)) = false := by simp
              clear hlt hk
              go_wp2_with fail
              go_ret
              exact ⟨rfl, B1.out.trans (G1.out.2.mono B1.out.size)⟩
      · rw [hq] at d0
        have HQ := Lib.hid hq
        clear hq
        cases hm : mayI s.F.f1 s.F.f2
        · have HFE0 := Lib.hid (show fenceE s.F.f1 s.F.f2 = 4 by unfold fenceE; rw [hm]; rfl)
          clear hm
          go_wp2_with fail
          (with_reducible refine (fence_is 4 _ _ _ x n m M HX.out HN0.out s.F.f1 s.F.f2 HIS.out.f1 HFE0.out rfl).mono ?_)
          rintro e w5 ⟨rfl, m5, h1, h2⟩
          have G5 := Lib.hid (show Lk w5 w1.heap.size x m5 (n + 1) (fenceM M s.F.f1 s.F.f2) ∧ Below w1.heap.size w1 w5 from ⟨h1, h2.ahead B3.out HX.out⟩)
          clear h1 h2 d0 d2 d3
          have HUP := Lib.hid (fenceM_upto M s.F.f1 s.F.f2 s.F.f1).1
          generalize fenceM M s.F.f1 s.F.f2 = M1 at *
          obtain ⟨-, -, -, -, d2, -⟩ := both_cells X1.out X2.out G5.out.2
          have hup := HUP.out
          generalize hwas : (M s.F.f1).nw = was at *
          clear hwas
          have HNEW := Lib.hid (newest_any _ _ x (n + 1) m5 M1 G5.out.1 s.F.f1 HIS.out.f1)
          go_wp2_with fail
          (with_reducible refine HNEW.out.mono ?_)
          rintro e w' ⟨rfl, rfl⟩
          go_wp2_with fail
          clear HNEW
          have G0 : Hid (Lk w5 w1.heap.size x m5 (n + 1 + 0) (plays m1 m2 M1 (bh.take 0)) ∧ Below w1.heap.size w1 w5) := G5
          clear d2 G5 hup HUP
          go_loopw [14] (fun s14 wr => ∃ (k : Nat) (m : Option Nat), k ≤ bh.length ∧ s14 = .int .i64 k ∧ Hid (Lk wr w1.heap.size x m ((n + 1) + k) (plays m1 m2 M1 (bh.take k)) ∧ Below w1.heap.size w1 wr)) (fun s14 _ => bh.length - (intOf s14).toNat)
          case atStart => exact ⟨0, _, by omega, rfl, G0⟩
          case round =>
            clear G0
            obtain ⟨k, m, hk, rfl, G1⟩ := hrel
            by_cases hlt : k < bh.length
            · have hd : decide ((k : Int) < (bh.length : Int)) = true := by simp; omega
              have i3 : (0 : Int) ≤ (k : Int) := by omega
              have i4 : (k : Int) < (bh.length : Int) := by omega
              have i5 : (bh.length : Int) ≤ 100000 := by have := HLB.out; omega
              have HPL := Lib.hid (plays_snoc m1 m2 M1 bh k hlt)
              obtain ⟨ad, rfl, hcs⟩ := steps_at HU.out hlt
              have HIS := Lib.hid (HBI.out _ (List.getElem_mem hlt))
              generalize hsy : bh[k] = y at *
              clear hsy
              have HS : Hid (∀ W, Below w1.heap.size w1 W → (W.cell? ⟨w.heap.size, 0, none⟩ = some (.int .i64 m1) ∧ W.cell? ⟨w.heap.size, 1, none⟩ = some (.int .i64 m2) ∧ W.cell? (ad.add (k * 7)) = some (.bool y.q) ∧ W.cell? ⟨(ad.add (k * 7)).block, (ad.add (k * 7)).off + 1, none⟩ = some (.int .u8 y.F.k) ∧ W.cell? ⟨(ad.add (k * 7)).block, (ad.add (k * 7)).off + 2, none⟩ = some (.int .i64 y.F.f1) ∧ W.cell? ⟨(ad.add (k * 7)).block, (ad.add (k * 7)).off + 3, none⟩ = some (.int .i64 y.F.f2) ∧ W.cell? ⟨(ad.add (k * 7)).block, (ad.add (k * 7)).off + 4, none⟩ = some (.int .i64 y.F.t1) ∧ W.cell? ⟨(ad.add (k * 7)).block, (ad.add (k * 7)).off + 5, none⟩ = some (.int .i64 y.F.t2) ∧ W.cell? ⟨(ad.add (k * 7)).block, (ad.add (k * 7)).off + 6, none⟩ = some (.int .i64 y.F.n) ∧ Hid (Below w1.heap.size w1 W))) := Lib.hid fun W hb =>
                have b := box_cells (box_below HME.out hb (box_lt HME.out))
                have s := hcs W hb
                ⟨b.1, b.2, s.1, s.2.1, s.2.2.1, s.2.2.2.1, s.2.2.2.2.1, s.2.2.2.2.2.1, s.2.2.2.2.2.2, Lib.hid hb⟩
              clear hcs
              generalize hMk : plays m1 m2 M1 (bh.take k) = Mk at *
              clear hMk
              have HN := Lib.hid (show (n + 1) + k < maxLen by have := HLB.out; have := HNL.out; unfold maxLen; omega)
              cases hq : y.q
              · have HQ := Lib.hid hq
                have HST := Lib.hid (show step m1 m2 Mk y = takeM Mk y.F m1 m2 by unfold step; rw [hq]; rfl)
                clear hq
                obtain ⟨_, _, c0, _⟩ := HS.out _ G1.out.2
                rw [HQ.out] at c0
                go_wp2_with fail
                clear c0
                refine wp_region_held_drew (S := fun W => W.cell? ⟨w.heap.size, 0, none⟩ = some (.int .i64 m1) ∧ W.cell? ⟨w.heap.size, 1, none⟩ = some (.int .i64 m2) ∧ W.cell? (ad.add (k * 7)) = some (.bool y.q) ∧ W.cell? ⟨(ad.add (k * 7)).block, (ad.add (k * 7)).off + 1, none⟩ = some (.int .u8 y.F.k) ∧ W.cell? ⟨(ad.add (k * 7)).block, (ad.add (k * 7)).off + 2, none⟩ = some (.int .i64 y.F.f1) ∧ W.cell? ⟨(ad.add (k * 7)).block, (ad.add (k * 7)).off + 3, none⟩ = some (.int .i64 y.F.f2) ∧ W.cell? ⟨(ad.add (k * 7)).block, (ad.add (k * 7)).off + 4, none⟩ = some (.int .i64 y.F.t1) ∧ W.cell? ⟨(ad.add (k * 7)).block, (ad.add (k * 7)).off + 5, none⟩ = some (.int .i64 y.F.t2) ∧ W.cell? ⟨(ad.add (k * 7)).block, (ad.add (k * 7)).off + 6, none⟩ = some (.int .i64 y.F.n) ∧ Hid (Below w1.heap.size w1 W)) (by kernel_rfl) ?_ (fun hHeld => ?_)
                · exact HS.out _ (below_drewN (n := 1) G1.out.2)
                (refine wpAnyH_take (i := 0) (oi := ⟨_, _, _, _, _, _⟩) (v := ?_) rfl (by kernel_rfl) (by kernel_rfl) (by kernel_rfl) (fun _ _ _ h => h) (Or.inl ⟨by rfl, ?_⟩) (by assumption) ?_; rotate_left 1; · (intro w hSw; (try dsimp only at hSw); go_simp; all_goals with_reducible rfl))
                try simp only [Act.put, List.setIfInBounds_toArray, List.set_cons_zero, List.set_cons_succ]
                (refine wpAnyH_take (i := 1) (oi := ⟨_, _, _, _, _, _⟩) (v := ?_) rfl (by kernel_rfl) (by kernel_rfl) (by kernel_rfl) (fun _ _ _ h => h) (Or.inl ⟨by rfl, ?_⟩) (by assumption) ?_; rotate_left 1; · (intro w hSw; (try dsimp only at hSw); go_simp; all_goals with_reducible rfl))
                try simp only [Act.put, List.setIfInBounds_toArray, List.set_cons_zero, List.set_cons_succ]
                (refine wpAnyH_take (i := 2) (oi := ⟨_, _, _, _, _, _⟩) (v := ?_) rfl (by kernel_rfl) (by kernel_rfl) (by kernel_rfl) (fun _ _ _ h => h) (Or.inl ⟨by rfl, ?_⟩) (by assumption) ?_; rotate_left 1; · (intro w hSw; (try dsimp only at hSw); go_simp; all_goals with_reducible rfl))
                try simp only [Act.put, List.setIfInBounds_toArray, List.set_cons_zero, List.set_cons_succ]
                (refine wpAnyH_take (i := 3) (oi := ⟨_, _, _, _, _, _⟩) (v := ?_) rfl (by kernel_rfl) (by kernel_rfl) (by kernel_rfl) (fun _ _ _ h => h) (Or.inl ⟨by rfl, ?_⟩) (by assumption) ?_; rotate_left 1; · (intro w hSw; (try dsimp only at hSw); go_simp; all_goals with_reducible rfl))
                try simp only [Act.put, List.setIfInBounds_toArray, List.set_cons_zero, List.set_cons_succ]
                (refine wpAnyH_take (i := 4) (oi := ⟨_, _, _, _, _, _⟩) (v := ?_) rfl (by kernel_rfl) (by kernel_rfl) (by kernel_rfl) (fun _ _ _ h => h) (Or.inl ⟨by rfl, ?_⟩) (by assumption) ?_; rotate_left 1; · (intro w hSw; (try dsimp only at hSw); go_simp; all_goals with_reducible rfl))
                try simp only [Act.put, List.setIfInBounds_toArray, List.set_cons_zero, List.set_cons_succ]
                (refine wpAnyH_take (i := 6) (oi := ⟨_, _, _, _, _, _⟩) (v := ?_) rfl (by kernel_rfl) (by kernel_rfl) (by kernel_rfl) (fun _ _ _ h => h) (Or.inl ⟨by rfl, ?_⟩) (by assumption) ?_; rotate_left 1; · (intro w hSw; (try dsimp only at hSw); go_simp; all_goals with_reducible rfl))
                try simp only [Act.put, List.setIfInBounds_toArray, List.set_cons_zero, List.set_cons_succ]
                refine wpAnyH_ready (rs := [5]) (by kernel_rfl) (by simp) ?_
                refine AllReadyH.cons (o := ⟨_, _, _, _, _, _⟩) rfl (fun Kq hKq => ?_) AllReadyH.nil
                go_simp
                clear hHeld
                (go_at_call 16; (with_reducible refine (frame_any y _).mono ?_); rintro e w7 ⟨rfl, hb⟩; have G2 := Lib.hid (show Lk w7 w1.heap.size x m ((n + 1) + k) Mk ∧ Below w1.heap.size w1 w7 from ⟨G1.out.1.drewN (c := 1) |>.below hb, G1.out.2.trans (((below_drewN (n := 1) (Below.refl _ _)).trans hb).mono G1.out.1.base)⟩); clear hb)
                refine hKq.out _ _ ?_ (fun hHeld => ?_)
                · (try dsimp only); exact HS.out _ G2.out.2
                clear hKq Kq
                try simp only [Act.put, List.setIfInBounds_toArray, List.set_cons_zero, List.set_cons_succ]
                refine wpAnyH_ready (rs := [7]) (by kernel_rfl) (by simp) ?_
                refine AllReadyH.cons (o := ⟨_, _, _, _, _, _⟩) rfl (fun Kq hKq => ?_) AllReadyH.nil
                go_simp
                clear hHeld
                (go_at_call 15; (with_reducible refine (take_any _ w1.heap.size x _ m Mk G2.out.1 HN.out y.F m1 m2 HIS.out.1).mono ?_); rintro e w8 ⟨rfl, m8, h1, h2⟩; have G3 := Lib.hid (show Lk w8 w1.heap.size x m8 ((n + 1) + k + 1) (takeM Mk y.F m1 m2) ∧ Below w1.heap.size w1 w8 from ⟨h1, h2.ahead G2.out.2 G2.out.1⟩); clear h1 h2)
                refine hKq.out _ _ ?_ (fun hHeld => ?_)
                · (try dsimp only); exact HS.out _ G3.out.2
                clear hKq Kq
                try simp only [Act.put, List.setIfInBounds_toArray, List.set_cons_zero, List.set_cons_succ]
                refine wpAnyH_done (by kernel_rfl) ?_ _
                clear hHeld HS G1 G2
                go_wp2_with fail
                go_roundw
                case rel => exact ⟨k + 1, m8, by omega, by go_num, Lib.hid (by rw [HPL.out, HST.out]; exact G3.out)⟩
                case measure => simp [intOf]; omega
              · have HQ := Lib.hid hq
                have HST := Lib.hid (show step m1 m2 Mk y = fenceM Mk y.F.f1 y.F.f2 by unfold step; rw [hq]; rfl)
                clear hq
                obtain ⟨_, _, c0, _, c2, c3, _⟩ := HS.out _ G1.out.2
                rw [HQ.out] at c0
                go_wp2_with (go_at_call 13; (with_reducible refine (fence_any _ w1.heap.size x _ m Mk G1.out.1 HN.out y.F.f1 y.F.f2 HIS.out.1).mono ?_); rintro e w8 ⟨rfl, m8, h1, h2⟩; have G3 := Lib.hid (show Lk w8 w1.heap.size x m8 ((n + 1) + k + 1) (fenceM Mk y.F.f1 y.F.f2) ∧ Below w1.heap.size w1 w8 from ⟨h1, h2.ahead G1.out.2 G1.out.1⟩); clear h1 h2)
                go_roundw
                case rel => exact ⟨k + 1, m8, by omega, by go_num, Lib.hid (by rw [HPL.out, HST.out]; exact G3.out)⟩
                case measure => simp [intOf]; omega
            · have hke : k = bh.length := by omega
              subst hke
              rw [List.take_length] at G1
              have hd : decide ((bh.length : Int) < (bh.length : Int)) = false := by simp
              clear hlt hk
              go_wp2_with fail
              go_ret
              exact ⟨rfl, B1.out.trans (G1.out.2.mono B1.out.size)⟩
        · have HFE0 := Lib.hid (show fenceE s.F.f1 s.F.f2 = 0 by unfold fenceE; rw [hm]; rfl)
          have HDN := Lib.hid (fence_done (M := M) HFE0.out).1
          clear hm
          go_wp2_with fail
          (with_reducible refine (fence_is 0 _ _ _ x n m M HX.out HN0.out s.F.f1 s.F.f2 HIS.out.f1 HFE0.out rfl).mono ?_)
          rintro e w5 ⟨rfl, m5, h1, h2⟩
          have G5 := Lib.hid (show Lk w5 w1.heap.size x m5 (n + 1) (fenceM M s.F.f1 s.F.f2) ∧ Below w1.heap.size w1 w5 from ⟨h1, h2.ahead B3.out HX.out⟩)
          clear h1 h2 d0 d2 d3
          have HUP := Lib.hid (fenceM_upto M s.F.f1 s.F.f2 s.F.f1).1
          generalize fenceM M s.F.f1 s.F.f2 = M1 at *
          obtain ⟨-, -, -, -, d2, -⟩ := both_cells X1.out X2.out G5.out.2
          have hup := HUP.out
          generalize hwas : (M s.F.f1).nw = was at *
          clear hwas
          have HNEW := Lib.hid (newest_any _ _ x (n + 1) m5 M1 G5.out.1 s.F.f1 HIS.out.f1)
          go_wp2_with fail
          (with_reducible refine HNEW.out.mono ?_)
          rintro e w' ⟨rfl, rfl⟩
          go_wp2_with fail
          clear HNEW
          have G0 : Hid (Lk w5 w1.heap.size x m5 (n + 1 + 0) (plays m1 m2 M1 (bh.take 0)) ∧ Below w1.heap.size w1 w5) := G5
          clear d2 G5 hup HUP
          go_loopw [14] (fun s14 wr => ∃ (k : Nat) (m : Option Nat), k ≤ bh.length ∧ s14 = .int .i64 k ∧ Hid (Lk wr w1.heap.size x m ((n + 1) + k) (plays m1 m2 M1 (bh.take k)) ∧ Below w1.heap.size w1 wr)) (fun s14 _ => bh.length - (intOf s14).toNat)
          case atStart => exact ⟨0, _, by omega, rfl, G0⟩
          case round =>
            clear G0
            obtain ⟨k, m, hk, rfl, G1⟩ := hrel
            by_cases hlt : k < bh.length
            · have hd : decide ((k : Int) < (bh.length : Int)) = true := by simp; omega
              have i3 : (0 : Int) ≤ (k : Int) := by omega
              have i4 : (k : Int) < (bh.length : Int) := by omega
              have i5 : (bh.length : Int) ≤ 100000 := by have := HLB.out; omega
              have HPL := Lib.hid (plays_snoc m1 m2 M1 bh k hlt)
              obtain ⟨ad, rfl, hcs⟩ := steps_at HU.out hlt
              have HIS := Lib.hid (HBI.out _ (List.getElem_mem hlt))
              generalize hsy : bh[k] = y at *
              clear hsy
              have HS : Hid (∀ W, Below w1.heap.size w1 W → (W.cell? ⟨w.heap.size, 0, none⟩ = some (.int .i64 m1) ∧ W.cell? ⟨w.heap.size, 1, none⟩ = some (.int .i64 m2) ∧ W.cell? (ad.add (k * 7)) = some (.bool y.q) ∧ W.cell? ⟨(ad.add (k * 7)).block, (ad.add (k * 7)).off + 1, none⟩ = some (.int .u8 y.F.k) ∧ W.cell? ⟨(ad.add (k * 7)).block, (ad.add (k * 7)).off + 2, none⟩ = some (.int .i64 y.F.f1) ∧ W.cell? ⟨(ad.add (k * 7)).block, (ad.add (k * 7)).off + 3, none⟩ = some (.int .i64 y.F.f2) ∧ W.cell? ⟨(ad.add (k * 7)).block, (ad.add (k * 7)).off + 4, none⟩ = some (.int .i64 y.F.t1) ∧ W.cell? ⟨(ad.add (k * 7)).block, (ad.add (k * 7)).off + 5, none⟩ = some (.int .i64 y.F.t2) ∧ W.cell? ⟨(ad.add (k * 7)).block, (ad.add (k * 7)).off + 6, none⟩ = some (.int .i64 y.F.n) ∧ Hid (Below w1.heap.size w1 W))) := Lib.hid fun W hb =>
                have b := box_cells (box_below HME.out hb (box_lt HME.out))
                have s := hcs W hb
                ⟨b.1, b.2, s.1, s.2.1, s.2.2.1, s.2.2.2.1, s.2.2.2.2.1, s.2.2.2.2.2.1, s.2.2.2.2.2.2, Lib.hid hb⟩
              clear hcs
              generalize hMk : plays m1 m2 M1 (bh.take k) = Mk at *
              clear hMk
              have HN := Lib.hid (show (n + 1) + k < maxLen by have := HLB.out; have := HNL.out; unfold maxLen; omega)
              cases hq : y.q
              · have HQ := Lib.hid hq
                have HST := Lib.hid (show step m1 m2 Mk y = takeM Mk y.F m1 m2 by unfold step; rw [hq]; rfl)
                clear hq
                obtain ⟨_, _, c0, _⟩ := HS.out _ G1.out.2
                rw [HQ.out] at c0
                go_wp2_with fail
                clear c0
                refine wp_region_held_drew (S := fun W => W.cell? ⟨w.heap.size, 0, none⟩ = some (.int .i64 m1) ∧ W.cell? ⟨w.heap.size, 1, none⟩ = some (.int .i64 m2) ∧ W.cell? (ad.add (k * 7)) = some (.bool y.q) ∧ W.cell? ⟨(ad.add (k * 7)).block, (ad.add (k * 7)).off + 1, none⟩ = some (.int .u8 y.F.k) ∧ W.cell? ⟨(ad.add (k * 7)).block, (ad.add (k * 7)).off + 2, none⟩ = some (.int .i64 y.F.f1) ∧ W.cell? ⟨(ad.add (k * 7)).block, (ad.add (k * 7)).off + 3, none⟩ = some (.int .i64 y.F.f2) ∧ W.cell? ⟨(ad.add (k * 7)).block, (ad.add (k * 7)).off + 4, none⟩ = some (.int .i64 y.F.t1) ∧ W.cell? ⟨(ad.add (k * 7)).block, (ad.add (k * 7)).off + 5, none⟩ = some (.int .i64 y.F.t2) ∧ W.cell? ⟨(ad.add (k * 7)).block, (ad.add (k * 7)).off + 6, none⟩ = some (.int .i64 y.F.n) ∧ Hid (Below w1.heap.size w1 W)) (by kernel_rfl) ?_ (fun hHeld => ?_)
                · exact HS.out _ (below_drewN (n := 1) G1.out.2)
                (refine wpAnyH_take (i := 0) (oi := ⟨_, _, _, _, _, _⟩) (v := ?_) rfl (by kernel_rfl) (by kernel_rfl) (by kernel_rfl) (fun _ _ _ h => h) (Or.inl ⟨by rfl, ?_⟩) (by assumption) ?_; rotate_left 1; · (intro w hSw; (try dsimp only at hSw); go_simp; all_goals with_reducible rfl))
                try simp only [Act.put, List.setIfInBounds_toArray, List.set_cons_zero, List.set_cons_succ]
                (refine wpAnyH_take (i := 1) (oi := ⟨_, _, _, _, _, _⟩) (v := ?_) rfl (by kernel_rfl) (by kernel_rfl) (by kernel_rfl) (fun _ _ _ h => h) (Or.inl ⟨by rfl, ?_⟩) (by assumption) ?_; rotate_left 1; · (intro w hSw; (try dsimp only at hSw); go_simp; all_goals with_reducible rfl))
                try simp only [Act.put, List.setIfInBounds_toArray, List.set_cons_zero, List.set_cons_succ]
                (refine wpAnyH_take (i := 2) (oi := ⟨_, _, _, _, _, _⟩) (v := ?_) rfl (by kernel_rfl) (by kernel_rfl) (by kernel_rfl) (fun _ _ _ h => h) (Or.inl ⟨by rfl, ?_⟩) (by assumption) ?_; rotate_left 1; · (intro w hSw; (try dsimp only at hSw); go_simp; all_goals with_reducible rfl))
                try simp only [Act.put, List.setIfInBounds_toArray, List.set_cons_zero, List.set_cons_succ]
                (refine wpAnyH_take (i := 3) (oi := ⟨_, _, _, _, _, _⟩) (v := ?_) rfl (by kernel_rfl) (by kernel_rfl) (by kernel_rfl) (fun _ _ _ h => h) (Or.inl ⟨by rfl, ?_⟩) (by assumption) ?_; rotate_left 1; · (intro w hSw; (try dsimp only at hSw); go_simp; all_goals with_reducible rfl))
                try simp only [Act.put, List.setIfInBounds_toArray, List.set_cons_zero, List.set_cons_succ]
                (refine wpAnyH_take (i := 4) (oi := ⟨_, _, _, _, _, _⟩) (v := ?_) rfl (by kernel_rfl) (by kernel_rfl) (by kernel_rfl) (fun _ _ _ h => h) (Or.inl ⟨by rfl, ?_⟩) (by assumption) ?_; rotate_left 1; · (intro w hSw; (try dsimp only at hSw); go_simp; all_goals with_reducible rfl))
                try simp only [Act.put, List.setIfInBounds_toArray, List.set_cons_zero, List.set_cons_succ]
                (refine wpAnyH_take (i := 6) (oi := ⟨_, _, _, _, _, _⟩) (v := ?_) rfl (by kernel_rfl) (by kernel_rfl) (by kernel_rfl) (fun _ _ _ h => h) (Or.inl ⟨by rfl, ?_⟩) (by assumption) ?_; rotate_left 1; · (intro w hSw; (try dsimp only at hSw); go_simp; all_goals with_reducible rfl))
                try simp only [Act.put, List.setIfInBounds_toArray, List.set_cons_zero, List.set_cons_succ]
                refine wpAnyH_ready (rs := [5]) (by kernel_rfl) (by simp) ?_
                refine AllReadyH.cons (o := ⟨_, _, _, _, _, _⟩) rfl (fun Kq hKq => ?_) AllReadyH.nil
                go_simp
                clear hHeld
                (go_at_call 16; (with_reducible refine (frame_any y _).mono ?_); rintro e w7 ⟨rfl, hb⟩; have G2 := Lib.hid (show Lk w7 w1.heap.size x m ((n + 1) + k) Mk ∧ Below w1.heap.size w1 w7 from ⟨G1.out.1.drewN (c := 1) |>.below hb, G1.out.2.trans (((below_drewN (n := 1) (Below.refl _ _)).trans hb).mono G1.out.1.base)⟩); clear hb)
                refine hKq.out _ _ ?_ (fun hHeld => ?_)
                · (try dsimp only); exact HS.out _ G2.out.2
                clear hKq Kq
                try simp only [Act.put, List.setIfInBounds_toArray, List.set_cons_zero, List.set_cons_succ]
                refine wpAnyH_ready (rs := [7]) (by kernel_rfl) (by simp) ?_
                refine AllReadyH.cons (o := ⟨_, _, _, _, _, _⟩) rfl (fun Kq hKq => ?_) AllReadyH.nil
                go_simp
                clear hHeld
                (go_at_call 15; (with_reducible refine (take_any _ w1.heap.size x _ m Mk G2.out.1 HN.out y.F m1 m2 HIS.out.1).mono ?_); rintro e w8 ⟨rfl, m8, h1, h2⟩; have G3 := Lib.hid (show Lk w8 w1.heap.size x m8 ((n + 1) + k + 1) (takeM Mk y.F m1 m2) ∧ Below w1.heap.size w1 w8 from ⟨h1, h2.ahead G2.out.2 G2.out.1⟩); clear h1 h2)
                refine hKq.out _ _ ?_ (fun hHeld => ?_)
                · (try dsimp only); exact HS.out _ G3.out.2
                clear hKq Kq
                try simp only [Act.put, List.setIfInBounds_toArray, List.set_cons_zero, List.set_cons_succ]
                refine wpAnyH_done (by kernel_rfl) ?_ _
                clear hHeld HS G1 G2
                go_wp2_with fail
                go_roundw
                case rel => exact ⟨k + 1, m8, by omega, by go_num, Lib.hid (by rw [HPL.out, HST.out]; exact G3.out)⟩
                case measure => simp [intOf]; omega
              · have HQ := Lib.hid hq
                have HST := Lib.hid (show step m1 m2 Mk y = fenceM Mk y.F.f1 y.F.f2 by unfold step; rw [hq]; rfl)
                clear hq
                obtain ⟨_, _, c0, _, c2, c3, _⟩ := HS.out _ G1.out.2
                rw [HQ.out] at c0
                go_wp2_with (go_at_call 13; (with_reducible refine (fence_any _ w1.heap.size x _ m Mk G1.out.1 HN.out y.F.f1 y.F.f2 HIS.out.1).mono ?_); rintro e w8 ⟨rfl, m8, h1, h2⟩; have G3 := Lib.hid (show Lk w8 w1.heap.size x m8 ((n + 1) + k + 1) (fenceM Mk y.F.f1 y.F.f2) ∧ Below w1.heap.size w1 w8 from ⟨h1, h2.ahead G1.out.2 G1.out.1⟩); clear h1 h2)
                go_roundw
                case rel => exact ⟨k + 1, m8, by omega, by go_num, Lib.hid (by rw [HPL.out, HST.out]; exact G3.out)⟩
                case measure => simp [intOf]; omega
            · have hke : k = bh.length := by omega
              subst hke
              rw [List.take_length] at G1
              have hd : decide ((bh.length : Int) < (bh.length : Int)) = false := by simp
              clear hlt hk
              have KUP := Lib.hid (plays_upto m1 m2 bh M1 s.F.f1)
              have HNK := Lib.hid (show n + 1 + bh.length < maxLen by have := HNL.out; have := HLB.out; unfold maxLen; omega)
              generalize plays m1 m2 M1 bh = K at *
              obtain ⟨-, -, d0, d1, d2, d3, d4, d5, d6⟩ := both_cells X1.out X2.out G1.out.2
              go_wp2_with fail
              (with_reducible refine (frame_any s _).mono ?_)
              rintro e w7 ⟨rfl, hb⟩
              have L7 := Lib.hid (G1.out.1.below hb)
              have B7 := Lib.hid (G1.out.2.trans (hb.mono G1.out.1.base))
              clear hb d0 d1 d2 d3 d4 d5 d6 G1
              go_upto_region 20 with (fail)
              have F8 := Lib.hid (fbox_new w7 s.F)
              have L8 := Lib.hid (L7.out.below (below_one w7 (.cells #[.int .u8 s.F.k, .int .i64 s.F.f1, .int .i64 s.F.f2, .int .i64 s.F.t1, .int .i64 s.F.t2, .int .i64 s.F.n, .int .i64 0, .int .i64 0, .int .i64 0, .slice none 0 0, .slice none 0 0, .slice none 0 0, .slice none 0 0, .slice none 0 0] 42)))
              have B8 := Lib.hid (B7.out.trans ((below_one w7 (.cells #[.int .u8 s.F.k, .int .i64 s.F.f1, .int .i64 s.F.f2, .int .i64 s.F.t1, .int .i64 s.F.t2, .int .i64 s.F.n, .int .i64 0, .int .i64 0, .int .i64 0, .slice none 0 0, .slice none 0 0, .slice none 0 0, .slice none 0 0, .slice none 0 0] 42)).mono L7.out.base))
              have HGF := Lib.hid (show w1.heap.size ≤ w7.heap.size from B7.out.size)
              generalize hW8 : World.alloc w7 _ = w8 at *
              generalize w7.heap.size = gf at *
              clear hW8 L7 B7
              obtain ⟨-, -, d0, -, d2, d3, -⟩ := both_cells X1.out X2.out B8.out
              rw [HQ.out] at d0
              have f2 := fbox_free2 F8.out
              obtain ⟨-, -, e2, -⟩ := fbox_all F8.out
              have hmin := min_two inc (s.F.f2)
              have HD : Hid (min inc s.F.f2 ≤ s.F.f2) := Lib.hid (by omega)
              generalize min inc s.F.f2 = d at *
              go_upto_region 23 with (fail)
              have F9 := Lib.hid (fbox_set2 F8.out d)
              have L9 := Lib.hid (L8.out.storeT F8.out (by decide) 2 (.int .i64 d))
              have B9 := Lib.hid (B8.out.setCell (p := ⟨gf, 2, none⟩) HGF.out (.int .i64 d))
              generalize hW9 : World.setCell w8 _ _ = w9 at *
              clear hW9 d0 d2 d3 f2 e2 hmin F8 L8 B8
              have f5 := fbox_free5 F9.out
              obtain ⟨-, -, -, -, -, e5, -⟩ := fbox_all F9.out
              dsimp only at e5
              go_upto_region 24 with (fail)
              have F10 := Lib.hid (fbox_set5 F9.out 1125899906842624)
              have L10 := Lib.hid (L9.out.storeT F9.out (by decide) 5 (.int .i64 1125899906842624))
              have B10 := Lib.hid (B9.out.setCell (p := ⟨gf, 5, none⟩) HGF.out (.int .i64 1125899906842624))
              generalize hWA : World.setCell w9 _ _ = wa at *
              clear hWA f5 e5 F9 L9 B9
              obtain ⟨b0, b1, d0, -⟩ := both_cells X1.out X2.out B10.out
              rw [HQ.out] at d0
              obtain ⟨p0, p1, p2, p3, p4, p5, p6, p7, p8, p9, pa, pb, pc, pd⟩ := fbox_all F10.out
              dsimp only at p0 p1 p2 p3 p4 p5
              obtain ⟨te, hte⟩ : ∃ te, takeE K ⟨s.F.k, s.F.f1, d, s.F.t1, s.F.t2, 1125899906842624⟩ m1 m2 = te := ⟨_, rfl⟩
              have hne : (te != 0) = true := by
                have := older_refused (K := K) (F := ⟨s.F.k, s.F.f1, d, s.F.t1, s.F.t2, 1125899906842624⟩) (m1 := m1) (m2 := m2) (by
                  have h1 := HDN.out
                  have h2 := KUP.out
                  have h3 := HD.out
                  right
                  dsimp only
                  omega)
                rw [hte] at this
                simpa using this
              have HT9 := Lib.hid hte
              have HMM := Lib.hid (takeM_no (M := K) (F := ⟨s.F.k, s.F.f1, d, s.F.t1, s.F.t2, 1125899906842624⟩) (m1 := m1) (m2 := m2) (by rw [hte]; simpa using hne))
              clear hte
              go_wp2_with fail
              (with_reducible refine (take_of te K _ _ x _ m K L10.out HNK.out s.F.k s.F.f1 d s.F.t1 s.F.t2 1125899906842624 m1 m2 HIS.out.f1 HT9.out HMM.out).mono ?_)
              rintro e wb ⟨rfl, mb, h1, h2⟩
              have LB := Lib.hid h1
              have BB := Lib.hid (h2.ahead B10.out L10.out)
              have FB := Lib.hid (show FBox wb gf _ from h2.kept L10.out F10.out (by decide))
              clear h1 h2 b0 b1 d0 p0 p1 p2 p3 p4 p5 p6 p7 p8 p9 pa pb pc pd
              obtain ⟨-, -, d0, -⟩ := both_cells X1.out X2.out BB.out
              rw [HQ.out] at d0
              obtain ⟨-, p1, p2, -⟩ := fbox_all FB.out
              dsimp only at p1 p2
              cases hmd : mayI s.F.f1 d
              · have HMD := Lib.hid hmd
                clear hmd
                go_wp2_with (go_at_call 23; (with_reducible refine (may_is false s.F.f1 d HMD.out _).mono ?_); rintro e wc ⟨rfl, hb⟩; have BC := Lib.hid (BB.out.trans (hb.mono LB.out.base)); clear hb)
                go_ret
                exact ⟨rfl, B1.out.trans (BC.out.mono B1.out.size)⟩
              · have HMD := Lib.hid hmd
                clear hmd
                have HFE := Lib.hid (show fencedB K s.F.f1 d = true by
                  unfold fencedB
                  rw [HMD.out]
                  have h1 := HDN.out
                  have h2 := KUP.out
                  have h3 := HD.out
                  simp
                  omega)
                go_wp2_with fail
                (with_reducible refine (may_is true s.F.f1 d HMD.out _).mono ?_)
                rintro e wc ⟨rfl, hb⟩
                have LC := Lib.hid (LB.out.below hb)
                have BC := Lib.hid (BB.out.trans (hb.mono LB.out.base))
                have FC := Lib.hid (fbox_below FB.out hb (fbox_lt FB.out))
                clear hb p1 p2 d0
                obtain ⟨-, p1, p2, -⟩ := fbox_all FC.out
                dsimp only at p1 p2
                go_wp2_with fail
                (with_reducible refine (fenced_is true _ _ x _ mb K LC.out s.F.f1 d HIS.out.f1 HFE.out).mono ?_)
                rintro e wd ⟨rfl, hb⟩
                have BD := Lib.hid (BC.out.trans (hb.mono LC.out.base))
                clear hb
                go_wp2_with fail
                go_ret
                exact ⟨rfl, B1.out.trans (BD.out.mono B1.out.size)⟩
end Go.Proofs.Ytgbbmhdkhhchhaa
