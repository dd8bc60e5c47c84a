/-
  A walk: what was taken is not taken again. No statement is proved in this text.
-/
import Derived.Test.YtgbbmhdkhhchhaaLnkN
import Derived.Deep.Cut
import Derived.Deep.CutBlock
set_option maxRecDepth 20000
namespace Go.Proofs.Ytgbbmhdkhhchhaa
open Go Go.RowKit
theorem fbox_set5 {w : World} {g : Nat} {F : Fm} (h : FBox w g F) (d : Int) : FBox (w.setCell ⟨g, 5, none⟩ (.int .i64 d)) g ⟨F.k, F.f1, F.f2, F.t1, F.t2, d⟩ := by
  unfold FBox at *
  simp [World.setCell, Array.getElem?_modify, h]
/-- Another block's cell is written. -/
theorem Lk.storeT {w : World} {base l n g : Nat} {m : Option Nat} {M : Int → Pr} {cs : Array Value} {t : TypeId} {fr : Nat × Nat} (h : Lk w base l m n M) (hp : w.heap[g]? = some (.cells cs t fr)) (ht : t ≠ 54) (i : Nat) (v : Value) : Lk (w.setCell ⟨g, i, none⟩ v) base l m n M := by
  refine ⟨(Below.heap_setCell _ _ _ _ (fun e => ?_)).trans h.x, h.b, h.no, fun b e => ⟨(h.yes b e).1, mapAt_same (h.yes b e).2 (Below.heap_setCell _ _ _ _ (fun e2 => ?_))⟩⟩
  · have hx := h.x
    rw [show l = g from e, hp] at hx
    injection hx with hx
    injection hx with _ h3
    exact ht h3
  · obtain ⟨D, ⟨es, clock, h1, _⟩, _⟩ := (h.yes b e).2
    rw [show b = g from e2, hp] at h1
    cases h1
theorem fbox_all {w : World} {g : Nat} {F : Fm} (h : FBox w g F) : w.cell? ⟨g, 0, none⟩ = some (.int .u8 F.k) ∧ w.cell? ⟨g, 1, none⟩ = some (.int .i64 F.f1) ∧ w.cell? ⟨g, 2, none⟩ = some (.int .i64 F.f2) ∧ w.cell? ⟨g, 3, none⟩ = some (.int .i64 F.t1) ∧ w.cell? ⟨g, 4, none⟩ = some (.int .i64 F.t2) ∧ w.cell? ⟨g, 5, none⟩ = some (.int .i64 F.n) ∧ w.cell? ⟨g, 6, none⟩ = some (.int .i64 0) ∧ w.cell? ⟨g, 7, none⟩ = some (.int .i64 0) ∧ w.cell? ⟨g, 8, none⟩ = some (.int .i64 0) ∧ w.cell? ⟨g, 9, none⟩ = some (.slice none 0 0) ∧ w.cell? ⟨g, 10, none⟩ = some (.slice none 0 0) ∧ w.cell? ⟨g, 11, none⟩ = some (.slice none 0 0) ∧ w.cell? ⟨g, 12, none⟩ = some (.slice none 0 0) ∧ w.cell? ⟨g, 13, none⟩ = some (.slice none 0 0) := by
  unfold FBox at h
  refine ⟨?_, ?_, ?_, ?_, ?_, ?_, ?_, ?_, ?_, ?_, ?_, ?_, ?_, ?_⟩ <;> (rw [cell_of_row _ _ _ _ _ _ h]; rfl)
theorem fbox_free5 {w : World} {g : Nat} {F : Fm} (h : FBox w g F) : w.frozen? ⟨g, 5, none⟩ = false := by
  unfold FBox at h
  simp [World.frozen?, h]
set_option maxHeartbeats 8000000 in
theorem once_any (m1 m2 : Int) (v : Value) (l : List Sp) (s : Sp) (u : Value) (bh : List Sp) (less : Int) (w : World) (h : Rcs encS 7 w v l) (hin : ∀ s ∈ l, InS s) (hs : InS s) (hu : Rcs encS 7 w u bh) (hbin : ∀ s ∈ bh, InS s) (_hless : -9223372036854775808 ≤ less ∧ less ≤ 9223372036854775807) :
    Calls Try.prog 6 #[.agg #[.int .i64 m1, .int .i64 m2], v, .agg #[.bool s.q, .int .u8 s.F.k, .int .i64 s.F.f1, .int .i64 s.F.f2, .int .i64 s.F.t1, .int .i64 s.F.t2, .int .i64 s.F.n], u, .int .i64 less] w fun e w' => e = .returned (.bool true) ∧ Below w.heap.size w w' := by
  have B1 := Lib.hid (show Below w.heap.size w ((w.alloc (.cells #[.int .i64 m1, .int .i64 m2] 23)).alloc (.cells #[.bool s.q, .int .u8 s.F.k, .int .i64 s.F.f1, .int .i64 s.F.f2, .int .i64 s.F.t1, .int .i64 s.F.t2, .int .i64 s.F.n] 31)) from ((Below.refl _ _).alloc (Nat.le_refl _) _).alloc (by simp) _)
  have X1 := Lib.hid (show Box ((w.alloc (.cells #[.int .i64 m1, .int .i64 m2] 23)).alloc (.cells #[.bool s.q, .int .u8 s.F.k, .int .i64 s.F.f1, .int .i64 s.F.f2, .int .i64 s.F.t1, .int .i64 s.F.t2, .int .i64 s.F.n] 31)) w.heap.size m1 m2 from (Below.heap_alloc _ _ _ (by simp)).trans (box_new w m1 m2))
  have X2 := Lib.hid (show SBox ((w.alloc (.cells #[.int .i64 m1, .int .i64 m2] 23)).alloc (.cells #[.bool s.q, .int .u8 s.F.k, .int .i64 s.F.f1, .int .i64 s.F.f2, .int .i64 s.F.t1, .int .i64 s.F.t2, .int .i64 s.F.n] 31)) (w.heap.size + 1) s from by have := sbox_new (w.alloc (.cells #[.int .i64 m1, .int .i64 m2] 23)) s; simpa [SBox] using this)
  have HR := Lib.hid (h.below B1.out)
  have HU := Lib.hid (hu.below B1.out)
  have HIN := Lib.hid hin
  have HBI := Lib.hid hbin
  have HIS := Lib.hid hs
  obtain ⟨A, c, rfl, -, hc, -⟩ := id h
  obtain ⟨A2, c2, rfl, -, hc2, -⟩ := id hu
  clear h hin hs hu hbin hc hc2
  have HAW : Hid (∀ W, Calls Try.prog 8 #[] W fun e w' => e = .returned (.bool true) ∧ Below W.heap.size W w') := Lib.hid fun W => awake_any W
  by_cases hl : 100 < l.length
  · have hd : decide ((100 : Int) < (l.length : Int)) = true := by simp; omega
    clear hl
    go_enter Try.func6, Try.ntmps6
    go_wp2_with (go_at_call 8; (with_reducible refine (HAW.out _).mono ?_); rintro e w2 ⟨rfl, hb⟩; have B2 := Lib.hid (B1.out.trans (hb.mono B1.out.size)); clear hb)
    go_ret
    exact ⟨rfl, B2.out⟩
  · have hd : decide ((100 : Int) < (l.length : Int)) = false := by simp; omega
    have HL := Lib.hid (show l.length ≤ 100000 by omega)
    clear hl
    by_cases hl : 100 < bh.length
    · have hd2 : decide ((100 : Int) < (bh.length : Int)) = true := by simp; omega
      clear hl
      go_enter Try.func6, Try.ntmps6
      go_wp2_with (go_at_call 8; (with_reducible refine (HAW.out _).mono ?_); rintro e w2 ⟨rfl, hb⟩; have B2 := Lib.hid (B1.out.trans (hb.mono B1.out.size)); clear hb)
      go_ret
      exact ⟨rfl, B2.out⟩
    · have hd2 : decide ((100 : Int) < (bh.length : Int)) = false := by simp; omega
      have HLB := Lib.hid (show bh.length ≤ 100000 by omega)
      clear hl
      go_enter Try.func6, Try.ntmps6
      go_wp2_with fail
      generalize hW : World.alloc _ _ = w1 at *
      clear hW
      (with_reducible refine (HAW.out _).mono ?_)
      rintro e w2 ⟨rfl, hb⟩
      have Y1 := Lib.hid (box_below X1.out hb (box_lt X1.out))
      have HR2 := Lib.hid (HR.out.below hb)
      have B2 := Lib.hid hb
      clear hb HR hd hd2
      obtain ⟨b0, b1⟩ := box_cells Y1.out
      go_wp2_with fail
      (with_reducible refine (play_any _ w1.heap.size m1 m2 _ l HR2.out HIN.out HL.out B2.out.size).mono ?_)
      rintro e w3 ⟨x, m, rfl, -, -, h1, hb⟩
      have HX := Lib.hid h1
      have B3 := Lib.hid (B2.out.trans (hb.mono B2.out.size))
      have Z2 := Lib.hid (sbox_below X2.out B3.out (sbox_lt X2.out))
      clear hb HR2 h1 b0 b1 B2 Y1
      have HNL := Lib.hid (show 0 + l.length ≤ 100000 by have := HL.out; omega)
      generalize plays m1 m2 (fun _ => p0) l = M at *
      generalize 0 + l.length = n at *
      obtain ⟨d0, d1, d2, d3, d4, d5, d6⟩ := sbox_cells Z2.out
      go_wp2_with fail
      (with_reducible refine (frame_any s _).mono ?_)
      rintro e w4 ⟨rfl, hb⟩
      have HX4 := Lib.hid (HX.out.below hb)
      have B4 := Lib.hid (B3.out.trans (hb.mono HX.out.base))
      clear hb HX B3 Z2 d0 d1 d2 d3 d4 d5 d6
      have F5 := Lib.hid (fbox_new w4 s.F)
      have HX5 := Lib.hid (HX4.out.below (below_one w4 (.cells #[.int .u8 s.F.k, .int .i64 s.F.f1, .int .i64 s.F.f2, .int .i64 s.F.t1, .int .i64 s.F.t2, .int .i64 s.F.n, .int .i64 0, .int .i64 0, .int .i64 0, .slice none 0 0, .slice none 0 0, .slice none 0 0, .slice none 0 0, .slice none 0 0] 42)))
      have B5 := Lib.hid (B4.out.trans ((below_one w4 (.cells #[.int .u8 s.F.k, .int .i64 s.F.f1, .int .i64 s.F.f2, .int .i64 s.F.t1, .int .i64 s.F.t2, .int .i64 s.F.n, .int .i64 0, .int .i64 0, .int .i64 0, .slice none 0 0, .slice none 0 0, .slice none 0 0, .slice none 0 0, .slice none 0 0] 42)).mono HX4.out.base))
      have Z5 := Lib.hid (sbox_below X2.out B5.out (sbox_lt X2.out))
      obtain ⟨d0, d1, d2, d3, d4, d5, d6⟩ := sbox_cells Z5.out
      have S42 := Lib.hid size42
      have HS14 : Hid (∀ te, takeE M s.F m1 m2 = te → te = te) := Lib.hid fun _ _ => rfl
      clear HS14
      cases hq : s.q
      · rw [hq] at d0
        have HQ := Lib.hid hq
        clear hq
        cases k5 : (s.F.k != 5)
        · have HK := Lib.hid (show s.F.k = 5 ∨ s.F.k = 6 from .inl (by simpa using k5))
          obtain ⟨b0, b1⟩ := box_cells (box_below X1.out B5.out (box_lt X1.out))
          go_wp2_with (refine wpList_load_row rfl 42 _ rfl w4.heap.size rfl 42 #[.int .u8 s.F.k, .int .i64 s.F.f1, .int .i64 s.F.f2, .int .i64 s.F.t1, .int .i64 s.F.t2, .int .i64 s.F.n, .int .i64 0, .int .i64 0, .int .i64 0, .slice none 0 0, .slice none 0 0, .slice none 0 0, .slice none 0 0, .slice none 0 0] (0, 0) _ F5.out Try.underlying42 rfl S42.out ?_)
          have HN0 := Lib.hid (show n < maxLen by have := HNL.out; unfold maxLen; omega)
          obtain ⟨te, hte⟩ : ∃ te, takeE M s.F m1 m2 = te := ⟨_, rfl⟩
          have HTE := Lib.hid hte
          clear hte
          (with_reducible refine (take_is te _ _ _ x n m M HX5.out HN0.out s.F m1 m2 HIS.out.f1 HTE.out rfl).mono ?_)
          rintro e w6 ⟨rfl, m6, h1, h2⟩
          have G0 : Hid (Lk w6 w1.heap.size x m6 (n + 1 + 0) (plays m1 m2 (takeM M s.F m1 m2) (bh.take 0)) ∧ Below w1.heap.size w1 w6 ∧ FBox w6 w4.heap.size s.F) := Lib.hid ⟨h1, h2.ahead B5.out HX5.out, h2.kept HX5.out F5.out (by decide)⟩
          clear h1 h2 b0 b1 d0 d1 d2 d3 d4 d5 d6
          have HME := X1
          by_cases h0 : te = 0
          · subst h0
            have HHD := Lib.hid (had_taken HK.out HTE.out)
            generalize takeM M s.F m1 m2 = M1 at *
            have HGF := Lib.hid (show w1.heap.size ≤ w4.heap.size from B4.out.size)
            generalize w4.heap.size = gf at *
            clear F5 HX5 B5 Z5 B4 HX4 HN0
            go_wp2_with fail
            go_loopw [13] (fun s13 wr => ∃ (k : Nat) (m : Option Nat), k ≤ bh.length ∧ s13 = .int .i64 k ∧ Hid (Lk wr w1.heap.size x m ((n + 1) + k) (plays m1 m2 M1 (bh.take k)) ∧ Below w1.heap.size w1 wr ∧ FBox wr gf s.F)) (fun s13 _ => bh.length - (intOf s13).toNat)
            case atStart => exact ⟨0, _, by omega, rfl, G0⟩
            case round =>
              clear G0
              obtain ⟨k, m, hk, rfl, G1⟩ := hrel
              by_cases hlt : k < bh.length
              · have hd : decide ((k : Int) < (bh.length : Int)) = true := by simp; omega
                have i3 : (0 : Int) ≤ (k : Int) := by omega
                have i4 : (k : Int) < (bh.length : Int) := by omega
                have i5 : (bh.length : Int) ≤ 100000 := by have := HLB.out; omega
                have HPL := Lib.hid (plays_snoc m1 m2 M1 bh k hlt)
                obtain ⟨ad, rfl, hcs⟩ := steps_at HU.out hlt
                have HIS := Lib.hid (HBI.out _ (List.getElem_mem hlt))
                generalize hsy : bh[k] = y at *
                clear hsy
                have HS : Hid (∀ W, Below w1.heap.size w1 W → (W.cell? ⟨w.heap.size, 0, none⟩ = some (.int .i64 m1) ∧ W.cell? ⟨w.heap.size, 1, none⟩ = some (.int .i64 m2) ∧ W.cell? (ad.add (k * 7)) = some (.bool y.q) ∧ W.cell? ⟨(ad.add (k * 7)).block, (ad.add (k * 7)).off + 1, none⟩ = some (.int .u8 y.F.k) ∧ W.cell? ⟨(ad.add (k * 7)).block, (ad.add (k * 7)).off + 2, none⟩ = some (.int .i64 y.F.f1) ∧ W.cell? ⟨(ad.add (k * 7)).block, (ad.add (k * 7)).off + 3, none⟩ = some (.int .i64 y.F.f2) ∧ W.cell? ⟨(ad.add (k * 7)).block, (ad.add (k * 7)).off + 4, none⟩ = some (.int .i64 y.F.t1) ∧ W.cell? ⟨(ad.add (k * 7)).block, (ad.add (k * 7)).off + 5, none⟩ = some (.int .i64 y.F.t2) ∧ W.cell? ⟨(ad.add (k * 7)).block, (ad.add (k * 7)).off + 6, none⟩ = some (.int .i64 y.F.n) ∧ Hid (Below w1.heap.size w1 W))) := Lib.hid fun W hb =>
                  have b := box_cells (box_below HME.out hb (box_lt HME.out))
                  have s := hcs W hb
                  ⟨b.1, b.2, s.1, s.2.1, s.2.2.1, s.2.2.2.1, s.2.2.2.2.1, s.2.2.2.2.2.1, s.2.2.2.2.2.2, Lib.hid hb⟩
                clear hcs
                generalize hMk : plays m1 m2 M1 (bh.take k) = Mk at *
                clear hMk
                have HN := Lib.hid (show (n + 1) + k < maxLen by have := HLB.out; have := HNL.out; unfold maxLen; omega)
                cases hq : y.q
                · have HQ := Lib.hid hq
                  have HST := Lib.hid (show step m1 m2 Mk y = takeM Mk y.F m1 m2 by unfold step; rw [hq]; rfl)
                  clear hq
                  obtain ⟨_, _, c0, _⟩ := HS.out _ G1.out.2.1
                  rw [HQ.out] at c0
                  go_wp2_with fail
                  clear c0
                  refine wp_region_held_drew (S := fun W => W.cell? ⟨w.heap.size, 0, none⟩ = some (.int .i64 m1) ∧ W.cell? ⟨w.heap.size, 1, none⟩ = some (.int .i64 m2) ∧ W.cell? (ad.add (k * 7)) = some (.bool y.q) ∧ W.cell? ⟨(ad.add (k * 7)).block, (ad.add (k * 7)).off + 1, none⟩ = some (.int .u8 y.F.k) ∧ W.cell? ⟨(ad.add (k * 7)).block, (ad.add (k * 7)).off + 2, none⟩ = some (.int .i64 y.F.f1) ∧ W.cell? ⟨(ad.add (k * 7)).block, (ad.add (k * 7)).off + 3, none⟩ = some (.int .i64 y.F.f2) ∧ W.cell? ⟨(ad.add (k * 7)).block, (ad.add (k * 7)).off + 4, none⟩ = some (.int .i64 y.F.t1) ∧ W.cell? ⟨(ad.add (k * 7)).block, (ad.add (k * 7)).off + 5, none⟩ = some (.int .i64 y.F.t2) ∧ W.cell? ⟨(ad.add (k * 7)).block, (ad.add (k * 7)).off + 6, none⟩ = some (.int .i64 y.F.n) ∧ Hid (Below w1.heap.size w1 W)) (by kernel_rfl) ?_ (fun hHeld => ?_)
                  · exact HS.out _ (below_drewN (n := 1) G1.out.2.1)
                  (refine wpAnyH_take (i := 0) (oi := ⟨_, _, _, _, _, _⟩) (v := ?_) rfl (by kernel_rfl) (by kernel_rfl) (by kernel_rfl) (fun _ _ _ h => h) (Or.inl ⟨by rfl, ?_⟩) (by assumption) ?_; rotate_left 1; · (intro w hSw; (try dsimp only at hSw); go_simp; all_goals with_reducible rfl))
                  try simp only [Act.put, List.setIfInBounds_toArray, List.set_cons_zero, List.set_cons_succ]
                  (refine wpAnyH_take (i := 1) (oi := ⟨_, _, _, _, _, _⟩) (v := ?_) rfl (by kernel_rfl) (by kernel_rfl) (by kernel_rfl) (fun _ _ _ h => h) (Or.inl ⟨by rfl, ?_⟩) (by assumption) ?_; rotate_left 1; · (intro w hSw; (try dsimp only at hSw); go_simp; all_goals with_reducible rfl))
                  try simp only [Act.put, List.setIfInBounds_toArray, List.set_cons_zero, List.set_cons_succ]
                  (refine wpAnyH_take (i := 2) (oi := ⟨_, _, _, _, _, _⟩) (v := ?_) rfl (by kernel_rfl) (by kernel_rfl) (by kernel_rfl) (fun _ _ _ h => h) (Or.inl ⟨by rfl, ?_⟩) (by assumption) ?_; rotate_left 1; · (intro w hSw; (try dsimp only at hSw); go_simp; all_goals with_reducible rfl))
                  try simp only [Act.put, List.setIfInBounds_toArray, List.set_cons_zero, List.set_cons_succ]
                  (refine wpAnyH_take (i := 3) (oi := ⟨_, _, _, _, _, _⟩) (v := ?_) rfl (by kernel_rfl) (by kernel_rfl) (by kernel_rfl) (fun _ _ _ h => h) (Or.inl ⟨by rfl, ?_⟩) (by assumption) ?_; rotate_left 1; · (intro w hSw; (try dsimp only at hSw); go_simp; all_goals with_reducible rfl))
                  try simp only [Act.put, List.setIfInBounds_toArray, List.set_cons_zero, List.set_cons_succ]
                  (refine wpAnyH_take (i := 4) (oi := ⟨_, _, _, _, _, _⟩) (v := ?_) rfl (by kernel_rfl) (by kernel_rfl) (by kernel_rfl) (fun _ _ _ h => h) (Or.inl ⟨by rfl, ?_⟩) (by assumption) ?_; rotate_left 1; · (intro w hSw; (try dsimp only at hSw); go_simp; all_goals with_reducible rfl))
                  try simp only [Act.put, List.setIfInBounds_toArray, List.set_cons_zero, List.set_cons_succ]
                  (refine wpAnyH_take (i := 6) (oi := ⟨_, _, _, _, _, _⟩) (v := ?_) rfl (by kernel_rfl) (by kernel_rfl) (by kernel_rfl) (fun _ _ _ h => h) (Or.inl ⟨by rfl, ?_⟩) (by assumption) ?_; rotate_left 1; · (intro w hSw; (try dsimp only at hSw); go_simp; all_goals with_reducible rfl))
                  try simp only [Act.put, List.setIfInBounds_toArray, List.set_cons_zero, List.set_cons_succ]
                  refine wpAnyH_ready (rs := [5]) (by kernel_rfl) (by simp) ?_
                  refine AllReadyH.cons (o := ⟨_, _, _, _, _, _⟩) rfl (fun Kq hKq => ?_) AllReadyH.nil
                  go_simp
                  clear hHeld
                  (go_at_call 16; (with_reducible refine (frame_any y _).mono ?_); rintro e w7 ⟨rfl, hb⟩; have G2 := Lib.hid (show Lk w7 w1.heap.size x m ((n + 1) + k) Mk ∧ Below w1.heap.size w1 w7 ∧ FBox w7 gf s.F from ⟨G1.out.1.drewN (c := 1) |>.below hb, G1.out.2.1.trans (((below_drewN (n := 1) (Below.refl _ _)).trans hb).mono G1.out.1.base), fbox_below G1.out.2.2 ((below_drewN (n := 1) (Below.refl _ _)).trans hb) (fbox_lt G1.out.2.2)⟩); clear hb)
                  refine hKq.out _ _ ?_ (fun hHeld => ?_)
                  · (try dsimp only); exact HS.out _ G2.out.2.1
                  clear hKq Kq
                  try simp only [Act.put, List.setIfInBounds_toArray, List.set_cons_zero, List.set_cons_succ]
                  refine wpAnyH_ready (rs := [7]) (by kernel_rfl) (by simp) ?_
                  refine AllReadyH.cons (o := ⟨_, _, _, _, _, _⟩) rfl (fun Kq hKq => ?_) AllReadyH.nil
                  go_simp
                  clear hHeld
                  (go_at_call 15; (with_reducible refine (take_any _ w1.heap.size x _ m Mk G2.out.1 HN.out y.F m1 m2 HIS.out.1).mono ?_); rintro e w8 ⟨rfl, m8, h1, h2⟩; have G3 := Lib.hid (show Lk w8 w1.heap.size x m8 ((n + 1) + k + 1) (takeM Mk y.F m1 m2) ∧ Below w1.heap.size w1 w8 ∧ FBox w8 gf s.F from ⟨h1, h2.ahead G2.out.2.1 G2.out.1, h2.kept G2.out.1 G2.out.2.2 (by decide)⟩); clear h1 h2)
                  refine hKq.out _ _ ?_ (fun hHeld => ?_)
                  · (try dsimp only); exact HS.out _ G3.out.2.1
                  clear hKq Kq
                  try simp only [Act.put, List.setIfInBounds_toArray, List.set_cons_zero, List.set_cons_succ]
                  refine wpAnyH_done (by kernel_rfl) ?_ _
                  clear hHeld HS G1 G2
                  go_wp2_with fail
                  go_roundw
                  case rel => exact ⟨k + 1, m8, by omega, by go_num, Lib.hid (by rw [HPL.out, HST.out]; exact G3.out)⟩
                  case measure => simp [intOf]; omega
                · have HQ := Lib.hid hq
                  have HST := Lib.hid (show step m1 m2 Mk y = fenceM Mk y.F.f1 y.F.f2 by unfold step; rw [hq]; rfl)
                  clear hq
                  obtain ⟨_, _, c0, _, c2, c3, _⟩ := HS.out _ G1.out.2.1
                  rw [HQ.out] at c0
                  go_wp2_with (go_at_call 13; (with_reducible refine (fence_any _ w1.heap.size x _ m Mk G1.out.1 HN.out y.F.f1 y.F.f2 HIS.out.1).mono ?_); rintro e w8 ⟨rfl, m8, h1, h2⟩; have G3 := Lib.hid (show Lk w8 w1.heap.size x m8 ((n + 1) + k + 1) (fenceM Mk y.F.f1 y.F.f2) ∧ Below w1.heap.size w1 w8 ∧ FBox w8 gf s.F from ⟨h1, h2.ahead G1.out.2.1 G1.out.1, h2.kept G1.out.1 G1.out.2.2 (by decide)⟩); clear h1 h2)
                  go_roundw
                  case rel => exact ⟨k + 1, m8, by omega, by go_num, Lib.hid (by rw [HPL.out, HST.out]; exact G3.out)⟩
                  case measure => simp [intOf]; omega
              · have hke : k = bh.length := by omega
                subst hke
                rw [List.take_length] at G1
                have hd : decide ((bh.length : Int) < (bh.length : Int)) = false := by simp
                clear hlt hk
                have KH := Lib.hid (had_plays (a := s.F.f1) HK.out m1 m2 bh M1 HHD.out)
                have HNK := Lib.hid (show n + 1 + bh.length < maxLen by have := HNL.out; have := HLB.out; unfold maxLen; omega)
                generalize plays m1 m2 M1 bh = K at *
                obtain ⟨-, -, -, -, -, d5⟩ := fbox_cells G1.out.2.2
                have f5 : wr.frozen? ⟨gf, 5, none⟩ = false := fbox_free5 G1.out.2.2
                go_upto_region 14 with (fail)
                generalize wrap64 (s.F.n - wrap64 ((IntKind.u64.wrap less).tmod 100)) = d
                have F9 := Lib.hid (fbox_set5 G1.out.2.2 d)
                have L9 := Lib.hid (G1.out.1.storeT G1.out.2.2 (by decide) 5 (.int .i64 d))
                have B9 := Lib.hid (G1.out.2.1.setCell (p := ⟨gf, 5, none⟩) HGF.out (.int .i64 d))
                generalize hW9 : World.setCell wr _ _ = w9 at *
                clear hW9 d5 f5 G1
                have Z9 := Lib.hid (sbox_below X2.out B9.out (sbox_lt X2.out))
                have I9 := Lib.hid (box_below X1.out B9.out (box_lt X1.out))
                obtain ⟨-, -, -, -, -, d5⟩ := fbox_cells F9.out
                dsimp only at d5
                obtain ⟨-, -, -, -, -, -, d6⟩ := sbox_cells Z9.out
                obtain ⟨b0, b1⟩ := box_cells I9.out
                by_cases hgt : s.F.n < d
                · have hg : decide (s.F.n < d) = true := by simpa using hgt
                  clear hgt
                  go_wp2_with fail
                  go_ret
                  exact ⟨rfl, B1.out.trans (B9.out.mono B1.out.size)⟩
                · have hg : decide (s.F.n < d) = false := by simpa using hgt
                  obtain ⟨te, hte⟩ : ∃ te, takeE K ⟨s.F.k, s.F.f1, s.F.f2, s.F.t1, s.F.t2, d⟩ m1 m2 = te := ⟨_, rfl⟩
                  have hne : (te != 0) = true := by have := had_refused (F := s.F) (m1 := m1) (m2 := m2) HK.out rfl KH.out (show d ≤ s.F.n by omega); rw [hte] at this; simpa using this
                  have HT9 := Lib.hid hte
                  clear hgt hte
                  clear d5
                  obtain ⟨p0, p1, p2, p3, p4, p5, p6, p7, p8, p9, pa, pb, pc, pd⟩ := fbox_all F9.out
                  dsimp only at p0 p1 p2 p3 p4 p5
                  go_wp2_with fail
                  (with_reducible refine (take_of te _ _ _ x _ m K L9.out HNK.out s.F.k s.F.f1 s.F.f2 s.F.t1 s.F.t2 d m1 m2 HIS.out.f1 HT9.out rfl).mono ?_)
                  rintro e wz ⟨rfl, mz, h1, h2⟩
                  have BZ := Lib.hid (h2.ahead B9.out L9.out)
                  clear h1 h2
                  go_wp2_with fail
                  go_ret
                  exact ⟨rfl, B1.out.trans (BZ.out.mono B1.out.size)⟩
          · have h0b : (te != 0) = true := by simpa using h0
            clear h0
            go_wp2_with fail
            go_ret
            exact ⟨rfl, B1.out.trans (G0.out.2.1.mono B1.out.size)⟩
        · cases k6 : (s.F.k != 6)
          · have HK := Lib.hid (show s.F.k = 5 ∨ s.F.k = 6 from .inr (by simpa using k6))
            obtain ⟨b0, b1⟩ := box_cells (box_below X1.out B5.out (box_lt X1.out))
            go_wp2_with (refine wpList_load_row rfl 42 _ rfl w4.heap.size rfl 42 #[.int .u8 s.F.k, .int .i64 s.F.f1, .int .i64 s.F.f2, .int .i64 s.F.t1, .int .i64 s.F.t2, .int .i64 s.F.n, .int .i64 0, .int .i64 0, .int .i64 0, .slice none 0 0, .slice none 0 0, .slice none 0 0, .slice none 0 0, .slice none 0 0] (0, 0) _ F5.out Try.underlying42 rfl S42.out ?_)
            have HN0 := Lib.hid (show n < maxLen by have := HNL.out; unfold maxLen; omega)
            obtain ⟨te, hte⟩ : ∃ te, takeE M s.F m1 m2 = te := ⟨_, rfl⟩
            have HTE := Lib.hid hte
            clear hte
            (with_reducible refine (take_is te _ _ _ x n m M HX5.out HN0.out s.F m1 m2 HIS.out.f1 HTE.out rfl).mono ?_)
            rintro e w6 ⟨rfl, m6, h1, h2⟩
            have G0 : Hid (Lk w6 w1.heap.size x m6 (n + 1 + 0) (plays m1 m2 (takeM M s.F m1 m2) (bh.take 0)) ∧ Below w1.heap.size w1 w6 ∧ FBox w6 w4.heap.size s.F) := Lib.hid ⟨h1, h2.ahead B5.out HX5.out, h2.kept HX5.out F5.out (by decide)⟩
            clear h1 h2 b0 b1 d0 d1 d2 d3 d4 d5 d6
            have HME := X1
            by_cases h0 : te = 0
            · subst h0
              have HHD := Lib.hid (had_taken HK.out HTE.out)
              generalize takeM M s.F m1 m2 = M1 at *
              have HGF := Lib.hid (show w1.heap.size ≤ w4.heap.size from B4.out.size)
              generalize w4.heap.size = gf at *
              clear F5 HX5 B5 Z5 B4 HX4 HN0
              go_wp2_with fail
              go_loopw [13] (fun s13 wr => ∃ (k : Nat) (m : Option Nat), k ≤ bh.length ∧ s13 = .int .i64 k ∧ Hid (Lk wr w1.heap.size x m ((n + 1) + k) (plays m1 m2 M1 (bh.take k)) ∧ Below w1.heap.size w1 wr ∧ FBox wr gf s.F)) (fun s13 _ => bh.length - (intOf s13).toNat)
              case atStart => exact ⟨0, _, by omega, rfl, G0⟩
              case round =>
                clear G0
                obtain ⟨k, m, hk, rfl, G1⟩ := hrel
                by_cases hlt : k < bh.length
                · have hd : decide ((k : Int) < (bh.length : Int)) = true := by simp; omega
                  have i3 : (0 : Int) ≤ (k : Int) := by omega
                  have i4 : (k : Int) < (bh.length : Int) := by omega
                  have i5 : (bh.length : Int) ≤ 100000 := by have := HLB.out; omega
                  have HPL := Lib.hid (plays_snoc m1 m2 M1 bh k hlt)
                  obtain ⟨ad, rfl, hcs⟩ := steps_at HU.out hlt
                  have HIS := Lib.hid (HBI.out _ (List.getElem_mem hlt))
                  generalize hsy : bh[k] = y at *
                  clear hsy
                  have HS : Hid (∀ W, Below w1.heap.size w1 W → (W.cell? ⟨w.heap.size, 0, none⟩ = some (.int .i64 m1) ∧ W.cell? ⟨w.heap.size, 1, none⟩ = some (.int .i64 m2) ∧ W.cell? (ad.add (k * 7)) = some (.bool y.q) ∧ W.cell? ⟨(ad.add (k * 7)).block, (ad.add (k * 7)).off + 1, none⟩ = some (.int .u8 y.F.k) ∧ W.cell? ⟨(ad.add (k * 7)).block, (ad.add (k * 7)).off + 2, none⟩ = some (.int .i64 y.F.f1) ∧ W.cell? ⟨(ad.add (k * 7)).block, (ad.add (k * 7)).off + 3, none⟩ = some (.int .i64 y.F.f2) ∧ W.cell? ⟨(ad.add (k * 7)).block, (ad.add (k * 7)).off + 4, none⟩ = some (.int .i64 y.F.t1) ∧ W.cell? ⟨(ad.add (k * 7)).block, (ad.add (k * 7)).off + 5, none⟩ = some (.int .i64 y.F.t2) ∧ W.cell? ⟨(ad.add (k * 7)).block, (ad.add (k * 7)).off + 6, none⟩ = some (.int .i64 y.F.n) ∧ Hid (Below w1.heap.size w1 W))) := Lib.hid fun W hb =>
                    have b := box_cells (box_below HME.out hb (box_lt HME.out))
                    have s := hcs W hb
                    ⟨b.1, b.2, s.1, s.2.1, s.2.2.1, s.2.2.2.1, s.2.2.2.2.1, s.2.2.2.2.2.1, s.2.2.2.2.2.2, Lib.hid hb⟩
                  clear hcs
                  generalize hMk : plays m1 m2 M1 (bh.take k) = Mk at *
                  clear hMk
                  have HN := Lib.hid (show (n + 1) + k < maxLen by have := HLB.out; have := HNL.out; unfold maxLen; omega)
                  cases hq : y.q
                  · have HQ := Lib.hid hq
                    have HST := Lib.hid (show step m1 m2 Mk y = takeM Mk y.F m1 m2 by unfold step; rw [hq]; rfl)
                    clear hq
                    obtain ⟨_, _, c0, _⟩ := HS.out _ G1.out.2.1
                    rw [HQ.out] at c0
                    go_wp2_with fail
                    clear c0
                    refine wp_region_held_drew (S := fun W => W.cell? ⟨w.heap.size, 0, none⟩ = some (.int .i64 m1) ∧ W.cell? ⟨w.heap.size, 1, none⟩ = some (.int .i64 m2) ∧ W.cell? (ad.add (k * 7)) = some (.bool y.q) ∧ W.cell? ⟨(ad.add (k * 7)).block, (ad.add (k * 7)).off + 1, none⟩ = some (.int .u8 y.F.k) ∧ W.cell? ⟨(ad.add (k * 7)).block, (ad.add (k * 7)).off + 2, none⟩ = some (.int .i64 y.F.f1) ∧ W.cell? ⟨(ad.add (k * 7)).block, (ad.add (k * 7)).off + 3, none⟩ = some (.int .i64 y.F.f2) ∧ W.cell? ⟨(ad.add (k * 7)).block, (ad.add (k * 7)).off + 4, none⟩ = some (.int .i64 y.F.t1) ∧ W.cell? ⟨(ad.add (k * 7)).block, (ad.add (k * 7)).off + 5, none⟩ = some (.int .i64 y.F.t2) ∧ W.cell? ⟨(ad.add (k * 7)).block, (ad.add (k * 7)).off + 6, none⟩ = some (.int .i64 y.F.n) ∧ Hid (Below w1.heap.size w1 W)) (by kernel_rfl) ?_ (fun hHeld => ?_)
                    · exact HS.out _ (below_drewN (n := 1) G1.out.2.1)
                    (refine wpAnyH_take (i := 0) (oi := ⟨_, _, _, _, _, _⟩) (v := ?_) rfl (by kernel_rfl) (by kernel_rfl) (by kernel_rfl) (fun _ _ _ h => h) (Or.inl ⟨by rfl, ?_⟩) (by assumption) ?_; rotate_left 1; · (intro w hSw; (try dsimp only at hSw); go_simp; all_goals with_reducible rfl))
                    try simp only [Act.put, List.setIfInBounds_toArray, List.set_cons_zero, List.set_cons_succ]
                    (refine wpAnyH_take (i := 1) (oi := ⟨_, _, _, _, _, _⟩) (v := ?_) rfl (by kernel_rfl) (by kernel_rfl) (by kernel_rfl) (fun _ _ _ h => h) (Or.inl ⟨by rfl, ?_⟩) (by assumption) ?_; rotate_left 1; · (intro w hSw; (try dsimp only at hSw); go_simp; all_goals with_reducible rfl))
                    try simp only [Act.put, List.setIfInBounds_toArray, List.set_cons_zero, List.set_cons_succ]
                    (refine wpAnyH_take (i := 2) (oi := ⟨_, _, _, _, _, _⟩) (v := ?_) rfl (by kernel_rfl) (by kernel_rfl) (by kernel_rfl) (fun _ _ _ h => h) (Or.inl ⟨by rfl, ?_⟩) (by assumption) ?_; rotate_left 1; · (intro w hSw; (try dsimp only at hSw); go_simp; all_goals with_reducible rfl))
                    try simp only [Act.put, List.setIfInBounds_toArray, List.set_cons_zero, List.set_cons_succ]
                    (refine wpAnyH_take (i := 3) (oi := ⟨_, _, _, _, _, _⟩) (v := ?_) rfl (by kernel_rfl) (by kernel_rfl) (by kernel_rfl) (fun _ _ _ h => h) (Or.inl ⟨by rfl, ?_⟩) (by assumption) ?_; rotate_left 1; · (intro w hSw; (try dsimp only at hSw); go_simp; all_goals with_reducible rfl))
                    try simp only [Act.put, List.setIfInBounds_toArray, List.set_cons_zero, List.set_cons_succ]
                    (refine wpAnyH_take (i := 4) (oi := ⟨_, _, _, _, _, _⟩) (v := ?_) rfl (by kernel_rfl) (by kernel_rfl) (by kernel_rfl) (fun _ _ _ h => h) (Or.inl ⟨by rfl, ?_⟩) (by assumption) ?_; rotate_left 1; · (intro w hSw; (try dsimp only at hSw); go_simp; all_goals with_reducible rfl))
                    try simp only [Act.put, List.setIfInBounds_toArray, List.set_cons_zero, List.set_cons_succ]
                    (refine wpAnyH_take (i := 6) (oi := ⟨_, _, _, _, _, _⟩) (v := ?_) rfl (by kernel_rfl) (by kernel_rfl) (by kernel_rfl) (fun _ _ _ h => h) (Or.inl ⟨by rfl, ?_⟩) (by assumption) ?_; rotate_left 1; · (intro w hSw; (try dsimp only at hSw); go_simp; all_goals with_reducible rfl))
                    try simp only [Act.put, List.setIfInBounds_toArray, List.set_cons_zero, List.set_cons_succ]
                    refine wpAnyH_ready (rs := [5]) (by kernel_rfl) (by simp) ?_
                    refine AllReadyH.cons (o := ⟨_, _, _, _, _, _⟩) rfl (fun Kq hKq => ?_) AllReadyH.nil
                    go_simp
                    clear hHeld
                    (go_at_call 16; (with_reducible refine (frame_any y _).mono ?_); rintro e w7 ⟨rfl, hb⟩; have G2 := Lib.hid (show Lk w7 w1.heap.size x m ((n + 1) + k) Mk ∧ Below w1.heap.size w1 w7 ∧ FBox w7 gf s.F from ⟨G1.out.1.drewN (c := 1) |>.below hb, G1.out.2.1.trans (((below_drewN (n := 1) (Below.refl _ _)).trans hb).mono G1.out.1.base), fbox_below G1.out.2.2 ((below_drewN (n := 1) (Below.refl _ _)).trans hb) (fbox_lt G1.out.2.2)⟩); clear hb)
                    refine hKq.out _ _ ?_ (fun hHeld => ?_)
                    · (try dsimp only); exact HS.out _ G2.out.2.1
                    clear hKq Kq
                    try simp only [Act.put, List.setIfInBounds_toArray, List.set_cons_zero, List.set_cons_succ]
                    refine wpAnyH_ready (rs := [7]) (by kernel_rfl) (by simp) ?_
                    refine AllReadyH.cons (o := ⟨_, _, _, _, _, _⟩) rfl (fun Kq hKq => ?_) AllReadyH.nil
                    go_simp
                    clear hHeld
                    (go_at_call 15; (with_reducible refine (take_any _ w1.heap.size x _ m Mk G2.out.1 HN.out y.F m1 m2 HIS.out.1).mono ?_); rintro e w8 ⟨rfl, m8, h1, h2⟩; have G3 := Lib.hid (show Lk w8 w1.heap.size x m8 ((n + 1) + k + 1) (takeM Mk y.F m1 m2) ∧ Below w1.heap.size w1 w8 ∧ FBox w8 gf s.F from ⟨h1, h2.ahead G2.out.2.1 G2.out.1, h2.kept G2.out.1 G2.out.2.2 (by decide)⟩); clear h1 h2)
                    refine hKq.out _ _ ?_ (fun hHeld => ?_)
                    · (try dsimp only); exact HS.out _ G3.out.2.1
                    clear hKq Kq
                    try simp only [Act.put, List.setIfInBounds_toArray, List.set_cons_zero, List.set_cons_succ]
                    refine wpAnyH_done (by kernel_rfl) ?_ _
                    clear hHeld HS G1 G2
                    go_wp2_with fail
                    go_roundw
                    case rel => exact ⟨k + 1, m8, by omega, by go_num, Lib.hid (by rw [HPL.out, HST.out]; exact G3.out)⟩
                    case measure => simp [intOf]; omega
                  · have HQ := Lib.hid hq
                    have HST := Lib.hid (show step m1 m2 Mk y = fenceM Mk y.F.f1 y.F.f2 by unfold step; rw [hq]; rfl)
                    clear hq
                    obtain ⟨_, _, c0, _, c2, c3, _⟩ := HS.out _ G1.out.2.1
                    rw [HQ.out] at c0
                    go_wp2_with (go_at_call 13; (with_reducible refine (fence_any _ w1.heap.size x _ m Mk G1.out.1 HN.out y.F.f1 y.F.f2 HIS.out.1).mono ?_); rintro e w8 ⟨rfl, m8, h1, h2⟩; have G3 := Lib.hid (show Lk w8 w1.heap.size x m8 ((n + 1) + k + 1) (fenceM Mk y.F.f1 y.F.f2) ∧ Below w1.heap.size w1 w8 ∧ FBox w8 gf s.F from ⟨h1, h2.ahead G1.out.2.1 G1.out.1, h2.kept G1.out.1 G1.out.2.2 (by decide)⟩); clear h1 h2)
                    go_roundw
                    case rel => exact ⟨k + 1, m8, by omega, by go_num, Lib.hid (by rw [HPL.out, HST.out]; exact G3.out)⟩
                    case measure => simp [intOf]; omega
                · have hke : k = bh.length := by omega
                  subst hke
                  rw [List.take_length] at G1
                  have hd : decide ((bh.length : Int) < (bh.length : Int)) = false := by simp
                  clear hlt hk
                  have KH := Lib.hid (had_plays (a := s.F.f1) HK.out m1 m2 bh M1 HHD.out)
                  have HNK := Lib.hid (show n + 1 + bh.length < maxLen by have := HNL.out; have := HLB.out; unfold maxLen; omega)
                  generalize plays m1 m2 M1 bh = K at *
                  obtain ⟨-, -, -, -, -, d5⟩ := fbox_cells G1.out.2.2
                  have f5 : wr.frozen? ⟨gf, 5, none⟩ = false := fbox_free5 G1.out.2.2
                  go_upto_region 14 with (fail)
                  generalize wrap64 (s.F.n - wrap64 ((IntKind.u64.wrap less).tmod 100)) = d
                  have F9 := Lib.hid (fbox_set5 G1.out.2.2 d)
                  have L9 := Lib.hid (G1.out.1.storeT G1.out.2.2 (by decide) 5 (.int .i64 d))
                  have B9 := Lib.hid (G1.out.2.1.setCell (p := ⟨gf, 5, none⟩) HGF.out (.int .i64 d))
                  generalize hW9 : World.setCell wr _ _ = w9 at *
                  clear hW9 d5 f5 G1
                  have Z9 := Lib.hid (sbox_below X2.out B9.out (sbox_lt X2.out))
                  have I9 := Lib.hid (box_below X1.out B9.out (box_lt X1.out))
                  obtain ⟨-, -, -, -, -, d5⟩ := fbox_cells F9.out
                  dsimp only at d5
                  obtain ⟨-, -, -, -, -, -, d6⟩ := sbox_cells Z9.out
                  obtain ⟨b0, b1⟩ := box_cells I9.out
                  by_cases hgt : s.F.n < d
                  · have hg : decide (s.F.n < d) = true := by simpa using hgt
                    clear hgt
                    go_wp2_with fail
                    go_ret
                    exact ⟨rfl, B1.out.trans (B9.out.mono B1.out.size)⟩
                  · have hg : decide (s.F.n < d) = false := by simpa using hgt
                    obtain ⟨te, hte⟩ : ∃ te, takeE K ⟨s.F.k, s.F.f1, s.F.f2, s.F.t1, s.F.t2, d⟩ m1 m2 = te := ⟨_, rfl⟩
                    have hne : (te != 0) = true := by have := had_refused (F := s.F) (m1 := m1) (m2 := m2) HK.out rfl KH.out (show d ≤ s.F.n by omega); rw [hte] at this; simpa using this
                    have HT9 := Lib.hid hte
                    clear hgt hte
                    clear d5
                    obtain ⟨p0, p1, p2, p3, p4, p5, p6, p7, p8, p9, pa, pb, pc, pd⟩ := fbox_all F9.out
                    dsimp only at p0 p1 p2 p3 p4 p5
                    go_wp2_with fail
                    (with_reducible refine (take_of te _ _ _ x _ m K L9.out HNK.out s.F.k s.F.f1 s.F.f2 s.F.t1 s.F.t2 d m1 m2 HIS.out.f1 HT9.out rfl).mono ?_)
                    rintro e wz ⟨rfl, mz, h1, h2⟩
                    have BZ := Lib.hid (h2.ahead B9.out L9.out)
                    clear h1 h2
                    go_wp2_with fail
                    go_ret
                    exact ⟨rfl, B1.out.trans (BZ.out.mono B1.out.size)⟩
            · have h0b : (te != 0) = true := by simpa using h0
              clear h0
              go_wp2_with fail
              go_ret
              exact ⟨rfl, B1.out.trans (G0.out.2.1.mono B1.out.size)⟩
          · go_wp2_with fail
            go_ret
            exact ⟨rfl, B1.out.trans (B5.out.mono B1.out.size)⟩
      · rw [hq] at d0
        go_wp2_with fail
        go_ret
        exact ⟨rfl, B1.out.trans (B5.out.mono B1.out.size)⟩
end Go.Proofs.Ytgbbmhdkhhchhaa
