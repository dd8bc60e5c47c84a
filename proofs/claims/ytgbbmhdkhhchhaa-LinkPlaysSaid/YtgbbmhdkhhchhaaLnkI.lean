/-
  Walks: a step's frame, and steps that are played. No statement is proved in this text.
-/
import Derived.Test.YtgbbmhdkhhchhaaLnkH
import Derived.Test.YtgbbmhdkhhchhaaRecs
set_option maxRecDepth 20000
namespace Go.Proofs.Ytgbbmhdkhhchhaa
open Go Go.RowKit
/-- A step's numbers are of their kinds. -/
structure InS (s : Sp) : Prop where
  f1 : -9223372036854775808 ≤ s.F.f1 ∧ s.F.f1 ≤ 9223372036854775807
  f2 : -9223372036854775808 ≤ s.F.f2 ∧ s.F.f2 ≤ 9223372036854775807
  n : -9223372036854775808 ≤ s.F.n ∧ s.F.n ≤ 9223372036854775807
def encS (s : Sp) : List Value := [.bool s.q, .int .u8 s.F.k, .int .i64 s.F.f1, .int .i64 s.F.f2, .int .i64 s.F.t1, .int .i64 s.F.t2, .int .i64 s.F.n]
theorem encS_len (s : Sp) : (encS s).length = 7 := rfl
theorem steps_at {w : World} {A : Option Addr} {n c : Nat} {l : List Sp} (h : Rcs encS 7 w (.slice A n c) l) {k : Nat} (hk : k < l.length) : ∃ ad, A = some ad ∧ ∀ W, Below w.heap.size w W → (W.cell? (ad.add (k * 7)) = some (.bool l[k].q) ∧ W.cell? ⟨(ad.add (k * 7)).block, (ad.add (k * 7)).off + 1, none⟩ = some (.int .u8 l[k].F.k) ∧ W.cell? ⟨(ad.add (k * 7)).block, (ad.add (k * 7)).off + 2, none⟩ = some (.int .i64 l[k].F.f1) ∧ W.cell? ⟨(ad.add (k * 7)).block, (ad.add (k * 7)).off + 3, none⟩ = some (.int .i64 l[k].F.f2) ∧ W.cell? ⟨(ad.add (k * 7)).block, (ad.add (k * 7)).off + 4, none⟩ = some (.int .i64 l[k].F.t1) ∧ W.cell? ⟨(ad.add (k * 7)).block, (ad.add (k * 7)).off + 5, none⟩ = some (.int .i64 l[k].F.t2) ∧ W.cell? ⟨(ad.add (k * 7)).block, (ad.add (k * 7)).off + 6, none⟩ = some (.int .i64 l[k].F.n)) := by
  obtain ⟨ad, rfl⟩ := h.addr (by omega)
  exact ⟨ad, rfl, fun W hb => ⟨h.first hb hk rfl, h.cell hb hk 1 (by omega) rfl, h.cell hb hk 2 (by omega) rfl, h.cell hb hk 3 (by omega) rfl, h.cell hb hk 4 (by omega) rfl, h.cell hb hk 5 (by omega) rfl, h.cell hb hk 6 (by omega) rfl⟩⟩
theorem Lk.mono {w : World} {base base' l n n' : Nat} {m : Option Nat} {M : Int → Pr} (h : Lk w base l m n M) (hb : base' ≤ base) (hn : n ≤ n') : Lk w base' l m n' M := by
  refine ⟨h.x, Nat.le_trans hb h.b, h.no, fun b e => ⟨Nat.le_trans hb (h.yes b e).1, ?_⟩⟩
  obtain ⟨D, h1, h2⟩ := (h.yes b e).2
  exact ⟨D, h1.mono hn, h2⟩
theorem frame_any (s : Sp) (w : World) : Calls Try.prog 16 #[.agg #[.bool s.q, .int .u8 s.F.k, .int .i64 s.F.f1, .int .i64 s.F.f2, .int .i64 s.F.t1, .int .i64 s.F.t2, .int .i64 s.F.n]] w fun e w' => e = .returned (.agg #[.int .u8 s.F.k, .int .i64 s.F.f1, .int .i64 s.F.f2, .int .i64 s.F.t1, .int .i64 s.F.t2, .int .i64 s.F.n, .int .i64 0, .int .i64 0, .int .i64 0, .slice none 0 0, .slice none 0 0, .slice none 0 0, .slice none 0 0, .slice none 0 0]) ∧ Below w.heap.size w w' := by
  have B := Lib.hid fun o1 o2 => (show Below w.heap.size w ((w.alloc o1).alloc o2) from ((Below.refl _ _).alloc (Nat.le_refl _) _).alloc (by simp) _)
  go_enter Try.func16, Try.ntmps16
  go_wp2_with fail
  exact bodyPost_ret (v := .agg #[.int .u8 s.F.k, .int .i64 s.F.f1, .int .i64 s.F.f2, .int .i64 s.F.t1, .int .i64 s.F.t2, .int .i64 s.F.n, .int .i64 0, .int .i64 0, .int .i64 0, .slice none 0 0, .slice none 0 0, .slice none 0 0, .slice none 0 0, .slice none 0 0]) (by simp [results, Try.results16, go_sem]) rfl ⟨rfl, B.out _ _⟩
theorem beat_any (a i n : Int) (w : World) : Calls Try.prog 24 #[.int .i64 a, .int .i64 i, .int .i64 n] w fun e w' => e = .returned (.agg #[.int .u8 (⟨5, a, i, 1, 1, n⟩ : Fm).k, .int .i64 (⟨5, a, i, 1, 1, n⟩ : Fm).f1, .int .i64 (⟨5, a, i, 1, 1, n⟩ : Fm).f2, .int .i64 (⟨5, a, i, 1, 1, n⟩ : Fm).t1, .int .i64 (⟨5, a, i, 1, 1, n⟩ : Fm).t2, .int .i64 (⟨5, a, i, 1, 1, n⟩ : Fm).n, .int .i64 0, .int .i64 0, .int .i64 0, .slice none 0 0, .slice none 0 0, .slice none 0 0, .slice none 0 0, .slice none 0 0]) ∧ Below w.heap.size w w' := by
  go_enter Try.func24, Try.ntmps24
  go_wp2_with fail
  exact bodyPost_ret (v := .agg #[.int .u8 (⟨5, a, i, 1, 1, n⟩ : Fm).k, .int .i64 (⟨5, a, i, 1, 1, n⟩ : Fm).f1, .int .i64 (⟨5, a, i, 1, 1, n⟩ : Fm).f2, .int .i64 (⟨5, a, i, 1, 1, n⟩ : Fm).t1, .int .i64 (⟨5, a, i, 1, 1, n⟩ : Fm).t2, .int .i64 (⟨5, a, i, 1, 1, n⟩ : Fm).n, .int .i64 0, .int .i64 0, .int .i64 0, .slice none 0 0, .slice none 0 0, .slice none 0 0, .slice none 0 0, .slice none 0 0]) (by simp [results, Try.results24, go_sem]) rfl ⟨rfl, below_one w _⟩
/-- The links that came of steps. -/
def Played (base n : Nat) (M : Int → Pr) (w : World) (e : Ending) (w' : World) : Prop := ∃ x m, e = .returned (.pointer (some ⟨x, 0, none⟩)) ∧ w.heap.size ≤ x ∧ (∀ b, m = some b → w.heap.size ≤ b) ∧ Lk w' base x m n M ∧ Below w.heap.size w w'
set_option maxHeartbeats 4000000 in
theorem play_any (w : World) (base : Nat) (m1 m2 : Int) (v : Value) (l : List Sp) (h : Rcs encS 7 w v l) (hin : ∀ s ∈ l, InS s) (hl : l.length ≤ 100000) (hb : base ≤ w.heap.size) :
    Calls Try.prog 22 #[.agg #[.int .i64 m1, .int .i64 m2], v] w (Played base (0 + l.length) (plays m1 m2 (fun _ => p0) l) w) := by
  have B1 := Lib.hid (below_one w (.cells #[.int .i64 m1, .int .i64 m2] 23))
  have HME := Lib.hid (box_new w m1 m2)
  have HR := Lib.hid (h.below B1.out)
  have HIN := Lib.hid hin
  have HLL := Lib.hid hl
  have HB := Lib.hid hb
  have HZ := Lib.hid (show w.heap.size ≤ (w.alloc (.cells #[.int .i64 m1, .int .i64 m2] 23)).heap.size by simp)
  obtain ⟨A, c, rfl, -, hc, -⟩ := id h
  have hc2 : (l.length : Int) ≤ (c : Int) := by omega
  clear h hin hl hb hc hc2
  go_enter Try.func22, Try.ntmps22
  go_wp2_with fail
  generalize hw1 : World.alloc _ _ = w1 at *
  clear hw1
  (with_reducible refine (new_any w1.heap.size w1 (Nat.le_refl _)).mono ?_)
  rintro e w2 ⟨x, rfl, hx, h1, h2⟩
  have G0 : Hid (Lk w2 w1.heap.size x none (0 + 0) (plays m1 m2 (fun _ => p0) (l.take 0)) ∧ Below w1.heap.size w1 w2) := Lib.hid ⟨h1, h2⟩
  clear h1 h2 hx
  go_wp2_with fail
  go_loopw [6] (fun s6 wr => ∃ (k : Nat) (m : Option Nat), k ≤ l.length ∧ s6 = .int .i64 k ∧ Hid (Lk wr w1.heap.size x m (0 + k) (plays m1 m2 (fun _ => p0) (l.take k)) ∧ Below w1.heap.size w1 wr)) (fun s6 _ => l.length - (intOf s6).toNat)
  case atStart => exact ⟨0, _, by omega, rfl, G0⟩
  case round =>
    clear G0
    obtain ⟨k, m, hk, rfl, G1⟩ := hrel
    by_cases hlt : k < l.length
    · have hd : decide ((k : Int) < (l.length : Int)) = true := by simp; omega
      have i3 : (0 : Int) ≤ (k : Int) := by omega
      have i4 : (k : Int) < (l.length : Int) := by omega
      have i5 : (l.length : Int) ≤ 100000 := by have := HLL.out; omega
      have HPL := Lib.hid (plays_snoc m1 m2 (fun _ => p0) l k hlt)
      obtain ⟨ad, rfl, hcs⟩ := steps_at HR.out hlt
      have HIS := Lib.hid (HIN.out _ (List.getElem_mem hlt))
      generalize hsy : l[k] = y at *
      clear hsy
      have HS : Hid (∀ W, Below w1.heap.size w1 W → (W.cell? ⟨w.heap.size, 0, none⟩ = some (.int .i64 m1) ∧ W.cell? ⟨w.heap.size, 1, none⟩ = some (.int .i64 m2) ∧ W.cell? (ad.add (k * 7)) = some (.bool y.q) ∧ W.cell? ⟨(ad.add (k * 7)).block, (ad.add (k * 7)).off + 1, none⟩ = some (.int .u8 y.F.k) ∧ W.cell? ⟨(ad.add (k * 7)).block, (ad.add (k * 7)).off + 2, none⟩ = some (.int .i64 y.F.f1) ∧ W.cell? ⟨(ad.add (k * 7)).block, (ad.add (k * 7)).off + 3, none⟩ = some (.int .i64 y.F.f2) ∧ W.cell? ⟨(ad.add (k * 7)).block, (ad.add (k * 7)).off + 4, none⟩ = some (.int .i64 y.F.t1) ∧ W.cell? ⟨(ad.add (k * 7)).block, (ad.add (k * 7)).off + 5, none⟩ = some (.int .i64 y.F.t2) ∧ W.cell? ⟨(ad.add (k * 7)).block, (ad.add (k * 7)).off + 6, none⟩ = some (.int .i64 y.F.n) ∧ Hid (Below w1.heap.size w1 W))) := Lib.hid fun W hb =>
        have b := box_cells (box_below HME.out hb (box_lt HME.out))
        have s := hcs W hb
        ⟨b.1, b.2, s.1, s.2.1, s.2.2.1, s.2.2.2.1, s.2.2.2.2.1, s.2.2.2.2.2.1, s.2.2.2.2.2.2, Lib.hid hb⟩
      clear hcs
      generalize hMk : plays m1 m2 (fun _ => p0) (l.take k) = Mk at *
      clear hMk
      have HN := Lib.hid (show 0 + k < maxLen by have := HLL.out; unfold maxLen; omega)
      cases hq : y.q
      · have HQ := Lib.hid hq
        have HST := Lib.hid (show step m1 m2 Mk y = takeM Mk y.F m1 m2 by unfold step; rw [hq]; rfl)
        clear hq
        obtain ⟨_, _, c0, _⟩ := HS.out _ G1.out.2
        rw [HQ.out] at c0
        go_wp2_with fail
        clear c0
        refine wp_region_held_drew (S := fun W => W.cell? ⟨w.heap.size, 0, none⟩ = some (.int .i64 m1) ∧ W.cell? ⟨w.heap.size, 1, none⟩ = some (.int .i64 m2) ∧ W.cell? (ad.add (k * 7)) = some (.bool y.q) ∧ W.cell? ⟨(ad.add (k * 7)).block, (ad.add (k * 7)).off + 1, none⟩ = some (.int .u8 y.F.k) ∧ W.cell? ⟨(ad.add (k * 7)).block, (ad.add (k * 7)).off + 2, none⟩ = some (.int .i64 y.F.f1) ∧ W.cell? ⟨(ad.add (k * 7)).block, (ad.add (k * 7)).off + 3, none⟩ = some (.int .i64 y.F.f2) ∧ W.cell? ⟨(ad.add (k * 7)).block, (ad.add (k * 7)).off + 4, none⟩ = some (.int .i64 y.F.t1) ∧ W.cell? ⟨(ad.add (k * 7)).block, (ad.add (k * 7)).off + 5, none⟩ = some (.int .i64 y.F.t2) ∧ W.cell? ⟨(ad.add (k * 7)).block, (ad.add (k * 7)).off + 6, none⟩ = some (.int .i64 y.F.n) ∧ Hid (Below w1.heap.size w1 W)) (by kernel_rfl) ?_ (fun hHeld => ?_)
        · exact HS.out _ (below_drewN (n := 1) G1.out.2)
        (refine wpAnyH_take (i := 0) (oi := ⟨_, _, _, _, _, _⟩) (v := ?_) rfl (by kernel_rfl) (by kernel_rfl) (by kernel_rfl) (fun _ _ _ h => h) (Or.inl ⟨by rfl, ?_⟩) (by assumption) ?_; rotate_left 1; · (intro w hSw; (try dsimp only at hSw); go_simp; all_goals with_reducible rfl))
        try simp only [Act.put, List.setIfInBounds_toArray, List.set_cons_zero, List.set_cons_succ]
        (refine wpAnyH_take (i := 1) (oi := ⟨_, _, _, _, _, _⟩) (v := ?_) rfl (by kernel_rfl) (by kernel_rfl) (by kernel_rfl) (fun _ _ _ h => h) (Or.inl ⟨by rfl, ?_⟩) (by assumption) ?_; rotate_left 1; · (intro w hSw; (try dsimp only at hSw); go_simp; all_goals with_reducible rfl))
        try simp only [Act.put, List.setIfInBounds_toArray, List.set_cons_zero, List.set_cons_succ]
        (refine wpAnyH_take (i := 2) (oi := ⟨_, _, _, _, _, _⟩) (v := ?_) rfl (by kernel_rfl) (by kernel_rfl) (by kernel_rfl) (fun _ _ _ h => h) (Or.inl ⟨by rfl, ?_⟩) (by assumption) ?_; rotate_left 1; · (intro w hSw; (try dsimp only at hSw); go_simp; all_goals with_reducible rfl))
        try simp only [Act.put, List.setIfInBounds_toArray, List.set_cons_zero, List.set_cons_succ]
        (refine wpAnyH_take (i := 3) (oi := ⟨_, _, _, _, _, _⟩) (v := ?_) rfl (by kernel_rfl) (by kernel_rfl) (by kernel_rfl) (fun _ _ _ h => h) (Or.inl ⟨by rfl, ?_⟩) (by assumption) ?_; rotate_left 1; · (intro w hSw; (try dsimp only at hSw); go_simp; all_goals with_reducible rfl))
        try simp only [Act.put, List.setIfInBounds_toArray, List.set_cons_zero, List.set_cons_succ]
        (refine wpAnyH_take (i := 4) (oi := ⟨_, _, _, _, _, _⟩) (v := ?_) rfl (by kernel_rfl) (by kernel_rfl) (by kernel_rfl) (fun _ _ _ h => h) (Or.inl ⟨by rfl, ?_⟩) (by assumption) ?_; rotate_left 1; · (intro w hSw; (try dsimp only at hSw); go_simp; all_goals with_reducible rfl))
        try simp only [Act.put, List.setIfInBounds_toArray, List.set_cons_zero, List.set_cons_succ]
        (refine wpAnyH_take (i := 6) (oi := ⟨_, _, _, _, _, _⟩) (v := ?_) rfl (by kernel_rfl) (by kernel_rfl) (by kernel_rfl) (fun _ _ _ h => h) (Or.inl ⟨by rfl, ?_⟩) (by assumption) ?_; rotate_left 1; · (intro w hSw; (try dsimp only at hSw); go_simp; all_goals with_reducible rfl))
        try simp only [Act.put, List.setIfInBounds_toArray, List.set_cons_zero, List.set_cons_succ]
        refine wpAnyH_ready (rs := [5]) (by kernel_rfl) (by simp) ?_
        refine AllReadyH.cons (o := ⟨_, _, _, _, _, _⟩) rfl (fun Kq hKq => ?_) AllReadyH.nil
        go_simp
        clear hHeld
        (go_at_call 16; (with_reducible refine (frame_any y _).mono ?_); rintro e w7 ⟨rfl, hb⟩; have G2 := Lib.hid (And.intro (G1.out.1.drewN (c := 1) |>.below hb) (G1.out.2.trans (((below_drewN (n := 1) (Below.refl _ _)).trans hb).mono G1.out.1.base))); clear hb)
        refine hKq.out _ _ ?_ (fun hHeld => ?_)
        · (try dsimp only); exact HS.out _ G2.out.2
        clear hKq Kq
        try simp only [Act.put, List.setIfInBounds_toArray, List.set_cons_zero, List.set_cons_succ]
        refine wpAnyH_ready (rs := [7]) (by kernel_rfl) (by simp) ?_
        refine AllReadyH.cons (o := ⟨_, _, _, _, _, _⟩) rfl (fun Kq hKq => ?_) AllReadyH.nil
        go_simp
        clear hHeld
        (go_at_call 15; (with_reducible refine (take_any _ w1.heap.size x _ m Mk G2.out.1 HN.out y.F m1 m2 HIS.out.1).mono ?_); rintro e w8 ⟨rfl, m8, h1, h2⟩; have G3 := Lib.hid (show Lk w8 w1.heap.size x m8 (0 + k + 1) (takeM Mk y.F m1 m2) ∧ Below w1.heap.size w1 w8 from And.intro h1 (h2.ahead G2.out.2 G2.out.1)); clear h1 h2)
        refine hKq.out _ _ ?_ (fun hHeld => ?_)
        · (try dsimp only); exact HS.out _ G3.out.2
        clear hKq Kq
        try simp only [Act.put, List.setIfInBounds_toArray, List.set_cons_zero, List.set_cons_succ]
        refine wpAnyH_done (by kernel_rfl) ?_ _
        clear hHeld HS G1 G2
        go_wp2_with fail
        go_roundw
        case rel => exact ⟨k + 1, m8, by omega, by go_num, Lib.hid (by rw [HPL.out, HST.out]; exact G3.out)⟩
        case measure => simp [intOf]; omega
      · have HQ := Lib.hid hq
        have HST := Lib.hid (show step m1 m2 Mk y = fenceM Mk y.F.f1 y.F.f2 by unfold step; rw [hq]; rfl)
        clear hq
        obtain ⟨_, _, c0, _, c2, c3, _⟩ := HS.out _ G1.out.2
        rw [HQ.out] at c0
        go_wp2_with (go_at_call 13; (with_reducible refine (fence_any _ w1.heap.size x _ m Mk G1.out.1 HN.out y.F.f1 y.F.f2 HIS.out.1).mono ?_); rintro e w8 ⟨rfl, m8, h1, h2⟩; have G3 := Lib.hid (show Lk w8 w1.heap.size x m8 (0 + k + 1) (fenceM Mk y.F.f1 y.F.f2) ∧ Below w1.heap.size w1 w8 from And.intro h1 (h2.ahead G1.out.2 G1.out.1)); clear h1 h2)
        go_roundw
        case rel => exact ⟨k + 1, m8, by omega, by go_num, Lib.hid (by rw [HPL.out, HST.out]; exact G3.out)⟩
        case measure => simp [intOf]; omega
    · have hke : k = l.length := by omega
      subst hke
      rw [List.take_length] at G1
      have hd : decide ((l.length : Int) < (l.length : Int)) = false := by simp
      clear hlt hk
      go_wp2_with fail
      go_ret
      exact ⟨x, m, rfl, Nat.le_trans HZ.out G1.out.1.b, fun b e => Nat.le_trans HZ.out (G1.out.1.yes b e).1, G1.out.1.mono (Nat.le_trans HB.out HZ.out) (Nat.le_refl _), B1.out.trans (G1.out.2.mono HZ.out)⟩
end Go.Proofs.Ytgbbmhdkhhchhaa
