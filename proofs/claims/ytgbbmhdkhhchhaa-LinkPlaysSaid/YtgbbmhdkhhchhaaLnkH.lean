/-
  A walk over links: a frame is taken. No statement is proved in this text.
-/
import Derived.Test.YtgbbmhdkhhchhaaLnkG
import Derived.Laws.Rows
import Derived.Laws.Tables
set_option maxRecDepth 20000
namespace Go.Proofs.Ytgbbmhdkhhchhaa
open Go Go.RowKit
theorem refuses_is (r : Int) (p : Pr) (F : Fm) (m1 m2 : Int) (h : refuse p F m1 m2 = r) (w : World) :
    Calls Try.prog 28 #[.agg #[.int .i64 p.nw, .int .i64 p.fe, .int .i64 p.be, .int .i64 p.re], .agg #[.int .u8 F.k, .int .i64 F.f1, .int .i64 F.f2, .int .i64 F.t1, .int .i64 F.t2, .int .i64 F.n, .int .i64 0, .int .i64 0, .int .i64 0, .slice none 0 0, .slice none 0 0, .slice none 0 0, .slice none 0 0, .slice none 0 0], .agg #[.int .i64 m1, .int .i64 m2]] w fun e w' => e = .returned (.int .i64 r) ∧ Below w.heap.size w w' := by
  subst h
  exact refuses_any p F m1 m2 w
theorem after_is (q : Pr) (r : Int) (p : Pr) (F : Fm) (h : after p F = (q, r)) (w : World) :
    Calls Try.prog 29 #[.agg #[.int .i64 p.nw, .int .i64 p.fe, .int .i64 p.be, .int .i64 p.re], .agg #[.int .u8 F.k, .int .i64 F.f1, .int .i64 F.f2, .int .i64 F.t1, .int .i64 F.t2, .int .i64 F.n, .int .i64 0, .int .i64 0, .int .i64 0, .slice none 0 0, .slice none 0 0, .slice none 0 0, .slice none 0 0, .slice none 0 0]] w fun e w' => e = .returned (.tuple #[.agg #[.int .i64 q.nw, .int .i64 q.fe, .int .i64 q.be, .int .i64 q.re], .int .i64 r]) ∧ Below w.heap.size w w' := by
  have k := after_any p F w
  rw [h] at k
  exact k
theorem size42 : (Try.prog.info? 42).map (·.size) = some 14 := by kernel_rfl
theorem size62 : (Try.prog.info? 62).map (·.size) = some 4 := by kernel_rfl
theorem pbox_set {w : World} {g : Nat} {p : Pr} (h : PBox w g p) (q : Pr) : PBox (w.setRow g #[.int .i64 q.nw, .int .i64 q.fe, .int .i64 q.be, .int .i64 q.re]) g q := setRow_heap w g _ _ 62 (0, 0) h
theorem Ch.setRow {w w' : World} {l g : Nat} {m m' : Option Nat} {cs : Array Value} (h : Ch w w' l m m') (hg : w.heap.size ≤ g) : Ch w (w'.setRow g cs) l m m' :=
  ⟨h.os, h.tape, h.output, by simpa using h.size, fun k hk hl hm => (setRow_other w' g k cs (by omega)).trans (h.block k hk hl hm), h.lies⟩
theorem Lk.store4 {w : World} {base l n g : Nat} {m : Option Nat} {M : Int → Pr} {p : Pr} (h : Lk w base l m n M) (hp : PBox w g p) (q : Pr) : Lk (w.setRow g #[.int .i64 q.nw, .int .i64 q.fe, .int .i64 q.be, .int .i64 q.re]) base l m n M := by
  have hl : l ≠ g := fun e => by
    unfold PBox at hp
    have hx := h.x
    rw [e, hp] at hx
    injection hx with hx
    injection hx with _ ht
    exact absurd ht (by decide)
  have k : ∀ j, j ≠ g → (w.setRow g #[.int .i64 q.nw, .int .i64 q.fe, .int .i64 q.be, .int .i64 q.re]).heap[j]? = w.heap[j]? := fun j hj => setRow_other w g j _ hj
  refine ⟨(k l hl).trans h.x, h.b, h.no, fun b e => ⟨(h.yes b e).1, mapAt_same (h.yes b e).2 (k b fun e2 => ?_)⟩⟩
  obtain ⟨D, ⟨es, clock, h1, _⟩, _⟩ := (h.yes b e).2
  unfold PBox at hp
  rw [e2, hp] at h1
  cases h1
theorem take_nil (w : World) (F : Fm) (m1 m2 : Int) : Calls Try.prog 15 #[.pointer none, .agg #[.int .u8 F.k, .int .i64 F.f1, .int .i64 F.f2, .int .i64 F.t1, .int .i64 F.t2, .int .i64 F.n, .int .i64 0, .int .i64 0, .int .i64 0, .slice none 0 0, .slice none 0 0, .slice none 0 0, .slice none 0 0, .slice none 0 0], .agg #[.int .i64 m1, .int .i64 m2]] w fun e w' => e = .returned (.int .i64 2) ∧ Below w.heap.size w w' := by
  have B := Lib.hid (show Below w.heap.size w ((w.alloc (.cells #[.int .u8 F.k, .int .i64 F.f1, .int .i64 F.f2, .int .i64 F.t1, .int .i64 F.t2, .int .i64 F.n, .int .i64 0, .int .i64 0, .int .i64 0, .slice none 0 0, .slice none 0 0, .slice none 0 0, .slice none 0 0, .slice none 0 0] 42)).alloc (.cells #[.int .i64 m1, .int .i64 m2] 23)) from ((Below.refl _ _).alloc (Nat.le_refl _) _).alloc (by simp) _)
  go_enter Try.func15, Try.ntmps15
  go_wp2_with fail
  go_ret
  exact ⟨rfl, B.out⟩
set_option maxHeartbeats 4000000 in
theorem take_any (w : World) (base l n : Nat) (m : Option Nat) (M : Int → Pr) (h : Lk w base l m n M) (hn : n < maxLen) (F : Fm) (m1 m2 : Int) (ha : -9223372036854775808 ≤ F.f1 ∧ F.f1 ≤ 9223372036854775807) :
    Calls Try.prog 15 #[.pointer (some ⟨l, 0, none⟩), .agg #[.int .u8 F.k, .int .i64 F.f1, .int .i64 F.f2, .int .i64 F.t1, .int .i64 F.t2, .int .i64 F.n, .int .i64 0, .int .i64 0, .int .i64 0, .slice none 0 0, .slice none 0 0, .slice none 0 0, .slice none 0 0, .slice none 0 0], .agg #[.int .i64 m1, .int .i64 m2]] w (Did (.int .i64 (takeE M F m1 m2)) base l m (n + 1) (takeM M F m1 m2) w) := by
  have B1 := Lib.hid (show Below w.heap.size w ((w.alloc (.cells #[.int .u8 F.k, .int .i64 F.f1, .int .i64 F.f2, .int .i64 F.t1, .int .i64 F.t2, .int .i64 F.n, .int .i64 0, .int .i64 0, .int .i64 0, .slice none 0 0, .slice none 0 0, .slice none 0 0, .slice none 0 0, .slice none 0 0] 42)).alloc (.cells #[.int .i64 m1, .int .i64 m2] 23)) from ((Below.refl _ _).alloc (Nat.le_refl _) _).alloc (by simp) _)
  have X1 := Lib.hid (show FBox ((w.alloc (.cells #[.int .u8 F.k, .int .i64 F.f1, .int .i64 F.f2, .int .i64 F.t1, .int .i64 F.t2, .int .i64 F.n, .int .i64 0, .int .i64 0, .int .i64 0, .slice none 0 0, .slice none 0 0, .slice none 0 0, .slice none 0 0, .slice none 0 0] 42)).alloc (.cells #[.int .i64 m1, .int .i64 m2] 23)) w.heap.size F from (Below.heap_alloc _ _ _ (by simp)).trans (fbox_new w F))
  have I1 := Lib.hid (show Box ((w.alloc (.cells #[.int .u8 F.k, .int .i64 F.f1, .int .i64 F.f2, .int .i64 F.t1, .int .i64 F.t2, .int .i64 F.n, .int .i64 0, .int .i64 0, .int .i64 0, .slice none 0 0, .slice none 0 0, .slice none 0 0, .slice none 0 0, .slice none 0 0] 42)).alloc (.cells #[.int .i64 m1, .int .i64 m2] 23)) (w.heap.size + 1) m1 m2 from by have := box_new (w.alloc (.cells #[.int .u8 F.k, .int .i64 F.f1, .int .i64 F.f2, .int .i64 F.t1, .int .i64 F.t2, .int .i64 F.n, .int .i64 0, .int .i64 0, .int .i64 0, .slice none 0 0, .slice none 0 0, .slice none 0 0, .slice none 0 0, .slice none 0 0] 42)) m1 m2; simpa using this)
  have H1 := Lib.hid (h.below B1.out)
  have HN := Lib.hid hn
  have HA := Lib.hid ha
  have HTE : Hid (∀ r, refuse (M F.f1) F m1 m2 = r → r ≠ 0 → takeE M F m1 m2 = r ∧ takeM M F m1 m2 = M) := Lib.hid fun r hr h0 => by
    have e : takeE M F m1 m2 = r := by unfold takeE; rw [if_neg (by rw [hr]; exact h0)]; exact hr
    exact ⟨e, takeM_no (by rw [e]; exact h0)⟩
  have HTA : Hid (∀ q r, refuse (M F.f1) F m1 m2 = 0 → after (M F.f1) F = (q, r) → takeE M F m1 m2 = r ∧ takeM M F m1 m2 = if r = 0 then put M F.f1 q else M) := Lib.hid fun q r hr h0 => by
    have e : takeE M F m1 m2 = r := by unfold takeE; rw [if_pos hr, h0]
    refine ⟨e, ?_⟩
    unfold takeM
    rw [e, h0]
  have HL := Lib.hid (fun W hb => ((H1.out.below (w' := W) hb).look HA.out))
  obtain ⟨r, hr⟩ : ∃ r, refuse (M F.f1) F m1 m2 = r := ⟨_, rfl⟩
  obtain ⟨q, r2, ha2⟩ : ∃ q r2, after (M F.f1) F = (q, r2) := ⟨_, _, rfl⟩
  have HR := Lib.hid hr
  have HQ := Lib.hid ha2
  clear h hn ha hr ha2
  generalize takeE M F m1 m2 = TE at *
  generalize takeM M F m1 m2 = TM at *
  have HP : Hid (∀ q, put M F.f1 q = put M F.f1 q) := Lib.hid fun _ => rfl
  generalize hp : M F.f1 = p at *
  clear hp HP
  go_enter Try.func15, Try.ntmps15
  go_wp2_with fail
  generalize hW : World.alloc _ _ = w1 at *
  clear hW
  have HS : Hid (∀ W, Below w1.heap.size w1 W → (W.cell? ⟨w.heap.size, 1, none⟩ = some (.int .i64 F.f1) ∧ W.cell? ⟨l, 0, none⟩ = some (.map m) ∧ (Instr.lookup 52 (.map m) (.int .i64 F.f1) false).run Try.prog W = .ok (.agg #[.int .i64 p.nw, .int .i64 p.fe, .int .i64 p.be, .int .i64 p.re]) W ∧ Hid (Below w1.heap.size w1 W))) := Lib.hid fun W hb =>
    ⟨(fbox_cells (fbox_below X1.out hb (fbox_lt X1.out))).2.1, (H1.out.below hb).cell, HL.out W hb, Lib.hid hb⟩
  refine wp_region_held_drew (S := fun W => W.cell? ⟨w.heap.size, 1, none⟩ = some (.int .i64 F.f1) ∧ W.cell? ⟨l, 0, none⟩ = some (.map m) ∧ (Instr.lookup 52 (.map m) (.int .i64 F.f1) false).run Try.prog W = .ok (.agg #[.int .i64 p.nw, .int .i64 p.fe, .int .i64 p.be, .int .i64 p.re]) W ∧ Hid (Below w1.heap.size w1 W)) (by kernel_rfl) ?_ (fun hHeld => ?_)
  · exact HS.out _ (below_drewN (n := 1) (Below.refl _ _))
  (refine wpAnyH_take (i := 0) (oi := ⟨_, _, _, _, _, _⟩) (v := ?_) rfl (by kernel_rfl) (by kernel_rfl) (by kernel_rfl) (fun _ _ _ h => h) (Or.inl ⟨by rfl, ?_⟩) (by assumption) ?_; rotate_left 1; · (intro w hSw; (try dsimp only at hSw); go_simp; all_goals with_reducible rfl))
  try simp only [Act.put, List.setIfInBounds_toArray, List.set_cons_zero, List.set_cons_succ]
  (refine wpAnyH_take (i := 1) (oi := ⟨_, _, _, _, _, _⟩) (v := ?_) rfl (by kernel_rfl) (by kernel_rfl) (by kernel_rfl) (fun _ _ _ h => h) (Or.inl ⟨by rfl, ?_⟩) (by assumption) ?_; rotate_left 1; · (intro w hSw; (try dsimp only at hSw); go_simp; all_goals with_reducible rfl))
  try simp only [Act.put, List.setIfInBounds_toArray, List.set_cons_zero, List.set_cons_succ]
  (refine wpAnyH_take (i := 2) (oi := ⟨_, _, _, _, _, _⟩) (v := ?_) rfl (by kernel_rfl) (by kernel_rfl) (by kernel_rfl) (fun _ _ _ h => h) (Or.inl ⟨by rfl, ?_⟩) (by assumption) ?_; rotate_left 1; · (intro w hSw; (try dsimp only at hSw); go_simp; all_goals with_reducible rfl))
  try simp only [Act.put, List.setIfInBounds_toArray, List.set_cons_zero, List.set_cons_succ]
  (refine wpAnyH_take (i := 3) (oi := ⟨_, _, _, _, _, _⟩) (v := ?_) rfl (by kernel_rfl) (by kernel_rfl) (by kernel_rfl) (fun _ _ _ h => h) (Or.inl ⟨by rfl, ?_⟩) (by assumption) ?_; rotate_left 1; · (intro w hSw; (try dsimp only at hSw); go_simp; all_goals with_reducible rfl))
  try simp only [Act.put, List.setIfInBounds_toArray, List.set_cons_zero, List.set_cons_succ]
  (refine wpAnyH_take (i := 4) (oi := ⟨_, _, _, _, _, _⟩) (v := ?_) rfl (by kernel_rfl) (by kernel_rfl) (by kernel_rfl) (fun _ _ _ h => h) (Or.inl ⟨by rfl, ?_⟩) (by assumption) ?_; rotate_left 1; · (intro w hSw; (try dsimp only at hSw); go_simp; all_goals with_reducible rfl))
  try simp only [Act.put, List.setIfInBounds_toArray, List.set_cons_zero, List.set_cons_succ]
  (refine wpAnyH_take (i := 5) (oi := ⟨_, _, _, _, _, _⟩) (v := ?_) rfl (by kernel_rfl) (by kernel_rfl) (by kernel_rfl) (fun _ _ _ h => h) (Or.inl ⟨by rfl, ?_⟩) (by assumption) ?_; rotate_left 1; · (intro w hSw; (try dsimp only at hSw); go_simp; all_goals with_reducible rfl))
  try simp only [Act.put, List.setIfInBounds_toArray, List.set_cons_zero, List.set_cons_succ]
  (refine wpAnyH_take (i := 6) (oi := ⟨_, _, _, _, _, _⟩) (v := ?_) rfl (by kernel_rfl) (by kernel_rfl) (by kernel_rfl) (fun _ _ _ h => h) (Or.inl ⟨by rfl, ?_⟩) (by assumption) ?_; rotate_left 1; · (intro w hSw; (try dsimp only at hSw); go_simp; all_goals with_reducible rfl))
  try simp only [Act.put, List.setIfInBounds_toArray, List.set_cons_zero, List.set_cons_succ]
  (refine wpAnyH_take (i := 7) (oi := ⟨_, _, _, _, _, _⟩) (v := ?_) rfl (by kernel_rfl) (by kernel_rfl) (by kernel_rfl) (fun _ _ _ h => h) (Or.inl ⟨by rfl, ?_⟩) (by assumption) ?_; rotate_left 1; · (intro w hSw; (try dsimp only at hSw); go_simp; all_goals with_reducible rfl))
  try simp only [Act.put, List.setIfInBounds_toArray, List.set_cons_zero, List.set_cons_succ]
  refine wpAnyH_ready (rs := [8]) (by kernel_rfl) (by simp) ?_
  refine AllReadyH.cons (o := ⟨_, _, _, _, _, _⟩) rfl (fun Kq hKq => ?_) AllReadyH.nil
  go_simp
  clear hHeld
  skip
  refine hKq.out _ _ ?_ (fun hHeld => ?_)
  · (try dsimp only); exact HS.out _ ((below_drewN (n := 1) (Below.refl _ _)).alloc (Nat.le_refl _) _)
  clear hKq Kq
  try simp only [Act.put, List.setIfInBounds_toArray, List.set_cons_zero, List.set_cons_succ]
  refine wpAnyH_ready (rs := [9]) (by kernel_rfl) (by simp) ?_
  refine AllReadyH.cons (o := ⟨_, _, _, _, _, _⟩) rfl (fun Kq hKq => ?_) AllReadyH.nil
  go_simp
  clear hHeld
  skip
  refine hKq.out _ _ ?_ (fun hHeld => ?_)
  · (try dsimp only); exact HS.out _ ((below_drewN (n := 1) (Below.refl _ _)).alloc (Nat.le_refl _) _)
  clear hKq Kq
  try simp only [Act.put, List.setIfInBounds_toArray, List.set_cons_zero, List.set_cons_succ]
  refine wpAnyH_done (by kernel_rfl) ?_ _
  have E3 := Lib.hid hHeld.2.2.2.out
  clear hHeld HS HL
  have X3 := Lib.hid (fbox_below X1.out E3.out (fbox_lt X1.out))
  have I3 := Lib.hid (box_below I1.out E3.out (box_lt I1.out))
  have Y3 := Lib.hid (show PBox (w1.alloc (.cells #[.int .i64 p.nw, .int .i64 p.fe, .int .i64 p.be, .int .i64 p.re] 62)).drew w1.heap.size p from pbox_new w1 p)
  have H3 := Lib.hid (H1.out.below E3.out)
  generalize hW : World.drew _ = w3 at *
  clear hW
  have B3 := Lib.hid (B1.out.trans (E3.out.mono B1.out.size))
  have Zf := Lib.hid (show w.heap.size ≠ w1.heap.size from Nat.ne_of_lt (fbox_lt X1.out))
  have Zi := Lib.hid (show w.heap.size + 1 ≠ w1.heap.size from Nat.ne_of_lt (box_lt I1.out))
  have G3 := Lib.hid (show w.heap.size ≤ w1.heap.size from B1.out.size)
  clear B1 X1 I1 H1 E3
  generalize w1.heap.size = g at *
  have HZ := Lib.hid size42
  obtain ⟨b0, b1⟩ := box_cells I3.out
  obtain ⟨c0, c1, c2, c3⟩ := pbox_cells Y3.out
  by_cases h0 : r = 0
  · subst h0
    go_wp2_with (refine wpList_load_row rfl 42 _ rfl w.heap.size rfl 42 #[.int .u8 F.k, .int .i64 F.f1, .int .i64 F.f2, .int .i64 F.t1, .int .i64 F.t2, .int .i64 F.n, .int .i64 0, .int .i64 0, .int .i64 0, .slice none 0 0, .slice none 0 0, .slice none 0 0, .slice none 0 0, .slice none 0 0] (0, 0) _ X3.out Try.underlying42 rfl HZ.out ?_)
    (with_reducible refine (refuses_is 0 p F m1 m2 HR.out _).mono ?_)
    rintro e4 w4 ⟨rfl, hb⟩
    have X4 := Lib.hid (fbox_below X3.out hb (fbox_lt X3.out))
    have Y4 := Lib.hid (pbox_below Y3.out hb (pbox_lt Y3.out))
    have H4 := Lib.hid (H3.out.below hb)
    have B4 := Lib.hid (B3.out.trans (hb.mono B3.out.size))
    clear hb b0 b1 c0 c1 c2 c3 X3 Y3 H3 B3 I3 Zi
    obtain ⟨c0, c1, c2, c3⟩ := pbox_cells Y4.out
    obtain ⟨f0, f1, f2, f3⟩ := pbox_free Y4.out
    go_wp2_with (refine wpList_load_row rfl 42 _ rfl w.heap.size rfl 42 #[.int .u8 F.k, .int .i64 F.f1, .int .i64 F.f2, .int .i64 F.t1, .int .i64 F.t2, .int .i64 F.n, .int .i64 0, .int .i64 0, .int .i64 0, .slice none 0 0, .slice none 0 0, .slice none 0 0, .slice none 0 0, .slice none 0 0] (0, 0) _ X4.out Try.underlying42 rfl HZ.out ?_)
    (with_reducible refine (after_is q r2 p F HQ.out _).mono ?_)
    rintro e5 w5 ⟨rfl, hb⟩
    have X5 := Lib.hid (fbox_below X4.out hb (fbox_lt X4.out))
    have Y5 := Lib.hid (pbox_below Y4.out hb (pbox_lt Y4.out))
    have H5 := Lib.hid (H4.out.below hb)
    have B5 := Lib.hid (B4.out.trans (hb.mono B4.out.size))
    clear hb c0 c1 c2 c3 f0 f1 f2 f3 X4 Y4 H4 B4
    obtain ⟨c0, c1, c2, c3⟩ := pbox_cells Y5.out
    obtain ⟨f0, f1, f2, f3⟩ := pbox_free Y5.out
    have Y6 := Lib.hid (pbox_set Y5.out q)
    have X6 := Lib.hid (show FBox (w5.setRow g #[.int .i64 q.nw, .int .i64 q.fe, .int .i64 q.be, .int .i64 q.re]) w.heap.size F from by
      unfold FBox
      rw [setRow_other _ _ _ _ Zf.out]
      exact X5.out)
    have H6 := Lib.hid (H5.out.store4 Y5.out q)
    have C6 := Lib.hid (show Ch w (w5.setRow g #[.int .i64 q.nw, .int .i64 q.fe, .int .i64 q.be, .int .i64 q.re]) l m m from (Ch.below B5.out l m).setRow G3.out)
    have HY := Lib.hid size62
    clear f0 f1 f2 f3
    by_cases h2 : r2 = 0
    · subst h2
      have HD := Lib.hid (show TE = 0 ∧ TM = put M F.f1 q from by have := HTA.out q 0 HR.out HQ.out; rw [if_pos rfl] at this; exact this)
      clear HTA HTE c0 c1 c2 c3
      obtain ⟨c0, c1, c2, c3⟩ := pbox_cells Y6.out
      obtain ⟨-, d1, -⟩ := fbox_cells X6.out
      go_wp2_with (refine wpList_store_row rfl 62 _ _ rfl g #[.int .i64 q.nw, .int .i64 q.fe, .int .i64 q.be, .int .i64 q.re] rfl rfl 62 #[.int .i64 p.nw, .int .i64 p.fe, .int .i64 p.be, .int .i64 p.re] Y5.out HY.out rfl (by simp [Value.oneCell']) ?_)
      (with_reducible refine (set_any _ base l n m M H6.out HN.out F.f1 HA.out q).mono ?_)
      rintro e7 w7 ⟨rfl, m7, h1, h2⟩
      have HE := Lib.hid (And.intro h1 (C6.out.trans h2))
      clear h1 h2 c0 c1 c2 c3 d1
      go_wp2_with fail
      go_ret
      rw [HD.out.1, HD.out.2]
      exact ⟨rfl, m7, HE.out.1, HE.out.2⟩
    · have hr0 : (r2 != 0) = true := by simpa using h2
      have HD := Lib.hid (HTA.out q r2 HR.out HQ.out)
      have H2 := Lib.hid h2
      clear HTA HTE h2
      go_wp2_with (refine wpList_store_row rfl 62 _ _ rfl g #[.int .i64 q.nw, .int .i64 q.fe, .int .i64 q.be, .int .i64 q.re] rfl rfl 62 #[.int .i64 p.nw, .int .i64 p.fe, .int .i64 p.be, .int .i64 p.re] Y5.out HY.out rfl (by simp [Value.oneCell']) ?_)
      go_ret
      rw [HD.out.1, HD.out.2, if_neg H2.out]
      exact ⟨rfl, m, H6.out.more, C6.out⟩
  · have hr0 : (r != 0) = true := by simpa using h0
    have HD := Lib.hid (HTE.out r HR.out h0)
    clear h0 HTE HTA
    go_wp2_with (first
      | (refine wpList_load_row rfl 42 _ rfl w.heap.size rfl 42 #[.int .u8 F.k, .int .i64 F.f1, .int .i64 F.f2, .int .i64 F.t1, .int .i64 F.t2, .int .i64 F.n, .int .i64 0, .int .i64 0, .int .i64 0, .slice none 0 0, .slice none 0 0, .slice none 0 0, .slice none 0 0, .slice none 0 0] (0, 0) _ X3.out Try.underlying42 rfl HZ.out ?_)
      | (go_at_call 28; (with_reducible refine (refuses_is r p F m1 m2 HR.out _).mono ?_); rintro e4 w4 ⟨rfl, hb⟩; have B4 := Lib.hid hb; clear hb b0 b1 c0 c1 c2 c3))
    go_ret
    rw [HD.out.1, HD.out.2]
    exact ⟨rfl, m, (H3.out.below B4.out).more, Ch.below (B3.out.trans (B4.out.mono B3.out.size)) l m⟩
end Go.Proofs.Ytgbbmhdkhhchhaa
