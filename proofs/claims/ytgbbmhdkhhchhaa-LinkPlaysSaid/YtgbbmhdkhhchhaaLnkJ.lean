/-
  A walk: the examples. No statement is proved in this text.
-/
import Derived.Test.YtgbbmhdkhhchhaaLnkI
set_option maxRecDepth 20000
namespace Go.Proofs.Ytgbbmhdkhhchhaa
open Go Go.RowKit
theorem take_is (r : Int) (M' : Int → Pr) (w : World) (base l n : Nat) (m : Option Nat) (M : Int → Pr) (h : Lk w base l m n M) (hn : n < maxLen) (F : Fm) (m1 m2 : Int) (ha : -9223372036854775808 ≤ F.f1 ∧ F.f1 ≤ 9223372036854775807) (hE : takeE M F m1 m2 = r) (hM : takeM M F m1 m2 = M') :
    Calls Try.prog 15 #[.pointer (some ⟨l, 0, none⟩), .agg #[.int .u8 F.k, .int .i64 F.f1, .int .i64 F.f2, .int .i64 F.t1, .int .i64 F.t2, .int .i64 F.n, .int .i64 0, .int .i64 0, .int .i64 0, .slice none 0 0, .slice none 0 0, .slice none 0 0, .slice none 0 0, .slice none 0 0], .agg #[.int .i64 m1, .int .i64 m2]] w (Did (.int .i64 r) base l m (n + 1) M' w) := by
  subst hE hM
  exact take_any w base l n m M h hn F m1 m2 ha
theorem take_of (r : Int) (M' : Int → Pr) (w : World) (base l n : Nat) (m : Option Nat) (M : Int → Pr) (h : Lk w base l m n M) (hn : n < maxLen) (fk f1 f2 t1 t2 fn : Int) (m1 m2 : Int) (ha : -9223372036854775808 ≤ f1 ∧ f1 ≤ 9223372036854775807) (hE : takeE M ⟨fk, f1, f2, t1, t2, fn⟩ m1 m2 = r) (hM : takeM M ⟨fk, f1, f2, t1, t2, fn⟩ m1 m2 = M') :
    Calls Try.prog 15 #[.pointer (some ⟨l, 0, none⟩), .agg #[.int .u8 fk, .int .i64 f1, .int .i64 f2, .int .i64 t1, .int .i64 t2, .int .i64 fn, .int .i64 0, .int .i64 0, .int .i64 0, .slice none 0 0, .slice none 0 0, .slice none 0 0, .slice none 0 0, .slice none 0 0], .agg #[.int .i64 m1, .int .i64 m2]] w (Did (.int .i64 r) base l m (n + 1) M' w) := take_is r M' w base l n m M h hn ⟨fk, f1, f2, t1, t2, fn⟩ m1 m2 ha hE hM
theorem fence_is (r : Int) (M' : Int → Pr) (w : World) (base l n : Nat) (m : Option Nat) (M : Int → Pr) (h : Lk w base l m n M) (hn : n < maxLen) (a i : Int) (ha : -9223372036854775808 ≤ a ∧ a ≤ 9223372036854775807) (hE : fenceE a i = r) (hM : fenceM M a i = M') :
    Calls Try.prog 13 #[.pointer (some ⟨l, 0, none⟩), .agg #[.int .i64 a, .int .i64 i]] w (Did (.int .i64 r) base l m (n + 1) M' w) := by
  subst hE hM
  exact fence_any w base l n m M h hn a i ha
theorem newest_is (r : Int) (w : World) (base l n : Nat) (m : Option Nat) (M : Int → Pr) (h : Lk w base l m n M) (a : Int) (ha : -9223372036854775808 ≤ a ∧ a ≤ 9223372036854775807) (hr : (M a).nw = r) :
    Calls Try.prog 20 #[.pointer (some ⟨l, 0, none⟩), .int .i64 a] w fun e w' => e = .returned (.int .i64 r) ∧ w = w' := by
  subst hr
  exact newest_any w base l n m M h a ha
/-- What is known ahead of all, and behind each frame of the examples. -/
def a0 : Int → Pr := fun _ => p0
def a1 : Int → Pr := put a0 2 ⟨1, 0, 5, 0⟩
def a2 : Int → Pr := put a1 2 ⟨2, 0, 1, 0⟩
def a3 : Int → Pr := put a2 2 ⟨2, 2, 1, 0⟩
def a4 : Int → Pr := put a3 2 ⟨3, 2, 1, 0⟩
theorem put_eq {M : Int → Pr} {a : Int} {p q : Pr} (h : p = q) : put M a p = put M a q := by rw [h]
theorem e1 : takeE a0 ⟨5, 2, 1, 1, 1, 5⟩ 1 1 = 0 := by decide
theorem g1 : takeM a0 ⟨5, 2, 1, 1, 1, 5⟩ 1 1 = a1 := (takeM_yes e1).trans (put_eq rfl)
theorem e2 : takeE a1 ⟨5, 2, 1, 1, 1, 5⟩ 1 1 = 6 := by decide
theorem g2 : takeM a1 ⟨5, 2, 1, 1, 1, 5⟩ 1 1 = a1 := takeM_no (by rw [e2]; decide)
theorem e3 : takeE a1 ⟨5, 2, 2, 1, 1, 1⟩ 1 1 = 0 := by decide
theorem g3 : takeM a1 ⟨5, 2, 2, 1, 1, 1⟩ 1 1 = a2 := (takeM_yes e3).trans (put_eq rfl)
theorem e4 : takeE a2 ⟨5, 2, 1, 1, 1, 6⟩ 1 1 = 42 := by decide
theorem g4 : takeM a2 ⟨5, 2, 1, 1, 1, 6⟩ 1 1 = a2 := takeM_no (by rw [e4]; decide)
theorem e5 : fenceE 2 2 = 0 := by decide
theorem g5 : fenceM a2 2 2 = a3 := (if_pos (by decide)).trans (put_eq rfl)
theorem e6 : takeE a3 ⟨5, 2, 2, 1, 1, 9⟩ 1 1 = 7 := by decide
theorem g6 : takeM a3 ⟨5, 2, 2, 1, 1, 9⟩ 1 1 = a3 := takeM_no (by rw [e6]; decide)
theorem e7 : takeE a3 ⟨5, 2, 3, 1, 1, 1⟩ 1 1 = 0 := by decide
theorem g7 : takeM a3 ⟨5, 2, 3, 1, 1, 1⟩ 1 1 = a4 := (takeM_yes e7).trans (put_eq rfl)
/-- What stands while the examples are gone through. -/
structure AwG (w : World) (x g : Nat) (m : Option Nat) (n : Nat) (M : Int → Pr) (W : World) : Prop where
  l : Lk W w.heap.size x m n M
  i : Box W g 1 1
  b : Below w.heap.size w W
theorem AwG.below {w : World} {x g : Nat} {m : Option Nat} {n : Nat} {M : Int → Pr} {W W' : World} (h : AwG w x g m n M W) (hb : Below W.heap.size W W') : AwG w x g m n M W' := ⟨h.l.below hb, box_below h.i hb (box_lt h.i), h.b.trans (hb.mono h.b.size)⟩
theorem AwG.drewN {w : World} {x g c : Nat} {m : Option Nat} {n : Nat} {M : Int → Pr} {W : World} (h : AwG w x g m n M W) : AwG w x g m n M (W.drewN c) := ⟨h.l.drewN, h.i, below_drewN h.b⟩
theorem AwG.did {w : World} {x g : Nat} {m m' : Option Nat} {n : Nat} {M M' : Int → Pr} {W W' : World} (h : AwG w x g m n M W) (h1 : Lk W' w.heap.size x m' (n + 1) M') (h2 : Ch W W' x m m') : AwG w x g m' (n + 1) M' W' := ⟨h1, h2.kept h.l h.i (by decide), h2.ahead h.b h.l⟩
theorem AwG.cells {w : World} {x g : Nat} {m : Option Nat} {n : Nat} {M : Int → Pr} {W : World} (h : AwG w x g m n M W) : W.cell? ⟨g, 0, none⟩ = some (.int .i64 1) ∧ W.cell? ⟨g, 1, none⟩ = some (.int .i64 1) := box_cells h.i
set_option maxHeartbeats 4000000 in
theorem awake_any (w : World) : Calls Try.prog 8 #[] w fun e w' => e = .returned (.bool true) ∧ Below w.heap.size w w' := by
  go_enter Try.func8, Try.ntmps8
  go_wp2_with fail
  (with_reducible refine (new_any w.heap.size w (Nat.le_refl _)).mono ?_)
  rintro e w1 ⟨x, rfl, hx, h1, h2⟩
  have HX := Lib.hid h1
  have HB := Lib.hid h2
  clear h1 h2 hx
  go_wp2_with fail
  have G0 : Hid (AwG w x w1.heap.size none 0 a0 (w1.alloc (.cells #[.int .i64 1, .int .i64 1] 23))) := Lib.hid ⟨HX.out.below (below_one w1 _), box_new w1 1 1, HB.out.trans ((below_one w1 _).mono HB.out.size)⟩
  generalize w1.alloc (.cells #[.int .i64 1, .int .i64 1] 23) = w2 at *
  generalize w1.heap.size = gm at *
  clear HX HB
  refine wp_region_held_drew (S := fun W => W.cell? ⟨gm, 0, none⟩ = some (.int .i64 1) ∧ W.cell? ⟨gm, 1, none⟩ = some (.int .i64 1)) (by kernel_rfl) ?_ (fun hHeld => ?_)
  · exact G0.out.cells
  (refine wpAnyH_take (i := 0) (oi := ⟨_, _, _, _, _, _⟩) (v := ?_) rfl (by kernel_rfl) (by kernel_rfl) (by kernel_rfl) (fun _ _ _ h => h) (Or.inl ⟨by rfl, ?_⟩) (by assumption) ?_; rotate_left 1; · (intro w hSw; (try dsimp only at hSw); go_simp; all_goals with_reducible rfl))
  try simp only [Act.put, List.setIfInBounds_toArray, List.set_cons_zero, List.set_cons_succ]
  (refine wpAnyH_take (i := 2) (oi := ⟨_, _, _, _, _, _⟩) (v := ?_) rfl (by kernel_rfl) (by kernel_rfl) (by kernel_rfl) (fun _ _ _ h => h) (Or.inl ⟨by rfl, ?_⟩) (by assumption) ?_; rotate_left 1; · (intro w hSw; (try dsimp only at hSw); go_simp; all_goals with_reducible rfl))
  try simp only [Act.put, List.setIfInBounds_toArray, List.set_cons_zero, List.set_cons_succ]
  (refine wpAnyH_take (i := 4) (oi := ⟨_, _, _, _, _, _⟩) (v := ?_) rfl (by kernel_rfl) (by kernel_rfl) (by kernel_rfl) (fun _ _ _ h => h) (Or.inl ⟨by rfl, ?_⟩) (by assumption) ?_; rotate_left 1; · (intro w hSw; (try dsimp only at hSw); go_simp; all_goals with_reducible rfl))
  try simp only [Act.put, List.setIfInBounds_toArray, List.set_cons_zero, List.set_cons_succ]
  (refine wpAnyH_take (i := 6) (oi := ⟨_, _, _, _, _, _⟩) (v := ?_) rfl (by kernel_rfl) (by kernel_rfl) (by kernel_rfl) (fun _ _ _ h => h) (Or.inl ⟨by rfl, ?_⟩) (by assumption) ?_; rotate_left 1; · (intro w hSw; (try dsimp only at hSw); go_simp; all_goals with_reducible rfl))
  try simp only [Act.put, List.setIfInBounds_toArray, List.set_cons_zero, List.set_cons_succ]
  (refine wpAnyH_take (i := 8) (oi := ⟨_, _, _, _, _, _⟩) (v := ?_) rfl (by kernel_rfl) (by kernel_rfl) (by kernel_rfl) (fun _ _ _ h => h) (Or.inl ⟨by rfl, ?_⟩) (by assumption) ?_; rotate_left 1; · (intro w hSw; (try dsimp only at hSw); go_simp; all_goals with_reducible rfl))
  try simp only [Act.put, List.setIfInBounds_toArray, List.set_cons_zero, List.set_cons_succ]
  (refine wpAnyH_take (i := 10) (oi := ⟨_, _, _, _, _, _⟩) (v := ?_) rfl (by kernel_rfl) (by kernel_rfl) (by kernel_rfl) (fun _ _ _ h => h) (Or.inl ⟨by rfl, ?_⟩) (by assumption) ?_; rotate_left 1; · (intro w hSw; (try dsimp only at hSw); go_simp; all_goals with_reducible rfl))
  try simp only [Act.put, List.setIfInBounds_toArray, List.set_cons_zero, List.set_cons_succ]
  (refine wpAnyH_take (i := 12) (oi := ⟨_, _, _, _, _, _⟩) (v := ?_) rfl (by kernel_rfl) (by kernel_rfl) (by kernel_rfl) (fun _ _ _ h => h) (Or.inl ⟨by rfl, ?_⟩) (by assumption) ?_; rotate_left 1; · (intro w hSw; (try dsimp only at hSw); go_simp; all_goals with_reducible rfl))
  try simp only [Act.put, List.setIfInBounds_toArray, List.set_cons_zero, List.set_cons_succ]
  (refine wpAnyH_take (i := 14) (oi := ⟨_, _, _, _, _, _⟩) (v := ?_) rfl (by kernel_rfl) (by kernel_rfl) (by kernel_rfl) (fun _ _ _ h => h) (Or.inl ⟨by rfl, ?_⟩) (by assumption) ?_; rotate_left 1; · (intro w hSw; (try dsimp only at hSw); go_simp; all_goals with_reducible rfl))
  try simp only [Act.put, List.setIfInBounds_toArray, List.set_cons_zero, List.set_cons_succ]
  refine wpAnyH_ready (rs := [1]) (by kernel_rfl) (by simp) ?_
  refine AllReadyH.cons (o := ⟨_, _, _, _, _, _⟩) rfl (fun Kq hKq => ?_) AllReadyH.nil
  go_simp
  clear hHeld
  (go_at_call 24; (with_reducible refine (beat_any 2 1 5 _).mono ?_); rintro e w' ⟨rfl, hb⟩; have G1 := Lib.hid ((G0.out.drewN (c := 1)).below hb); clear hb G0)
  refine hKq.out _ _ ?_ (fun hHeld => ?_)
  · (try dsimp only); exact G1.out.cells
  clear hKq Kq
  refine wpAnyH_ready (rs := [3]) (by kernel_rfl) (by simp) ?_
  refine AllReadyH.cons (o := ⟨_, _, _, _, _, _⟩) rfl (fun Kq hKq => ?_) AllReadyH.nil
  go_simp
  clear hHeld
  (go_at_call 15; (with_reducible refine (take_of 0 a1 _ _ x 0 _ a0 G1.out.l (by unfold maxLen; omega) 5 2 1 1 1 5 1 1 (by decide) e1 g1).mono ?_); rintro e w' ⟨rfl, m0, h1, h2⟩; have G2 := Lib.hid (G1.out.did h1 h2); clear h1 h2 G1)
  refine hKq.out _ _ ?_ (fun hHeld => ?_)
  · (try dsimp only); exact G2.out.cells
  clear hKq Kq
  try simp only [Act.put, List.setIfInBounds_toArray, List.set_cons_zero, List.set_cons_succ]
  refine wpAnyH_ready (rs := [5]) (by kernel_rfl) (by simp) ?_
  refine AllReadyH.cons (o := ⟨_, _, _, _, _, _⟩) rfl (fun Kq hKq => ?_) AllReadyH.nil
  go_simp
  clear hHeld
  (go_at_call 24; (with_reducible refine (beat_any 2 1 5 _).mono ?_); rintro e w' ⟨rfl, hb⟩; have G3 := Lib.hid ((G2.out).below hb); clear hb G2)
  refine hKq.out _ _ ?_ (fun hHeld => ?_)
  · (try dsimp only); exact G3.out.cells
  clear hKq Kq
  refine wpAnyH_ready (rs := [7]) (by kernel_rfl) (by simp) ?_
  refine AllReadyH.cons (o := ⟨_, _, _, _, _, _⟩) rfl (fun Kq hKq => ?_) AllReadyH.nil
  go_simp
  clear hHeld
  (go_at_call 15; (with_reducible refine (take_of 6 a1 _ _ x 1 _ a1 G3.out.l (by unfold maxLen; omega) 5 2 1 1 1 5 1 1 (by decide) e2 g2).mono ?_); rintro e w' ⟨rfl, m1, h1, h2⟩; have G4 := Lib.hid (G3.out.did h1 h2); clear h1 h2 G3)
  refine hKq.out _ _ ?_ (fun hHeld => ?_)
  · (try dsimp only); exact G4.out.cells
  clear hKq Kq
  try simp only [Act.put, List.setIfInBounds_toArray, List.set_cons_zero, List.set_cons_succ]
  refine wpAnyH_ready (rs := [9]) (by kernel_rfl) (by simp) ?_
  refine AllReadyH.cons (o := ⟨_, _, _, _, _, _⟩) rfl (fun Kq hKq => ?_) AllReadyH.nil
  go_simp
  clear hHeld
  (go_at_call 24; (with_reducible refine (beat_any 2 2 1 _).mono ?_); rintro e w' ⟨rfl, hb⟩; have G5 := Lib.hid ((G4.out).below hb); clear hb G4)
  refine hKq.out _ _ ?_ (fun hHeld => ?_)
  · (try dsimp only); exact G5.out.cells
  clear hKq Kq
  refine wpAnyH_ready (rs := [11]) (by kernel_rfl) (by simp) ?_
  refine AllReadyH.cons (o := ⟨_, _, _, _, _, _⟩) rfl (fun Kq hKq => ?_) AllReadyH.nil
  go_simp
  clear hHeld
  (go_at_call 15; (with_reducible refine (take_of 0 a2 _ _ x 2 _ a1 G5.out.l (by unfold maxLen; omega) 5 2 2 1 1 1 1 1 (by decide) e3 g3).mono ?_); rintro e w' ⟨rfl, m2, h1, h2⟩; have G6 := Lib.hid (G5.out.did h1 h2); clear h1 h2 G5)
  refine hKq.out _ _ ?_ (fun hHeld => ?_)
  · (try dsimp only); exact G6.out.cells
  clear hKq Kq
  try simp only [Act.put, List.setIfInBounds_toArray, List.set_cons_zero, List.set_cons_succ]
  refine wpAnyH_ready (rs := [13]) (by kernel_rfl) (by simp) ?_
  refine AllReadyH.cons (o := ⟨_, _, _, _, _, _⟩) rfl (fun Kq hKq => ?_) AllReadyH.nil
  go_simp
  clear hHeld
  (go_at_call 24; (with_reducible refine (beat_any 2 1 6 _).mono ?_); rintro e w' ⟨rfl, hb⟩; have G7 := Lib.hid ((G6.out).below hb); clear hb G6)
  refine hKq.out _ _ ?_ (fun hHeld => ?_)
  · (try dsimp only); exact G7.out.cells
  clear hKq Kq
  refine wpAnyH_ready (rs := [15]) (by kernel_rfl) (by simp) ?_
  refine AllReadyH.cons (o := ⟨_, _, _, _, _, _⟩) rfl (fun Kq hKq => ?_) AllReadyH.nil
  go_simp
  clear hHeld
  (go_at_call 15; (with_reducible refine (take_of 42 a2 _ _ x 3 _ a2 G7.out.l (by unfold maxLen; omega) 5 2 1 1 1 6 1 1 (by decide) e4 g4).mono ?_); rintro e w' ⟨rfl, m3, h1, h2⟩; have G8 := Lib.hid (G7.out.did h1 h2); clear h1 h2 G7)
  refine hKq.out _ _ ?_ (fun hHeld => ?_)
  · (try dsimp only); exact G8.out.cells
  clear hKq Kq
  try simp only [Act.put, List.setIfInBounds_toArray, List.set_cons_zero, List.set_cons_succ]
  (refine wpAnyH_take (i := 16) (oi := ⟨_, _, _, _, _, _⟩) (v := ?_) rfl (by kernel_rfl) (by kernel_rfl) (by kernel_rfl) (fun _ _ _ h => h) (Or.inl ⟨by rfl, ?_⟩) (by assumption) ?_; rotate_left 1; · (intro w hSw; (try dsimp only at hSw); go_simp; all_goals with_reducible rfl))
  try simp only [Act.put, List.setIfInBounds_toArray, List.set_cons_zero, List.set_cons_succ]
  (refine wpAnyH_take (i := 17) (oi := ⟨_, _, _, _, _, _⟩) (v := ?_) rfl (by kernel_rfl) (by kernel_rfl) (by kernel_rfl) (fun _ _ _ h => h) (Or.inl ⟨by rfl, ?_⟩) (by assumption) ?_; rotate_left 1; · (intro w hSw; (try dsimp only at hSw); go_simp; all_goals with_reducible rfl))
  try simp only [Act.put, List.setIfInBounds_toArray, List.set_cons_zero, List.set_cons_succ]
  (refine wpAnyH_take (i := 18) (oi := ⟨_, _, _, _, _, _⟩) (v := ?_) rfl (by kernel_rfl) (by kernel_rfl) (by kernel_rfl) (fun _ _ _ h => h) (Or.inl ⟨by rfl, ?_⟩) (by assumption) ?_; rotate_left 1; · (intro w hSw; (try dsimp only at hSw); go_simp; all_goals with_reducible rfl))
  try simp only [Act.put, List.setIfInBounds_toArray, List.set_cons_zero, List.set_cons_succ]
  (refine wpAnyH_take (i := 19) (oi := ⟨_, _, _, _, _, _⟩) (v := ?_) rfl (by kernel_rfl) (by kernel_rfl) (by kernel_rfl) (fun _ _ _ h => h) (Or.inl ⟨by rfl, ?_⟩) (by assumption) ?_; rotate_left 1; · (intro w hSw; (try dsimp only at hSw); go_simp; all_goals with_reducible rfl))
  try simp only [Act.put, List.setIfInBounds_toArray, List.set_cons_zero, List.set_cons_succ]
  refine wpAnyH_done (by kernel_rfl) ?_ _
  clear hHeld
  go_wp2_with fail
  (with_reducible refine (fence_is 0 a3 _ _ x 4 _ a2 G8.out.l (by unfold maxLen; omega) 2 2 (by decide) e5 g5).mono ?_)
  rintro e wf ⟨rfl, mf, h1, h2⟩
  have G9 := Lib.hid (G8.out.did h1 h2)
  clear h1 h2 G8
  go_wp2_with fail
  refine wp_region_held_drew (S := fun W => W.cell? ⟨gm, 0, none⟩ = some (.int .i64 1) ∧ W.cell? ⟨gm, 1, none⟩ = some (.int .i64 1)) (by kernel_rfl) ?_ (fun hHeld => ?_)
  · exact G9.out.cells
  (refine wpAnyH_take (i := 0) (oi := ⟨_, _, _, _, _, _⟩) (v := ?_) rfl (by kernel_rfl) (by kernel_rfl) (by kernel_rfl) (fun _ _ _ h => h) (Or.inl ⟨by rfl, ?_⟩) (by assumption) ?_; rotate_left 1; · (intro w hSw; (try dsimp only at hSw); go_simp; all_goals with_reducible rfl))
  try simp only [Act.put, List.setIfInBounds_toArray, List.set_cons_zero, List.set_cons_succ]
  (refine wpAnyH_take (i := 2) (oi := ⟨_, _, _, _, _, _⟩) (v := ?_) rfl (by kernel_rfl) (by kernel_rfl) (by kernel_rfl) (fun _ _ _ h => h) (Or.inl ⟨by rfl, ?_⟩) (by assumption) ?_; rotate_left 1; · (intro w hSw; (try dsimp only at hSw); go_simp; all_goals with_reducible rfl))
  try simp only [Act.put, List.setIfInBounds_toArray, List.set_cons_zero, List.set_cons_succ]
  (refine wpAnyH_take (i := 4) (oi := ⟨_, _, _, _, _, _⟩) (v := ?_) rfl (by kernel_rfl) (by kernel_rfl) (by kernel_rfl) (fun _ _ _ h => h) (Or.inl ⟨by rfl, ?_⟩) (by assumption) ?_; rotate_left 1; · (intro w hSw; (try dsimp only at hSw); go_simp; all_goals with_reducible rfl))
  try simp only [Act.put, List.setIfInBounds_toArray, List.set_cons_zero, List.set_cons_succ]
  (refine wpAnyH_take (i := 6) (oi := ⟨_, _, _, _, _, _⟩) (v := ?_) rfl (by kernel_rfl) (by kernel_rfl) (by kernel_rfl) (fun _ _ _ h => h) (Or.inl ⟨by rfl, ?_⟩) (by assumption) ?_; rotate_left 1; · (intro w hSw; (try dsimp only at hSw); go_simp; all_goals with_reducible rfl))
  try simp only [Act.put, List.setIfInBounds_toArray, List.set_cons_zero, List.set_cons_succ]
  refine wpAnyH_ready (rs := [1]) (by kernel_rfl) (by simp) ?_
  refine AllReadyH.cons (o := ⟨_, _, _, _, _, _⟩) rfl (fun Kq hKq => ?_) AllReadyH.nil
  go_simp
  clear hHeld
  (go_at_call 24; (with_reducible refine (beat_any 2 2 9 _).mono ?_); rintro e w' ⟨rfl, hb⟩; have G10 := Lib.hid ((G9.out.drewN (c := 1)).below hb); clear hb G9)
  refine hKq.out _ _ ?_ (fun hHeld => ?_)
  · (try dsimp only); exact G10.out.cells
  clear hKq Kq
  refine wpAnyH_ready (rs := [3]) (by kernel_rfl) (by simp) ?_
  refine AllReadyH.cons (o := ⟨_, _, _, _, _, _⟩) rfl (fun Kq hKq => ?_) AllReadyH.nil
  go_simp
  clear hHeld
  (go_at_call 15; (with_reducible refine (take_of 7 a3 _ _ x 5 _ a3 G10.out.l (by unfold maxLen; omega) 5 2 2 1 1 9 1 1 (by decide) e6 g6).mono ?_); rintro e w' ⟨rfl, m5, h1, h2⟩; have G11 := Lib.hid (G10.out.did h1 h2); clear h1 h2 G10)
  refine hKq.out _ _ ?_ (fun hHeld => ?_)
  · (try dsimp only); exact G11.out.cells
  clear hKq Kq
  try simp only [Act.put, List.setIfInBounds_toArray, List.set_cons_zero, List.set_cons_succ]
  refine wpAnyH_ready (rs := [5]) (by kernel_rfl) (by simp) ?_
  refine AllReadyH.cons (o := ⟨_, _, _, _, _, _⟩) rfl (fun Kq hKq => ?_) AllReadyH.nil
  go_simp
  clear hHeld
  (go_at_call 24; (with_reducible refine (beat_any 2 3 1 _).mono ?_); rintro e w' ⟨rfl, hb⟩; have G12 := Lib.hid ((G11.out).below hb); clear hb G11)
  refine hKq.out _ _ ?_ (fun hHeld => ?_)
  · (try dsimp only); exact G12.out.cells
  clear hKq Kq
  refine wpAnyH_ready (rs := [7]) (by kernel_rfl) (by simp) ?_
  refine AllReadyH.cons (o := ⟨_, _, _, _, _, _⟩) rfl (fun Kq hKq => ?_) AllReadyH.nil
  go_simp
  clear hHeld
  (go_at_call 15; (with_reducible refine (take_of 0 a4 _ _ x 6 _ a3 G12.out.l (by unfold maxLen; omega) 5 2 3 1 1 1 1 1 (by decide) e7 g7).mono ?_); rintro e w' ⟨rfl, m6, h1, h2⟩; have G13 := Lib.hid (G12.out.did h1 h2); clear h1 h2 G12)
  refine hKq.out _ _ ?_ (fun hHeld => ?_)
  · (try dsimp only); exact G13.out.cells
  clear hKq Kq
  try simp only [Act.put, List.setIfInBounds_toArray, List.set_cons_zero, List.set_cons_succ]
  (refine wpAnyH_take (i := 8) (oi := ⟨_, _, _, _, _, _⟩) (v := ?_) rfl (by kernel_rfl) (by kernel_rfl) (by kernel_rfl) (fun _ _ _ h => h) (Or.inl ⟨by rfl, ?_⟩) (by assumption) ?_; rotate_left 1; · (intro w hSw; (try dsimp only at hSw); go_simp; all_goals with_reducible rfl))
  try simp only [Act.put, List.setIfInBounds_toArray, List.set_cons_zero, List.set_cons_succ]
  (refine wpAnyH_take (i := 9) (oi := ⟨_, _, _, _, _, _⟩) (v := ?_) rfl (by kernel_rfl) (by kernel_rfl) (by kernel_rfl) (fun _ _ _ h => h) (Or.inl ⟨by rfl, ?_⟩) (by assumption) ?_; rotate_left 1; · (intro w hSw; (try dsimp only at hSw); go_simp; all_goals with_reducible rfl))
  try simp only [Act.put, List.setIfInBounds_toArray, List.set_cons_zero, List.set_cons_succ]
  refine wpAnyH_done (by kernel_rfl) ?_ _
  clear hHeld
  go_wp2_with (go_at_call 20; (with_reducible refine (newest_is 3 _ _ x _ _ a4 G13.out.l 2 (by decide) (by decide)).mono ?_); rintro e w' ⟨rfl, rfl⟩)
  go_ret
  exact ⟨rfl, G13.out.b⟩
end Go.Proofs.Ytgbbmhdkhhchhaa
