/-
  Carried over and put together: contracts of this program's functions, and plain facts. No statement is proved in this text.
-/
import Derived.Test.YtjlnnmjhbccdoaaGreatBk00
import Derived.Test.YtjlnnmjhbccdoaaGreatBk01
import Derived.Test.YtjlnnmjhbccdoaaGreatBk02
import Derived.Test.YtjlnnmjhbccdoaaGreatBk03
import Derived.Test.YtjlnnmjhbccdoaaGreatBk04
import Derived.Test.YtjlnnmjhbccdoaaGreatBk05
import Derived.Test.YtjlnnmjhbccdoaaGreatBk06
import Derived.Test.YtjlnnmjhbccdoaaGreatBk07
import Derived.Test.YtjlnnmjhbccdoaaGreatBk08
import Derived.Test.YtjlnnmjhbccdoaaGreatBk09
import Derived.Test.YtjlnnmjhbccdoaaGreatBk10
import Derived.Test.YtjlnnmjhbccdoaaGreatBk11
import Derived.Test.YtjlnnmjhbccdoaaGreatBk12
import Derived.Test.YtjlnnmjhbccdoaaGreatBk13
import Derived.Test.YtjlnnmjhbccdoaaGreatBk14
import Derived.Test.YtjlnnmjhbccdoaaGreatBk15
import Derived.Test.YtjlnnmjhbccdoaaGreatBk16
import Derived.Test.YtjlnnmjhbccdoaaGreatBk17
import Derived.Test.YtjlnnmjhbccdoaaGreatBk18
import Derived.Test.YtjlnnmjhbccdoaaGreatBk19
import Derived.Test.YtjlnnmjhbccdoaaGreatBk20
import Derived.Test.YtjlnnmjhbccdoaaGreatBk21
import Derived.Test.YtjlnnmjhbccdoaaGreatBk22
import Derived.Test.YtjlnnmjhbccdoaaGreatBk23
import Derived.Test.YtjlnnmjhbccdoaaGreatBk24
import Derived.Test.YtjlnnmjhbccdoaaGreatBk25
import Derived.Test.YtjlnnmjhbccdoaaGreatBk26
import Derived.Test.YtjlnnmjhbccdoaaGreatBk27
import Derived.Test.YtjlnnmjhbccdoaaGreatBk28
import Derived.Test.YtjlnnmjhbccdoaaGreatBk29
import Derived.Test.YtjlnnmjhbccdoaaGreatBk30
import Derived.Test.YtjlnnmjhbccdoaaGreatBn00
import Derived.Test.YtjlnnmjhbccdoaaGreatBn01
import Derived.Test.YtjlnnmjhbccdoaaGreatBn02
set_option maxRecDepth 20000
namespace Go.Proofs.YtjlnnmjhbccdoaaGreat
open Go Go.RowKit
theorem vbox_rows {w : World} {g : Nat} {a b x d e : SL} (h : VBox w g a b x d e) (A : Option Addr) (n c : Nat) : VBox (w.setCell ⟨g, 2, none⟩ (.slice A n c)) g a b (A, n, c) d e := by
  unfold VBox at *
  simp [World.setCell, Array.getElem?_modify, h]
/-- A change that is asked for: its number, what it holds, and the error of it, while S stands. -/
structure Asks (K : Nat) (caps : Array Value) (k : Int) (S : World → Prop) : Prop where
  enters : ∀ args W, (callFunc K args).run Tryz.prog W = .ok (.enter K args) W
  kept : ∀ W W', S W → Below W.heap.size W W' → S W'
  call : ∀ W, S W → Calls Tryz.prog K (#[.agg #[.slice none 0 0, .slice none 0 0, .slice none 0 0, .slice none 0 0, .slice none 0 0]] ++ caps) W fun e w' => ∃ A c, e = .returned (.tuple #[.agg #[.slice none 0 0, .slice none 0 0, .slice A 0 c, .slice none 0 0, .slice none 0 0], .int .i64 k]) ∧ RowsAt w' (.slice A 0 c) [] ∧ Below W.heap.size W w'
theorem three_of (w : World) (a i : Int) : VBox (((w.alloc (.cells #[.slice none 0 0, .slice none 0 0, .slice none 0 0, .slice none 0 0, .slice none 0 0] 27)).alloc (.cells #[.int .i64 a, .int .i64 i] 29)).alloc (.cells #[.slice none 0 0, .slice none 0 0, .slice none 0 0, .slice none 0 0, .slice none 0 0] 27)) w.heap.size (none, 0, 0) (none, 0, 0) (none, 0, 0) (none, 0, 0) (none, 0, 0) ∧ Box (((w.alloc (.cells #[.slice none 0 0, .slice none 0 0, .slice none 0 0, .slice none 0 0, .slice none 0 0] 27)).alloc (.cells #[.int .i64 a, .int .i64 i] 29)).alloc (.cells #[.slice none 0 0, .slice none 0 0, .slice none 0 0, .slice none 0 0, .slice none 0 0] 27)) (w.heap.size + 1) a i ∧ VBox (((w.alloc (.cells #[.slice none 0 0, .slice none 0 0, .slice none 0 0, .slice none 0 0, .slice none 0 0] 27)).alloc (.cells #[.int .i64 a, .int .i64 i] 29)).alloc (.cells #[.slice none 0 0, .slice none 0 0, .slice none 0 0, .slice none 0 0, .slice none 0 0] 27)) (w.heap.size + 1 + 1) (none, 0, 0) (none, 0, 0) (none, 0, 0) (none, 0, 0) (none, 0, 0) ∧ Below w.heap.size w (((w.alloc (.cells #[.slice none 0 0, .slice none 0 0, .slice none 0 0, .slice none 0 0, .slice none 0 0] 27)).alloc (.cells #[.int .i64 a, .int .i64 i] 29)).alloc (.cells #[.slice none 0 0, .slice none 0 0, .slice none 0 0, .slice none 0 0, .slice none 0 0] 27)) := by
  have q1 := below_one w (.cells #[.slice none 0 0, .slice none 0 0, .slice none 0 0, .slice none 0 0, .slice none 0 0] 27)
  have q2 := below_one (w.alloc (.cells #[.slice none 0 0, .slice none 0 0, .slice none 0 0, .slice none 0 0, .slice none 0 0] 27)) (.cells #[.int .i64 a, .int .i64 i] 29)
  have q3 := below_one ((w.alloc (.cells #[.slice none 0 0, .slice none 0 0, .slice none 0 0, .slice none 0 0, .slice none 0 0] 27)).alloc (.cells #[.int .i64 a, .int .i64 i] 29)) (.cells #[.slice none 0 0, .slice none 0 0, .slice none 0 0, .slice none 0 0, .slice none 0 0] 27)
  refine ⟨vbox_below (vbox_below (vbox_new w (none, 0, 0) (none, 0, 0) (none, 0, 0) (none, 0, 0) (none, 0, 0)) q2) q3, by simpa using box_below (box_new (w.alloc (.cells #[.slice none 0 0, .slice none 0 0, .slice none 0 0, .slice none 0 0, .slice none 0 0] 27)) a i) q3, ?_, below_after (below_after q1 q2 (Nat.le_refl _)) q3 (Nat.le_refl _)⟩
  have h := vbox_new ((w.alloc (.cells #[.slice none 0 0, .slice none 0 0, .slice none 0 0, .slice none 0 0, .slice none 0 0] 27)).alloc (.cells #[.int .i64 a, .int .i64 i] 29)) (none, 0, 0) (none, 0, 0) (none, 0, 0) (none, 0, 0) (none, 0, 0)
  simp only [World.size_alloc] at h
  exact h
set_option maxHeartbeats 4000000 in
theorem changed_err {K : Nat} {caps : Array Value} {S : World → Prop} (hP : Asks K caps 4 S) (a i : Int) (w : World) (hS : S w) :
    Calls Tryz.prog 54 #[.agg #[.slice none 0 0, .slice none 0 0, .slice none 0 0, .slice none 0 0, .slice none 0 0], .agg #[.int .i64 a, .int .i64 i], .func (.func K) #[] caps] w fun e w' => e = .returned (.tuple #[.agg #[.slice none 0 0, .slice none 0 0, .slice none 0 0, .slice none 0 0, .slice none 0 0], .int .i64 4]) ∧ Below w.heap.size w w' := by
  have hK := hP.enters
  have HP := Lib.hid hP
  obtain ⟨x3, b4, x6, xb⟩ := three_of w a i
  have X3 := Lib.hid x3
  have X6 := Lib.hid x6
  have XB := Lib.hid xb
  have SS := Lib.hid (hP.kept _ _ hS xb)
  clear x3 b4 x6 xb hP hS
  obtain ⟨p0, p1, p2, p3, p4⟩ := vbox_cells X3.out
  dsimp only at p0 p1 p2 p3 p4
  go_enter Tryz.func54, Tryz.ntmps54
  go_wp2_with fail
  (with_reducible refine (copyE _).mono ?_)
  rintro e w3 ⟨rfl, hb⟩
  have Y3 := Lib.hid (vbox_below X3.out hb)
  have Y6 := Lib.hid (vbox_below X6.out hb)
  have YB := Lib.hid (below_after XB.out hb (Nat.le_refl _))
  have YS := Lib.hid (HP.out.kept _ _ SS.out hb)
  clear hb p0 p1 p2 p3 p4 X3 X6 XB SS
  go_wp2_with fail
  (with_reducible refine (HP.out.call _ YS.out).mono ?_)
  rintro e w4 ⟨A, c, rfl, hr, hb⟩
  have q8 := below_one w4 (.cells #[.slice none 0 0, .slice none 0 0, .slice A 0 c, .slice none 0 0, .slice none 0 0] 27)
  have Z3 := Lib.hid (vbox_below (vbox_below Y3.out hb) q8)
  have Z6 := Lib.hid (vbox_below (vbox_below Y6.out hb) q8)
  have Z8 : Hid (VBox (w4.alloc (.cells #[.slice none 0 0, .slice none 0 0, .slice A 0 c, .slice none 0 0, .slice none 0 0] 27)) w4.heap.size (none, 0, 0) (none, 0, 0) (A, 0, c) (none, 0, 0) (none, 0, 0)) := Lib.hid (vbox_new w4 (none, 0, 0) (none, 0, 0) (A, 0, c) (none, 0, 0) (none, 0, 0))
  have ZB := Lib.hid (below_after (below_after YB.out hb (Nat.le_refl _)) q8 (Nat.le_refl _))
  have ZR := Lib.hid (RowsAt.below hr q8)
  have L8 : Hid (w.heap.size + 1 + 1 < w4.heap.size) := Lib.hid (Nat.lt_of_lt_of_le (vbox_lt Y6.out) hb.size)
  clear hb hr q8 Y3 Y6 YB YS
  obtain ⟨k0, k1, k2, k3, k4⟩ := vbox_cells (vbox_new w4 (none, 0, 0) (none, 0, 0) (none, 0, 0) (none, 0, 0) (none, 0, 0))
  obtain ⟨f0, f1, f2, f3, f4⟩ := vbox_free (vbox_new w4 (none, 0, 0) (none, 0, 0) (none, 0, 0) (none, 0, 0) (none, 0, 0))
  dsimp only at k0 k1 k2 k3 k4
  obtain ⟨p0, p1, p2, p3, p4⟩ := vbox_cells Z3.out
  dsimp only at p0 p1 p2 p3 p4
  obtain ⟨r0, r1, r2, r3, r4⟩ := vbox_cells Z8.out
  dsimp only at r0 r1 r2 r3 r4
  go_wp2_with fail
  clear k0 k1 k2 k3 k4 f0 f1 f2 f3 f4
  (with_reducible refine (copyE _).mono ?_)
  rintro e w5 ⟨rfl, hb⟩
  have V6 := Lib.hid (vbox_below Z6.out hb)
  have VB := Lib.hid (below_after ZB.out hb (Nat.le_refl _))
  clear hb p0 p1 p2 p3 p4 r0 r1 r2 r3 r4
  obtain ⟨z0, z1, z2, z3, z4⟩ := vbox_cells V6.out
  obtain ⟨f0, f1, f2, f3, f4⟩ := vbox_free V6.out
  dsimp only at z0 z1 z2 z3 z4
  go_wp2_with fail
  obtain ⟨c0, c1, c2, c3, c4⟩ := vbox_cells (vbox_set V6.out (none, 0, 0) (none, 0, 0) (none, 0, 0) (none, 0, 0) (none, 0, 0))
  dsimp only at c0 c1 c2 c3 c4
  refine bodyPost_ret (v := .tuple #[.agg #[.slice none 0 0, .slice none 0 0, .slice none 0 0, .slice none 0 0, .slice none 0 0], .int .i64 4]) (by simp [results, Tryz.results54, go_sem, c0, c1, c2, c3, c4]) rfl ?_
  exact ⟨rfl, below_setCells VB.out (by omega) 0 [.slice none 0 0, .slice none 0 0, .slice none 0 0, .slice none 0 0, .slice none 0 0]⟩
set_option maxHeartbeats 4000000 in
theorem changed_ok {K : Nat} {caps : Array Value} {S : World → Prop} (hP : Asks K caps 0 S) (a i : Int) (w : World) (hS : S w) :
    Calls Tryz.prog 54 #[.agg #[.slice none 0 0, .slice none 0 0, .slice none 0 0, .slice none 0 0, .slice none 0 0], .agg #[.int .i64 a, .int .i64 i], .func (.func K) #[] caps] w fun e w' => e = .returned (.tuple #[.agg #[.slice none 0 0, .slice none 0 0, .slice none 0 0, .slice none 0 0, .slice none 0 0], .int .i64 0]) ∧ Below w.heap.size w w' := by
  have hK := hP.enters
  have HP := Lib.hid hP
  obtain ⟨x3, b4, x6, xb⟩ := three_of w a i
  have X3 := Lib.hid x3
  have X6 := Lib.hid x6
  have XB := Lib.hid xb
  have SS := Lib.hid (hP.kept _ _ hS xb)
  clear x3 b4 x6 xb hP hS
  obtain ⟨p0, p1, p2, p3, p4⟩ := vbox_cells X3.out
  dsimp only at p0 p1 p2 p3 p4
  go_enter Tryz.func54, Tryz.ntmps54
  go_wp2_with fail
  (with_reducible refine (copyE _).mono ?_)
  rintro e w3 ⟨rfl, hb⟩
  have Y3 := Lib.hid (vbox_below X3.out hb)
  have Y6 := Lib.hid (vbox_below X6.out hb)
  have YB := Lib.hid (below_after XB.out hb (Nat.le_refl _))
  have YS := Lib.hid (HP.out.kept _ _ SS.out hb)
  clear hb p0 p1 p2 p3 p4 X3 X6 XB SS
  go_wp2_with fail
  (with_reducible refine (HP.out.call _ YS.out).mono ?_)
  rintro e w4 ⟨A, c, rfl, hr, hb⟩
  have q8 := below_one w4 (.cells #[.slice none 0 0, .slice none 0 0, .slice A 0 c, .slice none 0 0, .slice none 0 0] 27)
  have Z3 := Lib.hid (vbox_below (vbox_below Y3.out hb) q8)
  have Z6 := Lib.hid (vbox_below (vbox_below Y6.out hb) q8)
  have Z8 : Hid (VBox (w4.alloc (.cells #[.slice none 0 0, .slice none 0 0, .slice A 0 c, .slice none 0 0, .slice none 0 0] 27)) w4.heap.size (none, 0, 0) (none, 0, 0) (A, 0, c) (none, 0, 0) (none, 0, 0)) := Lib.hid (vbox_new w4 (none, 0, 0) (none, 0, 0) (A, 0, c) (none, 0, 0) (none, 0, 0))
  have ZB := Lib.hid (below_after (below_after YB.out hb (Nat.le_refl _)) q8 (Nat.le_refl _))
  have ZR := Lib.hid (RowsAt.below hr q8)
  have L8 : Hid (w.heap.size + 1 + 1 < w4.heap.size) := Lib.hid (Nat.lt_of_lt_of_le (vbox_lt Y6.out) hb.size)
  clear hb hr q8 Y3 Y6 YB YS
  obtain ⟨k0, k1, k2, k3, k4⟩ := vbox_cells (vbox_new w4 (none, 0, 0) (none, 0, 0) (none, 0, 0) (none, 0, 0) (none, 0, 0))
  obtain ⟨f0, f1, f2, f3, f4⟩ := vbox_free (vbox_new w4 (none, 0, 0) (none, 0, 0) (none, 0, 0) (none, 0, 0) (none, 0, 0))
  dsimp only at k0 k1 k2 k3 k4
  obtain ⟨p0, p1, p2, p3, p4⟩ := vbox_cells Z3.out
  dsimp only at p0 p1 p2 p3 p4
  obtain ⟨r0, r1, r2, r3, r4⟩ := vbox_cells Z8.out
  dsimp only at r0 r1 r2 r3 r4
  go_wp2_with fail
  clear k0 k1 k2 k3 k4 f0 f1 f2 f3 f4
  (with_reducible refine (gone_any _ _ [] [] _ ZR.out (Ids.nil _) (by decide) (by simp) (by decide)).mono ?_)
  rw [show RowSets.gone [] [] = [] from rfl]
  rintro e w5 ⟨V2, rfl, hr, hb⟩
  obtain ⟨A2, c2, e2, _⟩ := id hr.shape
  have e2 : V2 = .slice A2 0 c2 := e2
  subst e2
  have V3 := Lib.hid (vbox_below Z3.out hb)
  have V6 := Lib.hid (vbox_below Z6.out hb)
  have V8 := Lib.hid (vbox_below Z8.out hb)
  have VB := Lib.hid (below_after ZB.out hb (Nat.le_refl _))
  have VR := Lib.hid hr
  clear hb hr p0 p1 p2 p3 p4 r0 r1 r2 r3 r4 Z3 Z6 Z8 ZB ZR
  obtain ⟨r0, r1, r2, r3, r4⟩ := vbox_cells V8.out
  obtain ⟨g0, g1, g2, g3, g4⟩ := vbox_free V8.out
  dsimp only at r0 r1 r2 r3 r4
  have U3 := Lib.hid (vbox_apart V3.out (x := w4.heap.size) (by have := L8.out; omega) 2 (.slice A2 0 c2))
  have U6 := Lib.hid (vbox_apart V6.out (x := w4.heap.size) (by have := L8.out; omega) 2 (.slice A2 0 c2))
  have U8 := Lib.hid (vbox_rows V8.out A2 0 c2)
  have UB := Lib.hid (below_two_set VB.out (show w.heap.size ≤ w4.heap.size by have := L8.out; omega) 2 (.slice A2 0 c2))
  have UR := Lib.hid (VR.out.kp (kp_two V8.out A2 0 c2))
  obtain ⟨p0, p1, p2, p3, p4⟩ := vbox_cells U3.out
  obtain ⟨s0, s1, s2, s3, s4⟩ := vbox_cells U8.out
  dsimp only at p0 p1 p2 p3 p4 s0 s1 s2 s3 s4
  go_wp2_with fail
  clear r0 r1 r2 r3 r4 g0 g1 g2 g3 g4 V3 V6 V8 VB VR
  (with_reducible refine (core_any _ _ emV emV _ (em_at _) (vAt_of (Rcs.nil _) (Ids.nil _) UR.out (Rcs.nil _) (Ids.nil _)) em_fit em_fit).mono ?_)
  rw [show coreB emV emV = true from by kernel_rfl]
  rintro e w6 ⟨rfl, hb⟩
  have T3 := Lib.hid (vbox_below U3.out hb)
  have T6 := Lib.hid (vbox_below U6.out hb)
  have TB := Lib.hid (below_after UB.out hb (Nat.le_refl _))
  clear hb p0 p1 p2 p3 p4 s0 s1 s2 s3 s4 U3 U6 U8 UB UR
  obtain ⟨p0, p1, p2, p3, p4⟩ := vbox_cells T3.out
  dsimp only at p0 p1 p2 p3 p4
  go_wp2_with fail
  (with_reducible refine (copyE _).mono ?_)
  rintro e w7 ⟨rfl, hb⟩
  have Q6 := Lib.hid (vbox_below T6.out hb)
  have QB := Lib.hid (below_after TB.out hb (Nat.le_refl _))
  clear hb p0 p1 p2 p3 p4 T3 T6 TB
  obtain ⟨z0, z1, z2, z3, z4⟩ := vbox_cells Q6.out
  obtain ⟨f0, f1, f2, f3, f4⟩ := vbox_free Q6.out
  dsimp only at z0 z1 z2 z3 z4
  go_wp2_with fail
  obtain ⟨c0, c1, c2, c3, c4⟩ := vbox_cells (vbox_set Q6.out (none, 0, 0) (none, 0, 0) (none, 0, 0) (none, 0, 0) (none, 0, 0))
  dsimp only at c0 c1 c2 c3 c4
  refine bodyPost_ret (v := .tuple #[.agg #[.slice none 0 0, .slice none 0 0, .slice none 0 0, .slice none 0 0, .slice none 0 0], .int .i64 0]) (by simp [results, Tryz.results54, go_sem, c0, c1, c2, c3, c4]) rfl ?_
  exact ⟨rfl, below_setCells QB.out (by omega) 0 [.slice none 0 0, .slice none 0 0, .slice none 0 0, .slice none 0 0, .slice none 0 0]⟩
set_option maxHeartbeats 4000000 in
theorem sameE (w : World) : Calls Tryz.prog 23 #[.agg #[.slice none 0 0, .slice none 0 0, .slice none 0 0, .slice none 0 0, .slice none 0 0], .agg #[.slice none 0 0, .slice none 0 0, .slice none 0 0, .slice none 0 0, .slice none 0 0]] w fun e w' => e = .returned (.bool true) ∧ Below w.heap.size w w' := by
  obtain ⟨x1, x2, xb⟩ := two_views w
  have X1 := Lib.hid x1
  have X2 := Lib.hid x2
  have XB := Lib.hid xb
  clear x1 x2 xb
  obtain ⟨p0, p1, p2, p3, p4⟩ := vbox_cells X1.out
  obtain ⟨q0, q1, q2, q3, q4⟩ := vbox_cells X2.out
  dsimp only at p0 p1 p2 p3 p4 q0 q1 q2 q3 q4
  go_enter Tryz.func23, Tryz.ntmps23
  go_wp2_with fail
  (with_reducible refine (core_any _ _ emV emV _ (em_at _) (em_at _) em_fit em_fit).mono ?_)
  rw [show coreB emV emV = true from by kernel_rfl]
  rintro e w3 ⟨rfl, hb⟩
  have Y1 := Lib.hid (vbox_below X1.out hb)
  have Y2 := Lib.hid (vbox_below X2.out hb)
  have YB := Lib.hid (below_after XB.out hb (Nat.le_refl _))
  clear hb p0 p1 p2 p3 p4 q0 q1 q2 q3 q4
  obtain ⟨p0, p1, p2, p3, p4⟩ := vbox_cells Y1.out
  obtain ⟨q0, q1, q2, q3, q4⟩ := vbox_cells Y2.out
  dsimp only at p0 p1 p2 p3 p4 q0 q1 q2 q3 q4
  go_wp2_with fail
  (with_reducible refine (equal_any _ _ [] [] _ (Ids.nil _) (Ids.nil _) (by decide)).mono ?_)
  rw [show sameB [] [] = true from by decide]
  rintro e w4 ⟨rfl, hb⟩
  have VB := Lib.hid (below_after YB.out hb (Nat.le_refl _))
  clear hb p0 p1 p2 p3 p4 q0 q1 q2 q3 q4
  go_wp2_with fail
  go_ret
  exact ⟨rfl, VB.out⟩
theorem asksP1 (x y : Nat) : Asks 55 #[.pointer (some ⟨x, 0, none⟩), .pointer (some ⟨y, 0, none⟩)] 4 (fun W => Box W x 0 0 ∧ MBox W y 1 1 3 0) where
  enters := fun args W => enters_fn Tryz.func55 (by kernel_rfl) rfl args W
  kept _ _ h hb := ⟨box_below h.1 hb, mbox_below h.2 hb⟩
  call W h := (putC1 W x y h.1 h.2).mono fun _ _ ⟨e, hb⟩ => ⟨none, 0, e, RowsAt.nil _, hb⟩
theorem asksP2 (x y : Nat) : Asks 55 #[.pointer (some ⟨x, 0, none⟩), .pointer (some ⟨y, 0, none⟩)] 4 (fun W => Box W x 1 1 ∧ MBox W y 1 1 0 0) where
  enters := fun args W => enters_fn Tryz.func55 (by kernel_rfl) rfl args W
  kept _ _ h hb := ⟨box_below h.1 hb, mbox_below h.2 hb⟩
  call W h := (putC2 W x y h.1 h.2).mono fun _ _ ⟨e, hb⟩ => ⟨none, 0, e, RowsAt.nil _, hb⟩
theorem asksR1 (x y : Nat) : Asks 61 #[.pointer (some ⟨x, 0, none⟩), .pointer (some ⟨y, 0, none⟩)] 4 (fun W => Box W x 0 0 ∧ One W y 23 (.slice none 0 0)) where
  enters := fun args W => enters_fn Tryz.func61 (by kernel_rfl) rfl args W
  kept _ _ h hb := ⟨box_below h.1 hb, one_below h.2 hb⟩
  call W h := rowC 0 0 4 (by kernel_rfl) W x y h.1 h.2
theorem asksR2 (x y : Nat) : Asks 61 #[.pointer (some ⟨x, 0, none⟩), .pointer (some ⟨y, 0, none⟩)] 0 (fun W => Box W x 1 1 ∧ One W y 23 (.slice none 0 0)) where
  enters := fun args W => enters_fn Tryz.func61 (by kernel_rfl) rfl args W
  kept _ _ h hb := ⟨box_below h.1 hb, one_below h.2 hb⟩
  call W h := rowC 1 1 0 (by kernel_rfl) W x y h.1 h.2
set_option maxHeartbeats 4000000 in
theorem putE1 (w : World) : Calls Tryz.prog 14 #[.agg #[.slice none 0 0, .slice none 0 0, .slice none 0 0, .slice none 0 0, .slice none 0 0], .agg #[.int .i64 0, .int .i64 0], .agg #[.int .i64 1, .int .i64 1, .int .u8 3, .int .i64 0]] w fun e w' => e = .returned (.tuple #[.agg #[.slice none 0 0, .slice none 0 0, .slice none 0 0, .slice none 0 0, .slice none 0 0], .int .i64 4]) ∧ Below w.heap.size w w' := by
  have q1 := below_one w (.cells #[.slice none 0 0, .slice none 0 0, .slice none 0 0, .slice none 0 0, .slice none 0 0] 27)
  have q2 := below_one (w.alloc (.cells #[.slice none 0 0, .slice none 0 0, .slice none 0 0, .slice none 0 0, .slice none 0 0] 27)) (.cells #[.int .i64 0, .int .i64 0] 29)
  have q3 := below_one ((w.alloc (.cells #[.slice none 0 0, .slice none 0 0, .slice none 0 0, .slice none 0 0, .slice none 0 0] 27)).alloc (.cells #[.int .i64 0, .int .i64 0] 29)) (.cells #[.int .i64 1, .int .i64 1, .int .u8 3, .int .i64 0] 31)
  have q4 := below_one (((w.alloc (.cells #[.slice none 0 0, .slice none 0 0, .slice none 0 0, .slice none 0 0, .slice none 0 0] 27)).alloc (.cells #[.int .i64 0, .int .i64 0] 29)).alloc (.cells #[.int .i64 1, .int .i64 1, .int .u8 3, .int .i64 0] 31)) (.cells #[.slice none 0 0, .slice none 0 0, .slice none 0 0, .slice none 0 0, .slice none 0 0] 27)
  have Q := Lib.hid (below_after (below_after (below_after q1 q2 (Nat.le_refl _)) q3 (Nat.le_refl _)) q4 (Nat.le_refl _))
  have X3 := Lib.hid (vbox_below (vbox_below (vbox_below (vbox_new w (none, 0, 0) (none, 0, 0) (none, 0, 0) (none, 0, 0) (none, 0, 0)) q2) q3) q4)
  have B4 : Hid (Box ((((w.alloc (.cells #[.slice none 0 0, .slice none 0 0, .slice none 0 0, .slice none 0 0, .slice none 0 0] 27)).alloc (.cells #[.int .i64 0, .int .i64 0] 29)).alloc (.cells #[.int .i64 1, .int .i64 1, .int .u8 3, .int .i64 0] 31)).alloc (.cells #[.slice none 0 0, .slice none 0 0, .slice none 0 0, .slice none 0 0, .slice none 0 0] 27)) (w.heap.size + 1) 0 0) := Lib.hid (by simpa using box_below (box_below (box_new (w.alloc (.cells #[.slice none 0 0, .slice none 0 0, .slice none 0 0, .slice none 0 0, .slice none 0 0] 27)) 0 0) q3) q4)
  have M5 : Hid (MBox ((((w.alloc (.cells #[.slice none 0 0, .slice none 0 0, .slice none 0 0, .slice none 0 0, .slice none 0 0] 27)).alloc (.cells #[.int .i64 0, .int .i64 0] 29)).alloc (.cells #[.int .i64 1, .int .i64 1, .int .u8 3, .int .i64 0] 31)).alloc (.cells #[.slice none 0 0, .slice none 0 0, .slice none 0 0, .slice none 0 0, .slice none 0 0] 27)) (w.heap.size + 1 + 1) 1 1 3 0) := Lib.hid (by simpa using mbox_below (mbox_new ((w.alloc (.cells #[.slice none 0 0, .slice none 0 0, .slice none 0 0, .slice none 0 0, .slice none 0 0] 27)).alloc (.cells #[.int .i64 0, .int .i64 0] 29)) 1 1 3 0) q4)
  have X6 : Hid (VBox ((((w.alloc (.cells #[.slice none 0 0, .slice none 0 0, .slice none 0 0, .slice none 0 0, .slice none 0 0] 27)).alloc (.cells #[.int .i64 0, .int .i64 0] 29)).alloc (.cells #[.int .i64 1, .int .i64 1, .int .u8 3, .int .i64 0] 31)).alloc (.cells #[.slice none 0 0, .slice none 0 0, .slice none 0 0, .slice none 0 0, .slice none 0 0] 27)) (w.heap.size + 1 + 1 + 1) (none, 0, 0) (none, 0, 0) (none, 0, 0) (none, 0, 0) (none, 0, 0)) := Lib.hid (by have h := vbox_new (((w.alloc (.cells #[.slice none 0 0, .slice none 0 0, .slice none 0 0, .slice none 0 0, .slice none 0 0] 27)).alloc (.cells #[.int .i64 0, .int .i64 0] 29)).alloc (.cells #[.int .i64 1, .int .i64 1, .int .u8 3, .int .i64 0] 31)) (none, 0, 0) (none, 0, 0) (none, 0, 0) (none, 0, 0) (none, 0, 0); simp only [World.size_alloc] at h; exact h)
  clear q1 q2 q3 q4
  obtain ⟨p0, p1, p2, p3, p4⟩ := vbox_cells X3.out
  dsimp only at p0 p1 p2 p3 p4
  obtain ⟨b1, b2⟩ := box_cells B4.out
  have HA := Lib.hid (asksP1 (w.heap.size + 1) (w.heap.size + 1 + 1))
  go_enter Tryz.func14, Tryz.ntmps14
  go_wp2_with fail
  (with_reducible refine (changed_err HA.out 0 0 _ ⟨B4.out, M5.out⟩).mono ?_)
  rintro e w9 ⟨rfl, hb⟩
  have Y6 := Lib.hid (vbox_below X6.out hb)
  have YB := Lib.hid (below_after Q.out hb (Nat.le_refl _))
  clear hb p0 p1 p2 p3 p4 b1 b2
  obtain ⟨z0, z1, z2, z3, z4⟩ := vbox_cells Y6.out
  obtain ⟨f0, f1, f2, f3, f4⟩ := vbox_free Y6.out
  dsimp only at z0 z1 z2 z3 z4
  go_wp2_with fail
  obtain ⟨c0, c1, c2, c3, c4⟩ := vbox_cells (vbox_set Y6.out (none, 0, 0) (none, 0, 0) (none, 0, 0) (none, 0, 0) (none, 0, 0))
  dsimp only at c0 c1 c2 c3 c4
  refine bodyPost_ret (v := .tuple #[.agg #[.slice none 0 0, .slice none 0 0, .slice none 0 0, .slice none 0 0, .slice none 0 0], .int .i64 4]) (by simp [results, Tryz.results14, go_sem, c0, c1, c2, c3, c4]) rfl ?_
  exact ⟨rfl, below_setCells YB.out (by omega) 0 [.slice none 0 0, .slice none 0 0, .slice none 0 0, .slice none 0 0, .slice none 0 0]⟩
set_option maxHeartbeats 4000000 in
theorem putE2 (w : World) : Calls Tryz.prog 14 #[.agg #[.slice none 0 0, .slice none 0 0, .slice none 0 0, .slice none 0 0, .slice none 0 0], .agg #[.int .i64 1, .int .i64 1], .agg #[.int .i64 1, .int .i64 1, .int .u8 0, .int .i64 0]] w fun e w' => e = .returned (.tuple #[.agg #[.slice none 0 0, .slice none 0 0, .slice none 0 0, .slice none 0 0, .slice none 0 0], .int .i64 4]) ∧ Below w.heap.size w w' := by
  have q1 := below_one w (.cells #[.slice none 0 0, .slice none 0 0, .slice none 0 0, .slice none 0 0, .slice none 0 0] 27)
  have q2 := below_one (w.alloc (.cells #[.slice none 0 0, .slice none 0 0, .slice none 0 0, .slice none 0 0, .slice none 0 0] 27)) (.cells #[.int .i64 1, .int .i64 1] 29)
  have q3 := below_one ((w.alloc (.cells #[.slice none 0 0, .slice none 0 0, .slice none 0 0, .slice none 0 0, .slice none 0 0] 27)).alloc (.cells #[.int .i64 1, .int .i64 1] 29)) (.cells #[.int .i64 1, .int .i64 1, .int .u8 0, .int .i64 0] 31)
  have q4 := below_one (((w.alloc (.cells #[.slice none 0 0, .slice none 0 0, .slice none 0 0, .slice none 0 0, .slice none 0 0] 27)).alloc (.cells #[.int .i64 1, .int .i64 1] 29)).alloc (.cells #[.int .i64 1, .int .i64 1, .int .u8 0, .int .i64 0] 31)) (.cells #[.slice none 0 0, .slice none 0 0, .slice none 0 0, .slice none 0 0, .slice none 0 0] 27)
  have Q := Lib.hid (below_after (below_after (below_after q1 q2 (Nat.le_refl _)) q3 (Nat.le_refl _)) q4 (Nat.le_refl _))
  have X3 := Lib.hid (vbox_below (vbox_below (vbox_below (vbox_new w (none, 0, 0) (none, 0, 0) (none, 0, 0) (none, 0, 0) (none, 0, 0)) q2) q3) q4)
  have B4 : Hid (Box ((((w.alloc (.cells #[.slice none 0 0, .slice none 0 0, .slice none 0 0, .slice none 0 0, .slice none 0 0] 27)).alloc (.cells #[.int .i64 1, .int .i64 1] 29)).alloc (.cells #[.int .i64 1, .int .i64 1, .int .u8 0, .int .i64 0] 31)).alloc (.cells #[.slice none 0 0, .slice none 0 0, .slice none 0 0, .slice none 0 0, .slice none 0 0] 27)) (w.heap.size + 1) 1 1) := Lib.hid (by simpa using box_below (box_below (box_new (w.alloc (.cells #[.slice none 0 0, .slice none 0 0, .slice none 0 0, .slice none 0 0, .slice none 0 0] 27)) 1 1) q3) q4)
  have M5 : Hid (MBox ((((w.alloc (.cells #[.slice none 0 0, .slice none 0 0, .slice none 0 0, .slice none 0 0, .slice none 0 0] 27)).alloc (.cells #[.int .i64 1, .int .i64 1] 29)).alloc (.cells #[.int .i64 1, .int .i64 1, .int .u8 0, .int .i64 0] 31)).alloc (.cells #[.slice none 0 0, .slice none 0 0, .slice none 0 0, .slice none 0 0, .slice none 0 0] 27)) (w.heap.size + 1 + 1) 1 1 0 0) := Lib.hid (by simpa using mbox_below (mbox_new ((w.alloc (.cells #[.slice none 0 0, .slice none 0 0, .slice none 0 0, .slice none 0 0, .slice none 0 0] 27)).alloc (.cells #[.int .i64 1, .int .i64 1] 29)) 1 1 0 0) q4)
  have X6 : Hid (VBox ((((w.alloc (.cells #[.slice none 0 0, .slice none 0 0, .slice none 0 0, .slice none 0 0, .slice none 0 0] 27)).alloc (.cells #[.int .i64 1, .int .i64 1] 29)).alloc (.cells #[.int .i64 1, .int .i64 1, .int .u8 0, .int .i64 0] 31)).alloc (.cells #[.slice none 0 0, .slice none 0 0, .slice none 0 0, .slice none 0 0, .slice none 0 0] 27)) (w.heap.size + 1 + 1 + 1) (none, 0, 0) (none, 0, 0) (none, 0, 0) (none, 0, 0) (none, 0, 0)) := Lib.hid (by have h := vbox_new (((w.alloc (.cells #[.slice none 0 0, .slice none 0 0, .slice none 0 0, .slice none 0 0, .slice none 0 0] 27)).alloc (.cells #[.int .i64 1, .int .i64 1] 29)).alloc (.cells #[.int .i64 1, .int .i64 1, .int .u8 0, .int .i64 0] 31)) (none, 0, 0) (none, 0, 0) (none, 0, 0) (none, 0, 0) (none, 0, 0); simp only [World.size_alloc] at h; exact h)
  clear q1 q2 q3 q4
  obtain ⟨p0, p1, p2, p3, p4⟩ := vbox_cells X3.out
  dsimp only at p0 p1 p2 p3 p4
  obtain ⟨b1, b2⟩ := box_cells B4.out
  have HA := Lib.hid (asksP2 (w.heap.size + 1) (w.heap.size + 1 + 1))
  go_enter Tryz.func14, Tryz.ntmps14
  go_wp2_with fail
  (with_reducible refine (changed_err HA.out 1 1 _ ⟨B4.out, M5.out⟩).mono ?_)
  rintro e w9 ⟨rfl, hb⟩
  have Y6 := Lib.hid (vbox_below X6.out hb)
  have YB := Lib.hid (below_after Q.out hb (Nat.le_refl _))
  clear hb p0 p1 p2 p3 p4 b1 b2
  obtain ⟨z0, z1, z2, z3, z4⟩ := vbox_cells Y6.out
  obtain ⟨f0, f1, f2, f3, f4⟩ := vbox_free Y6.out
  dsimp only at z0 z1 z2 z3 z4
  go_wp2_with fail
  obtain ⟨c0, c1, c2, c3, c4⟩ := vbox_cells (vbox_set Y6.out (none, 0, 0) (none, 0, 0) (none, 0, 0) (none, 0, 0) (none, 0, 0))
  dsimp only at c0 c1 c2 c3 c4
  refine bodyPost_ret (v := .tuple #[.agg #[.slice none 0 0, .slice none 0 0, .slice none 0 0, .slice none 0 0, .slice none 0 0], .int .i64 4]) (by simp [results, Tryz.results14, go_sem, c0, c1, c2, c3, c4]) rfl ?_
  exact ⟨rfl, below_setCells YB.out (by omega) 0 [.slice none 0 0, .slice none 0 0, .slice none 0 0, .slice none 0 0, .slice none 0 0]⟩
set_option maxHeartbeats 4000000 in
theorem rowE1 (w : World) : Calls Tryz.prog 16 #[.agg #[.slice none 0 0, .slice none 0 0, .slice none 0 0, .slice none 0 0, .slice none 0 0], .agg #[.int .i64 0, .int .i64 0], .slice none 0 0] w fun e w' => e = .returned (.tuple #[.agg #[.slice none 0 0, .slice none 0 0, .slice none 0 0, .slice none 0 0, .slice none 0 0], .int .i64 4]) ∧ Below w.heap.size w w' := by
  have q1 := below_one w (.cells #[.slice none 0 0, .slice none 0 0, .slice none 0 0, .slice none 0 0, .slice none 0 0] 27)
  have q2 := below_one (w.alloc (.cells #[.slice none 0 0, .slice none 0 0, .slice none 0 0, .slice none 0 0, .slice none 0 0] 27)) (.cells #[.int .i64 0, .int .i64 0] 29)
  have q3 := below_one ((w.alloc (.cells #[.slice none 0 0, .slice none 0 0, .slice none 0 0, .slice none 0 0, .slice none 0 0] 27)).alloc (.cells #[.int .i64 0, .int .i64 0] 29)) (.cells #[.slice none 0 0] 23)
  have q4 := below_one (((w.alloc (.cells #[.slice none 0 0, .slice none 0 0, .slice none 0 0, .slice none 0 0, .slice none 0 0] 27)).alloc (.cells #[.int .i64 0, .int .i64 0] 29)).alloc (.cells #[.slice none 0 0] 23)) (.cells #[.slice none 0 0, .slice none 0 0, .slice none 0 0, .slice none 0 0, .slice none 0 0] 27)
  have Q := Lib.hid (below_after (below_after (below_after q1 q2 (Nat.le_refl _)) q3 (Nat.le_refl _)) q4 (Nat.le_refl _))
  have X3 := Lib.hid (vbox_below (vbox_below (vbox_below (vbox_new w (none, 0, 0) (none, 0, 0) (none, 0, 0) (none, 0, 0) (none, 0, 0)) q2) q3) q4)
  have B4 : Hid (Box ((((w.alloc (.cells #[.slice none 0 0, .slice none 0 0, .slice none 0 0, .slice none 0 0, .slice none 0 0] 27)).alloc (.cells #[.int .i64 0, .int .i64 0] 29)).alloc (.cells #[.slice none 0 0] 23)).alloc (.cells #[.slice none 0 0, .slice none 0 0, .slice none 0 0, .slice none 0 0, .slice none 0 0] 27)) (w.heap.size + 1) 0 0) := Lib.hid (by simpa using box_below (box_below (box_new (w.alloc (.cells #[.slice none 0 0, .slice none 0 0, .slice none 0 0, .slice none 0 0, .slice none 0 0] 27)) 0 0) q3) q4)
  have M5 : Hid (One ((((w.alloc (.cells #[.slice none 0 0, .slice none 0 0, .slice none 0 0, .slice none 0 0, .slice none 0 0] 27)).alloc (.cells #[.int .i64 0, .int .i64 0] 29)).alloc (.cells #[.slice none 0 0] 23)).alloc (.cells #[.slice none 0 0, .slice none 0 0, .slice none 0 0, .slice none 0 0, .slice none 0 0] 27)) (w.heap.size + 1 + 1) 23 (.slice none 0 0)) := Lib.hid (by simpa using one_below (one_new ((w.alloc (.cells #[.slice none 0 0, .slice none 0 0, .slice none 0 0, .slice none 0 0, .slice none 0 0] 27)).alloc (.cells #[.int .i64 0, .int .i64 0] 29)) 23 (.slice none 0 0)) q4)
  have X6 : Hid (VBox ((((w.alloc (.cells #[.slice none 0 0, .slice none 0 0, .slice none 0 0, .slice none 0 0, .slice none 0 0] 27)).alloc (.cells #[.int .i64 0, .int .i64 0] 29)).alloc (.cells #[.slice none 0 0] 23)).alloc (.cells #[.slice none 0 0, .slice none 0 0, .slice none 0 0, .slice none 0 0, .slice none 0 0] 27)) (w.heap.size + 1 + 1 + 1) (none, 0, 0) (none, 0, 0) (none, 0, 0) (none, 0, 0) (none, 0, 0)) := Lib.hid (by have h := vbox_new (((w.alloc (.cells #[.slice none 0 0, .slice none 0 0, .slice none 0 0, .slice none 0 0, .slice none 0 0] 27)).alloc (.cells #[.int .i64 0, .int .i64 0] 29)).alloc (.cells #[.slice none 0 0] 23)) (none, 0, 0) (none, 0, 0) (none, 0, 0) (none, 0, 0) (none, 0, 0); simp only [World.size_alloc] at h; exact h)
  clear q1 q2 q3 q4
  obtain ⟨p0, p1, p2, p3, p4⟩ := vbox_cells X3.out
  dsimp only at p0 p1 p2 p3 p4
  obtain ⟨b1, b2⟩ := box_cells B4.out
  have HA := Lib.hid (asksR1 (w.heap.size + 1) (w.heap.size + 1 + 1))
  go_enter Tryz.func16, Tryz.ntmps16
  go_wp2_with fail
  (with_reducible refine (changed_err HA.out 0 0 _ ⟨B4.out, M5.out⟩).mono ?_)
  rintro e w9 ⟨rfl, hb⟩
  have Y6 := Lib.hid (vbox_below X6.out hb)
  have YB := Lib.hid (below_after Q.out hb (Nat.le_refl _))
  clear hb p0 p1 p2 p3 p4 b1 b2
  obtain ⟨z0, z1, z2, z3, z4⟩ := vbox_cells Y6.out
  obtain ⟨f0, f1, f2, f3, f4⟩ := vbox_free Y6.out
  dsimp only at z0 z1 z2 z3 z4
  go_wp2_with fail
  obtain ⟨c0, c1, c2, c3, c4⟩ := vbox_cells (vbox_set Y6.out (none, 0, 0) (none, 0, 0) (none, 0, 0) (none, 0, 0) (none, 0, 0))
  dsimp only at c0 c1 c2 c3 c4
  refine bodyPost_ret (v := .tuple #[.agg #[.slice none 0 0, .slice none 0 0, .slice none 0 0, .slice none 0 0, .slice none 0 0], .int .i64 4]) (by simp [results, Tryz.results16, go_sem, c0, c1, c2, c3, c4]) rfl ?_
  exact ⟨rfl, below_setCells YB.out (by omega) 0 [.slice none 0 0, .slice none 0 0, .slice none 0 0, .slice none 0 0, .slice none 0 0]⟩
set_option maxHeartbeats 4000000 in
theorem rowE2 (w : World) : Calls Tryz.prog 16 #[.agg #[.slice none 0 0, .slice none 0 0, .slice none 0 0, .slice none 0 0, .slice none 0 0], .agg #[.int .i64 1, .int .i64 1], .slice none 0 0] w fun e w' => e = .returned (.tuple #[.agg #[.slice none 0 0, .slice none 0 0, .slice none 0 0, .slice none 0 0, .slice none 0 0], .int .i64 0]) ∧ Below w.heap.size w w' := by
  have q1 := below_one w (.cells #[.slice none 0 0, .slice none 0 0, .slice none 0 0, .slice none 0 0, .slice none 0 0] 27)
  have q2 := below_one (w.alloc (.cells #[.slice none 0 0, .slice none 0 0, .slice none 0 0, .slice none 0 0, .slice none 0 0] 27)) (.cells #[.int .i64 1, .int .i64 1] 29)
  have q3 := below_one ((w.alloc (.cells #[.slice none 0 0, .slice none 0 0, .slice none 0 0, .slice none 0 0, .slice none 0 0] 27)).alloc (.cells #[.int .i64 1, .int .i64 1] 29)) (.cells #[.slice none 0 0] 23)
  have q4 := below_one (((w.alloc (.cells #[.slice none 0 0, .slice none 0 0, .slice none 0 0, .slice none 0 0, .slice none 0 0] 27)).alloc (.cells #[.int .i64 1, .int .i64 1] 29)).alloc (.cells #[.slice none 0 0] 23)) (.cells #[.slice none 0 0, .slice none 0 0, .slice none 0 0, .slice none 0 0, .slice none 0 0] 27)
  have Q := Lib.hid (below_after (below_after (below_after q1 q2 (Nat.le_refl _)) q3 (Nat.le_refl _)) q4 (Nat.le_refl _))
  have X3 := Lib.hid (vbox_below (vbox_below (vbox_below (vbox_new w (none, 0, 0) (none, 0, 0) (none, 0, 0) (none, 0, 0) (none, 0, 0)) q2) q3) q4)
  have B4 : Hid (Box ((((w.alloc (.cells #[.slice none 0 0, .slice none 0 0, .slice none 0 0, .slice none 0 0, .slice none 0 0] 27)).alloc (.cells #[.int .i64 1, .int .i64 1] 29)).alloc (.cells #[.slice none 0 0] 23)).alloc (.cells #[.slice none 0 0, .slice none 0 0, .slice none 0 0, .slice none 0 0, .slice none 0 0] 27)) (w.heap.size + 1) 1 1) := Lib.hid (by simpa using box_below (box_below (box_new (w.alloc (.cells #[.slice none 0 0, .slice none 0 0, .slice none 0 0, .slice none 0 0, .slice none 0 0] 27)) 1 1) q3) q4)
  have M5 : Hid (One ((((w.alloc (.cells #[.slice none 0 0, .slice none 0 0, .slice none 0 0, .slice none 0 0, .slice none 0 0] 27)).alloc (.cells #[.int .i64 1, .int .i64 1] 29)).alloc (.cells #[.slice none 0 0] 23)).alloc (.cells #[.slice none 0 0, .slice none 0 0, .slice none 0 0, .slice none 0 0, .slice none 0 0] 27)) (w.heap.size + 1 + 1) 23 (.slice none 0 0)) := Lib.hid (by simpa using one_below (one_new ((w.alloc (.cells #[.slice none 0 0, .slice none 0 0, .slice none 0 0, .slice none 0 0, .slice none 0 0] 27)).alloc (.cells #[.int .i64 1, .int .i64 1] 29)) 23 (.slice none 0 0)) q4)
  have X6 : Hid (VBox ((((w.alloc (.cells #[.slice none 0 0, .slice none 0 0, .slice none 0 0, .slice none 0 0, .slice none 0 0] 27)).alloc (.cells #[.int .i64 1, .int .i64 1] 29)).alloc (.cells #[.slice none 0 0] 23)).alloc (.cells #[.slice none 0 0, .slice none 0 0, .slice none 0 0, .slice none 0 0, .slice none 0 0] 27)) (w.heap.size + 1 + 1 + 1) (none, 0, 0) (none, 0, 0) (none, 0, 0) (none, 0, 0) (none, 0, 0)) := Lib.hid (by have h := vbox_new (((w.alloc (.cells #[.slice none 0 0, .slice none 0 0, .slice none 0 0, .slice none 0 0, .slice none 0 0] 27)).alloc (.cells #[.int .i64 1, .int .i64 1] 29)).alloc (.cells #[.slice none 0 0] 23)) (none, 0, 0) (none, 0, 0) (none, 0, 0) (none, 0, 0) (none, 0, 0); simp only [World.size_alloc] at h; exact h)
  clear q1 q2 q3 q4
  obtain ⟨p0, p1, p2, p3, p4⟩ := vbox_cells X3.out
  dsimp only at p0 p1 p2 p3 p4
  obtain ⟨b1, b2⟩ := box_cells B4.out
  have HA := Lib.hid (asksR2 (w.heap.size + 1) (w.heap.size + 1 + 1))
  go_enter Tryz.func16, Tryz.ntmps16
  go_wp2_with fail
  (with_reducible refine (changed_ok HA.out 1 1 _ ⟨B4.out, M5.out⟩).mono ?_)
  rintro e w9 ⟨rfl, hb⟩
  have Y6 := Lib.hid (vbox_below X6.out hb)
  have YB := Lib.hid (below_after Q.out hb (Nat.le_refl _))
  clear hb p0 p1 p2 p3 p4 b1 b2
  obtain ⟨z0, z1, z2, z3, z4⟩ := vbox_cells Y6.out
  obtain ⟨f0, f1, f2, f3, f4⟩ := vbox_free Y6.out
  dsimp only at z0 z1 z2 z3 z4
  go_wp2_with fail
  obtain ⟨c0, c1, c2, c3, c4⟩ := vbox_cells (vbox_set Y6.out (none, 0, 0) (none, 0, 0) (none, 0, 0) (none, 0, 0) (none, 0, 0))
  dsimp only at c0 c1 c2 c3 c4
  refine bodyPost_ret (v := .tuple #[.agg #[.slice none 0 0, .slice none 0 0, .slice none 0 0, .slice none 0 0, .slice none 0 0], .int .i64 0]) (by simp [results, Tryz.results16, go_sem, c0, c1, c2, c3, c4]) rfl ?_
  exact ⟨rfl, below_setCells YB.out (by omega) 0 [.slice none 0 0, .slice none 0 0, .slice none 0 0, .slice none 0 0, .slice none 0 0]⟩
end Go.Proofs.YtjlnnmjhbccdoaaGreat
