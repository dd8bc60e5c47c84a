/-
  A walk: the document's examples, and nobody's links. No statement is proved in this text.
-/
import Derived.Test.YtgbbmhdkhhchhaaLnkN
set_option maxRecDepth 20000
namespace Go.Proofs.Ytgbbmhdkhhchhaa
open Go Go.RowKit
theorem take_nil_of (w : World) (fk f1 f2 t1 t2 fn m1 m2 : Int) : Calls Try.prog 15 #[.pointer none, .agg #[.int .u8 fk, .int .i64 f1, .int .i64 f2, .int .i64 t1, .int .i64 t2, .int .i64 fn, .int .i64 0, .int .i64 0, .int .i64 0, .slice none 0 0, .slice none 0 0, .slice none 0 0, .slice none 0 0, .slice none 0 0], .agg #[.int .i64 m1, .int .i64 m2]] w fun e w' => e = .returned (.int .i64 2) ∧ Below w.heap.size w w' := take_nil w ⟨fk, f1, f2, t1, t2, fn⟩ m1 m2
def b1 : Int → Pr := put a0 2 ⟨1, 0, 0, 0⟩
theorem n1 : takeE a0 ⟨0, 0, 0, 0, 0, 0⟩ 1 1 = 4 := by decide
theorem n2 : takeE a0 ⟨0, 2, 1, 3, 0, 0⟩ 1 1 = 4 := by decide
theorem n3 : takeE a0 ⟨0, 1, 2, 1, 1, 0⟩ 1 1 = 4 := by decide
theorem n4 : takeE a0 ⟨0, 2, 1, 1, 9, 0⟩ 1 1 = 42 := by decide
theorem n5 : takeE a0 ⟨5, 2, 1, 1, 1, 0⟩ 1 1 = 0 := by decide
theorem n6 : takeM a0 ⟨5, 2, 1, 1, 1, 0⟩ 1 1 = b1 := (takeM_yes n5).trans (put_eq rfl)
theorem n7 : fenceE 0 0 = 4 := by decide
theorem n8 : fenceM a0 0 0 = a0 := if_neg (by decide)
set_option maxHeartbeats 8000000 in
theorem names_any (w : World) : Calls Try.prog 4 #[] w fun e w' => e = .returned (.bool true) ∧ Below w.heap.size w w' := by
  go_enter Try.func4, Try.ntmps4
  go_wp2_with fail
  (with_reducible refine (new_any w.heap.size w (Nat.le_refl _)).mono ?_)
  rintro e w1 ⟨x, rfl, hx, h1, h2⟩
  have HX := Lib.hid h1
  have HB := Lib.hid h2
  clear h1 h2 hx
  go_wp2_with fail
  have G0 : Hid (AwG w x w1.heap.size none 0 a0 (w1.alloc (.cells #[.int .i64 1, .int .i64 1] 23))) := Lib.hid ⟨HX.out.below (below_one w1 _), box_new w1 1 1, HB.out.trans ((below_one w1 _).mono HB.out.size)⟩
  generalize w1.alloc (.cells #[.int .i64 1, .int .i64 1] 23) = w2 at *
  generalize w1.heap.size = gm at *
  clear HX HB
  have ⟨c0, c1⟩ := G0.out.cells
  (with_reducible refine (take_nil_of _ 0 0 0 0 0 0 1 1).mono ?_)
  rintro e w' ⟨rfl, hb⟩
  clear c0 c1
  have G1 := Lib.hid (G0.out.below hb)
  clear hb G0
  have ⟨c0, c1⟩ := G1.out.cells
  go_wp2_with fail
  (with_reducible refine (fence_nil _ 1 1).mono ?_)
  rintro e w' ⟨rfl, hb⟩
  clear c0 c1
  have G2 := Lib.hid (G1.out.below hb)
  clear hb G1
  have ⟨c0, c1⟩ := G2.out.cells
  go_wp2_with fail
  (with_reducible refine (fenced_nil _ 1 1).mono ?_)
  rintro e w' ⟨rfl, hb⟩
  clear c0 c1
  have G3 := Lib.hid (G2.out.below hb)
  clear hb G2
  have ⟨c0, c1⟩ := G3.out.cells
  go_wp2_with fail
  (with_reducible refine (newest_nil _ 1).mono ?_)
  rintro e w' ⟨rfl, rfl⟩
  go_wp2_with fail
  (with_reducible refine (copy_nil _).mono ?_)
  rintro e w' ⟨rfl, rfl⟩
  go_wp2_with fail
  (with_reducible refine (take_of 4 a0 _ _ x 0 _ a0 G3.out.l (by unfold maxLen; omega) 0 0 0 0 0 0 1 1 (by decide) n1 (takeM_no (by rw [n1]; decide))).mono ?_)
  rintro e w' ⟨rfl, m4, h1, h2⟩
  clear c0 c1
  have G4 := Lib.hid (G3.out.did h1 h2)
  clear h1 h2 G3
  have ⟨c0, c1⟩ := G4.out.cells
  go_wp2_with fail
  (with_reducible refine (take_of 4 a0 _ _ x 1 _ a0 G4.out.l (by unfold maxLen; omega) 0 2 1 3 0 0 1 1 (by decide) n2 (takeM_no (by rw [n2]; decide))).mono ?_)
  rintro e w' ⟨rfl, m5, h1, h2⟩
  clear c0 c1
  have G5 := Lib.hid (G4.out.did h1 h2)
  clear h1 h2 G4
  have ⟨c0, c1⟩ := G5.out.cells
  go_wp2_with fail
  (with_reducible refine (take_of 4 a0 _ _ x 2 _ a0 G5.out.l (by unfold maxLen; omega) 0 1 2 1 1 0 1 1 (by decide) n3 (takeM_no (by rw [n3]; decide))).mono ?_)
  rintro e w' ⟨rfl, m6, h1, h2⟩
  clear c0 c1
  have G6 := Lib.hid (G5.out.did h1 h2)
  clear h1 h2 G5
  have ⟨c0, c1⟩ := G6.out.cells
  go_wp2_with fail
  (with_reducible refine (take_of 42 a0 _ _ x 3 _ a0 G6.out.l (by unfold maxLen; omega) 0 2 1 1 9 0 1 1 (by decide) n4 (takeM_no (by rw [n4]; decide))).mono ?_)
  rintro e w' ⟨rfl, m7, h1, h2⟩
  clear c0 c1
  have G7 := Lib.hid (G6.out.did h1 h2)
  clear h1 h2 G6
  have ⟨c0, c1⟩ := G7.out.cells
  go_wp2_with fail
  (with_reducible refine (fence_is 4 a0 _ _ x 4 _ a0 G7.out.l (by unfold maxLen; omega) 0 0 (by decide) n7 n8).mono ?_)
  rintro e w' ⟨rfl, m8, h1, h2⟩
  clear c0 c1
  have G8 := Lib.hid (G7.out.did h1 h2)
  clear h1 h2 G7
  have ⟨c0, c1⟩ := G8.out.cells
  go_wp2_with fail
  (with_reducible refine (fenced_is false _ _ x _ _ a0 G8.out.l 13 1 (by decide) (by decide)).mono ?_)
  rintro e w' ⟨rfl, hb⟩
  clear c0 c1
  have G9 := Lib.hid (G8.out.below hb)
  clear hb G8
  have ⟨c0, c1⟩ := G9.out.cells
  go_wp2_with fail
  (with_reducible refine (newest_is 0 _ _ x _ _ a0 G9.out.l 99 (by decide) (by decide)).mono ?_)
  rintro e w' ⟨rfl, rfl⟩
  go_wp2_with fail
  (with_reducible refine (newest_is 0 _ _ x _ _ a0 G9.out.l (-1) (by decide) (by decide)).mono ?_)
  rintro e w' ⟨rfl, rfl⟩
  go_wp2_with fail
  (with_reducible refine (take_of 0 b1 _ _ x 5 _ a0 G9.out.l (by unfold maxLen; omega) 5 2 1 1 1 0 1 1 (by decide) n5 n6).mono ?_)
  rintro e w' ⟨rfl, m10, h1, h2⟩
  clear c0 c1
  have G10 := Lib.hid (G9.out.did h1 h2)
  clear h1 h2 G9
  have ⟨c0, c1⟩ := G10.out.cells
  go_wp2_with fail
  (with_reducible refine (awake_any _).mono ?_)
  rintro e w' ⟨rfl, hb⟩
  clear c0 c1
  have G11 := Lib.hid (G10.out.below hb)
  clear hb G10
  have ⟨c0, c1⟩ := G11.out.cells
  go_wp2_with fail
  go_ret
  exact ⟨rfl, G11.out.b⟩
end Go.Proofs.Ytgbbmhdkhhchhaa
