/-
  A walk over the document's own links: a frame that is refused for its addresses. No statement is proved in this text.
-/
import Derived.Test.YtgbbmhdkhhchhaaLnkS
set_option maxRecDepth 20000
namespace Go.Proofs.Ytgbbmhdkhhchhaa
open Go Go.RowKit
theorem tk_no {M : Int → Pr} {F : Fm} {m1 m2 r : Int} (h : refuse (M F.f1) F m1 m2 = r) (h0 : r ≠ 0) : takeE M F m1 m2 = r ∧ takeM M F m1 m2 = M := by
  have e : takeE M F m1 m2 = r := by unfold takeE; rw [if_neg (by rw [h]; exact h0)]; exact h
  exact ⟨e, takeM_no (by rw [e]; exact h0)⟩
theorem tk_twice {M : Int → Pr} {F : Fm} {m1 m2 : Int} (h : refuse (M F.f1) F m1 m2 = 0) (ha : after (M F.f1) F = (p0, 6)) : takeE M F m1 m2 = 6 ∧ takeM M F m1 m2 = M := by
  have e : takeE M F m1 m2 = 6 := by unfold takeE; rw [if_pos h, ha]
  exact ⟨e, takeM_no (by rw [e]; decide)⟩
theorem tk_yes {M : Int → Pr} {F : Fm} {m1 m2 : Int} {q : Pr} (h : refuse (M F.f1) F m1 m2 = 0) (ha : after (M F.f1) F = (q, 0)) : takeE M F m1 m2 = 0 ∧ takeM M F m1 m2 = put M F.f1 q := by
  have e : takeE M F m1 m2 = 0 := by unfold takeE; rw [if_pos h, ha]
  exact ⟨e, by rw [takeM_yes e, ha]⟩
set_option maxHeartbeats 2000000 in
theorem refTake_no (w : World) (g : Nat) (M : Int → Pr) (h : RBox w g M) (fk f1 f2 t1 t2 fn m1 m2 : Int) (hm : mayI f1 f2 = false) :
    Calls Try.prog 17 #[.pointer (some ⟨g, 0, none⟩), .agg #[.int .u8 fk, .int .i64 f1, .int .i64 f2, .int .i64 t1, .int .i64 t2, .int .i64 fn, .int .i64 0, .int .i64 0, .int .i64 0, .slice none 0 0, .slice none 0 0, .slice none 0 0, .slice none 0 0, .slice none 0 0], .agg #[.int .i64 m1, .int .i64 m2]] w (RDid (.int .i64 (takeE M ⟨fk, f1, f2, t1, t2, fn⟩ m1 m2)) g (takeM M ⟨fk, f1, f2, t1, t2, fn⟩ m1 m2) w) := by
  have B1 := Lib.hid (show Below w.heap.size w ((w.alloc (.cells #[.int .u8 fk, .int .i64 f1, .int .i64 f2, .int .i64 t1, .int .i64 t2, .int .i64 fn, .int .i64 0, .int .i64 0, .int .i64 0, .slice none 0 0, .slice none 0 0, .slice none 0 0, .slice none 0 0, .slice none 0 0] 42)).alloc (.cells #[.int .i64 m1, .int .i64 m2] 23)) from ((Below.refl _ _).alloc (Nat.le_refl _) _).alloc (by simp) _)
  have X1 := Lib.hid (show FBox ((w.alloc (.cells #[.int .u8 fk, .int .i64 f1, .int .i64 f2, .int .i64 t1, .int .i64 t2, .int .i64 fn, .int .i64 0, .int .i64 0, .int .i64 0, .slice none 0 0, .slice none 0 0, .slice none 0 0, .slice none 0 0, .slice none 0 0] 42)).alloc (.cells #[.int .i64 m1, .int .i64 m2] 23)) w.heap.size ⟨fk, f1, f2, t1, t2, fn⟩ from (Below.heap_alloc _ _ _ (by simp)).trans (fbox_new w ⟨fk, f1, f2, t1, t2, fn⟩))
  have I1 := Lib.hid (show Box ((w.alloc (.cells #[.int .u8 fk, .int .i64 f1, .int .i64 f2, .int .i64 t1, .int .i64 t2, .int .i64 fn, .int .i64 0, .int .i64 0, .int .i64 0, .slice none 0 0, .slice none 0 0, .slice none 0 0, .slice none 0 0, .slice none 0 0] 42)).alloc (.cells #[.int .i64 m1, .int .i64 m2] 23)) (w.heap.size + 1) m1 m2 from by have := box_new (w.alloc (.cells #[.int .u8 fk, .int .i64 f1, .int .i64 f2, .int .i64 t1, .int .i64 t2, .int .i64 fn, .int .i64 0, .int .i64 0, .int .i64 0, .slice none 0 0, .slice none 0 0, .slice none 0 0, .slice none 0 0, .slice none 0 0] 42)) m1 m2; simpa using this)
  have R1 := Lib.hid (rbox_below h B1.out)
  have GL := Lib.hid (rbox_lt h)
  clear h
  have HM := Lib.hid hm
  have HT := Lib.hid (tk_no (refuse_m (p := M f1) (F := ⟨fk, f1, f2, t1, t2, fn⟩) (m1 := m1) (m2 := m2) hm) (by decide))
  clear hm
  go_enter Try.func17, Try.ntmps17
  go_wp2_with fail
  generalize hW : World.alloc _ _ = w1 at *
  clear hW
  (with_reducible refine (refMay_is false f1 f2 HM.out _).mono ?_)
  rintro e w2 ⟨rfl, hb⟩
  have X2 := Lib.hid (fbox_below X1.out hb (fbox_lt X1.out))
  have I2 := Lib.hid (box_below I1.out hb (box_lt I1.out))
  have R2 := Lib.hid (rbox_below R1.out hb)
  have B2 := Lib.hid (B1.out.trans (hb.mono B1.out.size))
  clear hb X1 I1 R1 B1
  obtain ⟨d0, d1, d2, d3, d4, d5⟩ := fbox_cells X2.out
  dsimp only at d0 d1 d2 d3 d4 d5
  obtain ⟨b0, b1⟩ := box_cells I2.out
  go_wp2_with fail
  go_ret
  rw [HT.out.1, HT.out.2]
  exact ⟨rfl, rbox_same R2.out rfl, Ch.below B2.out g none⟩
set_option maxHeartbeats 2000000 in
theorem refTake_to (w : World) (g : Nat) (M : Int → Pr) (h : RBox w g M) (fk f1 f2 t1 t2 fn m1 m2 : Int) (hm : mayI f1 f2 = true) (ht : t1 ≠ m1) :
    Calls Try.prog 17 #[.pointer (some ⟨g, 0, none⟩), .agg #[.int .u8 fk, .int .i64 f1, .int .i64 f2, .int .i64 t1, .int .i64 t2, .int .i64 fn, .int .i64 0, .int .i64 0, .int .i64 0, .slice none 0 0, .slice none 0 0, .slice none 0 0, .slice none 0 0, .slice none 0 0], .agg #[.int .i64 m1, .int .i64 m2]] w (RDid (.int .i64 (takeE M ⟨fk, f1, f2, t1, t2, fn⟩ m1 m2)) g (takeM M ⟨fk, f1, f2, t1, t2, fn⟩ m1 m2) w) := by
  have B1 := Lib.hid (show Below w.heap.size w ((w.alloc (.cells #[.int .u8 fk, .int .i64 f1, .int .i64 f2, .int .i64 t1, .int .i64 t2, .int .i64 fn, .int .i64 0, .int .i64 0, .int .i64 0, .slice none 0 0, .slice none 0 0, .slice none 0 0, .slice none 0 0, .slice none 0 0] 42)).alloc (.cells #[.int .i64 m1, .int .i64 m2] 23)) from ((Below.refl _ _).alloc (Nat.le_refl _) _).alloc (by simp) _)
  have X1 := Lib.hid (show FBox ((w.alloc (.cells #[.int .u8 fk, .int .i64 f1, .int .i64 f2, .int .i64 t1, .int .i64 t2, .int .i64 fn, .int .i64 0, .int .i64 0, .int .i64 0, .slice none 0 0, .slice none 0 0, .slice none 0 0, .slice none 0 0, .slice none 0 0] 42)).alloc (.cells #[.int .i64 m1, .int .i64 m2] 23)) w.heap.size ⟨fk, f1, f2, t1, t2, fn⟩ from (Below.heap_alloc _ _ _ (by simp)).trans (fbox_new w ⟨fk, f1, f2, t1, t2, fn⟩))
  have I1 := Lib.hid (show Box ((w.alloc (.cells #[.int .u8 fk, .int .i64 f1, .int .i64 f2, .int .i64 t1, .int .i64 t2, .int .i64 fn, .int .i64 0, .int .i64 0, .int .i64 0, .slice none 0 0, .slice none 0 0, .slice none 0 0, .slice none 0 0, .slice none 0 0] 42)).alloc (.cells #[.int .i64 m1, .int .i64 m2] 23)) (w.heap.size + 1) m1 m2 from by have := box_new (w.alloc (.cells #[.int .u8 fk, .int .i64 f1, .int .i64 f2, .int .i64 t1, .int .i64 t2, .int .i64 fn, .int .i64 0, .int .i64 0, .int .i64 0, .slice none 0 0, .slice none 0 0, .slice none 0 0, .slice none 0 0, .slice none 0 0] 42)) m1 m2; simpa using this)
  have R1 := Lib.hid (rbox_below h B1.out)
  have GL := Lib.hid (rbox_lt h)
  clear h
  have HM := Lib.hid hm
  have HT := Lib.hid (tk_no (refuse_t (p := M f1) (F := ⟨fk, f1, f2, t1, t2, fn⟩) (m1 := m1) (m2 := m2) ht) (by decide))
  have hb1 : (t1 != m1) = true := by simpa using ht
  clear hm ht
  go_enter Try.func17, Try.ntmps17
  go_wp2_with fail
  generalize hW : World.alloc _ _ = w1 at *
  clear hW
  (with_reducible refine (refMay_is true f1 f2 HM.out _).mono ?_)
  rintro e w2 ⟨rfl, hb⟩
  have X2 := Lib.hid (fbox_below X1.out hb (fbox_lt X1.out))
  have I2 := Lib.hid (box_below I1.out hb (box_lt I1.out))
  have R2 := Lib.hid (rbox_below R1.out hb)
  have B2 := Lib.hid (B1.out.trans (hb.mono B1.out.size))
  clear hb X1 I1 R1 B1
  obtain ⟨d0, d1, d2, d3, d4, d5⟩ := fbox_cells X2.out
  dsimp only at d0 d1 d2 d3 d4 d5
  obtain ⟨b0, b1⟩ := box_cells I2.out
  go_wp2_with fail
  go_ret
  rw [HT.out.1, HT.out.2]
  exact ⟨rfl, rbox_same R2.out rfl, Ch.below B2.out g none⟩
set_option maxHeartbeats 2000000 in
theorem refTake_me (w : World) (g : Nat) (M : Int → Pr) (h : RBox w g M) (fk f1 f2 t1 t2 fn m1 m2 : Int) (hm : mayI f1 f2 = true) (ht : t1 = m1) (hf : f1 = m1) :
    Calls Try.prog 17 #[.pointer (some ⟨g, 0, none⟩), .agg #[.int .u8 fk, .int .i64 f1, .int .i64 f2, .int .i64 t1, .int .i64 t2, .int .i64 fn, .int .i64 0, .int .i64 0, .int .i64 0, .slice none 0 0, .slice none 0 0, .slice none 0 0, .slice none 0 0, .slice none 0 0], .agg #[.int .i64 m1, .int .i64 m2]] w (RDid (.int .i64 (takeE M ⟨fk, f1, f2, t1, t2, fn⟩ m1 m2)) g (takeM M ⟨fk, f1, f2, t1, t2, fn⟩ m1 m2) w) := by
  have B1 := Lib.hid (show Below w.heap.size w ((w.alloc (.cells #[.int .u8 fk, .int .i64 f1, .int .i64 f2, .int .i64 t1, .int .i64 t2, .int .i64 fn, .int .i64 0, .int .i64 0, .int .i64 0, .slice none 0 0, .slice none 0 0, .slice none 0 0, .slice none 0 0, .slice none 0 0] 42)).alloc (.cells #[.int .i64 m1, .int .i64 m2] 23)) from ((Below.refl _ _).alloc (Nat.le_refl _) _).alloc (by simp) _)
  have X1 := Lib.hid (show FBox ((w.alloc (.cells #[.int .u8 fk, .int .i64 f1, .int .i64 f2, .int .i64 t1, .int .i64 t2, .int .i64 fn, .int .i64 0, .int .i64 0, .int .i64 0, .slice none 0 0, .slice none 0 0, .slice none 0 0, .slice none 0 0, .slice none 0 0] 42)).alloc (.cells #[.int .i64 m1, .int .i64 m2] 23)) w.heap.size ⟨fk, f1, f2, t1, t2, fn⟩ from (Below.heap_alloc _ _ _ (by simp)).trans (fbox_new w ⟨fk, f1, f2, t1, t2, fn⟩))
  have I1 := Lib.hid (show Box ((w.alloc (.cells #[.int .u8 fk, .int .i64 f1, .int .i64 f2, .int .i64 t1, .int .i64 t2, .int .i64 fn, .int .i64 0, .int .i64 0, .int .i64 0, .slice none 0 0, .slice none 0 0, .slice none 0 0, .slice none 0 0, .slice none 0 0] 42)).alloc (.cells #[.int .i64 m1, .int .i64 m2] 23)) (w.heap.size + 1) m1 m2 from by have := box_new (w.alloc (.cells #[.int .u8 fk, .int .i64 f1, .int .i64 f2, .int .i64 t1, .int .i64 t2, .int .i64 fn, .int .i64 0, .int .i64 0, .int .i64 0, .slice none 0 0, .slice none 0 0, .slice none 0 0, .slice none 0 0, .slice none 0 0] 42)) m1 m2; simpa using this)
  have R1 := Lib.hid (rbox_below h B1.out)
  have GL := Lib.hid (rbox_lt h)
  clear h
  have HM := Lib.hid hm
  have HT := Lib.hid (tk_no (refuse_f (p := M f1) (F := ⟨fk, f1, f2, t1, t2, fn⟩) (m1 := m1) (m2 := m2) hf) (by decide))
  have hb1 : (t1 != m1) = false := by simpa using ht
  have hb2 : (f1 == m1) = true := by simpa using hf
  clear hm ht hf
  go_enter Try.func17, Try.ntmps17
  go_wp2_with fail
  generalize hW : World.alloc _ _ = w1 at *
  clear hW
  (with_reducible refine (refMay_is true f1 f2 HM.out _).mono ?_)
  rintro e w2 ⟨rfl, hb⟩
  have X2 := Lib.hid (fbox_below X1.out hb (fbox_lt X1.out))
  have I2 := Lib.hid (box_below I1.out hb (box_lt I1.out))
  have R2 := Lib.hid (rbox_below R1.out hb)
  have B2 := Lib.hid (B1.out.trans (hb.mono B1.out.size))
  clear hb X1 I1 R1 B1
  obtain ⟨d0, d1, d2, d3, d4, d5⟩ := fbox_cells X2.out
  dsimp only at d0 d1 d2 d3 d4 d5
  obtain ⟨b0, b1⟩ := box_cells I2.out
  go_wp2_with fail
  go_ret
  rw [HT.out.1, HT.out.2]
  exact ⟨rfl, rbox_same R2.out rfl, Ch.below B2.out g none⟩
end Go.Proofs.Ytgbbmhdkhhchhaa
