/-
  Carried over and put together: contracts of this program's functions, and plain facts. No statement is proved in this text.
-/
import Derived.Test.YthkkipbmlafdiaaGreatN34
import Derived.Test.YthkkipbmlafdiaaGreatN36
set_option maxRecDepth 20000
namespace Go.Proofs.YthkkipbmlafdiaaGreat
open Go Go.RowKit
set_option maxHeartbeats 4000000 in
theorem frame0_any (v : Value) (V : Vw) (p q r s k : Int) (w : World) (h : VAt w v V) (h3 : ¬ k = 3) (h4 : ¬ k = 4) :
  Calls Tryz.prog 33 #[v, .agg #[.int .i64 p, .int .i64 q], .agg #[.int .i64 r, .int .i64 s], .int .u8 k] w fun e w' => e = .returned (.tuple #[.agg #[.int .u8 0, .int .i64 0, .int .i64 0, .int .i64 0, .int .i64 0, .int .i64 0, .int .i64 0, .int .i64 0, .int .i64 0, .slice none 0 0, .slice none 0 0, .slice none 0 0, .slice none 0 0, .slice none 0 0], .bool false]) ∧ Below w.heap.size w w' := by
 obtain ⟨a, b, c, d, e, rfl, -⟩ := h
 have d3 : (k == 3) = false := by simpa using h3
 have d4 : (k == 4) = false := by simpa using h4
 have q1 := below_one w (.cells #[.slice a.1 a.2.1 a.2.2, .slice b.1 b.2.1 b.2.2, .slice c.1 c.2.1 c.2.2, .slice d.1 d.2.1 d.2.2, .slice e.1 e.2.1 e.2.2] 27)
 have q2 := below_one (w.alloc (.cells #[.slice a.1 a.2.1 a.2.2, .slice b.1 b.2.1 b.2.2, .slice c.1 c.2.1 c.2.2, .slice d.1 d.2.1 d.2.2, .slice e.1 e.2.1 e.2.2] 27)) (.cells #[.int .i64 p, .int .i64 q] 29)
 have q3 := below_one ((w.alloc (.cells #[.slice a.1 a.2.1 a.2.2, .slice b.1 b.2.1 b.2.2, .slice c.1 c.2.1 c.2.2, .slice d.1 d.2.1 d.2.2, .slice e.1 e.2.1 e.2.2] 27)).alloc (.cells #[.int .i64 p, .int .i64 q] 29)) (.cells #[.int .i64 r, .int .i64 s] 29)
 have q4 := below_one (((w.alloc (.cells #[.slice a.1 a.2.1 a.2.2, .slice b.1 b.2.1 b.2.2, .slice c.1 c.2.1 c.2.2, .slice d.1 d.2.1 d.2.2, .slice e.1 e.2.1 e.2.2] 27)).alloc (.cells #[.int .i64 p, .int .i64 q] 29)).alloc (.cells #[.int .i64 r, .int .i64 s] 29)) (.cells #[.int .u8 0, .int .i64 0, .int .i64 0, .int .i64 0, .int .i64 0, .int .i64 0, .int .i64 0, .int .i64 0, .int .i64 0, .slice none 0 0, .slice none 0 0, .slice none 0 0, .slice none 0 0, .slice none 0 0] 48)
 have Q := (below_after (below_after (below_after q1 q2 (Nat.le_refl _)) q3 (Nat.le_refl _)) q4 (Nat.le_refl _))
 have X1 : Hid (VBox ((((w.alloc (.cells #[.slice a.1 a.2.1 a.2.2, .slice b.1 b.2.1 b.2.2, .slice c.1 c.2.1 c.2.2, .slice d.1 d.2.1 d.2.2, .slice e.1 e.2.1 e.2.2] 27)).alloc (.cells #[.int .i64 p, .int .i64 q] 29)).alloc (.cells #[.int .i64 r, .int .i64 s] 29)).alloc (.cells #[.int .u8 0, .int .i64 0, .int .i64 0, .int .i64 0, .int .i64 0, .int .i64 0, .int .i64 0, .int .i64 0, .int .i64 0, .slice none 0 0, .slice none 0 0, .slice none 0 0, .slice none 0 0, .slice none 0 0] 48)) (w.heap.size) a b c d e) := Lib.hid (vbox_below (vbox_below (vbox_below (vbox_new w a b c d e) q2) q3) q4)
 have X2 : Hid (Box ((((w.alloc (.cells #[.slice a.1 a.2.1 a.2.2, .slice b.1 b.2.1 b.2.2, .slice c.1 c.2.1 c.2.2, .slice d.1 d.2.1 d.2.2, .slice e.1 e.2.1 e.2.2] 27)).alloc (.cells #[.int .i64 p, .int .i64 q] 29)).alloc (.cells #[.int .i64 r, .int .i64 s] 29)).alloc (.cells #[.int .u8 0, .int .i64 0, .int .i64 0, .int .i64 0, .int .i64 0, .int .i64 0, .int .i64 0, .int .i64 0, .int .i64 0, .slice none 0 0, .slice none 0 0, .slice none 0 0, .slice none 0 0, .slice none 0 0] 48)) (w.heap.size + 1) p q) := Lib.hid (by have h := (box_below (box_below (box_new (w.alloc (.cells #[.slice a.1 a.2.1 a.2.2, .slice b.1 b.2.1 b.2.2, .slice c.1 c.2.1 c.2.2, .slice d.1 d.2.1 d.2.2, .slice e.1 e.2.1 e.2.2] 27)) p q) q3) q4); simp only [World.size_alloc] at h; exact h)
 have X3 : Hid (Box ((((w.alloc (.cells #[.slice a.1 a.2.1 a.2.2, .slice b.1 b.2.1 b.2.2, .slice c.1 c.2.1 c.2.2, .slice d.1 d.2.1 d.2.2, .slice e.1 e.2.1 e.2.2] 27)).alloc (.cells #[.int .i64 p, .int .i64 q] 29)).alloc (.cells #[.int .i64 r, .int .i64 s] 29)).alloc (.cells #[.int .u8 0, .int .i64 0, .int .i64 0, .int .i64 0, .int .i64 0, .int .i64 0, .int .i64 0, .int .i64 0, .int .i64 0, .slice none 0 0, .slice none 0 0, .slice none 0 0, .slice none 0 0, .slice none 0 0] 48)) (w.heap.size + 1 + 1) r s) := Lib.hid (by have h := (box_below (box_new ((w.alloc (.cells #[.slice a.1 a.2.1 a.2.2, .slice b.1 b.2.1 b.2.2, .slice c.1 c.2.1 c.2.2, .slice d.1 d.2.1 d.2.2, .slice e.1 e.2.1 e.2.2] 27)).alloc (.cells #[.int .i64 p, .int .i64 q] 29)) r s) q4); simp only [World.size_alloc] at h; exact h)
 have X4 : Hid (FBx ((((w.alloc (.cells #[.slice a.1 a.2.1 a.2.2, .slice b.1 b.2.1 b.2.2, .slice c.1 c.2.1 c.2.2, .slice d.1 d.2.1 d.2.2, .slice e.1 e.2.1 e.2.2] 27)).alloc (.cells #[.int .i64 p, .int .i64 q] 29)).alloc (.cells #[.int .i64 r, .int .i64 s] 29)).alloc (.cells #[.int .u8 0, .int .i64 0, .int .i64 0, .int .i64 0, .int .i64 0, .int .i64 0, .int .i64 0, .int .i64 0, .int .i64 0, .slice none 0 0, .slice none 0 0, .slice none 0 0, .slice none 0 0, .slice none 0 0] 48)) (w.heap.size + 1 + 1 + 1) 0 0 0 0 0 0 0 0 0 (none, 0, 0) (none, 0, 0) (none, 0, 0) (none, 0, 0) (none, 0, 0)) := Lib.hid (by have h := (fbx_new (((w.alloc (.cells #[.slice a.1 a.2.1 a.2.2, .slice b.1 b.2.1 b.2.2, .slice c.1 c.2.1 c.2.2, .slice d.1 d.2.1 d.2.2, .slice e.1 e.2.1 e.2.2] 27)).alloc (.cells #[.int .i64 p, .int .i64 q] 29)).alloc (.cells #[.int .i64 r, .int .i64 s] 29)) 0 0 0 0 0 0 0 0 0 (none, 0, 0) (none, 0, 0) (none, 0, 0) (none, 0, 0) (none, 0, 0)); simp only [World.size_alloc] at h; exact h)
 have BQ := Lib.hid Q
 clear q1 q2 q3 q4 Q
 obtain ⟨r0, r1, r2, r3, r4, r5, r6, r7, r8, r9, r10, r11, r12, r13⟩ := fbx_cells X4.out
 obtain ⟨g0, g1, g2, g3, g4, g5, g6, g7, g8, g9, g10, g11, g12, g13⟩ := fbx_free X4.out
 dsimp only at r9 r10 r11 r12 r13
 go_enter Tryz.func33, Tryz.ntmps33
 go_wp2_with fail
 refine bodyPost_ret (v := .tuple #[.agg #[.int .u8 0, .int .i64 0, .int .i64 0, .int .i64 0, .int .i64 0, .int .i64 0, .int .i64 0, .int .i64 0, .int .i64 0, .slice none 0 0, .slice none 0 0, .slice none 0 0, .slice none 0 0, .slice none 0 0], .bool false]) (by simp [results, Tryz.results33, go_sem, r0, r1, r2, r3, r4, r5, r6, r7, r8, r9, r10, r11, r12, r13]) rfl ?_
 exact ⟨rfl, BQ.out⟩
end Go.Proofs.YthkkipbmlafdiaaGreat
namespace Go.Proofs.YthkkipbmlafdiaaGreat
open Go Go.RowKit
def badV : Vw := ⟨[], [], [], [], [(0, 0)]⟩
theorem fit_bad : FitVIE 400 badV := ⟨by decide, by decide, by decide, by decide, by decide, fun r (h : r ∈ []) => by cases h⟩
theorem em_fit4 : FitVIE 400 emV := ⟨by decide, by decide, by decide, by decide, by decide, fun r (h : r ∈ []) => by cases h⟩
theorem told_beat : (toldP 5 emV emV 1 1).2 = (0, 4) := by kernel_rfl
theorem told_bad : (toldP 4 emV badV 1 1).2 = (0, 4) := by kernel_rfl
theorem n_beat (w : World) : Calls Tryz.prog 31 #[.agg #[.slice none 0 0, .slice none 0 0, .slice none 0 0, .slice none 0 0, .slice none 0 0], .agg #[.int .i64 1, .int .i64 1], .agg #[.int .u8 5, .int .i64 0, .int .i64 0, .int .i64 0, .int .i64 0, .int .i64 0, .int .i64 0, .int .i64 0, .int .i64 0, .slice none 0 0, .slice none 0 0, .slice none 0 0, .slice none 0 0, .slice none 0 0]] w fun e w' => ∃ a b c d e2 : SL, e = .returned (.tuple #[.agg #[.slice a.1 a.2.1 a.2.2, .slice b.1 b.2.1 b.2.2, .slice c.1 c.2.1 c.2.2, .slice d.1 d.2.1 d.2.2, .slice e2.1 e2.2.1 e2.2.2], .int .u8 0, .int .i64 4]) ∧ Below w.heap.size w w' :=
 (told_any _ emV emV 1 1 5 0 0 0 0 0 0 0 0 (none, 0, 0) (none, 0, 0) (none, 0, 0) (none, 0, 0) (none, 0, 0) w (em_at _) (em_rv _) (em_fit4) em_fit4 List.Pairwise.nil).mono fun e w' ⟨X, h1, ⟨a, b, c, d, e2, hX, _⟩, hb⟩ => ⟨a, b, c, d, e2, by rw [h1, hX, told_beat], hb⟩
theorem n_bad (s : SL) (w : World) (h : Ids w (.slice s.1 s.2.1 s.2.2) [(0, 0)]) : Calls Tryz.prog 31 #[.agg #[.slice none 0 0, .slice none 0 0, .slice none 0 0, .slice none 0 0, .slice none 0 0], .agg #[.int .i64 1, .int .i64 1], .agg #[.int .u8 4, .int .i64 0, .int .i64 0, .int .i64 0, .int .i64 0, .int .i64 0, .int .i64 0, .int .i64 0, .int .i64 0, .slice none 0 0, .slice none 0 0, .slice none 0 0, .slice none 0 0, .slice s.1 s.2.1 s.2.2]] w fun e w' => ∃ a b c d e2 : SL, e = .returned (.tuple #[.agg #[.slice a.1 a.2.1 a.2.2, .slice b.1 b.2.1 b.2.2, .slice c.1 c.2.1 c.2.2, .slice d.1 d.2.1 d.2.2, .slice e2.1 e2.2.1 e2.2.2], .int .u8 0, .int .i64 4]) ∧ Below w.heap.size w w' :=
 (told_any _ emV badV 1 1 4 0 0 0 0 0 0 0 0 (none, 0, 0) (none, 0, 0) (none, 0, 0) (none, 0, 0) s w (em_at _) ⟨Rcs.nil _, Ids.nil _, RowsAt.nil _, Rcs.nil _, h⟩ em_fit4 fit_bad List.Pairwise.nil).mono fun e w' ⟨X, h1, ⟨a, b, c, d, e2, hX, _⟩, hb⟩ => ⟨a, b, c, d, e2, by rw [h1, hX, told_bad], hb⟩
theorem n_none (k : Int) (h3 : ¬ k = 3) (h4 : ¬ k = 4) (w : World) : Calls Tryz.prog 33 #[.agg #[.slice none 0 0, .slice none 0 0, .slice none 0 0, .slice none 0 0, .slice none 0 0], .agg #[.int .i64 0, .int .i64 0], .agg #[.int .i64 0, .int .i64 0], .int .u8 k] w fun e w' => e = .returned (.tuple #[.agg #[.int .u8 0, .int .i64 0, .int .i64 0, .int .i64 0, .int .i64 0, .int .i64 0, .int .i64 0, .int .i64 0, .int .i64 0, .slice none 0 0, .slice none 0 0, .slice none 0 0, .slice none 0 0, .slice none 0 0], .bool false]) ∧ Below w.heap.size w w' :=
 frame0_any _ emV 0 0 0 0 k w (em_at _) h3 h4
set_option maxHeartbeats 4000000 in
theorem namesT_any (w : World) : Calls Tryz.prog 5 #[] w fun e w' => e = .returned (.bool true) ∧ Below w.heap.size w w' := by
 have q1 := below_one w (.cells #[.int .i64 0, .int .i64 0] 29)
 have q2 := below_one (w.alloc (.cells #[.int .i64 0, .int .i64 0] 29)) (.cells #[.slice none 0 0, .slice none 0 0, .slice none 0 0, .slice none 0 0, .slice (some ⟨w.heap.size, 0, none⟩) 1 1] 27)
 have HI : Hid (Ids ((w.alloc (.cells #[.int .i64 0, .int .i64 0] 29)).alloc (.cells #[.slice none 0 0, .slice none 0 0, .slice none 0 0, .slice none 0 0, .slice (some ⟨w.heap.size, 0, none⟩) 1 1] 27)) (.slice (some ⟨w.heap.size, 0, none⟩) 1 1) [(0, 0)]) := Lib.hid (Ids.below (ids_lit w [(0, 0)]) q2)
 have HX : Hid (VBox ((w.alloc (.cells #[.int .i64 0, .int .i64 0] 29)).alloc (.cells #[.slice none 0 0, .slice none 0 0, .slice none 0 0, .slice none 0 0, .slice (some ⟨w.heap.size, 0, none⟩) 1 1] 27)) (w.heap.size + 1) (none, 0, 0) (none, 0, 0) (none, 0, 0) (none, 0, 0) (some ⟨w.heap.size, 0, none⟩, 1, 1)) := Lib.hid (by
  have h := vbox_new (w.alloc (.cells #[.int .i64 0, .int .i64 0] 29)) (none, 0, 0) (none, 0, 0) (none, 0, 0) (none, 0, 0) (some ⟨w.heap.size, 0, none⟩, 1, 1)
  simp only [World.size_alloc] at h
  exact h)
 have HB := Lib.hid (below_after q1 q2 (Nat.le_refl _))
 clear q1 q2
 go_enter Tryz.func5, Tryz.ntmps5
 go_wp2_with fail
 (with_reducible refine (n_beat _).mono ?_)
 rintro e w1 ⟨a, b, c, d, e2, rfl, hb⟩
 have q := below_one w1 (.cells #[.slice a.1 a.2.1 a.2.2, .slice b.1 b.2.1 b.2.2, .slice c.1 c.2.1 c.2.2, .slice d.1 d.2.1 d.2.2, .slice e2.1 e2.2.1 e2.2.2] 27)
 have bb := below_after hb q (Nat.le_refl _)
 have HI1 := Lib.hid (Ids.below HI.out bb)
 have HX1 := Lib.hid (vbox_below HX.out bb)
 have HB1 := Lib.hid (below_after HB.out bb (Nat.le_refl _))
 clear hb q bb HI HX HB
 obtain ⟨p0, p1, p2, p3, p4⟩ := vbox_cells HX1.out
 dsimp only at p0 p1 p2 p3 p4
 go_wp2_with fail
 (with_reducible refine (n_bad (some ⟨w.heap.size, 0, none⟩, 1, 1) _ HI1.out).mono ?_)
 rintro e w2 ⟨a, b, c, d, e2, rfl, hb⟩
 have HB2 := Lib.hid (below_after (below_after HB1.out hb (Nat.le_refl _)) (below_one w2 (.cells #[.slice a.1 a.2.1 a.2.2, .slice b.1 b.2.1 b.2.2, .slice c.1 c.2.1 c.2.2, .slice d.1 d.2.1 d.2.2, .slice e2.1 e2.2.1 e2.2.2] 27)) (Nat.le_refl _))
 clear hb p0 p1 p2 p3 p4 HI1 HX1 HB1
 go_wp2_with fail
 (with_reducible refine (n_none 0 (by decide) (by decide) _).mono ?_)
 rintro e w3 ⟨rfl, hb⟩
 have HB3 := Lib.hid (below_after (below_after HB2.out hb (Nat.le_refl _)) (below_one w3 (.cells #[.int .u8 0, .int .i64 0, .int .i64 0, .int .i64 0, .int .i64 0, .int .i64 0, .int .i64 0, .int .i64 0, .int .i64 0, .slice none 0 0, .slice none 0 0, .slice none 0 0, .slice none 0 0, .slice none 0 0] 48)) (Nat.le_refl _))
 clear hb HB2
 go_wp2_with fail
 (with_reducible refine (n_none 5 (by decide) (by decide) _).mono ?_)
 rintro e w4 ⟨rfl, hb⟩
 have HB4 := Lib.hid (below_after (below_after HB3.out hb (Nat.le_refl _)) (below_one w4 (.cells #[.int .u8 0, .int .i64 0, .int .i64 0, .int .i64 0, .int .i64 0, .int .i64 0, .int .i64 0, .int .i64 0, .int .i64 0, .slice none 0 0, .slice none 0 0, .slice none 0 0, .slice none 0 0, .slice none 0 0] 48)) (Nat.le_refl _))
 clear hb HB3
 go_wp2_with fail
 (with_reducible refine (awakeT_any _).mono ?_)
 rintro e w5 ⟨rfl, hb⟩
 have HB5 := Lib.hid (below_after HB4.out hb (Nat.le_refl _))
 clear hb HB4
 go_wp2_with fail
 go_ret
 exact ⟨rfl, HB5.out⟩
end Go.Proofs.YthkkipbmlafdiaaGreat
