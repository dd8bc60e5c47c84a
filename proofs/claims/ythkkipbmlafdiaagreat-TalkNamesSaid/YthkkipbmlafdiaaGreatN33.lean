/-
  Carried over and put together: contracts of this program's functions, and plain facts. No statement is proved in this text.
-/
import Derived.Test.YthkkipbmlafdiaaGreatOz
import Derived.Test.YthkkipbmlafdiaaGreatN30
import Derived.Test.YthkkipbmlafdiaaGreatN31
import Derived.Test.YthkkipbmlafdiaaGreatN32
set_option maxRecDepth 20000
namespace Go.Proofs.YthkkipbmlafdiaaGreat
open Go Go.RowKit
def stV (V U : Vw) (k : Nat) : Vw := if Clocks.cmp V.c U.c = 1 then { V with s := Sets.put (Sets.join V.s U.s) (nid k) } else V
def ansV (T U : Vw) : Int := if Clocks.cmp T.c U.c = 1 then (if T.s = U.s then 0 else 3) else if Clocks.cmp T.c U.c = 2 then 3 else 4
def recvV (kd : Int) (V U : Vw) (k : Nat) : Vw := if kd = 4 then tellV V U k else stV V U k
def GoodT (N : Int) (V : Vw) : Prop := OkV V ∧ Few N V
structure FinT (J : Vw) (p : Nat → Nat) (q : Prop) (V : Nat → Vw) (s : Nat) : Prop where
 j0 : SameC (V 0) J
 same : SameC (V 0) (V 1)
 seen : (V 0).s = (V 1).s
 h1 : nid (p 1) ∈ (V 0).s
 h0 : nid (p 0) ∈ (V 0).s ∨ s < 2
 one : q → s = 1
def Ends (J : Vw) (p : Nat → Nat) (q : Prop) : Nat → (Nat → Vw) → Nat → Int → Nat → Prop
 | 0, V, _, kd, s => GoodT 1000 (V 0) ∧ GoodT 1000 (V 1) ∧ kd = 0 ∧ FinT J p q V s
 | n + 1, V, fr, kd, s => GoodT 1000 (V 0) ∧ GoodT 1000 (V 1) ∧ ((kd = 0 ∧ FinT J p q V s) ∨ ((kd = 3 ∨ kd = 4) ∧ s < 5 ∧
   Ends J p q n (now1 V (1 - fr) (recvV kd (V (1 - fr)) (V fr) (p (1 - fr)))) (1 - fr) (ansV (recvV kd (V (1 - fr)) (V fr) (p (1 - fr))) (V fr)) (s + 1)))
theorem Ends.good {J : Vw} {p : Nat → Nat} {q : Prop} {n : Nat} {V : Nat → Vw} {fr : Nat} {kd : Int} {s : Nat} (h : Ends J p q n V fr kd s) : GoodT 1000 (V 0) ∧ GoodT 1000 (V 1) := by
 cases n with
 | zero => exact ⟨h.1, h.2.1⟩
 | succ n => exact ⟨h.1, h.2.1⟩
theorem Ends.fin {J : Vw} {p : Nat → Nat} {q : Prop} {n : Nat} {V : Nat → Vw} {fr s : Nat} (h : Ends J p q n V fr 0 s) : FinT J p q V s := by
 cases n with
 | zero => exact h.2.2.2
 | succ n =>
  rcases h.2.2 with h | h
  ·exact h.2
  ·rcases h.1 with e | e <;> cases e
theorem Ends.next {J : Vw} {p : Nat → Nat} {q : Prop} {n : Nat} {V : Nat → Vw} {fr : Nat} {kd : Int} {s : Nat} (h : Ends J p q n V fr kd s) (h0 : kd ≠ 0) : ∃ m, n = m + 1 ∧ (kd = 3 ∨ kd = 4) ∧ s < 5 ∧ Ends J p q m (now1 V (1 - fr) (recvV kd (V (1 - fr)) (V fr) (p (1 - fr)))) (1 - fr) (ansV (recvV kd (V (1 - fr)) (V fr) (p (1 - fr))) (V fr)) (s + 1) := by
 cases n with
 | zero => exact absurd h.2.2.1 h0
 | succ n =>
  rcases h.2.2 with h | h
  ·exact absurd h.1 h0
  ·exact ⟨n, rfl, h⟩
end Go.Proofs.YthkkipbmlafdiaaGreat
namespace Go.Proofs.YthkkipbmlafdiaaGreat
open Go Go.RowKit
def FBx (w : World) (g : Nat) (k f1 f2 t1 t2 n tk b1 b2 : Int) (a b c d e : SL) : Prop := w.heap[g]? = some (.cells #[.int .u8 k, .int .i64 f1, .int .i64 f2, .int .i64 t1, .int .i64 t2, .int .i64 n, .int .i64 tk, .int .i64 b1, .int .i64 b2, .slice a.1 a.2.1 a.2.2, .slice b.1 b.2.1 b.2.2, .slice c.1 c.2.1 c.2.2, .slice d.1 d.2.1 d.2.2, .slice e.1 e.2.1 e.2.2] 48 (0, 0))
theorem fbx_cells {w : World} {g : Nat} {k f1 f2 t1 t2 n tk b1 b2 : Int} {a b c d e : SL} (h : FBx w g k f1 f2 t1 t2 n tk b1 b2 a b c d e) : w.cell? ⟨g, 0, none⟩ = some (.int .u8 k) ∧ w.cell? ⟨g, 1, none⟩ = some (.int .i64 f1) ∧ w.cell? ⟨g, 2, none⟩ = some (.int .i64 f2) ∧ w.cell? ⟨g, 3, none⟩ = some (.int .i64 t1) ∧ w.cell? ⟨g, 4, none⟩ = some (.int .i64 t2) ∧ w.cell? ⟨g, 5, none⟩ = some (.int .i64 n) ∧ w.cell? ⟨g, 6, none⟩ = some (.int .i64 tk) ∧ w.cell? ⟨g, 7, none⟩ = some (.int .i64 b1) ∧ w.cell? ⟨g, 8, none⟩ = some (.int .i64 b2) ∧ w.cell? ⟨g, 9, none⟩ = some (.slice a.1 a.2.1 a.2.2) ∧ w.cell? ⟨g, 10, none⟩ = some (.slice b.1 b.2.1 b.2.2) ∧ w.cell? ⟨g, 11, none⟩ = some (.slice c.1 c.2.1 c.2.2) ∧ w.cell? ⟨g, 12, none⟩ = some (.slice d.1 d.2.1 d.2.2) ∧ w.cell? ⟨g, 13, none⟩ = some (.slice e.1 e.2.1 e.2.2) := by
 unfold FBx at h
 exact ⟨by rw [cell_of_row _ _ 0 _ _ _ h]; rfl, by rw [cell_of_row _ _ 1 _ _ _ h]; rfl, by rw [cell_of_row _ _ 2 _ _ _ h]; rfl, by rw [cell_of_row _ _ 3 _ _ _ h]; rfl, by rw [cell_of_row _ _ 4 _ _ _ h]; rfl, by rw [cell_of_row _ _ 5 _ _ _ h]; rfl, by rw [cell_of_row _ _ 6 _ _ _ h]; rfl, by rw [cell_of_row _ _ 7 _ _ _ h]; rfl, by rw [cell_of_row _ _ 8 _ _ _ h]; rfl, by rw [cell_of_row _ _ 9 _ _ _ h]; rfl, by rw [cell_of_row _ _ 10 _ _ _ h]; rfl, by rw [cell_of_row _ _ 11 _ _ _ h]; rfl, by rw [cell_of_row _ _ 12 _ _ _ h]; rfl, by rw [cell_of_row _ _ 13 _ _ _ h]; rfl⟩
theorem fbx_free {w : World} {g : Nat} {k f1 f2 t1 t2 n tk b1 b2 : Int} {a b c d e : SL} (h : FBx w g k f1 f2 t1 t2 n tk b1 b2 a b c d e) : w.frozen? ⟨g, 0, none⟩ = false ∧ w.frozen? ⟨g, 1, none⟩ = false ∧ w.frozen? ⟨g, 2, none⟩ = false ∧ w.frozen? ⟨g, 3, none⟩ = false ∧ w.frozen? ⟨g, 4, none⟩ = false ∧ w.frozen? ⟨g, 5, none⟩ = false ∧ w.frozen? ⟨g, 6, none⟩ = false ∧ w.frozen? ⟨g, 7, none⟩ = false ∧ w.frozen? ⟨g, 8, none⟩ = false ∧ w.frozen? ⟨g, 9, none⟩ = false ∧ w.frozen? ⟨g, 10, none⟩ = false ∧ w.frozen? ⟨g, 11, none⟩ = false ∧ w.frozen? ⟨g, 12, none⟩ = false ∧ w.frozen? ⟨g, 13, none⟩ = false := by
 unfold FBx at h
 exact ⟨by simp [World.frozen?, h], by simp [World.frozen?, h], by simp [World.frozen?, h], by simp [World.frozen?, h], by simp [World.frozen?, h], by simp [World.frozen?, h], by simp [World.frozen?, h], by simp [World.frozen?, h], by simp [World.frozen?, h], by simp [World.frozen?, h], by simp [World.frozen?, h], by simp [World.frozen?, h], by simp [World.frozen?, h], by simp [World.frozen?, h]⟩
theorem fbx_new (w : World) (k f1 f2 t1 t2 n tk b1 b2 : Int) (a b c d e : SL) : FBx (w.alloc (.cells #[.int .u8 k, .int .i64 f1, .int .i64 f2, .int .i64 t1, .int .i64 t2, .int .i64 n, .int .i64 tk, .int .i64 b1, .int .i64 b2, .slice a.1 a.2.1 a.2.2, .slice b.1 b.2.1 b.2.2, .slice c.1 c.2.1 c.2.2, .slice d.1 d.2.1 d.2.2, .slice e.1 e.2.1 e.2.2] 48)) w.heap.size k f1 f2 t1 t2 n tk b1 b2 a b c d e := heap_alloc_new w _
theorem fbx_lt {w : World} {g : Nat} {k f1 f2 t1 t2 n tk b1 b2 : Int} {a b c d e : SL} (h : FBx w g k f1 f2 t1 t2 n tk b1 b2 a b c d e) : g < w.heap.size := row_lt h
theorem fbx_below {w w' : World} {g : Nat} {k f1 f2 t1 t2 n tk b1 b2 : Int} {a b c d e : SL} (h : FBx w g k f1 f2 t1 t2 n tk b1 b2 a b c d e) (hb : Below w.heap.size w w') : FBx w' g k f1 f2 t1 t2 n tk b1 b2 a b c d e := (hb.block _ (fbx_lt h)).trans h
theorem at39_any (x : Int) (w : World) : Calls Tryz.prog 39 #[.int .i64 x] w fun e w' => e = .returned (.agg #[.int .i64 x, .int .i64 1]) ∧ Below w.heap.size w w' := by
 have HX := Lib.hid (box_new w x 1)
 have HB := Lib.hid (below_one w (.cells #[.int .i64 x, .int .i64 1] 29))
 obtain ⟨q0, q1⟩ := box_cells (box_new w x 1)
 go_enter Tryz.func39, Tryz.ntmps39
 go_wp2_with fail
 refine bodyPost_ret (v := .agg #[.int .i64 x, .int .i64 1]) (by simp [results, Tryz.results39, go_sem, q0, q1]) rfl ?_
 exact ⟨rfl, HB.out⟩
def partV (V : Vw) : Vw := ⟨[], [], [], V.c, V.s⟩
theorem fit_part {n : Nat} {V : Vw} (h : FitVIE n V) : FitVIE n (partV V) := ⟨Nat.zero_le _, Nat.zero_le _, Nat.zero_le _, h.c, h.s, fun r hr => by cases hr⟩
theorem part_at {w : World} {a b c d e : SL} {V : Vw} (h : RV w a b c d e V) : RV w (none, 0, 0) (none, 0, 0) (none, 0, 0) d e (partV V) := ⟨Rcs.nil _, Ids.nil _, RowsAt.nil _, h.c, h.s⟩
set_option maxHeartbeats 4000000 in
theorem part_any (v : Value) (V : Vw) (w : World) (h : VAt w v V) (hV : FitVIE 1000 V) :
  Calls Tryz.prog 35 #[v] w fun e w' => ∃ X, e = .returned X ∧ VAt w' X (partV V) ∧ Below w.heap.size w w' := by
 obtain ⟨a, b, c, d, e, rfl, hr⟩ := h
 have q1 := below_one w (.cells #[.slice a.1 a.2.1 a.2.2, .slice b.1 b.2.1 b.2.2, .slice c.1 c.2.1 c.2.2, .slice d.1 d.2.1 d.2.2, .slice e.1 e.2.1 e.2.2] 27)
 have q2 := below_one (w.alloc (.cells #[.slice a.1 a.2.1 a.2.2, .slice b.1 b.2.1 b.2.2, .slice c.1 c.2.1 c.2.2, .slice d.1 d.2.1 d.2.2, .slice e.1 e.2.1 e.2.2] 27)) (.cells #[.slice none 0 0, .slice none 0 0, .slice none 0 0, .slice none 0 0, .slice none 0 0] 27)
 have Q := (below_after q1 q2 (Nat.le_refl _))
 have X1 : Hid (VBox ((w.alloc (.cells #[.slice a.1 a.2.1 a.2.2, .slice b.1 b.2.1 b.2.2, .slice c.1 c.2.1 c.2.2, .slice d.1 d.2.1 d.2.2, .slice e.1 e.2.1 e.2.2] 27)).alloc (.cells #[.slice none 0 0, .slice none 0 0, .slice none 0 0, .slice none 0 0, .slice none 0 0] 27)) (w.heap.size) a b c d e) := Lib.hid (vbox_below (vbox_new w a b c d e) q2)
 have X2 : Hid (VBox ((w.alloc (.cells #[.slice a.1 a.2.1 a.2.2, .slice b.1 b.2.1 b.2.2, .slice c.1 c.2.1 c.2.2, .slice d.1 d.2.1 d.2.2, .slice e.1 e.2.1 e.2.2] 27)).alloc (.cells #[.slice none 0 0, .slice none 0 0, .slice none 0 0, .slice none 0 0, .slice none 0 0] 27)) (w.heap.size + 1) (none, 0, 0) (none, 0, 0) (none, 0, 0) (none, 0, 0) (none, 0, 0)) := Lib.hid (by have h := (vbox_new (w.alloc (.cells #[.slice a.1 a.2.1 a.2.2, .slice b.1 b.2.1 b.2.2, .slice c.1 c.2.1 c.2.2, .slice d.1 d.2.1 d.2.2, .slice e.1 e.2.1 e.2.2] 27)) (none, 0, 0) (none, 0, 0) (none, 0, 0) (none, 0, 0) (none, 0, 0)); simp only [World.size_alloc] at h; exact h)
 have RA := Lib.hid (hr.below Q)
 have BQ := Lib.hid Q
 clear hr q1 q2 Q
 obtain ⟨p0, p1, p2, p3, p4⟩ := vbox_cells X1.out
 go_enter Tryz.func35, Tryz.ntmps35
 go_wp2_with fail
 (with_reducible refine (copyV_any _ (partV V) _ (part_at RA.out).at_ (fit_part hV)).mono ?_)
 rintro e1 w3 ⟨X, rfl, hx, hb⟩
 obtain ⟨s0, s1, s2, s3, s4, rfl, hj⟩ := hx
 have Y2 := Lib.hid (vbox_below X2.out hb)
 have YR := Lib.hid hj
 have YB := Lib.hid (below_after BQ.out hb (Nat.le_refl _))
 clear hb hj X1 X2 RA BQ p0 p1 p2 p3 p4
 obtain ⟨z0, z1, z2, z3, z4⟩ := vbox_cells Y2.out
 obtain ⟨h0, h1, h2, h3, h4⟩ := vbox_free Y2.out
 dsimp only at z0 z1 z2 z3 z4
 go_wp2_with fail
 obtain ⟨c0, c1, c2, c3, c4⟩ := vbox_cells (vbox_set Y2.out s0 s1 s2 s3 s4)
 refine bodyPost_ret (v := .agg #[.slice s0.1 s0.2.1 s0.2.2, .slice s1.1 s1.2.1 s1.2.2, .slice s2.1 s2.2.1 s2.2.2, .slice s3.1 s3.2.1 s3.2.2, .slice s4.1 s4.2.1 s4.2.2]) (by simp [results, Tryz.results35, go_sem, c0, c1, c2, c3, c4]) rfl ?_
 have hk2 := kp_set Y2.out [.slice s0.1 s0.2.1 s0.2.2, .slice s1.1 s1.2.1 s1.2.2, .slice s2.1 s2.2.1 s2.2.2, .slice s3.1 s3.2.1 s3.2.2, .slice s4.1 s4.2.1 s4.2.2]
 exact ⟨_, rfl, (YR.out.kp hk2).at_, below_setCells YB.out (by omega) 0 [.slice s0.1 s0.2.1 s0.2.2, .slice s1.1 s1.2.1 s1.2.2, .slice s2.1 s2.2.1 s2.2.2, .slice s3.1 s3.2.1 s3.2.2, .slice s4.1 s4.2.1 s4.2.2]⟩
def ansP (T U : Vw) : Int := if Clocks.cmp T.c U.c = 1 then (if sameB (Sets.setOf T.s) (Sets.setOf U.s) = true then 0 else 3) else if Clocks.cmp T.c U.c = 2 then 3 else 4
set_option maxHeartbeats 4000000 in
theorem answer_any (v u : Value) (V U : Vw) (w : World) (h : VAt w v V) (k : VAt w u U) (hV : FitVIE 1000 V) (hU : FitVIE 1000 U) :
  Calls Tryz.prog 88 #[v, u] w fun e w' => e = .returned (.int .u8 (ansP V U)) ∧ Below w.heap.size w w' := by
 obtain ⟨a, b, c, d, e, rfl, hr⟩ := h
 obtain ⟨a', b', c', d', e', rfl, kr⟩ := k
 have q1 := below_one w (.cells #[.slice a.1 a.2.1 a.2.2, .slice b.1 b.2.1 b.2.2, .slice c.1 c.2.1 c.2.2, .slice d.1 d.2.1 d.2.2, .slice e.1 e.2.1 e.2.2] 27)
 have q2 := below_one (w.alloc (.cells #[.slice a.1 a.2.1 a.2.2, .slice b.1 b.2.1 b.2.2, .slice c.1 c.2.1 c.2.2, .slice d.1 d.2.1 d.2.2, .slice e.1 e.2.1 e.2.2] 27)) (.cells #[.slice a'.1 a'.2.1 a'.2.2, .slice b'.1 b'.2.1 b'.2.2, .slice c'.1 c'.2.1 c'.2.2, .slice d'.1 d'.2.1 d'.2.2, .slice e'.1 e'.2.1 e'.2.2] 27)
 have Q := (below_after q1 q2 (Nat.le_refl _))
 have X1 : Hid (VBox ((w.alloc (.cells #[.slice a.1 a.2.1 a.2.2, .slice b.1 b.2.1 b.2.2, .slice c.1 c.2.1 c.2.2, .slice d.1 d.2.1 d.2.2, .slice e.1 e.2.1 e.2.2] 27)).alloc (.cells #[.slice a'.1 a'.2.1 a'.2.2, .slice b'.1 b'.2.1 b'.2.2, .slice c'.1 c'.2.1 c'.2.2, .slice d'.1 d'.2.1 d'.2.2, .slice e'.1 e'.2.1 e'.2.2] 27)) (w.heap.size) a b c d e) := Lib.hid (vbox_below (vbox_new w a b c d e) q2)
 have X2 : Hid (VBox ((w.alloc (.cells #[.slice a.1 a.2.1 a.2.2, .slice b.1 b.2.1 b.2.2, .slice c.1 c.2.1 c.2.2, .slice d.1 d.2.1 d.2.2, .slice e.1 e.2.1 e.2.2] 27)).alloc (.cells #[.slice a'.1 a'.2.1 a'.2.2, .slice b'.1 b'.2.1 b'.2.2, .slice c'.1 c'.2.1 c'.2.2, .slice d'.1 d'.2.1 d'.2.2, .slice e'.1 e'.2.1 e'.2.2] 27)) (w.heap.size + 1) a' b' c' d' e') := Lib.hid (by have h := (vbox_new (w.alloc (.cells #[.slice a.1 a.2.1 a.2.2, .slice b.1 b.2.1 b.2.2, .slice c.1 c.2.1 c.2.2, .slice d.1 d.2.1 d.2.2, .slice e.1 e.2.1 e.2.2] 27)) a' b' c' d' e'); simp only [World.size_alloc] at h; exact h)
 have RA := Lib.hid (hr.below Q)
 have RB := Lib.hid (kr.below Q)
 have BQ := Lib.hid Q
 clear hr kr q1 q2 Q
 obtain ⟨p0, p1, p2, p3, p4⟩ := vbox_cells X1.out
 obtain ⟨t0, t1, t2, t3, t4⟩ := vbox_cells X2.out
 go_enter Tryz.func88, Tryz.ntmps88
 go_wp2_with fail
 (with_reducible refine (compare_clocks _ _ V.c U.c _ RA.out.c RB.out.c (Nat.le_trans hV.c (by decide)) (Nat.le_trans hU.c (by decide))).mono ?_)
 rintro e1 w3 ⟨rfl, hb⟩
 have Y1 := Lib.hid (vbox_below X1.out hb)
 have Y2 := Lib.hid (vbox_below X2.out hb)
 have YA := Lib.hid (RA.out.below hb)
 have YB := Lib.hid (RB.out.below hb)
 have BR := Lib.hid (below_after BQ.out hb (Nat.le_refl _))
 clear hb p0 p1 p2 p3 p4 t0 t1 t2 t3 t4 X1 X2 RA RB BQ
 obtain ⟨p0, p1, p2, p3, p4⟩ := vbox_cells Y1.out
 obtain ⟨t0, t1, t2, t3, t4⟩ := vbox_cells Y2.out
 have hc := Clocks.cmp_range V.c U.c
 have HE : Hid (ansP V U = if Clocks.cmp V.c U.c = 1 then (if sameB (Sets.setOf V.s) (Sets.setOf U.s) = true then 0 else 3) else if Clocks.cmp V.c U.c = 2 then 3 else 4) := Lib.hid rfl
 generalize Clocks.cmp V.c U.c = m at *
 by_cases hm : m = 1
 ·subst hm
  go_wp2_with fail
  (with_reducible refine (same_any _ _ V.s U.s _ YA.out.s YB.out.s (Nat.le_trans hV.s (by decide)) (Nat.le_trans hU.s (by decide))).mono ?_)
  rintro e2 w4 ⟨rfl, hb⟩
  have BS := Lib.hid (below_after BR.out hb (Nat.le_refl _))
  clear hb
  generalize sameB (Sets.setOf V.s) (Sets.setOf U.s) = y at *
  cases y
  all_goals
   go_wp2_with fail
   go_ret
   exact ⟨by rw [HE.out]; rfl, BS.out⟩
 ·have d1 : ((m : Int) == 1) = false := by simp; omega
  by_cases hm2 : m = 2
  ·subst hm2
   go_wp2_with fail
   go_ret
   exact ⟨by rw [HE.out]; rfl, BR.out⟩
  ·have d2 : ((m : Int) == 2) = false := by simp; omega
   go_wp2_with fail
   go_ret
   exact ⟨by rw [HE.out, if_neg hm, if_neg hm2]; rfl, BR.out⟩
end Go.Proofs.YthkkipbmlafdiaaGreat
namespace Go.Proofs.YthkkipbmlafdiaaGreat
open Go Go.RowKit
def stP (V U : Vw) (p q : Int) : Vw := if Clocks.cmp V.c U.c = 1 then { V with s := Sets.join (Sets.join V.s U.s) [(p, q)] } else V
def recvP (k : Int) (V U : Vw) (p q : Int) : Vw := if k = 4 then tellP V U p q else stP V U p q
theorem join_len2 {l m : List Sets.Id2} (hl : l.length ≤ 1000) (hm : m.length ≤ 1000) : (Sets.join l m).length ≤ 40000 := by
 exact Nat.le_trans (len_join l m) (by omega)
theorem cell_aparts {w : World} {g j : Nat} {vs : List Value} {a : Addr} {u : Value} (h : w.cell? a = some u) (hne : a.block ≠ g) : (w.setCells g j vs).cell? a = some u := by
 rw [World.cell?_of_block (heap_setCells _ _ _ _ _ hne)]
 exact h
theorem cell_apart {w : World} {x a : Addr} {v u : Value} (h : w.cell? a = some u) (hne : x.block ≠ a.block) : (w.setCell x v).cell? a = some u := by
 rw [World.cell?_setCell_other _ _ _ _ (fun e => hne (congrArg Addr.block e))]
 exact h
set_option maxHeartbeats 8000000 in
theorem received_any (v : Value) (V U : Vw) (p q k f1 f2 t1 t2 n tk b1 b2 : Int) (a' b' c' d' e' : SL) (w : World) (h : VAt w v V) (kr : RV w a' b' c' d' e' U) (hV : FitVIE 400 V) (hU : FitVIE 400 U) (uV : RowSets.Up V.r) (uU : RowSets.Up U.r) :
  Calls Tryz.prog 87 #[v, .agg #[.int .i64 p, .int .i64 q], .agg #[.int .u8 k, .int .i64 f1, .int .i64 f2, .int .i64 t1, .int .i64 t2, .int .i64 n, .int .i64 tk, .int .i64 b1, .int .i64 b2, .slice a'.1 a'.2.1 a'.2.2, .slice b'.1 b'.2.1 b'.2.2, .slice c'.1 c'.2.1 c'.2.2, .slice d'.1 d'.2.1 d'.2.2, .slice e'.1 e'.2.1 e'.2.2]] w fun e w' => ∃ X, e = .returned X ∧ VAt w' X (recvP k V U p q) ∧ Below w.heap.size w w' := by
 obtain ⟨a, b, c, d, e, rfl, hr⟩ := h
 have q1 := below_one w (.cells #[.slice a.1 a.2.1 a.2.2, .slice b.1 b.2.1 b.2.2, .slice c.1 c.2.1 c.2.2, .slice d.1 d.2.1 d.2.2, .slice e.1 e.2.1 e.2.2] 27)
 have q2 := below_one (w.alloc (.cells #[.slice a.1 a.2.1 a.2.2, .slice b.1 b.2.1 b.2.2, .slice c.1 c.2.1 c.2.2, .slice d.1 d.2.1 d.2.2, .slice e.1 e.2.1 e.2.2] 27)) (.cells #[.int .i64 p, .int .i64 q] 29)
 have q3 := below_one ((w.alloc (.cells #[.slice a.1 a.2.1 a.2.2, .slice b.1 b.2.1 b.2.2, .slice c.1 c.2.1 c.2.2, .slice d.1 d.2.1 d.2.2, .slice e.1 e.2.1 e.2.2] 27)).alloc (.cells #[.int .i64 p, .int .i64 q] 29)) (.cells #[.int .u8 k, .int .i64 f1, .int .i64 f2, .int .i64 t1, .int .i64 t2, .int .i64 n, .int .i64 tk, .int .i64 b1, .int .i64 b2, .slice a'.1 a'.2.1 a'.2.2, .slice b'.1 b'.2.1 b'.2.2, .slice c'.1 c'.2.1 c'.2.2, .slice d'.1 d'.2.1 d'.2.2, .slice e'.1 e'.2.1 e'.2.2] 48)
 have q4 := below_one (((w.alloc (.cells #[.slice a.1 a.2.1 a.2.2, .slice b.1 b.2.1 b.2.2, .slice c.1 c.2.1 c.2.2, .slice d.1 d.2.1 d.2.2, .slice e.1 e.2.1 e.2.2] 27)).alloc (.cells #[.int .i64 p, .int .i64 q] 29)).alloc (.cells #[.int .u8 k, .int .i64 f1, .int .i64 f2, .int .i64 t1, .int .i64 t2, .int .i64 n, .int .i64 tk, .int .i64 b1, .int .i64 b2, .slice a'.1 a'.2.1 a'.2.2, .slice b'.1 b'.2.1 b'.2.2, .slice c'.1 c'.2.1 c'.2.2, .slice d'.1 d'.2.1 d'.2.2, .slice e'.1 e'.2.1 e'.2.2] 48)) (.cells #[.slice none 0 0, .slice none 0 0, .slice none 0 0, .slice none 0 0, .slice none 0 0] 27)
 have Q := (below_after (below_after (below_after q1 q2 (Nat.le_refl _)) q3 (Nat.le_refl _)) q4 (Nat.le_refl _))
 have X1 : Hid (VBox ((((w.alloc (.cells #[.slice a.1 a.2.1 a.2.2, .slice b.1 b.2.1 b.2.2, .slice c.1 c.2.1 c.2.2, .slice d.1 d.2.1 d.2.2, .slice e.1 e.2.1 e.2.2] 27)).alloc (.cells #[.int .i64 p, .int .i64 q] 29)).alloc (.cells #[.int .u8 k, .int .i64 f1, .int .i64 f2, .int .i64 t1, .int .i64 t2, .int .i64 n, .int .i64 tk, .int .i64 b1, .int .i64 b2, .slice a'.1 a'.2.1 a'.2.2, .slice b'.1 b'.2.1 b'.2.2, .slice c'.1 c'.2.1 c'.2.2, .slice d'.1 d'.2.1 d'.2.2, .slice e'.1 e'.2.1 e'.2.2] 48)).alloc (.cells #[.slice none 0 0, .slice none 0 0, .slice none 0 0, .slice none 0 0, .slice none 0 0] 27)) (w.heap.size) a b c d e) := Lib.hid (vbox_below (vbox_below (vbox_below (vbox_new w a b c d e) q2) q3) q4)
 have X2 : Hid (Box ((((w.alloc (.cells #[.slice a.1 a.2.1 a.2.2, .slice b.1 b.2.1 b.2.2, .slice c.1 c.2.1 c.2.2, .slice d.1 d.2.1 d.2.2, .slice e.1 e.2.1 e.2.2] 27)).alloc (.cells #[.int .i64 p, .int .i64 q] 29)).alloc (.cells #[.int .u8 k, .int .i64 f1, .int .i64 f2, .int .i64 t1, .int .i64 t2, .int .i64 n, .int .i64 tk, .int .i64 b1, .int .i64 b2, .slice a'.1 a'.2.1 a'.2.2, .slice b'.1 b'.2.1 b'.2.2, .slice c'.1 c'.2.1 c'.2.2, .slice d'.1 d'.2.1 d'.2.2, .slice e'.1 e'.2.1 e'.2.2] 48)).alloc (.cells #[.slice none 0 0, .slice none 0 0, .slice none 0 0, .slice none 0 0, .slice none 0 0] 27)) (w.heap.size + 1) p q) := Lib.hid (by have h := (box_below (box_below (box_new (w.alloc (.cells #[.slice a.1 a.2.1 a.2.2, .slice b.1 b.2.1 b.2.2, .slice c.1 c.2.1 c.2.2, .slice d.1 d.2.1 d.2.2, .slice e.1 e.2.1 e.2.2] 27)) p q) q3) q4); simp only [World.size_alloc] at h; exact h)
 have X3 : Hid (FBx ((((w.alloc (.cells #[.slice a.1 a.2.1 a.2.2, .slice b.1 b.2.1 b.2.2, .slice c.1 c.2.1 c.2.2, .slice d.1 d.2.1 d.2.2, .slice e.1 e.2.1 e.2.2] 27)).alloc (.cells #[.int .i64 p, .int .i64 q] 29)).alloc (.cells #[.int .u8 k, .int .i64 f1, .int .i64 f2, .int .i64 t1, .int .i64 t2, .int .i64 n, .int .i64 tk, .int .i64 b1, .int .i64 b2, .slice a'.1 a'.2.1 a'.2.2, .slice b'.1 b'.2.1 b'.2.2, .slice c'.1 c'.2.1 c'.2.2, .slice d'.1 d'.2.1 d'.2.2, .slice e'.1 e'.2.1 e'.2.2] 48)).alloc (.cells #[.slice none 0 0, .slice none 0 0, .slice none 0 0, .slice none 0 0, .slice none 0 0] 27)) (w.heap.size + 1 + 1) k f1 f2 t1 t2 n tk b1 b2 a' b' c' d' e') := Lib.hid (by have h := (fbx_below (fbx_new ((w.alloc (.cells #[.slice a.1 a.2.1 a.2.2, .slice b.1 b.2.1 b.2.2, .slice c.1 c.2.1 c.2.2, .slice d.1 d.2.1 d.2.2, .slice e.1 e.2.1 e.2.2] 27)).alloc (.cells #[.int .i64 p, .int .i64 q] 29)) k f1 f2 t1 t2 n tk b1 b2 a' b' c' d' e') q4); simp only [World.size_alloc] at h; exact h)
 have X4 : Hid (VBox ((((w.alloc (.cells #[.slice a.1 a.2.1 a.2.2, .slice b.1 b.2.1 b.2.2, .slice c.1 c.2.1 c.2.2, .slice d.1 d.2.1 d.2.2, .slice e.1 e.2.1 e.2.2] 27)).alloc (.cells #[.int .i64 p, .int .i64 q] 29)).alloc (.cells #[.int .u8 k, .int .i64 f1, .int .i64 f2, .int .i64 t1, .int .i64 t2, .int .i64 n, .int .i64 tk, .int .i64 b1, .int .i64 b2, .slice a'.1 a'.2.1 a'.2.2, .slice b'.1 b'.2.1 b'.2.2, .slice c'.1 c'.2.1 c'.2.2, .slice d'.1 d'.2.1 d'.2.2, .slice e'.1 e'.2.1 e'.2.2] 48)).alloc (.cells #[.slice none 0 0, .slice none 0 0, .slice none 0 0, .slice none 0 0, .slice none 0 0] 27)) (w.heap.size + 1 + 1 + 1) (none, 0, 0) (none, 0, 0) (none, 0, 0) (none, 0, 0) (none, 0, 0)) := Lib.hid (by have h := (vbox_new (((w.alloc (.cells #[.slice a.1 a.2.1 a.2.2, .slice b.1 b.2.1 b.2.2, .slice c.1 c.2.1 c.2.2, .slice d.1 d.2.1 d.2.2, .slice e.1 e.2.1 e.2.2] 27)).alloc (.cells #[.int .i64 p, .int .i64 q] 29)).alloc (.cells #[.int .u8 k, .int .i64 f1, .int .i64 f2, .int .i64 t1, .int .i64 t2, .int .i64 n, .int .i64 tk, .int .i64 b1, .int .i64 b2, .slice a'.1 a'.2.1 a'.2.2, .slice b'.1 b'.2.1 b'.2.2, .slice c'.1 c'.2.1 c'.2.2, .slice d'.1 d'.2.1 d'.2.2, .slice e'.1 e'.2.1 e'.2.2] 48)) (none, 0, 0) (none, 0, 0) (none, 0, 0) (none, 0, 0) (none, 0, 0)); simp only [World.size_alloc] at h; exact h)
 have RA := Lib.hid (hr.below Q)
 have RB := Lib.hid (kr.below Q)
 have BQ := Lib.hid Q
 have FV := Lib.hid hV
 have FU := Lib.hid hU
 have PV := Lib.hid uV
 have PU := Lib.hid uU
 clear hr kr q1 q2 q3 q4 Q hV hU uV uU
 obtain ⟨p0, p1, p2, p3, p4⟩ := vbox_cells X1.out
 obtain ⟨i0, i1⟩ := box_cells X2.out
 obtain ⟨u0, -, -, -, -, -, -, -, -, u1, u2, u3, u4, u5⟩ := fbx_cells X3.out
 by_cases hk : k = 4
 ·subst hk
  go_enter Tryz.func87, Tryz.ntmps87
  go_wp2_with fail
  (with_reducible refine (tell_any _ _ V U p q _ RA.out.at_ RB.out.at_ FV.out FU.out PV.out PU.out).mono ?_)
  rintro e1 w3 ⟨X, rfl, hx, hb⟩
  obtain ⟨s0, s1, s2, s3, s4, rfl, hj⟩ := hx
  have Y2 := Lib.hid (vbox_below X4.out hb)
  have YR := Lib.hid hj
  have YB := Lib.hid (below_after BQ.out hb (Nat.le_refl _))
  clear hb hj X1 X2 X3 X4 RA RB BQ p0 p1 p2 p3 p4 i0 i1 u0 u1 u2 u3 u4 u5
  obtain ⟨z0, z1, z2, z3, z4⟩ := vbox_cells Y2.out
  obtain ⟨h0, h1, h2, h3, h4⟩ := vbox_free Y2.out
  dsimp only at z0 z1 z2 z3 z4
  go_wp2_with fail
  obtain ⟨c0, c1, c2, c3, c4⟩ := vbox_cells (vbox_set Y2.out s0 s1 s2 s3 s4)
  refine bodyPost_ret (v := .agg #[.slice s0.1 s0.2.1 s0.2.2, .slice s1.1 s1.2.1 s1.2.2, .slice s2.1 s2.2.1 s2.2.2, .slice s3.1 s3.2.1 s3.2.2, .slice s4.1 s4.2.1 s4.2.2]) (by simp [results, Tryz.results87, go_sem, c0, c1, c2, c3, c4]) rfl ?_
  have hk2 := kp_set Y2.out [.slice s0.1 s0.2.1 s0.2.2, .slice s1.1 s1.2.1 s1.2.2, .slice s2.1 s2.2.1 s2.2.2, .slice s3.1 s3.2.1 s3.2.2, .slice s4.1 s4.2.1 s4.2.2]
  exact ⟨_, rfl, (YR.out.kp hk2).at_, below_setCells YB.out (by omega) 0 [.slice s0.1 s0.2.1 s0.2.2, .slice s1.1 s1.2.1 s1.2.2, .slice s2.1 s2.2.1 s2.2.2, .slice s3.1 s3.2.1 s3.2.2, .slice s4.1 s4.2.1 s4.2.2]⟩
 ·have d0 : (k == 4) = false := by simpa using hk
  have HE : Hid (recvP k V U p q = stP V U p q) := Lib.hid (by unfold recvP; rw [if_neg hk])
  have hs : stP V U p q = if Clocks.cmp V.c U.c = 1 then { V with s := Sets.join (Sets.join V.s U.s) [(p, q)] } else V := rfl
  have HS := Lib.hid hs
  clear hs hk
  go_enter Tryz.func87, Tryz.ntmps87
  go_wp2_with fail
  (with_reducible refine (copyV_any _ V _ RA.out.at_ (FV.out.mono (by decide))).mono ?_)
  rintro e1 w3 ⟨X, rfl, hx, hb⟩
  obtain ⟨s0, s1, s2, s3, s4, rfl, hj⟩ := hx
  have q5 := below_one w3 (.cells #[.slice s0.1 s0.2.1 s0.2.2, .slice s1.1 s1.2.1 s1.2.2, .slice s2.1 s2.2.1 s2.2.2, .slice s3.1 s3.2.1 s3.2.2, .slice s4.1 s4.2.1 s4.2.2] 27)
  have bb := below_after hb q5 (Nat.le_refl _)
  have Y1 := Lib.hid (vbox_below X1.out bb)
  have Y2 := Lib.hid (box_below X2.out bb)
  have Y3 := Lib.hid (fbx_below X3.out bb)
  have Y4 := Lib.hid (vbox_below X4.out bb)
  have Y5 := Lib.hid (vbox_new w3 s0 s1 s2 s3 s4)
  have YR := Lib.hid (hj.below q5)
  have YA := Lib.hid (RA.out.below bb)
  have YU := Lib.hid (RB.out.below bb)
  have YB := Lib.hid (below_after BQ.out bb (Nat.le_refl _))
  have LS : Hid (w.heap.size + 1 + 1 + 1 < w3.heap.size) := Lib.hid (vbox_lt (vbox_below X4.out hb))
  obtain ⟨k0, k1, k2, k3, k4⟩ := vbox_cells (vbox_new w3 (none, 0, 0) (none, 0, 0) (none, 0, 0) (none, 0, 0) (none, 0, 0))
  obtain ⟨f0, f1', f2', f3, f4⟩ := vbox_free (vbox_new w3 (none, 0, 0) (none, 0, 0) (none, 0, 0) (none, 0, 0) (none, 0, 0))
  dsimp only at k0 k1 k2 k3 k4
  clear hb hj q5 bb X1 X2 X3 X4 RA RB BQ p0 p1 p2 p3 p4 i0 i1 u0 u1 u2 u3 u4 u5
  obtain ⟨p0, p1, p2, p3, p4⟩ := vbox_cells Y1.out
  obtain ⟨u0, -, -, -, -, -, -, -, -, u1, u2, u3, u4, u5⟩ := fbx_cells Y3.out
  go_wp2_with fail
  clear k0 k1 k2 k3 k4 f0 f1' f2' f3 f4
  (with_reducible refine (compare_clocks _ _ V.c U.c _ YA.out.c YU.out.c (Nat.le_trans FV.out.c (by decide)) (Nat.le_trans FU.out.c (by decide))).mono ?_)
  rintro e1 w4 ⟨rfl, hb⟩
  have Z1 := Lib.hid (vbox_below Y1.out hb)
  have Z2 := Lib.hid (box_below Y2.out hb)
  have Z3 := Lib.hid (fbx_below Y3.out hb)
  have Z4 := Lib.hid (vbox_below Y4.out hb)
  have Z5 := Lib.hid (vbox_below Y5.out hb)
  have ZR := Lib.hid (YR.out.below hb)
  have ZA := Lib.hid (YA.out.below hb)
  have ZU := Lib.hid (YU.out.below hb)
  have ZB := Lib.hid (below_after YB.out hb (Nat.le_refl _))
  have hc := Clocks.cmp_range V.c U.c
  clear hb Y1 Y2 Y3 Y4 Y5 YR YA YU YB p0 p1 p2 p3 p4 u0 u1 u2 u3 u4 u5
  generalize Clocks.cmp V.c U.c = m at *
  by_cases hm : m = 1
  ·subst hm
   obtain ⟨p0, p1, p2, p3, p4⟩ := vbox_cells Z1.out
   obtain ⟨u0, -, -, -, -, -, -, -, -, u1, u2, u3, u4, u5⟩ := fbx_cells Z3.out
   obtain ⟨i0, i1⟩ := box_cells Z2.out
   have S0 : Hid (∀ W, Below w4.heap.size w4 W → (W.cell? ⟨w.heap.size, 4, none⟩ = some (.slice e.1 e.2.1 e.2.2) ∧ W.cell? ⟨w.heap.size + 1 + 1, 13, none⟩ = some (.slice e'.1 e'.2.1 e'.2.2) ∧ W.cell? ⟨w.heap.size + 1, 0, none⟩ = some (.int .i64 p) ∧ W.cell? ⟨w.heap.size + 1, 1, none⟩ = some (.int .i64 q))) := Lib.hid fun W hb => ⟨(hb.cell (World.block_lt_of_cell? w4 _ p4)).trans p4, (hb.cell (World.block_lt_of_cell? w4 _ u5)).trans u5, (hb.cell (World.block_lt_of_cell? w4 _ i0)).trans i0, (hb.cell (World.block_lt_of_cell? w4 _ i1)).trans i1⟩
   go_upto_region 5 with fail
   have P0 := Lib.hid (show Below w4.heap.size w4 w4.drew from (Below.refl _ _).drew)
   refine wp_region_held_drew (S := (fun W => W.cell? ⟨w.heap.size, 4, none⟩ = some (.slice e.1 e.2.1 e.2.2) ∧ W.cell? ⟨w.heap.size + 1 + 1, 13, none⟩ = some (.slice e'.1 e'.2.1 e'.2.2) ∧ W.cell? ⟨w.heap.size + 1, 0, none⟩ = some (.int .i64 p) ∧ W.cell? ⟨w.heap.size + 1, 1, none⟩ = some (.int .i64 q))) (by kernel_rfl) ?_ (fun hHeld => ?_)
   ·exact S0.out _ P0.out
   (refine tk_ (i := 0) (oi := ⟨_, _, _, _, _, _⟩) (v := ?_) rfl (Or.inl ⟨by rfl, ?_⟩) ?_; rotate_left 1; · (intro w hSw; (try dsimp only at hSw); go_simp; all_goals with_reducible rfl))
   try simp only [Act.put, si0, si1, si2]
   (refine tk_ (i := 1) (oi := ⟨_, _, _, _, _, _⟩) (v := ?_) rfl (Or.inl ⟨by rfl, ?_⟩) ?_; rotate_left 1; · (intro w hSw; (try dsimp only at hSw); go_simp; all_goals with_reducible rfl))
   try simp only [Act.put, si0, si1, si2]
   (refine tk_ (i := 2) (oi := ⟨_, _, _, _, _, _⟩) (v := ?_) rfl (Or.inl ⟨by rfl, ?_⟩) ?_; rotate_left 1; · (intro w hSw; (try dsimp only at hSw); go_simp; all_goals with_reducible rfl))
   try simp only [Act.put, si0, si1, si2]
   (refine tk_ (i := 3) (oi := ⟨_, _, _, _, _, _⟩) (v := ?_) rfl (Or.inl ⟨by rfl, ?_⟩) ?_; rotate_left 1; · (intro w hSw; (try dsimp only at hSw); go_simp; all_goals with_reducible rfl))
   try simp only [Act.put, si0, si1, si2]
   (refine tk_ (i := 4) (oi := ⟨_, _, _, _, _, _⟩) (v := ?_) rfl (Or.inl ⟨by rfl, ?_⟩) ?_; rotate_left 1; · (intro w hSw; (try dsimp only at hSw); go_simp; all_goals with_reducible rfl))
   try simp only [Act.put, si0, si1, si2]
   (refine tk_ (i := 6) (oi := ⟨_, _, _, _, _, _⟩) (v := ?_) rfl (Or.inl ⟨by rfl, ?_⟩) ?_; rotate_left 1; · (intro w hSw; (try dsimp only at hSw); go_simp; all_goals with_reducible rfl))
   try simp only [Act.put, si0, si1, si2]
   refine wpAnyH_ready (rs := [5]) (by kernel_rfl) (by simp) ?_
   refine AllReadyH.cons (o := ⟨_, _, _, _, _, _⟩) rfl (fun Kq hKq => ?_) AllReadyH.nil
   go_simp
   clear hHeld
   (with_reducible refine (join_any _ _ V.s U.s _ (ZA.out.s.below P0.out) (ZU.out.s.below P0.out) (Nat.le_trans FV.out.s (by decide)) (Nat.le_trans FU.out.s (by decide))).mono ?_); rintro e2 x1 ⟨X, rfl, hx, hb⟩; obtain ⟨⟨A1, n1, j1⟩, rfl⟩ := sl_ids hx; dsimp only at hx ⊢; have P1 := Lib.hid (below_after P0.out hb (Nat.le_refl _)); have J1 := Lib.hid hx; clear hx hb
   refine hKq.out _ _ ?_ (fun hHeld => ?_)
   ·(try dsimp only); exact S0.out _ P1.out
   clear hKq Kq
   try simp only [Act.put, si0, si1, si2]
   refine wpAnyH_ready (rs := [7]) (by kernel_rfl) (by simp) ?_
   refine AllReadyH.cons (o := ⟨_, _, _, _, _, _⟩) rfl (fun Kq hKq => ?_) AllReadyH.nil
   go_simp
   clear hHeld
   (with_reducible refine (putI_any _ (Sets.join V.s U.s) p q _ J1.out (join_len2 (Nat.le_trans FV.out.s (by decide)) (Nat.le_trans FU.out.s (by decide)))).mono ?_); rintro e2 x2 ⟨X, rfl, hx, hb⟩; obtain ⟨⟨A2, n2, j2⟩, rfl⟩ := sl_ids hx; dsimp only at hx ⊢; have P2 := Lib.hid (below_after P1.out hb (Nat.le_refl _)); have J2 := Lib.hid hx; clear hx hb
   refine hKq.out _ _ ?_ (fun hHeld => ?_)
   ·(try dsimp only); exact S0.out _ P2.out
   clear hKq Kq
   try simp only [Act.put, si0, si1, si2]
   (refine tk_ (i := 8) (oi := ⟨_, _, _, _, _, _⟩) (v := ?_) rfl (Or.inl ⟨by rfl, ?_⟩) ?_; rotate_left 1; · (intro w hSw; (try dsimp only at hSw); go_simp; all_goals with_reducible rfl))
   try simp only [Act.put, si0, si1, si2]
   refine wpAnyH_ready (rs := [9]) (by kernel_rfl) (by simp) ?_
   refine AllReadyH.cons (o := ⟨_, _, _, _, _, _⟩) rfl (fun Kq hKq => ?_) AllReadyH.nil
   have K5 := Lib.hid (vbox_below Z5.out P2.out)
   obtain ⟨r0, r1, r2, r3, r4⟩ := vbox_cells K5.out
   obtain ⟨g0, g1, g2, g3, g4⟩ := vbox_free K5.out
   go_simp
   clear hHeld
   skip
   refine hKq.out _ _ ?_ (fun hHeld => ?_)
   ·(try dsimp only); obtain ⟨y1, y2, y3, y4⟩ := S0.out _ P2.out; exact ⟨cell_apart y1 (by have := LS.out; dsimp only; omega), cell_apart y2 (by have := LS.out; dsimp only; omega), cell_apart y3 (by have := LS.out; dsimp only; omega), cell_apart y4 (by have := LS.out; dsimp only; omega)⟩
   clear hKq Kq
   try simp only [Act.put, si0, si1, si2]
   refine wpAnyH_done (by kernel_rfl) ?_ _
   have K4 := Lib.hid (vbox_below Z4.out P2.out)
   have KR := Lib.hid (ZR.out.below P2.out)
   have KB := Lib.hid (below_after ZB.out P2.out (Nat.le_refl _))
   have hk := kp_cell (k := 4) K5.out A2 n2 j2
   have V4 := Lib.hid (vbox_apart K4.out (x := w3.heap.size) (by have := LS.out; omega) 4 (.slice A2 n2 j2))
   have V7 := Lib.hid (vbox_seen K5.out A2 n2 j2)
   have VR := Lib.hid (KR.out.kp hk)
   have VS := Lib.hid (Ids.kp J2.out hk)
   have VB := Lib.hid (below_two_set KB.out (show w.heap.size ≤ w3.heap.size by have := LS.out; omega) 4 (.slice A2 n2 j2))
   clear hk hHeld r0 r1 r2 r3 r4 g0 g1 g2 g3 g4 p0 p1 p2 p3 p4 u0 u1 u2 u3 u4 u5 i0 i1
   obtain ⟨t0, t1', t2', t3, t4⟩ := vbox_cells V7.out
   obtain ⟨z0, z1, z2, z3, z4⟩ := vbox_cells V4.out
   obtain ⟨h0, h1, h2, h3, h4⟩ := vbox_free V4.out
   dsimp only at t4 z0 z1 z2 z3 z4
   go_wp2_with fail
   obtain ⟨c0, c1, c2, c3, c4⟩ := vbox_cells (vbox_set V4.out s0 s1 s2 s3 (A2, n2, j2))
   dsimp only at c4
   refine bodyPost_ret (v := .agg #[.slice s0.1 s0.2.1 s0.2.2, .slice s1.1 s1.2.1 s1.2.2, .slice s2.1 s2.2.1 s2.2.2, .slice s3.1 s3.2.1 s3.2.2, .slice A2 n2 j2]) (by simp [results, Tryz.results87, go_sem, c0, c1, c2, c3, c4]) rfl ?_
   have hk2 := kp_set V4.out [.slice s0.1 s0.2.1 s0.2.2, .slice s1.1 s1.2.1 s1.2.2, .slice s2.1 s2.2.1 s2.2.2, .slice s3.1 s3.2.1 s3.2.2, .slice A2 n2 j2]
   exact ⟨_, rfl, by rw [HE.out, HS.out, if_pos trivial]; exact vAt_of (Ms.kp VR.out.m hk2) (Ids.kp VR.out.f hk2) (VR.out.r.kp hk2) (ticks_kp VR.out.c hk2) (Ids.kp VS.out hk2), below_setCells VB.out (by omega) 0 [.slice s0.1 s0.2.1 s0.2.2, .slice s1.1 s1.2.1 s1.2.2, .slice s2.1 s2.2.1 s2.2.2, .slice s3.1 s3.2.1 s3.2.2, .slice A2 n2 j2]⟩
  ·have d1 : ((m : Int) == 1) = false := by simp; omega
   obtain ⟨t0', t1', t2', t3, t4⟩ := vbox_cells Z5.out
   obtain ⟨z0, z1, z2, z3, z4⟩ := vbox_cells Z4.out
   obtain ⟨h0, h1, h2, h3, h4⟩ := vbox_free Z4.out
   dsimp only at z0 z1 z2 z3 z4
   go_wp2_with fail
   obtain ⟨c0, c1, c2, c3, c4⟩ := vbox_cells (vbox_set Z4.out s0 s1 s2 s3 s4)
   refine bodyPost_ret (v := .agg #[.slice s0.1 s0.2.1 s0.2.2, .slice s1.1 s1.2.1 s1.2.2, .slice s2.1 s2.2.1 s2.2.2, .slice s3.1 s3.2.1 s3.2.2, .slice s4.1 s4.2.1 s4.2.2]) (by simp [results, Tryz.results87, go_sem, c0, c1, c2, c3, c4]) rfl ?_
   have hk2 := kp_set Z4.out [.slice s0.1 s0.2.1 s0.2.2, .slice s1.1 s1.2.1 s1.2.2, .slice s2.1 s2.2.1 s2.2.2, .slice s3.1 s3.2.1 s3.2.2, .slice s4.1 s4.2.1 s4.2.2]
   exact ⟨_, rfl, by rw [HE.out, HS.out, if_neg hm]; exact (ZR.out.kp hk2).at_, below_setCells ZB.out (by omega) 0 [.slice s0.1 s0.2.1 s0.2.2, .slice s1.1 s1.2.1 s1.2.2, .slice s2.1 s2.2.1 s2.2.2, .slice s3.1 s3.2.1 s3.2.2, .slice s4.1 s4.2.1 s4.2.2]⟩
end Go.Proofs.YthkkipbmlafdiaaGreat
