/-
  Carried over and put together: contracts of this program's functions, and plain facts. No statement is proved in this text.
-/
import Derived.Test.YtkeiekljedhllaaGreatF28
set_option maxRecDepth 20000
namespace Go.Proofs.YtkeiekljedhllaaGreat
open Go Go.RowKit
set_option maxHeartbeats 8000000 in
theorem r10 {a : Act} {w : World} {gv ga gi g i : Nat} {Q : Exit → Act → World → Prop} (h : Fz a gv ga gi g i)
    (hQ : ∀ a', Fz a' gv ga gi g i → Sl a' 82 (.bool (decide ((i : Int) < 13))) → Q .normal a' w) : Code.wp Tryz.prog (reg 10) Q a w := by
  obtain ⟨f, hf, rfl, h0, h1, h2, h3, h4, h79, h80, h81⟩ := h.spell
  have HQ := Lib.hid hQ
  clear hQ h hf
  conv => arg 2; whnf
  simp only [h0, h1, h2, h3, h4, h79, h80, h81]
  go_wp2_with fail
  exact HQ.out _ ⟨rfl, rfl, rfl, rfl, rfl, rfl, rfl, rfl, rfl, rfl⟩ rfl
set_option maxHeartbeats 8000000 in
theorem r38 {a : Act} {w : World} {gv ga gi g i : Nat} {Q : Exit → Act → World → Prop} (h : Fz a gv ga gi g i) (hi : i < 13)
    (hQ : ∀ a', Fz a' gv ga gi g (i + 1) → Q .normal a' w) : Code.wp Tryz.prog (reg 38) Q a w := by
  obtain ⟨f, hf, rfl, h0, h1, h2, h3, h4, h79, h80, h81⟩ := h.spell
  have HQ := Lib.hid hQ
  have hw : IntKind.i64.wrap ((i : Int) + 1) = ((i + 1 : Nat) : Int) := IntWalk.i64_in _ ⟨by omega, by omega⟩
  clear hQ h hf
  conv => arg 2; whnf
  simp only [h0, h1, h2, h3, h4, h79, h80, h81]
  go_wp2_with fail
  exact HQ.out _ ⟨rfl, rfl, rfl, rfl, rfl, rfl, rfl, rfl, rfl, rfl⟩
theorem shape_in : ifs 32 = .seq (reg 32) (.block 2 (.loop (.seq (ifs 33) (.seq (.block 3 (.seq (reg 35) (ifs 36))) (reg 34))))) := by kernel_rfl
theorem shape_round : ifs 11 = .seq (reg 11) (.seq (reg 12) (.seq (ifs 13) (.seq (ifs 15) (.seq (ifs 17) (.seq (ifs 19) (.seq (reg 21) (.seq (reg 22) (.seq (reg 23) (.seq (reg 24) (.seq (reg 25) (.seq (reg 26) (.seq (reg 27) (.seq (reg 28) (.seq (reg 29) (.seq (reg 30) (.seq (reg 31) (ifs 32))))))))))))))))) := by kernel_rfl
theorem shape_out : ifs 10 = .seq (reg 10) (.seq (.cond (.tmp 82) .skip (.exit 0)) (.seq (.block 1 (ifs 11)) (reg 38))) := by kernel_rfl
/-- What a piece of code leaves where it panics does not hang on its frame. -/
def Pan (Q : Exit → Act → World → Prop) : Prop := ∀ x (a : Act) (w : World) d v, Q (.panic x) (a.put d v) w → Q (.panic x) a w
/-- What is known of a round's frames. -/
def Good (w : World) (l : List Gl) : Prop := ∀ y ∈ l, RV w y.a y.b y.c y.d y.e y.F.v ∧ FitVIE 5000 y.F.v ∧ mayF y.F = y.is ∧ decide (encE y.F = 0) = y.is
theorem Good.below {w w' : World} {l : List Gl} (h : Good w l) (hb : Below w.heap.size w w') : Good w' l := fun y hy => ⟨(h y hy).1.below hb, (h y hy).2⟩
theorem loop2 {a : Act} {w : World} {gv ga gi g i Z : Nat} {Q : Exit → Act → World → Prop} (h : Fz a gv ga gi g i) (h8 : Sl a 8 (.slice (some ⟨Z, 0, none⟩) 11 11)) (l : List Gl) (hl : l.length = 11) (hz : ZBox w Z l) (hg : Good w l) (hP : Pan Q)
    (hQ : ∀ a' w', Fz a' gv ga gi g i → Below w.heap.size w w' → Q .normal a' w') : Code.wp Tryz.prog (ifs 32) Q a w := by
  rw [shape_in]
  refine wp_seq (r32 h h8 fun a1 h1 s8 s9 => ?_)
  refine wp_block (wp_loop (fun a' w' => ∃ j, j ≤ 11 ∧ Fz a' gv ga gi g i ∧ Sl a' 8 (.slice (some ⟨Z, 0, none⟩) 11 11) ∧ Sl a' 9 (.int .i64 (j : Nat)) ∧ Below w.heap.size w w') (fun a' _ => 11 - (intOf (a'.tmps.getD 9 undef)).toNat) ⟨0, by omega, h1, s8, s9, Below.refl _ _⟩ ?_)
  rintro a2 w2 ⟨j, hj, h2, t8, t9, b2⟩
  have hm : 11 - (intOf (a2.tmps.getD 9 undef)).toNat = 11 - j := by rw [show a2.tmps.getD 9 undef = _ from t9]; simp [intOf]
  have z2 := zbox_below hz b2
  have g2 := hg.below b2
  refine wp_seq (r33 h2 t8 t9 (fun hlt a3 h3 u8 u9 => ?_) (fun hge a3 h3 u8 u9 => ?_))
  · have hjl : j < l.length := by omega
    have hy : l[j]? = some l[j] := List.getElem?_eq_getElem hjl
    have hgy := g2 l[j] (List.getElem_mem hjl)
    generalize l[j] = y at *
    refine wp_seq (wp_block (wp_seq (r35 h3 u8 u9 hlt l z2 hy hgy.1 hgy.2.1 fun a4 w4 h4 v8 v9 v11 b4 => ?_)))
    refine r36 h4 v8 v9 hlt l (zbox_below z2 b4) hy v11 (hgy.1.below b4) hgy.2.1 hgy.2.2.1 hgy.2.2.2 (fun x a w d v k => hP x a w d v k) fun a5 w5 h5 x8 x9 b5 => ?_
    refine r34 h5 x8 x9 hlt fun a6 h6 y8 y9 => ?_
    refine ⟨⟨j + 1, by omega, h6, y8, y9, below_after b2 (below_after b4 b5 (Nat.le_refl _)) (Nat.le_refl _)⟩, ?_⟩
    show 11 - (intOf (a6.tmps.getD 9 undef)).toNat < 11 - (intOf (a2.tmps.getD 9 undef)).toNat
    rw [hm, show a6.tmps.getD 9 undef = _ from y9]
    simp only [intOf, Int.toNat_natCast]
    omega
  · exact hQ a3 w2 h3 b2
/-- A round's frames, with what is put into each of them. -/
def kG (x : Kd) (a b c d e a' b' c' d' e' t : SL) : List Gl := [g0 (kF x) true, g0 {kF x with n := 1099511627776} x.n, g0 {kF x with q := 9} x.q, g0 {kF x with f := (12, 1)} x.f, g0 {kF x with t := (12, 1)} x.t, g0 {kF x with b := (12, 1)} x.b, ⟨{kF x with v := vV}, a, b, c, d, e, decide (0 < x.v)⟩, ⟨{kF x with v := vA}, a', b', c', d', e', decide (1 < x.v)⟩, g0 {kF x with n := 1099511627777} false, g0 {kF x with q := -1} false, ⟨{kF x with v := vS}, N0, N0, N0, N0, t, false⟩]
theorem fitV : FitVIE 5000 vV := ⟨by decide, by decide, by decide, by decide, by decide, fun r hr => by cases hr⟩
theorem fitA : FitVIE 5000 vA := ⟨by decide, by decide, by decide, by decide, by decide, by decide⟩
theorem fitS : FitVIE 5000 vS := ⟨by decide, by decide, by decide, by decide, by decide, fun r hr => by cases hr⟩
theorem good_kG {w : World} {x : Kd} (hx : ∀ p ∈ kW x, mayF p.1 = p.2 ∧ (decide (encE p.1 = 0)) = p.2) {a b c d e a' b' c' d' e' t : SL} (hV : RV w a b c d e vV) (hA : RV w a' b' c' d' e' vA) (hS : RV w N0 N0 N0 N0 t vS) : Good w (kG x a b c d e a' b' c' d' e' t) := by
  intro y hy
  have hp : (y.F, y.is) ∈ kW x := by
    have := List.mem_map_of_mem (f := fun y : Gl => (y.F, y.is)) hy
    exact this
  have hk := hx _ hp
  suffices hr : RV w y.a y.b y.c y.d y.e y.F.v ∧ FitVIE 5000 y.F.v from ⟨hr.1, hr.2, hk.1, hk.2⟩
  unfold kG at hy
  rcases List.mem_cons.1 hy with rfl | hy
  · exact ⟨nilRV w, fitNo⟩
  rcases List.mem_cons.1 hy with rfl | hy
  · exact ⟨nilRV w, fitNo⟩
  rcases List.mem_cons.1 hy with rfl | hy
  · exact ⟨nilRV w, fitNo⟩
  rcases List.mem_cons.1 hy with rfl | hy
  · exact ⟨nilRV w, fitNo⟩
  rcases List.mem_cons.1 hy with rfl | hy
  · exact ⟨nilRV w, fitNo⟩
  rcases List.mem_cons.1 hy with rfl | hy
  · exact ⟨nilRV w, fitNo⟩
  rcases List.mem_cons.1 hy with rfl | hy
  · exact ⟨hV, fitV⟩
  rcases List.mem_cons.1 hy with rfl | hy
  · exact ⟨hA, fitA⟩
  rcases List.mem_cons.1 hy with rfl | hy
  · exact ⟨nilRV w, fitNo⟩
  rcases List.mem_cons.1 hy with rfl | hy
  · exact ⟨nilRV w, fitNo⟩
  rcases List.mem_cons.1 hy with rfl | hy
  · exact ⟨hS, fitS⟩
  · cases hy
/-- What stands ahead of the loop over the kinds. -/
structure Olds (w : World) (gv ga gi g : Nat) (a b c d e a' b' c' d' e' : SL) : Prop where
  D : Box w gi 4 1
  E : Box w (gi + 1) 5 0
  V : VBox w gv a b c d e
  A : VBox w ga a' b' c' d' e'
  R : RV w a b c d e vV
  T : RV w a' b' c' d' e' vA
  K : Rcs encKd 20 w (.slice (some ⟨g, 0, none⟩) 13 13) kds
theorem Olds.below {w w' : World} {gv ga gi g : Nat} {a b c d e a' b' c' d' e' : SL} (h : Olds w gv ga gi g a b c d e a' b' c' d' e') (hb : Below w.heap.size w w') : Olds w' gv ga gi g a b c d e a' b' c' d' e' :=
  ⟨box_below h.D hb, box_below h.E hb, vbox_below h.V hb, vbox_below h.A hb, h.R.below hb, h.T.below hb, h.K.below hb⟩
theorem Olds.kind {w : World} {gv ga gi g : Nat} {a b c d e a' b' c' d' e' : SL} (h : Olds w gv ga gi g a b c d e a' b' c' d' e') {i : Nat} (hk : i < kds.length) : w.rangeAt g (i * 20) (encKd kds[i]) := fun j v hv => by
  obtain ⟨A, c, hv', _, _, hc⟩ := h.K
  obtain ⟨ad, e1, _, e3⟩ := hc i hk
  injection hv' with e4
  rw [e1] at e4
  injection e4 with e4
  have := e3 j v hv
  rw [← e4, Addr.add_mid, Nat.zero_add] at this
  exact this
set_option maxHeartbeats 8000000 in
theorem round_kd {w0 w : World} {A0 : Act} {gv ga gi g i : Nat} {a b c d e a' b' c' d' e' : SL} {Q : Exit → Act → World → Prop} (O : Olds w0 gv ga gi g a b c d e a' b' c' d' e') (hB : Below w0.heap.size w0 w) (h : Fz A0 gv ga gi g i) (hi : i < 13) (hP : Pan Q)
    (hQ : ∀ a' w', Fz a' gv ga gi g i → Below w0.heap.size w0 w' → Q .normal a' w') : Code.wp Tryz.prog (ifs 11) Q A0 w := by
  have hk : i < kds.length := hi
  obtain ⟨o1, o2, o3⟩ := kd_ok hk
  have hx := (O.below hB).kind hk
  generalize kds[i] = x at *
  rw [shape_round]
  refine wp_seq (r11 h x hx hi fun a1 w1 X h1 s6 hX lX b1 => ?_)
  have B1 := below_after hB b1 (Nat.le_refl _)
  refine wp_seq (r12 h1 s6 x hX fun a2 w2 Y h2 t6 t7 hY lY b2 => ?_)
  have B2 := below_after B1 b2 (Nat.le_refl _)
  have hXY : X ≠ Y := fun e => by have : X < w1.heap.size := row_lt hX; omega
  have hY0 : w0.heap.size ≤ Y := Nat.le_trans B1.size lY
  refine wp_seq (r13 h2 t6 t7 x (xbox_below hX b2) _ hY (O.below B2).D hXY fun a3 w3 h3 u6 u7 hX3 hY3 k3 => ?_)
  have B3 := below_gone2 B2 hY0 k3
  refine wp_seq (r15 h3 u6 u7 x hX3 _ hY3 (O.below B3).E hXY fun a4 w4 h4 v6 v7 hX4 hY4 k4 => ?_)
  have B4 := below_gone2 B3 hY0 k4
  refine wp_seq (r17 h4 v6 v7 x hX4 _ hY4 (O.below B4).D hXY fun a5 w5 h5 x6 x7 hX5 hY5 k5 => ?_)
  have B5 := below_gone2 B4 hY0 k5
  have hF : (if x.b = true then { (if x.t = true then { (if x.f = true then { kO x with f := (4, 1) } else kO x) with t := (5, 0) } else (if x.f = true then { kO x with f := (4, 1) } else kO x)) with b := (4, 1) } else (if x.t = true then { (if x.f = true then { kO x with f := (4, 1) } else kO x) with t := (5, 0) } else (if x.f = true then { kO x with f := (4, 1) } else kO x))) = kF x := by
    unfold kF kO
    cases x.f <;> cases x.t <;> cases x.b <;> rfl
  rw [hF] at hY5
  refine wp_seq (r19 h5 x6 x7 (kF x) rfl hY5 o1 o2 fun a6 w6 h6 y6 y7 b6 => ?_)
  have B6 := below_after B5 b6 (Nat.le_refl _)
  refine wp_seq (r21 h6 y6 y7 x (xbox_below hX5 b6) (kF x) (ybox_below hY5 b6) fun a7 w7 Z h7 z8 hZ lZ b7 => ?_)
  have B7 := below_after B6 b7 (Nat.le_refl _)
  have hZ0 : w0.heap.size ≤ Z := Nat.le_trans B6.size lZ
  refine wp_seq (r22 h7 z8 _ hZ (y := g0 (kF x) x.n) rfl fun a8 w8 h8 p8 q8 k8 => ?_)
  have B8 := below_gone2 B7 hZ0 k8
  refine wp_seq (r23 h8 p8 _ q8 (y := g0 (kF x) x.q) rfl fun a9 w9 h9 p9 q9 k9 => ?_)
  have B9 := below_gone2 B8 hZ0 k9
  refine wp_seq (r24 h9 p9 _ q9 (y := g0 (kF x) x.f) rfl fun a10 w10 h10 p10 q10 k10 => ?_)
  have B10 := below_gone2 B9 hZ0 k10
  refine wp_seq (r25 h10 p10 _ q10 (y := g0 (kF x) x.t) rfl fun a11 w11 h11 p11 q11 k11 => ?_)
  have B11 := below_gone2 B10 hZ0 k11
  refine wp_seq (r26 h11 p11 _ q11 (y := g0 (kF x) x.b) rfl fun a12 w12 h12 p12 q12 k12 => ?_)
  have B12 := below_gone2 B11 hZ0 k12
  refine wp_seq (r27 h12 p12 _ q12 (y := g0 (kF x) (decide (0 < x.v))) rfl vV (O.below B12).V fun a13 w13 h13 p13 q13 k13 => ?_)
  have B13 := below_gone2 B12 hZ0 k13
  refine wp_seq (r28 h13 p13 _ q13 (y := g0 (kF x) (decide (1 < x.v))) rfl vA (O.below B13).A fun a14 w14 h14 p14 q14 k14 => ?_)
  have B14 := below_gone2 B13 hZ0 k14
  refine wp_seq (r29 h14 p14 _ q14 (y := g0 (kF x) false) rfl fun a15 w15 h15 p15 q15 k15 => ?_)
  have B15 := below_gone2 B14 hZ0 k15
  refine wp_seq (r30 h15 p15 _ q15 (y := g0 (kF x) false) rfl fun a16 w16 h16 p16 q16 k16 => ?_)
  have B16 := below_gone2 B15 hZ0 k16
  refine wp_seq (r31 h16 p16 _ q16 (y := g0 (kF x) false) rfl fun a17 w17 s h17 p17 q17 i17 k17 => ?_)
  have B17 := below_gone2 B16 hZ0 k17
  have q18 : ZBox w17 Z (kG x a b c d e a' b' c' d' e' (some ⟨s, 0, none⟩, 2, 2)) := q17
  have n17 := nilRV w17
  refine loop2 h17 p17 _ rfl q18 (good_kG o3 (O.below B17).R (O.below B17).T ⟨n17.m, n17.f, n17.r, n17.c, i17⟩) hP fun a18 w18 h18 b18 => ?_
  exact hQ a18 w18 h18 (below_after B17 b18 (Nat.le_refl _))
theorem loop_kd {w0 : World} {A0 : Act} {gv ga gi g : Nat} {a b c d e a' b' c' d' e' : SL} {Q : Exit → Act → World → Prop} (O : Olds w0 gv ga gi g a b c d e a' b' c' d' e') (h : Fz A0 gv ga gi g 0) (hP : Pan Q)
    (hQ : ∀ a' w', Fz a' gv ga gi g 13 → Below w0.heap.size w0 w' → Q (.exit 0) a' w') : Code.wp Tryz.prog (.loop (ifs 10)) Q A0 w0 := by
  refine (wp_loop (fun a' w' => ∃ i, i ≤ 13 ∧ Fz a' gv ga gi g i ∧ Below w0.heap.size w0 w') (fun a' _ => 13 - (intOf (a'.tmps.getD 81 undef)).toNat) ⟨0, by omega, h, Below.refl _ _⟩ ?_)
  rintro a2 w2 ⟨i, hi, h2, b2⟩
  have hm : 13 - (intOf (a2.tmps.getD 81 undef)).toNat = 13 - i := by rw [h2.s81]; simp [intOf]
  rw [shape_out]
  refine wp_seq (r10 h2 fun a3 h3 s82 => ?_)
  by_cases hlt : i < 13
  · refine wp_seq (wp_cond_true (by show a3.tmps.getD 82 undef = _; rw [show a3.tmps.getD 82 undef = _ from s82, decide_eq_true (by omega)]) (wp_skip ?_))
    refine wp_seq (wp_block (round_kd O b2 h3 hlt (fun x a w d v k => hP x a w d v k) fun a4 w4 h4 b4 => ?_))
    refine r38 h4 hlt fun a5 h5 => ?_
    refine ⟨⟨i + 1, by omega, h5, b4⟩, ?_⟩
    show 13 - (intOf (a5.tmps.getD 81 undef)).toNat < 13 - (intOf (a2.tmps.getD 81 undef)).toNat
    rw [hm, h5.s81]
    simp only [intOf, Int.toNat_natCast]
    omega
  · obtain rfl : i = 13 := by omega
    refine wp_seq (wp_cond_false (by show a3.tmps.getD 82 undef = _; rw [show a3.tmps.getD 82 undef = _ from s82, decide_eq_false (by omega)]) (wp_exit ?_))
    exact hQ a3 w2 h3 b2
end Go.Proofs.YtkeiekljedhllaaGreat
namespace Go.Proofs.YtkeiekljedhllaaGreat
open Go Go.RowKit
/-- The slots that stand while frames that may not be are gone through. -/
structure Fn (a : Act) (g i : Nat) : Prop where
  size : a.tmps.size = 276
  no : a.defers = []
  s266 : a.tmps.getD 266 undef = .slice (some ⟨g, 0, none⟩) 7 7
  s267 : a.tmps.getD 267 undef = .int .i64 7
  s268 : a.tmps.getD 268 undef = .int .i64 i
theorem Fn.spell {a : Act} {g i : Nat} (h : Fn a g i) : ∃ f : Nat → Value, (∀ j, a.tmps.getD j undef = f j) ∧ a = ⟨List.toArray [f 0, f 1, f 2, f 3, f 4, f 5, f 6, f 7, f 8, f 9, f 10, f 11, f 12, f 13, f 14, f 15, f 16, f 17, f 18, f 19, f 20, f 21, f 22, f 23, f 24, f 25, f 26, f 27, f 28, f 29, f 30, f 31, f 32, f 33, f 34, f 35, f 36, f 37, f 38, f 39, f 40, f 41, f 42, f 43, f 44, f 45, f 46, f 47, f 48, f 49, f 50, f 51, f 52, f 53, f 54, f 55, f 56, f 57, f 58, f 59, f 60, f 61, f 62, f 63, f 64, f 65, f 66, f 67, f 68, f 69, f 70, f 71, f 72, f 73, f 74, f 75, f 76, f 77, f 78, f 79, f 80, f 81, f 82, f 83, f 84, f 85, f 86, f 87, f 88, f 89, f 90, f 91, f 92, f 93, f 94, f 95, f 96, f 97, f 98, f 99, f 100, f 101, f 102, f 103, f 104, f 105, f 106, f 107, f 108, f 109, f 110, f 111, f 112, f 113, f 114, f 115, f 116, f 117, f 118, f 119, f 120, f 121, f 122, f 123, f 124, f 125, f 126, f 127, f 128, f 129, f 130, f 131, f 132, f 133, f 134, f 135, f 136, f 137, f 138, f 139, f 140, f 141, f 142, f 143, f 144, f 145, f 146, f 147, f 148, f 149, f 150, f 151, f 152, f 153, f 154, f 155, f 156, f 157, f 158, f 159, f 160, f 161, f 162, f 163, f 164, f 165, f 166, f 167, f 168, f 169, f 170, f 171, f 172, f 173, f 174, f 175, f 176, f 177, f 178, f 179, f 180, f 181, f 182, f 183, f 184, f 185, f 186, f 187, f 188, f 189, f 190, f 191, f 192, f 193, f 194, f 195, f 196, f 197, f 198, f 199, f 200, f 201, f 202, f 203, f 204, f 205, f 206, f 207, f 208, f 209, f 210, f 211, f 212, f 213, f 214, f 215, f 216, f 217, f 218, f 219, f 220, f 221, f 222, f 223, f 224, f 225, f 226, f 227, f 228, f 229, f 230, f 231, f 232, f 233, f 234, f 235, f 236, f 237, f 238, f 239, f 240, f 241, f 242, f 243, f 244, f 245, f 246, f 247, f 248, f 249, f 250, f 251, f 252, f 253, f 254, f 255, f 256, f 257, f 258, f 259, f 260, f 261, f 262, f 263, f 264, f 265, f 266, f 267, f 268, f 269, f 270, f 271, f 272, f 273, f 274, f 275], []⟩ ∧ f 266 = .slice (some ⟨g, 0, none⟩) 7 7 ∧ f 267 = .int .i64 7 ∧ f 268 = .int .i64 i :=
  ⟨fun j => a.tmps.getD j undef, fun _ => rfl, spread a h.size h.no, h.s266, h.s267, h.s268⟩
def encY (F : Fr) : List Value := [.int .u8 F.k, .int .i64 F.f.1, .int .i64 F.f.2, .int .i64 F.t.1, .int .i64 F.t.2, .int .i64 F.n, .int .i64 F.q, .int .i64 F.b.1, .int .i64 F.b.2, .slice none 0 0, .slice none 0 0, .slice none 0 0, .slice none 0 0, .slice none 0 0]
theorem encY_len (F : Fr) : (encY F).length = 14 := rfl
set_option maxHeartbeats 8000000 in
theorem r39 {a : Act} {w : World} {gv ga gi g i : Nat} {Q : Exit → Act → World → Prop} (h : Fz a gv ga gi g i) (hD : Box w gi 4 1) (hE : Box w (gi + 1) 5 0)
    (hQ : ∀ a' w' k, Fn a' k 0 → Rcs encY 14 w' (.slice (some ⟨k, 0, none⟩) 7 7) kN → Below w.heap.size w w' → Q .normal a' w') : Code.wp Tryz.prog (reg 39) Q a w := by
  obtain ⟨f, hf, rfl, h0, h1, h2, h3, h4, h79, h80, h81⟩ := h.spell
  have HQ := Lib.hid hQ
  obtain ⟨d0, d1⟩ := box_cells hD
  obtain ⟨e0, e1⟩ := box_cells hE
  have K := Lib.hid (show Rcs encY 14 (w.alloc (.cells #[.int .u8 0, .int .i64 0, .int .i64 0, .int .i64 0, .int .i64 0, .int .i64 0, .int .i64 0, .int .i64 0, .int .i64 0, .slice none 0 0, .slice none 0 0, .slice none 0 0, .slice none 0 0, .slice none 0 0, .int .u8 14, .int .i64 4, .int .i64 1, .int .i64 5, .int .i64 0, .int .i64 0, .int .i64 0, .int .i64 0, .int .i64 0, .slice none 0 0, .slice none 0 0, .slice none 0 0, .slice none 0 0, .slice none 0 0, .int .u8 1, .int .i64 0, .int .i64 0, .int .i64 5, .int .i64 0, .int .i64 0, .int .i64 0, .int .i64 0, .int .i64 0, .slice none 0 0, .slice none 0 0, .slice none 0 0, .slice none 0 0, .slice none 0 0, .int .u8 1, .int .i64 4, .int .i64 1, .int .i64 0, .int .i64 0, .int .i64 0, .int .i64 0, .int .i64 0, .int .i64 0, .slice none 0 0, .slice none 0 0, .slice none 0 0, .slice none 0 0, .slice none 0 0, .int .u8 1, .int .i64 4, .int .i64 1, .int .i64 13, .int .i64 0, .int .i64 0, .int .i64 0, .int .i64 0, .int .i64 0, .slice none 0 0, .slice none 0 0, .slice none 0 0, .slice none 0 0, .slice none 0 0, .int .u8 1, .int .i64 4, .int .i64 1, .int .i64 1, .int .i64 (-1), .int .i64 0, .int .i64 0, .int .i64 0, .int .i64 0, .slice none 0 0, .slice none 0 0, .slice none 0 0, .slice none 0 0, .slice none 0 0, .int .u8 7, .int .i64 4, .int .i64 1, .int .i64 5, .int .i64 0, .int .i64 0, .int .i64 0, .int .i64 0, .int .i64 0, .slice none 0 0, .slice none 0 0, .slice none 0 0, .slice none 0 0, .slice none 0 0] 39)) (.slice (some ⟨w.heap.size, 0, none⟩) 7 7) kN from rcs_lit encY_len w kN #[.int .u8 0, .int .i64 0, .int .i64 0, .int .i64 0, .int .i64 0, .int .i64 0, .int .i64 0, .int .i64 0, .int .i64 0, .slice none 0 0, .slice none 0 0, .slice none 0 0, .slice none 0 0, .slice none 0 0, .int .u8 14, .int .i64 4, .int .i64 1, .int .i64 5, .int .i64 0, .int .i64 0, .int .i64 0, .int .i64 0, .int .i64 0, .slice none 0 0, .slice none 0 0, .slice none 0 0, .slice none 0 0, .slice none 0 0, .int .u8 1, .int .i64 0, .int .i64 0, .int .i64 5, .int .i64 0, .int .i64 0, .int .i64 0, .int .i64 0, .int .i64 0, .slice none 0 0, .slice none 0 0, .slice none 0 0, .slice none 0 0, .slice none 0 0, .int .u8 1, .int .i64 4, .int .i64 1, .int .i64 0, .int .i64 0, .int .i64 0, .int .i64 0, .int .i64 0, .int .i64 0, .slice none 0 0, .slice none 0 0, .slice none 0 0, .slice none 0 0, .slice none 0 0, .int .u8 1, .int .i64 4, .int .i64 1, .int .i64 13, .int .i64 0, .int .i64 0, .int .i64 0, .int .i64 0, .int .i64 0, .slice none 0 0, .slice none 0 0, .slice none 0 0, .slice none 0 0, .slice none 0 0, .int .u8 1, .int .i64 4, .int .i64 1, .int .i64 1, .int .i64 (-1), .int .i64 0, .int .i64 0, .int .i64 0, .int .i64 0, .slice none 0 0, .slice none 0 0, .slice none 0 0, .slice none 0 0, .slice none 0 0, .int .u8 7, .int .i64 4, .int .i64 1, .int .i64 5, .int .i64 0, .int .i64 0, .int .i64 0, .int .i64 0, .int .i64 0, .slice none 0 0, .slice none 0 0, .slice none 0 0, .slice none 0 0, .slice none 0 0] 39 rfl)
  have B := Lib.hid (below_one w (.cells #[.int .u8 0, .int .i64 0, .int .i64 0, .int .i64 0, .int .i64 0, .int .i64 0, .int .i64 0, .int .i64 0, .int .i64 0, .slice none 0 0, .slice none 0 0, .slice none 0 0, .slice none 0 0, .slice none 0 0, .int .u8 14, .int .i64 4, .int .i64 1, .int .i64 5, .int .i64 0, .int .i64 0, .int .i64 0, .int .i64 0, .int .i64 0, .slice none 0 0, .slice none 0 0, .slice none 0 0, .slice none 0 0, .slice none 0 0, .int .u8 1, .int .i64 0, .int .i64 0, .int .i64 5, .int .i64 0, .int .i64 0, .int .i64 0, .int .i64 0, .int .i64 0, .slice none 0 0, .slice none 0 0, .slice none 0 0, .slice none 0 0, .slice none 0 0, .int .u8 1, .int .i64 4, .int .i64 1, .int .i64 0, .int .i64 0, .int .i64 0, .int .i64 0, .int .i64 0, .int .i64 0, .slice none 0 0, .slice none 0 0, .slice none 0 0, .slice none 0 0, .slice none 0 0, .int .u8 1, .int .i64 4, .int .i64 1, .int .i64 13, .int .i64 0, .int .i64 0, .int .i64 0, .int .i64 0, .int .i64 0, .slice none 0 0, .slice none 0 0, .slice none 0 0, .slice none 0 0, .slice none 0 0, .int .u8 1, .int .i64 4, .int .i64 1, .int .i64 1, .int .i64 (-1), .int .i64 0, .int .i64 0, .int .i64 0, .int .i64 0, .slice none 0 0, .slice none 0 0, .slice none 0 0, .slice none 0 0, .slice none 0 0, .int .u8 7, .int .i64 4, .int .i64 1, .int .i64 5, .int .i64 0, .int .i64 0, .int .i64 0, .int .i64 0, .int .i64 0, .slice none 0 0, .slice none 0 0, .slice none 0 0, .slice none 0 0, .slice none 0 0] 39))
  clear hQ h hf hD hE
  conv => arg 2; whnf
  simp only [h0, h1, h2, h3, h4, h79, h80, h81]
  go_wp2_with (refine Great.wpList_buildSliceTo rfl 48 39 7 _ rfl w.heap.size rfl (some 266) rfl Tryz.underlying48 #[.int .u8 0, .int .i64 0, .int .i64 0, .int .i64 0, .int .i64 0, .int .i64 0, .int .i64 0, .int .i64 0, .int .i64 0, .slice none 0 0, .slice none 0 0, .slice none 0 0, .slice none 0 0, .slice none 0 0, .int .u8 14, .int .i64 4, .int .i64 1, .int .i64 5, .int .i64 0, .int .i64 0, .int .i64 0, .int .i64 0, .int .i64 0, .slice none 0 0, .slice none 0 0, .slice none 0 0, .slice none 0 0, .slice none 0 0, .int .u8 1, .int .i64 0, .int .i64 0, .int .i64 5, .int .i64 0, .int .i64 0, .int .i64 0, .int .i64 0, .int .i64 0, .slice none 0 0, .slice none 0 0, .slice none 0 0, .slice none 0 0, .slice none 0 0, .int .u8 1, .int .i64 4, .int .i64 1, .int .i64 0, .int .i64 0, .int .i64 0, .int .i64 0, .int .i64 0, .int .i64 0, .slice none 0 0, .slice none 0 0, .slice none 0 0, .slice none 0 0, .slice none 0 0, .int .u8 1, .int .i64 4, .int .i64 1, .int .i64 13, .int .i64 0, .int .i64 0, .int .i64 0, .int .i64 0, .int .i64 0, .slice none 0 0, .slice none 0 0, .slice none 0 0, .slice none 0 0, .slice none 0 0, .int .u8 1, .int .i64 4, .int .i64 1, .int .i64 1, .int .i64 (-1), .int .i64 0, .int .i64 0, .int .i64 0, .int .i64 0, .slice none 0 0, .slice none 0 0, .slice none 0 0, .slice none 0 0, .slice none 0 0, .int .u8 7, .int .i64 4, .int .i64 1, .int .i64 5, .int .i64 0, .int .i64 0, .int .i64 0, .int .i64 0, .int .i64 0, .slice none 0 0, .slice none 0 0, .slice none 0 0, .slice none 0 0, .slice none 0 0] (by kernel_rfl) ?_)
  exact HQ.out _ _ w.heap.size ⟨rfl, rfl, rfl, rfl, rfl⟩ K.out B.out
set_option maxHeartbeats 8000000 in
theorem r40 {a : Act} {w : World} {g i : Nat} {Q : Exit → Act → World → Prop} (h : Fn a g i)
    (hQ : ∀ a', Fn a' g i → Sl a' 269 (.bool (decide ((i : Int) < 7))) → Q .normal a' w) : Code.wp Tryz.prog (reg 40) Q a w := by
  obtain ⟨f, hf, rfl, h0, h1, h2⟩ := h.spell
  have HQ := Lib.hid hQ
  clear hQ h hf
  conv => arg 2; whnf
  simp only [h0, h1, h2]
  go_wp2_with fail
  exact HQ.out _ ⟨rfl, rfl, rfl, rfl, rfl⟩ rfl
set_option maxHeartbeats 8000000 in
theorem r44 {a : Act} {w : World} {g i : Nat} {Q : Exit → Act → World → Prop} (h : Fn a g i) (hi : i < 7)
    (hQ : ∀ a', Fn a' g (i + 1) → Q .normal a' w) : Code.wp Tryz.prog (reg 44) Q a w := by
  obtain ⟨f, hf, rfl, h0, h1, h2⟩ := h.spell
  have HQ := Lib.hid hQ
  have hw : IntKind.i64.wrap ((i : Int) + 1) = ((i + 1 : Nat) : Int) := IntWalk.i64_in _ ⟨by omega, by omega⟩
  clear hQ h hf
  conv => arg 2; whnf
  simp only [h0, h1, h2]
  go_wp2_with fail
  exact HQ.out _ ⟨rfl, rfl, rfl, rfl, rfl⟩
set_option maxHeartbeats 8000000 in
theorem r41 {a : Act} {w : World} {g i : Nat} {Q : Exit → Act → World → Prop} (h : Fn a g i) (hi : i < 7) (F : Fr) (hx : w.rangeAt g (i * 14) (encY F))
    (hQ : ∀ a' w' Y, Fn a' g i → Pt a' 13 Y → YBox w' Y F → Below w.heap.size w w' → Q .normal a' w') : Code.wp Tryz.prog (reg 41) Q a w := by
  obtain ⟨f, hf, rfl, h0, h1, h2⟩ := h.spell
  have HQ := Lib.hid hQ
  have RH := Lib.hid (show w.rangeAt g (i * 14) [.int .u8 F.k, .int .i64 F.f.1, .int .i64 F.f.2, .int .i64 F.t.1, .int .i64 F.t.2, .int .i64 F.n, .int .i64 F.q, .int .i64 F.b.1, .int .i64 F.b.2, .slice none 0 0, .slice none 0 0, .slice none 0 0, .slice none 0 0, .slice none 0 0] from hx)
  clear hQ h hf hx
  have hi2 : (i : Int) < 7 := by omega
  have hi3 : (0 : Int) ≤ (i : Int) := by omega
  have HX : Hid (YBox (w.alloc (.cells #[.int .u8 F.k, .int .i64 F.f.1, .int .i64 F.f.2, .int .i64 F.t.1, .int .i64 F.t.2, .int .i64 F.n, .int .i64 F.q, .int .i64 F.b.1, .int .i64 F.b.2, .slice none 0 0, .slice none 0 0, .slice none 0 0, .slice none 0 0, .slice none 0 0] 39)) w.heap.size F) := Lib.hid (heap_alloc_new w _)
  have B := Lib.hid (below_one w (.cells #[.int .u8 F.k, .int .i64 F.f.1, .int .i64 F.f.2, .int .i64 F.t.1, .int .i64 F.t.2, .int .i64 F.n, .int .i64 F.q, .int .i64 F.b.1, .int .i64 F.b.2, .slice none 0 0, .slice none 0 0, .slice none 0 0, .slice none 0 0, .slice none 0 0] 39))
  conv => arg 2; whnf
  simp only [h0, h1, h2]
  go_wp2_with (first | (refine wpList_load_mid rfl 39 (.tmp 270) rfl g (i * 14) (by first | rfl | (show Value.pointer (some (Addr.add ⟨g, 0, none⟩ (i * 14))) = _; rw [Addr.add_mid, Nat.zero_add])) [.int .u8 F.k, .int .i64 F.f.1, .int .i64 F.f.2, .int .i64 F.t.1, .int .i64 F.t.2, .int .i64 F.n, .int .i64 F.q, .int .i64 F.b.1, .int .i64 F.b.2, .slice none 0 0, .slice none 0 0, .slice none 0 0, .slice none 0 0, .slice none 0 0] _ RH.out Tryz.underlying39 rfl (by kernel_rfl) ?_) | (refine wpList_store_rowTo rfl 39 (.tmp 13) (.tmp 271) rfl rfl w.heap.size #[.int .u8 F.k, .int .i64 F.f.1, .int .i64 F.f.2, .int .i64 F.t.1, .int .i64 F.t.2, .int .i64 F.n, .int .i64 F.q, .int .i64 F.b.1, .int .i64 F.b.2, .slice none 0 0, .slice none 0 0, .slice none 0 0, .slice none 0 0, .slice none 0 0] rfl rfl 39 #[.int .u8 0, .int .i64 0, .int .i64 0, .int .i64 0, .int .i64 0, .int .i64 0, .int .i64 0, .int .i64 0, .int .i64 0, .slice none 0 0, .slice none 0 0, .slice none 0 0, .slice none 0 0, .slice none 0 0] (heap_alloc_new _ _) (by kernel_rfl) rfl (by simp [Value.oneCell']) ?_; rw [World.setRow_alloc_new]))
  exact HQ.out _ _ w.heap.size ⟨rfl, rfl, rfl, rfl, rfl⟩ rfl HX.out B.out
set_option maxHeartbeats 8000000 in
theorem r42 {a : Act} {w : World} {g i Y : Nat} {Q : Exit → Act → World → Prop} (h : Fn a g i) (h13 : Pt a 13 Y) (F : Fr) (hv : F.v = noV) (hy : YBox w Y F) (hm : mayF F = false)
    (hQ : ∀ a' w', Fn a' g i → Below w.heap.size w w' → Q .normal a' w') : Code.wp Tryz.prog (ifs 42) Q a w := by
  obtain ⟨f, hf, rfl, h0, h1, h2⟩ := h.spell
  have h13 : f 13 = _ := (hf 13).symm.trans h13
  have HQ := Lib.hid hQ
  have RY := Lib.hid (ybox_range hy)
  have HV := Lib.hid hv
  have HM := Lib.hid hm
  clear hQ h hf hy hv hm
  conv => arg 2; whnf
  simp only [h0, h1, h2, h13]
  go_wp2_with (refine wpList_load_mid rfl 39 (.tmp 13) rfl Y 0 rfl [.int .u8 F.k, .int .i64 F.f.1, .int .i64 F.f.2, .int .i64 F.t.1, .int .i64 F.t.2, .int .i64 F.n, .int .i64 F.q, .int .i64 F.b.1, .int .i64 F.b.2, .slice none 0 0, .slice none 0 0, .slice none 0 0, .slice none 0 0, .slice none 0 0] _ RY.out Tryz.underlying39 rfl (by kernel_rfl) ?_)
  (with_reducible refine (mayF_any _ F _ (fat_y _ HV.out) (by rw [HV.out]; exact fitNo)).mono ?_)
  rintro e1 w1 ⟨rfl, hb⟩
  rw [HM.out]
  have B1 := Lib.hid hb
  clear hb RY
  go_wp2_with fail
  exact HQ.out _ _ ⟨rfl, rfl, rfl, rfl, rfl⟩ B1.out
set_option maxHeartbeats 8000000 in
theorem r45 {a : Act} {w0 w : World} {g i : Nat} (h : Fn a g i) (hB : Below w0.heap.size w0 w) : Code.wp Tryz.prog (.seq (reg 45) .ret) (bodyPost Tryz.prog Tryz.f3 fun e w' => e = .returned (.bool true) ∧ Below w0.heap.size w0 w') a w := by
  obtain ⟨f, hf, rfl, h0, h1, h2⟩ := h.spell
  have HB := Lib.hid hB
  clear h hf hB
  refine wp_seq ?_
  conv => arg 2; whnf
  simp only [h0, h1, h2]
  go_wp2_with fail
  (with_reducible refine (tooLarge_any _).mono ?_)
  rintro e1 w1 ⟨rfl, hb⟩
  have B1 := Lib.hid (below_after HB.out hb (Nat.le_refl _))
  clear hb
  go_wp2_with fail
  go_ret
  exact ⟨rfl, B1.out⟩
theorem shape_no : ifs 40 = .seq (reg 40) (.seq (.cond (.tmp 269) .skip (.exit 4)) (.seq (.block 5 (.seq (reg 41) (ifs 42))) (reg 44))) := by kernel_rfl
theorem kN_v {i : Nat} (h : i < kN.length) : kN[i].v = noV := by
  have h1 : ∀ F ∈ kN, F.v = noV := by
    intro F hF
    unfold kN at hF
    simp only [List.mem_cons, List.not_mem_nil, or_false] at hF
    rcases hF with rfl | rfl | rfl | rfl | rfl | rfl | rfl <;> rfl
  exact h1 _ (List.getElem_mem h)
theorem pan_post {w0 : World} : Pan (bodyPost Tryz.prog Tryz.f3 fun e w' => e = .returned (.bool true) ∧ Below w0.heap.size w0 w') := fun x a w d v h => by
  have k := h.1
  rw [Act.defers_put'] at k
  exact ⟨k, h.2⟩
/-- What stands behind the loop over the kinds. -/
theorem tail_any {a : Act} {w0 w : World} {gv ga gi g i : Nat} (h : Fz a gv ga gi g i) (hD : Box w gi 4 1) (hE : Box w (gi + 1) 5 0) (hB : Below w0.heap.size w0 w) :
    Code.wp Tryz.prog (.seq (.seq (reg 39) (.block 4 (.loop (ifs 40)))) (.seq (reg 45) .ret)) (bodyPost Tryz.prog Tryz.f3 fun e w' => e = .returned (.bool true) ∧ Below w0.heap.size w0 w') a w := by
  refine wp_seq (wp_seq (r39 h hD hE fun a1 w1 k h1 hk b1 => ?_))
  have B1 := below_after hB b1 (Nat.le_refl _)
  refine wp_block (wp_loop (fun a' w' => ∃ i, i ≤ 7 ∧ Fn a' k i ∧ Below w1.heap.size w1 w') (fun a' _ => 7 - (intOf (a'.tmps.getD 268 undef)).toNat) ⟨0, by omega, h1, Below.refl _ _⟩ ?_)
  rintro a2 w2 ⟨j, hj, h2, b2⟩
  have hm : 7 - (intOf (a2.tmps.getD 268 undef)).toNat = 7 - j := by rw [h2.s268]; simp [intOf]
  rw [shape_no]
  refine wp_seq (r40 h2 fun a3 h3 s3 => ?_)
  by_cases hlt : j < 7
  · have hjl : j < kN.length := hlt
    refine wp_seq (wp_cond_true (by show a3.tmps.getD 269 undef = _; rw [show a3.tmps.getD 269 undef = _ from s3, decide_eq_true (by omega)]) (wp_skip ?_))
    have hr : w2.rangeAt k (j * 14) (encY kN[j]) := fun i v hv => by
      obtain ⟨A, c, hv', _, _, hc⟩ := hk.below b2
      obtain ⟨ad, e1, _, e3⟩ := hc j hjl
      injection hv' with e4
      rw [e1] at e4
      injection e4 with e4
      have := e3 i v hv
      rw [← e4, Addr.add_mid, Nat.zero_add] at this
      exact this
    refine wp_seq (wp_block (wp_seq (r41 h3 hlt kN[j] hr fun a4 w4 Y h4 s13 hY b4 => ?_)))
    refine r42 h4 s13 kN[j] (kN_v hjl) hY (kN_may hjl) fun a5 w5 h5 b5 => ?_
    refine r44 h5 hlt fun a6 h6 => ?_
    refine ⟨⟨j + 1, by omega, h6, below_after b2 (below_after b4 b5 (Nat.le_refl _)) (Nat.le_refl _)⟩, ?_⟩
    show 7 - (intOf (a6.tmps.getD 268 undef)).toNat < 7 - (intOf (a2.tmps.getD 268 undef)).toNat
    rw [hm, h6.s268]
    simp only [intOf, Int.toNat_natCast]
    omega
  · refine wp_seq (wp_cond_false (by show a3.tmps.getD 269 undef = _; rw [show a3.tmps.getD 269 undef = _ from s3, decide_eq_false (by omega)]) (wp_exit ?_))
    exact r45 h3 (below_after B1 b2 (Nat.le_refl _))
end Go.Proofs.YtkeiekljedhllaaGreat
