/-
  Contracts and plain facts.
-/
import Derived.Test.YthkkipbmlafdiaaGreatOy
import Derived.Test.YthkkipbmlafdiaaGreatB32
set_option maxRecDepth 20000
namespace Go.Proofs.YthkkipbmlafdiaaGreat
section
open Go Go.RowKit
set_option maxHeartbeats 4000000 in
theorem copiedM_any (v : Value) (l : List Ros.Mm) (w : World) (h : Rcs encM 4 w v l) (hl : l.length ≤ 40000) :
  Calls Tryz.prog 72 #[v] w fun e w' => ∃ X, e = .returned X ∧ (X = .slice none 0 0 ∧ l = [] ∨ OwnsR encM 4 31 w' w.heap.size X l) ∧ Rcs encM 4 w' X l ∧ Below w.heap.size w w' := by
 have qq : ∀ (w : World) (a : Option Addr) (n c n' c' : Nat), (binOp .eql 22 (.slice a n c) (.slice none n' c')).run Tryz.prog w = .ok (.bool a.isNone) w := fun w a n c n' c' => Lib.run_eql_slice_nil w _ _ a n c n' c' Tryz.underlying22
 have HI := hd_ h;obtain ⟨A, c, rfl, hz, hc, hy⟩ := h;clear hy;cases A with
 | none =>
  obtain rfl := hz rfl;have hn : l = [] := List.eq_nil_of_length_eq_zero (by omega)
  subst hn;clear hz hc;go_enter Tryz.func72, Tryz.ntmps72
  go_wp2_with fail;go_ret;exact ⟨_, rfl, .inl ⟨rfl, trivial⟩, HI.out, Below.refl _ _⟩
 | some ad =>
  clear hz hc;go_enter Tryz.func72, Tryz.ntmps72
  go_wp2_with first
   | (at_make; refine wpList_make_recs (enc := encM) 22 31 Tryz.underlying22 info32 (by omega) _ rfl (.tmp 6) rfl _ rfl (by omega) (by omega) ?_; intro v2 w2 h1 h2; have HO := hd_ h1; have H2 := hd_ h2; have HK := hd_ (HI.out.below h2); have HZ := hd_ h2.size; clear h1 h2)
   | (at_builtin; refine wpList_append_recs (enc := encM) (sz := 4) 22 31 Tryz.underlying22 info32 rfl encM_len (by omega) encM_one (by omega) rfl (.tmp 7) (.tmp 8) rfl _ w.heap.size v2 _ [] l rfl rfl HO.out HK.out (by simp; omega) HZ.out ?_; intro v3 w3 h1 h2; have HP := hd_ h1; have H3 := hd_ (H2.out.trans h2); clear h1 h2)
  go_ret;exact ⟨_, rfl, .inr HP.out, rcs_owns encM_len HP.out, H3.out⟩
set_option maxHeartbeats 4000000 in
theorem copiedT_any (v : Value) (l : List Clocks.Tick) (w : World) (h : Rcs encT 3 w v l) (hl : l.length ≤ 40000) :
  Calls Tryz.prog 75 #[v] w fun e w' => ∃ X, e = .returned X ∧ (X = .slice none 0 0 ∧ l = [] ∨ OwnsR encT 3 53 w' w.heap.size X l) ∧ Rcs encT 3 w' X l ∧ Below w.heap.size w w' := by
 have qq : ∀ (w : World) (a : Option Addr) (n c n' c' : Nat), (binOp .eql 25 (.slice a n c) (.slice none n' c')).run Tryz.prog w = .ok (.bool a.isNone) w := fun w a n c n' c' => Lib.run_eql_slice_nil w _ _ a n c n' c' Tryz.underlying25
 have HI := hd_ h;obtain ⟨A, c, rfl, hz, hc, hy⟩ := h;clear hy;cases A with
 | none =>
  obtain rfl := hz rfl;have hn : l = [] := List.eq_nil_of_length_eq_zero (by omega)
  subst hn;clear hz hc;go_enter Tryz.func75, Tryz.ntmps75
  go_wp2_with fail;go_ret;exact ⟨_, rfl, .inl ⟨rfl, trivial⟩, HI.out, Below.refl _ _⟩
 | some ad =>
  clear hz hc;go_enter Tryz.func75, Tryz.ntmps75
  go_wp2_with first
   | (at_make; refine wpList_make_recs (enc := encT) 25 53 Tryz.underlying25 info35 (by omega) _ rfl (.tmp 6) rfl _ rfl (by omega) (by omega) ?_; intro v2 w2 h1 h2; have HO := hd_ h1; have H2 := hd_ h2; have HK := hd_ (HI.out.below h2); have HZ := hd_ h2.size; clear h1 h2)
   | (at_builtin; refine wpList_append_recs (enc := encT) (sz := 3) 25 53 Tryz.underlying25 info35 rfl encT_len (by omega) encT_one (by omega) rfl (.tmp 7) (.tmp 8) rfl _ w.heap.size v2 _ [] l rfl rfl HO.out HK.out (by simp; omega) HZ.out ?_; intro v3 w3 h1 h2; have HP := hd_ h1; have H3 := hd_ (H2.out.trans h2); clear h1 h2)
  go_ret;exact ⟨_, rfl, .inr HP.out, rcs_owns encT_len HP.out, H3.out⟩
set_option maxHeartbeats 4000000 in
theorem copiedW_any (v : Value) (l : List Raw) (w : World) (h : Rcs encW 4 w v l) (hl : l.length ≤ 40000) :
  Calls Tryz.prog 74 #[v] w fun e w' => ∃ X, e = .returned X ∧ (X = .slice none 0 0 ∧ l = [] ∨ OwnsR encW 4 68 w' w.heap.size X l) ∧ Rcs encW 4 w' X l ∧ Below w.heap.size w w' := by
 have qq : ∀ (w : World) (a : Option Addr) (n c n' c' : Nat), (binOp .eql 24 (.slice a n c) (.slice none n' c')).run Tryz.prog w = .ok (.bool a.isNone) w := fun w a n c n' c' => Lib.run_eql_slice_nil w _ _ a n c n' c' Tryz.underlying24
 have HI := hd_ h;obtain ⟨A, c, rfl, hz, hc, hy⟩ := h;clear hy;cases A with
 | none =>
  obtain rfl := hz rfl;have hn : l = [] := List.eq_nil_of_length_eq_zero (by omega)
  subst hn;clear hz hc;go_enter Tryz.func74, Tryz.ntmps74
  go_wp2_with fail;go_ret;exact ⟨_, rfl, .inl ⟨rfl, trivial⟩, HI.out, Below.refl _ _⟩
 | some ad =>
  clear hz hc;go_enter Tryz.func74, Tryz.ntmps74
  go_wp2_with first
   | (at_make; refine wpList_make_recs (enc := encW) 24 68 Tryz.underlying24 infoW (by omega) _ rfl (.tmp 6) rfl _ rfl (by omega) (by omega) ?_; intro v2 w2 h1 h2; have HO := hd_ h1; have H2 := hd_ h2; have HK := hd_ (HI.out.below h2); have HZ := hd_ h2.size; clear h1 h2)
   | (at_builtin; refine wpList_append_recs (enc := encW) (sz := 4) 24 68 Tryz.underlying24 infoW rfl encW_len (by omega) encW_one (by omega) rfl (.tmp 7) (.tmp 8) rfl _ w.heap.size v2 _ [] l rfl rfl HO.out HK.out (by simp; omega) HZ.out ?_; intro v3 w3 h1 h2; have HP := hd_ h1; have H3 := hd_ (H2.out.trans h2); clear h1 h2)
  go_ret;exact ⟨_, rfl, .inr HP.out, rcs_owns encW_len HP.out, H3.out⟩
set_option maxHeartbeats 2000000 in
theorem putI_any (v : Value) (l : List Sets.Id2) (a i : Int) (w : World) (h : Ids w v l) (hl : l.length ≤ 40000) :
  Calls Tryz.prog 61 #[v, .agg #[.int .i64 a, .int .i64 i]] w fun e w' => ∃ X, e = .returned X ∧ Ids w' X (Sets.join l [(a, i)]) ∧ Below w.heap.size w w' := by
 have q1 := ad_ w (.cells #[.int .i64 a, .int .i64 i] 29);have q2 := ad_ (w.alloc (.cells #[.int .i64 a, .int .i64 i] 29)) (.cells #[.int .i64 a, .int .i64 i] 29);have BB := hd_ (ba_ q1 q2);have HI := hd_ (h.below BB.out);have HJ : Hid (Ids ((w.alloc (.cells #[.int .i64 a, .int .i64 i] 29)).alloc (.cells #[.int .i64 a, .int .i64 i] 29)) (.slice (some ⟨w.heap.size + 1, 0, none⟩) 1 1) [(a, i)]) := hd_ (by have h := ids_lit (w.alloc (.cells #[.int .i64 a, .int .i64 i] 29)) [(a, i)]; simp only [World.size_alloc] at h; exact h)
 clear h q1 q2;obtain ⟨b1, b2⟩ := ae_ (ao_ w a i);go_enter Tryz.func61, Tryz.ntmps61
 go_wp2_with fail;(with_reducible refine (join_any _ _ l [(a, i)] _ HI.out HJ.out hl (by simp)).mono ?_)
 rintro e w2 ⟨X, rfl, hx, hb⟩;have HX := hd_ hx;have B2 := hd_ (ba_ BB.out hb);clear hx hb b1 b2;go_wp2_with fail;go_ret;exact ⟨_, rfl, HX.out, B2.out⟩
theorem kp_cell {w : World} {g k : Nat} {a b c d e : SL} (h : VBox w g a b c d e) (A : Option Addr) (n j : Nat) : Kp w (w.setCell ⟨g, k, none⟩ (.slice A n j)) := by
 refine ⟨by simp [World.setCell], fun x y hxy ⟨kk, m, hc⟩ u hu => ?_⟩
 by_cases e : x.block = g
 ·exfalso
  unfold VBox at h;rw [← e] at h;unfold World.cell? at hc;rw [h] at hc;simp at hc
  have hm := List.mem_of_getElem? hc.2;simp at hm
 ·rw [World.cell?_of_block (heap_setCell (fun e2 => e (hxy.trans e2)))]
  exact hu
theorem vbox_seen {w : World} {g : Nat} {a b c d e : SL} (h : VBox w g a b c d e) (A : Option Addr) (n k : Nat) : VBox (w.setCell ⟨g, 4, none⟩ (.slice A n k)) g a b c d (A, n, k) := by
 unfold VBox at *;simp [World.setCell, Array.getElem?_modify, h]
def tellP (V U : Vw) (p q : Int) : Vw := ⟨(joinV V U).m, (joinV V U).f, (joinV V U).r, (joinV V U).c, Sets.join (joinV V U).s [(p, q)]⟩
set_option maxHeartbeats 8000000 in
theorem tell_any (v u : Value) (V U : Vw) (p q : Int) (w : World) (h : VAt w v V) (k : VAt w u U) (hV : FitVIE 400 V) (hU : FitVIE 400 U) (uV : RowSets.Up V.r) (uU : RowSets.Up U.r) :
  Calls Tryz.prog 14 #[v, u, .agg #[.int .i64 p, .int .i64 q]] w fun e w' => ∃ X, e = .returned X ∧ VAt w' X (tellP V U p q) ∧ Below w.heap.size w w' := by
 obtain ⟨a, b, c, d, e, rfl, hr⟩ := h;obtain ⟨a', b', c', d', e', rfl, kr⟩ := k;have q1 := ad_ w (.cells #[.slice a.1 a.2.1 a.2.2, .slice b.1 b.2.1 b.2.2, .slice c.1 c.2.1 c.2.2, .slice d.1 d.2.1 d.2.2, .slice e.1 e.2.1 e.2.2] 27);have q2 := ad_ (w.alloc (.cells #[.slice a.1 a.2.1 a.2.2, .slice b.1 b.2.1 b.2.2, .slice c.1 c.2.1 c.2.2, .slice d.1 d.2.1 d.2.2, .slice e.1 e.2.1 e.2.2] 27)) (.cells #[.slice a'.1 a'.2.1 a'.2.2, .slice b'.1 b'.2.1 b'.2.2, .slice c'.1 c'.2.1 c'.2.2, .slice d'.1 d'.2.1 d'.2.2, .slice e'.1 e'.2.1 e'.2.2] 27);have q3 := ad_ ((w.alloc (.cells #[.slice a.1 a.2.1 a.2.2, .slice b.1 b.2.1 b.2.2, .slice c.1 c.2.1 c.2.2, .slice d.1 d.2.1 d.2.2, .slice e.1 e.2.1 e.2.2] 27)).alloc (.cells #[.slice a'.1 a'.2.1 a'.2.2, .slice b'.1 b'.2.1 b'.2.2, .slice c'.1 c'.2.1 c'.2.2, .slice d'.1 d'.2.1 d'.2.2, .slice e'.1 e'.2.1 e'.2.2] 27)) (.cells #[.int .i64 p, .int .i64 q] 29);have q4 := ad_ (((w.alloc (.cells #[.slice a.1 a.2.1 a.2.2, .slice b.1 b.2.1 b.2.2, .slice c.1 c.2.1 c.2.2, .slice d.1 d.2.1 d.2.2, .slice e.1 e.2.1 e.2.2] 27)).alloc (.cells #[.slice a'.1 a'.2.1 a'.2.2, .slice b'.1 b'.2.1 b'.2.2, .slice c'.1 c'.2.1 c'.2.2, .slice d'.1 d'.2.1 d'.2.2, .slice e'.1 e'.2.1 e'.2.2] 27)).alloc (.cells #[.int .i64 p, .int .i64 q] 29)) (.cells #[.slice none 0 0, .slice none 0 0, .slice none 0 0, .slice none 0 0, .slice none 0 0] 27);have Q := ah_ (ah_ (ba_ q1 q2) q3 (Nat.le_refl _)) q4 (Nat.le_refl _);have X1 := hd_ (ab_ (ab_ (ab_ (ak_ w a b c d e) q2) q3) q4);have X2 : Hid (VBox ((((w.alloc (.cells #[.slice a.1 a.2.1 a.2.2, .slice b.1 b.2.1 b.2.2, .slice c.1 c.2.1 c.2.2, .slice d.1 d.2.1 d.2.2, .slice e.1 e.2.1 e.2.2] 27)).alloc (.cells #[.slice a'.1 a'.2.1 a'.2.2, .slice b'.1 b'.2.1 b'.2.2, .slice c'.1 c'.2.1 c'.2.2, .slice d'.1 d'.2.1 d'.2.2, .slice e'.1 e'.2.1 e'.2.2] 27)).alloc (.cells #[.int .i64 p, .int .i64 q] 29)).alloc (.cells #[.slice none 0 0, .slice none 0 0, .slice none 0 0, .slice none 0 0, .slice none 0 0] 27)) (w.heap.size + 1) a' b' c' d' e') := hd_ (by simpa using ab_ (ab_ (ak_ (w.alloc (.cells #[.slice a.1 a.2.1 a.2.2, .slice b.1 b.2.1 b.2.2, .slice c.1 c.2.1 c.2.2, .slice d.1 d.2.1 d.2.2, .slice e.1 e.2.1 e.2.2] 27)) a' b' c' d' e') q3) q4)
 have X3 : Hid (Box ((((w.alloc (.cells #[.slice a.1 a.2.1 a.2.2, .slice b.1 b.2.1 b.2.2, .slice c.1 c.2.1 c.2.2, .slice d.1 d.2.1 d.2.2, .slice e.1 e.2.1 e.2.2] 27)).alloc (.cells #[.slice a'.1 a'.2.1 a'.2.2, .slice b'.1 b'.2.1 b'.2.2, .slice c'.1 c'.2.1 c'.2.2, .slice d'.1 d'.2.1 d'.2.2, .slice e'.1 e'.2.1 e'.2.2] 27)).alloc (.cells #[.int .i64 p, .int .i64 q] 29)).alloc (.cells #[.slice none 0 0, .slice none 0 0, .slice none 0 0, .slice none 0 0, .slice none 0 0] 27)) (w.heap.size + 1 + 1) p q) := hd_ (by simpa using ag_ (ao_ ((w.alloc (.cells #[.slice a.1 a.2.1 a.2.2, .slice b.1 b.2.1 b.2.2, .slice c.1 c.2.1 c.2.2, .slice d.1 d.2.1 d.2.2, .slice e.1 e.2.1 e.2.2] 27)).alloc (.cells #[.slice a'.1 a'.2.1 a'.2.2, .slice b'.1 b'.2.1 b'.2.2, .slice c'.1 c'.2.1 c'.2.2, .slice d'.1 d'.2.1 d'.2.2, .slice e'.1 e'.2.1 e'.2.2] 27)) p q) q4)
 have X4 : Hid (VBox ((((w.alloc (.cells #[.slice a.1 a.2.1 a.2.2, .slice b.1 b.2.1 b.2.2, .slice c.1 c.2.1 c.2.2, .slice d.1 d.2.1 d.2.2, .slice e.1 e.2.1 e.2.2] 27)).alloc (.cells #[.slice a'.1 a'.2.1 a'.2.2, .slice b'.1 b'.2.1 b'.2.2, .slice c'.1 c'.2.1 c'.2.2, .slice d'.1 d'.2.1 d'.2.2, .slice e'.1 e'.2.1 e'.2.2] 27)).alloc (.cells #[.int .i64 p, .int .i64 q] 29)).alloc (.cells #[.slice none 0 0, .slice none 0 0, .slice none 0 0, .slice none 0 0, .slice none 0 0] 27)) (w.heap.size + 1 + 1 + 1) (none, 0, 0) (none, 0, 0) (none, 0, 0) (none, 0, 0) (none, 0, 0)) := hd_ (by have h := ak_ (((w.alloc (.cells #[.slice a.1 a.2.1 a.2.2, .slice b.1 b.2.1 b.2.2, .slice c.1 c.2.1 c.2.2, .slice d.1 d.2.1 d.2.2, .slice e.1 e.2.1 e.2.2] 27)).alloc (.cells #[.slice a'.1 a'.2.1 a'.2.2, .slice b'.1 b'.2.1 b'.2.2, .slice c'.1 c'.2.1 c'.2.2, .slice d'.1 d'.2.1 d'.2.2, .slice e'.1 e'.2.1 e'.2.2] 27)).alloc (.cells #[.int .i64 p, .int .i64 q] 29)) (none, 0, 0) (none, 0, 0) (none, 0, 0) (none, 0, 0) (none, 0, 0); simp only [World.size_alloc] at h; exact h)
 have RA := hd_ (hr.below Q);have RB := hd_ (kr.below Q);have BQ := hd_ Q;have LL : Hid ((joinV V U).s.length ≤ 40000) := hd_ (Nat.le_trans (fit_join hV hU (by decide)).s (by decide))
 clear hr kr q1 q2 q3 q4 Q;obtain ⟨p0, p1, p2, p3, p4⟩ := aa_ X1.out;obtain ⟨t0, t1, t2, t3, t4⟩ := aa_ X2.out;go_enter Tryz.func14, Tryz.ntmps14
 go_wp2_with fail;(with_reducible refine (joinV_any _ _ V U _ RA.out.at_ RB.out.at_ hV hU uV uU).mono ?_)
 rintro e1 w5 ⟨X, rfl, hx, hb⟩;obtain ⟨s0, s1, s2, s3, s4, rfl, hj⟩ := hx;have q5 := ad_ w5 (.cells #[.slice s0.1 s0.2.1 s0.2.2, .slice s1.1 s1.2.1 s1.2.2, .slice s2.1 s2.2.1 s2.2.2, .slice s3.1 s3.2.1 s3.2.2, .slice s4.1 s4.2.1 s4.2.2] 27);have Y3 := hd_ (ag_ (ag_ X3.out hb) q5);have Y4 := hd_ (ab_ (ab_ X4.out hb) q5);have Y7 := hd_ (ak_ w5 s0 s1 s2 s3 s4);have YR := hd_ (hj.below q5);have YB := hd_ (ah_ (ba_ BQ.out hb) q5 (Nat.le_refl _));have LS : Hid (w.heap.size + 1 + 1 + 1 < w5.heap.size) := hd_ (vbox_lt (ab_ X4.out hb))
 clear hb hj q5 p0 p1 p2 p3 p4 t0 t1 t2 t3 t4 X1 X2 X3 X4 RA RB BQ;obtain ⟨k0, k1, k2, k3, k4⟩ := aa_ (ak_ w5 (none, 0, 0) (none, 0, 0) (none, 0, 0) (none, 0, 0) (none, 0, 0));obtain ⟨f0, f1, f2, f3, f4⟩ := al_ (ak_ w5 (none, 0, 0) (none, 0, 0) (none, 0, 0) (none, 0, 0) (none, 0, 0));dsimp only at k0 k1 k2 k3 k4;obtain ⟨r0, r1, r2, r3, r4⟩ := aa_ Y7.out;obtain ⟨i1, i2⟩ := ae_ Y3.out;go_wp2_with fail;clear k0 k1 k2 k3 k4 f0 f1 f2 f3 f4;(with_reducible refine (putI_any _ (joinV V U).s p q _ YR.out.s LL.out).mono ?_)
 rintro e2 w6 ⟨X, rfl, hx, hb⟩;obtain ⟨⟨A, n, j⟩, rfl⟩ := sl_ids hx;dsimp only at hx;have Z4 := hd_ (ab_ Y4.out hb);have Z7 := hd_ (ab_ Y7.out hb);have ZR := hd_ (YR.out.below hb);have ZS := hd_ hx;have ZB := hd_ (ba_ YB.out hb);clear hb hx r0 r1 r2 r3 r4 i1 i2 Y3 Y4 Y7 YR YB;obtain ⟨r0, r1, r2, r3, r4⟩ := aa_ Z7.out;obtain ⟨g0, g1, g2, g3, g4⟩ := al_ Z7.out;have hk := kp_cell (k := 4) Z7.out A n j;have V4 := hd_ (vbox_apart Z4.out (x := w5.heap.size) (by have := LS.out; omega) 4 (.slice A n j))
 have V7 := hd_ (vbox_seen Z7.out A n j);have VR := hd_ (ZR.out.kp hk);have VS := hd_ (Ids.kp ZS.out hk);have VB := hd_ (below_two_set ZB.out (show w.heap.size ≤ w5.heap.size by have := LS.out; omega) 4 (.slice A n j))
 clear hk;obtain ⟨t0, t1, t2, t3, t4⟩ := aa_ V7.out;obtain ⟨z0, z1, z2, z3, z4⟩ := aa_ V4.out;obtain ⟨h0, h1, h2, h3, h4⟩ := al_ V4.out;dsimp only at t4 z0 z1 z2 z3 z4;go_wp2_with fail;obtain ⟨c0, c1, c2, c3, c4⟩ := aa_ (a2_ V4.out s0 s1 s2 s3 (A, n, j));dsimp only at c4;refine bodyPost_ret (v := .agg #[.slice s0.1 s0.2.1 s0.2.2, .slice s1.1 s1.2.1 s1.2.2, .slice s2.1 s2.2.1 s2.2.2, .slice s3.1 s3.2.1 s3.2.2, .slice A n j]) (by simp [results, Tryz.results14, go_sem, c0, c1, c2, c3, c4]) rfl ?_
 have hk2 := kp_set V4.out [.slice s0.1 s0.2.1 s0.2.2, .slice s1.1 s1.2.1 s1.2.2, .slice s2.1 s2.2.1 s2.2.2, .slice s3.1 s3.2.1 s3.2.2, .slice A n j];exact ⟨_, rfl, vAt_of (Ms.kp VR.out.m hk2) (Ids.kp VR.out.f hk2) (VR.out.r.kp hk2) (ticks_kp VR.out.c hk2) (Ids.kp VS.out hk2), below_setCells VB.out (by omega) 0 [.slice s0.1 s0.2.1 s0.2.2, .slice s1.1 s1.2.1 s1.2.2, .slice s2.1 s2.2.1 s2.2.2, .slice s3.1 s3.2.1 s3.2.2, .slice A n j]⟩
end
end Go.Proofs.YthkkipbmlafdiaaGreat
