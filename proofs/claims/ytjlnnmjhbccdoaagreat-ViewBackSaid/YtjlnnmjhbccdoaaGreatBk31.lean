/-
  Carried over and put together: contracts of this program's functions, and plain facts. No statement is proved in this text.
-/
import Derived.Test.YtjlnnmjhbccdoaaGreatBk28
import Derived.Test.YtjlnnmjhbccdoaaGreatBk30
set_option maxRecDepth 20000
namespace Go.Proofs.YtjlnnmjhbccdoaaGreat
open Go Go.RowKit
/-- What stands of the world: two views, an ID. -/
structure BkG (w : World) (a b c d e a' b' c' d' e' : SL) (V U : Vw) (p q : Int) (W : World) : Prop where
  x : VBox W w.heap.size a b c d e
  y : VBox W (w.heap.size + 1) a' b' c' d' e'
  r : RV W a b c d e V
  t : RV W a' b' c' d' e' U
  i : Box W (w.heap.size + 1 + 1) p q
  below : Below w.heap.size w W
theorem BkG.step {w : World} {a b c d e a' b' c' d' e' : SL} {V U : Vw} {p q : Int} {W W' : World} (h : BkG w a b c d e a' b' c' d' e' V U p q W) (hb : Below W.heap.size W W') : BkG w a b c d e a' b' c' d' e' V U p q W' := ⟨vbox_below h.x hb, vbox_below h.y hb, h.r.below hb, h.t.below hb, box_below h.i hb, below_after h.below hb (Nat.le_refl _)⟩
/-- The slots of the region's operations. -/
def bkDs : List (Option Tmp) := [some 107, some 108, some 109, some 110, some 111, some 112, some 113, some 114, some 115, some 116, some 117, some 118, some 119, some 120, some 121, some 122, some 123, some 124, some 125, some 126, some 127, some 128, some 6]
/-- What is said of them. -/
def bkF (x y z : Nat) (b b' d d' : SL) (p q fA fB sA sB : Int) : Nat → Value → World → Prop := fun i v _ => match i with
  | 0 => v = .pointer (some ⟨x, 1, none⟩)
  | 1 => v = .slice b.1 b.2.1 b.2.2
  | 2 => v = .pointer (some ⟨z, 0, none⟩)
  | 3 => v = .int .i64 p
  | 4 => v = .int .i64 fA
  | 5 => v = .pointer (some ⟨y, 1, none⟩)
  | 6 => v = .slice b'.1 b'.2.1 b'.2.2
  | 7 => v = .pointer (some ⟨z, 0, none⟩)
  | 8 => v = .int .i64 p
  | 9 => v = .int .i64 fB
  | 10 => v = .bool true
  | 11 => v = .bool true
  | 12 => v = .pointer (some ⟨x, 3, none⟩)
  | 13 => v = .slice d.1 d.2.1 d.2.2
  | 14 => v = .agg #[.int .i64 p, .int .i64 q]
  | 15 => v = .int .i64 sA
  | 16 => v = .pointer (some ⟨y, 3, none⟩)
  | 17 => v = .slice d'.1 d'.2.1 d'.2.2
  | 18 => v = .agg #[.int .i64 p, .int .i64 q]
  | 19 => v = .int .i64 sB
  | 20 => v = .bool true
  | 21 => v = .bool true
  | 22 => v = .bool true
  | _ => True
theorem bkF_mono (x y z : Nat) (b b' d d' : SL) (p q fA fB sA sB : Int) : ∀ i v w w', bkF x y z b b' d d' p q fA fB sA sB i v w → Below w.heap.size w w' → bkF x y z b b' d d' p q fA fB sA sB i v w' := by
  intro i v w w' h hb
  unfold bkF at h ⊢
  split at h
  all_goals first | exact h | exact trivial
set_option maxHeartbeats 16000000 in
set_option maxRecDepth 100000 in
theorem back_walk (v u : Value) (V U : Vw) (p q : Int) (w : World) (h : VAt w v V) (k : VAt w u U) (is was gA gB : Bool) (x1 x2 x3 x4 y1 y2 y3 y4 fA fB sA sB : Int)
    (HF : Hid (mayV U = true → covB V U = true → BackFacts is was gA gB x3 x4 y3 y4 fA fB sA sB))
    (C1 : Hid (Fit 70 V → ∀ W v, Ms W v V.m → Calls Tryz.prog 28 #[v, .agg #[.int .i64 p, .int .i64 q]] W fun e w' => e = .returned (.tuple #[.agg #[.int .i64 x1, .int .i64 x2, .int .u8 x3, .int .i64 x4], .bool is]) ∧ Below W.heap.size W w'))
    (C2 : Hid (Fit 70 U → ∀ W v, Ms W v U.m → Calls Tryz.prog 28 #[v, .agg #[.int .i64 p, .int .i64 q]] W fun e w' => e = .returned (.tuple #[.agg #[.int .i64 y1, .int .i64 y2, .int .u8 y3, .int .i64 y4], .bool was]) ∧ Below W.heap.size W w'))
    (C3 : Hid (Fit 70 V → ∀ W v, Ids W v V.f → Calls Tryz.prog 29 #[v, .agg #[.int .i64 p, .int .i64 q]] W fun e w' => e = .returned (.bool gA) ∧ Below W.heap.size W w'))
    (C4 : Hid (Fit 70 U → ∀ W v, Ids W v U.f → Calls Tryz.prog 29 #[v, .agg #[.int .i64 p, .int .i64 q]] W fun e w' => e = .returned (.bool gB) ∧ Below W.heap.size W w'))
    (C5 : Hid (Fit 70 V → ∀ W v, Ids W v V.f → Calls Tryz.prog 30 #[v, .int .i64 p] W fun e w' => e = .returned (.int .i64 fA) ∧ Below W.heap.size W w'))
    (C6 : Hid (Fit 70 U → ∀ W v, Ids W v U.f → Calls Tryz.prog 30 #[v, .int .i64 p] W fun e w' => e = .returned (.int .i64 fB) ∧ Below W.heap.size W w'))
    (C7 : Hid (Fit 70 V → ∀ W v, Rcs encT 3 W v V.c → Calls Tryz.prog 31 #[v, .agg #[.int .i64 p, .int .i64 q]] W fun e w' => e = .returned (.int .i64 sA) ∧ Below W.heap.size W w'))
    (C8 : Hid (Fit 70 U → ∀ W v, Rcs encT 3 W v U.c → Calls Tryz.prog 31 #[v, .agg #[.int .i64 p, .int .i64 q]] W fun e w' => e = .returned (.int .i64 sB) ∧ Below W.heap.size W w')) :
    Calls Tryz.prog 5 #[v, u, .agg #[.int .i64 p, .int .i64 q]] w fun e w' => e = .returned (.bool true) ∧ Below w.heap.size w w' := by
  obtain ⟨a, b, c, d, e, rfl, hr⟩ := h
  obtain ⟨a', b', c', d', e', rfl, kr⟩ := k
  have q1 := below_one w (.cells #[.slice a.1 a.2.1 a.2.2, .slice b.1 b.2.1 b.2.2, .slice c.1 c.2.1 c.2.2, .slice d.1 d.2.1 d.2.2, .slice e.1 e.2.1 e.2.2] 27)
  have q2 := below_one (w.alloc (.cells #[.slice a.1 a.2.1 a.2.2, .slice b.1 b.2.1 b.2.2, .slice c.1 c.2.1 c.2.2, .slice d.1 d.2.1 d.2.2, .slice e.1 e.2.1 e.2.2] 27)) (.cells #[.slice a'.1 a'.2.1 a'.2.2, .slice b'.1 b'.2.1 b'.2.2, .slice c'.1 c'.2.1 c'.2.2, .slice d'.1 d'.2.1 d'.2.2, .slice e'.1 e'.2.1 e'.2.2] 27)
  have q3 := below_one ((w.alloc (.cells #[.slice a.1 a.2.1 a.2.2, .slice b.1 b.2.1 b.2.2, .slice c.1 c.2.1 c.2.2, .slice d.1 d.2.1 d.2.2, .slice e.1 e.2.1 e.2.2] 27)).alloc (.cells #[.slice a'.1 a'.2.1 a'.2.2, .slice b'.1 b'.2.1 b'.2.2, .slice c'.1 c'.2.1 c'.2.2, .slice d'.1 d'.2.1 d'.2.2, .slice e'.1 e'.2.1 e'.2.2] 27)) (.cells #[.int .i64 p, .int .i64 q] 29)
  have Q := below_after (below_after q1 q2 (Nat.le_refl _)) q3 (Nat.le_refl _)
  have G0 : Hid (BkG w a b c d e a' b' c' d' e' V U p q (((w.alloc (.cells #[.slice a.1 a.2.1 a.2.2, .slice b.1 b.2.1 b.2.2, .slice c.1 c.2.1 c.2.2, .slice d.1 d.2.1 d.2.2, .slice e.1 e.2.1 e.2.2] 27)).alloc (.cells #[.slice a'.1 a'.2.1 a'.2.2, .slice b'.1 b'.2.1 b'.2.2, .slice c'.1 c'.2.1 c'.2.2, .slice d'.1 d'.2.1 d'.2.2, .slice e'.1 e'.2.1 e'.2.2] 27)).alloc (.cells #[.int .i64 p, .int .i64 q] 29))) := Lib.hid ⟨vbox_below (vbox_below (vbox_new w a b c d e) q2) q3, by simpa using vbox_below (vbox_new (w.alloc (.cells #[.slice a.1 a.2.1 a.2.2, .slice b.1 b.2.1 b.2.2, .slice c.1 c.2.1 c.2.2, .slice d.1 d.2.1 d.2.2, .slice e.1 e.2.1 e.2.2] 27)) a' b' c' d' e') q3, hr.below Q, kr.below Q, by simpa using box_new ((w.alloc (.cells #[.slice a.1 a.2.1 a.2.2, .slice b.1 b.2.1 b.2.2, .slice c.1 c.2.1 c.2.2, .slice d.1 d.2.1 d.2.2, .slice e.1 e.2.1 e.2.2] 27)).alloc (.cells #[.slice a'.1 a'.2.1 a'.2.2, .slice b'.1 b'.2.1 b'.2.2, .slice c'.1 c'.2.1 c'.2.2, .slice d'.1 d'.2.1 d'.2.2, .slice e'.1 e'.2.1 e'.2.2] 27)) p q, Q⟩
  clear q1 q2 q3 Q hr kr
  obtain ⟨p0, p1, p2, p3, p4⟩ := vbox_cells G0.out.x
  go_enter Tryz.func5, Tryz.ntmps5
  go_wp2_with fail
  (with_reducible refine (longV_any _ V _ G0.out.r.at_).mono ?_)
  rintro e1 w1 ⟨z1, rfl, hz1, hb⟩
  have G1 := Lib.hid (G0.out.step hb)
  clear p0 p1 p2 p3 p4 G0 hb
  cases z1
  case true =>
    clear hz1
    go_wp2_with fail
    (with_reducible refine (awakeV_any _).mono ?_)
    rintro e2 w2 ⟨rfl, hb⟩
    have G2 := Lib.hid (G1.out.step hb)
    clear hb G1
    go_wp2_with fail
    go_ret
    exact ⟨rfl, G2.out.below⟩
  have LV := Lib.hid (hz1 rfl)
  clear hz1
  obtain ⟨t0, t1, t2, t3, t4⟩ := vbox_cells G1.out.y
  go_wp2_with fail
  (with_reducible refine (longV_any _ U _ G1.out.t.at_).mono ?_)
  rintro e2 w2 ⟨z2, rfl, hz2, hb⟩
  have G2 := Lib.hid (G1.out.step hb)
  clear t0 t1 t2 t3 t4 G1 hb
  cases z2
  case true =>
    clear hz2
    go_wp2_with fail
    (with_reducible refine (awakeV_any _).mono ?_)
    rintro e2 w3 ⟨rfl, hb⟩
    have G3 := Lib.hid (G2.out.step hb)
    clear hb G2
    go_wp2_with fail
    go_ret
    exact ⟨rfl, G3.out.below⟩
  have LU := Lib.hid (hz2 rfl)
  clear hz2
  go_wp2_with fail
  (with_reducible refine (awakeV_any _).mono ?_)
  rintro e2 w3 ⟨rfl, hb⟩
  have G3 := Lib.hid (G2.out.step hb)
  clear hb G2
  obtain ⟨p0, p1, p2, p3, p4⟩ := vbox_cells G3.out.x
  go_wp2_with fail
  (with_reducible refine (mayV_any _ V _ G3.out.r.at_ (LV.out.mono (by decide))).mono ?_)
  rintro e2 w4 ⟨rfl, hb⟩
  have G4 := Lib.hid (G3.out.step hb)
  clear hb G3 p0 p1 p2 p3 p4
  rcases hm1 : mayV V with _ | _
  · clear hm1
    go_wp2_with fail
    go_ret
    exact ⟨rfl, G4.out.below⟩
  have UV := Lib.hid (may_up hm1)
  clear hm1
  obtain ⟨t0, t1, t2, t3, t4⟩ := vbox_cells G4.out.y
  go_wp2_with fail
  (with_reducible refine (mayV_any _ U _ G4.out.t.at_ (LU.out.mono (by decide))).mono ?_)
  rintro e2 w5 ⟨rfl, hb⟩
  have G5 := Lib.hid (G4.out.step hb)
  clear hb G4 t0 t1 t2 t3 t4
  rcases hm2 : mayV U with _ | _
  · clear hm2
    go_wp2_with fail
    go_ret
    exact ⟨rfl, G5.out.below⟩
  have UU := Lib.hid (may_up hm2)
  have HF2 := Lib.hid (HF.out hm2)
  clear hm2 HF
  obtain ⟨p0, p1, p2, p3, p4⟩ := vbox_cells G5.out.x
  obtain ⟨t0, t1, t2, t3, t4⟩ := vbox_cells G5.out.y
  go_wp2_with fail
  (with_reducible refine (covers_any _ _ V U _ G5.out.r.at_ G5.out.t.at_ (LV.out.mono (by decide)) (LU.out.mono (by decide)) UV.out UU.out).mono ?_)
  rintro e2 w6 ⟨rfl, hb⟩
  have G6 := Lib.hid (G5.out.step hb)
  clear hb G5 p0 p1 p2 p3 p4 t0 t1 t2 t3 t4 UV UU
  rcases hc : covB V U with _ | _
  · clear hc
    go_wp2_with fail
    go_ret
    exact ⟨rfl, G6.out.below⟩
  have BF := Lib.hid (HF2.out hc)
  clear hc HF2
  obtain ⟨p0, p1, p2, p3, p4⟩ := vbox_cells G6.out.x
  obtain ⟨i1, i2⟩ := box_cells G6.out.i
  go_wp2_with fail
  (with_reducible refine (C1.out LV.out _ _ G6.out.r.m).mono ?_)
  rintro e2 w7 ⟨rfl, hb⟩
  have G7 := Lib.hid ((G6.out.step hb).step (below_one w7 (.cells #[.int .i64 x1, .int .i64 x2, .int .u8 x3, .int .i64 x4] 31)))
  have M7 := Lib.hid (mbox_new w7 x1 x2 x3 x4)
  clear hb G6 p0 p1 p2 p3 p4 i1 i2 C1
  obtain ⟨k1, k2, k3, k4⟩ := mbox_cells (mbox_new w7 0 0 0 0)
  obtain ⟨f1, f2, f3, f4⟩ := mbox_free (mbox_new w7 0 0 0 0)
  obtain ⟨t0, t1, t2, t3, t4⟩ := vbox_cells G7.out.y
  obtain ⟨i1, i2⟩ := box_cells G7.out.i
  go_wp2_with fail
  clear k1 k2 k3 k4 f1 f2 f3 f4
  (with_reducible refine (C2.out LU.out _ _ G7.out.t.m).mono ?_)
  rintro e2 w8 ⟨rfl, hb⟩
  have G8 := Lib.hid ((G7.out.step hb).step (below_one w8 (.cells #[.int .i64 y1, .int .i64 y2, .int .u8 y3, .int .i64 y4] 31)))
  have M8 := Lib.hid (mbox_below (mbox_below M7.out hb) (below_one w8 (.cells #[.int .i64 y1, .int .i64 y2, .int .u8 y3, .int .i64 y4] 31)))
  have N8 := Lib.hid (mbox_new w8 y1 y2 y3 y4)
  clear hb G7 M7 t0 t1 t2 t3 t4 i1 i2 C2
  obtain ⟨k1, k2, k3, k4⟩ := mbox_cells (mbox_new w8 0 0 0 0)
  obtain ⟨f1, f2, f3, f4⟩ := mbox_free (mbox_new w8 0 0 0 0)
  obtain ⟨p0, p1, p2, p3, p4⟩ := vbox_cells G8.out.x
  obtain ⟨i1, i2⟩ := box_cells G8.out.i
  go_wp2_with fail
  clear k1 k2 k3 k4 f1 f2 f3 f4
  (with_reducible refine (C3.out LV.out _ _ G8.out.r.f).mono ?_)
  rintro e2 w9 ⟨rfl, hb⟩
  have G9 := Lib.hid (G8.out.step hb)
  have M9 := Lib.hid (mbox_below M8.out hb)
  have N9 := Lib.hid (mbox_below N8.out hb)
  clear hb G8 M8 N8 p0 p1 p2 p3 p4 i1 i2 C3
  obtain ⟨m1, m2, m3, m4⟩ := mbox_cells M9.out
  obtain ⟨n1, n2, n3, n4⟩ := mbox_cells N9.out
  obtain ⟨t0, t1, t2, t3, t4⟩ := vbox_cells G9.out.y
  obtain ⟨i1, i2⟩ := box_cells G9.out.i
  have HD1 : Hid (decide (fB ≤ fA) = true) := Lib.hid (decide_eq_true BF.out.f4)
  have HD2 : Hid (decide (sB ≤ sA) = true) := Lib.hid (decide_eq_true BF.out.f5)
  rcases was with _ | _
  · rcases is with _ | _
    · rcases gA with _ | _
      · go_wp2_with fail
        (with_reducible refine (C4.out LU.out _ _ G9.out.t.f).mono ?_)
        rintro e2 w10 ⟨rfl, hb⟩
        have G10 := Lib.hid (G9.out.step hb)
        clear hb G9 M9 N9 m1 m2 m3 m4 n1 n2 n3 n4 t0 t1 t2 t3 t4 i1 i2 C4
        rcases gB with _ | _
        · go_wp2_with fail
          refine wp_region_due (by kernel_rfl) bkDs (bkF w.heap.size (w.heap.size + 1) (w.heap.size + 1 + 1) b b' d d' p q fA fB sA sB) (BkG w a b c d e a' b' c' d' e' V U p q) rfl (by kernel_rfl) (by kernel_rfl) (by kernel_rfl) (bkF_mono w.heap.size (w.heap.size + 1) (w.heap.size + 1 + 1) b b' d d' p q fA fB sA sB) (G10.out.step (below_drewN (n := 1) (Below.refl _ _))) ?_ ?_
          · clear G10
            refine AllDue.cons (due_met (.inl rfl) fun fr0 w1 hG hold hf K hK => ?_) ?_
            · have f3 : fr0.tmps.getD 3 undef = .pointer (some ⟨w.heap.size, 0, none⟩) := hold 3 (by kernel_rfl)
              clear hf hold
              go_simp
              exact hK _ _ hG (Below.refl _ _) rfl
            refine AllDue.cons (due_met (.inl rfl) fun fr0 w1 hG hold hf K hK => ?_) ?_
            · have f107 : fr0.tmps.getD 107 undef = .pointer (some ⟨w.heap.size, 1, none⟩) := hf 0 107 (by kernel_rfl) rfl
              have q107 := f107
              rw [Array.getD_eq_getD_getElem?] at q107
              obtain ⟨p0, p1, p2, p3, p4⟩ := vbox_cells hG.x
              clear hf hold
              go_simp
              exact hK _ _ hG (Below.refl _ _) rfl
            refine AllDue.cons (due_met (.inl rfl) fun fr0 w1 hG hold hf K hK => ?_) ?_
            · have f5 : fr0.tmps.getD 5 undef = .pointer (some ⟨w.heap.size + 1 + 1, 0, none⟩) := hold 5 (by kernel_rfl)
              clear hf hold
              go_simp
              exact hK _ _ hG (Below.refl _ _) rfl
            refine AllDue.cons (due_met (.inl rfl) fun fr0 w1 hG hold hf K hK => ?_) ?_
            · have f109 : fr0.tmps.getD 109 undef = .pointer (some ⟨w.heap.size + 1 + 1, 0, none⟩) := hf 2 109 (by kernel_rfl) rfl
              have q109 := f109
              rw [Array.getD_eq_getD_getElem?] at q109
              obtain ⟨c1, c2⟩ := box_cells hG.i
              clear hf hold
              go_simp
              exact hK _ _ hG (Below.refl _ _) rfl
            refine AllDue.cons (due_met (.inl rfl) fun fr0 w1 hG hold hf K hK => ?_) ?_
            · have f108 : fr0.tmps.getD 108 undef = .slice b.1 b.2.1 b.2.2 := hf 1 108 (by kernel_rfl) rfl
              have q108 := f108
              rw [Array.getD_eq_getD_getElem?] at q108
              have f110 : fr0.tmps.getD 110 undef = .int .i64 p := hf 3 110 (by kernel_rfl) rfl
              have q110 := f110
              rw [Array.getD_eq_getD_getElem?] at q110
              clear hf hold
              go_simp
              go_at_call 30
              (with_reducible refine (C5.out LV.out _ _ hG.r.f).mono ?_)
              rintro e0 w' ⟨rfl, h2⟩
              exact hK _ _ (hG.step h2) h2 rfl
            refine AllDue.cons (due_met (.inl rfl) fun fr0 w1 hG hold hf K hK => ?_) ?_
            · have f4 : fr0.tmps.getD 4 undef = .pointer (some ⟨w.heap.size + 1, 0, none⟩) := hold 4 (by kernel_rfl)
              clear hf hold
              go_simp
              exact hK _ _ hG (Below.refl _ _) rfl
            refine AllDue.cons (due_met (.inl rfl) fun fr0 w1 hG hold hf K hK => ?_) ?_
            · have f112 : fr0.tmps.getD 112 undef = .pointer (some ⟨w.heap.size + 1, 1, none⟩) := hf 5 112 (by kernel_rfl) rfl
              have q112 := f112
              rw [Array.getD_eq_getD_getElem?] at q112
              obtain ⟨p0, p1, p2, p3, p4⟩ := vbox_cells hG.y
              clear hf hold
              go_simp
              exact hK _ _ hG (Below.refl _ _) rfl
            refine AllDue.cons (due_met (.inl rfl) fun fr0 w1 hG hold hf K hK => ?_) ?_
            · have f5 : fr0.tmps.getD 5 undef = .pointer (some ⟨w.heap.size + 1 + 1, 0, none⟩) := hold 5 (by kernel_rfl)
              clear hf hold
              go_simp
              exact hK _ _ hG (Below.refl _ _) rfl
            refine AllDue.cons (due_met (.inl rfl) fun fr0 w1 hG hold hf K hK => ?_) ?_
            · have f114 : fr0.tmps.getD 114 undef = .pointer (some ⟨w.heap.size + 1 + 1, 0, none⟩) := hf 7 114 (by kernel_rfl) rfl
              have q114 := f114
              rw [Array.getD_eq_getD_getElem?] at q114
              obtain ⟨c1, c2⟩ := box_cells hG.i
              clear hf hold
              go_simp
              exact hK _ _ hG (Below.refl _ _) rfl
            refine AllDue.cons (due_met (.inl rfl) fun fr0 w1 hG hold hf K hK => ?_) ?_
            · have f113 : fr0.tmps.getD 113 undef = .slice b'.1 b'.2.1 b'.2.2 := hf 6 113 (by kernel_rfl) rfl
              have q113 := f113
              rw [Array.getD_eq_getD_getElem?] at q113
              have f115 : fr0.tmps.getD 115 undef = .int .i64 p := hf 8 115 (by kernel_rfl) rfl
              have q115 := f115
              rw [Array.getD_eq_getD_getElem?] at q115
              clear hf hold
              go_simp
              go_at_call 30
              (with_reducible refine (C6.out LU.out _ _ hG.t.f).mono ?_)
              rintro e0 w' ⟨rfl, h2⟩
              exact hK _ _ (hG.step h2) h2 rfl
            refine AllDue.cons (due_met (.inl rfl) fun fr0 w1 hG hold hf K hK => ?_) ?_
            · have f111 : fr0.tmps.getD 111 undef = .int .i64 fA := hf 4 111 (by kernel_rfl) rfl
              have q111 := f111
              rw [Array.getD_eq_getD_getElem?] at q111
              have f116 : fr0.tmps.getD 116 undef = .int .i64 fB := hf 9 116 (by kernel_rfl) rfl
              have q116 := f116
              rw [Array.getD_eq_getD_getElem?] at q116
              have hd0 := HD1.out
              clear hf hold
              go_simp
              exact hK _ _ hG (Below.refl _ _) rfl
            refine AllDue.cons (due_met (.inl rfl) fun fr0 w1 hG hold hf K hK => ?_) ?_
            · have f117 : fr0.tmps.getD 117 undef = .bool true := hf 10 117 (by kernel_rfl) rfl
              have q117 := f117
              rw [Array.getD_eq_getD_getElem?] at q117
              clear hf hold
              go_simp
              exact hK _ _ hG (Below.refl _ _) rfl
            refine AllDue.cons (due_met (.inr ⟨11, true, 118, rfl, rfl, by kernel_rfl, fun _ _ h => h⟩) fun fr0 w1 hG hold hf K hK => ?_) ?_
            · have f3 : fr0.tmps.getD 3 undef = .pointer (some ⟨w.heap.size, 0, none⟩) := hold 3 (by kernel_rfl)
              clear hf hold
              go_simp
              exact hK _ _ hG (Below.refl _ _) rfl
            refine AllDue.cons (due_met (.inr ⟨11, true, 118, rfl, rfl, by kernel_rfl, fun _ _ h => h⟩) fun fr0 w1 hG hold hf K hK => ?_) ?_
            · have f119 : fr0.tmps.getD 119 undef = .pointer (some ⟨w.heap.size, 3, none⟩) := hf 12 119 (by kernel_rfl) rfl
              have q119 := f119
              rw [Array.getD_eq_getD_getElem?] at q119
              obtain ⟨p0, p1, p2, p3, p4⟩ := vbox_cells hG.x
              clear hf hold
              go_simp
              exact hK _ _ hG (Below.refl _ _) rfl
            refine AllDue.cons (due_met (.inr ⟨11, true, 118, rfl, rfl, by kernel_rfl, fun _ _ h => h⟩) fun fr0 w1 hG hold hf K hK => ?_) ?_
            · have f5 : fr0.tmps.getD 5 undef = .pointer (some ⟨w.heap.size + 1 + 1, 0, none⟩) := hold 5 (by kernel_rfl)
              obtain ⟨c1, c2⟩ := box_cells hG.i
              clear hf hold
              go_simp
              exact hK _ _ hG (Below.refl _ _) rfl
            refine AllDue.cons (due_met (.inr ⟨11, true, 118, rfl, rfl, by kernel_rfl, fun _ _ h => h⟩) fun fr0 w1 hG hold hf K hK => ?_) ?_
            · have f120 : fr0.tmps.getD 120 undef = .slice d.1 d.2.1 d.2.2 := hf 13 120 (by kernel_rfl) rfl
              have q120 := f120
              rw [Array.getD_eq_getD_getElem?] at q120
              have f121 : fr0.tmps.getD 121 undef = .agg #[.int .i64 p, .int .i64 q] := hf 14 121 (by kernel_rfl) rfl
              have q121 := f121
              rw [Array.getD_eq_getD_getElem?] at q121
              clear hf hold
              go_simp
              go_at_call 31
              (with_reducible refine (C7.out LV.out _ _ hG.r.c).mono ?_)
              rintro e0 w' ⟨rfl, h2⟩
              exact hK _ _ (hG.step h2) h2 rfl
            refine AllDue.cons (due_met (.inr ⟨11, true, 118, rfl, rfl, by kernel_rfl, fun _ _ h => h⟩) fun fr0 w1 hG hold hf K hK => ?_) ?_
            · have f4 : fr0.tmps.getD 4 undef = .pointer (some ⟨w.heap.size + 1, 0, none⟩) := hold 4 (by kernel_rfl)
              clear hf hold
              go_simp
              exact hK _ _ hG (Below.refl _ _) rfl
            refine AllDue.cons (due_met (.inr ⟨11, true, 118, rfl, rfl, by kernel_rfl, fun _ _ h => h⟩) fun fr0 w1 hG hold hf K hK => ?_) ?_
            · have f123 : fr0.tmps.getD 123 undef = .pointer (some ⟨w.heap.size + 1, 3, none⟩) := hf 16 123 (by kernel_rfl) rfl
              have q123 := f123
              rw [Array.getD_eq_getD_getElem?] at q123
              obtain ⟨p0, p1, p2, p3, p4⟩ := vbox_cells hG.y
              clear hf hold
              go_simp
              exact hK _ _ hG (Below.refl _ _) rfl
            refine AllDue.cons (due_met (.inr ⟨11, true, 118, rfl, rfl, by kernel_rfl, fun _ _ h => h⟩) fun fr0 w1 hG hold hf K hK => ?_) ?_
            · have f5 : fr0.tmps.getD 5 undef = .pointer (some ⟨w.heap.size + 1 + 1, 0, none⟩) := hold 5 (by kernel_rfl)
              obtain ⟨c1, c2⟩ := box_cells hG.i
              clear hf hold
              go_simp
              exact hK _ _ hG (Below.refl _ _) rfl
            refine AllDue.cons (due_met (.inr ⟨11, true, 118, rfl, rfl, by kernel_rfl, fun _ _ h => h⟩) fun fr0 w1 hG hold hf K hK => ?_) ?_
            · have f124 : fr0.tmps.getD 124 undef = .slice d'.1 d'.2.1 d'.2.2 := hf 17 124 (by kernel_rfl) rfl
              have q124 := f124
              rw [Array.getD_eq_getD_getElem?] at q124
              have f125 : fr0.tmps.getD 125 undef = .agg #[.int .i64 p, .int .i64 q] := hf 18 125 (by kernel_rfl) rfl
              have q125 := f125
              rw [Array.getD_eq_getD_getElem?] at q125
              clear hf hold
              go_simp
              go_at_call 31
              (with_reducible refine (C8.out LU.out _ _ hG.t.c).mono ?_)
              rintro e0 w' ⟨rfl, h2⟩
              exact hK _ _ (hG.step h2) h2 rfl
            refine AllDue.cons (due_met (.inr ⟨11, true, 118, rfl, rfl, by kernel_rfl, fun _ _ h => h⟩) fun fr0 w1 hG hold hf K hK => ?_) ?_
            · have f122 : fr0.tmps.getD 122 undef = .int .i64 sA := hf 15 122 (by kernel_rfl) rfl
              have q122 := f122
              rw [Array.getD_eq_getD_getElem?] at q122
              have f126 : fr0.tmps.getD 126 undef = .int .i64 sB := hf 19 126 (by kernel_rfl) rfl
              have q126 := f126
              rw [Array.getD_eq_getD_getElem?] at q126
              have hd0 := HD2.out
              clear hf hold
              go_simp
              exact hK _ _ hG (Below.refl _ _) rfl
            refine AllDue.cons (due_met (.inl rfl) fun fr0 w1 hG hold hf K hK => ?_) ?_
            · have f118 : fr0.tmps.getD 118 undef = .bool true := hf 11 118 (by kernel_rfl) rfl
              have q118 := f118
              rw [Array.getD_eq_getD_getElem?] at q118
              have f127 : fr0.tmps.getD 127 undef = .bool true := hf 20 127 (by kernel_rfl) rfl
              have q127 := f127
              rw [Array.getD_eq_getD_getElem?] at q127
              clear hf hold
              go_simp
              exact hK _ _ hG (Below.refl _ _) rfl
            refine AllDue.cons (due_met (.inl rfl) fun fr0 w1 hG hold hf K hK => ?_) ?_
            · have f128 : fr0.tmps.getD 128 undef = .bool true := hf 21 128 (by kernel_rfl) rfl
              have q128 := f128
              rw [Array.getD_eq_getD_getElem?] at q128
              clear hf hold
              go_simp
              exact hK _ _ hG (Below.refl _ _) rfl
            exact AllDue.nil
          · intro ac w11 hG hd hs hold hf
            have f6 : ac.tmps.getD 6 undef = .bool true := hf 22 6 rfl
            clear hf hold
            go_wp2_with fail
            refine bodyPost_ret (results_tmp rfl _ _ _) hd ?_
            exact ⟨by rw [f6], hG.below⟩
        · exact absurd (BF.out.f3 rfl) (by decide)
      · go_wp2_with fail
        (with_reducible refine (C4.out LU.out _ _ G9.out.t.f).mono ?_)
        rintro e2 w10 ⟨rfl, hb⟩
        have G10 := Lib.hid (G9.out.step hb)
        clear hb G9 M9 N9 m1 m2 m3 m4 n1 n2 n3 n4 t0 t1 t2 t3 t4 i1 i2 C4
        rcases gB with _ | _
        · go_wp2_with fail
          refine wp_region_due (by kernel_rfl) bkDs (bkF w.heap.size (w.heap.size + 1) (w.heap.size + 1 + 1) b b' d d' p q fA fB sA sB) (BkG w a b c d e a' b' c' d' e' V U p q) rfl (by kernel_rfl) (by kernel_rfl) (by kernel_rfl) (bkF_mono w.heap.size (w.heap.size + 1) (w.heap.size + 1 + 1) b b' d d' p q fA fB sA sB) (G10.out.step (below_drewN (n := 1) (Below.refl _ _))) ?_ ?_
          · clear G10
            refine AllDue.cons (due_met (.inl rfl) fun fr0 w1 hG hold hf K hK => ?_) ?_
            · have f3 : fr0.tmps.getD 3 undef = .pointer (some ⟨w.heap.size, 0, none⟩) := hold 3 (by kernel_rfl)
              clear hf hold
              go_simp
              exact hK _ _ hG (Below.refl _ _) rfl
            refine AllDue.cons (due_met (.inl rfl) fun fr0 w1 hG hold hf K hK => ?_) ?_
            · have f107 : fr0.tmps.getD 107 undef = .pointer (some ⟨w.heap.size, 1, none⟩) := hf 0 107 (by kernel_rfl) rfl
              have q107 := f107
              rw [Array.getD_eq_getD_getElem?] at q107
              obtain ⟨p0, p1, p2, p3, p4⟩ := vbox_cells hG.x
              clear hf hold
              go_simp
              exact hK _ _ hG (Below.refl _ _) rfl
            refine AllDue.cons (due_met (.inl rfl) fun fr0 w1 hG hold hf K hK => ?_) ?_
            · have f5 : fr0.tmps.getD 5 undef = .pointer (some ⟨w.heap.size + 1 + 1, 0, none⟩) := hold 5 (by kernel_rfl)
              clear hf hold
              go_simp
              exact hK _ _ hG (Below.refl _ _) rfl
            refine AllDue.cons (due_met (.inl rfl) fun fr0 w1 hG hold hf K hK => ?_) ?_
            · have f109 : fr0.tmps.getD 109 undef = .pointer (some ⟨w.heap.size + 1 + 1, 0, none⟩) := hf 2 109 (by kernel_rfl) rfl
              have q109 := f109
              rw [Array.getD_eq_getD_getElem?] at q109
              obtain ⟨c1, c2⟩ := box_cells hG.i
              clear hf hold
              go_simp
              exact hK _ _ hG (Below.refl _ _) rfl
            refine AllDue.cons (due_met (.inl rfl) fun fr0 w1 hG hold hf K hK => ?_) ?_
            · have f108 : fr0.tmps.getD 108 undef = .slice b.1 b.2.1 b.2.2 := hf 1 108 (by kernel_rfl) rfl
              have q108 := f108
              rw [Array.getD_eq_getD_getElem?] at q108
              have f110 : fr0.tmps.getD 110 undef = .int .i64 p := hf 3 110 (by kernel_rfl) rfl
              have q110 := f110
              rw [Array.getD_eq_getD_getElem?] at q110
              clear hf hold
              go_simp
              go_at_call 30
              (with_reducible refine (C5.out LV.out _ _ hG.r.f).mono ?_)
              rintro e0 w' ⟨rfl, h2⟩
              exact hK _ _ (hG.step h2) h2 rfl
            refine AllDue.cons (due_met (.inl rfl) fun fr0 w1 hG hold hf K hK => ?_) ?_
            · have f4 : fr0.tmps.getD 4 undef = .pointer (some ⟨w.heap.size + 1, 0, none⟩) := hold 4 (by kernel_rfl)
              clear hf hold
              go_simp
              exact hK _ _ hG (Below.refl _ _) rfl
            refine AllDue.cons (due_met (.inl rfl) fun fr0 w1 hG hold hf K hK => ?_) ?_
            · have f112 : fr0.tmps.getD 112 undef = .pointer (some ⟨w.heap.size + 1, 1, none⟩) := hf 5 112 (by kernel_rfl) rfl
              have q112 := f112
              rw [Array.getD_eq_getD_getElem?] at q112
              obtain ⟨p0, p1, p2, p3, p4⟩ := vbox_cells hG.y
              clear hf hold
              go_simp
              exact hK _ _ hG (Below.refl _ _) rfl
            refine AllDue.cons (due_met (.inl rfl) fun fr0 w1 hG hold hf K hK => ?_) ?_
            · have f5 : fr0.tmps.getD 5 undef = .pointer (some ⟨w.heap.size + 1 + 1, 0, none⟩) := hold 5 (by kernel_rfl)
              clear hf hold
              go_simp
              exact hK _ _ hG (Below.refl _ _) rfl
            refine AllDue.cons (due_met (.inl rfl) fun fr0 w1 hG hold hf K hK => ?_) ?_
            · have f114 : fr0.tmps.getD 114 undef = .pointer (some ⟨w.heap.size + 1 + 1, 0, none⟩) := hf 7 114 (by kernel_rfl) rfl
              have q114 := f114
              rw [Array.getD_eq_getD_getElem?] at q114
              obtain ⟨c1, c2⟩ := box_cells hG.i
              clear hf hold
              go_simp
              exact hK _ _ hG (Below.refl _ _) rfl
            refine AllDue.cons (due_met (.inl rfl) fun fr0 w1 hG hold hf K hK => ?_) ?_
            · have f113 : fr0.tmps.getD 113 undef = .slice b'.1 b'.2.1 b'.2.2 := hf 6 113 (by kernel_rfl) rfl
              have q113 := f113
              rw [Array.getD_eq_getD_getElem?] at q113
              have f115 : fr0.tmps.getD 115 undef = .int .i64 p := hf 8 115 (by kernel_rfl) rfl
              have q115 := f115
              rw [Array.getD_eq_getD_getElem?] at q115
              clear hf hold
              go_simp
              go_at_call 30
              (with_reducible refine (C6.out LU.out _ _ hG.t.f).mono ?_)
              rintro e0 w' ⟨rfl, h2⟩
              exact hK _ _ (hG.step h2) h2 rfl
            refine AllDue.cons (due_met (.inl rfl) fun fr0 w1 hG hold hf K hK => ?_) ?_
            · have f111 : fr0.tmps.getD 111 undef = .int .i64 fA := hf 4 111 (by kernel_rfl) rfl
              have q111 := f111
              rw [Array.getD_eq_getD_getElem?] at q111
              have f116 : fr0.tmps.getD 116 undef = .int .i64 fB := hf 9 116 (by kernel_rfl) rfl
              have q116 := f116
              rw [Array.getD_eq_getD_getElem?] at q116
              have hd0 := HD1.out
              clear hf hold
              go_simp
              exact hK _ _ hG (Below.refl _ _) rfl
            refine AllDue.cons (due_met (.inl rfl) fun fr0 w1 hG hold hf K hK => ?_) ?_
            · have f117 : fr0.tmps.getD 117 undef = .bool true := hf 10 117 (by kernel_rfl) rfl
              have q117 := f117
              rw [Array.getD_eq_getD_getElem?] at q117
              clear hf hold
              go_simp
              exact hK _ _ hG (Below.refl _ _) rfl
            refine AllDue.cons (due_met (.inr ⟨11, true, 118, rfl, rfl, by kernel_rfl, fun _ _ h => h⟩) fun fr0 w1 hG hold hf K hK => ?_) ?_
            · have f3 : fr0.tmps.getD 3 undef = .pointer (some ⟨w.heap.size, 0, none⟩) := hold 3 (by kernel_rfl)
              clear hf hold
              go_simp
              exact hK _ _ hG (Below.refl _ _) rfl
            refine AllDue.cons (due_met (.inr ⟨11, true, 118, rfl, rfl, by kernel_rfl, fun _ _ h => h⟩) fun fr0 w1 hG hold hf K hK => ?_) ?_
            · have f119 : fr0.tmps.getD 119 undef = .pointer (some ⟨w.heap.size, 3, none⟩) := hf 12 119 (by kernel_rfl) rfl
              have q119 := f119
              rw [Array.getD_eq_getD_getElem?] at q119
              obtain ⟨p0, p1, p2, p3, p4⟩ := vbox_cells hG.x
              clear hf hold
              go_simp
              exact hK _ _ hG (Below.refl _ _) rfl
            refine AllDue.cons (due_met (.inr ⟨11, true, 118, rfl, rfl, by kernel_rfl, fun _ _ h => h⟩) fun fr0 w1 hG hold hf K hK => ?_) ?_
            · have f5 : fr0.tmps.getD 5 undef = .pointer (some ⟨w.heap.size + 1 + 1, 0, none⟩) := hold 5 (by kernel_rfl)
              obtain ⟨c1, c2⟩ := box_cells hG.i
              clear hf hold
              go_simp
              exact hK _ _ hG (Below.refl _ _) rfl
            refine AllDue.cons (due_met (.inr ⟨11, true, 118, rfl, rfl, by kernel_rfl, fun _ _ h => h⟩) fun fr0 w1 hG hold hf K hK => ?_) ?_
            · have f120 : fr0.tmps.getD 120 undef = .slice d.1 d.2.1 d.2.2 := hf 13 120 (by kernel_rfl) rfl
              have q120 := f120
              rw [Array.getD_eq_getD_getElem?] at q120
              have f121 : fr0.tmps.getD 121 undef = .agg #[.int .i64 p, .int .i64 q] := hf 14 121 (by kernel_rfl) rfl
              have q121 := f121
              rw [Array.getD_eq_getD_getElem?] at q121
              clear hf hold
              go_simp
              go_at_call 31
              (with_reducible refine (C7.out LV.out _ _ hG.r.c).mono ?_)
              rintro e0 w' ⟨rfl, h2⟩
              exact hK _ _ (hG.step h2) h2 rfl
            refine AllDue.cons (due_met (.inr ⟨11, true, 118, rfl, rfl, by kernel_rfl, fun _ _ h => h⟩) fun fr0 w1 hG hold hf K hK => ?_) ?_
            · have f4 : fr0.tmps.getD 4 undef = .pointer (some ⟨w.heap.size + 1, 0, none⟩) := hold 4 (by kernel_rfl)
              clear hf hold
              go_simp
              exact hK _ _ hG (Below.refl _ _) rfl
            refine AllDue.cons (due_met (.inr ⟨11, true, 118, rfl, rfl, by kernel_rfl, fun _ _ h => h⟩) fun fr0 w1 hG hold hf K hK => ?_) ?_
            · have f123 : fr0.tmps.getD 123 undef = .pointer (some ⟨w.heap.size + 1, 3, none⟩) := hf 16 123 (by kernel_rfl) rfl
              have q123 := f123
              rw [Array.getD_eq_getD_getElem?] at q123
              obtain ⟨p0, p1, p2, p3, p4⟩ := vbox_cells hG.y
              clear hf hold
              go_simp
              exact hK _ _ hG (Below.refl _ _) rfl
            refine AllDue.cons (due_met (.inr ⟨11, true, 118, rfl, rfl, by kernel_rfl, fun _ _ h => h⟩) fun fr0 w1 hG hold hf K hK => ?_) ?_
            · have f5 : fr0.tmps.getD 5 undef = .pointer (some ⟨w.heap.size + 1 + 1, 0, none⟩) := hold 5 (by kernel_rfl)
              obtain ⟨c1, c2⟩ := box_cells hG.i
              clear hf hold
              go_simp
              exact hK _ _ hG (Below.refl _ _) rfl
            refine AllDue.cons (due_met (.inr ⟨11, true, 118, rfl, rfl, by kernel_rfl, fun _ _ h => h⟩) fun fr0 w1 hG hold hf K hK => ?_) ?_
            · have f124 : fr0.tmps.getD 124 undef = .slice d'.1 d'.2.1 d'.2.2 := hf 17 124 (by kernel_rfl) rfl
              have q124 := f124
              rw [Array.getD_eq_getD_getElem?] at q124
              have f125 : fr0.tmps.getD 125 undef = .agg #[.int .i64 p, .int .i64 q] := hf 18 125 (by kernel_rfl) rfl
              have q125 := f125
              rw [Array.getD_eq_getD_getElem?] at q125
              clear hf hold
              go_simp
              go_at_call 31
              (with_reducible refine (C8.out LU.out _ _ hG.t.c).mono ?_)
              rintro e0 w' ⟨rfl, h2⟩
              exact hK _ _ (hG.step h2) h2 rfl
            refine AllDue.cons (due_met (.inr ⟨11, true, 118, rfl, rfl, by kernel_rfl, fun _ _ h => h⟩) fun fr0 w1 hG hold hf K hK => ?_) ?_
            · have f122 : fr0.tmps.getD 122 undef = .int .i64 sA := hf 15 122 (by kernel_rfl) rfl
              have q122 := f122
              rw [Array.getD_eq_getD_getElem?] at q122
              have f126 : fr0.tmps.getD 126 undef = .int .i64 sB := hf 19 126 (by kernel_rfl) rfl
              have q126 := f126
              rw [Array.getD_eq_getD_getElem?] at q126
              have hd0 := HD2.out
              clear hf hold
              go_simp
              exact hK _ _ hG (Below.refl _ _) rfl
            refine AllDue.cons (due_met (.inl rfl) fun fr0 w1 hG hold hf K hK => ?_) ?_
            · have f118 : fr0.tmps.getD 118 undef = .bool true := hf 11 118 (by kernel_rfl) rfl
              have q118 := f118
              rw [Array.getD_eq_getD_getElem?] at q118
              have f127 : fr0.tmps.getD 127 undef = .bool true := hf 20 127 (by kernel_rfl) rfl
              have q127 := f127
              rw [Array.getD_eq_getD_getElem?] at q127
              clear hf hold
              go_simp
              exact hK _ _ hG (Below.refl _ _) rfl
            refine AllDue.cons (due_met (.inl rfl) fun fr0 w1 hG hold hf K hK => ?_) ?_
            · have f128 : fr0.tmps.getD 128 undef = .bool true := hf 21 128 (by kernel_rfl) rfl
              have q128 := f128
              rw [Array.getD_eq_getD_getElem?] at q128
              clear hf hold
              go_simp
              exact hK _ _ hG (Below.refl _ _) rfl
            exact AllDue.nil
          · intro ac w11 hG hd hs hold hf
            have f6 : ac.tmps.getD 6 undef = .bool true := hf 22 6 rfl
            clear hf hold
            go_wp2_with fail
            refine bodyPost_ret (results_tmp rfl _ _ _) hd ?_
            exact ⟨by rw [f6], hG.below⟩
        · go_wp2_with fail
          refine wp_region_due (by kernel_rfl) bkDs (bkF w.heap.size (w.heap.size + 1) (w.heap.size + 1 + 1) b b' d d' p q fA fB sA sB) (BkG w a b c d e a' b' c' d' e' V U p q) rfl (by kernel_rfl) (by kernel_rfl) (by kernel_rfl) (bkF_mono w.heap.size (w.heap.size + 1) (w.heap.size + 1 + 1) b b' d d' p q fA fB sA sB) (G10.out.step (below_drewN (n := 1) (Below.refl _ _))) ?_ ?_
          · clear G10
            refine AllDue.cons (due_met (.inl rfl) fun fr0 w1 hG hold hf K hK => ?_) ?_
            · have f3 : fr0.tmps.getD 3 undef = .pointer (some ⟨w.heap.size, 0, none⟩) := hold 3 (by kernel_rfl)
              clear hf hold
              go_simp
              exact hK _ _ hG (Below.refl _ _) rfl
            refine AllDue.cons (due_met (.inl rfl) fun fr0 w1 hG hold hf K hK => ?_) ?_
            · have f107 : fr0.tmps.getD 107 undef = .pointer (some ⟨w.heap.size, 1, none⟩) := hf 0 107 (by kernel_rfl) rfl
              have q107 := f107
              rw [Array.getD_eq_getD_getElem?] at q107
              obtain ⟨p0, p1, p2, p3, p4⟩ := vbox_cells hG.x
              clear hf hold
              go_simp
              exact hK _ _ hG (Below.refl _ _) rfl
            refine AllDue.cons (due_met (.inl rfl) fun fr0 w1 hG hold hf K hK => ?_) ?_
            · have f5 : fr0.tmps.getD 5 undef = .pointer (some ⟨w.heap.size + 1 + 1, 0, none⟩) := hold 5 (by kernel_rfl)
              clear hf hold
              go_simp
              exact hK _ _ hG (Below.refl _ _) rfl
            refine AllDue.cons (due_met (.inl rfl) fun fr0 w1 hG hold hf K hK => ?_) ?_
            · have f109 : fr0.tmps.getD 109 undef = .pointer (some ⟨w.heap.size + 1 + 1, 0, none⟩) := hf 2 109 (by kernel_rfl) rfl
              have q109 := f109
              rw [Array.getD_eq_getD_getElem?] at q109
              obtain ⟨c1, c2⟩ := box_cells hG.i
              clear hf hold
              go_simp
              exact hK _ _ hG (Below.refl _ _) rfl
            refine AllDue.cons (due_met (.inl rfl) fun fr0 w1 hG hold hf K hK => ?_) ?_
            · have f108 : fr0.tmps.getD 108 undef = .slice b.1 b.2.1 b.2.2 := hf 1 108 (by kernel_rfl) rfl
              have q108 := f108
              rw [Array.getD_eq_getD_getElem?] at q108
              have f110 : fr0.tmps.getD 110 undef = .int .i64 p := hf 3 110 (by kernel_rfl) rfl
              have q110 := f110
              rw [Array.getD_eq_getD_getElem?] at q110
              clear hf hold
              go_simp
              go_at_call 30
              (with_reducible refine (C5.out LV.out _ _ hG.r.f).mono ?_)
              rintro e0 w' ⟨rfl, h2⟩
              exact hK _ _ (hG.step h2) h2 rfl
            refine AllDue.cons (due_met (.inl rfl) fun fr0 w1 hG hold hf K hK => ?_) ?_
            · have f4 : fr0.tmps.getD 4 undef = .pointer (some ⟨w.heap.size + 1, 0, none⟩) := hold 4 (by kernel_rfl)
              clear hf hold
              go_simp
              exact hK _ _ hG (Below.refl _ _) rfl
            refine AllDue.cons (due_met (.inl rfl) fun fr0 w1 hG hold hf K hK => ?_) ?_
            · have f112 : fr0.tmps.getD 112 undef = .pointer (some ⟨w.heap.size + 1, 1, none⟩) := hf 5 112 (by kernel_rfl) rfl
              have q112 := f112
              rw [Array.getD_eq_getD_getElem?] at q112
              obtain ⟨p0, p1, p2, p3, p4⟩ := vbox_cells hG.y
              clear hf hold
              go_simp
              exact hK _ _ hG (Below.refl _ _) rfl
            refine AllDue.cons (due_met (.inl rfl) fun fr0 w1 hG hold hf K hK => ?_) ?_
            · have f5 : fr0.tmps.getD 5 undef = .pointer (some ⟨w.heap.size + 1 + 1, 0, none⟩) := hold 5 (by kernel_rfl)
              clear hf hold
              go_simp
              exact hK _ _ hG (Below.refl _ _) rfl
            refine AllDue.cons (due_met (.inl rfl) fun fr0 w1 hG hold hf K hK => ?_) ?_
            · have f114 : fr0.tmps.getD 114 undef = .pointer (some ⟨w.heap.size + 1 + 1, 0, none⟩) := hf 7 114 (by kernel_rfl) rfl
              have q114 := f114
              rw [Array.getD_eq_getD_getElem?] at q114
              obtain ⟨c1, c2⟩ := box_cells hG.i
              clear hf hold
              go_simp
              exact hK _ _ hG (Below.refl _ _) rfl
            refine AllDue.cons (due_met (.inl rfl) fun fr0 w1 hG hold hf K hK => ?_) ?_
            · have f113 : fr0.tmps.getD 113 undef = .slice b'.1 b'.2.1 b'.2.2 := hf 6 113 (by kernel_rfl) rfl
              have q113 := f113
              rw [Array.getD_eq_getD_getElem?] at q113
              have f115 : fr0.tmps.getD 115 undef = .int .i64 p := hf 8 115 (by kernel_rfl) rfl
              have q115 := f115
              rw [Array.getD_eq_getD_getElem?] at q115
              clear hf hold
              go_simp
              go_at_call 30
              (with_reducible refine (C6.out LU.out _ _ hG.t.f).mono ?_)
              rintro e0 w' ⟨rfl, h2⟩
              exact hK _ _ (hG.step h2) h2 rfl
            refine AllDue.cons (due_met (.inl rfl) fun fr0 w1 hG hold hf K hK => ?_) ?_
            · have f111 : fr0.tmps.getD 111 undef = .int .i64 fA := hf 4 111 (by kernel_rfl) rfl
              have q111 := f111
              rw [Array.getD_eq_getD_getElem?] at q111
              have f116 : fr0.tmps.getD 116 undef = .int .i64 fB := hf 9 116 (by kernel_rfl) rfl
              have q116 := f116
              rw [Array.getD_eq_getD_getElem?] at q116
              have hd0 := HD1.out
              clear hf hold
              go_simp
              exact hK _ _ hG (Below.refl _ _) rfl
            refine AllDue.cons (due_met (.inl rfl) fun fr0 w1 hG hold hf K hK => ?_) ?_
            · have f117 : fr0.tmps.getD 117 undef = .bool true := hf 10 117 (by kernel_rfl) rfl
              have q117 := f117
              rw [Array.getD_eq_getD_getElem?] at q117
              clear hf hold
              go_simp
              exact hK _ _ hG (Below.refl _ _) rfl
            refine AllDue.cons (due_met (.inr ⟨11, true, 118, rfl, rfl, by kernel_rfl, fun _ _ h => h⟩) fun fr0 w1 hG hold hf K hK => ?_) ?_
            · have f3 : fr0.tmps.getD 3 undef = .pointer (some ⟨w.heap.size, 0, none⟩) := hold 3 (by kernel_rfl)
              clear hf hold
              go_simp
              exact hK _ _ hG (Below.refl _ _) rfl
            refine AllDue.cons (due_met (.inr ⟨11, true, 118, rfl, rfl, by kernel_rfl, fun _ _ h => h⟩) fun fr0 w1 hG hold hf K hK => ?_) ?_
            · have f119 : fr0.tmps.getD 119 undef = .pointer (some ⟨w.heap.size, 3, none⟩) := hf 12 119 (by kernel_rfl) rfl
              have q119 := f119
              rw [Array.getD_eq_getD_getElem?] at q119
              obtain ⟨p0, p1, p2, p3, p4⟩ := vbox_cells hG.x
              clear hf hold
              go_simp
              exact hK _ _ hG (Below.refl _ _) rfl
            refine AllDue.cons (due_met (.inr ⟨11, true, 118, rfl, rfl, by kernel_rfl, fun _ _ h => h⟩) fun fr0 w1 hG hold hf K hK => ?_) ?_
            · have f5 : fr0.tmps.getD 5 undef = .pointer (some ⟨w.heap.size + 1 + 1, 0, none⟩) := hold 5 (by kernel_rfl)
              obtain ⟨c1, c2⟩ := box_cells hG.i
              clear hf hold
              go_simp
              exact hK _ _ hG (Below.refl _ _) rfl
            refine AllDue.cons (due_met (.inr ⟨11, true, 118, rfl, rfl, by kernel_rfl, fun _ _ h => h⟩) fun fr0 w1 hG hold hf K hK => ?_) ?_
            · have f120 : fr0.tmps.getD 120 undef = .slice d.1 d.2.1 d.2.2 := hf 13 120 (by kernel_rfl) rfl
              have q120 := f120
              rw [Array.getD_eq_getD_getElem?] at q120
              have f121 : fr0.tmps.getD 121 undef = .agg #[.int .i64 p, .int .i64 q] := hf 14 121 (by kernel_rfl) rfl
              have q121 := f121
              rw [Array.getD_eq_getD_getElem?] at q121
              clear hf hold
              go_simp
              go_at_call 31
              (with_reducible refine (C7.out LV.out _ _ hG.r.c).mono ?_)
              rintro e0 w' ⟨rfl, h2⟩
              exact hK _ _ (hG.step h2) h2 rfl
            refine AllDue.cons (due_met (.inr ⟨11, true, 118, rfl, rfl, by kernel_rfl, fun _ _ h => h⟩) fun fr0 w1 hG hold hf K hK => ?_) ?_
            · have f4 : fr0.tmps.getD 4 undef = .pointer (some ⟨w.heap.size + 1, 0, none⟩) := hold 4 (by kernel_rfl)
              clear hf hold
              go_simp
              exact hK _ _ hG (Below.refl _ _) rfl
            refine AllDue.cons (due_met (.inr ⟨11, true, 118, rfl, rfl, by kernel_rfl, fun _ _ h => h⟩) fun fr0 w1 hG hold hf K hK => ?_) ?_
            · have f123 : fr0.tmps.getD 123 undef = .pointer (some ⟨w.heap.size + 1, 3, none⟩) := hf 16 123 (by kernel_rfl) rfl
              have q123 := f123
              rw [Array.getD_eq_getD_getElem?] at q123
              obtain ⟨p0, p1, p2, p3, p4⟩ := vbox_cells hG.y
              clear hf hold
              go_simp
              exact hK _ _ hG (Below.refl _ _) rfl
            refine AllDue.cons (due_met (.inr ⟨11, true, 118, rfl, rfl, by kernel_rfl, fun _ _ h => h⟩) fun fr0 w1 hG hold hf K hK => ?_) ?_
            · have f5 : fr0.tmps.getD 5 undef = .pointer (some ⟨w.heap.size + 1 + 1, 0, none⟩) := hold 5 (by kernel_rfl)
              obtain ⟨c1, c2⟩ := box_cells hG.i
              clear hf hold
              go_simp
              exact hK _ _ hG (Below.refl _ _) rfl
            refine AllDue.cons (due_met (.inr ⟨11, true, 118, rfl, rfl, by kernel_rfl, fun _ _ h => h⟩) fun fr0 w1 hG hold hf K hK => ?_) ?_
            · have f124 : fr0.tmps.getD 124 undef = .slice d'.1 d'.2.1 d'.2.2 := hf 17 124 (by kernel_rfl) rfl
              have q124 := f124
              rw [Array.getD_eq_getD_getElem?] at q124
              have f125 : fr0.tmps.getD 125 undef = .agg #[.int .i64 p, .int .i64 q] := hf 18 125 (by kernel_rfl) rfl
              have q125 := f125
              rw [Array.getD_eq_getD_getElem?] at q125
              clear hf hold
              go_simp
              go_at_call 31
              (with_reducible refine (C8.out LU.out _ _ hG.t.c).mono ?_)
              rintro e0 w' ⟨rfl, h2⟩
              exact hK _ _ (hG.step h2) h2 rfl
            refine AllDue.cons (due_met (.inr ⟨11, true, 118, rfl, rfl, by kernel_rfl, fun _ _ h => h⟩) fun fr0 w1 hG hold hf K hK => ?_) ?_
            · have f122 : fr0.tmps.getD 122 undef = .int .i64 sA := hf 15 122 (by kernel_rfl) rfl
              have q122 := f122
              rw [Array.getD_eq_getD_getElem?] at q122
              have f126 : fr0.tmps.getD 126 undef = .int .i64 sB := hf 19 126 (by kernel_rfl) rfl
              have q126 := f126
              rw [Array.getD_eq_getD_getElem?] at q126
              have hd0 := HD2.out
              clear hf hold
              go_simp
              exact hK _ _ hG (Below.refl _ _) rfl
            refine AllDue.cons (due_met (.inl rfl) fun fr0 w1 hG hold hf K hK => ?_) ?_
            · have f118 : fr0.tmps.getD 118 undef = .bool true := hf 11 118 (by kernel_rfl) rfl
              have q118 := f118
              rw [Array.getD_eq_getD_getElem?] at q118
              have f127 : fr0.tmps.getD 127 undef = .bool true := hf 20 127 (by kernel_rfl) rfl
              have q127 := f127
              rw [Array.getD_eq_getD_getElem?] at q127
              clear hf hold
              go_simp
              exact hK _ _ hG (Below.refl _ _) rfl
            refine AllDue.cons (due_met (.inl rfl) fun fr0 w1 hG hold hf K hK => ?_) ?_
            · have f128 : fr0.tmps.getD 128 undef = .bool true := hf 21 128 (by kernel_rfl) rfl
              have q128 := f128
              rw [Array.getD_eq_getD_getElem?] at q128
              clear hf hold
              go_simp
              exact hK _ _ hG (Below.refl _ _) rfl
            exact AllDue.nil
          · intro ac w11 hG hd hs hold hf
            have f6 : ac.tmps.getD 6 undef = .bool true := hf 22 6 rfl
            clear hf hold
            go_wp2_with fail
            refine bodyPost_ret (results_tmp rfl _ _ _) hd ?_
            exact ⟨by rw [f6], hG.below⟩
    · rcases gA with _ | _
      · go_wp2_with fail
        (with_reducible refine (C4.out LU.out _ _ G9.out.t.f).mono ?_)
        rintro e2 w10 ⟨rfl, hb⟩
        have G10 := Lib.hid (G9.out.step hb)
        clear hb G9 M9 N9 m1 m2 m3 m4 n1 n2 n3 n4 t0 t1 t2 t3 t4 i1 i2 C4
        rcases gB with _ | _
        · go_wp2_with fail
          refine wp_region_due (by kernel_rfl) bkDs (bkF w.heap.size (w.heap.size + 1) (w.heap.size + 1 + 1) b b' d d' p q fA fB sA sB) (BkG w a b c d e a' b' c' d' e' V U p q) rfl (by kernel_rfl) (by kernel_rfl) (by kernel_rfl) (bkF_mono w.heap.size (w.heap.size + 1) (w.heap.size + 1 + 1) b b' d d' p q fA fB sA sB) (G10.out.step (below_drewN (n := 1) (Below.refl _ _))) ?_ ?_
          · clear G10
            refine AllDue.cons (due_met (.inl rfl) fun fr0 w1 hG hold hf K hK => ?_) ?_
            · have f3 : fr0.tmps.getD 3 undef = .pointer (some ⟨w.heap.size, 0, none⟩) := hold 3 (by kernel_rfl)
              clear hf hold
              go_simp
              exact hK _ _ hG (Below.refl _ _) rfl
            refine AllDue.cons (due_met (.inl rfl) fun fr0 w1 hG hold hf K hK => ?_) ?_
            · have f107 : fr0.tmps.getD 107 undef = .pointer (some ⟨w.heap.size, 1, none⟩) := hf 0 107 (by kernel_rfl) rfl
              have q107 := f107
              rw [Array.getD_eq_getD_getElem?] at q107
              obtain ⟨p0, p1, p2, p3, p4⟩ := vbox_cells hG.x
              clear hf hold
              go_simp
              exact hK _ _ hG (Below.refl _ _) rfl
            refine AllDue.cons (due_met (.inl rfl) fun fr0 w1 hG hold hf K hK => ?_) ?_
            · have f5 : fr0.tmps.getD 5 undef = .pointer (some ⟨w.heap.size + 1 + 1, 0, none⟩) := hold 5 (by kernel_rfl)
              clear hf hold
              go_simp
              exact hK _ _ hG (Below.refl _ _) rfl
            refine AllDue.cons (due_met (.inl rfl) fun fr0 w1 hG hold hf K hK => ?_) ?_
            · have f109 : fr0.tmps.getD 109 undef = .pointer (some ⟨w.heap.size + 1 + 1, 0, none⟩) := hf 2 109 (by kernel_rfl) rfl
              have q109 := f109
              rw [Array.getD_eq_getD_getElem?] at q109
              obtain ⟨c1, c2⟩ := box_cells hG.i
              clear hf hold
              go_simp
              exact hK _ _ hG (Below.refl _ _) rfl
            refine AllDue.cons (due_met (.inl rfl) fun fr0 w1 hG hold hf K hK => ?_) ?_
            · have f108 : fr0.tmps.getD 108 undef = .slice b.1 b.2.1 b.2.2 := hf 1 108 (by kernel_rfl) rfl
              have q108 := f108
              rw [Array.getD_eq_getD_getElem?] at q108
              have f110 : fr0.tmps.getD 110 undef = .int .i64 p := hf 3 110 (by kernel_rfl) rfl
              have q110 := f110
              rw [Array.getD_eq_getD_getElem?] at q110
              clear hf hold
              go_simp
              go_at_call 30
              (with_reducible refine (C5.out LV.out _ _ hG.r.f).mono ?_)
              rintro e0 w' ⟨rfl, h2⟩
              exact hK _ _ (hG.step h2) h2 rfl
            refine AllDue.cons (due_met (.inl rfl) fun fr0 w1 hG hold hf K hK => ?_) ?_
            · have f4 : fr0.tmps.getD 4 undef = .pointer (some ⟨w.heap.size + 1, 0, none⟩) := hold 4 (by kernel_rfl)
              clear hf hold
              go_simp
              exact hK _ _ hG (Below.refl _ _) rfl
            refine AllDue.cons (due_met (.inl rfl) fun fr0 w1 hG hold hf K hK => ?_) ?_
            · have f112 : fr0.tmps.getD 112 undef = .pointer (some ⟨w.heap.size + 1, 1, none⟩) := hf 5 112 (by kernel_rfl) rfl
              have q112 := f112
              rw [Array.getD_eq_getD_getElem?] at q112
              obtain ⟨p0, p1, p2, p3, p4⟩ := vbox_cells hG.y
              clear hf hold
              go_simp
              exact hK _ _ hG (Below.refl _ _) rfl
            refine AllDue.cons (due_met (.inl rfl) fun fr0 w1 hG hold hf K hK => ?_) ?_
            · have f5 : fr0.tmps.getD 5 undef = .pointer (some ⟨w.heap.size + 1 + 1, 0, none⟩) := hold 5 (by kernel_rfl)
              clear hf hold
              go_simp
              exact hK _ _ hG (Below.refl _ _) rfl
            refine AllDue.cons (due_met (.inl rfl) fun fr0 w1 hG hold hf K hK => ?_) ?_
            · have f114 : fr0.tmps.getD 114 undef = .pointer (some ⟨w.heap.size + 1 + 1, 0, none⟩) := hf 7 114 (by kernel_rfl) rfl
              have q114 := f114
              rw [Array.getD_eq_getD_getElem?] at q114
              obtain ⟨c1, c2⟩ := box_cells hG.i
              clear hf hold
              go_simp
              exact hK _ _ hG (Below.refl _ _) rfl
            refine AllDue.cons (due_met (.inl rfl) fun fr0 w1 hG hold hf K hK => ?_) ?_
            · have f113 : fr0.tmps.getD 113 undef = .slice b'.1 b'.2.1 b'.2.2 := hf 6 113 (by kernel_rfl) rfl
              have q113 := f113
              rw [Array.getD_eq_getD_getElem?] at q113
              have f115 : fr0.tmps.getD 115 undef = .int .i64 p := hf 8 115 (by kernel_rfl) rfl
              have q115 := f115
              rw [Array.getD_eq_getD_getElem?] at q115
              clear hf hold
              go_simp
              go_at_call 30
              (with_reducible refine (C6.out LU.out _ _ hG.t.f).mono ?_)
              rintro e0 w' ⟨rfl, h2⟩
              exact hK _ _ (hG.step h2) h2 rfl
            refine AllDue.cons (due_met (.inl rfl) fun fr0 w1 hG hold hf K hK => ?_) ?_
            · have f111 : fr0.tmps.getD 111 undef = .int .i64 fA := hf 4 111 (by kernel_rfl) rfl
              have q111 := f111
              rw [Array.getD_eq_getD_getElem?] at q111
              have f116 : fr0.tmps.getD 116 undef = .int .i64 fB := hf 9 116 (by kernel_rfl) rfl
              have q116 := f116
              rw [Array.getD_eq_getD_getElem?] at q116
              have hd0 := HD1.out
              clear hf hold
              go_simp
              exact hK _ _ hG (Below.refl _ _) rfl
            refine AllDue.cons (due_met (.inl rfl) fun fr0 w1 hG hold hf K hK => ?_) ?_
            · have f117 : fr0.tmps.getD 117 undef = .bool true := hf 10 117 (by kernel_rfl) rfl
              have q117 := f117
              rw [Array.getD_eq_getD_getElem?] at q117
              clear hf hold
              go_simp
              exact hK _ _ hG (Below.refl _ _) rfl
            refine AllDue.cons (due_met (.inr ⟨11, true, 118, rfl, rfl, by kernel_rfl, fun _ _ h => h⟩) fun fr0 w1 hG hold hf K hK => ?_) ?_
            · have f3 : fr0.tmps.getD 3 undef = .pointer (some ⟨w.heap.size, 0, none⟩) := hold 3 (by kernel_rfl)
              clear hf hold
              go_simp
              exact hK _ _ hG (Below.refl _ _) rfl
            refine AllDue.cons (due_met (.inr ⟨11, true, 118, rfl, rfl, by kernel_rfl, fun _ _ h => h⟩) fun fr0 w1 hG hold hf K hK => ?_) ?_
            · have f119 : fr0.tmps.getD 119 undef = .pointer (some ⟨w.heap.size, 3, none⟩) := hf 12 119 (by kernel_rfl) rfl
              have q119 := f119
              rw [Array.getD_eq_getD_getElem?] at q119
              obtain ⟨p0, p1, p2, p3, p4⟩ := vbox_cells hG.x
              clear hf hold
              go_simp
              exact hK _ _ hG (Below.refl _ _) rfl
            refine AllDue.cons (due_met (.inr ⟨11, true, 118, rfl, rfl, by kernel_rfl, fun _ _ h => h⟩) fun fr0 w1 hG hold hf K hK => ?_) ?_
            · have f5 : fr0.tmps.getD 5 undef = .pointer (some ⟨w.heap.size + 1 + 1, 0, none⟩) := hold 5 (by kernel_rfl)
              obtain ⟨c1, c2⟩ := box_cells hG.i
              clear hf hold
              go_simp
              exact hK _ _ hG (Below.refl _ _) rfl
            refine AllDue.cons (due_met (.inr ⟨11, true, 118, rfl, rfl, by kernel_rfl, fun _ _ h => h⟩) fun fr0 w1 hG hold hf K hK => ?_) ?_
            · have f120 : fr0.tmps.getD 120 undef = .slice d.1 d.2.1 d.2.2 := hf 13 120 (by kernel_rfl) rfl
              have q120 := f120
              rw [Array.getD_eq_getD_getElem?] at q120
              have f121 : fr0.tmps.getD 121 undef = .agg #[.int .i64 p, .int .i64 q] := hf 14 121 (by kernel_rfl) rfl
              have q121 := f121
              rw [Array.getD_eq_getD_getElem?] at q121
              clear hf hold
              go_simp
              go_at_call 31
              (with_reducible refine (C7.out LV.out _ _ hG.r.c).mono ?_)
              rintro e0 w' ⟨rfl, h2⟩
              exact hK _ _ (hG.step h2) h2 rfl
            refine AllDue.cons (due_met (.inr ⟨11, true, 118, rfl, rfl, by kernel_rfl, fun _ _ h => h⟩) fun fr0 w1 hG hold hf K hK => ?_) ?_
            · have f4 : fr0.tmps.getD 4 undef = .pointer (some ⟨w.heap.size + 1, 0, none⟩) := hold 4 (by kernel_rfl)
              clear hf hold
              go_simp
              exact hK _ _ hG (Below.refl _ _) rfl
            refine AllDue.cons (due_met (.inr ⟨11, true, 118, rfl, rfl, by kernel_rfl, fun _ _ h => h⟩) fun fr0 w1 hG hold hf K hK => ?_) ?_
            · have f123 : fr0.tmps.getD 123 undef = .pointer (some ⟨w.heap.size + 1, 3, none⟩) := hf 16 123 (by kernel_rfl) rfl
              have q123 := f123
              rw [Array.getD_eq_getD_getElem?] at q123
              obtain ⟨p0, p1, p2, p3, p4⟩ := vbox_cells hG.y
              clear hf hold
              go_simp
              exact hK _ _ hG (Below.refl _ _) rfl
            refine AllDue.cons (due_met (.inr ⟨11, true, 118, rfl, rfl, by kernel_rfl, fun _ _ h => h⟩) fun fr0 w1 hG hold hf K hK => ?_) ?_
            · have f5 : fr0.tmps.getD 5 undef = .pointer (some ⟨w.heap.size + 1 + 1, 0, none⟩) := hold 5 (by kernel_rfl)
              obtain ⟨c1, c2⟩ := box_cells hG.i
              clear hf hold
              go_simp
              exact hK _ _ hG (Below.refl _ _) rfl
            refine AllDue.cons (due_met (.inr ⟨11, true, 118, rfl, rfl, by kernel_rfl, fun _ _ h => h⟩) fun fr0 w1 hG hold hf K hK => ?_) ?_
            · have f124 : fr0.tmps.getD 124 undef = .slice d'.1 d'.2.1 d'.2.2 := hf 17 124 (by kernel_rfl) rfl
              have q124 := f124
              rw [Array.getD_eq_getD_getElem?] at q124
              have f125 : fr0.tmps.getD 125 undef = .agg #[.int .i64 p, .int .i64 q] := hf 18 125 (by kernel_rfl) rfl
              have q125 := f125
              rw [Array.getD_eq_getD_getElem?] at q125
              clear hf hold
              go_simp
              go_at_call 31
              (with_reducible refine (C8.out LU.out _ _ hG.t.c).mono ?_)
              rintro e0 w' ⟨rfl, h2⟩
              exact hK _ _ (hG.step h2) h2 rfl
            refine AllDue.cons (due_met (.inr ⟨11, true, 118, rfl, rfl, by kernel_rfl, fun _ _ h => h⟩) fun fr0 w1 hG hold hf K hK => ?_) ?_
            · have f122 : fr0.tmps.getD 122 undef = .int .i64 sA := hf 15 122 (by kernel_rfl) rfl
              have q122 := f122
              rw [Array.getD_eq_getD_getElem?] at q122
              have f126 : fr0.tmps.getD 126 undef = .int .i64 sB := hf 19 126 (by kernel_rfl) rfl
              have q126 := f126
              rw [Array.getD_eq_getD_getElem?] at q126
              have hd0 := HD2.out
              clear hf hold
              go_simp
              exact hK _ _ hG (Below.refl _ _) rfl
            refine AllDue.cons (due_met (.inl rfl) fun fr0 w1 hG hold hf K hK => ?_) ?_
            · have f118 : fr0.tmps.getD 118 undef = .bool true := hf 11 118 (by kernel_rfl) rfl
              have q118 := f118
              rw [Array.getD_eq_getD_getElem?] at q118
              have f127 : fr0.tmps.getD 127 undef = .bool true := hf 20 127 (by kernel_rfl) rfl
              have q127 := f127
              rw [Array.getD_eq_getD_getElem?] at q127
              clear hf hold
              go_simp
              exact hK _ _ hG (Below.refl _ _) rfl
            refine AllDue.cons (due_met (.inl rfl) fun fr0 w1 hG hold hf K hK => ?_) ?_
            · have f128 : fr0.tmps.getD 128 undef = .bool true := hf 21 128 (by kernel_rfl) rfl
              have q128 := f128
              rw [Array.getD_eq_getD_getElem?] at q128
              clear hf hold
              go_simp
              exact hK _ _ hG (Below.refl _ _) rfl
            exact AllDue.nil
          · intro ac w11 hG hd hs hold hf
            have f6 : ac.tmps.getD 6 undef = .bool true := hf 22 6 rfl
            clear hf hold
            go_wp2_with fail
            refine bodyPost_ret (results_tmp rfl _ _ _) hd ?_
            exact ⟨by rw [f6], hG.below⟩
        · exact absurd (BF.out.f3 rfl) (by decide)
      · go_wp2_with fail
        (with_reducible refine (C4.out LU.out _ _ G9.out.t.f).mono ?_)
        rintro e2 w10 ⟨rfl, hb⟩
        have G10 := Lib.hid (G9.out.step hb)
        clear hb G9 M9 N9 m1 m2 m3 m4 n1 n2 n3 n4 t0 t1 t2 t3 t4 i1 i2 C4
        rcases gB with _ | _
        · go_wp2_with fail
          refine wp_region_due (by kernel_rfl) bkDs (bkF w.heap.size (w.heap.size + 1) (w.heap.size + 1 + 1) b b' d d' p q fA fB sA sB) (BkG w a b c d e a' b' c' d' e' V U p q) rfl (by kernel_rfl) (by kernel_rfl) (by kernel_rfl) (bkF_mono w.heap.size (w.heap.size + 1) (w.heap.size + 1 + 1) b b' d d' p q fA fB sA sB) (G10.out.step (below_drewN (n := 1) (Below.refl _ _))) ?_ ?_
          · clear G10
            refine AllDue.cons (due_met (.inl rfl) fun fr0 w1 hG hold hf K hK => ?_) ?_
            · have f3 : fr0.tmps.getD 3 undef = .pointer (some ⟨w.heap.size, 0, none⟩) := hold 3 (by kernel_rfl)
              clear hf hold
              go_simp
              exact hK _ _ hG (Below.refl _ _) rfl
            refine AllDue.cons (due_met (.inl rfl) fun fr0 w1 hG hold hf K hK => ?_) ?_
            · have f107 : fr0.tmps.getD 107 undef = .pointer (some ⟨w.heap.size, 1, none⟩) := hf 0 107 (by kernel_rfl) rfl
              have q107 := f107
              rw [Array.getD_eq_getD_getElem?] at q107
              obtain ⟨p0, p1, p2, p3, p4⟩ := vbox_cells hG.x
              clear hf hold
              go_simp
              exact hK _ _ hG (Below.refl _ _) rfl
            refine AllDue.cons (due_met (.inl rfl) fun fr0 w1 hG hold hf K hK => ?_) ?_
            · have f5 : fr0.tmps.getD 5 undef = .pointer (some ⟨w.heap.size + 1 + 1, 0, none⟩) := hold 5 (by kernel_rfl)
              clear hf hold
              go_simp
              exact hK _ _ hG (Below.refl _ _) rfl
            refine AllDue.cons (due_met (.inl rfl) fun fr0 w1 hG hold hf K hK => ?_) ?_
            · have f109 : fr0.tmps.getD 109 undef = .pointer (some ⟨w.heap.size + 1 + 1, 0, none⟩) := hf 2 109 (by kernel_rfl) rfl
              have q109 := f109
              rw [Array.getD_eq_getD_getElem?] at q109
              obtain ⟨c1, c2⟩ := box_cells hG.i
              clear hf hold
              go_simp
              exact hK _ _ hG (Below.refl _ _) rfl
            refine AllDue.cons (due_met (.inl rfl) fun fr0 w1 hG hold hf K hK => ?_) ?_
            · have f108 : fr0.tmps.getD 108 undef = .slice b.1 b.2.1 b.2.2 := hf 1 108 (by kernel_rfl) rfl
              have q108 := f108
              rw [Array.getD_eq_getD_getElem?] at q108
              have f110 : fr0.tmps.getD 110 undef = .int .i64 p := hf 3 110 (by kernel_rfl) rfl
              have q110 := f110
              rw [Array.getD_eq_getD_getElem?] at q110
              clear hf hold
              go_simp
              go_at_call 30
              (with_reducible refine (C5.out LV.out _ _ hG.r.f).mono ?_)
              rintro e0 w' ⟨rfl, h2⟩
              exact hK _ _ (hG.step h2) h2 rfl
            refine AllDue.cons (due_met (.inl rfl) fun fr0 w1 hG hold hf K hK => ?_) ?_
            · have f4 : fr0.tmps.getD 4 undef = .pointer (some ⟨w.heap.size + 1, 0, none⟩) := hold 4 (by kernel_rfl)
              clear hf hold
              go_simp
              exact hK _ _ hG (Below.refl _ _) rfl
            refine AllDue.cons (due_met (.inl rfl) fun fr0 w1 hG hold hf K hK => ?_) ?_
            · have f112 : fr0.tmps.getD 112 undef = .pointer (some ⟨w.heap.size + 1, 1, none⟩) := hf 5 112 (by kernel_rfl) rfl
              have q112 := f112
              rw [Array.getD_eq_getD_getElem?] at q112
              obtain ⟨p0, p1, p2, p3, p4⟩ := vbox_cells hG.y
              clear hf hold
              go_simp
              exact hK _ _ hG (Below.refl _ _) rfl
            refine AllDue.cons (due_met (.inl rfl) fun fr0 w1 hG hold hf K hK => ?_) ?_
            · have f5 : fr0.tmps.getD 5 undef = .pointer (some ⟨w.heap.size + 1 + 1, 0, none⟩) := hold 5 (by kernel_rfl)
              clear hf hold
              go_simp
              exact hK _ _ hG (Below.refl _ _) rfl
            refine AllDue.cons (due_met (.inl rfl) fun fr0 w1 hG hold hf K hK => ?_) ?_
            · have f114 : fr0.tmps.getD 114 undef = .pointer (some ⟨w.heap.size + 1 + 1, 0, none⟩) := hf 7 114 (by kernel_rfl) rfl
              have q114 := f114
              rw [Array.getD_eq_getD_getElem?] at q114
              obtain ⟨c1, c2⟩ := box_cells hG.i
              clear hf hold
              go_simp
              exact hK _ _ hG (Below.refl _ _) rfl
            refine AllDue.cons (due_met (.inl rfl) fun fr0 w1 hG hold hf K hK => ?_) ?_
            · have f113 : fr0.tmps.getD 113 undef = .slice b'.1 b'.2.1 b'.2.2 := hf 6 113 (by kernel_rfl) rfl
              have q113 := f113
              rw [Array.getD_eq_getD_getElem?] at q113
              have f115 : fr0.tmps.getD 115 undef = .int .i64 p := hf 8 115 (by kernel_rfl) rfl
              have q115 := f115
              rw [Array.getD_eq_getD_getElem?] at q115
              clear hf hold
              go_simp
              go_at_call 30
              (with_reducible refine (C6.out LU.out _ _ hG.t.f).mono ?_)
              rintro e0 w' ⟨rfl, h2⟩
              exact hK _ _ (hG.step h2) h2 rfl
            refine AllDue.cons (due_met (.inl rfl) fun fr0 w1 hG hold hf K hK => ?_) ?_
            · have f111 : fr0.tmps.getD 111 undef = .int .i64 fA := hf 4 111 (by kernel_rfl) rfl
              have q111 := f111
              rw [Array.getD_eq_getD_getElem?] at q111
              have f116 : fr0.tmps.getD 116 undef = .int .i64 fB := hf 9 116 (by kernel_rfl) rfl
              have q116 := f116
              rw [Array.getD_eq_getD_getElem?] at q116
              have hd0 := HD1.out
              clear hf hold
              go_simp
              exact hK _ _ hG (Below.refl _ _) rfl
            refine AllDue.cons (due_met (.inl rfl) fun fr0 w1 hG hold hf K hK => ?_) ?_
            · have f117 : fr0.tmps.getD 117 undef = .bool true := hf 10 117 (by kernel_rfl) rfl
              have q117 := f117
              rw [Array.getD_eq_getD_getElem?] at q117
              clear hf hold
              go_simp
              exact hK _ _ hG (Below.refl _ _) rfl
            refine AllDue.cons (due_met (.inr ⟨11, true, 118, rfl, rfl, by kernel_rfl, fun _ _ h => h⟩) fun fr0 w1 hG hold hf K hK => ?_) ?_
            · have f3 : fr0.tmps.getD 3 undef = .pointer (some ⟨w.heap.size, 0, none⟩) := hold 3 (by kernel_rfl)
              clear hf hold
              go_simp
              exact hK _ _ hG (Below.refl _ _) rfl
            refine AllDue.cons (due_met (.inr ⟨11, true, 118, rfl, rfl, by kernel_rfl, fun _ _ h => h⟩) fun fr0 w1 hG hold hf K hK => ?_) ?_
            · have f119 : fr0.tmps.getD 119 undef = .pointer (some ⟨w.heap.size, 3, none⟩) := hf 12 119 (by kernel_rfl) rfl
              have q119 := f119
              rw [Array.getD_eq_getD_getElem?] at q119
              obtain ⟨p0, p1, p2, p3, p4⟩ := vbox_cells hG.x
              clear hf hold
              go_simp
              exact hK _ _ hG (Below.refl _ _) rfl
            refine AllDue.cons (due_met (.inr ⟨11, true, 118, rfl, rfl, by kernel_rfl, fun _ _ h => h⟩) fun fr0 w1 hG hold hf K hK => ?_) ?_
            · have f5 : fr0.tmps.getD 5 undef = .pointer (some ⟨w.heap.size + 1 + 1, 0, none⟩) := hold 5 (by kernel_rfl)
              obtain ⟨c1, c2⟩ := box_cells hG.i
              clear hf hold
              go_simp
              exact hK _ _ hG (Below.refl _ _) rfl
            refine AllDue.cons (due_met (.inr ⟨11, true, 118, rfl, rfl, by kernel_rfl, fun _ _ h => h⟩) fun fr0 w1 hG hold hf K hK => ?_) ?_
            · have f120 : fr0.tmps.getD 120 undef = .slice d.1 d.2.1 d.2.2 := hf 13 120 (by kernel_rfl) rfl
              have q120 := f120
              rw [Array.getD_eq_getD_getElem?] at q120
              have f121 : fr0.tmps.getD 121 undef = .agg #[.int .i64 p, .int .i64 q] := hf 14 121 (by kernel_rfl) rfl
              have q121 := f121
              rw [Array.getD_eq_getD_getElem?] at q121
              clear hf hold
              go_simp
              go_at_call 31
              (with_reducible refine (C7.out LV.out _ _ hG.r.c).mono ?_)
              rintro e0 w' ⟨rfl, h2⟩
              exact hK _ _ (hG.step h2) h2 rfl
            refine AllDue.cons (due_met (.inr ⟨11, true, 118, rfl, rfl, by kernel_rfl, fun _ _ h => h⟩) fun fr0 w1 hG hold hf K hK => ?_) ?_
            · have f4 : fr0.tmps.getD 4 undef = .pointer (some ⟨w.heap.size + 1, 0, none⟩) := hold 4 (by kernel_rfl)
              clear hf hold
              go_simp
              exact hK _ _ hG (Below.refl _ _) rfl
            refine AllDue.cons (due_met (.inr ⟨11, true, 118, rfl, rfl, by kernel_rfl, fun _ _ h => h⟩) fun fr0 w1 hG hold hf K hK => ?_) ?_
            · have f123 : fr0.tmps.getD 123 undef = .pointer (some ⟨w.heap.size + 1, 3, none⟩) := hf 16 123 (by kernel_rfl) rfl
              have q123 := f123
              rw [Array.getD_eq_getD_getElem?] at q123
              obtain ⟨p0, p1, p2, p3, p4⟩ := vbox_cells hG.y
              clear hf hold
              go_simp
              exact hK _ _ hG (Below.refl _ _) rfl
            refine AllDue.cons (due_met (.inr ⟨11, true, 118, rfl, rfl, by kernel_rfl, fun _ _ h => h⟩) fun fr0 w1 hG hold hf K hK => ?_) ?_
            · have f5 : fr0.tmps.getD 5 undef = .pointer (some ⟨w.heap.size + 1 + 1, 0, none⟩) := hold 5 (by kernel_rfl)
              obtain ⟨c1, c2⟩ := box_cells hG.i
              clear hf hold
              go_simp
              exact hK _ _ hG (Below.refl _ _) rfl
            refine AllDue.cons (due_met (.inr ⟨11, true, 118, rfl, rfl, by kernel_rfl, fun _ _ h => h⟩) fun fr0 w1 hG hold hf K hK => ?_) ?_
            · have f124 : fr0.tmps.getD 124 undef = .slice d'.1 d'.2.1 d'.2.2 := hf 17 124 (by kernel_rfl) rfl
              have q124 := f124
              rw [Array.getD_eq_getD_getElem?] at q124
              have f125 : fr0.tmps.getD 125 undef = .agg #[.int .i64 p, .int .i64 q] := hf 18 125 (by kernel_rfl) rfl
              have q125 := f125
              rw [Array.getD_eq_getD_getElem?] at q125
              clear hf hold
              go_simp
              go_at_call 31
              (with_reducible refine (C8.out LU.out _ _ hG.t.c).mono ?_)
              rintro e0 w' ⟨rfl, h2⟩
              exact hK _ _ (hG.step h2) h2 rfl
            refine AllDue.cons (due_met (.inr ⟨11, true, 118, rfl, rfl, by kernel_rfl, fun _ _ h => h⟩) fun fr0 w1 hG hold hf K hK => ?_) ?_
            · have f122 : fr0.tmps.getD 122 undef = .int .i64 sA := hf 15 122 (by kernel_rfl) rfl
              have q122 := f122
              rw [Array.getD_eq_getD_getElem?] at q122
              have f126 : fr0.tmps.getD 126 undef = .int .i64 sB := hf 19 126 (by kernel_rfl) rfl
              have q126 := f126
              rw [Array.getD_eq_getD_getElem?] at q126
              have hd0 := HD2.out
              clear hf hold
              go_simp
              exact hK _ _ hG (Below.refl _ _) rfl
            refine AllDue.cons (due_met (.inl rfl) fun fr0 w1 hG hold hf K hK => ?_) ?_
            · have f118 : fr0.tmps.getD 118 undef = .bool true := hf 11 118 (by kernel_rfl) rfl
              have q118 := f118
              rw [Array.getD_eq_getD_getElem?] at q118
              have f127 : fr0.tmps.getD 127 undef = .bool true := hf 20 127 (by kernel_rfl) rfl
              have q127 := f127
              rw [Array.getD_eq_getD_getElem?] at q127
              clear hf hold
              go_simp
              exact hK _ _ hG (Below.refl _ _) rfl
            refine AllDue.cons (due_met (.inl rfl) fun fr0 w1 hG hold hf K hK => ?_) ?_
            · have f128 : fr0.tmps.getD 128 undef = .bool true := hf 21 128 (by kernel_rfl) rfl
              have q128 := f128
              rw [Array.getD_eq_getD_getElem?] at q128
              clear hf hold
              go_simp
              exact hK _ _ hG (Below.refl _ _) rfl
            exact AllDue.nil
          · intro ac w11 hG hd hs hold hf
            have f6 : ac.tmps.getD 6 undef = .bool true := hf 22 6 rfl
            clear hf hold
            go_wp2_with fail
            refine bodyPost_ret (results_tmp rfl _ _ _) hd ?_
            exact ⟨by rw [f6], hG.below⟩
        · exact absurd (BF.out.f3 rfl) (by decide)
  · rcases is with _ | _
    · rcases gA with _ | _
      · exact absurd (BF.out.f1 rfl rfl) (by decide)
      · go_wp2_with fail
        (with_reducible refine (C4.out LU.out _ _ G9.out.t.f).mono ?_)
        rintro e2 w10 ⟨rfl, hb⟩
        have G10 := Lib.hid (G9.out.step hb)
        clear hb G9 M9 N9 m1 m2 m3 m4 n1 n2 n3 n4 t0 t1 t2 t3 t4 i1 i2 C4
        rcases gB with _ | _
        · go_wp2_with fail
          refine wp_region_due (by kernel_rfl) bkDs (bkF w.heap.size (w.heap.size + 1) (w.heap.size + 1 + 1) b b' d d' p q fA fB sA sB) (BkG w a b c d e a' b' c' d' e' V U p q) rfl (by kernel_rfl) (by kernel_rfl) (by kernel_rfl) (bkF_mono w.heap.size (w.heap.size + 1) (w.heap.size + 1 + 1) b b' d d' p q fA fB sA sB) (G10.out.step (below_drewN (n := 1) (Below.refl _ _))) ?_ ?_
          · clear G10
            refine AllDue.cons (due_met (.inl rfl) fun fr0 w1 hG hold hf K hK => ?_) ?_
            · have f3 : fr0.tmps.getD 3 undef = .pointer (some ⟨w.heap.size, 0, none⟩) := hold 3 (by kernel_rfl)
              clear hf hold
              go_simp
              exact hK _ _ hG (Below.refl _ _) rfl
            refine AllDue.cons (due_met (.inl rfl) fun fr0 w1 hG hold hf K hK => ?_) ?_
            · have f107 : fr0.tmps.getD 107 undef = .pointer (some ⟨w.heap.size, 1, none⟩) := hf 0 107 (by kernel_rfl) rfl
              have q107 := f107
              rw [Array.getD_eq_getD_getElem?] at q107
              obtain ⟨p0, p1, p2, p3, p4⟩ := vbox_cells hG.x
              clear hf hold
              go_simp
              exact hK _ _ hG (Below.refl _ _) rfl
            refine AllDue.cons (due_met (.inl rfl) fun fr0 w1 hG hold hf K hK => ?_) ?_
            · have f5 : fr0.tmps.getD 5 undef = .pointer (some ⟨w.heap.size + 1 + 1, 0, none⟩) := hold 5 (by kernel_rfl)
              clear hf hold
              go_simp
              exact hK _ _ hG (Below.refl _ _) rfl
            refine AllDue.cons (due_met (.inl rfl) fun fr0 w1 hG hold hf K hK => ?_) ?_
            · have f109 : fr0.tmps.getD 109 undef = .pointer (some ⟨w.heap.size + 1 + 1, 0, none⟩) := hf 2 109 (by kernel_rfl) rfl
              have q109 := f109
              rw [Array.getD_eq_getD_getElem?] at q109
              obtain ⟨c1, c2⟩ := box_cells hG.i
              clear hf hold
              go_simp
              exact hK _ _ hG (Below.refl _ _) rfl
            refine AllDue.cons (due_met (.inl rfl) fun fr0 w1 hG hold hf K hK => ?_) ?_
            · have f108 : fr0.tmps.getD 108 undef = .slice b.1 b.2.1 b.2.2 := hf 1 108 (by kernel_rfl) rfl
              have q108 := f108
              rw [Array.getD_eq_getD_getElem?] at q108
              have f110 : fr0.tmps.getD 110 undef = .int .i64 p := hf 3 110 (by kernel_rfl) rfl
              have q110 := f110
              rw [Array.getD_eq_getD_getElem?] at q110
              clear hf hold
              go_simp
              go_at_call 30
              (with_reducible refine (C5.out LV.out _ _ hG.r.f).mono ?_)
              rintro e0 w' ⟨rfl, h2⟩
              exact hK _ _ (hG.step h2) h2 rfl
            refine AllDue.cons (due_met (.inl rfl) fun fr0 w1 hG hold hf K hK => ?_) ?_
            · have f4 : fr0.tmps.getD 4 undef = .pointer (some ⟨w.heap.size + 1, 0, none⟩) := hold 4 (by kernel_rfl)
              clear hf hold
              go_simp
              exact hK _ _ hG (Below.refl _ _) rfl
            refine AllDue.cons (due_met (.inl rfl) fun fr0 w1 hG hold hf K hK => ?_) ?_
            · have f112 : fr0.tmps.getD 112 undef = .pointer (some ⟨w.heap.size + 1, 1, none⟩) := hf 5 112 (by kernel_rfl) rfl
              have q112 := f112
              rw [Array.getD_eq_getD_getElem?] at q112
              obtain ⟨p0, p1, p2, p3, p4⟩ := vbox_cells hG.y
              clear hf hold
              go_simp
              exact hK _ _ hG (Below.refl _ _) rfl
            refine AllDue.cons (due_met (.inl rfl) fun fr0 w1 hG hold hf K hK => ?_) ?_
            · have f5 : fr0.tmps.getD 5 undef = .pointer (some ⟨w.heap.size + 1 + 1, 0, none⟩) := hold 5 (by kernel_rfl)
              clear hf hold
              go_simp
              exact hK _ _ hG (Below.refl _ _) rfl
            refine AllDue.cons (due_met (.inl rfl) fun fr0 w1 hG hold hf K hK => ?_) ?_
            · have f114 : fr0.tmps.getD 114 undef = .pointer (some ⟨w.heap.size + 1 + 1, 0, none⟩) := hf 7 114 (by kernel_rfl) rfl
              have q114 := f114
              rw [Array.getD_eq_getD_getElem?] at q114
              obtain ⟨c1, c2⟩ := box_cells hG.i
              clear hf hold
              go_simp
              exact hK _ _ hG (Below.refl _ _) rfl
            refine AllDue.cons (due_met (.inl rfl) fun fr0 w1 hG hold hf K hK => ?_) ?_
            · have f113 : fr0.tmps.getD 113 undef = .slice b'.1 b'.2.1 b'.2.2 := hf 6 113 (by kernel_rfl) rfl
              have q113 := f113
              rw [Array.getD_eq_getD_getElem?] at q113
              have f115 : fr0.tmps.getD 115 undef = .int .i64 p := hf 8 115 (by kernel_rfl) rfl
              have q115 := f115
              rw [Array.getD_eq_getD_getElem?] at q115
              clear hf hold
              go_simp
              go_at_call 30
              (with_reducible refine (C6.out LU.out _ _ hG.t.f).mono ?_)
              rintro e0 w' ⟨rfl, h2⟩
              exact hK _ _ (hG.step h2) h2 rfl
            refine AllDue.cons (due_met (.inl rfl) fun fr0 w1 hG hold hf K hK => ?_) ?_
            · have f111 : fr0.tmps.getD 111 undef = .int .i64 fA := hf 4 111 (by kernel_rfl) rfl
              have q111 := f111
              rw [Array.getD_eq_getD_getElem?] at q111
              have f116 : fr0.tmps.getD 116 undef = .int .i64 fB := hf 9 116 (by kernel_rfl) rfl
              have q116 := f116
              rw [Array.getD_eq_getD_getElem?] at q116
              have hd0 := HD1.out
              clear hf hold
              go_simp
              exact hK _ _ hG (Below.refl _ _) rfl
            refine AllDue.cons (due_met (.inl rfl) fun fr0 w1 hG hold hf K hK => ?_) ?_
            · have f117 : fr0.tmps.getD 117 undef = .bool true := hf 10 117 (by kernel_rfl) rfl
              have q117 := f117
              rw [Array.getD_eq_getD_getElem?] at q117
              clear hf hold
              go_simp
              exact hK _ _ hG (Below.refl _ _) rfl
            refine AllDue.cons (due_met (.inr ⟨11, true, 118, rfl, rfl, by kernel_rfl, fun _ _ h => h⟩) fun fr0 w1 hG hold hf K hK => ?_) ?_
            · have f3 : fr0.tmps.getD 3 undef = .pointer (some ⟨w.heap.size, 0, none⟩) := hold 3 (by kernel_rfl)
              clear hf hold
              go_simp
              exact hK _ _ hG (Below.refl _ _) rfl
            refine AllDue.cons (due_met (.inr ⟨11, true, 118, rfl, rfl, by kernel_rfl, fun _ _ h => h⟩) fun fr0 w1 hG hold hf K hK => ?_) ?_
            · have f119 : fr0.tmps.getD 119 undef = .pointer (some ⟨w.heap.size, 3, none⟩) := hf 12 119 (by kernel_rfl) rfl
              have q119 := f119
              rw [Array.getD_eq_getD_getElem?] at q119
              obtain ⟨p0, p1, p2, p3, p4⟩ := vbox_cells hG.x
              clear hf hold
              go_simp
              exact hK _ _ hG (Below.refl _ _) rfl
            refine AllDue.cons (due_met (.inr ⟨11, true, 118, rfl, rfl, by kernel_rfl, fun _ _ h => h⟩) fun fr0 w1 hG hold hf K hK => ?_) ?_
            · have f5 : fr0.tmps.getD 5 undef = .pointer (some ⟨w.heap.size + 1 + 1, 0, none⟩) := hold 5 (by kernel_rfl)
              obtain ⟨c1, c2⟩ := box_cells hG.i
              clear hf hold
              go_simp
              exact hK _ _ hG (Below.refl _ _) rfl
            refine AllDue.cons (due_met (.inr ⟨11, true, 118, rfl, rfl, by kernel_rfl, fun _ _ h => h⟩) fun fr0 w1 hG hold hf K hK => ?_) ?_
            · have f120 : fr0.tmps.getD 120 undef = .slice d.1 d.2.1 d.2.2 := hf 13 120 (by kernel_rfl) rfl
              have q120 := f120
              rw [Array.getD_eq_getD_getElem?] at q120
              have f121 : fr0.tmps.getD 121 undef = .agg #[.int .i64 p, .int .i64 q] := hf 14 121 (by kernel_rfl) rfl
              have q121 := f121
              rw [Array.getD_eq_getD_getElem?] at q121
              clear hf hold
              go_simp
              go_at_call 31
              (with_reducible refine (C7.out LV.out _ _ hG.r.c).mono ?_)
              rintro e0 w' ⟨rfl, h2⟩
              exact hK _ _ (hG.step h2) h2 rfl
            refine AllDue.cons (due_met (.inr ⟨11, true, 118, rfl, rfl, by kernel_rfl, fun _ _ h => h⟩) fun fr0 w1 hG hold hf K hK => ?_) ?_
            · have f4 : fr0.tmps.getD 4 undef = .pointer (some ⟨w.heap.size + 1, 0, none⟩) := hold 4 (by kernel_rfl)
              clear hf hold
              go_simp
              exact hK _ _ hG (Below.refl _ _) rfl
            refine AllDue.cons (due_met (.inr ⟨11, true, 118, rfl, rfl, by kernel_rfl, fun _ _ h => h⟩) fun fr0 w1 hG hold hf K hK => ?_) ?_
            · have f123 : fr0.tmps.getD 123 undef = .pointer (some ⟨w.heap.size + 1, 3, none⟩) := hf 16 123 (by kernel_rfl) rfl
              have q123 := f123
              rw [Array.getD_eq_getD_getElem?] at q123
              obtain ⟨p0, p1, p2, p3, p4⟩ := vbox_cells hG.y
              clear hf hold
              go_simp
              exact hK _ _ hG (Below.refl _ _) rfl
            refine AllDue.cons (due_met (.inr ⟨11, true, 118, rfl, rfl, by kernel_rfl, fun _ _ h => h⟩) fun fr0 w1 hG hold hf K hK => ?_) ?_
            · have f5 : fr0.tmps.getD 5 undef = .pointer (some ⟨w.heap.size + 1 + 1, 0, none⟩) := hold 5 (by kernel_rfl)
              obtain ⟨c1, c2⟩ := box_cells hG.i
              clear hf hold
              go_simp
              exact hK _ _ hG (Below.refl _ _) rfl
            refine AllDue.cons (due_met (.inr ⟨11, true, 118, rfl, rfl, by kernel_rfl, fun _ _ h => h⟩) fun fr0 w1 hG hold hf K hK => ?_) ?_
            · have f124 : fr0.tmps.getD 124 undef = .slice d'.1 d'.2.1 d'.2.2 := hf 17 124 (by kernel_rfl) rfl
              have q124 := f124
              rw [Array.getD_eq_getD_getElem?] at q124
              have f125 : fr0.tmps.getD 125 undef = .agg #[.int .i64 p, .int .i64 q] := hf 18 125 (by kernel_rfl) rfl
              have q125 := f125
              rw [Array.getD_eq_getD_getElem?] at q125
              clear hf hold
              go_simp
              go_at_call 31
              (with_reducible refine (C8.out LU.out _ _ hG.t.c).mono ?_)
              rintro e0 w' ⟨rfl, h2⟩
              exact hK _ _ (hG.step h2) h2 rfl
            refine AllDue.cons (due_met (.inr ⟨11, true, 118, rfl, rfl, by kernel_rfl, fun _ _ h => h⟩) fun fr0 w1 hG hold hf K hK => ?_) ?_
            · have f122 : fr0.tmps.getD 122 undef = .int .i64 sA := hf 15 122 (by kernel_rfl) rfl
              have q122 := f122
              rw [Array.getD_eq_getD_getElem?] at q122
              have f126 : fr0.tmps.getD 126 undef = .int .i64 sB := hf 19 126 (by kernel_rfl) rfl
              have q126 := f126
              rw [Array.getD_eq_getD_getElem?] at q126
              have hd0 := HD2.out
              clear hf hold
              go_simp
              exact hK _ _ hG (Below.refl _ _) rfl
            refine AllDue.cons (due_met (.inl rfl) fun fr0 w1 hG hold hf K hK => ?_) ?_
            · have f118 : fr0.tmps.getD 118 undef = .bool true := hf 11 118 (by kernel_rfl) rfl
              have q118 := f118
              rw [Array.getD_eq_getD_getElem?] at q118
              have f127 : fr0.tmps.getD 127 undef = .bool true := hf 20 127 (by kernel_rfl) rfl
              have q127 := f127
              rw [Array.getD_eq_getD_getElem?] at q127
              clear hf hold
              go_simp
              exact hK _ _ hG (Below.refl _ _) rfl
            refine AllDue.cons (due_met (.inl rfl) fun fr0 w1 hG hold hf K hK => ?_) ?_
            · have f128 : fr0.tmps.getD 128 undef = .bool true := hf 21 128 (by kernel_rfl) rfl
              have q128 := f128
              rw [Array.getD_eq_getD_getElem?] at q128
              clear hf hold
              go_simp
              exact hK _ _ hG (Below.refl _ _) rfl
            exact AllDue.nil
          · intro ac w11 hG hd hs hold hf
            have f6 : ac.tmps.getD 6 undef = .bool true := hf 22 6 rfl
            clear hf hold
            go_wp2_with fail
            refine bodyPost_ret (results_tmp rfl _ _ _) hd ?_
            exact ⟨by rw [f6], hG.below⟩
        · go_wp2_with fail
          refine wp_region_due (by kernel_rfl) bkDs (bkF w.heap.size (w.heap.size + 1) (w.heap.size + 1 + 1) b b' d d' p q fA fB sA sB) (BkG w a b c d e a' b' c' d' e' V U p q) rfl (by kernel_rfl) (by kernel_rfl) (by kernel_rfl) (bkF_mono w.heap.size (w.heap.size + 1) (w.heap.size + 1 + 1) b b' d d' p q fA fB sA sB) (G10.out.step (below_drewN (n := 1) (Below.refl _ _))) ?_ ?_
          · clear G10
            refine AllDue.cons (due_met (.inl rfl) fun fr0 w1 hG hold hf K hK => ?_) ?_
            · have f3 : fr0.tmps.getD 3 undef = .pointer (some ⟨w.heap.size, 0, none⟩) := hold 3 (by kernel_rfl)
              clear hf hold
              go_simp
              exact hK _ _ hG (Below.refl _ _) rfl
            refine AllDue.cons (due_met (.inl rfl) fun fr0 w1 hG hold hf K hK => ?_) ?_
            · have f107 : fr0.tmps.getD 107 undef = .pointer (some ⟨w.heap.size, 1, none⟩) := hf 0 107 (by kernel_rfl) rfl
              have q107 := f107
              rw [Array.getD_eq_getD_getElem?] at q107
              obtain ⟨p0, p1, p2, p3, p4⟩ := vbox_cells hG.x
              clear hf hold
              go_simp
              exact hK _ _ hG (Below.refl _ _) rfl
            refine AllDue.cons (due_met (.inl rfl) fun fr0 w1 hG hold hf K hK => ?_) ?_
            · have f5 : fr0.tmps.getD 5 undef = .pointer (some ⟨w.heap.size + 1 + 1, 0, none⟩) := hold 5 (by kernel_rfl)
              clear hf hold
              go_simp
              exact hK _ _ hG (Below.refl _ _) rfl
            refine AllDue.cons (due_met (.inl rfl) fun fr0 w1 hG hold hf K hK => ?_) ?_
            · have f109 : fr0.tmps.getD 109 undef = .pointer (some ⟨w.heap.size + 1 + 1, 0, none⟩) := hf 2 109 (by kernel_rfl) rfl
              have q109 := f109
              rw [Array.getD_eq_getD_getElem?] at q109
              obtain ⟨c1, c2⟩ := box_cells hG.i
              clear hf hold
              go_simp
              exact hK _ _ hG (Below.refl _ _) rfl
            refine AllDue.cons (due_met (.inl rfl) fun fr0 w1 hG hold hf K hK => ?_) ?_
            · have f108 : fr0.tmps.getD 108 undef = .slice b.1 b.2.1 b.2.2 := hf 1 108 (by kernel_rfl) rfl
              have q108 := f108
              rw [Array.getD_eq_getD_getElem?] at q108
              have f110 : fr0.tmps.getD 110 undef = .int .i64 p := hf 3 110 (by kernel_rfl) rfl
              have q110 := f110
              rw [Array.getD_eq_getD_getElem?] at q110
              clear hf hold
              go_simp
              go_at_call 30
              (with_reducible refine (C5.out LV.out _ _ hG.r.f).mono ?_)
              rintro e0 w' ⟨rfl, h2⟩
              exact hK _ _ (hG.step h2) h2 rfl
            refine AllDue.cons (due_met (.inl rfl) fun fr0 w1 hG hold hf K hK => ?_) ?_
            · have f4 : fr0.tmps.getD 4 undef = .pointer (some ⟨w.heap.size + 1, 0, none⟩) := hold 4 (by kernel_rfl)
              clear hf hold
              go_simp
              exact hK _ _ hG (Below.refl _ _) rfl
            refine AllDue.cons (due_met (.inl rfl) fun fr0 w1 hG hold hf K hK => ?_) ?_
            · have f112 : fr0.tmps.getD 112 undef = .pointer (some ⟨w.heap.size + 1, 1, none⟩) := hf 5 112 (by kernel_rfl) rfl
              have q112 := f112
              rw [Array.getD_eq_getD_getElem?] at q112
              obtain ⟨p0, p1, p2, p3, p4⟩ := vbox_cells hG.y
              clear hf hold
              go_simp
              exact hK _ _ hG (Below.refl _ _) rfl
            refine AllDue.cons (due_met (.inl rfl) fun fr0 w1 hG hold hf K hK => ?_) ?_
            · have f5 : fr0.tmps.getD 5 undef = .pointer (some ⟨w.heap.size + 1 + 1, 0, none⟩) := hold 5 (by kernel_rfl)
              clear hf hold
              go_simp
              exact hK _ _ hG (Below.refl _ _) rfl
            refine AllDue.cons (due_met (.inl rfl) fun fr0 w1 hG hold hf K hK => ?_) ?_
            · have f114 : fr0.tmps.getD 114 undef = .pointer (some ⟨w.heap.size + 1 + 1, 0, none⟩) := hf 7 114 (by kernel_rfl) rfl
              have q114 := f114
              rw [Array.getD_eq_getD_getElem?] at q114
              obtain ⟨c1, c2⟩ := box_cells hG.i
              clear hf hold
              go_simp
              exact hK _ _ hG (Below.refl _ _) rfl
            refine AllDue.cons (due_met (.inl rfl) fun fr0 w1 hG hold hf K hK => ?_) ?_
            · have f113 : fr0.tmps.getD 113 undef = .slice b'.1 b'.2.1 b'.2.2 := hf 6 113 (by kernel_rfl) rfl
              have q113 := f113
              rw [Array.getD_eq_getD_getElem?] at q113
              have f115 : fr0.tmps.getD 115 undef = .int .i64 p := hf 8 115 (by kernel_rfl) rfl
              have q115 := f115
              rw [Array.getD_eq_getD_getElem?] at q115
              clear hf hold
              go_simp
              go_at_call 30
              (with_reducible refine (C6.out LU.out _ _ hG.t.f).mono ?_)
              rintro e0 w' ⟨rfl, h2⟩
              exact hK _ _ (hG.step h2) h2 rfl
            refine AllDue.cons (due_met (.inl rfl) fun fr0 w1 hG hold hf K hK => ?_) ?_
            · have f111 : fr0.tmps.getD 111 undef = .int .i64 fA := hf 4 111 (by kernel_rfl) rfl
              have q111 := f111
              rw [Array.getD_eq_getD_getElem?] at q111
              have f116 : fr0.tmps.getD 116 undef = .int .i64 fB := hf 9 116 (by kernel_rfl) rfl
              have q116 := f116
              rw [Array.getD_eq_getD_getElem?] at q116
              have hd0 := HD1.out
              clear hf hold
              go_simp
              exact hK _ _ hG (Below.refl _ _) rfl
            refine AllDue.cons (due_met (.inl rfl) fun fr0 w1 hG hold hf K hK => ?_) ?_
            · have f117 : fr0.tmps.getD 117 undef = .bool true := hf 10 117 (by kernel_rfl) rfl
              have q117 := f117
              rw [Array.getD_eq_getD_getElem?] at q117
              clear hf hold
              go_simp
              exact hK _ _ hG (Below.refl _ _) rfl
            refine AllDue.cons (due_met (.inr ⟨11, true, 118, rfl, rfl, by kernel_rfl, fun _ _ h => h⟩) fun fr0 w1 hG hold hf K hK => ?_) ?_
            · have f3 : fr0.tmps.getD 3 undef = .pointer (some ⟨w.heap.size, 0, none⟩) := hold 3 (by kernel_rfl)
              clear hf hold
              go_simp
              exact hK _ _ hG (Below.refl _ _) rfl
            refine AllDue.cons (due_met (.inr ⟨11, true, 118, rfl, rfl, by kernel_rfl, fun _ _ h => h⟩) fun fr0 w1 hG hold hf K hK => ?_) ?_
            · have f119 : fr0.tmps.getD 119 undef = .pointer (some ⟨w.heap.size, 3, none⟩) := hf 12 119 (by kernel_rfl) rfl
              have q119 := f119
              rw [Array.getD_eq_getD_getElem?] at q119
              obtain ⟨p0, p1, p2, p3, p4⟩ := vbox_cells hG.x
              clear hf hold
              go_simp
              exact hK _ _ hG (Below.refl _ _) rfl
            refine AllDue.cons (due_met (.inr ⟨11, true, 118, rfl, rfl, by kernel_rfl, fun _ _ h => h⟩) fun fr0 w1 hG hold hf K hK => ?_) ?_
            · have f5 : fr0.tmps.getD 5 undef = .pointer (some ⟨w.heap.size + 1 + 1, 0, none⟩) := hold 5 (by kernel_rfl)
              obtain ⟨c1, c2⟩ := box_cells hG.i
              clear hf hold
              go_simp
              exact hK _ _ hG (Below.refl _ _) rfl
            refine AllDue.cons (due_met (.inr ⟨11, true, 118, rfl, rfl, by kernel_rfl, fun _ _ h => h⟩) fun fr0 w1 hG hold hf K hK => ?_) ?_
            · have f120 : fr0.tmps.getD 120 undef = .slice d.1 d.2.1 d.2.2 := hf 13 120 (by kernel_rfl) rfl
              have q120 := f120
              rw [Array.getD_eq_getD_getElem?] at q120
              have f121 : fr0.tmps.getD 121 undef = .agg #[.int .i64 p, .int .i64 q] := hf 14 121 (by kernel_rfl) rfl
              have q121 := f121
              rw [Array.getD_eq_getD_getElem?] at q121
              clear hf hold
              go_simp
              go_at_call 31
              (with_reducible refine (C7.out LV.out _ _ hG.r.c).mono ?_)
              rintro e0 w' ⟨rfl, h2⟩
              exact hK _ _ (hG.step h2) h2 rfl
            refine AllDue.cons (due_met (.inr ⟨11, true, 118, rfl, rfl, by kernel_rfl, fun _ _ h => h⟩) fun fr0 w1 hG hold hf K hK => ?_) ?_
            · have f4 : fr0.tmps.getD 4 undef = .pointer (some ⟨w.heap.size + 1, 0, none⟩) := hold 4 (by kernel_rfl)
              clear hf hold
              go_simp
              exact hK _ _ hG (Below.refl _ _) rfl
            refine AllDue.cons (due_met (.inr ⟨11, true, 118, rfl, rfl, by kernel_rfl, fun _ _ h => h⟩) fun fr0 w1 hG hold hf K hK => ?_) ?_
            · have f123 : fr0.tmps.getD 123 undef = .pointer (some ⟨w.heap.size + 1, 3, none⟩) := hf 16 123 (by kernel_rfl) rfl
              have q123 := f123
              rw [Array.getD_eq_getD_getElem?] at q123
              obtain ⟨p0, p1, p2, p3, p4⟩ := vbox_cells hG.y
              clear hf hold
              go_simp
              exact hK _ _ hG (Below.refl _ _) rfl
            refine AllDue.cons (due_met (.inr ⟨11, true, 118, rfl, rfl, by kernel_rfl, fun _ _ h => h⟩) fun fr0 w1 hG hold hf K hK => ?_) ?_
            · have f5 : fr0.tmps.getD 5 undef = .pointer (some ⟨w.heap.size + 1 + 1, 0, none⟩) := hold 5 (by kernel_rfl)
              obtain ⟨c1, c2⟩ := box_cells hG.i
              clear hf hold
              go_simp
              exact hK _ _ hG (Below.refl _ _) rfl
            refine AllDue.cons (due_met (.inr ⟨11, true, 118, rfl, rfl, by kernel_rfl, fun _ _ h => h⟩) fun fr0 w1 hG hold hf K hK => ?_) ?_
            · have f124 : fr0.tmps.getD 124 undef = .slice d'.1 d'.2.1 d'.2.2 := hf 17 124 (by kernel_rfl) rfl
              have q124 := f124
              rw [Array.getD_eq_getD_getElem?] at q124
              have f125 : fr0.tmps.getD 125 undef = .agg #[.int .i64 p, .int .i64 q] := hf 18 125 (by kernel_rfl) rfl
              have q125 := f125
              rw [Array.getD_eq_getD_getElem?] at q125
              clear hf hold
              go_simp
              go_at_call 31
              (with_reducible refine (C8.out LU.out _ _ hG.t.c).mono ?_)
              rintro e0 w' ⟨rfl, h2⟩
              exact hK _ _ (hG.step h2) h2 rfl
            refine AllDue.cons (due_met (.inr ⟨11, true, 118, rfl, rfl, by kernel_rfl, fun _ _ h => h⟩) fun fr0 w1 hG hold hf K hK => ?_) ?_
            · have f122 : fr0.tmps.getD 122 undef = .int .i64 sA := hf 15 122 (by kernel_rfl) rfl
              have q122 := f122
              rw [Array.getD_eq_getD_getElem?] at q122
              have f126 : fr0.tmps.getD 126 undef = .int .i64 sB := hf 19 126 (by kernel_rfl) rfl
              have q126 := f126
              rw [Array.getD_eq_getD_getElem?] at q126
              have hd0 := HD2.out
              clear hf hold
              go_simp
              exact hK _ _ hG (Below.refl _ _) rfl
            refine AllDue.cons (due_met (.inl rfl) fun fr0 w1 hG hold hf K hK => ?_) ?_
            · have f118 : fr0.tmps.getD 118 undef = .bool true := hf 11 118 (by kernel_rfl) rfl
              have q118 := f118
              rw [Array.getD_eq_getD_getElem?] at q118
              have f127 : fr0.tmps.getD 127 undef = .bool true := hf 20 127 (by kernel_rfl) rfl
              have q127 := f127
              rw [Array.getD_eq_getD_getElem?] at q127
              clear hf hold
              go_simp
              exact hK _ _ hG (Below.refl _ _) rfl
            refine AllDue.cons (due_met (.inl rfl) fun fr0 w1 hG hold hf K hK => ?_) ?_
            · have f128 : fr0.tmps.getD 128 undef = .bool true := hf 21 128 (by kernel_rfl) rfl
              have q128 := f128
              rw [Array.getD_eq_getD_getElem?] at q128
              clear hf hold
              go_simp
              exact hK _ _ hG (Below.refl _ _) rfl
            exact AllDue.nil
          · intro ac w11 hG hd hs hold hf
            have f6 : ac.tmps.getD 6 undef = .bool true := hf 22 6 rfl
            clear hf hold
            go_wp2_with fail
            refine bodyPost_ret (results_tmp rfl _ _ _) hd ?_
            exact ⟨by rw [f6], hG.below⟩
    · rcases gA with _ | _
      · have hd1 : decide (x3 < y3) = false := decide_eq_false (by have := (BF.out.f2 rfl rfl).1; omega)
        rcases Int.lt_or_le 0 y4 with h4 | h4
        · have b1 : (y4 != 0) = true := by simp; omega
          have b2 : (x4 == 0) = false := by have := ((BF.out.f2 rfl rfl).2.2 h4).1; simp; omega
          have b3 : decide (y4 < x4) = false := decide_eq_false (by have := ((BF.out.f2 rfl rfl).2.2 h4).2; omega)
          clear h4
          go_wp2_with fail
          (with_reducible refine (C4.out LU.out _ _ G9.out.t.f).mono ?_)
          rintro e2 w10 ⟨rfl, hb⟩
          have G10 := Lib.hid (G9.out.step hb)
          clear hb G9 M9 N9 m1 m2 m3 m4 n1 n2 n3 n4 t0 t1 t2 t3 t4 i1 i2 C4
          rcases gB with _ | _
          · go_wp2_with fail
            refine wp_region_due (by kernel_rfl) bkDs (bkF w.heap.size (w.heap.size + 1) (w.heap.size + 1 + 1) b b' d d' p q fA fB sA sB) (BkG w a b c d e a' b' c' d' e' V U p q) rfl (by kernel_rfl) (by kernel_rfl) (by kernel_rfl) (bkF_mono w.heap.size (w.heap.size + 1) (w.heap.size + 1 + 1) b b' d d' p q fA fB sA sB) (G10.out.step (below_drewN (n := 1) (Below.refl _ _))) ?_ ?_
            · clear G10
              refine AllDue.cons (due_met (.inl rfl) fun fr0 w1 hG hold hf K hK => ?_) ?_
              · have f3 : fr0.tmps.getD 3 undef = .pointer (some ⟨w.heap.size, 0, none⟩) := hold 3 (by kernel_rfl)
                clear hf hold
                go_simp
                exact hK _ _ hG (Below.refl _ _) rfl
              refine AllDue.cons (due_met (.inl rfl) fun fr0 w1 hG hold hf K hK => ?_) ?_
              · have f107 : fr0.tmps.getD 107 undef = .pointer (some ⟨w.heap.size, 1, none⟩) := hf 0 107 (by kernel_rfl) rfl
                have q107 := f107
                rw [Array.getD_eq_getD_getElem?] at q107
                obtain ⟨p0, p1, p2, p3, p4⟩ := vbox_cells hG.x
                clear hf hold
                go_simp
                exact hK _ _ hG (Below.refl _ _) rfl
              refine AllDue.cons (due_met (.inl rfl) fun fr0 w1 hG hold hf K hK => ?_) ?_
              · have f5 : fr0.tmps.getD 5 undef = .pointer (some ⟨w.heap.size + 1 + 1, 0, none⟩) := hold 5 (by kernel_rfl)
                clear hf hold
                go_simp
                exact hK _ _ hG (Below.refl _ _) rfl
              refine AllDue.cons (due_met (.inl rfl) fun fr0 w1 hG hold hf K hK => ?_) ?_
              · have f109 : fr0.tmps.getD 109 undef = .pointer (some ⟨w.heap.size + 1 + 1, 0, none⟩) := hf 2 109 (by kernel_rfl) rfl
                have q109 := f109
                rw [Array.getD_eq_getD_getElem?] at q109
                obtain ⟨c1, c2⟩ := box_cells hG.i
                clear hf hold
                go_simp
                exact hK _ _ hG (Below.refl _ _) rfl
              refine AllDue.cons (due_met (.inl rfl) fun fr0 w1 hG hold hf K hK => ?_) ?_
              · have f108 : fr0.tmps.getD 108 undef = .slice b.1 b.2.1 b.2.2 := hf 1 108 (by kernel_rfl) rfl
                have q108 := f108
                rw [Array.getD_eq_getD_getElem?] at q108
                have f110 : fr0.tmps.getD 110 undef = .int .i64 p := hf 3 110 (by kernel_rfl) rfl
                have q110 := f110
                rw [Array.getD_eq_getD_getElem?] at q110
                clear hf hold
                go_simp
                go_at_call 30
                (with_reducible refine (C5.out LV.out _ _ hG.r.f).mono ?_)
                rintro e0 w' ⟨rfl, h2⟩
                exact hK _ _ (hG.step h2) h2 rfl
              refine AllDue.cons (due_met (.inl rfl) fun fr0 w1 hG hold hf K hK => ?_) ?_
              · have f4 : fr0.tmps.getD 4 undef = .pointer (some ⟨w.heap.size + 1, 0, none⟩) := hold 4 (by kernel_rfl)
                clear hf hold
                go_simp
                exact hK _ _ hG (Below.refl _ _) rfl
              refine AllDue.cons (due_met (.inl rfl) fun fr0 w1 hG hold hf K hK => ?_) ?_
              · have f112 : fr0.tmps.getD 112 undef = .pointer (some ⟨w.heap.size + 1, 1, none⟩) := hf 5 112 (by kernel_rfl) rfl
                have q112 := f112
                rw [Array.getD_eq_getD_getElem?] at q112
                obtain ⟨p0, p1, p2, p3, p4⟩ := vbox_cells hG.y
                clear hf hold
                go_simp
                exact hK _ _ hG (Below.refl _ _) rfl
              refine AllDue.cons (due_met (.inl rfl) fun fr0 w1 hG hold hf K hK => ?_) ?_
              · have f5 : fr0.tmps.getD 5 undef = .pointer (some ⟨w.heap.size + 1 + 1, 0, none⟩) := hold 5 (by kernel_rfl)
                clear hf hold
                go_simp
                exact hK _ _ hG (Below.refl _ _) rfl
              refine AllDue.cons (due_met (.inl rfl) fun fr0 w1 hG hold hf K hK => ?_) ?_
              · have f114 : fr0.tmps.getD 114 undef = .pointer (some ⟨w.heap.size + 1 + 1, 0, none⟩) := hf 7 114 (by kernel_rfl) rfl
                have q114 := f114
                rw [Array.getD_eq_getD_getElem?] at q114
                obtain ⟨c1, c2⟩ := box_cells hG.i
                clear hf hold
                go_simp
                exact hK _ _ hG (Below.refl _ _) rfl
              refine AllDue.cons (due_met (.inl rfl) fun fr0 w1 hG hold hf K hK => ?_) ?_
              · have f113 : fr0.tmps.getD 113 undef = .slice b'.1 b'.2.1 b'.2.2 := hf 6 113 (by kernel_rfl) rfl
                have q113 := f113
                rw [Array.getD_eq_getD_getElem?] at q113
                have f115 : fr0.tmps.getD 115 undef = .int .i64 p := hf 8 115 (by kernel_rfl) rfl
                have q115 := f115
                rw [Array.getD_eq_getD_getElem?] at q115
                clear hf hold
                go_simp
                go_at_call 30
                (with_reducible refine (C6.out LU.out _ _ hG.t.f).mono ?_)
                rintro e0 w' ⟨rfl, h2⟩
                exact hK _ _ (hG.step h2) h2 rfl
              refine AllDue.cons (due_met (.inl rfl) fun fr0 w1 hG hold hf K hK => ?_) ?_
              · have f111 : fr0.tmps.getD 111 undef = .int .i64 fA := hf 4 111 (by kernel_rfl) rfl
                have q111 := f111
                rw [Array.getD_eq_getD_getElem?] at q111
                have f116 : fr0.tmps.getD 116 undef = .int .i64 fB := hf 9 116 (by kernel_rfl) rfl
                have q116 := f116
                rw [Array.getD_eq_getD_getElem?] at q116
                have hd0 := HD1.out
                clear hf hold
                go_simp
                exact hK _ _ hG (Below.refl _ _) rfl
              refine AllDue.cons (due_met (.inl rfl) fun fr0 w1 hG hold hf K hK => ?_) ?_
              · have f117 : fr0.tmps.getD 117 undef = .bool true := hf 10 117 (by kernel_rfl) rfl
                have q117 := f117
                rw [Array.getD_eq_getD_getElem?] at q117
                clear hf hold
                go_simp
                exact hK _ _ hG (Below.refl _ _) rfl
              refine AllDue.cons (due_met (.inr ⟨11, true, 118, rfl, rfl, by kernel_rfl, fun _ _ h => h⟩) fun fr0 w1 hG hold hf K hK => ?_) ?_
              · have f3 : fr0.tmps.getD 3 undef = .pointer (some ⟨w.heap.size, 0, none⟩) := hold 3 (by kernel_rfl)
                clear hf hold
                go_simp
                exact hK _ _ hG (Below.refl _ _) rfl
              refine AllDue.cons (due_met (.inr ⟨11, true, 118, rfl, rfl, by kernel_rfl, fun _ _ h => h⟩) fun fr0 w1 hG hold hf K hK => ?_) ?_
              · have f119 : fr0.tmps.getD 119 undef = .pointer (some ⟨w.heap.size, 3, none⟩) := hf 12 119 (by kernel_rfl) rfl
                have q119 := f119
                rw [Array.getD_eq_getD_getElem?] at q119
                obtain ⟨p0, p1, p2, p3, p4⟩ := vbox_cells hG.x
                clear hf hold
                go_simp
                exact hK _ _ hG (Below.refl _ _) rfl
              refine AllDue.cons (due_met (.inr ⟨11, true, 118, rfl, rfl, by kernel_rfl, fun _ _ h => h⟩) fun fr0 w1 hG hold hf K hK => ?_) ?_
              · have f5 : fr0.tmps.getD 5 undef = .pointer (some ⟨w.heap.size + 1 + 1, 0, none⟩) := hold 5 (by kernel_rfl)
                obtain ⟨c1, c2⟩ := box_cells hG.i
                clear hf hold
                go_simp
                exact hK _ _ hG (Below.refl _ _) rfl
              refine AllDue.cons (due_met (.inr ⟨11, true, 118, rfl, rfl, by kernel_rfl, fun _ _ h => h⟩) fun fr0 w1 hG hold hf K hK => ?_) ?_
              · have f120 : fr0.tmps.getD 120 undef = .slice d.1 d.2.1 d.2.2 := hf 13 120 (by kernel_rfl) rfl
                have q120 := f120
                rw [Array.getD_eq_getD_getElem?] at q120
                have f121 : fr0.tmps.getD 121 undef = .agg #[.int .i64 p, .int .i64 q] := hf 14 121 (by kernel_rfl) rfl
                have q121 := f121
                rw [Array.getD_eq_getD_getElem?] at q121
                clear hf hold
                go_simp
                go_at_call 31
                (with_reducible refine (C7.out LV.out _ _ hG.r.c).mono ?_)
                rintro e0 w' ⟨rfl, h2⟩
                exact hK _ _ (hG.step h2) h2 rfl
              refine AllDue.cons (due_met (.inr ⟨11, true, 118, rfl, rfl, by kernel_rfl, fun _ _ h => h⟩) fun fr0 w1 hG hold hf K hK => ?_) ?_
              · have f4 : fr0.tmps.getD 4 undef = .pointer (some ⟨w.heap.size + 1, 0, none⟩) := hold 4 (by kernel_rfl)
                clear hf hold
                go_simp
                exact hK _ _ hG (Below.refl _ _) rfl
              refine AllDue.cons (due_met (.inr ⟨11, true, 118, rfl, rfl, by kernel_rfl, fun _ _ h => h⟩) fun fr0 w1 hG hold hf K hK => ?_) ?_
              · have f123 : fr0.tmps.getD 123 undef = .pointer (some ⟨w.heap.size + 1, 3, none⟩) := hf 16 123 (by kernel_rfl) rfl
                have q123 := f123
                rw [Array.getD_eq_getD_getElem?] at q123
                obtain ⟨p0, p1, p2, p3, p4⟩ := vbox_cells hG.y
                clear hf hold
                go_simp
                exact hK _ _ hG (Below.refl _ _) rfl
              refine AllDue.cons (due_met (.inr ⟨11, true, 118, rfl, rfl, by kernel_rfl, fun _ _ h => h⟩) fun fr0 w1 hG hold hf K hK => ?_) ?_
              · have f5 : fr0.tmps.getD 5 undef = .pointer (some ⟨w.heap.size + 1 + 1, 0, none⟩) := hold 5 (by kernel_rfl)
                obtain ⟨c1, c2⟩ := box_cells hG.i
                clear hf hold
                go_simp
                exact hK _ _ hG (Below.refl _ _) rfl
              refine AllDue.cons (due_met (.inr ⟨11, true, 118, rfl, rfl, by kernel_rfl, fun _ _ h => h⟩) fun fr0 w1 hG hold hf K hK => ?_) ?_
              · have f124 : fr0.tmps.getD 124 undef = .slice d'.1 d'.2.1 d'.2.2 := hf 17 124 (by kernel_rfl) rfl
                have q124 := f124
                rw [Array.getD_eq_getD_getElem?] at q124
                have f125 : fr0.tmps.getD 125 undef = .agg #[.int .i64 p, .int .i64 q] := hf 18 125 (by kernel_rfl) rfl
                have q125 := f125
                rw [Array.getD_eq_getD_getElem?] at q125
                clear hf hold
                go_simp
                go_at_call 31
                (with_reducible refine (C8.out LU.out _ _ hG.t.c).mono ?_)
                rintro e0 w' ⟨rfl, h2⟩
                exact hK _ _ (hG.step h2) h2 rfl
              refine AllDue.cons (due_met (.inr ⟨11, true, 118, rfl, rfl, by kernel_rfl, fun _ _ h => h⟩) fun fr0 w1 hG hold hf K hK => ?_) ?_
              · have f122 : fr0.tmps.getD 122 undef = .int .i64 sA := hf 15 122 (by kernel_rfl) rfl
                have q122 := f122
                rw [Array.getD_eq_getD_getElem?] at q122
                have f126 : fr0.tmps.getD 126 undef = .int .i64 sB := hf 19 126 (by kernel_rfl) rfl
                have q126 := f126
                rw [Array.getD_eq_getD_getElem?] at q126
                have hd0 := HD2.out
                clear hf hold
                go_simp
                exact hK _ _ hG (Below.refl _ _) rfl
              refine AllDue.cons (due_met (.inl rfl) fun fr0 w1 hG hold hf K hK => ?_) ?_
              · have f118 : fr0.tmps.getD 118 undef = .bool true := hf 11 118 (by kernel_rfl) rfl
                have q118 := f118
                rw [Array.getD_eq_getD_getElem?] at q118
                have f127 : fr0.tmps.getD 127 undef = .bool true := hf 20 127 (by kernel_rfl) rfl
                have q127 := f127
                rw [Array.getD_eq_getD_getElem?] at q127
                clear hf hold
                go_simp
                exact hK _ _ hG (Below.refl _ _) rfl
              refine AllDue.cons (due_met (.inl rfl) fun fr0 w1 hG hold hf K hK => ?_) ?_
              · have f128 : fr0.tmps.getD 128 undef = .bool true := hf 21 128 (by kernel_rfl) rfl
                have q128 := f128
                rw [Array.getD_eq_getD_getElem?] at q128
                clear hf hold
                go_simp
                exact hK _ _ hG (Below.refl _ _) rfl
              exact AllDue.nil
            · intro ac w11 hG hd hs hold hf
              have f6 : ac.tmps.getD 6 undef = .bool true := hf 22 6 rfl
              clear hf hold
              go_wp2_with fail
              refine bodyPost_ret (results_tmp rfl _ _ _) hd ?_
              exact ⟨by rw [f6], hG.below⟩
          · exact absurd (BF.out.f3 rfl) (by decide)
        · obtain rfl : y4 = 0 := by have := (BF.out.f2 rfl rfl).2.1; omega
          clear h4
          go_wp2_with fail
          (with_reducible refine (C4.out LU.out _ _ G9.out.t.f).mono ?_)
          rintro e2 w10 ⟨rfl, hb⟩
          have G10 := Lib.hid (G9.out.step hb)
          clear hb G9 M9 N9 m1 m2 m3 m4 n1 n2 n3 n4 t0 t1 t2 t3 t4 i1 i2 C4
          rcases gB with _ | _
          · go_wp2_with fail
            refine wp_region_due (by kernel_rfl) bkDs (bkF w.heap.size (w.heap.size + 1) (w.heap.size + 1 + 1) b b' d d' p q fA fB sA sB) (BkG w a b c d e a' b' c' d' e' V U p q) rfl (by kernel_rfl) (by kernel_rfl) (by kernel_rfl) (bkF_mono w.heap.size (w.heap.size + 1) (w.heap.size + 1 + 1) b b' d d' p q fA fB sA sB) (G10.out.step (below_drewN (n := 1) (Below.refl _ _))) ?_ ?_
            · clear G10
              refine AllDue.cons (due_met (.inl rfl) fun fr0 w1 hG hold hf K hK => ?_) ?_
              · have f3 : fr0.tmps.getD 3 undef = .pointer (some ⟨w.heap.size, 0, none⟩) := hold 3 (by kernel_rfl)
                clear hf hold
                go_simp
                exact hK _ _ hG (Below.refl _ _) rfl
              refine AllDue.cons (due_met (.inl rfl) fun fr0 w1 hG hold hf K hK => ?_) ?_
              · have f107 : fr0.tmps.getD 107 undef = .pointer (some ⟨w.heap.size, 1, none⟩) := hf 0 107 (by kernel_rfl) rfl
                have q107 := f107
                rw [Array.getD_eq_getD_getElem?] at q107
                obtain ⟨p0, p1, p2, p3, p4⟩ := vbox_cells hG.x
                clear hf hold
                go_simp
                exact hK _ _ hG (Below.refl _ _) rfl
              refine AllDue.cons (due_met (.inl rfl) fun fr0 w1 hG hold hf K hK => ?_) ?_
              · have f5 : fr0.tmps.getD 5 undef = .pointer (some ⟨w.heap.size + 1 + 1, 0, none⟩) := hold 5 (by kernel_rfl)
                clear hf hold
                go_simp
                exact hK _ _ hG (Below.refl _ _) rfl
              refine AllDue.cons (due_met (.inl rfl) fun fr0 w1 hG hold hf K hK => ?_) ?_
              · have f109 : fr0.tmps.getD 109 undef = .pointer (some ⟨w.heap.size + 1 + 1, 0, none⟩) := hf 2 109 (by kernel_rfl) rfl
                have q109 := f109
                rw [Array.getD_eq_getD_getElem?] at q109
                obtain ⟨c1, c2⟩ := box_cells hG.i
                clear hf hold
                go_simp
                exact hK _ _ hG (Below.refl _ _) rfl
              refine AllDue.cons (due_met (.inl rfl) fun fr0 w1 hG hold hf K hK => ?_) ?_
              · have f108 : fr0.tmps.getD 108 undef = .slice b.1 b.2.1 b.2.2 := hf 1 108 (by kernel_rfl) rfl
                have q108 := f108
                rw [Array.getD_eq_getD_getElem?] at q108
                have f110 : fr0.tmps.getD 110 undef = .int .i64 p := hf 3 110 (by kernel_rfl) rfl
                have q110 := f110
                rw [Array.getD_eq_getD_getElem?] at q110
                clear hf hold
                go_simp
                go_at_call 30
                (with_reducible refine (C5.out LV.out _ _ hG.r.f).mono ?_)
                rintro e0 w' ⟨rfl, h2⟩
                exact hK _ _ (hG.step h2) h2 rfl
              refine AllDue.cons (due_met (.inl rfl) fun fr0 w1 hG hold hf K hK => ?_) ?_
              · have f4 : fr0.tmps.getD 4 undef = .pointer (some ⟨w.heap.size + 1, 0, none⟩) := hold 4 (by kernel_rfl)
                clear hf hold
                go_simp
                exact hK _ _ hG (Below.refl _ _) rfl
              refine AllDue.cons (due_met (.inl rfl) fun fr0 w1 hG hold hf K hK => ?_) ?_
              · have f112 : fr0.tmps.getD 112 undef = .pointer (some ⟨w.heap.size + 1, 1, none⟩) := hf 5 112 (by kernel_rfl) rfl
                have q112 := f112
                rw [Array.getD_eq_getD_getElem?] at q112
                obtain ⟨p0, p1, p2, p3, p4⟩ := vbox_cells hG.y
                clear hf hold
                go_simp
                exact hK _ _ hG (Below.refl _ _) rfl
              refine AllDue.cons (due_met (.inl rfl) fun fr0 w1 hG hold hf K hK => ?_) ?_
              · have f5 : fr0.tmps.getD 5 undef = .pointer (some ⟨w.heap.size + 1 + 1, 0, none⟩) := hold 5 (by kernel_rfl)
                clear hf hold
                go_simp
                exact hK _ _ hG (Below.refl _ _) rfl
              refine AllDue.cons (due_met (.inl rfl) fun fr0 w1 hG hold hf K hK => ?_) ?_
              · have f114 : fr0.tmps.getD 114 undef = .pointer (some ⟨w.heap.size + 1 + 1, 0, none⟩) := hf 7 114 (by kernel_rfl) rfl
                have q114 := f114
                rw [Array.getD_eq_getD_getElem?] at q114
                obtain ⟨c1, c2⟩ := box_cells hG.i
                clear hf hold
                go_simp
                exact hK _ _ hG (Below.refl _ _) rfl
              refine AllDue.cons (due_met (.inl rfl) fun fr0 w1 hG hold hf K hK => ?_) ?_
              · have f113 : fr0.tmps.getD 113 undef = .slice b'.1 b'.2.1 b'.2.2 := hf 6 113 (by kernel_rfl) rfl
                have q113 := f113
                rw [Array.getD_eq_getD_getElem?] at q113
                have f115 : fr0.tmps.getD 115 undef = .int .i64 p := hf 8 115 (by kernel_rfl) rfl
                have q115 := f115
                rw [Array.getD_eq_getD_getElem?] at q115
                clear hf hold
                go_simp
                go_at_call 30
                (with_reducible refine (C6.out LU.out _ _ hG.t.f).mono ?_)
                rintro e0 w' ⟨rfl, h2⟩
                exact hK _ _ (hG.step h2) h2 rfl
              refine AllDue.cons (due_met (.inl rfl) fun fr0 w1 hG hold hf K hK => ?_) ?_
              · have f111 : fr0.tmps.getD 111 undef = .int .i64 fA := hf 4 111 (by kernel_rfl) rfl
                have q111 := f111
                rw [Array.getD_eq_getD_getElem?] at q111
                have f116 : fr0.tmps.getD 116 undef = .int .i64 fB := hf 9 116 (by kernel_rfl) rfl
                have q116 := f116
                rw [Array.getD_eq_getD_getElem?] at q116
                have hd0 := HD1.out
                clear hf hold
                go_simp
                exact hK _ _ hG (Below.refl _ _) rfl
              refine AllDue.cons (due_met (.inl rfl) fun fr0 w1 hG hold hf K hK => ?_) ?_
              · have f117 : fr0.tmps.getD 117 undef = .bool true := hf 10 117 (by kernel_rfl) rfl
                have q117 := f117
                rw [Array.getD_eq_getD_getElem?] at q117
                clear hf hold
                go_simp
                exact hK _ _ hG (Below.refl _ _) rfl
              refine AllDue.cons (due_met (.inr ⟨11, true, 118, rfl, rfl, by kernel_rfl, fun _ _ h => h⟩) fun fr0 w1 hG hold hf K hK => ?_) ?_
              · have f3 : fr0.tmps.getD 3 undef = .pointer (some ⟨w.heap.size, 0, none⟩) := hold 3 (by kernel_rfl)
                clear hf hold
                go_simp
                exact hK _ _ hG (Below.refl _ _) rfl
              refine AllDue.cons (due_met (.inr ⟨11, true, 118, rfl, rfl, by kernel_rfl, fun _ _ h => h⟩) fun fr0 w1 hG hold hf K hK => ?_) ?_
              · have f119 : fr0.tmps.getD 119 undef = .pointer (some ⟨w.heap.size, 3, none⟩) := hf 12 119 (by kernel_rfl) rfl
                have q119 := f119
                rw [Array.getD_eq_getD_getElem?] at q119
                obtain ⟨p0, p1, p2, p3, p4⟩ := vbox_cells hG.x
                clear hf hold
                go_simp
                exact hK _ _ hG (Below.refl _ _) rfl
              refine AllDue.cons (due_met (.inr ⟨11, true, 118, rfl, rfl, by kernel_rfl, fun _ _ h => h⟩) fun fr0 w1 hG hold hf K hK => ?_) ?_
              · have f5 : fr0.tmps.getD 5 undef = .pointer (some ⟨w.heap.size + 1 + 1, 0, none⟩) := hold 5 (by kernel_rfl)
                obtain ⟨c1, c2⟩ := box_cells hG.i
                clear hf hold
                go_simp
                exact hK _ _ hG (Below.refl _ _) rfl
              refine AllDue.cons (due_met (.inr ⟨11, true, 118, rfl, rfl, by kernel_rfl, fun _ _ h => h⟩) fun fr0 w1 hG hold hf K hK => ?_) ?_
              · have f120 : fr0.tmps.getD 120 undef = .slice d.1 d.2.1 d.2.2 := hf 13 120 (by kernel_rfl) rfl
                have q120 := f120
                rw [Array.getD_eq_getD_getElem?] at q120
                have f121 : fr0.tmps.getD 121 undef = .agg #[.int .i64 p, .int .i64 q] := hf 14 121 (by kernel_rfl) rfl
                have q121 := f121
                rw [Array.getD_eq_getD_getElem?] at q121
                clear hf hold
                go_simp
                go_at_call 31
                (with_reducible refine (C7.out LV.out _ _ hG.r.c).mono ?_)
                rintro e0 w' ⟨rfl, h2⟩
                exact hK _ _ (hG.step h2) h2 rfl
              refine AllDue.cons (due_met (.inr ⟨11, true, 118, rfl, rfl, by kernel_rfl, fun _ _ h => h⟩) fun fr0 w1 hG hold hf K hK => ?_) ?_
              · have f4 : fr0.tmps.getD 4 undef = .pointer (some ⟨w.heap.size + 1, 0, none⟩) := hold 4 (by kernel_rfl)
                clear hf hold
                go_simp
                exact hK _ _ hG (Below.refl _ _) rfl
              refine AllDue.cons (due_met (.inr ⟨11, true, 118, rfl, rfl, by kernel_rfl, fun _ _ h => h⟩) fun fr0 w1 hG hold hf K hK => ?_) ?_
              · have f123 : fr0.tmps.getD 123 undef = .pointer (some ⟨w.heap.size + 1, 3, none⟩) := hf 16 123 (by kernel_rfl) rfl
                have q123 := f123
                rw [Array.getD_eq_getD_getElem?] at q123
                obtain ⟨p0, p1, p2, p3, p4⟩ := vbox_cells hG.y
                clear hf hold
                go_simp
                exact hK _ _ hG (Below.refl _ _) rfl
              refine AllDue.cons (due_met (.inr ⟨11, true, 118, rfl, rfl, by kernel_rfl, fun _ _ h => h⟩) fun fr0 w1 hG hold hf K hK => ?_) ?_
              · have f5 : fr0.tmps.getD 5 undef = .pointer (some ⟨w.heap.size + 1 + 1, 0, none⟩) := hold 5 (by kernel_rfl)
                obtain ⟨c1, c2⟩ := box_cells hG.i
                clear hf hold
                go_simp
                exact hK _ _ hG (Below.refl _ _) rfl
              refine AllDue.cons (due_met (.inr ⟨11, true, 118, rfl, rfl, by kernel_rfl, fun _ _ h => h⟩) fun fr0 w1 hG hold hf K hK => ?_) ?_
              · have f124 : fr0.tmps.getD 124 undef = .slice d'.1 d'.2.1 d'.2.2 := hf 17 124 (by kernel_rfl) rfl
                have q124 := f124
                rw [Array.getD_eq_getD_getElem?] at q124
                have f125 : fr0.tmps.getD 125 undef = .agg #[.int .i64 p, .int .i64 q] := hf 18 125 (by kernel_rfl) rfl
                have q125 := f125
                rw [Array.getD_eq_getD_getElem?] at q125
                clear hf hold
                go_simp
                go_at_call 31
                (with_reducible refine (C8.out LU.out _ _ hG.t.c).mono ?_)
                rintro e0 w' ⟨rfl, h2⟩
                exact hK _ _ (hG.step h2) h2 rfl
              refine AllDue.cons (due_met (.inr ⟨11, true, 118, rfl, rfl, by kernel_rfl, fun _ _ h => h⟩) fun fr0 w1 hG hold hf K hK => ?_) ?_
              · have f122 : fr0.tmps.getD 122 undef = .int .i64 sA := hf 15 122 (by kernel_rfl) rfl
                have q122 := f122
                rw [Array.getD_eq_getD_getElem?] at q122
                have f126 : fr0.tmps.getD 126 undef = .int .i64 sB := hf 19 126 (by kernel_rfl) rfl
                have q126 := f126
                rw [Array.getD_eq_getD_getElem?] at q126
                have hd0 := HD2.out
                clear hf hold
                go_simp
                exact hK _ _ hG (Below.refl _ _) rfl
              refine AllDue.cons (due_met (.inl rfl) fun fr0 w1 hG hold hf K hK => ?_) ?_
              · have f118 : fr0.tmps.getD 118 undef = .bool true := hf 11 118 (by kernel_rfl) rfl
                have q118 := f118
                rw [Array.getD_eq_getD_getElem?] at q118
                have f127 : fr0.tmps.getD 127 undef = .bool true := hf 20 127 (by kernel_rfl) rfl
                have q127 := f127
                rw [Array.getD_eq_getD_getElem?] at q127
                clear hf hold
                go_simp
                exact hK _ _ hG (Below.refl _ _) rfl
              refine AllDue.cons (due_met (.inl rfl) fun fr0 w1 hG hold hf K hK => ?_) ?_
              · have f128 : fr0.tmps.getD 128 undef = .bool true := hf 21 128 (by kernel_rfl) rfl
                have q128 := f128
                rw [Array.getD_eq_getD_getElem?] at q128
                clear hf hold
                go_simp
                exact hK _ _ hG (Below.refl _ _) rfl
              exact AllDue.nil
            · intro ac w11 hG hd hs hold hf
              have f6 : ac.tmps.getD 6 undef = .bool true := hf 22 6 rfl
              clear hf hold
              go_wp2_with fail
              refine bodyPost_ret (results_tmp rfl _ _ _) hd ?_
              exact ⟨by rw [f6], hG.below⟩
          · exact absurd (BF.out.f3 rfl) (by decide)
      · have hd1 : decide (x3 < y3) = false := decide_eq_false (by have := (BF.out.f2 rfl rfl).1; omega)
        rcases Int.lt_or_le 0 y4 with h4 | h4
        · have b1 : (y4 != 0) = true := by simp; omega
          have b2 : (x4 == 0) = false := by have := ((BF.out.f2 rfl rfl).2.2 h4).1; simp; omega
          have b3 : decide (y4 < x4) = false := decide_eq_false (by have := ((BF.out.f2 rfl rfl).2.2 h4).2; omega)
          clear h4
          go_wp2_with fail
          (with_reducible refine (C4.out LU.out _ _ G9.out.t.f).mono ?_)
          rintro e2 w10 ⟨rfl, hb⟩
          have G10 := Lib.hid (G9.out.step hb)
          clear hb G9 M9 N9 m1 m2 m3 m4 n1 n2 n3 n4 t0 t1 t2 t3 t4 i1 i2 C4
          rcases gB with _ | _
          · go_wp2_with fail
            refine wp_region_due (by kernel_rfl) bkDs (bkF w.heap.size (w.heap.size + 1) (w.heap.size + 1 + 1) b b' d d' p q fA fB sA sB) (BkG w a b c d e a' b' c' d' e' V U p q) rfl (by kernel_rfl) (by kernel_rfl) (by kernel_rfl) (bkF_mono w.heap.size (w.heap.size + 1) (w.heap.size + 1 + 1) b b' d d' p q fA fB sA sB) (G10.out.step (below_drewN (n := 1) (Below.refl _ _))) ?_ ?_
            · clear G10
              refine AllDue.cons (due_met (.inl rfl) fun fr0 w1 hG hold hf K hK => ?_) ?_
              · have f3 : fr0.tmps.getD 3 undef = .pointer (some ⟨w.heap.size, 0, none⟩) := hold 3 (by kernel_rfl)
                clear hf hold
                go_simp
                exact hK _ _ hG (Below.refl _ _) rfl
              refine AllDue.cons (due_met (.inl rfl) fun fr0 w1 hG hold hf K hK => ?_) ?_
              · have f107 : fr0.tmps.getD 107 undef = .pointer (some ⟨w.heap.size, 1, none⟩) := hf 0 107 (by kernel_rfl) rfl
                have q107 := f107
                rw [Array.getD_eq_getD_getElem?] at q107
                obtain ⟨p0, p1, p2, p3, p4⟩ := vbox_cells hG.x
                clear hf hold
                go_simp
                exact hK _ _ hG (Below.refl _ _) rfl
              refine AllDue.cons (due_met (.inl rfl) fun fr0 w1 hG hold hf K hK => ?_) ?_
              · have f5 : fr0.tmps.getD 5 undef = .pointer (some ⟨w.heap.size + 1 + 1, 0, none⟩) := hold 5 (by kernel_rfl)
                clear hf hold
                go_simp
                exact hK _ _ hG (Below.refl _ _) rfl
              refine AllDue.cons (due_met (.inl rfl) fun fr0 w1 hG hold hf K hK => ?_) ?_
              · have f109 : fr0.tmps.getD 109 undef = .pointer (some ⟨w.heap.size + 1 + 1, 0, none⟩) := hf 2 109 (by kernel_rfl) rfl
                have q109 := f109
                rw [Array.getD_eq_getD_getElem?] at q109
                obtain ⟨c1, c2⟩ := box_cells hG.i
                clear hf hold
                go_simp
                exact hK _ _ hG (Below.refl _ _) rfl
              refine AllDue.cons (due_met (.inl rfl) fun fr0 w1 hG hold hf K hK => ?_) ?_
              · have f108 : fr0.tmps.getD 108 undef = .slice b.1 b.2.1 b.2.2 := hf 1 108 (by kernel_rfl) rfl
                have q108 := f108
                rw [Array.getD_eq_getD_getElem?] at q108
                have f110 : fr0.tmps.getD 110 undef = .int .i64 p := hf 3 110 (by kernel_rfl) rfl
                have q110 := f110
                rw [Array.getD_eq_getD_getElem?] at q110
                clear hf hold
                go_simp
                go_at_call 30
                (with_reducible refine (C5.out LV.out _ _ hG.r.f).mono ?_)
                rintro e0 w' ⟨rfl, h2⟩
                exact hK _ _ (hG.step h2) h2 rfl
              refine AllDue.cons (due_met (.inl rfl) fun fr0 w1 hG hold hf K hK => ?_) ?_
              · have f4 : fr0.tmps.getD 4 undef = .pointer (some ⟨w.heap.size + 1, 0, none⟩) := hold 4 (by kernel_rfl)
                clear hf hold
                go_simp
                exact hK _ _ hG (Below.refl _ _) rfl
              refine AllDue.cons (due_met (.inl rfl) fun fr0 w1 hG hold hf K hK => ?_) ?_
              · have f112 : fr0.tmps.getD 112 undef = .pointer (some ⟨w.heap.size + 1, 1, none⟩) := hf 5 112 (by kernel_rfl) rfl
                have q112 := f112
                rw [Array.getD_eq_getD_getElem?] at q112
                obtain ⟨p0, p1, p2, p3, p4⟩ := vbox_cells hG.y
                clear hf hold
                go_simp
                exact hK _ _ hG (Below.refl _ _) rfl
              refine AllDue.cons (due_met (.inl rfl) fun fr0 w1 hG hold hf K hK => ?_) ?_
              · have f5 : fr0.tmps.getD 5 undef = .pointer (some ⟨w.heap.size + 1 + 1, 0, none⟩) := hold 5 (by kernel_rfl)
                clear hf hold
                go_simp
                exact hK _ _ hG (Below.refl _ _) rfl
              refine AllDue.cons (due_met (.inl rfl) fun fr0 w1 hG hold hf K hK => ?_) ?_
              · have f114 : fr0.tmps.getD 114 undef = .pointer (some ⟨w.heap.size + 1 + 1, 0, none⟩) := hf 7 114 (by kernel_rfl) rfl
                have q114 := f114
                rw [Array.getD_eq_getD_getElem?] at q114
                obtain ⟨c1, c2⟩ := box_cells hG.i
                clear hf hold
                go_simp
                exact hK _ _ hG (Below.refl _ _) rfl
              refine AllDue.cons (due_met (.inl rfl) fun fr0 w1 hG hold hf K hK => ?_) ?_
              · have f113 : fr0.tmps.getD 113 undef = .slice b'.1 b'.2.1 b'.2.2 := hf 6 113 (by kernel_rfl) rfl
                have q113 := f113
                rw [Array.getD_eq_getD_getElem?] at q113
                have f115 : fr0.tmps.getD 115 undef = .int .i64 p := hf 8 115 (by kernel_rfl) rfl
                have q115 := f115
                rw [Array.getD_eq_getD_getElem?] at q115
                clear hf hold
                go_simp
                go_at_call 30
                (with_reducible refine (C6.out LU.out _ _ hG.t.f).mono ?_)
                rintro e0 w' ⟨rfl, h2⟩
                exact hK _ _ (hG.step h2) h2 rfl
              refine AllDue.cons (due_met (.inl rfl) fun fr0 w1 hG hold hf K hK => ?_) ?_
              · have f111 : fr0.tmps.getD 111 undef = .int .i64 fA := hf 4 111 (by kernel_rfl) rfl
                have q111 := f111
                rw [Array.getD_eq_getD_getElem?] at q111
                have f116 : fr0.tmps.getD 116 undef = .int .i64 fB := hf 9 116 (by kernel_rfl) rfl
                have q116 := f116
                rw [Array.getD_eq_getD_getElem?] at q116
                have hd0 := HD1.out
                clear hf hold
                go_simp
                exact hK _ _ hG (Below.refl _ _) rfl
              refine AllDue.cons (due_met (.inl rfl) fun fr0 w1 hG hold hf K hK => ?_) ?_
              · have f117 : fr0.tmps.getD 117 undef = .bool true := hf 10 117 (by kernel_rfl) rfl
                have q117 := f117
                rw [Array.getD_eq_getD_getElem?] at q117
                clear hf hold
                go_simp
                exact hK _ _ hG (Below.refl _ _) rfl
              refine AllDue.cons (due_met (.inr ⟨11, true, 118, rfl, rfl, by kernel_rfl, fun _ _ h => h⟩) fun fr0 w1 hG hold hf K hK => ?_) ?_
              · have f3 : fr0.tmps.getD 3 undef = .pointer (some ⟨w.heap.size, 0, none⟩) := hold 3 (by kernel_rfl)
                clear hf hold
                go_simp
                exact hK _ _ hG (Below.refl _ _) rfl
              refine AllDue.cons (due_met (.inr ⟨11, true, 118, rfl, rfl, by kernel_rfl, fun _ _ h => h⟩) fun fr0 w1 hG hold hf K hK => ?_) ?_
              · have f119 : fr0.tmps.getD 119 undef = .pointer (some ⟨w.heap.size, 3, none⟩) := hf 12 119 (by kernel_rfl) rfl
                have q119 := f119
                rw [Array.getD_eq_getD_getElem?] at q119
                obtain ⟨p0, p1, p2, p3, p4⟩ := vbox_cells hG.x
                clear hf hold
                go_simp
                exact hK _ _ hG (Below.refl _ _) rfl
              refine AllDue.cons (due_met (.inr ⟨11, true, 118, rfl, rfl, by kernel_rfl, fun _ _ h => h⟩) fun fr0 w1 hG hold hf K hK => ?_) ?_
              · have f5 : fr0.tmps.getD 5 undef = .pointer (some ⟨w.heap.size + 1 + 1, 0, none⟩) := hold 5 (by kernel_rfl)
                obtain ⟨c1, c2⟩ := box_cells hG.i
                clear hf hold
                go_simp
                exact hK _ _ hG (Below.refl _ _) rfl
              refine AllDue.cons (due_met (.inr ⟨11, true, 118, rfl, rfl, by kernel_rfl, fun _ _ h => h⟩) fun fr0 w1 hG hold hf K hK => ?_) ?_
              · have f120 : fr0.tmps.getD 120 undef = .slice d.1 d.2.1 d.2.2 := hf 13 120 (by kernel_rfl) rfl
                have q120 := f120
                rw [Array.getD_eq_getD_getElem?] at q120
                have f121 : fr0.tmps.getD 121 undef = .agg #[.int .i64 p, .int .i64 q] := hf 14 121 (by kernel_rfl) rfl
                have q121 := f121
                rw [Array.getD_eq_getD_getElem?] at q121
                clear hf hold
                go_simp
                go_at_call 31
                (with_reducible refine (C7.out LV.out _ _ hG.r.c).mono ?_)
                rintro e0 w' ⟨rfl, h2⟩
                exact hK _ _ (hG.step h2) h2 rfl
              refine AllDue.cons (due_met (.inr ⟨11, true, 118, rfl, rfl, by kernel_rfl, fun _ _ h => h⟩) fun fr0 w1 hG hold hf K hK => ?_) ?_
              · have f4 : fr0.tmps.getD 4 undef = .pointer (some ⟨w.heap.size + 1, 0, none⟩) := hold 4 (by kernel_rfl)
                clear hf hold
                go_simp
                exact hK _ _ hG (Below.refl _ _) rfl
              refine AllDue.cons (due_met (.inr ⟨11, true, 118, rfl, rfl, by kernel_rfl, fun _ _ h => h⟩) fun fr0 w1 hG hold hf K hK => ?_) ?_
              · have f123 : fr0.tmps.getD 123 undef = .pointer (some ⟨w.heap.size + 1, 3, none⟩) := hf 16 123 (by kernel_rfl) rfl
                have q123 := f123
                rw [Array.getD_eq_getD_getElem?] at q123
                obtain ⟨p0, p1, p2, p3, p4⟩ := vbox_cells hG.y
                clear hf hold
                go_simp
                exact hK _ _ hG (Below.refl _ _) rfl
              refine AllDue.cons (due_met (.inr ⟨11, true, 118, rfl, rfl, by kernel_rfl, fun _ _ h => h⟩) fun fr0 w1 hG hold hf K hK => ?_) ?_
              · have f5 : fr0.tmps.getD 5 undef = .pointer (some ⟨w.heap.size + 1 + 1, 0, none⟩) := hold 5 (by kernel_rfl)
                obtain ⟨c1, c2⟩ := box_cells hG.i
                clear hf hold
                go_simp
                exact hK _ _ hG (Below.refl _ _) rfl
              refine AllDue.cons (due_met (.inr ⟨11, true, 118, rfl, rfl, by kernel_rfl, fun _ _ h => h⟩) fun fr0 w1 hG hold hf K hK => ?_) ?_
              · have f124 : fr0.tmps.getD 124 undef = .slice d'.1 d'.2.1 d'.2.2 := hf 17 124 (by kernel_rfl) rfl
                have q124 := f124
                rw [Array.getD_eq_getD_getElem?] at q124
                have f125 : fr0.tmps.getD 125 undef = .agg #[.int .i64 p, .int .i64 q] := hf 18 125 (by kernel_rfl) rfl
                have q125 := f125
                rw [Array.getD_eq_getD_getElem?] at q125
                clear hf hold
                go_simp
                go_at_call 31
                (with_reducible refine (C8.out LU.out _ _ hG.t.c).mono ?_)
                rintro e0 w' ⟨rfl, h2⟩
                exact hK _ _ (hG.step h2) h2 rfl
              refine AllDue.cons (due_met (.inr ⟨11, true, 118, rfl, rfl, by kernel_rfl, fun _ _ h => h⟩) fun fr0 w1 hG hold hf K hK => ?_) ?_
              · have f122 : fr0.tmps.getD 122 undef = .int .i64 sA := hf 15 122 (by kernel_rfl) rfl
                have q122 := f122
                rw [Array.getD_eq_getD_getElem?] at q122
                have f126 : fr0.tmps.getD 126 undef = .int .i64 sB := hf 19 126 (by kernel_rfl) rfl
                have q126 := f126
                rw [Array.getD_eq_getD_getElem?] at q126
                have hd0 := HD2.out
                clear hf hold
                go_simp
                exact hK _ _ hG (Below.refl _ _) rfl
              refine AllDue.cons (due_met (.inl rfl) fun fr0 w1 hG hold hf K hK => ?_) ?_
              · have f118 : fr0.tmps.getD 118 undef = .bool true := hf 11 118 (by kernel_rfl) rfl
                have q118 := f118
                rw [Array.getD_eq_getD_getElem?] at q118
                have f127 : fr0.tmps.getD 127 undef = .bool true := hf 20 127 (by kernel_rfl) rfl
                have q127 := f127
                rw [Array.getD_eq_getD_getElem?] at q127
                clear hf hold
                go_simp
                exact hK _ _ hG (Below.refl _ _) rfl
              refine AllDue.cons (due_met (.inl rfl) fun fr0 w1 hG hold hf K hK => ?_) ?_
              · have f128 : fr0.tmps.getD 128 undef = .bool true := hf 21 128 (by kernel_rfl) rfl
                have q128 := f128
                rw [Array.getD_eq_getD_getElem?] at q128
                clear hf hold
                go_simp
                exact hK _ _ hG (Below.refl _ _) rfl
              exact AllDue.nil
            · intro ac w11 hG hd hs hold hf
              have f6 : ac.tmps.getD 6 undef = .bool true := hf 22 6 rfl
              clear hf hold
              go_wp2_with fail
              refine bodyPost_ret (results_tmp rfl _ _ _) hd ?_
              exact ⟨by rw [f6], hG.below⟩
          · exact absurd (BF.out.f3 rfl) (by decide)
        · obtain rfl : y4 = 0 := by have := (BF.out.f2 rfl rfl).2.1; omega
          clear h4
          go_wp2_with fail
          (with_reducible refine (C4.out LU.out _ _ G9.out.t.f).mono ?_)
          rintro e2 w10 ⟨rfl, hb⟩
          have G10 := Lib.hid (G9.out.step hb)
          clear hb G9 M9 N9 m1 m2 m3 m4 n1 n2 n3 n4 t0 t1 t2 t3 t4 i1 i2 C4
          rcases gB with _ | _
          · go_wp2_with fail
            refine wp_region_due (by kernel_rfl) bkDs (bkF w.heap.size (w.heap.size + 1) (w.heap.size + 1 + 1) b b' d d' p q fA fB sA sB) (BkG w a b c d e a' b' c' d' e' V U p q) rfl (by kernel_rfl) (by kernel_rfl) (by kernel_rfl) (bkF_mono w.heap.size (w.heap.size + 1) (w.heap.size + 1 + 1) b b' d d' p q fA fB sA sB) (G10.out.step (below_drewN (n := 1) (Below.refl _ _))) ?_ ?_
            · clear G10
              refine AllDue.cons (due_met (.inl rfl) fun fr0 w1 hG hold hf K hK => ?_) ?_
              · have f3 : fr0.tmps.getD 3 undef = .pointer (some ⟨w.heap.size, 0, none⟩) := hold 3 (by kernel_rfl)
                clear hf hold
                go_simp
                exact hK _ _ hG (Below.refl _ _) rfl
              refine AllDue.cons (due_met (.inl rfl) fun fr0 w1 hG hold hf K hK => ?_) ?_
              · have f107 : fr0.tmps.getD 107 undef = .pointer (some ⟨w.heap.size, 1, none⟩) := hf 0 107 (by kernel_rfl) rfl
                have q107 := f107
                rw [Array.getD_eq_getD_getElem?] at q107
                obtain ⟨p0, p1, p2, p3, p4⟩ := vbox_cells hG.x
                clear hf hold
                go_simp
                exact hK _ _ hG (Below.refl _ _) rfl
              refine AllDue.cons (due_met (.inl rfl) fun fr0 w1 hG hold hf K hK => ?_) ?_
              · have f5 : fr0.tmps.getD 5 undef = .pointer (some ⟨w.heap.size + 1 + 1, 0, none⟩) := hold 5 (by kernel_rfl)
                clear hf hold
                go_simp
                exact hK _ _ hG (Below.refl _ _) rfl
              refine AllDue.cons (due_met (.inl rfl) fun fr0 w1 hG hold hf K hK => ?_) ?_
              · have f109 : fr0.tmps.getD 109 undef = .pointer (some ⟨w.heap.size + 1 + 1, 0, none⟩) := hf 2 109 (by kernel_rfl) rfl
                have q109 := f109
                rw [Array.getD_eq_getD_getElem?] at q109
                obtain ⟨c1, c2⟩ := box_cells hG.i
                clear hf hold
                go_simp
                exact hK _ _ hG (Below.refl _ _) rfl
              refine AllDue.cons (due_met (.inl rfl) fun fr0 w1 hG hold hf K hK => ?_) ?_
              · have f108 : fr0.tmps.getD 108 undef = .slice b.1 b.2.1 b.2.2 := hf 1 108 (by kernel_rfl) rfl
                have q108 := f108
                rw [Array.getD_eq_getD_getElem?] at q108
                have f110 : fr0.tmps.getD 110 undef = .int .i64 p := hf 3 110 (by kernel_rfl) rfl
                have q110 := f110
                rw [Array.getD_eq_getD_getElem?] at q110
                clear hf hold
                go_simp
                go_at_call 30
                (with_reducible refine (C5.out LV.out _ _ hG.r.f).mono ?_)
                rintro e0 w' ⟨rfl, h2⟩
                exact hK _ _ (hG.step h2) h2 rfl
              refine AllDue.cons (due_met (.inl rfl) fun fr0 w1 hG hold hf K hK => ?_) ?_
              · have f4 : fr0.tmps.getD 4 undef = .pointer (some ⟨w.heap.size + 1, 0, none⟩) := hold 4 (by kernel_rfl)
                clear hf hold
                go_simp
                exact hK _ _ hG (Below.refl _ _) rfl
              refine AllDue.cons (due_met (.inl rfl) fun fr0 w1 hG hold hf K hK => ?_) ?_
              · have f112 : fr0.tmps.getD 112 undef = .pointer (some ⟨w.heap.size + 1, 1, none⟩) := hf 5 112 (by kernel_rfl) rfl
                have q112 := f112
                rw [Array.getD_eq_getD_getElem?] at q112
                obtain ⟨p0, p1, p2, p3, p4⟩ := vbox_cells hG.y
                clear hf hold
                go_simp
                exact hK _ _ hG (Below.refl _ _) rfl
              refine AllDue.cons (due_met (.inl rfl) fun fr0 w1 hG hold hf K hK => ?_) ?_
              · have f5 : fr0.tmps.getD 5 undef = .pointer (some ⟨w.heap.size + 1 + 1, 0, none⟩) := hold 5 (by kernel_rfl)
                clear hf hold
                go_simp
                exact hK _ _ hG (Below.refl _ _) rfl
              refine AllDue.cons (due_met (.inl rfl) fun fr0 w1 hG hold hf K hK => ?_) ?_
              · have f114 : fr0.tmps.getD 114 undef = .pointer (some ⟨w.heap.size + 1 + 1, 0, none⟩) := hf 7 114 (by kernel_rfl) rfl
                have q114 := f114
                rw [Array.getD_eq_getD_getElem?] at q114
                obtain ⟨c1, c2⟩ := box_cells hG.i
                clear hf hold
                go_simp
                exact hK _ _ hG (Below.refl _ _) rfl
              refine AllDue.cons (due_met (.inl rfl) fun fr0 w1 hG hold hf K hK => ?_) ?_
              · have f113 : fr0.tmps.getD 113 undef = .slice b'.1 b'.2.1 b'.2.2 := hf 6 113 (by kernel_rfl) rfl
                have q113 := f113
                rw [Array.getD_eq_getD_getElem?] at q113
                have f115 : fr0.tmps.getD 115 undef = .int .i64 p := hf 8 115 (by kernel_rfl) rfl
                have q115 := f115
                rw [Array.getD_eq_getD_getElem?] at q115
                clear hf hold
                go_simp
                go_at_call 30
                (with_reducible refine (C6.out LU.out _ _ hG.t.f).mono ?_)
                rintro e0 w' ⟨rfl, h2⟩
                exact hK _ _ (hG.step h2) h2 rfl
              refine AllDue.cons (due_met (.inl rfl) fun fr0 w1 hG hold hf K hK => ?_) ?_
              · have f111 : fr0.tmps.getD 111 undef = .int .i64 fA := hf 4 111 (by kernel_rfl) rfl
                have q111 := f111
                rw [Array.getD_eq_getD_getElem?] at q111
                have f116 : fr0.tmps.getD 116 undef = .int .i64 fB := hf 9 116 (by kernel_rfl) rfl
                have q116 := f116
                rw [Array.getD_eq_getD_getElem?] at q116
                have hd0 := HD1.out
                clear hf hold
                go_simp
                exact hK _ _ hG (Below.refl _ _) rfl
              refine AllDue.cons (due_met (.inl rfl) fun fr0 w1 hG hold hf K hK => ?_) ?_
              · have f117 : fr0.tmps.getD 117 undef = .bool true := hf 10 117 (by kernel_rfl) rfl
                have q117 := f117
                rw [Array.getD_eq_getD_getElem?] at q117
                clear hf hold
                go_simp
                exact hK _ _ hG (Below.refl _ _) rfl
              refine AllDue.cons (due_met (.inr ⟨11, true, 118, rfl, rfl, by kernel_rfl, fun _ _ h => h⟩) fun fr0 w1 hG hold hf K hK => ?_) ?_
              · have f3 : fr0.tmps.getD 3 undef = .pointer (some ⟨w.heap.size, 0, none⟩) := hold 3 (by kernel_rfl)
                clear hf hold
                go_simp
                exact hK _ _ hG (Below.refl _ _) rfl
              refine AllDue.cons (due_met (.inr ⟨11, true, 118, rfl, rfl, by kernel_rfl, fun _ _ h => h⟩) fun fr0 w1 hG hold hf K hK => ?_) ?_
              · have f119 : fr0.tmps.getD 119 undef = .pointer (some ⟨w.heap.size, 3, none⟩) := hf 12 119 (by kernel_rfl) rfl
                have q119 := f119
                rw [Array.getD_eq_getD_getElem?] at q119
                obtain ⟨p0, p1, p2, p3, p4⟩ := vbox_cells hG.x
                clear hf hold
                go_simp
                exact hK _ _ hG (Below.refl _ _) rfl
              refine AllDue.cons (due_met (.inr ⟨11, true, 118, rfl, rfl, by kernel_rfl, fun _ _ h => h⟩) fun fr0 w1 hG hold hf K hK => ?_) ?_
              · have f5 : fr0.tmps.getD 5 undef = .pointer (some ⟨w.heap.size + 1 + 1, 0, none⟩) := hold 5 (by kernel_rfl)
                obtain ⟨c1, c2⟩ := box_cells hG.i
                clear hf hold
                go_simp
                exact hK _ _ hG (Below.refl _ _) rfl
              refine AllDue.cons (due_met (.inr ⟨11, true, 118, rfl, rfl, by kernel_rfl, fun _ _ h => h⟩) fun fr0 w1 hG hold hf K hK => ?_) ?_
              · have f120 : fr0.tmps.getD 120 undef = .slice d.1 d.2.1 d.2.2 := hf 13 120 (by kernel_rfl) rfl
                have q120 := f120
                rw [Array.getD_eq_getD_getElem?] at q120
                have f121 : fr0.tmps.getD 121 undef = .agg #[.int .i64 p, .int .i64 q] := hf 14 121 (by kernel_rfl) rfl
                have q121 := f121
                rw [Array.getD_eq_getD_getElem?] at q121
                clear hf hold
                go_simp
                go_at_call 31
                (with_reducible refine (C7.out LV.out _ _ hG.r.c).mono ?_)
                rintro e0 w' ⟨rfl, h2⟩
                exact hK _ _ (hG.step h2) h2 rfl
              refine AllDue.cons (due_met (.inr ⟨11, true, 118, rfl, rfl, by kernel_rfl, fun _ _ h => h⟩) fun fr0 w1 hG hold hf K hK => ?_) ?_
              · have f4 : fr0.tmps.getD 4 undef = .pointer (some ⟨w.heap.size + 1, 0, none⟩) := hold 4 (by kernel_rfl)
                clear hf hold
                go_simp
                exact hK _ _ hG (Below.refl _ _) rfl
              refine AllDue.cons (due_met (.inr ⟨11, true, 118, rfl, rfl, by kernel_rfl, fun _ _ h => h⟩) fun fr0 w1 hG hold hf K hK => ?_) ?_
              · have f123 : fr0.tmps.getD 123 undef = .pointer (some ⟨w.heap.size + 1, 3, none⟩) := hf 16 123 (by kernel_rfl) rfl
                have q123 := f123
                rw [Array.getD_eq_getD_getElem?] at q123
                obtain ⟨p0, p1, p2, p3, p4⟩ := vbox_cells hG.y
                clear hf hold
                go_simp
                exact hK _ _ hG (Below.refl _ _) rfl
              refine AllDue.cons (due_met (.inr ⟨11, true, 118, rfl, rfl, by kernel_rfl, fun _ _ h => h⟩) fun fr0 w1 hG hold hf K hK => ?_) ?_
              · have f5 : fr0.tmps.getD 5 undef = .pointer (some ⟨w.heap.size + 1 + 1, 0, none⟩) := hold 5 (by kernel_rfl)
                obtain ⟨c1, c2⟩ := box_cells hG.i
                clear hf hold
                go_simp
                exact hK _ _ hG (Below.refl _ _) rfl
              refine AllDue.cons (due_met (.inr ⟨11, true, 118, rfl, rfl, by kernel_rfl, fun _ _ h => h⟩) fun fr0 w1 hG hold hf K hK => ?_) ?_
              · have f124 : fr0.tmps.getD 124 undef = .slice d'.1 d'.2.1 d'.2.2 := hf 17 124 (by kernel_rfl) rfl
                have q124 := f124
                rw [Array.getD_eq_getD_getElem?] at q124
                have f125 : fr0.tmps.getD 125 undef = .agg #[.int .i64 p, .int .i64 q] := hf 18 125 (by kernel_rfl) rfl
                have q125 := f125
                rw [Array.getD_eq_getD_getElem?] at q125
                clear hf hold
                go_simp
                go_at_call 31
                (with_reducible refine (C8.out LU.out _ _ hG.t.c).mono ?_)
                rintro e0 w' ⟨rfl, h2⟩
                exact hK _ _ (hG.step h2) h2 rfl
              refine AllDue.cons (due_met (.inr ⟨11, true, 118, rfl, rfl, by kernel_rfl, fun _ _ h => h⟩) fun fr0 w1 hG hold hf K hK => ?_) ?_
              · have f122 : fr0.tmps.getD 122 undef = .int .i64 sA := hf 15 122 (by kernel_rfl) rfl
                have q122 := f122
                rw [Array.getD_eq_getD_getElem?] at q122
                have f126 : fr0.tmps.getD 126 undef = .int .i64 sB := hf 19 126 (by kernel_rfl) rfl
                have q126 := f126
                rw [Array.getD_eq_getD_getElem?] at q126
                have hd0 := HD2.out
                clear hf hold
                go_simp
                exact hK _ _ hG (Below.refl _ _) rfl
              refine AllDue.cons (due_met (.inl rfl) fun fr0 w1 hG hold hf K hK => ?_) ?_
              · have f118 : fr0.tmps.getD 118 undef = .bool true := hf 11 118 (by kernel_rfl) rfl
                have q118 := f118
                rw [Array.getD_eq_getD_getElem?] at q118
                have f127 : fr0.tmps.getD 127 undef = .bool true := hf 20 127 (by kernel_rfl) rfl
                have q127 := f127
                rw [Array.getD_eq_getD_getElem?] at q127
                clear hf hold
                go_simp
                exact hK _ _ hG (Below.refl _ _) rfl
              refine AllDue.cons (due_met (.inl rfl) fun fr0 w1 hG hold hf K hK => ?_) ?_
              · have f128 : fr0.tmps.getD 128 undef = .bool true := hf 21 128 (by kernel_rfl) rfl
                have q128 := f128
                rw [Array.getD_eq_getD_getElem?] at q128
                clear hf hold
                go_simp
                exact hK _ _ hG (Below.refl _ _) rfl
              exact AllDue.nil
            · intro ac w11 hG hd hs hold hf
              have f6 : ac.tmps.getD 6 undef = .bool true := hf 22 6 rfl
              clear hf hold
              go_wp2_with fail
              refine bodyPost_ret (results_tmp rfl _ _ _) hd ?_
              exact ⟨by rw [f6], hG.below⟩
          · exact absurd (BF.out.f3 rfl) (by decide)
end Go.Proofs.YtjlnnmjhbccdoaaGreat
