/-
  Carried over and put together: contracts of this program's functions, and plain facts. No statement is proved in this text.
-/
import Derived.Test.YtjlnnmjhbccdoaaGreatO14
import Derived.Test.YtjlnnmjhbccdoaaGreatO29
set_option maxRecDepth 20000
namespace Go.Proofs.YtjlnnmjhbccdoaaGreat
open Go Go.RowKit
theorem add_nil4 (a : Addr) : a.add (0 * 4) = a := by rw [Nat.zero_mul, add_zero']
def IsV (W : World) (X : Nat) : Prop := ∃ a b c d e : SL, VBox W X a b c d e
def Vk (p : Value) (W W' : World) : Prop := Kp W W' ∧ (∀ X, IsV W X → IsV W' X) ∧ ∀ X V, Value.pointer (some ⟨X, 0, none⟩) ≠ p → HoldsV W X V → HoldsV W' X V
theorem vk_refl (p : Value) (W : World) : Vk p W W := ⟨kp_refl _, fun _ h => h, fun _ _ _ h => h⟩
theorem vk_of {p : Value} {W W' : World} (hb : Below W.heap.size W W') : Vk p W W' := ⟨kp_below hb, fun _ ⟨a, b, c, d, e, h⟩ => ⟨a, b, c, d, e, vbox_below h hb⟩, fun _ _ _ h => h.below hb⟩
theorem vk_put {W : World} {X : Nat} {z0 z1 z2 z3 z4 : SL} (hz : VBox W X z0 z1 z2 z3 z4) (s0 s1 s2 s3 s4 : SL) : Vk (.pointer (some ⟨X, 0, none⟩)) W (W.setCells X 0 [.slice s0.1 s0.2.1 s0.2.2, .slice s1.1 s1.2.1 s1.2.2, .slice s2.1 s2.2.1 s2.2.2, .slice s3.1 s3.2.1 s3.2.2, .slice s4.1 s4.2.1 s4.2.2]) := by
 have hk := kp_set hz [.slice s0.1 s0.2.1 s0.2.2, .slice s1.1 s1.2.1 s1.2.2, .slice s2.1 s2.2.1 s2.2.2, .slice s3.1 s3.2.1 s3.2.2, .slice s4.1 s4.2.1 s4.2.2]
 refine ⟨hk, fun Y ⟨a, b, c, d, e, h⟩ => ?_, fun Y V hne ⟨a, b, c, d, e, h, hr⟩ => ?_⟩
 ·by_cases e2 : Y = X
  ·subst e2
   exact ⟨s0, s1, s2, s3, s4, vbox_set hz s0 s1 s2 s3 s4⟩
  ·exact ⟨a, b, c, d, e, vbox_other h e2 _⟩
 ·exact ⟨a, b, c, d, e, vbox_other h (fun e2 => hne (by rw [e2])) _, hr.kp hk⟩
def PV (w : World) (v : Value) (b0 : Nat) : Prop := ∃ X, v = .pointer (some ⟨X, 0, none⟩) ∧ b0 ≤ X ∧ X < w.heap.size ∧ IsV w X
theorem PV.keep {b0 : Nat} {w w' : World} {v p : Value} (h : PV w v b0) (hb : Vk p w w') : PV w' v b0 := by
 obtain ⟨X, h1, h2, h3, h4⟩ := h
 exact ⟨X, h1, h2, Nat.lt_of_lt_of_le h3 hb.1.1, hb.2.1 X h4⟩
def HV (w : World) (v : Value) (V : Vw) : Prop := ∃ X, v = .pointer (some ⟨X, 0, none⟩) ∧ HoldsV w X V
theorem HV.keep {w w' : World} {v p : Value} {V : Vw} (h : HV w v V) (hb : Vk p w w') (hp : v ≠ p) : HV w' v V := by
 obtain ⟨X, rfl, h2⟩ := h
 exact ⟨X, rfl, hb.2.2 X V hp h2⟩
abbrev upV : Vw := ⟨[((1, 1), 3, 1)], [], [((1, 1), 1, [])], [((1, 1), 2)], [(1, 1)]⟩
abbrev downV : Vw := ⟨[((1, 1), 6, 1)], [], [], [((1, 1), 2), ((2, 1), 1)], [(2, 1)]⟩
abbrev goneV : Vw := ⟨[], [(1, 2)], [], [((2, 1), 1)], []⟩
abbrev jonV : Vw := ⟨[((1, 1), 6, 1)], [], [((1, 1), 1, [])], [((1, 1), 2), ((2, 1), 1)], [(2, 1)]⟩
abbrev nonV : Vw := ⟨[], [(1, 2)], [], [((1, 1), 2), ((2, 1), 1)], []⟩
theorem join_up : joinV upV downV = jonV := by kernel_rfl
theorem join_gone : joinV upV goneV = nonV := by kernel_rfl
theorem up_fit : Fit 400 upV := ⟨by decide, by decide, by decide, by decide, by decide, by decide⟩
theorem down_fit : Fit 400 downV := ⟨by decide, by decide, by decide, by decide, by decide, by decide⟩
theorem gone_fit : Fit 400 goneV := ⟨by decide, by decide, by decide, by decide, by decide, by decide⟩
theorem up_up : RowSets.Up upV.r := List.Pairwise.cons (by simp) List.Pairwise.nil
theorem row_lit (W : World) (a i n : Int) : RowsAt (W.alloc (.cells #[.int .i64 a, .int .i64 i, .int .i64 n, .slice none 0 0] 46)) (.slice (some ⟨W.heap.size, 0, none⟩) 1 1) [((a, i), n, [])] :=
 ⟨[((a, i), n, none, 0, 0)], rcs_lit encW_len W [((a, i), n, none, 0, 0)] _ 46 rfl, ⟨rfl, rfl, Ids.nil _⟩, trivial⟩
theorem ticks_lit (W : World) (l : List Clocks.Tick) : Rcs encT 3 (W.alloc (.cells (flatR encT l).toArray 48)) (.slice (some ⟨W.heap.size, 0, none⟩) l.length l.length) l := rcs_lit encT_len W l _ 48 (by simp)
theorem ids_lit (W : World) (l : List Sets.Id2) : Ids (W.alloc (.cells (flatR encI l).toArray 29)) (.slice (some ⟨W.heap.size, 0, none⟩) l.length l.length) l := ids_rcs (rcs_lit encI_len W l _ 29 (by simp))
structure AkG (w : World) (b0 X1 X2 X3 : Nat) (W : World) : Prop where
 h1 : HoldsV W X1 upV
 h2 : HoldsV W X2 downV
 h3 : HoldsV W X3 goneV
 l1 : X1 < b0
 l2 : X2 < b0
 l3 : X3 < b0
 l0 : w.heap.size ≤ b0
 size : b0 ≤ W.heap.size
 below : Below w.heap.size w W
theorem AkG.step {w : World} {b0 X1 X2 X3 : Nat} {W W' : World} (h : AkG w b0 X1 X2 X3 W) (hb : Below W.heap.size W W') : AkG w b0 X1 X2 X3 W' := ⟨h.h1.below hb, h.h2.below hb, h.h3.below hb, h.l1, h.l2, h.l3, h.l0, Nat.le_trans h.size hb.size, below_after h.below hb (Nat.le_refl _)⟩
theorem ptr_ne {X Y : Nat} (h : X ≠ Y) : Value.pointer (some ⟨X, 0, none⟩) ≠ .pointer (some ⟨Y, 0, none⟩) := fun e => by
 injection e with e
 injection e with e
 injection e with e
 exact h e
theorem AkG.put {w : World} {b0 X1 X2 X3 X : Nat} {W : World} (h : AkG w b0 X1 X2 X3 W) (hX : b0 ≤ X) {z0 z1 z2 z3 z4 : SL} (hz : VBox W X z0 z1 z2 z3 z4) (s0 s1 s2 s3 s4 : SL) : AkG w b0 X1 X2 X3 (W.setCells X 0 [.slice s0.1 s0.2.1 s0.2.2, .slice s1.1 s1.2.1 s1.2.2, .slice s2.1 s2.2.1 s2.2.2, .slice s3.1 s3.2.1 s3.2.2, .slice s4.1 s4.2.1 s4.2.2]) :=
 have hk := vk_put hz s0 s1 s2 s3 s4
 ⟨hk.2.2 _ _ (ptr_ne (by have := h.l1; omega)) h.h1, hk.2.2 _ _ (ptr_ne (by have := h.l2; omega)) h.h2, hk.2.2 _ _ (ptr_ne (by have := h.l3; omega)) h.h3, h.l1, h.l2, h.l3, h.l0, by rw [size_setCells]; exact h.size, below_setCells h.below (by have := h.l0; omega) 0 _⟩
theorem holds_lt {w : World} {g : Nat} {V : Vw} (h : HoldsV w g V) : g < w.heap.size := by
 obtain ⟨a, b, c, d, e, h1, _⟩ := h
 exact vbox_lt h1
def akDs : List (Option Tmp) := [some 35, some 36, some 37, some 38, some 39, some 40, some 4, some 5, none, none]
def akF (b0 : Nat) : Nat → Value → World → Prop := fun i v w => match i with
 | 0 => VAt w v upV
 | 1 => VAt w v downV
 | 2 => VAt w v jonV
 | 3 => VAt w v upV
 | 4 => VAt w v goneV
 | 5 => VAt w v nonV
 | 6 => PV w v b0
 | 7 => PV w v b0
 | 8 => HV w v jonV
 | 9 => HV w v nonV
 | _ => True
theorem akF_mono (b0 : Nat) : ∀ i p v w w', akF b0 i v w → Vk p w w' → (i < akDs.length → akDs.getD i none = none → v ≠ p) → akF b0 i v w' := by
 intro i p v w w' h hb hp
 unfold akF at h ⊢
 split at h
 all_goals first | exact VAt.kp h hb.1 | exact PV.keep h hb | exact HV.keep h hb (hp (by decide) rfl) | exact trivial
theorem akF_nu (b0 : Nat) : ∀ i v w, akF b0 i v w → i < akDs.length → akDs.getD i none = none → v ≠ undef := fun i v w h hi hn => by
 match i, (show i < 10 from hi), h, hn with
 | 8, _, h, _ =>
  obtain ⟨X, rfl, _⟩ := (show HV w v jonV from h)
  intro e
  cases e
 | 9, _, h, _ =>
  obtain ⟨X, rfl, _⟩ := (show HV w v nonV from h)
  intro e
  cases e
 | 0, _, _, hn => exact absurd hn (by decide)
 | 1, _, _, hn => exact absurd hn (by decide)
 | 2, _, _, hn => exact absurd hn (by decide)
 | 3, _, _, hn => exact absurd hn (by decide)
 | 4, _, _, hn => exact absurd hn (by decide)
 | 5, _, _, hn => exact absurd hn (by decide)
 | 6, _, _, hn => exact absurd hn (by decide)
 | 7, _, _, hn => exact absurd hn (by decide)
def akFr (i : Nat) : Bool := i == 6 || i == 7
theorem akF_fr (b0 : Nat) : ∀ i v w, akFr i = true → akF b0 i v w → OldP v w := by
 intro i v w h k
 unfold akFr at h
 rw [Bool.or_eq_true, beq_iff_eq, beq_iff_eq] at h
 rcases h with rfl | rfl
 ·obtain ⟨X, h1, _, h3, _⟩ := (show PV w v b0 from k)
  exact ⟨X, h1, h3⟩
 ·obtain ⟨X, h1, _, h3, _⟩ := (show PV w v b0 from k)
  exact ⟨X, h1, h3⟩
structure AlG (w : World) (X4 X5 : Nat) (ad : Addr) (z1 : Nat) (si : SL) (A3 : Option Addr) (z3 : Nat) (A4 : Option Addr) (z4 : Nat) (A5 : Option Addr) (z5 : Nat) (A6 : Option Addr) (z6 : Nat) (W : World) : Prop where
 c0 : W.cell? ⟨X4, 0, none⟩ = some (.slice (some ad) 1 z1)
 s : W.cell? ⟨ad.block, ad.off + 2, none⟩ = some (.int .u8 6)
 c4 : W.cell? ⟨X4, 4, none⟩ = some (.slice si.1 si.2.1 si.2.2)
 hi : Ids W (.slice si.1 si.2.1 si.2.2) [(2, 1)]
 d0 : W.cell? ⟨X5, 0, none⟩ = some (.slice A3 0 z3)
 d2 : W.cell? ⟨X5, 2, none⟩ = some (.slice A4 0 z4)
 d4 : W.cell? ⟨X5, 4, none⟩ = some (.slice A5 0 z5)
 d3 : W.cell? ⟨X5, 3, none⟩ = some (.slice A6 2 z6)
 below : Below w.heap.size w W
theorem cell_below {w w' : World} {a : Addr} {v : Value} (h : w.cell? a = some v) (hb : Below w.heap.size w w') : w'.cell? a = some v := (hb.cell (World.block_lt_of_cell? w _ h)).trans h
theorem AlG.step {w : World} {X4 X5 : Nat} {ad : Addr} {z1 : Nat} {si : SL} {A3 : Option Addr} {z3 : Nat} {A4 : Option Addr} {z4 : Nat} {A5 : Option Addr} {z5 : Nat} {A6 : Option Addr} {z6 : Nat} {W W' : World} (h : AlG w X4 X5 ad z1 si A3 z3 A4 z4 A5 z5 A6 z6 W) (hb : Below W.heap.size W W') : AlG w X4 X5 ad z1 si A3 z3 A4 z4 A5 z5 A6 z6 W' := ⟨cell_below h.c0 hb, cell_below h.s hb, cell_below h.c4 hb, h.hi.below hb, cell_below h.d0 hb, cell_below h.d2 hb, cell_below h.d4 hb, cell_below h.d3 hb, below_after h.below hb (Nat.le_refl _)⟩
def alDs : List (Option Tmp) := [some 41, some 42, some 43, some 44, some 45, some 46, some 47, some 48, some 49, some 50, some 51, some 52, some 53, some 54, some 55, some 56, some 57, some 58, some 59, some 60, some 61, some 62, some 63, some 64, some 65, some 66, some 67, some 68, some 69, some 70, some 71, some 72, some 73, some 74, some 75, some 76, some 77, some 78, some 79, some 80, some 81, some 82, some 83, some 0]
def alF (X4 X5 : Nat) (ad : Addr) (z1 : Nat) (si : SL) (A3 : Option Addr) (z3 : Nat) (A4 : Option Addr) (z4 : Nat) (A5 : Option Addr) (z5 : Nat) (A6 : Option Addr) (z6 : Nat) : Nat → Value → World → Prop := fun i v w => match i with
 | 0 => v = .pointer (some ⟨X4, 0, none⟩)
 | 1 => v = .slice (some ad) 1 z1
 | 2 => v = .int .i64 1
 | 3 => v = .bool true
 | 4 => v = .bool true
 | 5 => v = .pointer (some ⟨X4, 0, none⟩)
 | 6 => v = .slice (some ad) 1 z1
 | 7 => v = .pointer (some ad)
 | 8 => v = .pointer (some ⟨ad.block, ad.off + 2, none⟩)
 | 9 => v = .int .u8 6
 | 10 => v = .bool true
 | 11 => v = .bool true
 | 12 => v = .bool true
 | 13 => v = .pointer (some ⟨X4, 4, none⟩)
 | 14 => v = .slice si.1 si.2.1 si.2.2
 | 15 => v = .agg #[.int .i64 2, .int .i64 1]
 | 16 => Ids w v [(2, 1)]
 | 17 => v = .bool true
 | 18 => v = .bool true
 | 19 => v = .bool true
 | 20 => v = .pointer (some ⟨X5, 0, none⟩)
 | 21 => v = .slice A3 0 z3
 | 22 => v = .int .i64 0
 | 23 => v = .bool true
 | 24 => v = .bool true
 | 25 => v = .bool true
 | 26 => v = .pointer (some ⟨X5, 2, none⟩)
 | 27 => v = .slice A4 0 z4
 | 28 => v = .int .i64 0
 | 29 => v = .bool true
 | 30 => v = .bool true
 | 31 => v = .bool true
 | 32 => v = .pointer (some ⟨X5, 4, none⟩)
 | 33 => v = .slice A5 0 z5
 | 34 => v = .int .i64 0
 | 35 => v = .bool true
 | 36 => v = .bool true
 | 37 => v = .bool true
 | 38 => v = .pointer (some ⟨X5, 3, none⟩)
 | 39 => v = .slice A6 2 z6
 | 40 => v = .int .i64 2
 | 41 => v = .bool true
 | 42 => v = .bool true
 | 43 => v = .bool true
 | _ => True
theorem alF_mono (X4 X5 : Nat) (ad : Addr) (z1 : Nat) (si : SL) (A3 : Option Addr) (z3 : Nat) (A4 : Option Addr) (z4 : Nat) (A5 : Option Addr) (z5 : Nat) (A6 : Option Addr) (z6 : Nat) : ∀ i v w w', alF X4 X5 ad z1 si A3 z3 A4 z4 A5 z5 A6 z6 i v w → Below w.heap.size w w' → alF X4 X5 ad z1 si A3 z3 A4 z4 A5 z5 A6 z6 i v w' := by
 intro j v w w' h hb
 unfold alF at h ⊢
 split at h
 all_goals first | exact h | exact h.below hb
set_option maxHeartbeats 16000000 in
set_option maxRecDepth 100000 in
theorem awakeV_any (w : World) : Calls Tryz.prog 8 #[] w fun e w' => e = .returned (.bool true) ∧ Below w.heap.size w w' := by
 go_enter Tryz.func8, Tryz.ntmps8
 have B0 := Lib.hid (Below.refl w.heap.size w)
 go_wp2_with fail
 (with_reducible refine (at_any 1 _).mono ?_)
 rintro e w1 ⟨rfl, hb⟩
 have B2 := Lib.hid (below_after B0.out hb (Nat.le_refl _))
 clear B0 hb
 have hq := below_one w1 (.cells #[.int .i64 1, .int .i64 1, .int .u8 3, .int .i64 1] 31)
 have B3 := Lib.hid (below_after B2.out hq (Nat.le_refl _))
 clear B2
 clear hq
 have F4 : Hid (Ms (w1.alloc (.cells #[.int .i64 1, .int .i64 1, .int .u8 3, .int .i64 1] 31)) (.slice (some ⟨w1.heap.size, 0, none⟩) 1 1) [((1, 1), 3, 1)]) := Lib.hid (ms_lit _ [((1, 1), 3, 1)])
 go_wp2_with fail
 (with_reducible refine (at_any 1 _).mono ?_)
 rintro e w5 ⟨rfl, hb⟩
 have F6 := Lib.hid (F4.out.below hb)
 clear F4
 have B7 := Lib.hid (below_after B3.out hb (Nat.le_refl _))
 clear B3 hb
 have hq := below_one w5 (.cells #[.int .i64 1, .int .i64 1, .int .i64 1, .slice none 0 0] 46)
 have F8 := Lib.hid (F6.out.below hq)
 clear F6
 have B9 := Lib.hid (below_after B7.out hq (Nat.le_refl _))
 clear B7
 clear hq
 have F10 : Hid (RowsAt (w5.alloc (.cells #[.int .i64 1, .int .i64 1, .int .i64 1, .slice none 0 0] 46)) (.slice (some ⟨w5.heap.size, 0, none⟩) 1 1) [((1, 1), 1, [])]) := Lib.hid (row_lit _ 1 1 1)
 go_wp2_with fail
 (with_reducible refine (at_any 1 _).mono ?_)
 rintro e w11 ⟨rfl, hb⟩
 have F12 := Lib.hid (F8.out.below hb)
 clear F8
 have F13 := Lib.hid (F10.out.below hb)
 clear F10
 have B14 := Lib.hid (below_after B9.out hb (Nat.le_refl _))
 clear B9 hb
 have hq := below_one w11 (.cells #[.int .i64 1, .int .i64 1, .int .i64 2] 48)
 have F15 := Lib.hid (F12.out.below hq)
 clear F12
 have F16 := Lib.hid (F13.out.below hq)
 clear F13
 have B17 := Lib.hid (below_after B14.out hq (Nat.le_refl _))
 clear B14
 clear hq
 have F18 : Hid (Rcs encT 3 (w11.alloc (.cells #[.int .i64 1, .int .i64 1, .int .i64 2] 48)) (.slice (some ⟨w11.heap.size, 0, none⟩) 1 1) [((1, 1), 2)]) := Lib.hid (ticks_lit _ [((1, 1), 2)])
 go_wp2_with fail
 (with_reducible refine (at_any 1 _).mono ?_)
 rintro e w19 ⟨rfl, hb⟩
 have F20 := Lib.hid (F15.out.below hb)
 clear F15
 have F21 := Lib.hid (F16.out.below hb)
 clear F16
 have F22 := Lib.hid (F18.out.below hb)
 clear F18
 have B23 := Lib.hid (below_after B17.out hb (Nat.le_refl _))
 clear B17 hb
 have hq := below_one w19 (.cells #[.int .i64 1, .int .i64 1] 29)
 have F24 := Lib.hid (F20.out.below hq)
 clear F20
 have F25 := Lib.hid (F21.out.below hq)
 clear F21
 have F26 := Lib.hid (F22.out.below hq)
 clear F22
 have B27 := Lib.hid (below_after B23.out hq (Nat.le_refl _))
 clear B23
 clear hq
 have F28 : Hid (Ids (w19.alloc (.cells #[.int .i64 1, .int .i64 1] 29)) (.slice (some ⟨w19.heap.size, 0, none⟩) 1 1) [(1, 1)]) := Lib.hid (ids_lit _ [(1, 1)])
 have z := vbox_new (w19.alloc (.cells #[.int .i64 1, .int .i64 1] 29)) (none, 0, 0) (none, 0, 0) (none, 0, 0) (none, 0, 0) (none, 0, 0)
 simp only [World.size_alloc] at z
 obtain ⟨k0, k1, k2, k3, k4⟩ := vbox_cells z
 obtain ⟨f0, f1, f2, f3, f4⟩ := vbox_free z
 clear z
 dsimp only at k0 k1 k2 k3 k4 f0 f1 f2 f3 f4
 have hq := below_one (w19.alloc (.cells #[.int .i64 1, .int .i64 1] 29)) (.cells #[.slice (some ⟨w1.heap.size, 0, none⟩) 1 1, .slice none 0 0, .slice (some ⟨w5.heap.size, 0, none⟩) 1 1, .slice (some ⟨w11.heap.size, 0, none⟩) 1 1, .slice (some ⟨w19.heap.size, 0, none⟩) 1 1] 27)
 have F29 := Lib.hid (F24.out.below hq)
 clear F24
 have F30 := Lib.hid (F25.out.below hq)
 clear F25
 have F31 := Lib.hid (F26.out.below hq)
 clear F26
 have F32 := Lib.hid (F28.out.below hq)
 clear F28
 have B33 := Lib.hid (below_after B27.out hq (Nat.le_refl _))
 clear B27
 clear hq
 have F34 : Hid (HoldsV ((w19.alloc (.cells #[.int .i64 1, .int .i64 1] 29)).alloc (.cells #[.slice (some ⟨w1.heap.size, 0, none⟩) 1 1, .slice none 0 0, .slice (some ⟨w5.heap.size, 0, none⟩) 1 1, .slice (some ⟨w11.heap.size, 0, none⟩) 1 1, .slice (some ⟨w19.heap.size, 0, none⟩) 1 1] 27)) (w19.heap.size + 1) upV) := Lib.hid ⟨((some ⟨w1.heap.size, 0, none⟩), 1, 1), (none, 0, 0), ((some ⟨w5.heap.size, 0, none⟩), 1, 1), ((some ⟨w11.heap.size, 0, none⟩), 1, 1), ((some ⟨w19.heap.size, 0, none⟩), 1, 1), by have h := heap_alloc_new (w19.alloc (.cells #[.int .i64 1, .int .i64 1] 29)) (.cells #[.slice (some ⟨w1.heap.size, 0, none⟩) 1 1, .slice none 0 0, .slice (some ⟨w5.heap.size, 0, none⟩) 1 1, .slice (some ⟨w11.heap.size, 0, none⟩) 1 1, .slice (some ⟨w19.heap.size, 0, none⟩) 1 1] 27); simp only [World.size_alloc] at h; exact h, ⟨F29.out, Ids.nil _, F30.out, F31.out, F32.out⟩⟩
 go_wp2_with fail
 (with_reducible refine (at_any 1 _).mono ?_)
 rintro e w35 ⟨rfl, hb⟩
 clear k0 k1 k2 k3 k4 f0 f1 f2 f3 f4
 clear F29
 clear F30
 clear F31
 clear F32
 have F36 := Lib.hid (F34.out.below hb)
 clear F34
 have B37 := Lib.hid (below_after B33.out hb (Nat.le_refl _))
 clear B33 hb
 have hq := below_one w35 (.cells #[.int .i64 1, .int .i64 1, .int .u8 6, .int .i64 1] 31)
 have F38 := Lib.hid (F36.out.below hq)
 clear F36
 have B39 := Lib.hid (below_after B37.out hq (Nat.le_refl _))
 clear B37
 clear hq
 have F40 : Hid (Ms (w35.alloc (.cells #[.int .i64 1, .int .i64 1, .int .u8 6, .int .i64 1] 31)) (.slice (some ⟨w35.heap.size, 0, none⟩) 1 1) [((1, 1), 6, 1)]) := Lib.hid (ms_lit _ [((1, 1), 6, 1)])
 go_wp2_with fail
 (with_reducible refine (at_any 1 _).mono ?_)
 rintro e w41 ⟨rfl, hb⟩
 have F42 := Lib.hid (F38.out.below hb)
 clear F38
 have F43 := Lib.hid (F40.out.below hb)
 clear F40
 have B44 := Lib.hid (below_after B39.out hb (Nat.le_refl _))
 clear B39 hb
 go_wp2_with fail
 (with_reducible refine (at_any 2 _).mono ?_)
 rintro e w45 ⟨rfl, hb⟩
 have F46 := Lib.hid (F42.out.below hb)
 clear F42
 have F47 := Lib.hid (F43.out.below hb)
 clear F43
 have B48 := Lib.hid (below_after B44.out hb (Nat.le_refl _))
 clear B44 hb
 have hq := below_one w45 (.cells #[.int .i64 1, .int .i64 1, .int .i64 2, .int .i64 2, .int .i64 1, .int .i64 1] 48)
 have F49 := Lib.hid (F46.out.below hq)
 clear F46
 have F50 := Lib.hid (F47.out.below hq)
 clear F47
 have B51 := Lib.hid (below_after B48.out hq (Nat.le_refl _))
 clear B48
 clear hq
 have F52 : Hid (Rcs encT 3 (w45.alloc (.cells #[.int .i64 1, .int .i64 1, .int .i64 2, .int .i64 2, .int .i64 1, .int .i64 1] 48)) (.slice (some ⟨w45.heap.size, 0, none⟩) 2 2) [((1, 1), 2), ((2, 1), 1)]) := Lib.hid (ticks_lit _ [((1, 1), 2), ((2, 1), 1)])
 go_wp2_with fail
 (with_reducible refine (at_any 2 _).mono ?_)
 rintro e w53 ⟨rfl, hb⟩
 have F54 := Lib.hid (F49.out.below hb)
 clear F49
 have F55 := Lib.hid (F50.out.below hb)
 clear F50
 have F56 := Lib.hid (F52.out.below hb)
 clear F52
 have B57 := Lib.hid (below_after B51.out hb (Nat.le_refl _))
 clear B51 hb
 have hq := below_one w53 (.cells #[.int .i64 2, .int .i64 1] 29)
 have F58 := Lib.hid (F54.out.below hq)
 clear F54
 have F59 := Lib.hid (F55.out.below hq)
 clear F55
 have F60 := Lib.hid (F56.out.below hq)
 clear F56
 have B61 := Lib.hid (below_after B57.out hq (Nat.le_refl _))
 clear B57
 clear hq
 have F62 : Hid (Ids (w53.alloc (.cells #[.int .i64 2, .int .i64 1] 29)) (.slice (some ⟨w53.heap.size, 0, none⟩) 1 1) [(2, 1)]) := Lib.hid (ids_lit _ [(2, 1)])
 have z := vbox_new (w53.alloc (.cells #[.int .i64 2, .int .i64 1] 29)) (none, 0, 0) (none, 0, 0) (none, 0, 0) (none, 0, 0) (none, 0, 0)
 simp only [World.size_alloc] at z
 obtain ⟨k0, k1, k2, k3, k4⟩ := vbox_cells z
 obtain ⟨f0, f1, f2, f3, f4⟩ := vbox_free z
 clear z
 dsimp only at k0 k1 k2 k3 k4 f0 f1 f2 f3 f4
 have hq := below_one (w53.alloc (.cells #[.int .i64 2, .int .i64 1] 29)) (.cells #[.slice (some ⟨w35.heap.size, 0, none⟩) 1 1, .slice none 0 0, .slice none 0 0, .slice (some ⟨w45.heap.size, 0, none⟩) 2 2, .slice (some ⟨w53.heap.size, 0, none⟩) 1 1] 27)
 have F63 := Lib.hid (F58.out.below hq)
 clear F58
 have F64 := Lib.hid (F59.out.below hq)
 clear F59
 have F65 := Lib.hid (F60.out.below hq)
 clear F60
 have F66 := Lib.hid (F62.out.below hq)
 clear F62
 have B67 := Lib.hid (below_after B61.out hq (Nat.le_refl _))
 clear B61
 clear hq
 have F68 : Hid (HoldsV ((w53.alloc (.cells #[.int .i64 2, .int .i64 1] 29)).alloc (.cells #[.slice (some ⟨w35.heap.size, 0, none⟩) 1 1, .slice none 0 0, .slice none 0 0, .slice (some ⟨w45.heap.size, 0, none⟩) 2 2, .slice (some ⟨w53.heap.size, 0, none⟩) 1 1] 27)) (w53.heap.size + 1) downV) := Lib.hid ⟨((some ⟨w35.heap.size, 0, none⟩), 1, 1), (none, 0, 0), (none, 0, 0), ((some ⟨w45.heap.size, 0, none⟩), 2, 2), ((some ⟨w53.heap.size, 0, none⟩), 1, 1), by have h := heap_alloc_new (w53.alloc (.cells #[.int .i64 2, .int .i64 1] 29)) (.cells #[.slice (some ⟨w35.heap.size, 0, none⟩) 1 1, .slice none 0 0, .slice none 0 0, .slice (some ⟨w45.heap.size, 0, none⟩) 2 2, .slice (some ⟨w53.heap.size, 0, none⟩) 1 1] 27); simp only [World.size_alloc] at h; exact h, ⟨F64.out, Ids.nil _, RowsAt.nil _, F65.out, F66.out⟩⟩
 have hq := below_one ((w53.alloc (.cells #[.int .i64 2, .int .i64 1] 29)).alloc (.cells #[.slice (some ⟨w35.heap.size, 0, none⟩) 1 1, .slice none 0 0, .slice none 0 0, .slice (some ⟨w45.heap.size, 0, none⟩) 2 2, .slice (some ⟨w53.heap.size, 0, none⟩) 1 1] 27)) (.cells #[.int .i64 1, .int .i64 2] 29)
 have F69 := Lib.hid (F63.out.below hq)
 clear F63
 clear F64
 clear F65
 clear F66
 have F70 := Lib.hid (F68.out.below hq)
 clear F68
 have B71 := Lib.hid (below_after B67.out hq (Nat.le_refl _))
 clear B67
 clear hq
 have F72 : Hid (Ids (((w53.alloc (.cells #[.int .i64 2, .int .i64 1] 29)).alloc (.cells #[.slice (some ⟨w35.heap.size, 0, none⟩) 1 1, .slice none 0 0, .slice none 0 0, .slice (some ⟨w45.heap.size, 0, none⟩) 2 2, .slice (some ⟨w53.heap.size, 0, none⟩) 1 1] 27)).alloc (.cells #[.int .i64 1, .int .i64 2] 29)) (.slice (some ⟨w53.heap.size + 1 + 1, 0, none⟩) 1 1) [(1, 2)]) := Lib.hid (by have h := ids_lit ((w53.alloc (.cells #[.int .i64 2, .int .i64 1] 29)).alloc (.cells #[.slice (some ⟨w35.heap.size, 0, none⟩) 1 1, .slice none 0 0, .slice none 0 0, .slice (some ⟨w45.heap.size, 0, none⟩) 2 2, .slice (some ⟨w53.heap.size, 0, none⟩) 1 1] 27)) [(1, 2)]; simp only [World.size_alloc] at h; exact h)
 go_wp2_with fail
 (with_reducible refine (at_any 2 _).mono ?_)
 rintro e w73 ⟨rfl, hb⟩
 clear k0 k1 k2 k3 k4 f0 f1 f2 f3 f4
 have F74 := Lib.hid (F69.out.below hb)
 clear F69
 have F75 := Lib.hid (F70.out.below hb)
 clear F70
 have F76 := Lib.hid (F72.out.below hb)
 clear F72
 have B77 := Lib.hid (below_after B71.out hb (Nat.le_refl _))
 clear B71 hb
 have hq := below_one w73 (.cells #[.int .i64 2, .int .i64 1, .int .i64 1] 48)
 have F78 := Lib.hid (F74.out.below hq)
 clear F74
 have F79 := Lib.hid (F75.out.below hq)
 clear F75
 have F80 := Lib.hid (F76.out.below hq)
 clear F76
 have B81 := Lib.hid (below_after B77.out hq (Nat.le_refl _))
 clear B77
 clear hq
 have F82 : Hid (Rcs encT 3 (w73.alloc (.cells #[.int .i64 2, .int .i64 1, .int .i64 1] 48)) (.slice (some ⟨w73.heap.size, 0, none⟩) 1 1) [((2, 1), 1)]) := Lib.hid (ticks_lit _ [((2, 1), 1)])
 have z := vbox_new (w73.alloc (.cells #[.int .i64 2, .int .i64 1, .int .i64 1] 48)) (none, 0, 0) (none, 0, 0) (none, 0, 0) (none, 0, 0) (none, 0, 0)
 simp only [World.size_alloc] at z
 obtain ⟨k0, k1, k2, k3, k4⟩ := vbox_cells z
 obtain ⟨f0, f1, f2, f3, f4⟩ := vbox_free z
 clear z
 dsimp only at k0 k1 k2 k3 k4 f0 f1 f2 f3 f4
 have hq := below_one (w73.alloc (.cells #[.int .i64 2, .int .i64 1, .int .i64 1] 48)) (.cells #[.slice none 0 0, .slice (some ⟨w53.heap.size + 1 + 1, 0, none⟩) 1 1, .slice none 0 0, .slice (some ⟨w73.heap.size, 0, none⟩) 1 1, .slice none 0 0] 27)
 have F83 := Lib.hid (F78.out.below hq)
 clear F78
 have F84 := Lib.hid (F79.out.below hq)
 clear F79
 have F85 := Lib.hid (F80.out.below hq)
 clear F80
 have F86 := Lib.hid (F82.out.below hq)
 clear F82
 have B87 := Lib.hid (below_after B81.out hq (Nat.le_refl _))
 clear B81
 clear hq
 have F88 : Hid (HoldsV ((w73.alloc (.cells #[.int .i64 2, .int .i64 1, .int .i64 1] 48)).alloc (.cells #[.slice none 0 0, .slice (some ⟨w53.heap.size + 1 + 1, 0, none⟩) 1 1, .slice none 0 0, .slice (some ⟨w73.heap.size, 0, none⟩) 1 1, .slice none 0 0] 27)) (w73.heap.size + 1) goneV) := Lib.hid ⟨(none, 0, 0), ((some ⟨w53.heap.size + 1 + 1, 0, none⟩), 1, 1), (none, 0, 0), ((some ⟨w73.heap.size, 0, none⟩), 1, 1), (none, 0, 0), by have h := heap_alloc_new (w73.alloc (.cells #[.int .i64 2, .int .i64 1, .int .i64 1] 48)) (.cells #[.slice none 0 0, .slice (some ⟨w53.heap.size + 1 + 1, 0, none⟩) 1 1, .slice none 0 0, .slice (some ⟨w73.heap.size, 0, none⟩) 1 1, .slice none 0 0] 27); simp only [World.size_alloc] at h; exact h, ⟨Rcs.nil _, F85.out, RowsAt.nil _, F86.out, Ids.nil _⟩⟩
 have G4 : Hid (AkG w (((w73.alloc (.cells #[.int .i64 2, .int .i64 1, .int .i64 1] 48)).alloc (.cells #[.slice none 0 0, .slice (some ⟨w53.heap.size + 1 + 1, 0, none⟩) 1 1, .slice none 0 0, .slice (some ⟨w73.heap.size, 0, none⟩) 1 1, .slice none 0 0] 27)).heap.size) (w19.heap.size + 1) (w53.heap.size + 1) (w73.heap.size + 1) ((w73.alloc (.cells #[.int .i64 2, .int .i64 1, .int .i64 1] 48)).alloc (.cells #[.slice none 0 0, .slice (some ⟨w53.heap.size + 1 + 1, 0, none⟩) 1 1, .slice none 0 0, .slice (some ⟨w73.heap.size, 0, none⟩) 1 1, .slice none 0 0] 27))) := Lib.hid ⟨F83.out, F84.out, F88.out, holds_lt F83.out, holds_lt F84.out, holds_lt F88.out, B87.out.size, Nat.le_refl _, B87.out⟩
 clear F83 F84 F88 B87
 go_wp2_with fail
 clear k0 k1 k2 k3 k4 f0 f1 f2 f3 f4
 generalize hb0 : ((w73.alloc (.cells #[.int .i64 2, .int .i64 1, .int .i64 1] 48)).alloc (.cells #[.slice none 0 0, .slice (some ⟨w53.heap.size + 1 + 1, 0, none⟩) 1 1, .slice none 0 0, .slice (some ⟨w73.heap.size, 0, none⟩) 1 1, .slice none 0 0] 27)).heap.size = b0 at *
 refine wp_region_dueT (R := Vk) (tgt := fun i => if i = 8 then 4 else 5) (tk := fun i => if i = 8 then 6 else 7) (fr := akFr) (by kernel_rfl) akDs (akF b0) (AkG w b0 (w19.heap.size + 1) (w53.heap.size + 1) (w73.heap.size + 1)) rfl (by kernel_rfl) (by kernel_rfl) (by kernel_rfl) (by kernel_rfl) (akF_fr b0) (by kernel_rfl) (by kernel_rfl) (akF_mono b0) (akF_nu b0) (G4.out.step (below_drewN (n := 1) (Below.refl _ _))) ?_ ?_
 ·clear G4 hb0
  refine AllDueT.cons (due_metT (.inl rfl) fun q w1 hG hold hf hap K hK => ?_) ?_
  ·have f1 : q.tmps.getD 1 undef = .pointer (some ⟨w19.heap.size + 1, 0, none⟩) := hold 1 (by kernel_rfl)
   obtain ⟨a, b, c, d, e, hb, hr⟩ := hG.h1
   obtain ⟨p0, p1, p2, p3, p4⟩ := vbox_cells hb
   clear hf hold
   go_simp
   exact hK _ _ hG (vk_refl _ _) hr.at_ (fun h => by cases h)
  refine AllDueT.cons (due_metT (.inl rfl) fun q w1 hG hold hf hap K hK => ?_) ?_
  ·have f2 : q.tmps.getD 2 undef = .pointer (some ⟨w53.heap.size + 1, 0, none⟩) := hold 2 (by kernel_rfl)
   obtain ⟨a, b, c, d, e, hb, hr⟩ := hG.h2
   obtain ⟨p0, p1, p2, p3, p4⟩ := vbox_cells hb
   clear hf hold
   go_simp
   exact hK _ _ hG (vk_refl _ _) hr.at_ (fun h => by cases h)
  refine AllDueT.cons (due_metT (.inl rfl) fun q w1 hG hold hf hap K hK => ?_) ?_
  ·have r35 : VAt w1 (q.tmps.getD 35 undef) upV := hf 0 35 (by kernel_rfl) rfl
   obtain ⟨x35, e35⟩ : ∃ x, q.tmps.getD 35 undef = x := ⟨_, rfl⟩
   rw [e35] at r35
   have q35 := e35
   rw [Array.getD_eq_getD_getElem?] at q35
   have r36 : VAt w1 (q.tmps.getD 36 undef) downV := hf 1 36 (by kernel_rfl) rfl
   obtain ⟨x36, e36⟩ : ∃ x, q.tmps.getD 36 undef = x := ⟨_, rfl⟩
   rw [e36] at r36
   have q36 := e36
   rw [Array.getD_eq_getD_getElem?] at q36
   clear hf hold
   go_simp
   go_at_call 12
   (with_reducible refine (joinV_any _ _ upV downV _ r35 r36 up_fit down_fit up_up RowSets.up_nil).mono ?_)
   rintro e' w' ⟨X, rfl, h1, h2⟩
   rw [join_up] at h1
   exact hK _ _ (hG.step h2) (vk_of h2) h1 (fun h => by cases h)
  refine AllDueT.cons (due_metT (.inl rfl) fun q w1 hG hold hf hap K hK => ?_) ?_
  ·have f1 : q.tmps.getD 1 undef = .pointer (some ⟨w19.heap.size + 1, 0, none⟩) := hold 1 (by kernel_rfl)
   obtain ⟨a, b, c, d, e, hb, hr⟩ := hG.h1
   obtain ⟨p0, p1, p2, p3, p4⟩ := vbox_cells hb
   clear hf hold
   go_simp
   exact hK _ _ hG (vk_refl _ _) hr.at_ (fun h => by cases h)
  refine AllDueT.cons (due_metT (.inl rfl) fun q w1 hG hold hf hap K hK => ?_) ?_
  ·have f3 : q.tmps.getD 3 undef = .pointer (some ⟨w73.heap.size + 1, 0, none⟩) := hold 3 (by kernel_rfl)
   obtain ⟨a, b, c, d, e, hb, hr⟩ := hG.h3
   obtain ⟨p0, p1, p2, p3, p4⟩ := vbox_cells hb
   clear hf hold
   go_simp
   exact hK _ _ hG (vk_refl _ _) hr.at_ (fun h => by cases h)
  refine AllDueT.cons (due_metT (.inl rfl) fun q w1 hG hold hf hap K hK => ?_) ?_
  ·have r38 : VAt w1 (q.tmps.getD 38 undef) upV := hf 3 38 (by kernel_rfl) rfl
   obtain ⟨x38, e38⟩ : ∃ x, q.tmps.getD 38 undef = x := ⟨_, rfl⟩
   rw [e38] at r38
   have q38 := e38
   rw [Array.getD_eq_getD_getElem?] at q38
   have r39 : VAt w1 (q.tmps.getD 39 undef) goneV := hf 4 39 (by kernel_rfl) rfl
   obtain ⟨x39, e39⟩ : ∃ x, q.tmps.getD 39 undef = x := ⟨_, rfl⟩
   rw [e39] at r39
   have q39 := e39
   rw [Array.getD_eq_getD_getElem?] at q39
   clear hf hold
   go_simp
   go_at_call 12
   (with_reducible refine (joinV_any _ _ upV goneV _ r38 r39 up_fit gone_fit up_up RowSets.up_nil).mono ?_)
   rintro e' w' ⟨X, rfl, h1, h2⟩
   rw [join_gone] at h1
   exact hK _ _ (hG.step h2) (vk_of h2) h1 (fun h => by cases h)
  refine AllDueT.cons (due_metT (.inl rfl) fun q w1 hG hold hf hap K hK => ?_) ?_
  ·clear hf hold
   go_simp
   have h2 := below_one w1 (.cells #[.slice none 0 0, .slice none 0 0, .slice none 0 0, .slice none 0 0, .slice none 0 0] 27)
   exact hK _ _ (hG.step h2) (vk_of h2) ⟨_, rfl, hG.size, by simp, (none, 0, 0), (none, 0, 0), (none, 0, 0), (none, 0, 0), (none, 0, 0), heap_alloc_new _ _⟩ (fun _ => ⟨_, rfl, Nat.le_refl _⟩)
  refine AllDueT.cons (due_metT (.inl rfl) fun q w1 hG hold hf hap K hK => ?_) ?_
  ·clear hf hold
   go_simp
   have h2 := below_one w1 (.cells #[.slice none 0 0, .slice none 0 0, .slice none 0 0, .slice none 0 0, .slice none 0 0] 27)
   exact hK _ _ (hG.step h2) (vk_of h2) ⟨_, rfl, hG.size, by simp, (none, 0, 0), (none, 0, 0), (none, 0, 0), (none, 0, 0), (none, 0, 0), heap_alloc_new _ _⟩ (fun _ => ⟨_, rfl, Nat.le_refl _⟩)
  refine AllDueT.cons (due_metT (.inl rfl) fun q w1 hG hold hf hap K hK => ?_) ?_
  ·have r4 : PV w1 (q.tmps.getD 4 undef) b0 := hf 6 4 (by kernel_rfl) rfl
   obtain ⟨x4, e4⟩ : ∃ x, q.tmps.getD 4 undef = x := ⟨_, rfl⟩
   rw [e4] at r4
   have q4 := e4
   rw [Array.getD_eq_getD_getElem?] at q4
   have r37 : VAt w1 (q.tmps.getD 37 undef) jonV := hf 2 37 (by kernel_rfl) rfl
   obtain ⟨x37, e37⟩ : ∃ x, q.tmps.getD 37 undef = x := ⟨_, rfl⟩
   rw [e37] at r37
   have q37 := e37
   rw [Array.getD_eq_getD_getElem?] at q37
   obtain ⟨Y, hY, hY0, hYs, z0, z1, z2, z3, z4, hz⟩ := r4
   subst hY
   obtain ⟨s0, s1, s2, s3, s4, rfl, hr⟩ := r37
   obtain ⟨k0, k1, k2, k3, k4⟩ := vbox_cells hz
   obtain ⟨f0, f1, f2, f3, f5⟩ := vbox_free hz
   clear hf hold
   go_simp
   have hk := vk_put hz s0 s1 s2 s3 s4
   have hv : HoldsV (w1.setCells Y 0 [.slice s0.1 s0.2.1 s0.2.2, .slice s1.1 s1.2.1 s1.2.2, .slice s2.1 s2.2.1 s2.2.2, .slice s3.1 s3.2.1 s3.2.2, .slice s4.1 s4.2.1 s4.2.2]) Y jonV := ⟨s0, s1, s2, s3, s4, vbox_set hz s0 s1 s2 s3 s4, hr.kp hk.1⟩
   refine hK undef _ (hG.put hY0 hz s0 s1 s2 s3 s4) ?_ ?_ (fun h => by cases h)
   ·show Vk (q.tmps.getD 4 undef) _ _
    rw [e4]
    exact hk
   ·show HV _ (q.tmps.getD 4 undef) jonV
    rw [e4]
    exact ⟨Y, rfl, hv⟩
  refine AllDueT.cons (due_metT (.inl rfl) fun q w1 hG hold hf hap K hK => ?_) ?_
  ·have r5 : PV w1 (q.tmps.getD 5 undef) b0 := hf 7 5 (by kernel_rfl) rfl
   obtain ⟨x5, e5⟩ : ∃ x, q.tmps.getD 5 undef = x := ⟨_, rfl⟩
   rw [e5] at r5
   have q5 := e5
   rw [Array.getD_eq_getD_getElem?] at q5
   have r40 : VAt w1 (q.tmps.getD 40 undef) nonV := hf 5 40 (by kernel_rfl) rfl
   obtain ⟨x40, e40⟩ : ∃ x, q.tmps.getD 40 undef = x := ⟨_, rfl⟩
   rw [e40] at r40
   have q40 := e40
   rw [Array.getD_eq_getD_getElem?] at q40
   obtain ⟨Y, hY, hY0, hYs, z0, z1, z2, z3, z4, hz⟩ := r5
   subst hY
   obtain ⟨s0, s1, s2, s3, s4, rfl, hr⟩ := r40
   obtain ⟨k0, k1, k2, k3, k4⟩ := vbox_cells hz
   obtain ⟨f0, f1, f2, f3, f5⟩ := vbox_free hz
   clear hf hold
   go_simp
   have hk := vk_put hz s0 s1 s2 s3 s4
   have hv : HoldsV (w1.setCells Y 0 [.slice s0.1 s0.2.1 s0.2.2, .slice s1.1 s1.2.1 s1.2.2, .slice s2.1 s2.2.1 s2.2.2, .slice s3.1 s3.2.1 s3.2.2, .slice s4.1 s4.2.1 s4.2.2]) Y nonV := ⟨s0, s1, s2, s3, s4, vbox_set hz s0 s1 s2 s3 s4, hr.kp hk.1⟩
   refine hK undef _ (hG.put hY0 hz s0 s1 s2 s3 s4) ?_ ?_ (fun h => by cases h)
   ·show Vk (q.tmps.getD 5 undef) _ _
    rw [e5]
    exact hk
   ·show HV _ (q.tmps.getD 5 undef) nonV
    rw [e5]
    exact ⟨Y, rfl, hv⟩
  exact AllDueT.nil
 ·intro ac w6 hG hd hs hold hf hdone hap
  have h4 : HV w6 (ac.tmps.getD 4 undef) jonV := hdone 8 (by decide) rfl
  have h5 : HV w6 (ac.tmps.getD 5 undef) nonV := hdone 9 (by decide) rfl
  obtain ⟨X4, k4, a, b, c, d, e, hb4, hr4⟩ := h4
  obtain ⟨X5, k5, a', b', c', d', e', hb5, hr5⟩ := h5
  obtain ⟨p0, p1, p2, p3, p4⟩ := vbox_cells hb4
  obtain ⟨q0, q1, q2, q3, q4⟩ := vbox_cells hb5
  obtain ⟨ad, hA, m0, m1, m2, m3⟩ := Ms.at_ hr4.m (Below.refl _ _) (k := 0) (by decide)
  have n0 : a.2.1 = 1 := rcs_len hr4.m
  have n1 : a'.2.1 = 0 := rcs_len hr5.m
  have n2 : c'.2.1 = 0 := rows_len hr5.r
  have n3 : d'.2.1 = 2 := rcs_len hr5.c
  have n4 : e'.2.1 = 0 := ids_len hr5.s
  rw [hA, n0] at p0
  rw [n1] at q0
  rw [n2] at q2
  rw [n3] at q3
  rw [n4] at q4
  have hz : ad.add (0 * 4) = ad := add_nil4 ad
  rw [hz] at m2
  have G5 : Hid (AlG w X4 X5 ad a.2.2 e a'.1 a'.2.2 c'.1 c'.2.2 e'.1 e'.2.2 d'.1 d'.2.2 w6) := Lib.hid ⟨p0, m2, p4, hr4.s, q0, q2, q4, q3, hG.below⟩
  have hE := (act_eta ac 84 hs).trans (show _ = (⟨#[ac.tmps.getD 0 undef, ac.tmps.getD 1 undef, ac.tmps.getD 2 undef, ac.tmps.getD 3 undef, ac.tmps.getD 4 undef, ac.tmps.getD 5 undef, ac.tmps.getD 6 undef, ac.tmps.getD 7 undef, ac.tmps.getD 8 undef, ac.tmps.getD 9 undef, ac.tmps.getD 10 undef, ac.tmps.getD 11 undef, ac.tmps.getD 12 undef, ac.tmps.getD 13 undef, ac.tmps.getD 14 undef, ac.tmps.getD 15 undef, ac.tmps.getD 16 undef, ac.tmps.getD 17 undef, ac.tmps.getD 18 undef, ac.tmps.getD 19 undef, ac.tmps.getD 20 undef, ac.tmps.getD 21 undef, ac.tmps.getD 22 undef, ac.tmps.getD 23 undef, ac.tmps.getD 24 undef, ac.tmps.getD 25 undef, ac.tmps.getD 26 undef, ac.tmps.getD 27 undef, ac.tmps.getD 28 undef, ac.tmps.getD 29 undef, ac.tmps.getD 30 undef, ac.tmps.getD 31 undef, ac.tmps.getD 32 undef, ac.tmps.getD 33 undef, ac.tmps.getD 34 undef, ac.tmps.getD 35 undef, ac.tmps.getD 36 undef, ac.tmps.getD 37 undef, ac.tmps.getD 38 undef, ac.tmps.getD 39 undef, ac.tmps.getD 40 undef, ac.tmps.getD 41 undef, ac.tmps.getD 42 undef, ac.tmps.getD 43 undef, ac.tmps.getD 44 undef, ac.tmps.getD 45 undef, ac.tmps.getD 46 undef, ac.tmps.getD 47 undef, ac.tmps.getD 48 undef, ac.tmps.getD 49 undef, ac.tmps.getD 50 undef, ac.tmps.getD 51 undef, ac.tmps.getD 52 undef, ac.tmps.getD 53 undef, ac.tmps.getD 54 undef, ac.tmps.getD 55 undef, ac.tmps.getD 56 undef, ac.tmps.getD 57 undef, ac.tmps.getD 58 undef, ac.tmps.getD 59 undef, ac.tmps.getD 60 undef, ac.tmps.getD 61 undef, ac.tmps.getD 62 undef, ac.tmps.getD 63 undef, ac.tmps.getD 64 undef, ac.tmps.getD 65 undef, ac.tmps.getD 66 undef, ac.tmps.getD 67 undef, ac.tmps.getD 68 undef, ac.tmps.getD 69 undef, ac.tmps.getD 70 undef, ac.tmps.getD 71 undef, ac.tmps.getD 72 undef, ac.tmps.getD 73 undef, ac.tmps.getD 74 undef, ac.tmps.getD 75 undef, ac.tmps.getD 76 undef, ac.tmps.getD 77 undef, ac.tmps.getD 78 undef, ac.tmps.getD 79 undef, ac.tmps.getD 80 undef, ac.tmps.getD 81 undef, ac.tmps.getD 82 undef, ac.tmps.getD 83 undef], []⟩ : Act) by rw [hd]; rfl)
  rw [k4, k5] at hE
  clear hold hf hs hd hdone hap k4 k5 hb4 hb5 hr4 hr5 p0 p1 p2 p3 p4 q0 q1 q2 q3 q4 m0 m1 m2 m3 hA n0 n1 n2 n3 n4 hz hG G4
  generalize ac.tmps.getD 0 undef = u0 at hE
  generalize ac.tmps.getD 1 undef = u1 at hE
  generalize ac.tmps.getD 2 undef = u2 at hE
  generalize ac.tmps.getD 3 undef = u3 at hE
  generalize ac.tmps.getD 6 undef = u6 at hE
  generalize ac.tmps.getD 7 undef = u7 at hE
  generalize ac.tmps.getD 8 undef = u8 at hE
  generalize ac.tmps.getD 9 undef = u9 at hE
  generalize ac.tmps.getD 10 undef = u10 at hE
  generalize ac.tmps.getD 11 undef = u11 at hE
  generalize ac.tmps.getD 12 undef = u12 at hE
  generalize ac.tmps.getD 13 undef = u13 at hE
  generalize ac.tmps.getD 14 undef = u14 at hE
  generalize ac.tmps.getD 15 undef = u15 at hE
  generalize ac.tmps.getD 16 undef = u16 at hE
  generalize ac.tmps.getD 17 undef = u17 at hE
  generalize ac.tmps.getD 18 undef = u18 at hE
  generalize ac.tmps.getD 19 undef = u19 at hE
  generalize ac.tmps.getD 20 undef = u20 at hE
  generalize ac.tmps.getD 21 undef = u21 at hE
  generalize ac.tmps.getD 22 undef = u22 at hE
  generalize ac.tmps.getD 23 undef = u23 at hE
  generalize ac.tmps.getD 24 undef = u24 at hE
  generalize ac.tmps.getD 25 undef = u25 at hE
  generalize ac.tmps.getD 26 undef = u26 at hE
  generalize ac.tmps.getD 27 undef = u27 at hE
  generalize ac.tmps.getD 28 undef = u28 at hE
  generalize ac.tmps.getD 29 undef = u29 at hE
  generalize ac.tmps.getD 30 undef = u30 at hE
  generalize ac.tmps.getD 31 undef = u31 at hE
  generalize ac.tmps.getD 32 undef = u32 at hE
  generalize ac.tmps.getD 33 undef = u33 at hE
  generalize ac.tmps.getD 34 undef = u34 at hE
  generalize ac.tmps.getD 35 undef = u35 at hE
  generalize ac.tmps.getD 36 undef = u36 at hE
  generalize ac.tmps.getD 37 undef = u37 at hE
  generalize ac.tmps.getD 38 undef = u38 at hE
  generalize ac.tmps.getD 39 undef = u39 at hE
  generalize ac.tmps.getD 40 undef = u40 at hE
  generalize ac.tmps.getD 41 undef = u41 at hE
  generalize ac.tmps.getD 42 undef = u42 at hE
  generalize ac.tmps.getD 43 undef = u43 at hE
  generalize ac.tmps.getD 44 undef = u44 at hE
  generalize ac.tmps.getD 45 undef = u45 at hE
  generalize ac.tmps.getD 46 undef = u46 at hE
  generalize ac.tmps.getD 47 undef = u47 at hE
  generalize ac.tmps.getD 48 undef = u48 at hE
  generalize ac.tmps.getD 49 undef = u49 at hE
  generalize ac.tmps.getD 50 undef = u50 at hE
  generalize ac.tmps.getD 51 undef = u51 at hE
  generalize ac.tmps.getD 52 undef = u52 at hE
  generalize ac.tmps.getD 53 undef = u53 at hE
  generalize ac.tmps.getD 54 undef = u54 at hE
  generalize ac.tmps.getD 55 undef = u55 at hE
  generalize ac.tmps.getD 56 undef = u56 at hE
  generalize ac.tmps.getD 57 undef = u57 at hE
  generalize ac.tmps.getD 58 undef = u58 at hE
  generalize ac.tmps.getD 59 undef = u59 at hE
  generalize ac.tmps.getD 60 undef = u60 at hE
  generalize ac.tmps.getD 61 undef = u61 at hE
  generalize ac.tmps.getD 62 undef = u62 at hE
  generalize ac.tmps.getD 63 undef = u63 at hE
  generalize ac.tmps.getD 64 undef = u64 at hE
  generalize ac.tmps.getD 65 undef = u65 at hE
  generalize ac.tmps.getD 66 undef = u66 at hE
  generalize ac.tmps.getD 67 undef = u67 at hE
  generalize ac.tmps.getD 68 undef = u68 at hE
  generalize ac.tmps.getD 69 undef = u69 at hE
  generalize ac.tmps.getD 70 undef = u70 at hE
  generalize ac.tmps.getD 71 undef = u71 at hE
  generalize ac.tmps.getD 72 undef = u72 at hE
  generalize ac.tmps.getD 73 undef = u73 at hE
  generalize ac.tmps.getD 74 undef = u74 at hE
  generalize ac.tmps.getD 75 undef = u75 at hE
  generalize ac.tmps.getD 76 undef = u76 at hE
  generalize ac.tmps.getD 77 undef = u77 at hE
  generalize ac.tmps.getD 78 undef = u78 at hE
  generalize ac.tmps.getD 79 undef = u79 at hE
  generalize ac.tmps.getD 80 undef = u80 at hE
  generalize ac.tmps.getD 81 undef = u81 at hE
  generalize ac.tmps.getD 82 undef = u82 at hE
  generalize ac.tmps.getD 83 undef = u83 at hE
  subst hE
  go_wp2_with fail
  refine wp_region_due (by kernel_rfl) alDs (alF X4 X5 ad a.2.2 e a'.1 a'.2.2 c'.1 c'.2.2 e'.1 e'.2.2 d'.1 d'.2.2) (AlG w X4 X5 ad a.2.2 e a'.1 a'.2.2 c'.1 c'.2.2 e'.1 e'.2.2 d'.1 d'.2.2) rfl (by kernel_rfl) (by kernel_rfl) (by kernel_rfl) (alF_mono X4 X5 ad a.2.2 e a'.1 a'.2.2 c'.1 c'.2.2 e'.1 e'.2.2 d'.1 d'.2.2) (G5.out.step (below_drewN (n := 1) (Below.refl _ _))) ?_ ?_
  ·clear G5
   generalize a.2.2 = z1 at *
   generalize e = si at *
   generalize a'.1 = A3 at *
   generalize a'.2.2 = z3 at *
   generalize c'.1 = A4 at *
   generalize c'.2.2 = z4 at *
   generalize e'.1 = A5 at *
   generalize e'.2.2 = z5 at *
   generalize d'.1 = A6 at *
   generalize d'.2.2 = z6 at *
   refine AllDue.cons (due_met (.inl rfl) fun q w1 hG hold hf K hK => ?_) ?_
   ·have f4 : q.tmps.getD 4 undef = .pointer (some ⟨X4, 0, none⟩) := hold 4 (by kernel_rfl)
    clear hf hold
    go_simp
    exact hK _ _ hG (Below.refl _ _) rfl
   refine AllDue.cons (due_met (.inl rfl) fun q w1 hG hold hf K hK => ?_) ?_
   ·have f41 : q.tmps.getD 41 undef = .pointer (some ⟨X4, 0, none⟩) := hf 0 41 (by kernel_rfl) rfl
    have q41 := f41
    rw [Array.getD_eq_getD_getElem?] at q41
    have z0 := hG.c0
    clear hf hold
    go_simp
    exact hK _ _ hG (Below.refl _ _) rfl
   refine AllDue.cons (due_met (.inl rfl) fun q w1 hG hold hf K hK => ?_) ?_
   ·have f42 : q.tmps.getD 42 undef = .slice (some ad) 1 z1 := hf 1 42 (by kernel_rfl) rfl
    have q42 := f42
    rw [Array.getD_eq_getD_getElem?] at q42
    clear hf hold
    go_simp
    exact hK _ _ hG (Below.refl _ _) rfl
   refine AllDue.cons (due_met (.inl rfl) fun q w1 hG hold hf K hK => ?_) ?_
   ·have f43 : q.tmps.getD 43 undef = .int .i64 1 := hf 2 43 (by kernel_rfl) rfl
    have q43 := f43
    rw [Array.getD_eq_getD_getElem?] at q43
    clear hf hold
    go_simp
    exact hK _ _ hG (Below.refl _ _) rfl
   refine AllDue.cons (due_met (.inl rfl) fun q w1 hG hold hf K hK => ?_) ?_
   ·have f44 : q.tmps.getD 44 undef = .bool true := hf 3 44 (by kernel_rfl) rfl
    have q44 := f44
    rw [Array.getD_eq_getD_getElem?] at q44
    clear hf hold
    go_simp
    exact hK _ _ hG (Below.refl _ _) rfl
   refine AllDue.cons (due_met (.inr ⟨4, true, 45, rfl, rfl, by kernel_rfl, fun _ _ h => h⟩) fun q w1 hG hold hf K hK => ?_) ?_
   ·have f4 : q.tmps.getD 4 undef = .pointer (some ⟨X4, 0, none⟩) := hold 4 (by kernel_rfl)
    clear hf hold
    go_simp
    exact hK _ _ hG (Below.refl _ _) rfl
   refine AllDue.cons (due_met (.inr ⟨4, true, 45, rfl, rfl, by kernel_rfl, fun _ _ h => h⟩) fun q w1 hG hold hf K hK => ?_) ?_
   ·have f46 : q.tmps.getD 46 undef = .pointer (some ⟨X4, 0, none⟩) := hf 5 46 (by kernel_rfl) rfl
    have q46 := f46
    rw [Array.getD_eq_getD_getElem?] at q46
    have z0 := hG.c0
    clear hf hold
    go_simp
    exact hK _ _ hG (Below.refl _ _) rfl
   refine AllDue.cons (due_met (.inr ⟨4, true, 45, rfl, rfl, by kernel_rfl, fun _ _ h => h⟩) fun q w1 hG hold hf K hK => ?_) ?_
   ·have f47 : q.tmps.getD 47 undef = .slice (some ad) 1 z1 := hf 6 47 (by kernel_rfl) rfl
    have q47 := f47
    rw [Array.getD_eq_getD_getElem?] at q47
    clear hf hold
    go_simp
    exact hK _ _ hG (Below.refl _ _) rfl
   refine AllDue.cons (due_met (.inr ⟨4, true, 45, rfl, rfl, by kernel_rfl, fun _ _ h => h⟩) fun q w1 hG hold hf K hK => ?_) ?_
   ·have f48 : q.tmps.getD 48 undef = .pointer (some ad) := hf 7 48 (by kernel_rfl) rfl
    have q48 := f48
    rw [Array.getD_eq_getD_getElem?] at q48
    clear hf hold
    go_simp
    exact hK _ _ hG (Below.refl _ _) rfl
   refine AllDue.cons (due_met (.inr ⟨4, true, 45, rfl, rfl, by kernel_rfl, fun _ _ h => h⟩) fun q w1 hG hold hf K hK => ?_) ?_
   ·have f49 : q.tmps.getD 49 undef = .pointer (some ⟨ad.block, ad.off + 2, none⟩) := hf 8 49 (by kernel_rfl) rfl
    have q49 := f49
    rw [Array.getD_eq_getD_getElem?] at q49
    have z0 := hG.s
    clear hf hold
    go_simp
    exact hK _ _ hG (Below.refl _ _) rfl
   refine AllDue.cons (due_met (.inr ⟨4, true, 45, rfl, rfl, by kernel_rfl, fun _ _ h => h⟩) fun q w1 hG hold hf K hK => ?_) ?_
   ·have f50 : q.tmps.getD 50 undef = .int .u8 6 := hf 9 50 (by kernel_rfl) rfl
    have q50 := f50
    rw [Array.getD_eq_getD_getElem?] at q50
    clear hf hold
    go_simp
    exact hK _ _ hG (Below.refl _ _) rfl
   refine AllDue.cons (due_met (.inl rfl) fun q w1 hG hold hf K hK => ?_) ?_
   ·have f45 : q.tmps.getD 45 undef = .bool true := hf 4 45 (by kernel_rfl) rfl
    have q45 := f45
    rw [Array.getD_eq_getD_getElem?] at q45
    have f51 : q.tmps.getD 51 undef = .bool true := hf 10 51 (by kernel_rfl) rfl
    have q51 := f51
    rw [Array.getD_eq_getD_getElem?] at q51
    clear hf hold
    go_simp
    exact hK _ _ hG (Below.refl _ _) rfl
   refine AllDue.cons (due_met (.inl rfl) fun q w1 hG hold hf K hK => ?_) ?_
   ·have f52 : q.tmps.getD 52 undef = .bool true := hf 11 52 (by kernel_rfl) rfl
    have q52 := f52
    rw [Array.getD_eq_getD_getElem?] at q52
    clear hf hold
    go_simp
    exact hK _ _ hG (Below.refl _ _) rfl
   refine AllDue.cons (due_met (.inr ⟨12, true, 53, rfl, rfl, by kernel_rfl, fun _ _ h => h⟩) fun q w1 hG hold hf K hK => ?_) ?_
   ·have f4 : q.tmps.getD 4 undef = .pointer (some ⟨X4, 0, none⟩) := hold 4 (by kernel_rfl)
    clear hf hold
    go_simp
    exact hK _ _ hG (Below.refl _ _) rfl
   refine AllDue.cons (due_met (.inr ⟨12, true, 53, rfl, rfl, by kernel_rfl, fun _ _ h => h⟩) fun q w1 hG hold hf K hK => ?_) ?_
   ·have f54 : q.tmps.getD 54 undef = .pointer (some ⟨X4, 4, none⟩) := hf 13 54 (by kernel_rfl) rfl
    have q54 := f54
    rw [Array.getD_eq_getD_getElem?] at q54
    have z0 := hG.c4
    clear hf hold
    go_simp
    exact hK _ _ hG (Below.refl _ _) rfl
   refine AllDue.cons (due_met (.inr ⟨12, true, 53, rfl, rfl, by kernel_rfl, fun _ _ h => h⟩) fun q w1 hG hold hf K hK => ?_) ?_
   ·clear hf hold
    go_simp
    go_at_call 32
    (with_reducible refine (at_any _ _).mono ?_)
    rintro e' w' ⟨rfl, h2⟩
    exact hK _ _ (hG.step h2) h2 rfl
   refine AllDue.cons (due_met (.inr ⟨12, true, 53, rfl, rfl, by kernel_rfl, fun _ _ h => h⟩) fun q w1 hG hold hf K hK => ?_) ?_
   ·have f56 : q.tmps.getD 56 undef = .agg #[.int .i64 2, .int .i64 1] := hf 15 56 (by kernel_rfl) rfl
    have q56 := f56
    rw [Array.getD_eq_getD_getElem?] at q56
    clear hf hold
    go_simp
    have h2 := below_one w1 (.cells #[.int .i64 2, .int .i64 1] 29)
    exact hK _ _ (hG.step h2) h2 (ids_lit w1 [(2, 1)])
   refine AllDue.cons (due_met (.inr ⟨12, true, 53, rfl, rfl, by kernel_rfl, fun _ _ h => h⟩) fun q w1 hG hold hf K hK => ?_) ?_
   ·have f55 : q.tmps.getD 55 undef = .slice si.1 si.2.1 si.2.2 := hf 14 55 (by kernel_rfl) rfl
    have q55 := f55
    rw [Array.getD_eq_getD_getElem?] at q55
    have r57 : Ids w1 (q.tmps.getD 57 undef) [(2, 1)] := hf 16 57 (by kernel_rfl) rfl
    obtain ⟨x57, e57⟩ : ∃ x, q.tmps.getD 57 undef = x := ⟨_, rfl⟩
    rw [e57] at r57
    have q57 := e57
    rw [Array.getD_eq_getD_getElem?] at q57
    clear hf hold
    go_simp
    go_at_call 35
    (with_reducible refine (same_any _ _ [(2, 1)] [(2, 1)] _ hG.hi r57 (by decide) (by decide)).mono ?_)
    rintro e' w' ⟨rfl, h2⟩
    exact hK _ _ (hG.step h2) h2 rfl
   refine AllDue.cons (due_met (.inl rfl) fun q w1 hG hold hf K hK => ?_) ?_
   ·have f53 : q.tmps.getD 53 undef = .bool true := hf 12 53 (by kernel_rfl) rfl
    have q53 := f53
    rw [Array.getD_eq_getD_getElem?] at q53
    have f58 : q.tmps.getD 58 undef = .bool true := hf 17 58 (by kernel_rfl) rfl
    have q58 := f58
    rw [Array.getD_eq_getD_getElem?] at q58
    clear hf hold
    go_simp
    exact hK _ _ hG (Below.refl _ _) rfl
   refine AllDue.cons (due_met (.inl rfl) fun q w1 hG hold hf K hK => ?_) ?_
   ·have f59 : q.tmps.getD 59 undef = .bool true := hf 18 59 (by kernel_rfl) rfl
    have q59 := f59
    rw [Array.getD_eq_getD_getElem?] at q59
    clear hf hold
    go_simp
    exact hK _ _ hG (Below.refl _ _) rfl
   refine AllDue.cons (due_met (.inr ⟨19, true, 60, rfl, rfl, by kernel_rfl, fun _ _ h => h⟩) fun q w1 hG hold hf K hK => ?_) ?_
   ·have f5 : q.tmps.getD 5 undef = .pointer (some ⟨X5, 0, none⟩) := hold 5 (by kernel_rfl)
    clear hf hold
    go_simp
    exact hK _ _ hG (Below.refl _ _) rfl
   refine AllDue.cons (due_met (.inr ⟨19, true, 60, rfl, rfl, by kernel_rfl, fun _ _ h => h⟩) fun q w1 hG hold hf K hK => ?_) ?_
   ·have f61 : q.tmps.getD 61 undef = .pointer (some ⟨X5, 0, none⟩) := hf 20 61 (by kernel_rfl) rfl
    have q61 := f61
    rw [Array.getD_eq_getD_getElem?] at q61
    have z0 := hG.d0
    clear hf hold
    go_simp
    exact hK _ _ hG (Below.refl _ _) rfl
   refine AllDue.cons (due_met (.inr ⟨19, true, 60, rfl, rfl, by kernel_rfl, fun _ _ h => h⟩) fun q w1 hG hold hf K hK => ?_) ?_
   ·have f62 : q.tmps.getD 62 undef = .slice A3 0 z3 := hf 21 62 (by kernel_rfl) rfl
    have q62 := f62
    rw [Array.getD_eq_getD_getElem?] at q62
    clear hf hold
    go_simp
    exact hK _ _ hG (Below.refl _ _) rfl
   refine AllDue.cons (due_met (.inr ⟨19, true, 60, rfl, rfl, by kernel_rfl, fun _ _ h => h⟩) fun q w1 hG hold hf K hK => ?_) ?_
   ·have f63 : q.tmps.getD 63 undef = .int .i64 0 := hf 22 63 (by kernel_rfl) rfl
    have q63 := f63
    rw [Array.getD_eq_getD_getElem?] at q63
    clear hf hold
    go_simp
    exact hK _ _ hG (Below.refl _ _) rfl
   refine AllDue.cons (due_met (.inl rfl) fun q w1 hG hold hf K hK => ?_) ?_
   ·have f60 : q.tmps.getD 60 undef = .bool true := hf 19 60 (by kernel_rfl) rfl
    have q60 := f60
    rw [Array.getD_eq_getD_getElem?] at q60
    have f64 : q.tmps.getD 64 undef = .bool true := hf 23 64 (by kernel_rfl) rfl
    have q64 := f64
    rw [Array.getD_eq_getD_getElem?] at q64
    clear hf hold
    go_simp
    exact hK _ _ hG (Below.refl _ _) rfl
   refine AllDue.cons (due_met (.inl rfl) fun q w1 hG hold hf K hK => ?_) ?_
   ·have f65 : q.tmps.getD 65 undef = .bool true := hf 24 65 (by kernel_rfl) rfl
    have q65 := f65
    rw [Array.getD_eq_getD_getElem?] at q65
    clear hf hold
    go_simp
    exact hK _ _ hG (Below.refl _ _) rfl
   refine AllDue.cons (due_met (.inr ⟨25, true, 66, rfl, rfl, by kernel_rfl, fun _ _ h => h⟩) fun q w1 hG hold hf K hK => ?_) ?_
   ·have f5 : q.tmps.getD 5 undef = .pointer (some ⟨X5, 0, none⟩) := hold 5 (by kernel_rfl)
    clear hf hold
    go_simp
    exact hK _ _ hG (Below.refl _ _) rfl
   refine AllDue.cons (due_met (.inr ⟨25, true, 66, rfl, rfl, by kernel_rfl, fun _ _ h => h⟩) fun q w1 hG hold hf K hK => ?_) ?_
   ·have f67 : q.tmps.getD 67 undef = .pointer (some ⟨X5, 2, none⟩) := hf 26 67 (by kernel_rfl) rfl
    have q67 := f67
    rw [Array.getD_eq_getD_getElem?] at q67
    have z0 := hG.d2
    clear hf hold
    go_simp
    exact hK _ _ hG (Below.refl _ _) rfl
   refine AllDue.cons (due_met (.inr ⟨25, true, 66, rfl, rfl, by kernel_rfl, fun _ _ h => h⟩) fun q w1 hG hold hf K hK => ?_) ?_
   ·have f68 : q.tmps.getD 68 undef = .slice A4 0 z4 := hf 27 68 (by kernel_rfl) rfl
    have q68 := f68
    rw [Array.getD_eq_getD_getElem?] at q68
    clear hf hold
    go_simp
    exact hK _ _ hG (Below.refl _ _) rfl
   refine AllDue.cons (due_met (.inr ⟨25, true, 66, rfl, rfl, by kernel_rfl, fun _ _ h => h⟩) fun q w1 hG hold hf K hK => ?_) ?_
   ·have f69 : q.tmps.getD 69 undef = .int .i64 0 := hf 28 69 (by kernel_rfl) rfl
    have q69 := f69
    rw [Array.getD_eq_getD_getElem?] at q69
    clear hf hold
    go_simp
    exact hK _ _ hG (Below.refl _ _) rfl
   refine AllDue.cons (due_met (.inl rfl) fun q w1 hG hold hf K hK => ?_) ?_
   ·have f66 : q.tmps.getD 66 undef = .bool true := hf 25 66 (by kernel_rfl) rfl
    have q66 := f66
    rw [Array.getD_eq_getD_getElem?] at q66
    have f70 : q.tmps.getD 70 undef = .bool true := hf 29 70 (by kernel_rfl) rfl
    have q70 := f70
    rw [Array.getD_eq_getD_getElem?] at q70
    clear hf hold
    go_simp
    exact hK _ _ hG (Below.refl _ _) rfl
   refine AllDue.cons (due_met (.inl rfl) fun q w1 hG hold hf K hK => ?_) ?_
   ·have f71 : q.tmps.getD 71 undef = .bool true := hf 30 71 (by kernel_rfl) rfl
    have q71 := f71
    rw [Array.getD_eq_getD_getElem?] at q71
    clear hf hold
    go_simp
    exact hK _ _ hG (Below.refl _ _) rfl
   refine AllDue.cons (due_met (.inr ⟨31, true, 72, rfl, rfl, by kernel_rfl, fun _ _ h => h⟩) fun q w1 hG hold hf K hK => ?_) ?_
   ·have f5 : q.tmps.getD 5 undef = .pointer (some ⟨X5, 0, none⟩) := hold 5 (by kernel_rfl)
    clear hf hold
    go_simp
    exact hK _ _ hG (Below.refl _ _) rfl
   refine AllDue.cons (due_met (.inr ⟨31, true, 72, rfl, rfl, by kernel_rfl, fun _ _ h => h⟩) fun q w1 hG hold hf K hK => ?_) ?_
   ·have f73 : q.tmps.getD 73 undef = .pointer (some ⟨X5, 4, none⟩) := hf 32 73 (by kernel_rfl) rfl
    have q73 := f73
    rw [Array.getD_eq_getD_getElem?] at q73
    have z0 := hG.d4
    clear hf hold
    go_simp
    exact hK _ _ hG (Below.refl _ _) rfl
   refine AllDue.cons (due_met (.inr ⟨31, true, 72, rfl, rfl, by kernel_rfl, fun _ _ h => h⟩) fun q w1 hG hold hf K hK => ?_) ?_
   ·have f74 : q.tmps.getD 74 undef = .slice A5 0 z5 := hf 33 74 (by kernel_rfl) rfl
    have q74 := f74
    rw [Array.getD_eq_getD_getElem?] at q74
    clear hf hold
    go_simp
    exact hK _ _ hG (Below.refl _ _) rfl
   refine AllDue.cons (due_met (.inr ⟨31, true, 72, rfl, rfl, by kernel_rfl, fun _ _ h => h⟩) fun q w1 hG hold hf K hK => ?_) ?_
   ·have f75 : q.tmps.getD 75 undef = .int .i64 0 := hf 34 75 (by kernel_rfl) rfl
    have q75 := f75
    rw [Array.getD_eq_getD_getElem?] at q75
    clear hf hold
    go_simp
    exact hK _ _ hG (Below.refl _ _) rfl
   refine AllDue.cons (due_met (.inl rfl) fun q w1 hG hold hf K hK => ?_) ?_
   ·have f72 : q.tmps.getD 72 undef = .bool true := hf 31 72 (by kernel_rfl) rfl
    have q72 := f72
    rw [Array.getD_eq_getD_getElem?] at q72
    have f76 : q.tmps.getD 76 undef = .bool true := hf 35 76 (by kernel_rfl) rfl
    have q76 := f76
    rw [Array.getD_eq_getD_getElem?] at q76
    clear hf hold
    go_simp
    exact hK _ _ hG (Below.refl _ _) rfl
   refine AllDue.cons (due_met (.inl rfl) fun q w1 hG hold hf K hK => ?_) ?_
   ·have f77 : q.tmps.getD 77 undef = .bool true := hf 36 77 (by kernel_rfl) rfl
    have q77 := f77
    rw [Array.getD_eq_getD_getElem?] at q77
    clear hf hold
    go_simp
    exact hK _ _ hG (Below.refl _ _) rfl
   refine AllDue.cons (due_met (.inr ⟨37, true, 78, rfl, rfl, by kernel_rfl, fun _ _ h => h⟩) fun q w1 hG hold hf K hK => ?_) ?_
   ·have f5 : q.tmps.getD 5 undef = .pointer (some ⟨X5, 0, none⟩) := hold 5 (by kernel_rfl)
    clear hf hold
    go_simp
    exact hK _ _ hG (Below.refl _ _) rfl
   refine AllDue.cons (due_met (.inr ⟨37, true, 78, rfl, rfl, by kernel_rfl, fun _ _ h => h⟩) fun q w1 hG hold hf K hK => ?_) ?_
   ·have f79 : q.tmps.getD 79 undef = .pointer (some ⟨X5, 3, none⟩) := hf 38 79 (by kernel_rfl) rfl
    have q79 := f79
    rw [Array.getD_eq_getD_getElem?] at q79
    have z0 := hG.d3
    clear hf hold
    go_simp
    exact hK _ _ hG (Below.refl _ _) rfl
   refine AllDue.cons (due_met (.inr ⟨37, true, 78, rfl, rfl, by kernel_rfl, fun _ _ h => h⟩) fun q w1 hG hold hf K hK => ?_) ?_
   ·have f80 : q.tmps.getD 80 undef = .slice A6 2 z6 := hf 39 80 (by kernel_rfl) rfl
    have q80 := f80
    rw [Array.getD_eq_getD_getElem?] at q80
    clear hf hold
    go_simp
    exact hK _ _ hG (Below.refl _ _) rfl
   refine AllDue.cons (due_met (.inr ⟨37, true, 78, rfl, rfl, by kernel_rfl, fun _ _ h => h⟩) fun q w1 hG hold hf K hK => ?_) ?_
   ·have f81 : q.tmps.getD 81 undef = .int .i64 2 := hf 40 81 (by kernel_rfl) rfl
    have q81 := f81
    rw [Array.getD_eq_getD_getElem?] at q81
    clear hf hold
    go_simp
    exact hK _ _ hG (Below.refl _ _) rfl
   refine AllDue.cons (due_met (.inl rfl) fun q w1 hG hold hf K hK => ?_) ?_
   ·have f78 : q.tmps.getD 78 undef = .bool true := hf 37 78 (by kernel_rfl) rfl
    have q78 := f78
    rw [Array.getD_eq_getD_getElem?] at q78
    have f82 : q.tmps.getD 82 undef = .bool true := hf 41 82 (by kernel_rfl) rfl
    have q82 := f82
    rw [Array.getD_eq_getD_getElem?] at q82
    clear hf hold
    go_simp
    exact hK _ _ hG (Below.refl _ _) rfl
   refine AllDue.cons (due_met (.inl rfl) fun q w1 hG hold hf K hK => ?_) ?_
   ·have f83 : q.tmps.getD 83 undef = .bool true := hf 42 83 (by kernel_rfl) rfl
    have q83 := f83
    rw [Array.getD_eq_getD_getElem?] at q83
    clear hf hold
    go_simp
    exact hK _ _ hG (Below.refl _ _) rfl
   exact AllDue.nil
  ·intro ac w7 hG hd hs hold hf
   have f0 : ac.tmps.getD 0 undef = .bool true := hf 43 0 rfl
   clear hf hold
   go_wp2_with fail
   refine bodyPost_ret (results_tmp rfl _ _ _) hd ?_
   exact ⟨by rw [f0], hG.below⟩
end Go.Proofs.YtjlnnmjhbccdoaaGreat
