/-
  Carried over and put together: contracts of this program's functions, and plain facts. No statement is proved in this text.
-/
import Derived.Deep.QuietTactic
import Derived.Deep.RegionLaw
import Derived.StillTailTactics
import Derived.Deep.DeepCutAuto
import Derived.Lib.AppendZerosOnto
import Derived.Lib.AppendZeros
import Derived.Lib.SlKept
import Derived.BigRegion
import Derived.Lib.SliceRun
import Derived.Laws.AppendOwnNone
import Derived.Laws.IdiomCopy
import Derived.Laws.NewBlocks
import Derived.WalkKit
import Derived.Below
import Derived.OwnWalk
import Derived.Deep.AppendLies
import Derived.Deep.Slices
import Derived.Lib.Hide
import Derived.Test.YtjlnnmjhbccdoaaGreatRows
import Derived.WalkSpells
import Derived.WalkLawsBesides
import Derived.Outline
import Derived.IntWalk
import Derived.Deep.LoopGhost
import Derived.Handy
import Derived.Deep.RegionWith
import Derived.Deep.RegionHeld3
import Derived.BigQuiet
import Derived.Shelf.SlSortCmp.NoneTotal
import Derived.RegionTactic
import Derived.Orders
import Derived.Sort.Grow
import Derived.ProofKit
import Derived.SizedLaws
import Derived.Carry
import Derived.Laws.EntriesVeiled
import Derived.OrdersIn
import Derived.TacticsInMore
import Derived.LoopNIn
import Derived.LoopIn
import Derived.RangeFuncNested
import Derived.RangeFuncBound
import Derived.RangeFuncCalls
import Derived.RangeFuncLeaves
import Derived.RangeFuncFrom
import Derived.OwnWalkIn
import Derived.Test.YtjlnnmjhbccdoaaGreatBk00
import Derived.Test.YtjlnnmjhbccdoaaGreatBk01
import Derived.Test.YtjlnnmjhbccdoaaGreatBk02
import Derived.Test.YtjlnnmjhbccdoaaGreatBk03
import Derived.Test.YtjlnnmjhbccdoaaGreatBk04
import Derived.Test.YtjlnnmjhbccdoaaGreatBk05
import Derived.Test.YtjlnnmjhbccdoaaGreatBk06
import Derived.Test.YtjlnnmjhbccdoaaGreatBk07
import Derived.Test.YtjlnnmjhbccdoaaGreatBk08
import Derived.Test.YtjlnnmjhbccdoaaGreatBk09
import Derived.Test.YtjlnnmjhbccdoaaGreatBk10
import Derived.Test.YtjlnnmjhbccdoaaGreatBk11
import Derived.Test.YtjlnnmjhbccdoaaGreatBk12
import Derived.Test.YtjlnnmjhbccdoaaGreatBk13
import Derived.Test.YtjlnnmjhbccdoaaGreatBk14
import Derived.Test.YtjlnnmjhbccdoaaGreatBk15
import Derived.Test.YtjlnnmjhbccdoaaGreatBk16
import Derived.Test.YtjlnnmjhbccdoaaGreatBk17
import Derived.Test.YtjlnnmjhbccdoaaGreatBk18
import Derived.Test.YtjlnnmjhbccdoaaGreatBk19
import Derived.Test.YtjlnnmjhbccdoaaGreatBk20
import Derived.Test.YtjlnnmjhbccdoaaGreatBk21
import Derived.Test.YtjlnnmjhbccdoaaGreatBk22
import Derived.Test.YtjlnnmjhbccdoaaGreatBk23
import Derived.Test.YtjlnnmjhbccdoaaGreatBk24
import Derived.Test.YtjlnnmjhbccdoaaGreatBk25
import Derived.Test.YtjlnnmjhbccdoaaGreatBk26
import Derived.Test.YtjlnnmjhbccdoaaGreatBk27
import Derived.Test.YtjlnnmjhbccdoaaGreatBk28
import Derived.Test.YtjlnnmjhbccdoaaGreatBk29
import Derived.Test.YtjlnnmjhbccdoaaGreatBk30
import Derived.Test.YtjlnnmjhbccdoaaGreatBn00
import Derived.Test.YtjlnnmjhbccdoaaGreatBn01
set_option maxRecDepth 20000
namespace Go.Proofs.YtjlnnmjhbccdoaaGreat
open Go Go.RowKit
theorem nil64 (w : World) : Calls Tryz.prog 64 #[.slice none 0 0] w fun e w' => e = .returned (.slice none 0 0) ∧ Below w.heap.size w w' := by
  have qq : ∀ (w : World) (a : Option Addr) (n c n' c' : Nat), (binOp .eql 22 (.slice a n c) (.slice none n' c')).run Tryz.prog w = .ok (.bool a.isNone) w := fun w a n c n' c' => Lib.run_eql_slice_nil w _ _ a n c n' c' Tryz.underlying22
  go_enter Tryz.func64, Tryz.ntmps64
  go_wp2_with fail
  go_ret
  exact ⟨rfl, Below.refl _ _⟩
theorem nil65 (w : World) : Calls Tryz.prog 65 #[.slice none 0 0] w fun e w' => e = .returned (.slice none 0 0) ∧ Below w.heap.size w w' := by
  have qq : ∀ (w : World) (a : Option Addr) (n c n' c' : Nat), (binOp .eql 23 (.slice a n c) (.slice none n' c')).run Tryz.prog w = .ok (.bool a.isNone) w := fun w a n c n' c' => Lib.run_eql_slice_nil w _ _ a n c n' c' Tryz.underlying23
  go_enter Tryz.func65, Tryz.ntmps65
  go_wp2_with fail
  go_ret
  exact ⟨rfl, Below.refl _ _⟩
theorem nil66 (w : World) : Calls Tryz.prog 66 #[.slice none 0 0] w fun e w' => e = .returned (.slice none 0 0) ∧ Below w.heap.size w w' := by
  have qq : ∀ (w : World) (a : Option Addr) (n c n' c' : Nat), (binOp .eql 24 (.slice a n c) (.slice none n' c')).run Tryz.prog w = .ok (.bool a.isNone) w := fun w a n c n' c' => Lib.run_eql_slice_nil w _ _ a n c n' c' Tryz.underlying24
  go_enter Tryz.func66, Tryz.ntmps66
  go_wp2_with fail
  go_ret
  exact ⟨rfl, Below.refl _ _⟩
theorem nil67 (w : World) : Calls Tryz.prog 67 #[.slice none 0 0] w fun e w' => e = .returned (.slice none 0 0) ∧ Below w.heap.size w w' := by
  have qq : ∀ (w : World) (a : Option Addr) (n c n' c' : Nat), (binOp .eql 25 (.slice a n c) (.slice none n' c')).run Tryz.prog w = .ok (.bool a.isNone) w := fun w a n c n' c' => Lib.run_eql_slice_nil w _ _ a n c n' c' Tryz.underlying25
  go_enter Tryz.func67, Tryz.ntmps67
  go_wp2_with fail
  go_ret
  exact ⟨rfl, Below.refl _ _⟩
/-- What an operation keeps that writes by p: lists; that blocks hold views; the blocks of views, but for p's. -/
def Vx (p : Value) (W W' : World) : Prop := Kp W W' ∧ (∀ X, IsV W X → IsV W' X) ∧ ∀ X, Value.pointer (some ⟨X, 0, none⟩) ≠ p → IsV W X → W'.heap[X]? = W.heap[X]?
theorem vx_refl (p : Value) (W : World) : Vx p W W := ⟨kp_refl _, fun _ h => h, fun _ _ _ => rfl⟩
theorem vx_of {p : Value} {W W' : World} (hb : Below W.heap.size W W') : Vx p W W' := ⟨kp_below hb, fun _ ⟨a, b, c, d, e, h⟩ => ⟨a, b, c, d, e, vbox_below h hb⟩, fun X _ ⟨_, _, _, _, _, h⟩ => hb.block X (vbox_lt h)⟩
theorem vx_put {W : World} {X : Nat} {z0 z1 z2 z3 z4 : SL} (hz : VBox W X z0 z1 z2 z3 z4) (s0 s1 s2 s3 s4 : SL) : Vx (.pointer (some ⟨X, 0, none⟩)) W (W.setCells X 0 [.slice s0.1 s0.2.1 s0.2.2, .slice s1.1 s1.2.1 s1.2.2, .slice s2.1 s2.2.1 s2.2.2, .slice s3.1 s3.2.1 s3.2.2, .slice s4.1 s4.2.1 s4.2.2]) :=
  have hk := vk_put hz s0 s1 s2 s3 s4
  ⟨hk.1, hk.2.1, fun _ hne _ => heap_setCells _ _ _ _ _ (fun e => hne (by rw [e]))⟩
theorem PV.keepX {b0 : Nat} {w w' : World} {v p : Value} (h : PV w v b0) (hb : Vx p w w') : PV w' v b0 := by
  obtain ⟨X, h1, h2, h3, h4⟩ := h
  exact ⟨X, h1, h2, Nat.lt_of_lt_of_le h3 hb.1.1, hb.2.1 X h4⟩
/-- A pointer to a block that holds a view of nothing. -/
def HE (w : World) (v : Value) : Prop := ∃ X, v = .pointer (some ⟨X, 0, none⟩) ∧ VBox w X (none, 0, 0) (none, 0, 0) (none, 0, 0) (none, 0, 0) (none, 0, 0)
theorem HE.keep {w w' : World} {v p : Value} (h : HE w v) (hb : Vx p w w') (hp : v ≠ p) : HE w' v := by
  obtain ⟨X, rfl, h2⟩ := h
  exact ⟨X, rfl, (hb.2.2 X hp ⟨_, _, _, _, _, h2⟩).trans h2⟩
/-- What stands of the world. -/
structure CpG (w : World) (b0 : Nat) (W : World) : Prop where
  x : VBox W w.heap.size (none, 0, 0) (none, 0, 0) (none, 0, 0) (none, 0, 0) (none, 0, 0)
  z : VBox W (w.heap.size + 1) (none, 0, 0) (none, 0, 0) (none, 0, 0) (none, 0, 0) (none, 0, 0)
  l : w.heap.size + 1 < b0
  size : b0 ≤ W.heap.size
  below : Below w.heap.size w W
theorem CpG.step {w : World} {b0 : Nat} {W W' : World} (h : CpG w b0 W) (hb : Below W.heap.size W W') : CpG w b0 W' := ⟨vbox_below h.x hb, vbox_below h.z hb, h.l, Nat.le_trans h.size hb.size, below_after h.below hb (Nat.le_refl _)⟩
theorem CpG.put {w : World} {b0 X : Nat} {W : World} (h : CpG w b0 W) (hX : b0 ≤ X) {z0 z1 z2 z3 z4 : SL} (_hz : VBox W X z0 z1 z2 z3 z4) {vs : List Value} : CpG w b0 (W.setCells X 0 vs) :=
  ⟨vbox_other h.x (by have := h.l; omega) _, vbox_other h.z (by have := h.l; omega) _, h.l, by rw [size_setCells]; exact h.size, below_setCells h.below (by have := h.l; omega) 0 _⟩
/-- The slots of the region's operations. -/
def cpDs : List (Option Tmp) := [some 6, some 7, some 8, some 9, some 10, some 11, some 12, some 13, some 14, some 15, some 16, some 17, some 18, some 19, some 20, some 21, some 3, none]
/-- What is said of them. -/
def cpF (x b0 : Nat) : Nat → Value → World → Prop := fun i v w => match i with
  | 0 => v = .pointer (some ⟨x, 0, none⟩)
  | 1 => v = .slice none 0 0
  | 2 => v = .slice none 0 0
  | 3 => v = .pointer (some ⟨x, 1, none⟩)
  | 4 => v = .slice none 0 0
  | 5 => v = .slice none 0 0
  | 6 => v = .pointer (some ⟨x, 2, none⟩)
  | 7 => v = .slice none 0 0
  | 8 => v = .slice none 0 0
  | 9 => v = .pointer (some ⟨x, 3, none⟩)
  | 10 => v = .slice none 0 0
  | 11 => v = .slice none 0 0
  | 12 => v = .pointer (some ⟨x, 4, none⟩)
  | 13 => v = .slice none 0 0
  | 14 => v = .slice none 0 0
  | 15 => v = .agg #[.slice none 0 0, .slice none 0 0, .slice none 0 0, .slice none 0 0, .slice none 0 0]

  | 16 => PV w v b0
  | 17 => HE w v 
  | _ => True
theorem cpF_mono (x b0 : Nat) : ∀ i p v w w', cpF x b0 i v w → Vx p w w' → (i < cpDs.length → cpDs.getD i none = none → v ≠ p) → cpF x b0 i v w' := by
  intro i p v w w' h hb hp
  unfold cpF at h ⊢
  split at h
  all_goals first | exact h | exact PV.keepX h hb | exact HE.keep h hb (hp (by decide) rfl) | exact trivial
theorem cpF_nu (x b0 : Nat) : ∀ i v w, cpF x b0 i v w → i < cpDs.length → cpDs.getD i none = none → v ≠ undef := fun i v w h hi hn => by
  by_cases e : i = 17
  · subst e
    obtain ⟨X, rfl, _⟩ := (show HE w v from h)
    intro e
    cases e
  · exact absurd hn ((show ∀ k, k < 18 → k ≠ 17 → cpDs.getD k none ≠ none by decide) i hi e)
def cpFr (i : Nat) : Bool := i == 16
theorem cpF_fr (x b0 : Nat) : ∀ i v w, cpFr i = true → cpF x b0 i v w → OldP v w := by
  intro i v w h k
  unfold cpFr at h
  rw [beq_iff_eq] at h
  subst h
  obtain ⟨X, h1, _, h3, _⟩ := (show PV w v b0 from k)
  exact ⟨X, h1, h3⟩
set_option maxHeartbeats 8000000 in
theorem copyE (w : World) : Calls Tryz.prog 18 #[.agg #[.slice none 0 0, .slice none 0 0, .slice none 0 0, .slice none 0 0, .slice none 0 0]] w fun e w' => e = .returned (.agg #[.slice none 0 0, .slice none 0 0, .slice none 0 0, .slice none 0 0, .slice none 0 0]) ∧ Below w.heap.size w w' := by
  have q1 := below_one w (.cells #[.slice none 0 0, .slice none 0 0, .slice none 0 0, .slice none 0 0, .slice none 0 0] 27)
  have q2 := below_one (w.alloc (.cells #[.slice none 0 0, .slice none 0 0, .slice none 0 0, .slice none 0 0, .slice none 0 0] 27)) (.cells #[.slice none 0 0, .slice none 0 0, .slice none 0 0, .slice none 0 0, .slice none 0 0] 27)
  have G0 : Hid (CpG w ((w.alloc (.cells #[.slice none 0 0, .slice none 0 0, .slice none 0 0, .slice none 0 0, .slice none 0 0] 27)).alloc (.cells #[.slice none 0 0, .slice none 0 0, .slice none 0 0, .slice none 0 0, .slice none 0 0] 27)).heap.size ((w.alloc (.cells #[.slice none 0 0, .slice none 0 0, .slice none 0 0, .slice none 0 0, .slice none 0 0] 27)).alloc (.cells #[.slice none 0 0, .slice none 0 0, .slice none 0 0, .slice none 0 0, .slice none 0 0] 27))) := Lib.hid ⟨vbox_below (vbox_new w (none, 0, 0) (none, 0, 0) (none, 0, 0) (none, 0, 0) (none, 0, 0)) q2, by have h := vbox_new (w.alloc (.cells #[.slice none 0 0, .slice none 0 0, .slice none 0 0, .slice none 0 0, .slice none 0 0] 27)) (none, 0, 0) (none, 0, 0) (none, 0, 0) (none, 0, 0) (none, 0, 0); simp only [World.size_alloc] at h; exact h, by simp, Nat.le_refl _, below_after q1 q2 (Nat.le_refl _)⟩
  clear q1 q2
  go_enter Tryz.func18, Tryz.ntmps18
  go_wp2_with fail
  generalize hb0 : ((w.alloc (.cells #[.slice none 0 0, .slice none 0 0, .slice none 0 0, .slice none 0 0, .slice none 0 0] 27)).alloc (.cells #[.slice none 0 0, .slice none 0 0, .slice none 0 0, .slice none 0 0, .slice none 0 0] 27)).heap.size = b0 at *
  refine wp_region_dueT (R := Vx) (tgt := fun _ => 3) (tk := fun _ => 16) (fr := cpFr) (by kernel_rfl) cpDs (cpF w.heap.size b0) (CpG w b0) rfl (by kernel_rfl) (by kernel_rfl) (by kernel_rfl) (by kernel_rfl) (cpF_fr _ b0) (by kernel_rfl) (by kernel_rfl) (cpF_mono _ b0) (cpF_nu _ b0) (G0.out.step (below_drewN (n := 1) (Below.refl _ _))) ?_ ?_
  · clear G0 hb0
    refine AllDueT.cons (due_metT (.inl rfl) fun q w1 hG hold hf hap K hK => ?_) ?_
    · have f1 : q.tmps.getD 1 undef = .pointer (some ⟨w.heap.size, 0, none⟩) := hold 1 (by kernel_rfl)
      clear hf hold
      go_simp
      exact hK _ _ hG (vx_refl _ _) rfl (fun h => by cases h)
    refine AllDueT.cons (due_metT (.inl rfl) fun q w1 hG hold hf hap K hK => ?_) ?_
    · have f6 : q.tmps.getD 6 undef = .pointer (some ⟨w.heap.size, 0, none⟩) := hf 0 6 (by kernel_rfl) rfl
      have q6 := f6
      rw [Array.getD_eq_getD_getElem?] at q6
      obtain ⟨p0, p1, p2, p3, p4⟩ := vbox_cells hG.x
      dsimp only at p0 p1 p2 p3 p4
      clear hf hold
      go_simp
      exact hK _ _ hG (vx_refl _ _) rfl (fun h => by cases h)
    refine AllDueT.cons (due_metT (.inl rfl) fun q w1 hG hold hf hap K hK => ?_) ?_
    · have f7 : q.tmps.getD 7 undef = .slice none 0 0 := hf 1 7 (by kernel_rfl) rfl
      have q7 := f7
      rw [Array.getD_eq_getD_getElem?] at q7
      clear hf hold
      go_simp
      go_at_call 64
      (with_reducible refine (nil64 _).mono ?_)
      rintro e' w' ⟨rfl, h2⟩
      exact hK _ _ (hG.step h2) (vx_of h2) rfl (fun h => by cases h)
    refine AllDueT.cons (due_metT (.inl rfl) fun q w1 hG hold hf hap K hK => ?_) ?_
    · have f1 : q.tmps.getD 1 undef = .pointer (some ⟨w.heap.size, 0, none⟩) := hold 1 (by kernel_rfl)
      clear hf hold
      go_simp
      exact hK _ _ hG (vx_refl _ _) rfl (fun h => by cases h)
    refine AllDueT.cons (due_metT (.inl rfl) fun q w1 hG hold hf hap K hK => ?_) ?_
    · have f9 : q.tmps.getD 9 undef = .pointer (some ⟨w.heap.size, 1, none⟩) := hf 3 9 (by kernel_rfl) rfl
      have q9 := f9
      rw [Array.getD_eq_getD_getElem?] at q9
      obtain ⟨p0, p1, p2, p3, p4⟩ := vbox_cells hG.x
      dsimp only at p0 p1 p2 p3 p4
      clear hf hold
      go_simp
      exact hK _ _ hG (vx_refl _ _) rfl (fun h => by cases h)
    refine AllDueT.cons (due_metT (.inl rfl) fun q w1 hG hold hf hap K hK => ?_) ?_
    · have f10 : q.tmps.getD 10 undef = .slice none 0 0 := hf 4 10 (by kernel_rfl) rfl
      have q10 := f10
      rw [Array.getD_eq_getD_getElem?] at q10
      clear hf hold
      go_simp
      go_at_call 65
      (with_reducible refine (nil65 _).mono ?_)
      rintro e' w' ⟨rfl, h2⟩
      exact hK _ _ (hG.step h2) (vx_of h2) rfl (fun h => by cases h)
    refine AllDueT.cons (due_metT (.inl rfl) fun q w1 hG hold hf hap K hK => ?_) ?_
    · have f1 : q.tmps.getD 1 undef = .pointer (some ⟨w.heap.size, 0, none⟩) := hold 1 (by kernel_rfl)
      clear hf hold
      go_simp
      exact hK _ _ hG (vx_refl _ _) rfl (fun h => by cases h)
    refine AllDueT.cons (due_metT (.inl rfl) fun q w1 hG hold hf hap K hK => ?_) ?_
    · have f12 : q.tmps.getD 12 undef = .pointer (some ⟨w.heap.size, 2, none⟩) := hf 6 12 (by kernel_rfl) rfl
      have q12 := f12
      rw [Array.getD_eq_getD_getElem?] at q12
      obtain ⟨p0, p1, p2, p3, p4⟩ := vbox_cells hG.x
      dsimp only at p0 p1 p2 p3 p4
      clear hf hold
      go_simp
      exact hK _ _ hG (vx_refl _ _) rfl (fun h => by cases h)
    refine AllDueT.cons (due_metT (.inl rfl) fun q w1 hG hold hf hap K hK => ?_) ?_
    · have f13 : q.tmps.getD 13 undef = .slice none 0 0 := hf 7 13 (by kernel_rfl) rfl
      have q13 := f13
      rw [Array.getD_eq_getD_getElem?] at q13
      clear hf hold
      go_simp
      go_at_call 66
      (with_reducible refine (nil66 _).mono ?_)
      rintro e' w' ⟨rfl, h2⟩
      exact hK _ _ (hG.step h2) (vx_of h2) rfl (fun h => by cases h)
    refine AllDueT.cons (due_metT (.inl rfl) fun q w1 hG hold hf hap K hK => ?_) ?_
    · have f1 : q.tmps.getD 1 undef = .pointer (some ⟨w.heap.size, 0, none⟩) := hold 1 (by kernel_rfl)
      clear hf hold
      go_simp
      exact hK _ _ hG (vx_refl _ _) rfl (fun h => by cases h)
    refine AllDueT.cons (due_metT (.inl rfl) fun q w1 hG hold hf hap K hK => ?_) ?_
    · have f15 : q.tmps.getD 15 undef = .pointer (some ⟨w.heap.size, 3, none⟩) := hf 9 15 (by kernel_rfl) rfl
      have q15 := f15
      rw [Array.getD_eq_getD_getElem?] at q15
      obtain ⟨p0, p1, p2, p3, p4⟩ := vbox_cells hG.x
      dsimp only at p0 p1 p2 p3 p4
      clear hf hold
      go_simp
      exact hK _ _ hG (vx_refl _ _) rfl (fun h => by cases h)
    refine AllDueT.cons (due_metT (.inl rfl) fun q w1 hG hold hf hap K hK => ?_) ?_
    · have f16 : q.tmps.getD 16 undef = .slice none 0 0 := hf 10 16 (by kernel_rfl) rfl
      have q16 := f16
      rw [Array.getD_eq_getD_getElem?] at q16
      clear hf hold
      go_simp
      go_at_call 67
      (with_reducible refine (nil67 _).mono ?_)
      rintro e' w' ⟨rfl, h2⟩
      exact hK _ _ (hG.step h2) (vx_of h2) rfl (fun h => by cases h)
    refine AllDueT.cons (due_metT (.inl rfl) fun q w1 hG hold hf hap K hK => ?_) ?_
    · have f1 : q.tmps.getD 1 undef = .pointer (some ⟨w.heap.size, 0, none⟩) := hold 1 (by kernel_rfl)
      clear hf hold
      go_simp
      exact hK _ _ hG (vx_refl _ _) rfl (fun h => by cases h)
    refine AllDueT.cons (due_metT (.inl rfl) fun q w1 hG hold hf hap K hK => ?_) ?_
    · have f18 : q.tmps.getD 18 undef = .pointer (some ⟨w.heap.size, 4, none⟩) := hf 12 18 (by kernel_rfl) rfl
      have q18 := f18
      rw [Array.getD_eq_getD_getElem?] at q18
      obtain ⟨p0, p1, p2, p3, p4⟩ := vbox_cells hG.x
      dsimp only at p0 p1 p2 p3 p4
      clear hf hold
      go_simp
      exact hK _ _ hG (vx_refl _ _) rfl (fun h => by cases h)
    refine AllDueT.cons (due_metT (.inl rfl) fun q w1 hG hold hf hap K hK => ?_) ?_
    · have f19 : q.tmps.getD 19 undef = .slice none 0 0 := hf 13 19 (by kernel_rfl) rfl
      have q19 := f19
      rw [Array.getD_eq_getD_getElem?] at q19
      clear hf hold
      go_simp
      go_at_call 65
      (with_reducible refine (nil65 _).mono ?_)
      rintro e' w' ⟨rfl, h2⟩
      exact hK _ _ (hG.step h2) (vx_of h2) rfl (fun h => by cases h)
    refine AllDueT.cons (due_metT (.inl rfl) fun q w1 hG hold hf hap K hK => ?_) ?_
    · have f8 : q.tmps.getD 8 undef = .slice none 0 0 := hf 2 8 (by kernel_rfl) rfl
      have q8 := f8
      rw [Array.getD_eq_getD_getElem?] at q8
      have f11 : q.tmps.getD 11 undef = .slice none 0 0 := hf 5 11 (by kernel_rfl) rfl
      have q11 := f11
      rw [Array.getD_eq_getD_getElem?] at q11
      have f14 : q.tmps.getD 14 undef = .slice none 0 0 := hf 8 14 (by kernel_rfl) rfl
      have q14 := f14
      rw [Array.getD_eq_getD_getElem?] at q14
      have f17 : q.tmps.getD 17 undef = .slice none 0 0 := hf 11 17 (by kernel_rfl) rfl
      have q17 := f17
      rw [Array.getD_eq_getD_getElem?] at q17
      have f20 : q.tmps.getD 20 undef = .slice none 0 0 := hf 14 20 (by kernel_rfl) rfl
      have q20 := f20
      rw [Array.getD_eq_getD_getElem?] at q20
      clear hf hold
      go_simp
      exact hK _ _ hG (vx_refl _ _) rfl (fun h => by cases h)
    refine AllDueT.cons (due_metT (.inl rfl) fun q w1 hG hold hf hap K hK => ?_) ?_
    · clear hf hold
      go_simp
      have h2 := below_one w1 (.cells #[.slice none 0 0, .slice none 0 0, .slice none 0 0, .slice none 0 0, .slice none 0 0] 27)
      exact hK _ _ (hG.step h2) (vx_of h2) ⟨_, rfl, hG.size, by simp, (none, 0, 0), (none, 0, 0), (none, 0, 0), (none, 0, 0), (none, 0, 0), heap_alloc_new _ _⟩ (fun _ => ⟨_, rfl, Nat.le_refl _⟩)
    refine AllDueT.cons (due_metT (.inl rfl) fun q w1 hG hold hf hap K hK => ?_) ?_
    · have r3 : PV w1 (q.tmps.getD 3 undef) b0 := hf 16 3 (by kernel_rfl) rfl
      obtain ⟨x3, e3⟩ : ∃ x, q.tmps.getD 3 undef = x := ⟨_, rfl⟩
      rw [e3] at r3
      have q3 := e3
      rw [Array.getD_eq_getD_getElem?] at q3
      have f21 : q.tmps.getD 21 undef = .agg #[.slice none 0 0, .slice none 0 0, .slice none 0 0, .slice none 0 0, .slice none 0 0] := hf 15 21 (by kernel_rfl) rfl
      have q21 := f21
      rw [Array.getD_eq_getD_getElem?] at q21
      obtain ⟨Y, hY, hY0, hYs, z0, z1, z2, z3, z4, hz⟩ := r3
      subst hY
      obtain ⟨k0, k1, k2, k3, k4⟩ := vbox_cells hz
      obtain ⟨f0, f1, f2, f3, f5⟩ := vbox_free hz
      clear hf hold
      go_simp
      have hk := vx_put hz (none, 0, 0) (none, 0, 0) (none, 0, 0) (none, 0, 0) (none, 0, 0)
      refine hK undef _ (hG.put (vs := [.slice none 0 0, .slice none 0 0, .slice none 0 0, .slice none 0 0, .slice none 0 0]) hY0 hz) ?_ ?_ (fun h => by cases h)
      · show Vx (q.tmps.getD 3 undef) _ _
        rw [e3]
        exact hk
      · show HE _ (q.tmps.getD 3 undef)
        rw [e3]
        exact ⟨Y, rfl, vbox_set hz (none, 0, 0) (none, 0, 0) (none, 0, 0) (none, 0, 0) (none, 0, 0)⟩
    exact AllDueT.nil
  · intro ac w6 hG hd hs hold hf hdone hap
    obtain ⟨X, k3, hb⟩ : HE w6 (ac.tmps.getD 3 undef) := hdone 17 (by decide) rfl
    have k1 : ac.tmps.getD 1 undef = .pointer (some ⟨w.heap.size, 0, none⟩) := hold 1 (by kernel_rfl)
    have k2 : ac.tmps.getD 2 undef = .pointer (some ⟨w.heap.size + 1, 0, none⟩) := hold 2 (by kernel_rfl)
    have G6 := Lib.hid hG
    obtain ⟨p0, p1, p2, p3, p4⟩ := vbox_cells hb
    dsimp only at p0 p1 p2 p3 p4
    obtain ⟨z0, z1, z2, z3, z4⟩ := vbox_cells hG.z
    obtain ⟨f0, f1, f2, f3, f4⟩ := vbox_free hG.z
    dsimp only at z0 z1 z2 z3 z4
    have hE := (act_eta ac 40 hs).trans (show _ = (⟨#[ac.tmps.getD 0 undef, ac.tmps.getD 1 undef, ac.tmps.getD 2 undef, ac.tmps.getD 3 undef, ac.tmps.getD 4 undef, ac.tmps.getD 5 undef, ac.tmps.getD 6 undef, ac.tmps.getD 7 undef, ac.tmps.getD 8 undef, ac.tmps.getD 9 undef, ac.tmps.getD 10 undef, ac.tmps.getD 11 undef, ac.tmps.getD 12 undef, ac.tmps.getD 13 undef, ac.tmps.getD 14 undef, ac.tmps.getD 15 undef, ac.tmps.getD 16 undef, ac.tmps.getD 17 undef, ac.tmps.getD 18 undef, ac.tmps.getD 19 undef, ac.tmps.getD 20 undef, ac.tmps.getD 21 undef, ac.tmps.getD 22 undef, ac.tmps.getD 23 undef, ac.tmps.getD 24 undef, ac.tmps.getD 25 undef, ac.tmps.getD 26 undef, ac.tmps.getD 27 undef, ac.tmps.getD 28 undef, ac.tmps.getD 29 undef, ac.tmps.getD 30 undef, ac.tmps.getD 31 undef, ac.tmps.getD 32 undef, ac.tmps.getD 33 undef, ac.tmps.getD 34 undef, ac.tmps.getD 35 undef, ac.tmps.getD 36 undef, ac.tmps.getD 37 undef, ac.tmps.getD 38 undef, ac.tmps.getD 39 undef], []⟩ : Act) by rw [hd]; rfl)
    rw [k1, k2, k3] at hE
    clear hold hf hs hd hdone hap k1 k2 k3 hG hb G0
    generalize ac.tmps.getD 0 undef = u0 at hE
    generalize ac.tmps.getD 4 undef = u4 at hE
    generalize ac.tmps.getD 5 undef = u5 at hE
    generalize ac.tmps.getD 6 undef = u6 at hE
    generalize ac.tmps.getD 7 undef = u7 at hE
    generalize ac.tmps.getD 8 undef = u8 at hE
    generalize ac.tmps.getD 9 undef = u9 at hE
    generalize ac.tmps.getD 10 undef = u10 at hE
    generalize ac.tmps.getD 11 undef = u11 at hE
    generalize ac.tmps.getD 12 undef = u12 at hE
    generalize ac.tmps.getD 13 undef = u13 at hE
    generalize ac.tmps.getD 14 undef = u14 at hE
    generalize ac.tmps.getD 15 undef = u15 at hE
    generalize ac.tmps.getD 16 undef = u16 at hE
    generalize ac.tmps.getD 17 undef = u17 at hE
    generalize ac.tmps.getD 18 undef = u18 at hE
    generalize ac.tmps.getD 19 undef = u19 at hE
    generalize ac.tmps.getD 20 undef = u20 at hE
    generalize ac.tmps.getD 21 undef = u21 at hE
    generalize ac.tmps.getD 22 undef = u22 at hE
    generalize ac.tmps.getD 23 undef = u23 at hE
    generalize ac.tmps.getD 24 undef = u24 at hE
    generalize ac.tmps.getD 25 undef = u25 at hE
    generalize ac.tmps.getD 26 undef = u26 at hE
    generalize ac.tmps.getD 27 undef = u27 at hE
    generalize ac.tmps.getD 28 undef = u28 at hE
    generalize ac.tmps.getD 29 undef = u29 at hE
    generalize ac.tmps.getD 30 undef = u30 at hE
    generalize ac.tmps.getD 31 undef = u31 at hE
    generalize ac.tmps.getD 32 undef = u32 at hE
    generalize ac.tmps.getD 33 undef = u33 at hE
    generalize ac.tmps.getD 34 undef = u34 at hE
    generalize ac.tmps.getD 35 undef = u35 at hE
    generalize ac.tmps.getD 36 undef = u36 at hE
    generalize ac.tmps.getD 37 undef = u37 at hE
    generalize ac.tmps.getD 38 undef = u38 at hE
    generalize ac.tmps.getD 39 undef = u39 at hE
    subst hE
    go_wp2_with fail
    go_loop [25] (fun s => s = .int .i64 0) (fun _ => 0)
    case atStart => exact rfl
    case round =>
      obtain rfl := hrel
      go_wp2_with fail
      obtain ⟨c0, c1, c2, c3, c4⟩ := vbox_cells (vbox_set G6.out.z (none, 0, 0) (none, 0, 0) (none, 0, 0) (none, 0, 0) (none, 0, 0))
      dsimp only at c0 c1 c2 c3 c4
      refine bodyPost_ret (v := .agg #[.slice none 0 0, .slice none 0 0, .slice none 0 0, .slice none 0 0, .slice none 0 0]) (by simp [results, Tryz.results18, go_sem, c0, c1, c2, c3, c4]) rfl ?_
      exact ⟨rfl, below_setCells G6.out.below (by omega) 0 [.slice none 0 0, .slice none 0 0, .slice none 0 0, .slice none 0 0, .slice none 0 0]⟩
end Go.Proofs.YtjlnnmjhbccdoaaGreat
namespace Go.Proofs.YtjlnnmjhbccdoaaGreat
open Go Go.RowKit
abbrev emV : Vw := ⟨[], [], [], [], []⟩
theorem em_at (w : World) : VAt w (.agg #[.slice none 0 0, .slice none 0 0, .slice none 0 0, .slice none 0 0, .slice none 0 0]) emV := vAt_of (Rcs.nil _) (Ids.nil _) (RowsAt.nil _) (Rcs.nil _) (Ids.nil _)
theorem em_fit : Fit 1000 emV := ⟨by decide, by decide, by decide, by decide, by decide, by decide⟩
theorem stageMay0 (w : World) : Calls Tryz.prog 57 #[.int .u8 0] w fun e w' => e = .returned (.bool false) ∧ Below w.heap.size w w' := by
  go_enter Tryz.func57, Tryz.ntmps57
  go_wp2_with fail
  go_ret
  exact ⟨rfl, Below.refl _ _⟩
theorem two_views (w : World) : VBox ((w.alloc (.cells #[.slice none 0 0, .slice none 0 0, .slice none 0 0, .slice none 0 0, .slice none 0 0] 27)).alloc (.cells #[.slice none 0 0, .slice none 0 0, .slice none 0 0, .slice none 0 0, .slice none 0 0] 27)) w.heap.size (none, 0, 0) (none, 0, 0) (none, 0, 0) (none, 0, 0) (none, 0, 0) ∧ VBox ((w.alloc (.cells #[.slice none 0 0, .slice none 0 0, .slice none 0 0, .slice none 0 0, .slice none 0 0] 27)).alloc (.cells #[.slice none 0 0, .slice none 0 0, .slice none 0 0, .slice none 0 0, .slice none 0 0] 27)) (w.heap.size + 1) (none, 0, 0) (none, 0, 0) (none, 0, 0) (none, 0, 0) (none, 0, 0) ∧ Below w.heap.size w ((w.alloc (.cells #[.slice none 0 0, .slice none 0 0, .slice none 0 0, .slice none 0 0, .slice none 0 0] 27)).alloc (.cells #[.slice none 0 0, .slice none 0 0, .slice none 0 0, .slice none 0 0, .slice none 0 0] 27)) := by
  have q1 := below_one w (.cells #[.slice none 0 0, .slice none 0 0, .slice none 0 0, .slice none 0 0, .slice none 0 0] 27)
  have q2 := below_one (w.alloc (.cells #[.slice none 0 0, .slice none 0 0, .slice none 0 0, .slice none 0 0, .slice none 0 0] 27)) (.cells #[.slice none 0 0, .slice none 0 0, .slice none 0 0, .slice none 0 0, .slice none 0 0] 27)
  refine ⟨vbox_below (vbox_new w (none, 0, 0) (none, 0, 0) (none, 0, 0) (none, 0, 0) (none, 0, 0)) q2, ?_, below_after q1 q2 (Nat.le_refl _)⟩
  have h := vbox_new (w.alloc (.cells #[.slice none 0 0, .slice none 0 0, .slice none 0 0, .slice none 0 0, .slice none 0 0] 27)) (none, 0, 0) (none, 0, 0) (none, 0, 0) (none, 0, 0) (none, 0, 0)
  simp only [World.size_alloc] at h
  exact h
theorem vbox_two {w : World} {g : Nat} (h : VBox w g (none, 0, 0) (none, 0, 0) (none, 0, 0) (none, 0, 0) (none, 0, 0)) (A : Option Addr) (n c : Nat) : VBox (w.setCell ⟨g, 2, none⟩ (.slice A n c)) g (none, 0, 0) (none, 0, 0) (A, n, c) (none, 0, 0) (none, 0, 0) := by
  unfold VBox at *
  simp [World.setCell, Array.getElem?_modify, h]
theorem heap_setCell {w : World} {x g i : Nat} {v : Value} (hx : g ≠ x) : (w.setCell ⟨x, i, none⟩ v).heap[g]? = w.heap[g]? := by
  simp [World.setCell, Array.getElem?_modify]
  intro e
  exact absurd e.symm hx
theorem vbox_apart {w : World} {g x : Nat} {a b c d e : SL} (h : VBox w g a b c d e) (hx : g ≠ x) (i : Nat) (v : Value) : VBox (w.setCell ⟨x, i, none⟩ v) g a b c d e := (heap_setCell hx).trans h
theorem below_two_set {b0 : Nat} {w W : World} {g : Nat} (h : Below b0 w W) (hg : b0 ≤ g) (i : Nat) (v : Value) : Below b0 w (W.setCell ⟨g, i, none⟩ v) := h.setCell hg _
theorem kp_two {w : World} {g : Nat} {a b c d e : SL} (h : VBox w g a b c d e) (A : Option Addr) (n k : Nat) : Kp w (w.setCell ⟨g, 2, none⟩ (.slice A n k)) := by
  refine ⟨by simp [World.setCell], fun x y hxy ⟨kk, m, hc⟩ u hu => ?_⟩
  by_cases e : x.block = g
  · exfalso
    unfold VBox at h
    rw [← e] at h
    unfold World.cell? at hc
    rw [h] at hc
    simp at hc
    have hm := List.mem_of_getElem? hc.2
    simp at hm
  · rw [World.cell?_of_block (heap_setCell (fun e2 => e (hxy.trans e2)))]
    exact hu
set_option maxHeartbeats 2000000 in
theorem putC1 (w : World) (g1 g2 : Nat) (h1 : Box w g1 0 0) (h2 : MBox w g2 1 1 3 0) :
    Calls Tryz.prog 55 #[.agg #[.slice none 0 0, .slice none 0 0, .slice none 0 0, .slice none 0 0, .slice none 0 0], .pointer (some ⟨g1, 0, none⟩), .pointer (some ⟨g2, 0, none⟩)] w fun e w' => e = .returned (.tuple #[.agg #[.slice none 0 0, .slice none 0 0, .slice none 0 0, .slice none 0 0, .slice none 0 0], .int .i64 4]) ∧ Below w.heap.size w w' := by
  obtain ⟨x1, x2, xb⟩ := two_views w
  have X1 := Lib.hid x1
  have X2 := Lib.hid x2
  have XB := Lib.hid xb
  have B1 := Lib.hid (box_below h1 xb)
  have M1 := Lib.hid (mbox_below h2 xb)
  clear x1 x2 xb h1 h2
  obtain ⟨p0, p1, p2, p3, p4⟩ := vbox_cells X1.out
  dsimp only at p0 p1 p2 p3 p4
  obtain ⟨b1, b2⟩ := box_cells B1.out
  obtain ⟨m1, m2, m3, m4⟩ := mbox_cells M1.out
  go_enter Tryz.func55, Tryz.ntmps55
  go_wp2_with fail
  (with_reducible refine (may_any 0 0 _).mono ?_)
  rw [show vidROW 0 0 = false from by decide]
  rintro e w3 ⟨rfl, hb⟩
  have Y31 := Lib.hid (vbox_below X1.out hb)
  have Y32 := Lib.hid (vbox_below X2.out hb)
  have Y3B := Lib.hid (below_after XB.out hb (Nat.le_refl _))
  have B3 := Lib.hid (box_below B1.out hb)
  have M3 := Lib.hid (mbox_below M1.out hb)
  clear hb p0 p1 p2 p3 p4 b1 b2 m1 m2 m3 m4
  obtain ⟨p0, p1, p2, p3, p4⟩ := vbox_cells Y31.out
  dsimp only at p0 p1 p2 p3 p4
  obtain ⟨b1, b2⟩ := box_cells B3.out
  obtain ⟨m1, m2, m3, m4⟩ := mbox_cells M3.out
  have Y2 := Y32
  have YB := Y3B
  obtain ⟨z0, z1, z2, z3, z4⟩ := vbox_cells Y2.out
  obtain ⟨f0, f1, f2, f3, f4⟩ := vbox_free Y2.out
  dsimp only at z0 z1 z2 z3 z4
  go_wp2_with fail
  obtain ⟨c0, c1, c2, c3, c4⟩ := vbox_cells (vbox_set Y2.out (none, 0, 0) (none, 0, 0) (none, 0, 0) (none, 0, 0) (none, 0, 0))
  dsimp only at c0 c1 c2 c3 c4
  refine bodyPost_ret (v := .tuple #[.agg #[.slice none 0 0, .slice none 0 0, .slice none 0 0, .slice none 0 0, .slice none 0 0], .int .i64 4]) (by simp [results, Tryz.results55, go_sem, c0, c1, c2, c3, c4]) rfl ?_
  exact ⟨rfl, below_setCells YB.out (by omega) 0 [.slice none 0 0, .slice none 0 0, .slice none 0 0, .slice none 0 0, .slice none 0 0]⟩
set_option maxHeartbeats 2000000 in
theorem putC2 (w : World) (g1 g2 : Nat) (h1 : Box w g1 1 1) (h2 : MBox w g2 1 1 0 0) :
    Calls Tryz.prog 55 #[.agg #[.slice none 0 0, .slice none 0 0, .slice none 0 0, .slice none 0 0, .slice none 0 0], .pointer (some ⟨g1, 0, none⟩), .pointer (some ⟨g2, 0, none⟩)] w fun e w' => e = .returned (.tuple #[.agg #[.slice none 0 0, .slice none 0 0, .slice none 0 0, .slice none 0 0, .slice none 0 0], .int .i64 4]) ∧ Below w.heap.size w w' := by
  obtain ⟨x1, x2, xb⟩ := two_views w
  have X1 := Lib.hid x1
  have X2 := Lib.hid x2
  have XB := Lib.hid xb
  have B1 := Lib.hid (box_below h1 xb)
  have M1 := Lib.hid (mbox_below h2 xb)
  clear x1 x2 xb h1 h2
  obtain ⟨p0, p1, p2, p3, p4⟩ := vbox_cells X1.out
  dsimp only at p0 p1 p2 p3 p4
  obtain ⟨b1, b2⟩ := box_cells B1.out
  obtain ⟨m1, m2, m3, m4⟩ := mbox_cells M1.out
  go_enter Tryz.func55, Tryz.ntmps55
  go_wp2_with fail
  (with_reducible refine (may_any 1 1 _).mono ?_)
  rw [show vidROW 1 1 = true from by decide]
  rintro e w3 ⟨rfl, hb⟩
  have Y31 := Lib.hid (vbox_below X1.out hb)
  have Y32 := Lib.hid (vbox_below X2.out hb)
  have Y3B := Lib.hid (below_after XB.out hb (Nat.le_refl _))
  have B3 := Lib.hid (box_below B1.out hb)
  have M3 := Lib.hid (mbox_below M1.out hb)
  clear hb p0 p1 p2 p3 p4 b1 b2 m1 m2 m3 m4
  obtain ⟨p0, p1, p2, p3, p4⟩ := vbox_cells Y31.out
  dsimp only at p0 p1 p2 p3 p4
  obtain ⟨b1, b2⟩ := box_cells B3.out
  obtain ⟨m1, m2, m3, m4⟩ := mbox_cells M3.out
  go_wp2_with fail
  (with_reducible refine (may_any 1 1 _).mono ?_)
  rw [show vidROW 1 1 = true from by decide]
  rintro e w4 ⟨rfl, hb⟩
  have Y41 := Lib.hid (vbox_below Y31.out hb)
  have Y42 := Lib.hid (vbox_below Y32.out hb)
  have Y4B := Lib.hid (below_after Y3B.out hb (Nat.le_refl _))
  have B4 := Lib.hid (box_below B3.out hb)
  have M4 := Lib.hid (mbox_below M3.out hb)
  clear hb p0 p1 p2 p3 p4 b1 b2 m1 m2 m3 m4
  obtain ⟨p0, p1, p2, p3, p4⟩ := vbox_cells Y41.out
  dsimp only at p0 p1 p2 p3 p4
  obtain ⟨b1, b2⟩ := box_cells B4.out
  obtain ⟨m1, m2, m3, m4⟩ := mbox_cells M4.out
  go_wp2_with fail
  (with_reducible refine (stageMay0 _).mono ?_)
  rintro e w5 ⟨rfl, hb⟩
  have Y51 := Lib.hid (vbox_below Y41.out hb)
  have Y2 := Lib.hid (vbox_below Y42.out hb)
  have YB := Lib.hid (below_after Y4B.out hb (Nat.le_refl _))
  clear hb p0 p1 p2 p3 p4 b1 b2 m1 m2 m3 m4
  obtain ⟨p0, p1, p2, p3, p4⟩ := vbox_cells Y51.out
  dsimp only at p0 p1 p2 p3 p4
  obtain ⟨z0, z1, z2, z3, z4⟩ := vbox_cells Y2.out
  obtain ⟨f0, f1, f2, f3, f4⟩ := vbox_free Y2.out
  dsimp only at z0 z1 z2 z3 z4
  go_wp2_with fail
  obtain ⟨c0, c1, c2, c3, c4⟩ := vbox_cells (vbox_set Y2.out (none, 0, 0) (none, 0, 0) (none, 0, 0) (none, 0, 0) (none, 0, 0))
  dsimp only at c0 c1 c2 c3 c4
  refine bodyPost_ret (v := .tuple #[.agg #[.slice none 0 0, .slice none 0 0, .slice none 0 0, .slice none 0 0, .slice none 0 0], .int .i64 4]) (by simp [results, Tryz.results55, go_sem, c0, c1, c2, c3, c4]) rfl ?_
  exact ⟨rfl, below_setCells YB.out (by omega) 0 [.slice none 0 0, .slice none 0 0, .slice none 0 0, .slice none 0 0, .slice none 0 0]⟩
set_option maxHeartbeats 2000000 in
theorem rowC (a i k : Int) (hk : setE [] (a, i) [] = ([], k)) (w : World) (g1 g2 : Nat) (h1 : Box w g1 a i) (h2 : One w g2 23 (.slice none 0 0)) :
    Calls Tryz.prog 61 #[.agg #[.slice none 0 0, .slice none 0 0, .slice none 0 0, .slice none 0 0, .slice none 0 0], .pointer (some ⟨g1, 0, none⟩), .pointer (some ⟨g2, 0, none⟩)] w fun e w' => ∃ A c, e = .returned (.tuple #[.agg #[.slice none 0 0, .slice none 0 0, .slice A 0 c, .slice none 0 0, .slice none 0 0], .int .i64 k]) ∧ RowsAt w' (.slice A 0 c) [] ∧ Below w.heap.size w w' := by
  have HC : Hid (∀ W, Calls Tryz.prog 62 #[.slice none 0 0, .agg #[.int .i64 a, .int .i64 i], .slice none 0 0] W fun e w' => ∃ A c, e = .returned (.tuple #[.slice A 0 c, .int .i64 k]) ∧ RowsAt w' (.slice A 0 c) [] ∧ Below W.heap.size W w') := Lib.hid fun W => by
    have := setRows_any (.slice none 0 0) (.slice none 0 0) [] a i [] W (RowsAt.nil W) (Ids.nil W) (by simp) (by simp) (by simp) (by simp)
    rw [hk] at this
    exact this.mono fun _ _ ⟨V, e1, e2, e3⟩ => by
      obtain ⟨A, c, rfl, _⟩ := id e2.shape
      exact ⟨A, c, e1, e2, e3⟩
  clear hk
  obtain ⟨x1, x2, xb⟩ := two_views w
  have X1 := Lib.hid x1
  have X2 := Lib.hid x2
  have XB := Lib.hid xb
  have B1 := Lib.hid (box_below h1 xb)
  have O1 := Lib.hid (one_below h2 xb)
  clear x1 x2 xb h1 h2
  obtain ⟨p0, p1, p2, p3, p4⟩ := vbox_cells X1.out
  dsimp only at p0 p1 p2 p3 p4
  obtain ⟨b1, b2⟩ := box_cells B1.out
  have o1 := one_cell O1.out
  go_enter Tryz.func61, Tryz.ntmps61
  go_wp2_with fail
  (with_reducible refine (HC.out _).mono ?_)
  rintro e w3 ⟨A, c, rfl, hr, hb⟩
  have Y1 := Lib.hid (vbox_below X1.out hb)
  have Y2 := Lib.hid (vbox_below X2.out hb)
  have YB := Lib.hid (below_after XB.out hb (Nat.le_refl _))
  have HR := Lib.hid hr
  clear hb hr p0 p1 p2 p3 p4 b1 b2 o1
  obtain ⟨p0, p1, p2, p3, p4⟩ := vbox_cells Y1.out
  obtain ⟨g0, g1', g2', g3, g4⟩ := vbox_free Y1.out
  dsimp only at p0 p1 p2 p3 p4
  have S1 := Lib.hid (vbox_two Y1.out A 0 c)
  have S2 := Lib.hid (vbox_apart Y2.out (x := w.heap.size) (by omega) 2 (.slice A 0 c))
  have SB := Lib.hid (below_two_set YB.out (Nat.le_refl w.heap.size) 2 (.slice A 0 c))
  have SR := Lib.hid (HR.out.kp (kp_two Y1.out A 0 c))
  obtain ⟨s0, s1, s2, s3, s4⟩ := vbox_cells S1.out
  obtain ⟨t0, t1, t2, t3, t4⟩ := vbox_cells S2.out
  obtain ⟨f0, f1, f2, f3, f4⟩ := vbox_free S2.out
  dsimp only at s0 s1 s2 s3 s4 t0 t1 t2 t3 t4
  go_wp2_with fail
  obtain ⟨c0, c1, c2, c3, c4⟩ := vbox_cells (vbox_set S2.out (none, 0, 0) (none, 0, 0) (A, 0, c) (none, 0, 0) (none, 0, 0))
  dsimp only at c0 c1 c2 c3 c4
  refine bodyPost_ret (v := .tuple #[.agg #[.slice none 0 0, .slice none 0 0, .slice A 0 c, .slice none 0 0, .slice none 0 0], .int .i64 k]) (by simp [results, Tryz.results61, go_sem, c0, c1, c2, c3, c4]) rfl ?_
  exact ⟨A, c, rfl, SR.out.kp (kp_set S2.out [.slice none 0 0, .slice none 0 0, .slice A 0 c, .slice none 0 0, .slice none 0 0]), below_setCells SB.out (by omega) 0 [.slice none 0 0, .slice none 0 0, .slice A 0 c, .slice none 0 0, .slice none 0 0]⟩
end Go.Proofs.YtjlnnmjhbccdoaaGreat
