/-
  The closures that tell whether an ID is removed by floors in order. No statement is proved in this text; it holds for every input that its premises let by.
-/
import Derived.Test.YtofanciaacdjfaaBin
import Derived.Test.YtofanciaacdjfaaRowMath
import Derived.Test.YtofanciaacdjfaaDel
namespace Go.Proofs.Ytofanciaacdjfaa
open Go Go.RowKit Sets RowSets
/-- The floors in order, in a box. -/
def FloorsAt (X : Nat) (s : List Id2) (A : Option Addr) (c : Nat) (W : World) : Prop := One W X 24 (.slice A s.length c) ∧ Ids W (.slice A s.length c) s
theorem FloorsAt.below {X : Nat} {s : List Id2} {A : Option Addr} {c : Nat} {W W' : World} (h : FloorsAt X s A c W) (hb : Below W.heap.size W W') : FloorsAt X s A c W' := ⟨one_below h.1 hb, h.2.below hb⟩
theorem rem_place {fl s : List Id2} (hs : Rises s) (hm : ∀ z, z ∈ s ↔ z ∈ fl) {x : Id2} {k : Nat} (h : PlaceI s x k) : rem fl x = if h : k < s.length then decide (s[k].1 = x.1) else false :=
  rem_next hs hm (fun i h1 h2 => h.2.1 i h1 h2) (fun i h1 h2 => h.2.2 i h1 h2)
set_option maxHeartbeats 2000000 in
theorem goneI_asks (X : Nat) (fl s : List Id2) (A : Option Addr) (c : Nat) (hs : Rises s) (hm : ∀ z, z ∈ s ↔ z ∈ fl) (hl : s.length ≤ 40000) : AsksI 33 #[.pointer (some ⟨X, 0, none⟩)] (fun x => rem fl x) (FloorsAt X s A c) where
  enters := fun args W => enters_fn Try.func33 (by kernel_rfl) rfl args W
  kept _ _ h hb := h.below hb
  call a i W hS := by
    have BX := Lib.hid (below_one W (.cells #[.int .i64 a, .int .i64 i] 23))
    have X0 := Lib.hid (box_new W a i)
    have F0 := Lib.hid (hS.below BX.out)
    have HP := Lib.hid fun k (h : PlaceI s (a, i) k) => rem_place hs hm h
    have HR := Lib.hid hs
    clear hS hm
    have f1 := one_cell F0.out.1
    obtain ⟨x1, x2⟩ := box_cells X0.out
    go_enter Try.func33, Try.ntmps33
    go_wp2_with fail
    refine (bin_any _ s a i _ F0.out.2 HR.out (by omega)).mono ?_
    rintro e w1 ⟨k, rfl, hp, hb⟩
    have F1 := Lib.hid (F0.out.below hb)
    have X1 := Lib.hid (box_below X0.out hb)
    have B1 := Lib.hid (below_after BX.out hb (Nat.le_refl _))
    have HE := Lib.hid (HP.out k hp)
    clear hp hb f1 x1 x2
    have f1 := one_cell F1.out.1
    obtain ⟨x1, x2⟩ := box_cells X1.out
    have i3 : (0 : Int) ≤ (k : Int) := by omega
    by_cases hk : k < s.length
    · have hd : decide ((k : Int) < (s.length : Int)) = true := decide_eq_true (by omega)
      have i4 : (k : Int) < (s.length : Int) := by omega
      obtain ⟨ad, rfl, c1, c2⟩ := F1.out.2.at_ (Below.refl _ _) hk
      have HE2 := Lib.hid (show rem fl (a, i) = decide (s[k].1 = a) by rw [HE.out, dif_pos hk])
      clear HE
      generalize s[k].1 = u at *
      generalize s[k].2 = v at *
      go_wp2_with fail
      go_quiet (fail)
      go_wp2_with fail
      refine bodyPost_ret (results_tmp rfl _ _ _) rfl ?_
      exact ⟨by show Ending.returned (.bool (u == a)) = _; rw [HE2.out]; rfl, below_drewN B1.out⟩
    · have hd : decide ((k : Int) < (s.length : Int)) = false := decide_eq_false (by omega)
      have HE2 := Lib.hid (show rem fl (a, i) = false by rw [HE.out, dif_neg hk])
      clear HE
      go_wp2_with fail
      go_quiet (fail)
      go_wp2_with fail
      go_ret
      exact ⟨ret_bool HE2.out.symm, below_drewN B1.out⟩
/-- The same of a row. -/
def FloorsW (X Y : Nat) (s : List Id2) (A : Option Addr) (c : Nat) (W : World) : Prop := One W Y 47 (.func (.func 33) #[] #[.pointer (some ⟨X, 0, none⟩)]) ∧ FloorsAt X s A c W
theorem FloorsW.below {X Y : Nat} {s : List Id2} {A : Option Addr} {c : Nat} {W W' : World} (h : FloorsW X Y s A c W) (hb : Below W.heap.size W W') : FloorsW X Y s A c W' := ⟨one_below h.1 hb, h.2.below hb⟩
theorem goneW_asks (X Y : Nat) (fl s : List Id2) (A : Option Addr) (c : Nat) (hs : Rises s) (hm : ∀ z, z ∈ s ↔ z ∈ fl) (hl : s.length ≤ 40000) : AsksW 37 #[.pointer (some ⟨Y, 0, none⟩)] (fun x => rem fl x) (FloorsW X Y s A c) where
  enters := fun args W => enters_fn Try.func37 (by kernel_rfl) rfl args W
  kept _ _ h hb := h.below hb
  call a i n B m k W hS := by
    have HI := Lib.hid (goneI_asks X fl s A c hs hm hl)
    have hK := HI.out.enters
    have BX := Lib.hid (below_one W (.cells #[.int .i64 a, .int .i64 i, .int .i64 n, .slice B m k] 26))
    have X0 := Lib.hid (wbox_new W a i n (.slice B m k))
    have F0 := Lib.hid (hS.below BX.out)
    have HC := Lib.hid fun W (h : FloorsAt X s A c W) => HI.out.call a i W h
    clear hS hm hs hl HI
    have f1 := one_cell F0.out.1
    obtain ⟨x1, x2, x3, x4⟩ := wbox_cells X0.out
    go_enter Try.func37, Try.ntmps37
    go_wp2_with fail
    refine (HC.out _ F0.out.2).mono ?_
    rintro e w1 ⟨rfl, hb⟩
    have B1 := Lib.hid (below_after BX.out hb (Nat.le_refl _))
    clear hb f1 x1 x2 x3 x4
    go_wp2_with fail
    go_ret
    exact ⟨rfl, B1.out⟩
end Go.Proofs.Ytofanciaacdjfaa
