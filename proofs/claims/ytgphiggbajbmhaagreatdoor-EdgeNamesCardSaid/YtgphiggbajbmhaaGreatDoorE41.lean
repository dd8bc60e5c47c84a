/-
  Carried over and put together: contracts of this program's functions, and plain facts. No statement is proved in this text.
-/
import Derived.Test.YtgphiggbajbmhaaGreatDoorRows
import Derived.Test.YtgphiggbajbmhaaGreatDoorTie
import Derived.Test.YtgphiggbajbmhaaGreatDoorCards
import Derived.ProofKit
import Derived.Carry
import Derived.LaidMore
import Derived.SevenTiedAt
import Derived.Stop.Joined
import Derived.OpenShut
import Derived.Lib.LaidTab
import Derived.Test.YtgphiggbajbmhaaGreatDoorE27
import Derived.Test.YtgphiggbajbmhaaGreatDoorE31
import Derived.Test.YtgphiggbajbmhaaGreatDoorE40
set_option maxRecDepth 20000
namespace Go.Proofs.YtgphiggbajbmhaaGreatDoor
open Go Go.RowKit
abbrev Nl := Option Addr × Nat
theorem n69 (A B : Nl) (w : World) : Calls Tryz.prog 69 #[.slice A.1 0 A.2, .slice B.1 0 B.2] w fun e w' => e = .returned (.bool true) ∧ Below w.heap.size w w' := by
 go_enter Tryz.func69, Tryz.ntmps69
 go_wp2_with fail
 go_loopw [5] (fun s5 wr => s5 = .int .i64 0 ∧ Hid (Below w.heap.size w wr)) (fun _ _ => 0)
 case atStart => exact ⟨rfl, Lib.hid (Below.refl _ _)⟩
 case round =>
  obtain ⟨rfl, HB⟩ := hrel
  go_wp2_with fail
  go_ret
  exact ⟨rfl, HB.out⟩
theorem n70 (A B : Nl) (w : World) : Calls Tryz.prog 70 #[.slice A.1 0 A.2, .slice B.1 0 B.2] w fun e w' => e = .returned (.bool true) ∧ Below w.heap.size w w' := by
 go_enter Tryz.func70, Tryz.ntmps70
 go_wp2_with fail
 go_loopw [5] (fun s5 wr => s5 = .int .i64 0 ∧ Hid (Below w.heap.size w wr)) (fun _ _ => 0)
 case atStart => exact ⟨rfl, Lib.hid (Below.refl _ _)⟩
 case round =>
  obtain ⟨rfl, HB⟩ := hrel
  go_wp2_with fail
  go_ret
  exact ⟨rfl, HB.out⟩
theorem n71 (A B : Nl) (w : World) : Calls Tryz.prog 71 #[.slice A.1 0 A.2, .slice B.1 0 B.2] w fun e w' => e = .returned (.bool false) ∧ Below w.heap.size w w' := by
 go_enter Tryz.func71, Tryz.ntmps71
 go_wp2_with fail
 go_loopw [5] (fun s5 wr => s5 = .int .i64 0 ∧ Hid (Below w.heap.size w wr)) (fun _ _ => 0)
 case atStart => exact ⟨rfl, Lib.hid (Below.refl _ _)⟩
 case round =>
  obtain ⟨rfl, HB⟩ := hrel
  go_wp2_with fail
  go_ret
  exact ⟨rfl, HB.out⟩
theorem n40 (A : Nl) (w : World) : Calls Tryz.prog 40 #[.slice A.1 0 A.2] w fun e w' => e = .returned (.slice none 0 0) ∧ Below w.heap.size w w' := by
 go_enter Tryz.func40, Tryz.ntmps40
 go_wp2_with fail
 go_loopw [3, 4] (fun s3 s4 wr => s3 = .slice none 0 0 ∧ s4 = .int .i64 0 ∧ Hid (Below w.heap.size w wr)) (fun _ _ _ => 0)
 case atStart => exact ⟨rfl, rfl, Lib.hid (Below.refl _ _)⟩
 case round =>
  obtain ⟨rfl, rfl, HB⟩ := hrel
  go_wp2_with fail
  go_ret
  exact ⟨rfl, HB.out⟩
theorem n38 (A B : Nl) (w : World) : Calls Tryz.prog 38 #[.slice A.1 0 A.2, .slice B.1 0 B.2] w fun e w' => e = .returned (.int .u8 1) ∧ Below w.heap.size w w' := by
 go_enter Tryz.func38, Tryz.ntmps38
 go_wp2_with fail
 refine (n71 A B _).mono ?_
 rintro e w1 ⟨rfl, hb⟩
 have B1 := Lib.hid (hb)
 clear hb
 go_wp2_with fail
 refine (n71 B A _).mono ?_
 rintro e w2 ⟨rfl, hb⟩
 have B2 := Lib.hid (below_after B1.out hb (Nat.le_refl _))
 clear hb
 go_wp2_with fail
 go_ret
 exact ⟨rfl, B2.out⟩
theorem n39 (w : World) : Calls Tryz.prog 39 #[.slice none 0 0, .slice none 0 0] w fun e w' => e = .returned (.bool true) ∧ Below w.heap.size w w' := by
 go_enter Tryz.func39, Tryz.ntmps39
 go_wp2_with fail
 go_loopw [5] (fun s5 wr => s5 = .int .i64 0 ∧ Hid (Below w.heap.size w wr)) (fun _ _ => 0)
 case atStart => exact ⟨rfl, Lib.hid (Below.refl _ _)⟩
 case round =>
  obtain ⟨rfl, HB⟩ := hrel
  go_wp2_with fail
  go_ret
  exact ⟨rfl, HB.out⟩
theorem n12 (A B : Nl) (w : World) : Calls Tryz.prog 12 #[.slice A.1 0 A.2, .slice B.1 0 B.2] w fun e w' => e = .returned (.bool true) ∧ Below w.heap.size w w' := by
 go_enter Tryz.func12, Tryz.ntmps12
 go_wp2_with fail
 refine (n40 A _).mono ?_
 rintro e w1 ⟨rfl, hb⟩
 have B1 := Lib.hid (hb)
 clear hb
 go_wp2_with fail
 refine (n40 B _).mono ?_
 rintro e w2 ⟨rfl, hb⟩
 have B2 := Lib.hid (below_after B1.out hb (Nat.le_refl _))
 clear hb
 go_wp2_with fail
 refine (n39 _).mono ?_
 rintro e w3 ⟨rfl, hb⟩
 have B3 := Lib.hid (below_after B2.out hb (Nat.le_refl _))
 clear hb
 go_wp2_with fail
 go_ret
 exact ⟨rfl, B3.out⟩
set_option maxHeartbeats 4000000 in
theorem n37 (aA bA cA dA eA aB bB cB dB eB : Nl) (w : World) : Calls Tryz.prog 37 #[.agg #[.slice aA.1 0 aA.2, .slice bA.1 0 bA.2, .slice cA.1 0 cA.2, .slice dA.1 0 dA.2, .slice eA.1 0 eA.2], .agg #[.slice aB.1 0 aB.2, .slice bB.1 0 bB.2, .slice cB.1 0 cB.2, .slice dB.1 0 dB.2, .slice eB.1 0 eB.2]] w fun e w' => e = .returned (.bool true) ∧ Below w.heap.size w w' := by
 have q1 := below_one w (.cells #[.slice aA.1 0 aA.2, .slice bA.1 0 bA.2, .slice cA.1 0 cA.2, .slice dA.1 0 dA.2, .slice eA.1 0 eA.2] 27)
 have q2 := below_one (w.alloc (.cells #[.slice aA.1 0 aA.2, .slice bA.1 0 bA.2, .slice cA.1 0 cA.2, .slice dA.1 0 dA.2, .slice eA.1 0 eA.2] 27)) (.cells #[.slice aB.1 0 aB.2, .slice bB.1 0 bB.2, .slice cB.1 0 cB.2, .slice dB.1 0 dB.2, .slice eB.1 0 eB.2] 27)
 have QQ := Lib.hid (below_after q1 q2 (Nat.le_refl _))
 have X1 : Hid (VBox ((w.alloc (.cells #[.slice aA.1 0 aA.2, .slice bA.1 0 bA.2, .slice cA.1 0 cA.2, .slice dA.1 0 dA.2, .slice eA.1 0 eA.2] 27)).alloc (.cells #[.slice aB.1 0 aB.2, .slice bB.1 0 bB.2, .slice cB.1 0 cB.2, .slice dB.1 0 dB.2, .slice eB.1 0 eB.2] 27)) w.heap.size (aA.1, 0, aA.2) (bA.1, 0, bA.2) (cA.1, 0, cA.2) (dA.1, 0, dA.2) (eA.1, 0, eA.2)) := Lib.hid (vbox_below (vbox_new w (aA.1, 0, aA.2) (bA.1, 0, bA.2) (cA.1, 0, cA.2) (dA.1, 0, dA.2) (eA.1, 0, eA.2)) q2)
 have X2 : Hid (VBox ((w.alloc (.cells #[.slice aA.1 0 aA.2, .slice bA.1 0 bA.2, .slice cA.1 0 cA.2, .slice dA.1 0 dA.2, .slice eA.1 0 eA.2] 27)).alloc (.cells #[.slice aB.1 0 aB.2, .slice bB.1 0 bB.2, .slice cB.1 0 cB.2, .slice dB.1 0 dB.2, .slice eB.1 0 eB.2] 27)) (w.heap.size + 1) (aB.1, 0, aB.2) (bB.1, 0, bB.2) (cB.1, 0, cB.2) (dB.1, 0, dB.2) (eB.1, 0, eB.2)) := Lib.hid (by have h := vbox_new (w.alloc (.cells #[.slice aA.1 0 aA.2, .slice bA.1 0 bA.2, .slice cA.1 0 cA.2, .slice dA.1 0 dA.2, .slice eA.1 0 eA.2] 27)) (aB.1, 0, aB.2) (bB.1, 0, bB.2) (cB.1, 0, cB.2) (dB.1, 0, dB.2) (eB.1, 0, eB.2); simp only [World.size_alloc] at h; exact h)
 clear q1 q2
 go_enter Tryz.func37, Tryz.ntmps37
 go_upto_region 1 with fail
 generalize ((w.alloc (.cells #[.slice aA.1 0 aA.2, .slice bA.1 0 bA.2, .slice cA.1 0 cA.2, .slice dA.1 0 dA.2, .slice eA.1 0 eA.2] 27)).alloc (.cells #[.slice aB.1 0 aB.2, .slice bB.1 0 bB.2, .slice cB.1 0 cB.2, .slice dB.1 0 dB.2, .slice eB.1 0 eB.2] 27)) = w0 at *
 obtain ⟨u0, u1, u2, u3, u4⟩ := vbox_cells X1.out
 obtain ⟨y0, y1, y2, y3, y4⟩ := vbox_cells X2.out
 dsimp only at u0 u1 u2 u3 u4 y0 y1 y2 y3 y4
 go_wp2_with fail
 refine (n69 aA aB _).mono ?_
 rintro e w1 ⟨rfl, hb⟩
 have QQ := Lib.hid (below_after QQ.out hb (Nat.le_refl _))
 have X1 := Lib.hid (vbox_below X1.out hb)
 have X2 := Lib.hid (vbox_below X2.out hb)
 clear hb u0 u1 u2 u3 u4 y0 y1 y2 y3 y4
 obtain ⟨u0, u1, u2, u3, u4⟩ := vbox_cells X1.out
 obtain ⟨y0, y1, y2, y3, y4⟩ := vbox_cells X2.out
 dsimp only at u0 u1 u2 u3 u4 y0 y1 y2 y3 y4
 go_wp2_with fail
 refine (n12 bA bB _).mono ?_
 rintro e w2 ⟨rfl, hb⟩
 have QQ := Lib.hid (below_after QQ.out hb (Nat.le_refl _))
 have X1 := Lib.hid (vbox_below X1.out hb)
 have X2 := Lib.hid (vbox_below X2.out hb)
 clear hb u0 u1 u2 u3 u4 y0 y1 y2 y3 y4
 obtain ⟨u0, u1, u2, u3, u4⟩ := vbox_cells X1.out
 obtain ⟨y0, y1, y2, y3, y4⟩ := vbox_cells X2.out
 dsimp only at u0 u1 u2 u3 u4 y0 y1 y2 y3 y4
 go_wp2_with fail
 refine (n70 cA cB _).mono ?_
 rintro e w3 ⟨rfl, hb⟩
 have QQ := Lib.hid (below_after QQ.out hb (Nat.le_refl _))
 have X1 := Lib.hid (vbox_below X1.out hb)
 have X2 := Lib.hid (vbox_below X2.out hb)
 clear hb u0 u1 u2 u3 u4 y0 y1 y2 y3 y4
 obtain ⟨u0, u1, u2, u3, u4⟩ := vbox_cells X1.out
 obtain ⟨y0, y1, y2, y3, y4⟩ := vbox_cells X2.out
 dsimp only at u0 u1 u2 u3 u4 y0 y1 y2 y3 y4
 go_wp2_with fail
 go_ret
 exact ⟨rfl, QQ.out⟩
set_option maxHeartbeats 4000000 in
theorem n11 (aA bA cA dA eA aB bB cB dB eB : Nl) (w : World) : Calls Tryz.prog 11 #[.agg #[.slice aA.1 0 aA.2, .slice bA.1 0 bA.2, .slice cA.1 0 cA.2, .slice dA.1 0 dA.2, .slice eA.1 0 eA.2], .agg #[.slice aB.1 0 aB.2, .slice bB.1 0 bB.2, .slice cB.1 0 cB.2, .slice dB.1 0 dB.2, .slice eB.1 0 eB.2]] w fun e w' => e = .returned (.bool true) ∧ Below w.heap.size w w' := by
 have q1 := below_one w (.cells #[.slice aA.1 0 aA.2, .slice bA.1 0 bA.2, .slice cA.1 0 cA.2, .slice dA.1 0 dA.2, .slice eA.1 0 eA.2] 27)
 have q2 := below_one (w.alloc (.cells #[.slice aA.1 0 aA.2, .slice bA.1 0 bA.2, .slice cA.1 0 cA.2, .slice dA.1 0 dA.2, .slice eA.1 0 eA.2] 27)) (.cells #[.slice aB.1 0 aB.2, .slice bB.1 0 bB.2, .slice cB.1 0 cB.2, .slice dB.1 0 dB.2, .slice eB.1 0 eB.2] 27)
 have QQ := Lib.hid (below_after q1 q2 (Nat.le_refl _))
 have X1 : Hid (VBox ((w.alloc (.cells #[.slice aA.1 0 aA.2, .slice bA.1 0 bA.2, .slice cA.1 0 cA.2, .slice dA.1 0 dA.2, .slice eA.1 0 eA.2] 27)).alloc (.cells #[.slice aB.1 0 aB.2, .slice bB.1 0 bB.2, .slice cB.1 0 cB.2, .slice dB.1 0 dB.2, .slice eB.1 0 eB.2] 27)) w.heap.size (aA.1, 0, aA.2) (bA.1, 0, bA.2) (cA.1, 0, cA.2) (dA.1, 0, dA.2) (eA.1, 0, eA.2)) := Lib.hid (vbox_below (vbox_new w (aA.1, 0, aA.2) (bA.1, 0, bA.2) (cA.1, 0, cA.2) (dA.1, 0, dA.2) (eA.1, 0, eA.2)) q2)
 have X2 : Hid (VBox ((w.alloc (.cells #[.slice aA.1 0 aA.2, .slice bA.1 0 bA.2, .slice cA.1 0 cA.2, .slice dA.1 0 dA.2, .slice eA.1 0 eA.2] 27)).alloc (.cells #[.slice aB.1 0 aB.2, .slice bB.1 0 bB.2, .slice cB.1 0 cB.2, .slice dB.1 0 dB.2, .slice eB.1 0 eB.2] 27)) (w.heap.size + 1) (aB.1, 0, aB.2) (bB.1, 0, bB.2) (cB.1, 0, cB.2) (dB.1, 0, dB.2) (eB.1, 0, eB.2)) := Lib.hid (by have h := vbox_new (w.alloc (.cells #[.slice aA.1 0 aA.2, .slice bA.1 0 bA.2, .slice cA.1 0 cA.2, .slice dA.1 0 dA.2, .slice eA.1 0 eA.2] 27)) (aB.1, 0, aB.2) (bB.1, 0, bB.2) (cB.1, 0, cB.2) (dB.1, 0, dB.2) (eB.1, 0, eB.2); simp only [World.size_alloc] at h; exact h)
 clear q1 q2
 go_enter Tryz.func11, Tryz.ntmps11
 go_upto_region 1 with fail
 generalize ((w.alloc (.cells #[.slice aA.1 0 aA.2, .slice bA.1 0 bA.2, .slice cA.1 0 cA.2, .slice dA.1 0 dA.2, .slice eA.1 0 eA.2] 27)).alloc (.cells #[.slice aB.1 0 aB.2, .slice bB.1 0 bB.2, .slice cB.1 0 cB.2, .slice dB.1 0 dB.2, .slice eB.1 0 eB.2] 27)) = w0 at *
 obtain ⟨u0, u1, u2, u3, u4⟩ := vbox_cells X1.out
 obtain ⟨y0, y1, y2, y3, y4⟩ := vbox_cells X2.out
 dsimp only at u0 u1 u2 u3 u4 y0 y1 y2 y3 y4
 go_wp2_with fail
 refine (n37 aA bA cA dA eA aB bB cB dB eB _).mono ?_
 rintro e w1 ⟨rfl, hb⟩
 have QQ := Lib.hid (below_after QQ.out hb (Nat.le_refl _))
 have X1 := Lib.hid (vbox_below X1.out hb)
 have X2 := Lib.hid (vbox_below X2.out hb)
 clear hb u0 u1 u2 u3 u4 y0 y1 y2 y3 y4
 obtain ⟨u0, u1, u2, u3, u4⟩ := vbox_cells X1.out
 obtain ⟨y0, y1, y2, y3, y4⟩ := vbox_cells X2.out
 dsimp only at u0 u1 u2 u3 u4 y0 y1 y2 y3 y4
 go_wp2_with fail
 refine (n38 dA dB _).mono ?_
 rintro e w2 ⟨rfl, hb⟩
 have QQ := Lib.hid (below_after QQ.out hb (Nat.le_refl _))
 have X1 := Lib.hid (vbox_below X1.out hb)
 have X2 := Lib.hid (vbox_below X2.out hb)
 clear hb u0 u1 u2 u3 u4 y0 y1 y2 y3 y4
 obtain ⟨u0, u1, u2, u3, u4⟩ := vbox_cells X1.out
 obtain ⟨y0, y1, y2, y3, y4⟩ := vbox_cells X2.out
 dsimp only at u0 u1 u2 u3 u4 y0 y1 y2 y3 y4
 go_wp2_with fail
 go_ret
 exact ⟨rfl, QQ.out⟩
set_option maxHeartbeats 4000000 in
theorem n5 (aA bA cA dA eA aB bB cB dB eB : Nl) (w : World) : Calls Tryz.prog 5 #[.agg #[.slice aA.1 0 aA.2, .slice bA.1 0 bA.2, .slice cA.1 0 cA.2, .slice dA.1 0 dA.2, .slice eA.1 0 eA.2], .agg #[.slice aB.1 0 aB.2, .slice bB.1 0 bB.2, .slice cB.1 0 cB.2, .slice dB.1 0 dB.2, .slice eB.1 0 eB.2]] w fun e w' => e = .returned (.bool true) ∧ Below w.heap.size w w' := by
 have q1 := below_one w (.cells #[.slice aA.1 0 aA.2, .slice bA.1 0 bA.2, .slice cA.1 0 cA.2, .slice dA.1 0 dA.2, .slice eA.1 0 eA.2] 27)
 have q2 := below_one (w.alloc (.cells #[.slice aA.1 0 aA.2, .slice bA.1 0 bA.2, .slice cA.1 0 cA.2, .slice dA.1 0 dA.2, .slice eA.1 0 eA.2] 27)) (.cells #[.slice aB.1 0 aB.2, .slice bB.1 0 bB.2, .slice cB.1 0 cB.2, .slice dB.1 0 dB.2, .slice eB.1 0 eB.2] 27)
 have QQ := Lib.hid (below_after q1 q2 (Nat.le_refl _))
 have X1 : Hid (VBox ((w.alloc (.cells #[.slice aA.1 0 aA.2, .slice bA.1 0 bA.2, .slice cA.1 0 cA.2, .slice dA.1 0 dA.2, .slice eA.1 0 eA.2] 27)).alloc (.cells #[.slice aB.1 0 aB.2, .slice bB.1 0 bB.2, .slice cB.1 0 cB.2, .slice dB.1 0 dB.2, .slice eB.1 0 eB.2] 27)) w.heap.size (aA.1, 0, aA.2) (bA.1, 0, bA.2) (cA.1, 0, cA.2) (dA.1, 0, dA.2) (eA.1, 0, eA.2)) := Lib.hid (vbox_below (vbox_new w (aA.1, 0, aA.2) (bA.1, 0, bA.2) (cA.1, 0, cA.2) (dA.1, 0, dA.2) (eA.1, 0, eA.2)) q2)
 have X2 : Hid (VBox ((w.alloc (.cells #[.slice aA.1 0 aA.2, .slice bA.1 0 bA.2, .slice cA.1 0 cA.2, .slice dA.1 0 dA.2, .slice eA.1 0 eA.2] 27)).alloc (.cells #[.slice aB.1 0 aB.2, .slice bB.1 0 bB.2, .slice cB.1 0 cB.2, .slice dB.1 0 dB.2, .slice eB.1 0 eB.2] 27)) (w.heap.size + 1) (aB.1, 0, aB.2) (bB.1, 0, bB.2) (cB.1, 0, cB.2) (dB.1, 0, dB.2) (eB.1, 0, eB.2)) := Lib.hid (by have h := vbox_new (w.alloc (.cells #[.slice aA.1 0 aA.2, .slice bA.1 0 bA.2, .slice cA.1 0 cA.2, .slice dA.1 0 dA.2, .slice eA.1 0 eA.2] 27)) (aB.1, 0, aB.2) (bB.1, 0, bB.2) (cB.1, 0, cB.2) (dB.1, 0, dB.2) (eB.1, 0, eB.2); simp only [World.size_alloc] at h; exact h)
 clear q1 q2
 go_enter Tryz.func5, Tryz.ntmps5
 go_upto_region 1 with fail
 generalize ((w.alloc (.cells #[.slice aA.1 0 aA.2, .slice bA.1 0 bA.2, .slice cA.1 0 cA.2, .slice dA.1 0 dA.2, .slice eA.1 0 eA.2] 27)).alloc (.cells #[.slice aB.1 0 aB.2, .slice bB.1 0 bB.2, .slice cB.1 0 cB.2, .slice dB.1 0 dB.2, .slice eB.1 0 eB.2] 27)) = w0 at *
 obtain ⟨u0, u1, u2, u3, u4⟩ := vbox_cells X1.out
 obtain ⟨y0, y1, y2, y3, y4⟩ := vbox_cells X2.out
 dsimp only at u0 u1 u2 u3 u4 y0 y1 y2 y3 y4
 go_wp2_with fail
 refine (n11 aA bA cA dA eA aB bB cB dB eB _).mono ?_
 rintro e w1 ⟨rfl, hb⟩
 have QQ := Lib.hid (below_after QQ.out hb (Nat.le_refl _))
 have X1 := Lib.hid (vbox_below X1.out hb)
 have X2 := Lib.hid (vbox_below X2.out hb)
 clear hb u0 u1 u2 u3 u4 y0 y1 y2 y3 y4
 obtain ⟨u0, u1, u2, u3, u4⟩ := vbox_cells X1.out
 obtain ⟨y0, y1, y2, y3, y4⟩ := vbox_cells X2.out
 dsimp only at u0 u1 u2 u3 u4 y0 y1 y2 y3 y4
 go_wp2_with fail
 refine (n12 eA eB _).mono ?_
 rintro e w2 ⟨rfl, hb⟩
 have QQ := Lib.hid (below_after QQ.out hb (Nat.le_refl _))
 have X1 := Lib.hid (vbox_below X1.out hb)
 have X2 := Lib.hid (vbox_below X2.out hb)
 clear hb u0 u1 u2 u3 u4 y0 y1 y2 y3 y4
 obtain ⟨u0, u1, u2, u3, u4⟩ := vbox_cells X1.out
 obtain ⟨y0, y1, y2, y3, y4⟩ := vbox_cells X2.out
 dsimp only at u0 u1 u2 u3 u4 y0 y1 y2 y3 y4
 go_wp2_with fail
 go_ret
 exact ⟨rfl, QQ.out⟩
theorem em_shape {w : World} {v : Value} (h : VAt w v emV) : ∃ aA bA cA dA eA : Nl, v = .agg #[.slice aA.1 0 aA.2, .slice bA.1 0 bA.2, .slice cA.1 0 cA.2, .slice dA.1 0 dA.2, .slice eA.1 0 eA.2] := by
 obtain ⟨a, b, c, d, e, rfl, hr⟩ := h
 obtain ⟨A1, c1, h1, -⟩ := hr.m
 obtain ⟨A2, c2, h2, -⟩ := hr.f
 obtain ⟨A4, c4, h4, -⟩ := hr.c
 obtain ⟨A5, c5, h5, -⟩ := hr.s
 obtain ⟨qs, ⟨A3, c3, h3, -⟩, he⟩ := hr.r
 have hq : qs = [] := by
  cases qs with
  | nil => rfl
  | cons q qs => exact absurd he (by simp [EachReads])
 subst hq
 have e1 : a.2.1 = 0 := by injection h1
 have e2 : b.2.1 = 0 := by injection h2
 have e3 : c.2.1 = 0 := by injection h3
 have e4 : d.2.1 = 0 := by injection h4
 have e5 : e.2.1 = 0 := by injection h5
 exact ⟨(a.1, a.2.2), (b.1, b.2.2), (c.1, c.2.2), (d.1, d.2.2), (e.1, e.2.2), by rw [e1, e2, e3, e4, e5]⟩
theorem does_em : doesV emV (0, 0) [] emV = (emV, 0) := rfl
theorem does_bad : (doesV emV (0, 0) [((0, 0), 0, 0)] emV).2 = 4 := by kernel_rfl
theorem lit_mem (w : World) : Ms (w.alloc (.cells #[.int .i64 0, .int .i64 0, .int .u8 0, .int .i64 0] 34)) (.slice (some ⟨w.heap.size, 0, none⟩) 1 1) [((0, 0), 0, 0)] := rcs_lit encM_len w [((0, 0), 0, 0)] _ 34 rfl
set_option maxHeartbeats 8000000 in
theorem names_any (w : World) (htab : TabE w) (hrk : Tabs w) : Calls Tryz.prog 3 #[] w fun e w' => e = .returned (.bool true) ∧ Below w.heap.size w w' := by
 have HE := Lib.hid htab
 have HR := Lib.hid hrk
 clear htab hrk
 go_enter Tryz.func3, Tryz.ntmps3
 go_wp2_with fail
 refine (does_any 0 0 (none, 0, 0) (none, 0, 0) (none, 0, 0) (none, 0, 0) (none, 0, 0) _ [] emV _ (em_rv _) (Rcs.nil _) (by decide) fit_em).mono ?_
 rw [does_em]
 rintro e w1 ⟨X, rfl, hX, hb⟩
 obtain ⟨aA, bA, cA, dA, eA, rfl⟩ := em_shape hX
 have B1 := Lib.hid hb
 clear hb hX
 go_upto_region 2 with fail
 have q1 := below_one w1 (.cells #[.slice aA.1 0 aA.2, .slice bA.1 0 bA.2, .slice cA.1 0 cA.2, .slice dA.1 0 dA.2, .slice eA.1 0 eA.2] 27)
 have B2 := Lib.hid (below_after B1.out q1 (Nat.le_refl _))
 have HV : Hid (VBox (w1.alloc (.cells #[.slice aA.1 0 aA.2, .slice bA.1 0 bA.2, .slice cA.1 0 cA.2, .slice dA.1 0 dA.2, .slice eA.1 0 eA.2] 27)) w1.heap.size (aA.1, 0, aA.2) (bA.1, 0, bA.2) (cA.1, 0, cA.2) (dA.1, 0, dA.2) (eA.1, 0, eA.2)) := Lib.hid (vbox_new w1 (aA.1, 0, aA.2) (bA.1, 0, bA.2) (cA.1, 0, cA.2) (dA.1, 0, dA.2) (eA.1, 0, eA.2))
 clear q1 B1
 generalize (w1.alloc (.cells #[.slice aA.1 0 aA.2, .slice bA.1 0 bA.2, .slice cA.1 0 cA.2, .slice dA.1 0 dA.2, .slice eA.1 0 eA.2] 27)) = w2 at *
 generalize w1.heap.size = g at *
 go_wp2_with fail
 have q2 := below_one w2 (.cells #[.int .i64 0, .int .i64 0, .int .u8 0, .int .i64 0] 34)
 have B3 := Lib.hid (below_after B2.out q2 (Nat.le_refl _))
 have HV := Lib.hid (vbox_below HV.out q2)
 clear q2 B2
 refine (does_any 0 0 (none, 0, 0) (none, 0, 0) (none, 0, 0) (none, 0, 0) (none, 0, 0) _ [((0, 0), 0, 0)] emV _ (em_rv _) (lit_mem w2) (by decide) fit_em).mono ?_
 rw [does_bad]
 rintro e w3 ⟨Y, rfl, ⟨a, b, c, d, e, rfl, -⟩, hb⟩
 have B4 := Lib.hid (below_after B3.out hb (Nat.le_refl _))
 have HV := Lib.hid (vbox_below HV.out hb)
 clear hb B3
 go_upto_region 3 with fail
 have q3 := below_one w3 (.cells #[.slice a.1 a.2.1 a.2.2, .slice b.1 b.2.1 b.2.2, .slice c.1 c.2.1 c.2.2, .slice d.1 d.2.1 d.2.2, .slice e.1 e.2.1 e.2.2] 27)
 have B5 := Lib.hid (below_after B4.out q3 (Nat.le_refl _))
 have HV := Lib.hid (vbox_below HV.out q3)
 clear q3 B4
 generalize (w3.alloc (.cells #[.slice a.1 a.2.1 a.2.2, .slice b.1 b.2.1 b.2.2, .slice c.1 c.2.1 c.2.2, .slice d.1 d.2.1 d.2.2, .slice e.1 e.2.1 e.2.2] 27)) = w4 at *
 obtain ⟨u0, u1, u2, u3, u4⟩ := vbox_cells HV.out
 dsimp only at u0 u1 u2 u3 u4
 go_wp2_with fail
 refine (n5 aA bA cA dA eA (none, 0) (none, 0) (none, 0) (none, 0) (none, 0) _).mono ?_
 rintro e w5 ⟨rfl, hb⟩
 have B6 := Lib.hid (below_after B5.out hb (Nat.le_refl _))
 clear hb B5 u0 u1 u2 u3 u4 HV
 go_wp2_with fail
 refine (turns_any (none, 0, 0) (none, 0, 0) (none, 0, 0) (none, 0, 0) (none, 0, 0) (none, 0, 0) (none, 0, 0) (none, 0, 0) (none, 0, 0) (none, 0, 0) emV emV _ (em_rv _) (em_rv _) in_em in_em (by decide) (by decide) (by decide)).mono ?_
 rw [turns_em]
 rintro e w6 ⟨v, rfl, ho, hb⟩
 obtain ⟨tA, tc, rfl, -⟩ := rcs_owns encU_len ho
 have B7 := Lib.hid (below_after B6.out hb (Nat.le_refl _))
 clear hb B6 ho
 simp only [List.length_nil]
 go_wp2_with fail
 refine (kd_em (none, 0, 0) (none, 0, 0) (none, 0, 0) (none, 0, 0) (none, 0, 0) (none, 0, 0) (none, 0, 0) (none, 0, 0) (none, 0, 0) (none, 0, 0) _ (em_rv _) (em_rv _) (HE.out.below B7.out) (HR.out.below B7.out)).mono ?_
 rintro e w7 ⟨rfl, hb⟩
 have B8 := Lib.hid (below_after B7.out hb (Nat.le_refl _))
 clear hb B7
 go_wp2_with fail
 refine (awake_any _ (HE.out.below B8.out) (HR.out.below B8.out)).mono ?_
 rintro e w8 ⟨rfl, hb⟩
 have B9 := Lib.hid (below_after B8.out hb (Nat.le_refl _))
 clear hb B8
 go_wp2_with fail
 go_ret
 exact ⟨rfl, B9.out⟩
end Go.Proofs.YtgphiggbajbmhaaGreatDoor
namespace Go.Proofs.YtgphiggbajbmhaaGreatDoor
open Go Go.RowKit Go.WideShapes Go.ChangeShapes Go.ChangeAt
mutual
def flatData {H : Type} : DataW H → List Value
 | .lit (.int k n) => [.int k n]
 | .lit (.string l) => [.string ⟨l.toArray⟩]
 | .agg ds => flatAll ds
 | _ => []
def flatAll {H : Type} : List (DataW H) → List Value
 | [] => []
 | d :: r => flatData d ++ flatAll r
end
theorem flatAll_map {H : Type} (ds : List (DataW H)) : flatAll ds = ds.flatMap flatData := by
 induction ds with
 | nil => rfl
 | cons d r ih => simp [flatAll, ih]
def FlatTy (P : Program) : Nat → TypeId → Prop
 | 0, _ => False
 | g + 1, t => (∃ k, P.underlying t = some (.int k)) ∨ P.underlying t = some .string ∨ (∃ n e, P.underlying t = some (.array n e) ∧ P.cellsOf t = n * P.cellsOf e ∧ FlatTy P g e) ∨
  ∃ f0 f1, P.underlying t = some (.struct #[f0, f1]) ∧ f0.offset = 0 ∧ f1.offset = P.cellsOf f0.type ∧ P.cellsOf t = P.cellsOf f0.type + P.cellsOf f1.type ∧ FlatTy P g f0.type ∧ FlatTy P g f1.type
theorem chunks {α : Type} (c : Nat) : ∀ (n : Nat) (cs : List α), cs.length = n * c → cs = (List.range n).flatMap fun i => (cs.drop (i * c)).take c := by
 intro n
 induction n with
 | zero => intro cs h; simp at h; subst h; rfl
 | succ n ih =>
  intro cs h
  have h1 := ih (cs.drop c) (by rw [List.length_drop, h, Nat.succ_mul]; omega)
  conv => lhs; rw [← List.take_append_drop c cs, h1]
  rw [List.range_succ_eq_map, List.flatMap_cons, List.flatMap_map]
  congr 1
  ·simp
  ·congr 1
   funext i
   rw [List.drop_drop]
   congr 2
   rw [Nat.succ_mul]; omega
theorem flatMap_congr' {α β : Type} {f g : α → List β} : ∀ (l : List α), (∀ x ∈ l, f x = g x) → l.flatMap f = l.flatMap g
 | [], _ => rfl
 | x :: l, h => by
  rw [List.flatMap_cons, List.flatMap_cons, h x (by simp), flatMap_congr' l fun y hy => h y (by simp [hy])]
theorem flatMap_get {α β : Type} (f : α → List β) (l : List α) : (List.range l.length).flatMap (fun i => match l[i]? with | some x => f x | none => []) = l.flatMap f := by
 induction l with
 | nil => rfl
 | cons x l ih =>
  rw [List.length_cons, List.range_succ_eq_map, List.flatMap_cons, List.flatMap_map, List.flatMap_cons]
  congr 1
theorem cells_of_flat {H : Type} {enc : TypeId × Value → H} {P : Program} {w : World} {base : Nat} {sp : Nat → Bool} {held : Bool} : ∀ (g fuel : Nat) (t : TypeId) (cs : List Value) (d : DataW H) (p : List MemPlace),
  FlatTy P g t → DataW.trod enc P w base sp held fuel t cs = some (d, p) → cs = flatData d := by
 intro g
 induction g with
 | zero => intro _ _ _ _ _ h; exact h.elim
 | succ g ih =>
  intro fuel t cs d p hf h
  rcases hf with ⟨k, hk⟩ | hs | ⟨n, e, ha, hc, hr⟩ | ⟨f0, f1, ht, o0, o1, hc, r0, r1⟩
  ·obtain ⟨m, rfl, e, _⟩ := DataW.trod_int hk h
   injection e with e1 e2
   subst e1
   rfl
  ·obtain ⟨s, rfl, e, _⟩ := DataW.trod_string hs h
   injection e with e1 e2
   subst e1
   simp [flatData]
  ·obtain ⟨xs, m, rfl, hx, hl, hn, hall⟩ := DataW.trod_array ha h
   injection hx with e1 e2
   subst e1
   rw [hc] at hl
   show cs = flatAll _
   rw [flatAll_map, List.flatMap_map]
   conv => lhs; rw [chunks _ n cs hl]
   rw [← flatMap_get (fun a => flatData (Prod.fst a)) xs, hn]
   refine flatMap_congr' _ fun i hi => ?_
   have hi2 : i < n := List.mem_range.1 hi
   have h1 := hall i hi2
   rw [List.getElem?_eq_getElem (by omega)] at h1 ⊢
   exact ih m e _ _ _ hr h1
  ·obtain ⟨y0, y1, m, e, hl, h0, h1⟩ := trod_struct2 ht h
   injection e with e1 e2
   subst e1
   have k0 := ih _ _ _ _ _ r0 h0
   have k1 := ih _ _ _ _ _ r1 h1
   rw [o0, List.drop_zero] at k0
   rw [o1] at k1
   show cs = flatData y0.1 ++ (flatData y1.1 ++ [])
   rw [List.append_nil, ← k0, ← k1, List.take_of_length_le (l := cs.drop _) (by rw [List.length_drop, hl, hc]; omega), List.take_append_drop]
def laidAll : List (String × DataW Unit) := Rows.edgeNamesRow.laid
theorem tRanks : (Tryz.prog.globals[0]?).map (·.type) = some 119 := by kernel_rfl
theorem tEdges : (Tryz.prog.globals[1]?).map (·.type) = some 146 := by kernel_rfl
theorem flatRanks : FlatTy Tryz.prog 3 119 := .inr (.inr (.inl ⟨3, 118, by kernel_rfl, by kernel_rfl, .inr (.inr (.inr ⟨_, _, Tryz.underlying118, by kernel_rfl, by kernel_rfl, by kernel_rfl, .inl ⟨.u8, by kernel_rfl⟩, .inl ⟨.u8, by kernel_rfl⟩⟩))⟩))
theorem flatEdges : FlatTy Tryz.prog 3 146 := .inr (.inr (.inl ⟨8, 145, by kernel_rfl, by kernel_rfl, .inr (.inr (.inl ⟨8, 5, by kernel_rfl, by kernel_rfl, .inl ⟨.u8, by kernel_rfl⟩⟩))⟩))
theorem tabs_of_laid {W : World} (h : laidMetH Tryz.prog laidAll W) : TabE W ∧ Tabs W := by
 rw [MakeChecks.laidMetH_plain _ _ _ (by kernel_rfl)] at h
 obtain ⟨ps, ⟨g1, t1, cs1, f1, p1, q1, hg1, ht1, hv1, hd1, ⟨g0, t0, cs0, f0, p0, q0, hg0, ht0, hv0, hd0, _, _⟩, _⟩, _, _⟩ := h
 obtain rfl := Option.some.inj ((show _ = some 1 by kernel_rfl).symm.trans hg1)
 obtain rfl := Option.some.inj ((show _ = some 0 by kernel_rfl).symm.trans hg0)
 obtain rfl := Option.some.inj (tEdges.symm.trans ht1)
 obtain rfl := Option.some.inj (tRanks.symm.trans ht0)
 have e0 := cells_of_flat _ _ _ _ _ _ flatRanks hd0
 have e1 := cells_of_flat _ _ _ _ _ _ flatEdges hd1
 have hc : ∀ i, W.cell? ⟨0, i, none⟩ = [Value.int .u8 3, .int .u8 4, .int .u8 2, .int .u8 2, .int .u8 1, .int .u8 1][i]? := fun i => by
  rw [World.var?_cell hg0 hv0 i, ← Array.getElem?_toList, e0]
  rfl
 have hL : flatData (H := Unit) Rows.laid_covey_stage_edges = edgL.map fun n : Nat => Value.int .u8 (n : Int) := by rfl
 have hE : ∀ i, W.cell? ⟨1, i, none⟩ = (edgL.map fun n : Nat => Value.int .u8 (n : Int))[i]? := fun i => by
  rw [World.var?_cell hg1 hv1 i, ← Array.getElem?_toList, e1]
  exact congrArg (·[i]?) hL
 refine ⟨⟨fun k hk => ?_, World.block_lt_of_cell? W _ ((hE 0).trans rfl)⟩, ⟨⟨hc 0, hc 1, hc 2, hc 3, hc 4, hc 5⟩, World.block_lt_of_cell? W _ (hc 0)⟩⟩
 rw [hE k, List.getElem?_map, List.getElem?_eq_getElem (by rw [edgL_len]; exact hk), Option.map_some, List.getD_eq_getElem?_getD, List.getElem?_eq_getElem (by rw [edgL_len]; exact hk)]
 rfl
theorem door_met (os : Os) (args : Array Value) : laidMetH Tryz.prog laidAll ((World.doorLaid Tryz.prog 400 os).forCall (fun _ _ => 0) ⟨#[], args, []⟩).memory :=
 laidMetH_of_parts3 (fuel := 8) (laidMet_of_run' 8 (by kernel_rfl) (by kernel_rfl)) (by kernel_rfl) (by kernel_rfl)
end Go.Proofs.YtgphiggbajbmhaaGreatDoor
