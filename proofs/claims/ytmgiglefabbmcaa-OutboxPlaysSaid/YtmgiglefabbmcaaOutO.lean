/-
  A walk over the examples, the bounds, and what is done to nil. No statement is proved in this text.
-/
import Derived.Test.YtmgiglefabbmcaaOutN
set_option maxRecDepth 20000
namespace Go.Proofs.Ytmgiglefabbmcaa
open Go Go.RowKit
set_option maxHeartbeats 1000000 in
theorem put_nil (q : Fq) (w : World) : Calls Try.prog 9 #[.pointer none, .agg (fc q)] w fun e w' => e = .returned (.tuple #[.agg #[.int .u8 0, .int .i64 0, .int .i64 0, .int .i64 0, .int .i64 0, .int .i64 0, .int .i64 0, .int .i64 0, .int .i64 0, .slice none 0 0, .slice none 0 0, .slice none 0 0, .slice none 0 0, .slice none 0 0], .bool false, .int .i64 2]) ∧ Below w.heap.size w w' := by
  have B := Lib.hid (below_after (below_one w (.cells (fc q) 32)) (below_one _ (.cells #[.int .u8 0, .int .i64 0, .int .i64 0, .int .i64 0, .int .i64 0, .int .i64 0, .int .i64 0, .int .i64 0, .int .i64 0, .slice none 0 0, .slice none 0 0, .slice none 0 0, .slice none 0 0, .slice none 0 0] 32)) (Nat.le_refl _))
  have X := Lib.hid (show FB ((w.alloc (.cells (fc q) 32)).alloc (.cells #[.int .u8 0, .int .i64 0, .int .i64 0, .int .i64 0, .int .i64 0, .int .i64 0, .int .i64 0, .int .i64 0, .int .i64 0, .slice none 0 0, .slice none 0 0, .slice none 0 0, .slice none 0 0, .slice none 0 0] 32)) (w.heap.size + 1) q0 from by have := fb_new (w.alloc (.cells (fc q) 32)) q0; rw [fc_zero] at this; simpa using this)
  go_enter Try.func9, Try.ntmps9
  go_wp2_with fail
  refine bodyPost_ret (results_three Try.results9 _ _ (w.heap.size + 1) rfl X.out Try.underlying32 rfl (size32 q0) rfl rfl) rfl ?_
  exact ⟨rfl, B.out⟩
theorem take_nil (w : World) : Calls Try.prog 11 #[.pointer none] w fun e w' => e = .returned (.tuple #[.agg #[.int .u8 0, .int .i64 0, .int .i64 0, .int .i64 0, .int .i64 0, .int .i64 0, .int .i64 0, .int .i64 0, .int .i64 0, .slice none 0 0, .slice none 0 0, .slice none 0 0, .slice none 0 0, .slice none 0 0], .bool false]) ∧ Below w.heap.size w w' := by
  have B := Lib.hid (below_one w (.cells #[.int .u8 0, .int .i64 0, .int .i64 0, .int .i64 0, .int .i64 0, .int .i64 0, .int .i64 0, .int .i64 0, .int .i64 0, .slice none 0 0, .slice none 0 0, .slice none 0 0, .slice none 0 0, .slice none 0 0] 32))
  have X := Lib.hid (zero_new w)
  go_enter Try.func11, Try.ntmps11
  go_wp2_with (with_reducible refine (len_nil _).mono ?_; rintro e1 w1 ⟨rfl, rfl⟩)
  refine bodyPost_ret (results_two Try.results11 _ _ w.heap.size rfl X.out Try.underlying32 rfl (size32 q0) rfl) rfl ?_
  exact ⟨rfl, B.out⟩
set_option maxHeartbeats 32000000 in
set_option maxRecDepth 100000 in
theorem names_any (w : World) : Calls Try.prog 3 #[] w fun e w' => e = .returned (.bool true) ∧ Below w.heap.size w w' := by
  have P1 := Lib.hid (show putL 1 [] (bF 3 1) = ([bF 3 1], z0, false) from rfl)
  have P2 := Lib.hid (show putL 1 [bF 3 1] (bF 4 2) = ([bF 4 2], bF 3 1, true) from rfl)
  have P3 := Lib.hid (show putL 1 [bF 4 2] (bF 1 3) = ([bF 1 3], bF 4 2, true) from rfl)
  have P4 := Lib.hid (show putL 1 [bF 1 3] (bF 4 4) = ([bF 1 3], bF 4 4, true) from rfl)
  go_enter Try.func3, Try.ntmps3
  go_wp2_with fail
  (with_reducible refine (of_any 5 1 _).mono ?_)
  rintro e1 w1 ⟨rfl, hb⟩
  have B1 := Lib.hid hb
  clear hb
  go_wp2_with fail
  (with_reducible refine (put_nil (bare 5 1) w1).mono ?_)
  rintro e2 w2 ⟨rfl, hb⟩
  have B2 := Lib.hid (below_after B1.out hb (Nat.le_refl _))
  have B3 := Lib.hid (below_after B2.out (below_one w2 (.cells #[.int .u8 0, .int .i64 0, .int .i64 0, .int .i64 0, .int .i64 0, .int .i64 0, .int .i64 0, .int .i64 0, .int .i64 0, .slice none 0 0, .slice none 0 0, .slice none 0 0, .slice none 0 0, .slice none 0 0] 32)) (Nat.le_refl _))
  clear hb B1
  go_wp2_with fail
  generalize w2.alloc (.cells #[.int .u8 0, .int .i64 0, .int .i64 0, .int .i64 0, .int .i64 0, .int .i64 0, .int .i64 0, .int .i64 0, .int .i64 0, .slice none 0 0, .slice none 0 0, .slice none 0 0, .slice none 0 0, .slice none 0 0] 32) = w3 at *
  (with_reducible refine (take_nil w3).mono ?_)
  rintro e4 w4 ⟨rfl, hb⟩
  have B4 := Lib.hid (below_after B3.out hb (Nat.le_refl _))
  have B5 := Lib.hid (below_after B4.out (below_one w4 (.cells #[.int .u8 0, .int .i64 0, .int .i64 0, .int .i64 0, .int .i64 0, .int .i64 0, .int .i64 0, .int .i64 0, .int .i64 0, .slice none 0 0, .slice none 0 0, .slice none 0 0, .slice none 0 0, .slice none 0 0] 32)) (Nat.le_refl _))
  clear hb B2 B3
  go_wp2_with fail
  generalize w4.alloc (.cells #[.int .u8 0, .int .i64 0, .int .i64 0, .int .i64 0, .int .i64 0, .int .i64 0, .int .i64 0, .int .i64 0, .int .i64 0, .slice none 0 0, .slice none 0 0, .slice none 0 0, .slice none 0 0, .slice none 0 0] 32) = w5 at *
  (with_reducible refine (clear_nil w5).mono ?_)
  rintro e6 w6 ⟨rfl, rfl⟩
  clear B4
  go_wp2_with fail
  (with_reducible refine (works_any w5).mono ?_)
  rintro e7 w7 ⟨rfl, hb⟩
  have B7 := Lib.hid (below_after B5.out hb (Nat.le_refl _))
  clear hb B5
  go_wp2_with fail
  (with_reducible refine (len_nil w7).mono ?_)
  rintro e8 w8 ⟨rfl, rfl⟩
  go_wp2_with fail
  (with_reducible refine (all_nil w7).mono ?_)
  rintro e9 w9 ⟨rfl, rfl⟩
  go_wp2_with fail
  (with_reducible refine (copy_nil w7).mono ?_)
  rintro e10 w10 ⟨rfl, rfl⟩
  go_wp2_with fail
  have B8 := Lib.hid (below_after B7.out (below_one w7 (.cells #[.int .i64 0, .int .i64 (-1), .int .i64 4097] 3)) (Nat.le_refl _))
  have X8 := Lib.hid (show (w7.alloc (.cells #[.int .i64 0, .int .i64 (-1), .int .i64 4097] 3)).heap[w7.heap.size]? = some (.cells #[.int .i64 0, .int .i64 (-1), .int .i64 4097] 3 (0, 0)) from heap_alloc_new w7 _)
  clear B7
  generalize w7.alloc (.cells #[.int .i64 0, .int .i64 (-1), .int .i64 4097] 3) = w8 at *
  go_loopw [8, 9, 10, 62] (fun s8 s9 s10 s62 wr => ∃ k : Nat, k ≤ 3 ∧ s62 = .int .i64 k ∧ Hid (Below w8.heap.size w8 wr)) (fun _ _ _ s62 _ => 3 - (intOf s62).toNat)
  case atStart => exact ⟨0, by omega, rfl, Lib.hid (Below.refl _ _)⟩
  case round =>
    obtain ⟨k, hkl, rfl, HW⟩ := hrel
    have i3 : (0 : Int) ≤ (k : Int) := by omega
    by_cases hlt : k < 3
    · have hd : decide ((k : Int) < 3) = true := by simp; omega
      have i4 : (k : Int) < 3 := by omega
      obtain ⟨v, hv, hno⟩ : ∃ v : Int, wr.cell? ⟨w7.heap.size, k, none⟩ = some (.int .i64 v) ∧ ¬ (1 ≤ v ∧ v ≤ 4096) := by
        have hc := (HW.out.block _ (row_lt X8.out)).trans X8.out
        match k, hlt with
        | 0, _ => exact ⟨0, by rw [cell_of_row _ _ _ _ _ _ hc]; rfl, by omega⟩
        | 1, _ => exact ⟨-1, by rw [cell_of_row _ _ _ _ _ _ hc]; rfl, by omega⟩
        | 2, _ => exact ⟨4097, by rw [cell_of_row _ _ _ _ _ _ hc]; rfl, by omega⟩
      have HN := Lib.hid (new_no v wr hno)
      clear hno
      go_wp2_with fail
      (with_reducible refine HN.out.mono ?_)
      rintro e11 w11 ⟨rfl, rfl⟩
      go_wp2_with fail
      go_roundw
      case rel => exact ⟨k + 1, by omega, by go_num, HW⟩
      case measure => simp [intOf]; omega
    · obtain rfl : k = 3 := by omega
      have BW := Lib.hid (below_after B8.out HW.out (Nat.le_refl _))
      clear HW B8 X8
      go_wp2_with fail
      (with_reducible refine (bx_new (fun k => k < wr.heap.size) 4096 wr (fun _ h => h) (by decide)).mono ?_)
      rintro e12 w12 ⟨rfl, h, hb⟩
      have H12 := Lib.hid h
      have B12 := Lib.hid (below_after BW.out hb (Nat.le_refl _))
      clear h hb BW
      go_wp2_with fail
      (with_reducible refine (bx_new (fun k => k < w12.heap.size) 1 w12 (fun _ h => h) (by decide)).mono ?_)
      rintro e13 w13 ⟨rfl, h, hb⟩
      have H13 := Lib.hid h
      have K13 := Lib.hid (Kept.of (D := fun k => k < w12.heap.size) hb fun _ h => h)
      clear h hb
      go_wp2_with fail
      (with_reducible refine (of_any 3 1 _).mono ?_)
      rintro e14 w14 ⟨rfl, hb⟩
      have H14 := Lib.hid (H13.out.step hb)
      have K14 := Lib.hid (K13.out.trans (Kept.of hb H13.out.hd))
      clear hb H13 K13
      go_wp2_with fail
      (with_reducible refine (puts_zero _ _ _ 1 _ _ 3 1 P1.out H14.out).mono ?_)
      rintro e15 w15 ⟨rfl, h, k⟩
      have H15 := Lib.hid h
      have K15 := Lib.hid (K14.out.trans k)
      clear h k H14 K14
      go_wp2_with fail
      (with_reducible refine (of_any 4 2 _).mono ?_)
      rintro e16 w16 ⟨rfl, hb⟩
      have H16 := Lib.hid (H15.out.step hb)
      have K16 := Lib.hid (K15.out.trans (Kept.of hb H15.out.hd))
      clear hb H15 K15
      go_wp2_with fail
      (with_reducible refine (of_any 3 1 _).mono ?_)
      rintro e17 w17 ⟨rfl, hb⟩
      have H17 := Lib.hid (H16.out.step hb)
      have K17 := Lib.hid (K16.out.trans (Kept.of hb H16.out.hd))
      clear hb H16 K16
      go_wp2_with fail
      (with_reducible refine (puts_is _ _ _ 1 _ _ 4 2 3 1 true P2.out H17.out).mono ?_)
      rintro e18 w18 ⟨rfl, h, k⟩
      have H18 := Lib.hid h
      have K18 := Lib.hid (K17.out.trans k)
      clear h k H17 K17
      go_wp2_with fail
      (with_reducible refine (of_any 1 3 _).mono ?_)
      rintro e19 w19 ⟨rfl, hb⟩
      have H19 := Lib.hid (H18.out.step hb)
      have K19 := Lib.hid (K18.out.trans (Kept.of hb H18.out.hd))
      clear hb H18 K18
      go_wp2_with fail
      (with_reducible refine (of_any 4 2 _).mono ?_)
      rintro e20 w20 ⟨rfl, hb⟩
      have H20 := Lib.hid (H19.out.step hb)
      have K20 := Lib.hid (K19.out.trans (Kept.of hb H19.out.hd))
      clear hb H19 K19
      go_wp2_with fail
      (with_reducible refine (puts_is _ _ _ 1 _ _ 1 3 4 2 true P3.out H20.out).mono ?_)
      rintro e21 w21 ⟨rfl, h, k⟩
      have H21 := Lib.hid h
      have K21 := Lib.hid (K20.out.trans k)
      clear h k H20 K20
      go_wp2_with fail
      (with_reducible refine (of_any 4 4 _).mono ?_)
      rintro e22 w22 ⟨rfl, hb⟩
      have H22 := Lib.hid (H21.out.step hb)
      have K22 := Lib.hid (K21.out.trans (Kept.of hb H21.out.hd))
      clear hb H21 K21
      go_wp2_with fail
      (with_reducible refine (of_any 4 4 _).mono ?_)
      rintro e23 w23 ⟨rfl, hb⟩
      have H23 := Lib.hid (H22.out.step hb)
      have K23 := Lib.hid (K22.out.trans (Kept.of hb H22.out.hd))
      clear hb H22 K22
      go_wp2_with fail
      (with_reducible refine (puts_is _ _ _ 1 _ _ 4 4 4 4 true P4.out H23.out).mono ?_)
      rintro e24 w24 ⟨rfl, h, k⟩
      have H24 := Lib.hid h
      have K24 := Lib.hid (K23.out.trans k)
      clear h k H23 K23
      go_wp2_with fail
      (with_reducible refine (bx_clear _ _ _ 1 _ H24.out).mono ?_)
      rintro e30 w30 ⟨rfl, h, k⟩
      have H30 := Lib.hid h
      have K30 := Lib.hid (K24.out.trans k)
      clear h k H24 K24
      go_wp2_with fail
      (with_reducible refine (bx_take _ _ _ 1 _ H30.out).mono ?_)
      rintro e31 w31 ⟨qo, Q, rfl, -, -, -, h, k⟩
      have H31 := Lib.hid (show Bx (fun k => k < w12.heap.size) w31 w12.heap.size 1 [] from h.mono (E := fun k => k < w12.heap.size) fun k hk => .inl hk)
      have K31 := Lib.hid (K30.out.trans k)
      clear h k H30 K30
      go_wp2_with fail
      (with_reducible refine (bx_len _ _ _ 1 _ H31.out).mono ?_)
      rintro e32 w32 ⟨rfl, rfl⟩
      have BE := Lib.hid (K31.out.below (fun _ h => h))
      have HE := Lib.hid (H12.out.step BE.out)
      go_wp2_with fail
      (with_reducible refine (bx_len _ _ _ 4096 _ HE.out).mono ?_)
      rintro e33 w33 ⟨rfl, rfl⟩
      have BF := Lib.hid (below_after B12.out BE.out (Nat.le_refl _))
      go_wp2_with fail
      go_ret
      exact ⟨rfl, BF.out⟩
end Go.Proofs.Ytmgiglefabbmcaa
