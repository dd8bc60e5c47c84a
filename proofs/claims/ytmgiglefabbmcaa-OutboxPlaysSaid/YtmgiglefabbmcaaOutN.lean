/-
  A walk over the examples. No statement is proved in this text.
-/
import Derived.Test.YtmgiglefabbmcaaOutM
set_option maxRecDepth 20000
namespace Go.Proofs.Ytmgiglefabbmcaa
open Go Go.RowKit
/-- A frame without lists, plain. -/
abbrev bF (k n : Int) : Fr := (bare k n).F
theorem bare_zero : q0 = bare 0 0 := rfl
/-- A put, with frames without lists. -/
theorem puts_is (D : Nat → Prop) (W : World) (p : Nat) (mx : Int) (L L' : List Fr) (k n k2 n2 : Int) (z : Bool) (hp : putL mx L (bF k n) = (L', bF k2 n2, z)) (h : Bx D W p mx L) :
    Calls Try.prog 18 #[.pointer (some ⟨p, 0, none⟩), .agg (fc (bare k n)), .agg (fc (bare k2 n2)), .bool z] W fun e w' => e = .returned (.bool true) ∧ Bx D w' p mx L' ∧ Kept D W w' := by
  have := puts_any D W p mx L h (bare k n) (bare k2 n2) (fun W => fr_bare W k n) (fun W => fr_bare W k2 n2) (fit_bare k n) (fit_bare k2 n2) z (by rw [hp]) (by rw [hp])
  rw [hp] at this
  exact this
theorem puts_zero (D : Nat → Prop) (W : World) (p : Nat) (mx : Int) (L L' : List Fr) (k n : Int) (hp : putL mx L (bF k n) = (L', z0, false)) (h : Bx D W p mx L) :
    Calls Try.prog 18 #[.pointer (some ⟨p, 0, none⟩), .agg (fc (bare k n)), .agg #[.int .u8 0, .int .i64 0, .int .i64 0, .int .i64 0, .int .i64 0, .int .i64 0, .int .i64 0, .int .i64 0, .int .i64 0, .slice none 0 0, .slice none 0 0, .slice none 0 0, .slice none 0 0, .slice none 0 0], .bool false] W fun e w' => e = .returned (.bool true) ∧ Bx D w' p mx L' ∧ Kept D W w' := puts_is D W p mx L L' k n 0 0 false hp h
set_option maxHeartbeats 16000000 in
theorem works_any (W : World) : Calls Try.prog 13 #[] W fun e w' => e = .returned (.bool true) ∧ Below W.heap.size W w' := by
  have HD : ∀ k, (fun k => k < W.heap.size) k → k < W.heap.size := fun _ h => h
  have P1 := Lib.hid (show putL 2 [] (bF 4 1) = ([bF 4 1], z0, false) from rfl)
  have P2 := Lib.hid (show putL 2 [bF 4 1] (bF 5 2) = ([bF 4 1, bF 5 2], z0, false) from rfl)
  have P3 := Lib.hid (show putL 2 [bF 4 1, bF 5 2] (bF 5 3) = ([bF 5 2, bF 5 3], bF 4 1, true) from rfl)
  have P4 := Lib.hid (show putL 2 [bF 5 2, bF 5 3] (bF 5 4) = ([bF 5 2, bF 5 3], bF 5 4, true) from rfl)
  go_enter Try.func13, Try.ntmps13
  go_wp2_with fail
  (with_reducible refine (bx_new (fun k => k < W.heap.size) 2 W HD (by decide)).mono ?_)
  rintro e1 w1 ⟨rfl, h1, hb⟩
  have H1 := Lib.hid h1
  have K1 := Lib.hid (Kept.of (D := fun k => k < W.heap.size) hb HD)
  clear h1 hb HD
  go_wp2_with fail
  (with_reducible refine (of_any 4 1 _).mono ?_)
  rintro e2 w2 ⟨rfl, hb⟩
  have H2 := Lib.hid (H1.out.step hb)
  have K2 := Lib.hid (K1.out.trans (Kept.of hb H1.out.hd))
  clear hb H1 K1
  go_wp2_with fail
  (with_reducible refine (puts_zero _ _ _ 2 _ _ 4 1 P1.out H2.out).mono ?_)
  rintro e3 w3 ⟨rfl, h, k⟩
  have H3 := Lib.hid h
  have K3 := Lib.hid (K2.out.trans k)
  clear h k H2 K2
  go_wp2_with fail
  (with_reducible refine (of_any 5 2 _).mono ?_)
  rintro e4 w4 ⟨rfl, hb⟩
  have H4 := Lib.hid (H3.out.step hb)
  have K4 := Lib.hid (K3.out.trans (Kept.of hb H3.out.hd))
  clear hb H3 K3
  go_wp2_with fail
  (with_reducible refine (puts_zero _ _ _ 2 _ _ 5 2 P2.out H4.out).mono ?_)
  rintro e5 w5 ⟨rfl, h, k⟩
  have H5 := Lib.hid h
  have K5 := Lib.hid (K4.out.trans k)
  clear h k H4 K4
  go_wp2_with fail
  (with_reducible refine (of_any 5 3 _).mono ?_)
  rintro e6 w6 ⟨rfl, hb⟩
  have H6 := Lib.hid (H5.out.step hb)
  have K6 := Lib.hid (K5.out.trans (Kept.of hb H5.out.hd))
  clear hb H5 K5
  go_wp2_with fail
  (with_reducible refine (of_any 4 1 _).mono ?_)
  rintro e7 w7 ⟨rfl, hb⟩
  have H7 := Lib.hid (H6.out.step hb)
  have K7 := Lib.hid (K6.out.trans (Kept.of hb H6.out.hd))
  clear hb H6 K6
  go_wp2_with fail
  (with_reducible refine (puts_is _ _ _ 2 _ _ 5 3 4 1 true P3.out H7.out).mono ?_)
  rintro e8 w8 ⟨rfl, h, k⟩
  have H8 := Lib.hid h
  have K8 := Lib.hid (K7.out.trans k)
  clear h k H7 K7
  go_wp2_with fail
  (with_reducible refine (of_any 5 4 _).mono ?_)
  rintro e9 w9 ⟨rfl, hb⟩
  have H9 := Lib.hid (H8.out.step hb)
  have K9 := Lib.hid (K8.out.trans (Kept.of hb H8.out.hd))
  clear hb H8 K8
  go_wp2_with fail
  (with_reducible refine (of_any 5 4 _).mono ?_)
  rintro e10 w10 ⟨rfl, hb⟩
  have H10 := Lib.hid (H9.out.step hb)
  have K10 := Lib.hid (K9.out.trans (Kept.of hb H9.out.hd))
  clear hb H9 K9
  go_wp2_with fail
  (with_reducible refine (puts_is _ _ _ 2 _ _ 5 4 5 4 true P4.out H10.out).mono ?_)
  rintro e11 w11 ⟨rfl, h, k⟩
  have H11 := Lib.hid h
  have K11 := Lib.hid (K10.out.trans k)
  clear h k H10 K10
  go_wp2_with fail
  (with_reducible refine (bx_take _ _ _ 2 _ H11.out).mono ?_)
  rintro e20 w20 ⟨qo, Q, rfl, ho, hf, hq, hx, hk⟩
  have HO := Lib.hid (show qo.F = bF 5 2 from ho)
  have H20 := Lib.hid (show Bx (fun k => k < W.heap.size) w20 W.heap.size 2 [bF 5 3] from hx.mono (E := fun k => k < W.heap.size) fun k hk => .inl hk)
  have K20 := Lib.hid (K11.out.trans hk)
  have F20 := Lib.hid hf
  have SO := Lib.hid (size32 qo)
  clear ho hf hq hx hk H11 K11
  have ZZ := Lib.hid (heap_alloc_new w20 (.cells #[.int .u8 0, .int .i64 0, .int .i64 0, .int .i64 0, .int .i64 0, .int .i64 0, .int .i64 0, .int .i64 0, .int .i64 0, .slice none 0 0, .slice none 0 0, .slice none 0 0, .slice none 0 0, .slice none 0 0] 32))
  have B2 := Lib.hid (show Below w20.heap.size w20 ((w20.alloc (.cells #[.int .u8 0, .int .i64 0, .int .i64 0, .int .i64 0, .int .i64 0, .int .i64 0, .int .i64 0, .int .i64 0, .int .i64 0, .slice none 0 0, .slice none 0 0, .slice none 0 0, .slice none 0 0, .slice none 0 0] 32)).setRow w20.heap.size (fc qo)) from below_setRow (below_one w20 _) (Nat.le_refl _) _)
  have Z2 := Lib.hid (show FB ((w20.alloc (.cells #[.int .u8 0, .int .i64 0, .int .i64 0, .int .i64 0, .int .i64 0, .int .i64 0, .int .i64 0, .int .i64 0, .int .i64 0, .slice none 0 0, .slice none 0 0, .slice none 0 0, .slice none 0 0, .slice none 0 0] 32)).setRow w20.heap.size (fc qo)) w20.heap.size qo from setRow_set ZZ.out)
  go_upto_region 5 with (refine wpList_store_row rfl 32 (.tmp 3) (.tmp 42) rfl w20.heap.size (fc qo) rfl rfl 32 _ ZZ.out SO.out rfl (fc_one _) ?_)
  clear ZZ
  generalize (w20.alloc (.cells #[.int .u8 0, .int .i64 0, .int .i64 0, .int .i64 0, .int .i64 0, .int .i64 0, .int .i64 0, .int .i64 0, .int .i64 0, .slice none 0 0, .slice none 0 0, .slice none 0 0, .slice none 0 0, .slice none 0 0] 32)).setRow w20.heap.size (fc qo) = w21 at *
  have H21 := Lib.hid (H20.out.step B2.out)
  have K21 := Lib.hid (K20.out.trans (Kept.of B2.out H20.out.hd))
  have F21 := Lib.hid (F20.out.reads.below B2.out)
  have RR := Lib.hid (fun W' (hb : Below w21.heap.size w21 W') => (show (Instr.loadAt 32 (.pointer (some ⟨w20.heap.size, 0, none⟩))).run Try.prog W' = .ok (.agg (fc qo)) W' from by
    simp only [Instr.loadAt, Instr.sureAddr, Sem.run_bind, Sem.run_pure, Result.andThen_ok, run_fb (fb_below Z2.out hb)]))
  have DR := Lib.hid (show Below w21.heap.size w21 w21.drew from ⟨rfl, rfl, rfl, Nat.le_refl _, fun _ _ => rfl⟩)
  refine wp_region_held_drew (S := fun W' => (Instr.loadAt 32 (.pointer (some ⟨w20.heap.size, 0, none⟩))).run Try.prog W' = .ok (.agg (fc qo)) W') (by kernel_rfl) ?_ (fun hHeld => ?_)
  · exact RR.out _ DR.out
  (refine wpAnyH_take (i := 0) (oi := ⟨_, _, _, _, _, _⟩) (v := ?_) rfl (by kernel_rfl) (by kernel_rfl) (by kernel_rfl) (fun _ _ _ h => h) (Or.inl ⟨by rfl, ?_⟩) (by assumption) ?_; rotate_left 1; · (intro w hSw; (try dsimp only at hSw); go_simp; all_goals with_reducible rfl))
  try simp only [Act.put, List.setIfInBounds_toArray, List.set_cons_zero, List.set_cons_succ]
  (refine wpAnyH_take (i := 1) (oi := ⟨_, _, _, _, _, _⟩) (v := ?_) rfl (by kernel_rfl) (by kernel_rfl) (by kernel_rfl) (fun _ _ _ h => h) (Or.inl ⟨by rfl, ?_⟩) (by assumption) ?_; rotate_left 1; · (intro w hSw; (try dsimp only at hSw); go_simp; all_goals with_reducible rfl))
  try simp only [Act.put, List.setIfInBounds_toArray, List.set_cons_zero, List.set_cons_succ]
  refine wpAnyH_take (i := 2) (oi := ⟨_, _, _, _, _, _⟩) (v := .agg (fc qo)) rfl (by kernel_rfl) (by kernel_rfl) (by kernel_rfl) (fun _ _ _ h => h) (yieldsIf_loadAt rfl 32 (.tmp 3) rfl (.pointer (some ⟨w20.heap.size, 0, none⟩)) rfl (fun _ h => h)) (by assumption) ?_
  try simp only [Act.put, List.setIfInBounds_toArray, List.set_cons_zero, List.set_cons_succ]
  refine wpAnyH_ready (rs := [3]) (by kernel_rfl) (by simp) ?_
  refine AllReadyH.cons (o := ⟨_, _, _, _, _, _⟩) rfl (fun Kq hKq => ?_) AllReadyH.nil
  go_simp
  clear hHeld
  (go_at_call 10; (with_reducible refine (of_any 5 2 _).mono ?_); rintro e22 w22 ⟨rfl, hb⟩; have B22 := Lib.hid (show Below w21.heap.size w21 w22 from ⟨hb.os, hb.tape, hb.output, hb.size, hb.block⟩); clear hb)
  refine hKq.out _ _ ?_ (fun hHeld => ?_)
  · (try dsimp only); exact RR.out _ B22.out
  clear hKq Kq
  try simp only [Act.put, List.setIfInBounds_toArray, List.set_cons_zero, List.set_cons_succ]
  refine wpAnyH_ready (rs := [4]) (by kernel_rfl) (by simp) ?_
  refine AllReadyH.cons (o := ⟨_, _, _, _, _, _⟩) rfl (fun Kq hKq => ?_) AllReadyH.nil
  go_simp
  clear hHeld
  (go_at_call 23; (with_reducible refine (same_any qo (bare 5 2) w22 (F21.out.below B22.out) (fr_bare _ 5 2) HO.out (by rw [HO.out]; exact fit_bare 5 2)).mono ?_); rintro e23 w23 ⟨rfl, hb⟩; have B23 := Lib.hid (below_after B22.out hb (Nat.le_refl _)); clear hb)
  refine hKq.out _ _ ?_ (fun hHeld => ?_)
  · (try dsimp only); exact RR.out _ B23.out
  clear hKq Kq
  try simp only [Act.put, List.setIfInBounds_toArray, List.set_cons_zero, List.set_cons_succ]
  (refine wpAnyH_take (i := 5) (oi := ⟨_, _, _, _, _, _⟩) (v := ?_) rfl (by kernel_rfl) (by kernel_rfl) (by kernel_rfl) (fun _ _ _ h => h) (Or.inl ⟨by rfl, ?_⟩) (by assumption) ?_; rotate_left 1; · (intro w hSw; (try dsimp only at hSw); go_simp; all_goals with_reducible rfl))
  try simp only [Act.put, List.setIfInBounds_toArray, List.set_cons_zero, List.set_cons_succ]
  (refine wpAnyH_take (i := 6) (oi := ⟨_, _, _, _, _, _⟩) (v := ?_) rfl (by kernel_rfl) (by kernel_rfl) (by kernel_rfl) (fun _ _ _ h => h) (Or.inl ⟨by rfl, ?_⟩) (by assumption) ?_; rotate_left 1; · (intro w hSw; (try dsimp only at hSw); go_simp; all_goals with_reducible rfl))
  try simp only [Act.put, List.setIfInBounds_toArray, List.set_cons_zero, List.set_cons_succ]
  first | (refine wpAnyH_take (i := 7) (oi := ⟨_, _, _, _, _, _⟩) (v := ?_) rfl (by kernel_rfl) (by kernel_rfl) (by kernel_rfl) (fun _ _ _ h => h) (Or.inl ⟨by rfl, ?_⟩) (by assumption) ?_; rotate_left 1; · (intro w hSw; (try dsimp only at hSw); go_simp; all_goals with_reducible rfl)) | refine wpAnyH_take (i := 7) (oi := ⟨_, _, _, _, _, _⟩) (v := undef) rfl (by kernel_rfl) (by kernel_rfl) (by kernel_rfl) (fun _ _ _ h => h) (Or.inr ⟨by kernel_rfl, rfl⟩) (by assumption) ?_
  try simp only [Act.put, List.setIfInBounds_toArray, List.set_cons_zero, List.set_cons_succ]
  refine wpAnyH_ready (rs := [8]) (by kernel_rfl) (by simp) ?_
  refine AllReadyH.cons (o := ⟨_, _, _, _, _, _⟩) rfl (fun Kq hKq => ?_) AllReadyH.nil
  go_simp
  clear hHeld
  (go_at_call 14; (with_reducible refine (bx_len _ w23 _ 2 _ (H21.out.step B23.out)).mono ?_); rintro e24 w24 ⟨rfl, rfl⟩)
  refine hKq.out _ _ ?_ (fun hHeld => ?_)
  · (try dsimp only); exact RR.out _ B23.out
  clear hKq Kq
  try simp only [Act.put, List.setIfInBounds_toArray, List.set_cons_zero, List.set_cons_succ]
  first | (refine wpAnyH_take (i := 9) (oi := ⟨_, _, _, _, _, _⟩) (v := ?_) rfl (by kernel_rfl) (by kernel_rfl) (by kernel_rfl) (fun _ _ _ h => h) (Or.inl ⟨by rfl, ?_⟩) (by assumption) ?_; rotate_left 1; · (intro w hSw; (try dsimp only at hSw); go_simp; all_goals with_reducible rfl)) | refine wpAnyH_take (i := 9) (oi := ⟨_, _, _, _, _, _⟩) (v := undef) rfl (by kernel_rfl) (by kernel_rfl) (by kernel_rfl) (fun _ _ _ h => h) (Or.inr ⟨by kernel_rfl, rfl⟩) (by assumption) ?_
  try simp only [Act.put, List.setIfInBounds_toArray, List.set_cons_zero, List.set_cons_succ]
  (refine wpAnyH_take (i := 10) (oi := ⟨_, _, _, _, _, _⟩) (v := ?_) rfl (by kernel_rfl) (by kernel_rfl) (by kernel_rfl) (fun _ _ _ h => h) (Or.inl ⟨by rfl, ?_⟩) (by assumption) ?_; rotate_left 1; · (intro w hSw; (try dsimp only at hSw); go_simp; all_goals with_reducible rfl))
  try simp only [Act.put, List.setIfInBounds_toArray, List.set_cons_zero, List.set_cons_succ]
  (refine wpAnyH_take (i := 11) (oi := ⟨_, _, _, _, _, _⟩) (v := ?_) rfl (by kernel_rfl) (by kernel_rfl) (by kernel_rfl) (fun _ _ _ h => h) (Or.inl ⟨by rfl, ?_⟩) (by assumption) ?_; rotate_left 1; · (intro w hSw; (try dsimp only at hSw); go_simp; all_goals with_reducible rfl))
  try simp only [Act.put, List.setIfInBounds_toArray, List.set_cons_zero]
  refine wpAnyH_done (by kernel_rfl) ?_ _
  have KF := Lib.hid (K21.out.trans (Kept.of B23.out H21.out.hd))
  go_wp2_with fail
  go_ret
  exact ⟨rfl, KF.out.below fun _ h => h⟩
end Go.Proofs.Ytmgiglefabbmcaa
