/-
  A walk over the law of who is behind somebody. It holds for every input that its premises let by.
-/
import Derived.Test.YtbjknjbjldodlaaRingG
namespace Go.Proofs.Ytbjknjbjldodlaa
open Go.RowKit Sets
set_option maxHeartbeats 4000000 in
theorem lawBehind_any (v : Value) (l : List Id2) (a i : Int) (u : Value) (nt : List Id2) (n : Int) (w : World) (h : Ids w v l) (h2 : Ids w u nt) (hr : -9223372036854775808 ≤ n ∧ n ≤ 9223372036854775807) :
    Calls Try.prog 7 #[v, .agg #[.int .i64 a, .int .i64 i], u, .int .i64 n] w fun e w' => e = .returned (.bool true) ∧ Below w.heap.size w w' := by
  obtain ⟨A, c, rfl, hz⟩ := id h
  obtain ⟨A2, c2, rfl, hz2⟩ := id h2
  clear hz hz2
  have HX := Lib.hid (box_new w a i)
  have B1 := Lib.hid (below_one w (.cells #[.int .i64 a, .int .i64 i] 23))
  have HI := Lib.hid (h.below B1.out)
  have HJ := Lib.hid (h2.below B1.out)
  clear h h2
  go_enter Try.func7, Try.ntmps7
  go_upto_region 1 with fail
  generalize w.alloc (.cells #[.int .i64 a, .int .i64 i] 23) = w0 at *
  go_wp2_with fail
  refine (rises_two _ _ l nt w0 HI.out HJ.out).mono ?_
  rintro e w1 ⟨rfl, hb⟩
  have I1 := Lib.hid (HI.out.below hb)
  have J1 := Lib.hid (HJ.out.below hb)
  have X1 := Lib.hid (box_below HX.out hb)
  have B2 := Lib.hid (below_after B1.out hb (Nat.le_refl _))
  clear hb HI HJ HX
  cases hg : good l && good nt with
  | false =>
    go_wp2_with fail
    refine (awake_any _).mono ?_
    rintro e w2 ⟨rfl, hb⟩
    have B3 := Lib.hid (below_after B2.out hb (Nat.le_refl _))
    clear hb
    go_wp2_with fail
    go_ret
    exact ⟨rfl, B3.out⟩
  | true =>
  have hg2 := Bool.and_eq_true_iff.1 hg
  have hlen := (good_rises hg2.1).1
  have hlen2 := (good_rises hg2.2).1
  have HR := Lib.hid (good_rises hg2.1).2
  clear hg hg2
  by_cases hn : n < 1
  · have hd : decide (n < 1) = true := by simpa using hn
    go_wp2_with fail
    refine (awake_any _).mono ?_
    rintro e w2 ⟨rfl, hb⟩
    have B3 := Lib.hid (below_after B2.out hb (Nat.le_refl _))
    clear hb
    go_wp2_with fail
    go_ret
    exact ⟨rfl, B3.out⟩
  have hd : decide (n < 1) = false := by simpa using hn
  obtain ⟨x1, x2⟩ := box_cells X1.out
  go_wp2_with fail
  refine (refHas_any _ l a i _ I1.out (by omega)).mono ?_
  rintro e w3 ⟨rfl, hb⟩
  have I3 := Lib.hid (I1.out.below hb)
  have J3 := Lib.hid (J1.out.below hb)
  have X3 := Lib.hid (box_below X1.out hb)
  have B4 := Lib.hid (below_after B2.out hb (Nat.le_refl _))
  clear hb x1 x2
  cases hh : hasB (a, i) l with
  | false =>
    go_wp2_with fail
    refine (awake_any _).mono ?_
    rintro e w2 ⟨rfl, hb⟩
    have B3 := Lib.hid (below_after B4.out hb (Nat.le_refl _))
    clear hb
    go_wp2_with fail
    go_ret
    exact ⟨rfl, B3.out⟩
  | true =>
  have HM := Lib.hid (show (a, i) ∈ l by simpa [hasB] using hh)
  clear hh I1 J1 X1 B2
  go_wp2_with fail
  refine (awake_any _).mono ?_
  rintro e w4 ⟨rfl, hb⟩
  have I4 := Lib.hid (I3.out.below hb)
  have J4 := Lib.hid (J3.out.below hb)
  have X4 := Lib.hid (box_below X3.out hb)
  have B5 := Lib.hid (below_after B4.out hb (Nat.le_refl _))
  clear hb I3 J3 X3 B4
  obtain ⟨x1, x2⟩ := box_cells X4.out
  go_wp2_with fail
  refine (behind_any _ l a i _ I4.out (by omega)).mono ?_
  rintro e w5 ⟨rfl, hb⟩
  have I5 := Lib.hid (I4.out.below hb)
  have J5 := Lib.hid (J4.out.below hb)
  have X5 := Lib.hid (box_below X4.out hb)
  have B6 := Lib.hid (below_after B5.out hb (Nat.le_refl _))
  clear hb x1 x2 I4 J4 X4 B5
  have HNX := Lib.hid fun hne => behind_next HR.out HM.out hne
  have HAL := Lib.hid fun he => alone HR.out HM.out he
  generalize hbx : (lastR (rg l (a, i))).1 = bx at *
  generalize hbz : (lastR (rg l (a, i))).2 = bz at *
  have HL := Lib.hid (show lastR (rg l (a, i)) = (bx, bz) from Prod.ext hbx hbz)
  clear hbx hbz
  cases he : !(rg l (a, i)).isEmpty with
  | false =>
    have HE := Lib.hid (HAL.out (by simpa using he))
    have hone : ((l.length : Int) == 1) = true := by rw [HE.out]; rfl
    clear he
    go_wp2_with fail
    go_ret
    exact ⟨rfl, below_after B6.out (below_one _ _) (Nat.le_refl _)⟩
  | true =>
    have HB := Lib.hid (HNX.out (by simpa using he))
    rw [HL.out] at HB
    obtain ⟨t, HC⟩ := HB.out
    have HHAS := Lib.hid (show hasB (a, i) (setOf (del (both l nt) (bx, bz) ++ (rg (without l nt) (bx, bz)).take n.toNat)) = true from decide_eq_true (show (a, i) ∈ watchL l (bx, bz) nt n from watched_first HR.out nt (by omega) HC))
    have HWL := Lib.hid (show (setOf (del (both l nt) (bx, bz) ++ (rg (without l nt) (bx, bz)).take n.toNat)).length ≤ l.length from watchL_short HR.out (bx, bz) nt n)
    have HCL := Lib.hid (show 0 < (rg l (bx, bz)).length by rw [HC]; simp)
    have HRL := Lib.hid (rg_short HR.out (bx, bz))
    have HC2 := Lib.hid HC
    clear he HB HNX HAL HL HC
    go_upto_region 4 with fail
    have hb := below_one w5 (.cells #[.int .i64 bx, .int .i64 bz] 23)
    have I6 := Lib.hid (I5.out.below hb)
    have J6 := Lib.hid (J5.out.below hb)
    have X6 := Lib.hid (box_below X5.out hb)
    have Z6 := Lib.hid (box_new w5 bx bz)
    have B7 := Lib.hid (below_after B6.out hb (Nat.le_refl _))
    clear hb
    generalize w5.alloc (.cells #[.int .i64 bx, .int .i64 bz] 23) = w6 at *
    generalize w5.heap.size = g9 at *
    obtain ⟨x1, x2⟩ := box_cells Z6.out
    go_wp2_with fail
    refine (order_any _ l bx bz _ I6.out (by omega)).mono ?_
    rintro e w9 ⟨vo, rfl, ho, hb⟩
    have I9 := Lib.hid (I6.out.below hb)
    have J9 := Lib.hid (J6.out.below hb)
    have X9 := Lib.hid (box_below X6.out hb)
    have Z9 := Lib.hid (box_below Z6.out hb)
    have B9 := Lib.hid (below_after B7.out hb (Nat.le_refl _))
    have O9 := Lib.hid ho
    have hcl := HCL.out
    have hrl := HRL.out
    obtain ⟨Ao, co, rfl, hz⟩ := ho
    obtain ⟨ad, rfl, c1, c2⟩ := O9.out.at_ (Below.refl _ _) HCL.out
    simp only [Nat.zero_mul, add_zero', HC2.out, List.getElem_cons_zero] at c1 c2
    clear hz hb x1 x2 I6 J6 X6 Z6
    have HS := Lib.hid fun w' (hb : Below w9.heap.size w9 w') => (show ((w'.cell? ⟨w.heap.size, 0, none⟩ = some (.int .i64 a) ∧ w'.cell? ⟨w.heap.size, 1, none⟩ = some (.int .i64 i)) ∧ (w'.cell? ⟨g9, 0, none⟩ = some (.int .i64 bx) ∧ w'.cell? ⟨g9, 1, none⟩ = some (.int .i64 bz)) ∧ w'.cell? ad = some (.int .i64 a) ∧ w'.cell? ⟨ad.block, ad.off + 1, none⟩ = some (.int .i64 i)) from
      ⟨box_cells (box_below X9.out hb), box_cells (box_below Z9.out hb), (hb.cell (World.block_lt_of_cell? w9 _ c1)).trans c1, (hb.cell (World.block_lt_of_cell? w9 _ c2)).trans c2⟩)
    have KB := Lib.hid (show Below w9.heap.size w9 w9.drew from (Below.refl _ _).drew)
    generalize (rg l (bx, bz)).length = ol at *
    have hgt : decide ((0 : Int) < (ol : Int)) = true := by simp; omega
    have hgt2 : (0 : Int) < (ol : Int) := by omega
    go_wp2_with fail
    · skip
      refine wp_region_held_drew (S := (fun w' : World => (w'.cell? ⟨w.heap.size, 0, none⟩ = some (.int .i64 a) ∧ w'.cell? ⟨w.heap.size, 1, none⟩ = some (.int .i64 i)) ∧ (w'.cell? ⟨g9, 0, none⟩ = some (.int .i64 bx) ∧ w'.cell? ⟨g9, 1, none⟩ = some (.int .i64 bz)) ∧ w'.cell? ad = some (.int .i64 a) ∧ w'.cell? ⟨ad.block, ad.off + 1, none⟩ = some (.int .i64 i))) (by kernel_rfl) ?_ (fun hHeld => ?_)
      · exact HS.out _ (Below.refl _ _).drew
      (refine wpAnyH_take (i := 0) (oi := ⟨_, _, _, _, _, _⟩) (v := ?_) rfl (by kernel_rfl) (by kernel_rfl) (by kernel_rfl) (fun _ _ _ h => h) (Or.inl ⟨by rfl, ?_⟩) (by assumption) ?_; rotate_left 1; · (intro w hSw; (try dsimp only at hSw); go_simp; all_goals with_reducible rfl))
      try simp only [Act.put, List.setIfInBounds_toArray, List.set_cons_zero, List.set_cons_succ]
      (refine wpAnyH_take (i := 1) (oi := ⟨_, _, _, _, _, _⟩) (v := ?_) rfl (by kernel_rfl) (by kernel_rfl) (by kernel_rfl) (fun _ _ _ h => h) (Or.inl ⟨by rfl, ?_⟩) (by assumption) ?_; rotate_left 1; · (intro w hSw; (try dsimp only at hSw); go_simp; all_goals with_reducible rfl))
      try simp only [Act.put, List.setIfInBounds_toArray, List.set_cons_zero, List.set_cons_succ]
      (refine wpAnyH_take (i := 2) (oi := ⟨_, _, _, _, _, _⟩) (v := ?_) rfl (by kernel_rfl) (by kernel_rfl) (by kernel_rfl) (fun _ _ _ h => h) (Or.inl ⟨by rfl, ?_⟩) (by assumption) ?_; rotate_left 1; · (intro w hSw; (try dsimp only at hSw); go_simp; all_goals with_reducible rfl))
      try simp only [Act.put, List.setIfInBounds_toArray, List.set_cons_zero, List.set_cons_succ]
      (refine wpAnyH_take (i := 3) (oi := ⟨_, _, _, _, _, _⟩) (v := ?_) rfl (by kernel_rfl) (by kernel_rfl) (by kernel_rfl) (fun _ _ _ h => h) (Or.inl ⟨by rfl, ?_⟩) (by assumption) ?_; rotate_left 1; · (intro w hSw; (try dsimp only at hSw); go_simp; all_goals with_reducible rfl))
      try simp only [Act.put, List.setIfInBounds_toArray, List.set_cons_zero, List.set_cons_succ]
      first | (refine wpAnyH_take (i := 4) (oi := ⟨_, _, _, _, _, _⟩) (v := ?_) rfl (by kernel_rfl) (by kernel_rfl) (by kernel_rfl) (fun _ _ _ h => h) (Or.inl ⟨by rfl, ?_⟩) (by assumption) ?_; rotate_left 1; · (intro w hSw; (try dsimp only at hSw); go_simp; all_goals with_reducible rfl)) | refine wpAnyH_take (i := 4) (oi := ⟨_, _, _, _, _, _⟩) (v := undef) rfl (by kernel_rfl) (by kernel_rfl) (by kernel_rfl) (fun _ _ _ h => h) (Or.inr ⟨by kernel_rfl, rfl⟩) (by assumption) ?_
      try simp only [Act.put, List.setIfInBounds_toArray, List.set_cons_zero, List.set_cons_succ]
      first | (refine wpAnyH_take (i := 5) (oi := ⟨_, _, _, _, _, _⟩) (v := ?_) rfl (by kernel_rfl) (by kernel_rfl) (by kernel_rfl) (fun _ _ _ h => h) (Or.inl ⟨by rfl, ?_⟩) (by assumption) ?_; rotate_left 1; · (intro w hSw; (try dsimp only at hSw); go_simp; all_goals with_reducible rfl)) | refine wpAnyH_take (i := 5) (oi := ⟨_, _, _, _, _, _⟩) (v := undef) rfl (by kernel_rfl) (by kernel_rfl) (by kernel_rfl) (fun _ _ _ h => h) (Or.inr ⟨by kernel_rfl, rfl⟩) (by assumption) ?_
      try simp only [Act.put, List.setIfInBounds_toArray, List.set_cons_zero, List.set_cons_succ]
      first | (refine wpAnyH_take (i := 6) (oi := ⟨_, _, _, _, _, _⟩) (v := ?_) rfl (by kernel_rfl) (by kernel_rfl) (by kernel_rfl) (fun _ _ _ h => h) (Or.inl ⟨by rfl, ?_⟩) (by assumption) ?_; rotate_left 1; · (intro w hSw; (try dsimp only at hSw); go_simp; all_goals with_reducible rfl)) | refine wpAnyH_take (i := 6) (oi := ⟨_, _, _, _, _, _⟩) (v := undef) rfl (by kernel_rfl) (by kernel_rfl) (by kernel_rfl) (fun _ _ _ h => h) (Or.inr ⟨by kernel_rfl, rfl⟩) (by assumption) ?_
      try simp only [Act.put, List.setIfInBounds_toArray, List.set_cons_zero, List.set_cons_succ]
      first | (refine wpAnyH_take (i := 7) (oi := ⟨_, _, _, _, _, _⟩) (v := ?_) rfl (by kernel_rfl) (by kernel_rfl) (by kernel_rfl) (fun _ _ _ h => h) (Or.inl ⟨by rfl, ?_⟩) (by assumption) ?_; rotate_left 1; · (intro w hSw; (try dsimp only at hSw); go_simp; all_goals with_reducible rfl)) | refine wpAnyH_take (i := 7) (oi := ⟨_, _, _, _, _, _⟩) (v := undef) rfl (by kernel_rfl) (by kernel_rfl) (by kernel_rfl) (fun _ _ _ h => h) (Or.inr ⟨by kernel_rfl, rfl⟩) (by assumption) ?_
      try simp only [Act.put, List.setIfInBounds_toArray, List.set_cons_zero, List.set_cons_succ]
      first | (refine wpAnyH_take (i := 8) (oi := ⟨_, _, _, _, _, _⟩) (v := ?_) rfl (by kernel_rfl) (by kernel_rfl) (by kernel_rfl) (fun _ _ _ h => h) (Or.inl ⟨by rfl, ?_⟩) (by assumption) ?_; rotate_left 1; · (intro w hSw; (try dsimp only at hSw); go_simp; all_goals with_reducible rfl)) | refine wpAnyH_take (i := 8) (oi := ⟨_, _, _, _, _, _⟩) (v := undef) rfl (by kernel_rfl) (by kernel_rfl) (by kernel_rfl) (fun _ _ _ h => h) (Or.inr ⟨by kernel_rfl, rfl⟩) (by assumption) ?_
      try simp only [Act.put, List.setIfInBounds_toArray, List.set_cons_zero, List.set_cons_succ]
      (refine wpAnyH_take (i := 9) (oi := ⟨_, _, _, _, _, _⟩) (v := ?_) rfl (by kernel_rfl) (by kernel_rfl) (by kernel_rfl) (fun _ _ _ h => h) (Or.inl ⟨by rfl, ?_⟩) (by assumption) ?_; rotate_left 1; · (intro w hSw; (try dsimp only at hSw); go_simp; all_goals with_reducible rfl))
      try simp only [Act.put, List.setIfInBounds_toArray, List.set_cons_zero, List.set_cons_succ]
      (refine wpAnyH_take (i := 10) (oi := ⟨_, _, _, _, _, _⟩) (v := ?_) rfl (by kernel_rfl) (by kernel_rfl) (by kernel_rfl) (fun _ _ _ h => h) (Or.inl ⟨by rfl, ?_⟩) (by assumption) ?_; rotate_left 1; · (intro w hSw; (try dsimp only at hSw); go_simp; all_goals with_reducible rfl))
      try simp only [Act.put, List.setIfInBounds_toArray, List.set_cons_zero, List.set_cons_succ]
      first | (refine wpAnyH_take (i := 11) (oi := ⟨_, _, _, _, _, _⟩) (v := ?_) rfl (by kernel_rfl) (by kernel_rfl) (by kernel_rfl) (fun _ _ _ h => h) (Or.inl ⟨by rfl, ?_⟩) (by assumption) ?_; rotate_left 1; · (intro w hSw; (try dsimp only at hSw); go_simp; all_goals with_reducible rfl)) | refine wpAnyH_take (i := 11) (oi := ⟨_, _, _, _, _, _⟩) (v := undef) rfl (by kernel_rfl) (by kernel_rfl) (by kernel_rfl) (fun _ _ _ h => h) (Or.inr ⟨by kernel_rfl, rfl⟩) (by assumption) ?_
      try simp only [Act.put, List.setIfInBounds_toArray, List.set_cons_zero, List.set_cons_succ]
      first | (refine wpAnyH_take (i := 12) (oi := ⟨_, _, _, _, _, _⟩) (v := ?_) rfl (by kernel_rfl) (by kernel_rfl) (by kernel_rfl) (fun _ _ _ h => h) (Or.inl ⟨by rfl, ?_⟩) (by assumption) ?_; rotate_left 1; · (intro w hSw; (try dsimp only at hSw); go_simp; all_goals with_reducible rfl)) | refine wpAnyH_take (i := 12) (oi := ⟨_, _, _, _, _, _⟩) (v := undef) rfl (by kernel_rfl) (by kernel_rfl) (by kernel_rfl) (fun _ _ _ h => h) (Or.inr ⟨by kernel_rfl, rfl⟩) (by assumption) ?_
      try simp only [Act.put, List.setIfInBounds_toArray, List.set_cons_zero, List.set_cons_succ]
      first | (refine wpAnyH_take (i := 13) (oi := ⟨_, _, _, _, _, _⟩) (v := ?_) rfl (by kernel_rfl) (by kernel_rfl) (by kernel_rfl) (fun _ _ _ h => h) (Or.inl ⟨by rfl, ?_⟩) (by assumption) ?_; rotate_left 1; · (intro w hSw; (try dsimp only at hSw); go_simp; all_goals with_reducible rfl)) | refine wpAnyH_take (i := 13) (oi := ⟨_, _, _, _, _, _⟩) (v := undef) rfl (by kernel_rfl) (by kernel_rfl) (by kernel_rfl) (fun _ _ _ h => h) (Or.inr ⟨by kernel_rfl, rfl⟩) (by assumption) ?_
      try simp only [Act.put, List.setIfInBounds_toArray, List.set_cons_zero, List.set_cons_succ]
      first | (refine wpAnyH_take (i := 14) (oi := ⟨_, _, _, _, _, _⟩) (v := ?_) rfl (by kernel_rfl) (by kernel_rfl) (by kernel_rfl) (fun _ _ _ h => h) (Or.inl ⟨by rfl, ?_⟩) (by assumption) ?_; rotate_left 1; · (intro w hSw; (try dsimp only at hSw); go_simp; all_goals with_reducible rfl)) | refine wpAnyH_take (i := 14) (oi := ⟨_, _, _, _, _, _⟩) (v := undef) rfl (by kernel_rfl) (by kernel_rfl) (by kernel_rfl) (fun _ _ _ h => h) (Or.inr ⟨by kernel_rfl, rfl⟩) (by assumption) ?_
      try simp only [Act.put, List.setIfInBounds_toArray, List.set_cons_zero, List.set_cons_succ]
      first | (refine wpAnyH_take (i := 16) (oi := ⟨_, _, _, _, _, _⟩) (v := ?_) rfl (by kernel_rfl) (by kernel_rfl) (by kernel_rfl) (fun _ _ _ h => h) (Or.inl ⟨by rfl, ?_⟩) (by assumption) ?_; rotate_left 1; · (intro w hSw; (try dsimp only at hSw); go_simp; all_goals with_reducible rfl)) | refine wpAnyH_take (i := 16) (oi := ⟨_, _, _, _, _, _⟩) (v := undef) rfl (by kernel_rfl) (by kernel_rfl) (by kernel_rfl) (fun _ _ _ h => h) (Or.inr ⟨by kernel_rfl, rfl⟩) (by assumption) ?_
      try simp only [Act.put, List.setIfInBounds_toArray, List.set_cons_zero, List.set_cons_succ]
      refine wpAnyH_ready (rs := [15]) (by kernel_rfl) (by simp) ?_
      refine AllReadyH.cons (o := ⟨_, _, _, _, _, _⟩) rfl (fun Kq hKq => ?_) AllReadyH.nil
      go_simp
      clear hHeld
      go_at_call 11; (with_reducible refine (watched_any _ _ l nt bx bz n _ (I9.out.below KB.out) (J9.out.below KB.out) (by omega) (by omega) hr.1 hr.2).mono ?_); rintro e w10 ⟨v10, rfl, hi, hb⟩; have W10 := Lib.hid hi; have KB := Lib.hid (KB.out.trans (hb.mono KB.out.size)); clear hi hb
      refine hKq.out _ _ ?_ (fun hHeld => ?_)
      · (try dsimp only); exact HS.out _ KB.out
      clear hKq Kq
      try simp only [Act.put, List.setIfInBounds_toArray, List.set_cons_zero, List.set_cons_succ]
      refine wpAnyH_ready (rs := [17]) (by kernel_rfl) (by simp) ?_
      refine AllReadyH.cons (o := ⟨_, _, _, _, _, _⟩) rfl (fun Kq hKq => ?_) AllReadyH.nil
      go_simp
      clear hHeld
      go_at_call 17; (with_reducible refine (refHas_any _ _ a i _ W10.out (Nat.le_trans (HWL.out) (by omega))).mono ?_); rw [HHAS.out]; rintro e w11 ⟨rfl, hb⟩; have KB := Lib.hid (KB.out.trans (hb.mono KB.out.size)); clear hb
      refine hKq.out _ _ ?_ (fun hHeld => ?_)
      · (try dsimp only); exact HS.out _ KB.out
      clear hKq Kq
      try simp only [Act.put, List.setIfInBounds_toArray, List.set_cons_zero, List.set_cons_succ]
      (refine wpAnyH_take (i := 18) (oi := ⟨_, _, _, _, _, _⟩) (v := ?_) rfl (by kernel_rfl) (by kernel_rfl) (by kernel_rfl) (fun _ _ _ h => h) (Or.inl ⟨by rfl, ?_⟩) (by assumption) ?_; rotate_left 1; · (intro w hSw; (try dsimp only at hSw); go_simp; all_goals with_reducible rfl))
      try simp only [Act.put, List.setIfInBounds_toArray, List.set_cons_zero, List.set_cons_succ]
      (refine wpAnyH_take (i := 19) (oi := ⟨_, _, _, _, _, _⟩) (v := ?_) rfl (by kernel_rfl) (by kernel_rfl) (by kernel_rfl) (fun _ _ _ h => h) (Or.inl ⟨by rfl, ?_⟩) (by assumption) ?_; rotate_left 1; · (intro w hSw; (try dsimp only at hSw); go_simp; all_goals with_reducible rfl))
      try simp only [Act.put, List.setIfInBounds_toArray, List.set_cons_zero, List.set_cons_succ]
      refine wpAnyH_done (by kernel_rfl) ?_ _
      go_wp2_with fail
      go_ret
      exact ⟨rfl, below_after B9.out KB.out (Nat.le_refl _)⟩
end Go.Proofs.Ytbjknjbjldodlaa
