/-
  A walk over the laws' examples. No statement is proved in this text; it holds for every input that its premises let by.
-/
import Derived.Test.YtbjknjbjldodlaaRingE
namespace Go.Proofs.Ytbjknjbjldodlaa
open Go.RowKit Sets
/-- A literal of IDs, as it has just been made. -/
theorem ids_lit (w : World) (ps : List Id2) : Ids (w.alloc (.cells (flat ps).toArray 23)) (.slice (some ⟨w.heap.size, 0, none⟩) ps.length ps.length) ps := by
  have hk : ∀ k (hk : k < ps.length), (w.alloc (.cells (flat ps).toArray 23)).cell? ((⟨w.heap.size, 0, none⟩ : Addr).add (k * 2)) = some (.int .i64 ps[k].1) ∧ (w.alloc (.cells (flat ps).toArray 23)).cell? ⟨((⟨w.heap.size, 0, none⟩ : Addr).add (k * 2)).block, ((⟨w.heap.size, 0, none⟩ : Addr).add (k * 2)).off + 1, none⟩ = some (.int .i64 ps[k].2) := by
    intro k hk
    have e : (⟨w.heap.size, 0, none⟩ : Addr).add (k * 2) = ⟨w.heap.size, k * 2, none⟩ := by unfold Addr.add; split <;> simp_all
    rw [e]
    refine ⟨?_, ?_⟩
    · rw [cell_of_row _ _ (k * 2) _ _ _ (heap_alloc_new w _)]
      simpa using (flat_at ps k hk).1
    · show (w.alloc _).cell? ⟨w.heap.size, k * 2 + 1, none⟩ = _
      rw [cell_of_row _ _ (k * 2 + 1) _ _ _ (heap_alloc_new w _)]
      simpa using (flat_at ps k hk).2
  exact ⟨some ⟨w.heap.size, 0, none⟩, ps.length, rfl, (fun h => by injection h), Nat.le_refl _, fun k h => ⟨_, rfl, by simp, (hk k h).1, (hk k h).2⟩⟩
set_option maxHeartbeats 4000000 in
theorem awake_any (w : World) : Calls Try.prog 12 #[] w fun e w' => e = .returned (.bool true) ∧ Below w.heap.size w w' := by
  have HF1 := Lib.hid (show sameB (setOf (rg [(1, 1), (2, 1), (4, 1), (7, 1)] (4, 1))) (setOf [(7, 1), (1, 1), (2, 1)]) = true by kernel_rfl)
  have HF2 := Lib.hid (show sameB (setOf (setOf (del (both [(1, 1), (2, 1), (4, 1), (7, 1)] [(7, 1)]) (4, 1) ++ (rg (without [(1, 1), (2, 1), (4, 1), (7, 1)] [(7, 1)]) (4, 1)).take (1 : Int).toNat))) (setOf [(1, 1), (7, 1)]) = true by kernel_rfl)
  have HF3 := Lib.hid (show (setOf (del (both [(1, 1), (2, 1), (4, 1), (7, 1)] [(7, 1)]) (4, 1) ++ (rg (without [(1, 1), (2, 1), (4, 1), (7, 1)] [(7, 1)]) (4, 1)).take (1 : Int).toNat)).length = 2 by kernel_rfl)
  have HF4 := Lib.hid (show lastR (rg [(1, 1), (2, 1), (4, 1), (7, 1)] (1, 1)) = (7, 1) ∧ (!(rg [(1, 1), (2, 1), (4, 1), (7, 1)] (1, 1)).isEmpty) = true from ⟨by kernel_rfl, by kernel_rfl⟩)
  go_enter Try.func12, Try.ntmps12
  go_wp2_with fail
  refine (at_any 1 _).mono ?_
  rintro e w1 ⟨rfl, hb⟩
  have KB := Lib.hid hb
  clear hb
  go_wp2_with fail
  refine (at_any 2 _).mono ?_
  rintro e w2 ⟨rfl, hb⟩
  have KB := Lib.hid (KB.out.trans (hb.mono KB.out.size))
  clear hb
  go_wp2_with fail
  refine (at_any 4 _).mono ?_
  rintro e w3 ⟨rfl, hb⟩
  have KB := Lib.hid (KB.out.trans (hb.mono KB.out.size))
  clear hb
  go_wp2_with fail
  refine (at_any 7 _).mono ?_
  rintro e w4 ⟨rfl, hb⟩
  have KB := Lib.hid (KB.out.trans (hb.mono KB.out.size))
  clear hb
  go_wp2_with fail
  have LI := Lib.hid (show Ids (w4.alloc (.cells #[.int .i64 1, .int .i64 1, .int .i64 2, .int .i64 1, .int .i64 4, .int .i64 1, .int .i64 7, .int .i64 1] 23)) (.slice (some ⟨w4.heap.size, 0, none⟩) 4 4) [(1, 1), (2, 1), (4, 1), (7, 1)] from ids_lit w4 [(1, 1), (2, 1), (4, 1), (7, 1)])
  have KB := Lib.hid (KB.out.trans ((below_one w4 (.cells #[.int .i64 1, .int .i64 1, .int .i64 2, .int .i64 1, .int .i64 4, .int .i64 1, .int .i64 7, .int .i64 1] 23)).mono KB.out.size))
  refine (at_any 1 _).mono ?_
  rintro e w5 ⟨rfl, hb⟩
  have LI := Lib.hid (LI.out.below hb)
  have KB := Lib.hid (KB.out.trans (hb.mono KB.out.size))
  clear hb
  generalize w4.heap.size = g4 at *
  go_wp2_with fail
  refine (behind_any _ [(1, 1), (2, 1), (4, 1), (7, 1)] 1 1 _ LI.out (by simp)).mono ?_
  rw [HF4.out.1, HF4.out.2]
  rintro e w6 ⟨rfl, hb⟩
  have LI := Lib.hid (LI.out.below hb)
  have KB := Lib.hid (KB.out.trans (hb.mono KB.out.size))
  clear hb
  go_wp2_with fail
  have BX := Lib.hid (box_new w6 7 1)
  have hb := below_one w6 (.cells #[.int .i64 7, .int .i64 1] 23)
  have LI := Lib.hid (LI.out.below hb)
  have KB0 := Lib.hid (KB.out.trans (hb.mono KB.out.size))
  clear hb
  generalize (w6.alloc (.cells #[.int .i64 7, .int .i64 1] 23)) = w7 at *
  have HS := Lib.hid fun w' (hb : Below w7.heap.size w7 w') => box_cells (box_below BX.out hb)
  have KB := Lib.hid (show Below w7.heap.size w7 w7.drew from (Below.refl _ _).drew)
  have LI := Lib.hid (LI.out.below KB.out)
  refine wp_region_held_drew (S := (fun w' : World => w'.cell? ⟨w6.heap.size, 0, none⟩ = some (.int .i64 7) ∧ w'.cell? ⟨w6.heap.size, 1, none⟩ = some (.int .i64 1))) (by kernel_rfl) ?_ (fun hHeld => ?_)
  · exact HS.out _ (Below.refl _ _).drew
  (refine wpAnyH_take (i := 0) (oi := ⟨_, _, _, _, _, _⟩) (v := ?_) rfl (by kernel_rfl) (by kernel_rfl) (by kernel_rfl) (fun _ _ _ h => h) (Or.inl ⟨by rfl, ?_⟩) (by assumption) ?_; rotate_left 1; · (intro w hSw; (try dsimp only at hSw); go_simp; all_goals with_reducible rfl))
  try simp only [Act.put, List.setIfInBounds_toArray, List.set_cons_zero, List.set_cons_succ]
  refine wpAnyH_ready (rs := [1]) (by kernel_rfl) (by simp) ?_
  refine AllReadyH.cons (o := ⟨_, _, _, _, _, _⟩) rfl (fun Kq hKq => ?_) AllReadyH.nil
  go_simp
  clear hHeld
  go_at_call 8; (with_reducible refine (at_any 4 _).mono ?_); rintro e w8 ⟨rfl, hb⟩; have LI := Lib.hid (LI.out.below hb); have KB := Lib.hid (KB.out.trans (hb.mono KB.out.size)); clear hb
  refine hKq.out _ _ ?_ (fun hHeld => ?_)
  · (try dsimp only); exact HS.out _ KB.out
  clear hKq Kq
  try simp only [Act.put, List.setIfInBounds_toArray, List.set_cons_zero, List.set_cons_succ]
  refine wpAnyH_ready (rs := [2]) (by kernel_rfl) (by simp) ?_
  refine AllReadyH.cons (o := ⟨_, _, _, _, _, _⟩) rfl (fun Kq hKq => ?_) AllReadyH.nil
  go_simp
  clear hHeld
  go_at_call 10; (with_reducible refine (order_any _ [(1, 1), (2, 1), (4, 1), (7, 1)] 4 1 _ LI.out (by simp)).mono ?_); rintro e w9 ⟨v17, rfl, hi, hb⟩; have LI := Lib.hid (LI.out.below hb); have KB := Lib.hid (KB.out.trans (hb.mono KB.out.size)); have LO := Lib.hid hi; clear hi hb
  refine hKq.out _ _ ?_ (fun hHeld => ?_)
  · (try dsimp only); exact HS.out _ KB.out
  clear hKq Kq
  try simp only [Act.put, List.setIfInBounds_toArray, List.set_cons_zero, List.set_cons_succ]
  refine wpAnyH_ready (rs := [3]) (by kernel_rfl) (by simp) ?_
  refine AllReadyH.cons (o := ⟨_, _, _, _, _, _⟩) rfl (fun Kq hKq => ?_) AllReadyH.nil
  go_simp
  clear hHeld
  go_at_call 8; (with_reducible refine (at_any 7 _).mono ?_); rintro e w10 ⟨rfl, hb⟩; have LI := Lib.hid (LI.out.below hb); have LO := Lib.hid (LO.out.below hb); have KB := Lib.hid (KB.out.trans (hb.mono KB.out.size)); clear hb
  refine hKq.out _ _ ?_ (fun hHeld => ?_)
  · (try dsimp only); exact HS.out _ KB.out
  clear hKq Kq
  try simp only [Act.put, List.setIfInBounds_toArray, List.set_cons_zero, List.set_cons_succ]
  refine wpAnyH_ready (rs := [4]) (by kernel_rfl) (by simp) ?_
  refine AllReadyH.cons (o := ⟨_, _, _, _, _, _⟩) rfl (fun Kq hKq => ?_) AllReadyH.nil
  go_simp
  clear hHeld
  go_at_call 8; (with_reducible refine (at_any 1 _).mono ?_); rintro e w11 ⟨rfl, hb⟩; have LI := Lib.hid (LI.out.below hb); have LO := Lib.hid (LO.out.below hb); have KB := Lib.hid (KB.out.trans (hb.mono KB.out.size)); clear hb
  refine hKq.out _ _ ?_ (fun hHeld => ?_)
  · (try dsimp only); exact HS.out _ KB.out
  clear hKq Kq
  try simp only [Act.put, List.setIfInBounds_toArray, List.set_cons_zero, List.set_cons_succ]
  refine wpAnyH_ready (rs := [5]) (by kernel_rfl) (by simp) ?_
  refine AllReadyH.cons (o := ⟨_, _, _, _, _, _⟩) rfl (fun Kq hKq => ?_) AllReadyH.nil
  go_simp
  clear hHeld
  go_at_call 8; (with_reducible refine (at_any 2 _).mono ?_); rintro e w12 ⟨rfl, hb⟩; have LI := Lib.hid (LI.out.below hb); have LO := Lib.hid (LO.out.below hb); have KB := Lib.hid (KB.out.trans (hb.mono KB.out.size)); clear hb
  refine hKq.out _ _ ?_ (fun hHeld => ?_)
  · (try dsimp only); exact HS.out _ KB.out
  clear hKq Kq
  try simp only [Act.put, List.setIfInBounds_toArray, List.set_cons_zero, List.set_cons_succ]
  refine wpAnyH_ready (rs := [6]) (by kernel_rfl) (by simp) ?_
  refine AllReadyH.cons (o := ⟨_, _, _, _, _, _⟩) rfl (fun Kq hKq => ?_) AllReadyH.nil
  go_simp
  clear hHeld
  have hb := below_one w12 (.cells #[.int .i64 7, .int .i64 1, .int .i64 1, .int .i64 1, .int .i64 2, .int .i64 1] 23); have LA := Lib.hid (show Ids (w12.alloc (.cells #[.int .i64 7, .int .i64 1, .int .i64 1, .int .i64 1, .int .i64 2, .int .i64 1] 23)) (.slice (some ⟨w12.heap.size, 0, none⟩) 3 3) [(7, 1), (1, 1), (2, 1)] from ids_lit w12 [(7, 1), (1, 1), (2, 1)]); have LI := Lib.hid (LI.out.below hb); have LO := Lib.hid (LO.out.below hb); have KB := Lib.hid (KB.out.trans (hb.mono KB.out.size)); clear hb
  refine hKq.out _ _ ?_ (fun hHeld => ?_)
  · (try dsimp only); exact HS.out _ KB.out
  clear hKq Kq
  try simp only [Act.put, List.setIfInBounds_toArray, List.set_cons_zero, List.set_cons_succ]
  refine wpAnyH_ready (rs := [7]) (by kernel_rfl) (by simp) ?_
  refine AllReadyH.cons (o := ⟨_, _, _, _, _, _⟩) rfl (fun Kq hKq => ?_) AllReadyH.nil
  go_simp
  clear hHeld
  go_at_call 15; (with_reducible refine (refSame_any _ _ (rg [(1, 1), (2, 1), (4, 1), (7, 1)] (4, 1)) [(7, 1), (1, 1), (2, 1)] _ LO.out LA.out (Nat.le_trans (rg_len _ _) (by simp)) (by simp)).mono ?_); rw [HF1.out]; rintro e w13 ⟨rfl, hb⟩; clear LO LA; have LI := Lib.hid (LI.out.below hb); have KB := Lib.hid (KB.out.trans (hb.mono KB.out.size)); clear hb
  refine hKq.out _ _ ?_ (fun hHeld => ?_)
  · (try dsimp only); exact HS.out _ KB.out
  clear hKq Kq
  try simp only [Act.put, List.setIfInBounds_toArray, List.set_cons_zero, List.set_cons_succ]
  (refine wpAnyH_take (i := 8) (oi := ⟨_, _, _, _, _, _⟩) (v := ?_) rfl (by kernel_rfl) (by kernel_rfl) (by kernel_rfl) (fun _ _ _ h => h) (Or.inl ⟨by rfl, ?_⟩) (by assumption) ?_; rotate_left 1; · (intro w hSw; (try dsimp only at hSw); go_simp; all_goals with_reducible rfl))
  try simp only [Act.put, List.setIfInBounds_toArray, List.set_cons_zero, List.set_cons_succ]
  first | (refine wpAnyH_take (i := 9) (oi := ⟨_, _, _, _, _, _⟩) (v := ?_) rfl (by kernel_rfl) (by kernel_rfl) (by kernel_rfl) (fun _ _ _ h => h) (Or.inl ⟨by rfl, ?_⟩) (by assumption) ?_; rotate_left 1; · (intro w hSw; (try dsimp only at hSw); go_simp; all_goals with_reducible rfl)) | refine wpAnyH_take (i := 9) (oi := ⟨_, _, _, _, _, _⟩) (v := undef) rfl (by kernel_rfl) (by kernel_rfl) (by kernel_rfl) (fun _ _ _ h => h) (Or.inr ⟨by kernel_rfl, rfl⟩) (by assumption) ?_
  try simp only [Act.put, List.setIfInBounds_toArray, List.set_cons_zero, List.set_cons_succ]
  refine wpAnyH_ready (rs := [10]) (by kernel_rfl) (by simp) ?_
  refine AllReadyH.cons (o := ⟨_, _, _, _, _, _⟩) rfl (fun Kq hKq => ?_) AllReadyH.nil
  go_simp
  clear hHeld
  go_at_call 8; (with_reducible refine (at_any 4 _).mono ?_); rintro e w14 ⟨rfl, hb⟩; have LI := Lib.hid (LI.out.below hb); have KB := Lib.hid (KB.out.trans (hb.mono KB.out.size)); clear hb
  refine hKq.out _ _ ?_ (fun hHeld => ?_)
  · (try dsimp only); exact HS.out _ KB.out
  clear hKq Kq
  try simp only [Act.put, List.setIfInBounds_toArray, List.set_cons_zero, List.set_cons_succ]
  refine wpAnyH_ready (rs := [11]) (by kernel_rfl) (by simp) ?_
  refine AllReadyH.cons (o := ⟨_, _, _, _, _, _⟩) rfl (fun Kq hKq => ?_) AllReadyH.nil
  go_simp
  clear hHeld
  go_at_call 8; (with_reducible refine (at_any 7 _).mono ?_); rintro e w15 ⟨rfl, hb⟩; have LI := Lib.hid (LI.out.below hb); have KB := Lib.hid (KB.out.trans (hb.mono KB.out.size)); clear hb
  refine hKq.out _ _ ?_ (fun hHeld => ?_)
  · (try dsimp only); exact HS.out _ KB.out
  clear hKq Kq
  try simp only [Act.put, List.setIfInBounds_toArray, List.set_cons_zero, List.set_cons_succ]
  refine wpAnyH_ready (rs := [12]) (by kernel_rfl) (by simp) ?_
  refine AllReadyH.cons (o := ⟨_, _, _, _, _, _⟩) rfl (fun Kq hKq => ?_) AllReadyH.nil
  go_simp
  clear hHeld
  have hb := below_one w15 (.cells #[.int .i64 7, .int .i64 1] 23); have LB := Lib.hid (show Ids (w15.alloc (.cells #[.int .i64 7, .int .i64 1] 23)) (.slice (some ⟨w15.heap.size, 0, none⟩) 1 1) [(7, 1)] from ids_lit w15 [(7, 1)]); have LI := Lib.hid (LI.out.below hb); have KB := Lib.hid (KB.out.trans (hb.mono KB.out.size)); clear hb
  refine hKq.out _ _ ?_ (fun hHeld => ?_)
  · (try dsimp only); exact HS.out _ KB.out
  clear hKq Kq
  try simp only [Act.put, List.setIfInBounds_toArray, List.set_cons_zero, List.set_cons_succ]
  refine wpAnyH_ready (rs := [13]) (by kernel_rfl) (by simp) ?_
  refine AllReadyH.cons (o := ⟨_, _, _, _, _, _⟩) rfl (fun Kq hKq => ?_) AllReadyH.nil
  go_simp
  clear hHeld
  go_at_call 11; (with_reducible refine (watched_any _ _ [(1, 1), (2, 1), (4, 1), (7, 1)] [(7, 1)] 4 1 1 _ LI.out LB.out (by simp) (by simp) (by omega) (by omega)).mono ?_); rintro e w16 ⟨v28, rfl, hi, hb⟩; have LI := Lib.hid (LI.out.below hb); have LB := Lib.hid (LB.out.below hb); have KB := Lib.hid (KB.out.trans (hb.mono KB.out.size)); have LW := Lib.hid hi; clear hi hb
  refine hKq.out _ _ ?_ (fun hHeld => ?_)
  · (try dsimp only); exact HS.out _ KB.out
  clear hKq Kq
  try simp only [Act.put, List.setIfInBounds_toArray, List.set_cons_zero, List.set_cons_succ]
  refine wpAnyH_ready (rs := [14]) (by kernel_rfl) (by simp) ?_
  refine AllReadyH.cons (o := ⟨_, _, _, _, _, _⟩) rfl (fun Kq hKq => ?_) AllReadyH.nil
  go_simp
  clear hHeld
  go_at_call 8; (with_reducible refine (at_any 1 _).mono ?_); rintro e w17 ⟨rfl, hb⟩; have LI := Lib.hid (LI.out.below hb); have LB := Lib.hid (LB.out.below hb); have LW := Lib.hid (LW.out.below hb); have KB := Lib.hid (KB.out.trans (hb.mono KB.out.size)); clear hb
  refine hKq.out _ _ ?_ (fun hHeld => ?_)
  · (try dsimp only); exact HS.out _ KB.out
  clear hKq Kq
  try simp only [Act.put, List.setIfInBounds_toArray, List.set_cons_zero, List.set_cons_succ]
  refine wpAnyH_ready (rs := [15]) (by kernel_rfl) (by simp) ?_
  refine AllReadyH.cons (o := ⟨_, _, _, _, _, _⟩) rfl (fun Kq hKq => ?_) AllReadyH.nil
  go_simp
  clear hHeld
  go_at_call 8; (with_reducible refine (at_any 7 _).mono ?_); rintro e w18 ⟨rfl, hb⟩; have LI := Lib.hid (LI.out.below hb); have LB := Lib.hid (LB.out.below hb); have LW := Lib.hid (LW.out.below hb); have KB := Lib.hid (KB.out.trans (hb.mono KB.out.size)); clear hb
  refine hKq.out _ _ ?_ (fun hHeld => ?_)
  · (try dsimp only); exact HS.out _ KB.out
  clear hKq Kq
  try simp only [Act.put, List.setIfInBounds_toArray, List.set_cons_zero, List.set_cons_succ]
  refine wpAnyH_ready (rs := [16]) (by kernel_rfl) (by simp) ?_
  refine AllReadyH.cons (o := ⟨_, _, _, _, _, _⟩) rfl (fun Kq hKq => ?_) AllReadyH.nil
  go_simp
  clear hHeld
  have hb := below_one w18 (.cells #[.int .i64 1, .int .i64 1, .int .i64 7, .int .i64 1] 23); have LC := Lib.hid (show Ids (w18.alloc (.cells #[.int .i64 1, .int .i64 1, .int .i64 7, .int .i64 1] 23)) (.slice (some ⟨w18.heap.size, 0, none⟩) 2 2) [(1, 1), (7, 1)] from ids_lit w18 [(1, 1), (7, 1)]); have LI := Lib.hid (LI.out.below hb); have LB := Lib.hid (LB.out.below hb); have LW := Lib.hid (LW.out.below hb); have KB := Lib.hid (KB.out.trans (hb.mono KB.out.size)); clear hb
  refine hKq.out _ _ ?_ (fun hHeld => ?_)
  · (try dsimp only); exact HS.out _ KB.out
  clear hKq Kq
  try simp only [Act.put, List.setIfInBounds_toArray, List.set_cons_zero, List.set_cons_succ]
  refine wpAnyH_ready (rs := [17]) (by kernel_rfl) (by simp) ?_
  refine AllReadyH.cons (o := ⟨_, _, _, _, _, _⟩) rfl (fun Kq hKq => ?_) AllReadyH.nil
  go_simp
  clear hHeld
  go_at_call 15; (with_reducible refine (refSame_any _ _ _ [(1, 1), (7, 1)] _ LW.out LC.out (by rw [HF3.out]; simp) (by simp)).mono ?_); rw [HF2.out]; rintro e w19 ⟨rfl, hb⟩; have LI := Lib.hid (LI.out.below hb); have LB := Lib.hid (LB.out.below hb); have LW := Lib.hid (LW.out.below hb); have LC := Lib.hid (LC.out.below hb); have KB := Lib.hid (KB.out.trans (hb.mono KB.out.size)); clear hb
  refine hKq.out _ _ ?_ (fun hHeld => ?_)
  · (try dsimp only); exact HS.out _ KB.out
  clear hKq Kq
  try simp only [Act.put, List.setIfInBounds_toArray, List.set_cons_zero, List.set_cons_succ]
  (refine wpAnyH_take (i := 18) (oi := ⟨_, _, _, _, _, _⟩) (v := ?_) rfl (by kernel_rfl) (by kernel_rfl) (by kernel_rfl) (fun _ _ _ h => h) (Or.inl ⟨by rfl, ?_⟩) (by assumption) ?_; rotate_left 1; · (intro w hSw; (try dsimp only at hSw); go_simp; all_goals with_reducible rfl))
  try simp only [Act.put, List.setIfInBounds_toArray, List.set_cons_zero, List.set_cons_succ]
  (refine wpAnyH_take (i := 19) (oi := ⟨_, _, _, _, _, _⟩) (v := ?_) rfl (by kernel_rfl) (by kernel_rfl) (by kernel_rfl) (fun _ _ _ h => h) (Or.inl ⟨by rfl, ?_⟩) (by assumption) ?_; rotate_left 1; · (intro w hSw; (try dsimp only at hSw); go_simp; all_goals with_reducible rfl))
  try simp only [Act.put, List.setIfInBounds_toArray, List.set_cons_zero, List.set_cons_succ]
  first | (refine wpAnyH_take (i := 20) (oi := ⟨_, _, _, _, _, _⟩) (v := ?_) rfl (by kernel_rfl) (by kernel_rfl) (by kernel_rfl) (fun _ _ _ h => h) (Or.inl ⟨by rfl, ?_⟩) (by assumption) ?_; rotate_left 1; · (intro w hSw; (try dsimp only at hSw); go_simp; all_goals with_reducible rfl)) | refine wpAnyH_take (i := 20) (oi := ⟨_, _, _, _, _, _⟩) (v := undef) rfl (by kernel_rfl) (by kernel_rfl) (by kernel_rfl) (fun _ _ _ h => h) (Or.inr ⟨by kernel_rfl, rfl⟩) (by assumption) ?_
  try simp only [Act.put, List.setIfInBounds_toArray, List.set_cons_zero, List.set_cons_succ]
  (refine wpAnyH_take (i := 21) (oi := ⟨_, _, _, _, _, _⟩) (v := ?_) rfl (by kernel_rfl) (by kernel_rfl) (by kernel_rfl) (fun _ _ _ h => h) (Or.inl ⟨by rfl, ?_⟩) (by assumption) ?_; rotate_left 1; · (intro w hSw; (try dsimp only at hSw); go_simp; all_goals with_reducible rfl))
  try simp only [Act.put, List.setIfInBounds_toArray, List.set_cons_zero, List.set_cons_succ]
  (refine wpAnyH_take (i := 22) (oi := ⟨_, _, _, _, _, _⟩) (v := ?_) rfl (by kernel_rfl) (by kernel_rfl) (by kernel_rfl) (fun _ _ _ h => h) (Or.inl ⟨by rfl, ?_⟩) (by assumption) ?_; rotate_left 1; · (intro w hSw; (try dsimp only at hSw); go_simp; all_goals with_reducible rfl))
  try simp only [Act.put, List.setIfInBounds_toArray, List.set_cons_zero, List.set_cons_succ]
  first | (refine wpAnyH_take (i := 23) (oi := ⟨_, _, _, _, _, _⟩) (v := ?_) rfl (by kernel_rfl) (by kernel_rfl) (by kernel_rfl) (fun _ _ _ h => h) (Or.inl ⟨by rfl, ?_⟩) (by assumption) ?_; rotate_left 1; · (intro w hSw; (try dsimp only at hSw); go_simp; all_goals with_reducible rfl)) | refine wpAnyH_take (i := 23) (oi := ⟨_, _, _, _, _, _⟩) (v := undef) rfl (by kernel_rfl) (by kernel_rfl) (by kernel_rfl) (fun _ _ _ h => h) (Or.inr ⟨by kernel_rfl, rfl⟩) (by assumption) ?_
  try simp only [Act.put, List.setIfInBounds_toArray, List.set_cons_zero, List.set_cons_succ]
  refine wpAnyH_ready (rs := [24]) (by kernel_rfl) (by simp) ?_
  refine AllReadyH.cons (o := ⟨_, _, _, _, _, _⟩) rfl (fun Kq hKq => ?_) AllReadyH.nil
  go_simp
  clear hHeld
  go_at_call 8; (with_reducible refine (at_any 7 _).mono ?_); rintro e w20 ⟨rfl, hb⟩; have LI := Lib.hid (LI.out.below hb); have LB := Lib.hid (LB.out.below hb); have LW := Lib.hid (LW.out.below hb); have LC := Lib.hid (LC.out.below hb); have KB := Lib.hid (KB.out.trans (hb.mono KB.out.size)); clear hb
  refine hKq.out _ _ ?_ (fun hHeld => ?_)
  · (try dsimp only); exact HS.out _ KB.out
  clear hKq Kq
  try simp only [Act.put, List.setIfInBounds_toArray, List.set_cons_zero, List.set_cons_succ]
  first | (refine wpAnyH_take (i := 25) (oi := ⟨_, _, _, _, _, _⟩) (v := ?_) rfl (by kernel_rfl) (by kernel_rfl) (by kernel_rfl) (fun _ _ _ h => h) (Or.inl ⟨by rfl, ?_⟩) (by assumption) ?_; rotate_left 1; · (intro w hSw; (try dsimp only at hSw); go_simp; all_goals with_reducible rfl)) | refine wpAnyH_take (i := 25) (oi := ⟨_, _, _, _, _, _⟩) (v := undef) rfl (by kernel_rfl) (by kernel_rfl) (by kernel_rfl) (fun _ _ _ h => h) (Or.inr ⟨by kernel_rfl, rfl⟩) (by assumption) ?_
  try simp only [Act.put, List.setIfInBounds_toArray, List.set_cons_zero, List.set_cons_succ]
  (refine wpAnyH_take (i := 26) (oi := ⟨_, _, _, _, _, _⟩) (v := ?_) rfl (by kernel_rfl) (by kernel_rfl) (by kernel_rfl) (fun _ _ _ h => h) (Or.inl ⟨by rfl, ?_⟩) (by assumption) ?_; rotate_left 1; · (intro w hSw; (try dsimp only at hSw); go_simp; all_goals with_reducible rfl))
  try simp only [Act.put, List.setIfInBounds_toArray, List.set_cons_zero, List.set_cons_succ]
  (refine wpAnyH_take (i := 27) (oi := ⟨_, _, _, _, _, _⟩) (v := ?_) rfl (by kernel_rfl) (by kernel_rfl) (by kernel_rfl) (fun _ _ _ h => h) (Or.inl ⟨by rfl, ?_⟩) (by assumption) ?_; rotate_left 1; · (intro w hSw; (try dsimp only at hSw); go_simp; all_goals with_reducible rfl))
  try simp only [Act.put, List.setIfInBounds_toArray, List.set_cons_zero]
  refine wpAnyH_done (by kernel_rfl) ?_ _
  go_wp2_with fail
  go_ret
  exact ⟨rfl, below_after KB0.out KB.out (Nat.le_refl _)⟩
end Go.Proofs.Ytbjknjbjldodlaa
