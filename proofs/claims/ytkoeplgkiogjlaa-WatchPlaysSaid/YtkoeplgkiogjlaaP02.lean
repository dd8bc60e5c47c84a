/-
  Carried over and put together: contracts of this program's functions, and plain facts. No statement is proved in this text.
-/
import Derived.DeepKeys4
import Derived.Maps.OwnOps
import Derived.Maps.OwnSet
import Derived.Maps.Views
import Derived.Maps.RangeWalk
import Derived.Maps.OwnIn
import Derived.Sort.MapsRangeIn
import Derived.Laws.Externs
import Derived.Test.YtkoeplgkiogjlaaP01
set_option maxRecDepth 20000
namespace Go.Proofs.Ytkoeplgkiogjlaa
open Go Go.RowKit
theorem few {d : Dt} (h : d.Ok) : d.ga.length ≤ 4096 := by have := h.len; have := h.wh; omega
set_option maxHeartbeats 1000000 in
theorem limit_any (base l : Nat) (d : Dt) (v : Value) (w : World) (h : Det 81 w base l d v) (hd : d.Ok) : Calls Try.prog 63 #[.pointer (some ⟨l, 0, none⟩)] w fun e w' => e = .returned (.int .i64 d.limit) ∧ Below w.heap.size w w' := by
  have H := Lib.hid h
  have HF := few hd
  have HS := Lib.hid (sum_range hd.each)
  have HG := Lib.hid hd.each
  obtain ⟨c0, c1, c2, c3, c4, c5⟩ := dbox_cells h.box
  obtain ⟨A, c, rfl, -, -⟩ := gaps_slice h.gaps
  clear h hd c2 c3 c4
  by_cases hz : d.ga.length = 0
  · have E := Lib.hid (show d.limit = d.mx by unfold Dt.limit; rw [if_pos hz])
    rw [hz] at c5
    clear HF
    go_enter Try.func63, Try.ntmps63
    go_wp2_with fail
    go_ret
    exact ⟨ret_int E.out.symm, Below.refl _ _⟩
  · have E := Lib.hid (show d.limit = clampI ((2 * sumI d.ga + d.ga.length - 1).tdiv d.ga.length) d.mn d.mx by unfold Dt.limit; rw [if_neg hz])
    have HZ := Lib.hid hz
    have hpos : 0 < d.ga.length := by omega
    have hn1 : ((d.ga.length : Int) == 0) = false := by rw [beq_eq_false_iff_ne]; omega
    go_enter Try.func63, Try.ntmps63
    go_wp2_with fail
    go_quiet (fail)
    go_wp2_with fail
    go_loopw [3, 31] (fun s3 s31 wr => ∃ k : Nat, k ≤ d.ga.length ∧ s3 = .int .i64 (sumI (d.ga.take k)) ∧ s31 = .int .i64 k ∧ Hid (Below w.heap.size w wr)) (fun _ s31 _ => d.ga.length - (intOf s31).toNat)
    case atStart => exact ⟨0, by omega, rfl, rfl, Lib.hid (below_drewN (Below.refl _ _))⟩
    case round =>
      obtain ⟨k, hk, rfl, rfl, HB⟩ := hrel
      have i3 : (0 : Int) ≤ (k : Int) := by omega
      by_cases hlt : k < d.ga.length
      · have hd : decide ((k : Int) < (d.ga.length : Int)) = true := by simp; omega
        have i4 : (k : Int) < (d.ga.length : Int) := by omega
        obtain ⟨ad, rfl⟩ := (gaps_rcs H.out.gaps).addr hpos
        have hcell := (gaps_rcs H.out.gaps).first HB.out hlt (u := .int .i64 d.ga[k]) rfl
        rw [Nat.mul_one] at hcell
        have hst := Lib.hid (sum_take hlt)
        have hwr : IntKind.i64.wrap (sumI (d.ga.take k) + d.ga[k]) = sumI (d.ga.take (k + 1)) := by
          rw [← hst.out]
          have := sum_range (l := d.ga.take (k + 1)) fun g hg => HG.out g (List.mem_of_mem_take hg)
          rw [List.length_take] at this
          exact IntWalk.i64_in _ ⟨by omega, by omega⟩
        generalize sumI (d.ga.take k) = s at *
        generalize hs' : sumI (d.ga.take (k + 1)) = s' at *
        have HS' := Lib.hid hs'
        clear hs'
        generalize d.ga[k] = y at *
        clear hst
        go_wp2_with fail
        go_roundw
        case rel => exact ⟨k + 1, by omega, by rw [HS'.out], by go_num, HB⟩
        case measure => simp [intOf]; omega
      · obtain rfl : k = d.ga.length := by omega
        have hd : decide ((d.ga.length : Int) < (d.ga.length : Int)) = false := by simp
        rw [List.take_length]
        have hr := HS.out
        have h2 : IntKind.i64.wrap (2 * sumI d.ga) = 2 * sumI d.ga := IntWalk.i64_in _ ⟨by omega, by omega⟩
        have h3 : IntKind.i64.wrap (2 * sumI d.ga + (d.ga.length : Int)) = 2 * sumI d.ga + (d.ga.length : Int) := IntWalk.i64_in _ ⟨by omega, by omega⟩
        have h4 : IntKind.i64.wrap (2 * sumI d.ga + (d.ga.length : Int) - 1) = 2 * sumI d.ga + (d.ga.length : Int) - 1 := IntWalk.i64_in _ ⟨by omega, by omega⟩
        have HSt : Hid (∀ W, Below w.heap.size w W → (W.cell? ⟨l, 0, none⟩ = some (.int .i64 d.mn) ∧ W.cell? ⟨l, 1, none⟩ = some (.int .i64 d.mx) ∧ Hid (Below w.heap.size w W))) := Lib.hid fun W hb =>
          have b := dbox_cells (dbox_below H.out.box hb)
          ⟨b.1, b.2.1, Lib.hid hb⟩
        have hq1 := Int.tdiv_le_self (b := (d.ga.length : Int)) (show 0 ≤ 2 * sumI d.ga + (d.ga.length : Int) - 1 by omega)
        have hq0 := Int.tdiv_nonneg (show 0 ≤ 2 * sumI d.ga + (d.ga.length : Int) - 1 by omega) (show 0 ≤ (d.ga.length : Int) by omega)
        have h5 : IntKind.i64.wrap ((2 * sumI d.ga + (d.ga.length : Int) - 1).tdiv d.ga.length) = (2 * sumI d.ga + (d.ga.length : Int) - 1).tdiv d.ga.length := IntWalk.i64_in _ ⟨by omega, by omega⟩
        clear hq1 hq0
        clear hr
        generalize hsd : sumI d.ga = s at *
        go_wp2_with fail
        refine wp_region_held_drew (S := fun W => W.cell? ⟨l, 0, none⟩ = some (.int .i64 d.mn) ∧ W.cell? ⟨l, 1, none⟩ = some (.int .i64 d.mx) ∧ Hid (Below w.heap.size w W)) (by kernel_rfl) ?_ (fun hHeld => ?_)
        · exact HSt.out _ (below_drewN (n := 1) HB.out)
        (refine wpAnyH_take (i := 0) (oi := ⟨_, _, _, _, _, _⟩) (v := ?_) rfl (by kernel_rfl) (by kernel_rfl) (by kernel_rfl) (fun _ _ _ h => h) (Or.inl ⟨by rfl, ?_⟩) (by assumption) ?_; rotate_left 1; · (intro w hSw; (try dsimp only at hSw); go_simp; all_goals with_reducible rfl))
        try simp only [Act.put, List.setIfInBounds_toArray, List.set_cons_zero, List.set_cons_succ]
        (refine wpAnyH_take (i := 1) (oi := ⟨_, _, _, _, _, _⟩) (v := ?_) rfl (by kernel_rfl) (by kernel_rfl) (by kernel_rfl) (fun _ _ _ h => h) (Or.inl ⟨by rfl, ?_⟩) (by assumption) ?_; rotate_left 1; · (intro w hSw; (try dsimp only at hSw); go_simp; all_goals with_reducible rfl))
        try simp only [Act.put, List.setIfInBounds_toArray, List.set_cons_zero, List.set_cons_succ]
        (refine wpAnyH_take (i := 2) (oi := ⟨_, _, _, _, _, _⟩) (v := ?_) rfl (by kernel_rfl) (by kernel_rfl) (by kernel_rfl) (fun _ _ _ h => h) (Or.inl ⟨by rfl, ?_⟩) (by assumption) ?_; rotate_left 1; · (intro w hSw; (try dsimp only at hSw); go_simp; all_goals with_reducible rfl))
        try simp only [Act.put, List.setIfInBounds_toArray, List.set_cons_zero, List.set_cons_succ]
        (refine wpAnyH_take (i := 3) (oi := ⟨_, _, _, _, _, _⟩) (v := ?_) rfl (by kernel_rfl) (by kernel_rfl) (by kernel_rfl) (fun _ _ _ h => h) (Or.inl ⟨by rfl, ?_⟩) (by assumption) ?_; rotate_left 1; · (intro w hSw; (try dsimp only at hSw); go_simp; all_goals with_reducible rfl))
        try simp only [Act.put, List.setIfInBounds_toArray, List.set_cons_zero, List.set_cons_succ]
        (refine wpAnyH_take (i := 4) (oi := ⟨_, _, _, _, _, _⟩) (v := ?_) rfl (by kernel_rfl) (by kernel_rfl) (by kernel_rfl) (fun _ _ _ h => h) (Or.inl ⟨by rfl, ?_⟩) (by assumption) ?_; rotate_left 1; · (intro w hSw; (try dsimp only at hSw); go_simp; all_goals with_reducible rfl))
        try simp only [Act.put, List.setIfInBounds_toArray, List.set_cons_zero, List.set_cons_succ]
        (refine wpAnyH_take (i := 5) (oi := ⟨_, _, _, _, _, _⟩) (v := ?_) rfl (by kernel_rfl) (by kernel_rfl) (by kernel_rfl) (fun _ _ _ h => h) (Or.inl ⟨by rfl, ?_⟩) (by assumption) ?_; rotate_left 1; · (intro w hSw; (try dsimp only at hSw); go_simp; all_goals with_reducible rfl))
        try simp only [Act.put, List.setIfInBounds_toArray, List.set_cons_zero, List.set_cons_succ]
        (refine wpAnyH_take (i := 6) (oi := ⟨_, _, _, _, _, _⟩) (v := ?_) rfl (by kernel_rfl) (by kernel_rfl) (by kernel_rfl) (fun _ _ _ h => h) (Or.inl ⟨by rfl, ?_⟩) (by assumption) ?_; rotate_left 1; · (intro w hSw; (try dsimp only at hSw); go_simp; all_goals with_reducible rfl))
        try simp only [Act.put, List.setIfInBounds_toArray, List.set_cons_zero, List.set_cons_succ]
        (refine wpAnyH_take (i := 7) (oi := ⟨_, _, _, _, _, _⟩) (v := ?_) rfl (by kernel_rfl) (by kernel_rfl) (by kernel_rfl) (fun _ _ _ h => h) (Or.inl ⟨by rfl, ?_⟩) (by assumption) ?_; rotate_left 1; · (intro w hSw; (try dsimp only at hSw); go_simp; all_goals with_reducible rfl))
        try simp only [Act.put, List.setIfInBounds_toArray, List.set_cons_zero, List.set_cons_succ]
        (refine wpAnyH_take (i := 8) (oi := ⟨_, _, _, _, _, _⟩) (v := ?_) rfl (by kernel_rfl) (by kernel_rfl) (by kernel_rfl) (fun _ _ _ h => h) (Or.inl ⟨by rfl, ?_⟩) (by assumption) ?_; rotate_left 1; · (intro w hSw; (try dsimp only at hSw); go_simp; all_goals with_reducible rfl))
        try simp only [Act.put, List.setIfInBounds_toArray, List.set_cons_zero, List.set_cons_succ]
        (refine wpAnyH_take (i := 9) (oi := ⟨_, _, _, _, _, _⟩) (v := ?_) rfl (by kernel_rfl) (by kernel_rfl) (by kernel_rfl) (fun _ _ _ h => h) (Or.inl ⟨by rfl, ?_⟩) (by assumption) ?_; rotate_left 1; · (intro w hSw; (try dsimp only at hSw); go_simp; all_goals with_reducible rfl))
        try simp only [Act.put, List.setIfInBounds_toArray, List.set_cons_zero, List.set_cons_succ]
        (refine wpAnyH_take (i := 10) (oi := ⟨_, _, _, _, _, _⟩) (v := ?_) rfl (by kernel_rfl) (by kernel_rfl) (by kernel_rfl) (fun _ _ _ h => h) (Or.inl ⟨by rfl, ?_⟩) (by assumption) ?_; rotate_left 1; · (intro w hSw; (try dsimp only at hSw); go_simp; all_goals with_reducible rfl))
        try simp only [Act.put, List.setIfInBounds_toArray, List.set_cons_zero, List.set_cons_succ]
        (refine wpAnyH_take (i := 11) (oi := ⟨_, _, _, _, _, _⟩) (v := ?_) rfl (by kernel_rfl) (by kernel_rfl) (by kernel_rfl) (fun _ _ _ h => h) (Or.inl ⟨by rfl, ?_⟩) (by assumption) ?_; rotate_left 1; · (intro w hSw; (try dsimp only at hSw); go_simp; all_goals with_reducible rfl))
        try simp only [Act.put, List.setIfInBounds_toArray, List.set_cons_zero, List.set_cons_succ]
        (refine wpAnyH_take (i := 12) (oi := ⟨_, _, _, _, _, _⟩) (v := ?_) rfl (by kernel_rfl) (by kernel_rfl) (by kernel_rfl) (fun _ _ _ h => h) (Or.inl ⟨by rfl, ?_⟩) (by assumption) ?_; rotate_left 1; · (intro w hSw; (try dsimp only at hSw); go_simp; all_goals with_reducible rfl))
        try simp only [Act.put, List.setIfInBounds_toArray, List.set_cons_zero, List.set_cons_succ]
        (refine wpAnyH_take (i := 13) (oi := ⟨_, _, _, _, _, _⟩) (v := ?_) rfl (by kernel_rfl) (by kernel_rfl) (by kernel_rfl) (fun _ _ _ h => h) (Or.inl ⟨by rfl, ?_⟩) (by assumption) ?_; rotate_left 1; · (intro w hSw; (try dsimp only at hSw); go_simp; all_goals with_reducible rfl))
        try simp only [Act.put, List.setIfInBounds_toArray, List.set_cons_zero, List.set_cons_succ]
        (refine wpAnyH_take (i := 14) (oi := ⟨_, _, _, _, _, _⟩) (v := ?_) rfl (by kernel_rfl) (by kernel_rfl) (by kernel_rfl) (fun _ _ _ h => h) (Or.inl ⟨by rfl, ?_⟩) (by assumption) ?_; rotate_left 1; · (intro w hSw; (try dsimp only at hSw); go_simp; all_goals with_reducible rfl))
        try simp only [Act.put, List.setIfInBounds_toArray, List.set_cons_zero, List.set_cons_succ]
        refine wpAnyH_ready (rs := [15]) (by kernel_rfl) (by simp) ?_
        refine AllReadyH.cons (o := ⟨_, _, _, _, _, _⟩) rfl (fun Kq hKq => ?_) AllReadyH.nil
        go_simp
        have hHeld2 := hHeld; clear hHeld
        (go_at_call 58; (with_reducible refine (within_any _ _ _ _).mono ?_); rintro e w2 ⟨rfl, rfl⟩; have HK := hHeld2.2.2)
        refine hKq.out _ _ ?_ (fun hHeld => ?_)
        · (try dsimp only); exact HSt.out _ HK.out
        clear hKq Kq
        try simp only [Act.put, List.setIfInBounds_toArray, List.set_cons_zero, List.set_cons_succ]
        (refine wpAnyH_take (i := 16) (oi := ⟨_, _, _, _, _, _⟩) (v := ?_) rfl (by kernel_rfl) (by kernel_rfl) (by kernel_rfl) (fun _ _ _ h => h) (Or.inl ⟨by rfl, ?_⟩) (by assumption) ?_; rotate_left 1; · (intro w hSw; (try dsimp only at hSw); go_simp; all_goals with_reducible rfl))
        try simp only [Act.put, List.setIfInBounds_toArray, List.set_cons_zero, List.set_cons_succ]
        refine wpAnyH_done (by kernel_rfl) ?_ _
        have HK3 := HK
        clear hHeld hHeld2 HK HSt
        go_wp2_with fail
        go_ret
        exact ⟨ret_int (by rw [E.out]), HK3.out⟩
set_option maxHeartbeats 1000000 in
theorem late_any (base l : Nat) (d : Dt) (v : Value) (x : Int) (w : World) (h : Det 81 w base l d v) (hd : d.Ok) : Calls Try.prog 54 #[.pointer (some ⟨l, 0, none⟩), .int .i64 x] w fun e w' => e = .returned (.bool (d.late x)) ∧ Below w.heap.size w w' := by
  have H := Lib.hid h
  have HD := Lib.hid hd
  have HSt : Hid (∀ W, Below w.heap.size w W → (W.cell? ⟨l, 3, none⟩ = some (.bool d.bg) ∧ W.cell? ⟨l, 4, none⟩ = some (.int .i64 d.la) ∧ Hid (Below w.heap.size w W))) := Lib.hid fun W hb =>
    have b := dbox_cells (dbox_below H.out.box hb)
    ⟨b.2.2.2.1, b.2.2.2.2.1, Lib.hid hb⟩
  have hr1 := (Dt.time_range hd x).1
  have hr2 := (Dt.time_range hd x).2
  have hr3 := hd.l0
  have hwr : IntKind.i64.wrap (d.time x - d.la) = d.time x - d.la := IntWalk.i64_in _ ⟨by omega, by omega⟩
  clear h hd hr1 hr2 hr3
  cases hb : d.bg
  · have E := Lib.hid (show d.late x = false by unfold Dt.late; rw [hb]; rfl)
    rw [hb] at HSt
    clear hb
    go_enter Try.func54, Try.ntmps54
    go_wp2_with fail
    refine wp_region_held_drew (S := fun W => W.cell? ⟨l, 3, none⟩ = some (.bool false) ∧ W.cell? ⟨l, 4, none⟩ = some (.int .i64 d.la) ∧ Hid (Below w.heap.size w W)) (by kernel_rfl) ?_ (fun hHeld => ?_)
    · exact HSt.out _ (below_drewN (n := 1) (Below.refl _ _))
    (refine wpAnyH_take (i := 0) (oi := ⟨_, _, _, _, _, _⟩) (v := ?_) rfl (by kernel_rfl) (by kernel_rfl) (by kernel_rfl) (fun _ _ _ h => h) (Or.inl ⟨by rfl, ?_⟩) (by assumption) ?_; rotate_left 1; · (intro w hSw; (try dsimp only at hSw); go_simp; all_goals with_reducible rfl))
    try simp only [Act.put, List.setIfInBounds_toArray, List.set_cons_zero, List.set_cons_succ]
    (refine wpAnyH_take (i := 1) (oi := ⟨_, _, _, _, _, _⟩) (v := ?_) rfl (by kernel_rfl) (by kernel_rfl) (by kernel_rfl) (fun _ _ _ h => h) (Or.inl ⟨by rfl, ?_⟩) (by assumption) ?_; rotate_left 1; · (intro w hSw; (try dsimp only at hSw); go_simp; all_goals with_reducible rfl))
    try simp only [Act.put, List.setIfInBounds_toArray, List.set_cons_zero, List.set_cons_succ]
    (refine wpAnyH_take (i := 2) (oi := ⟨_, _, _, _, _, _⟩) (v := ?_) rfl (by kernel_rfl) (by kernel_rfl) (by kernel_rfl) (fun _ _ _ h => h) (Or.inl ⟨by rfl, ?_⟩) (by assumption) ?_; rotate_left 1; · (intro w hSw; (try dsimp only at hSw); go_simp; all_goals with_reducible rfl))
    try simp only [Act.put, List.setIfInBounds_toArray, List.set_cons_zero, List.set_cons_succ]
    first | (refine wpAnyH_take (i := 3) (oi := ⟨_, _, _, _, _, _⟩) (v := ?_) rfl (by kernel_rfl) (by kernel_rfl) (by kernel_rfl) (fun _ _ _ h => h) (Or.inl ⟨by rfl, ?_⟩) (by assumption) ?_; rotate_left 1; · (intro w hSw; (try dsimp only at hSw); go_simp; all_goals with_reducible rfl)) | refine wpAnyH_take (i := 3) (oi := ⟨_, _, _, _, _, _⟩) (v := undef) rfl (by kernel_rfl) (by kernel_rfl) (by kernel_rfl) (fun _ _ _ h => h) (Or.inr ⟨by kernel_rfl, rfl⟩) (by assumption) ?_
    try simp only [Act.put, List.setIfInBounds_toArray, List.set_cons_zero, List.set_cons_succ]
    first | (refine wpAnyH_take (i := 4) (oi := ⟨_, _, _, _, _, _⟩) (v := ?_) rfl (by kernel_rfl) (by kernel_rfl) (by kernel_rfl) (fun _ _ _ h => h) (Or.inl ⟨by rfl, ?_⟩) (by assumption) ?_; rotate_left 1; · (intro w hSw; (try dsimp only at hSw); go_simp; all_goals with_reducible rfl)) | refine wpAnyH_take (i := 4) (oi := ⟨_, _, _, _, _, _⟩) (v := undef) rfl (by kernel_rfl) (by kernel_rfl) (by kernel_rfl) (fun _ _ _ h => h) (Or.inr ⟨by kernel_rfl, rfl⟩) (by assumption) ?_
    try simp only [Act.put, List.setIfInBounds_toArray, List.set_cons_zero, List.set_cons_succ]
    first | (refine wpAnyH_take (i := 5) (oi := ⟨_, _, _, _, _, _⟩) (v := ?_) rfl (by kernel_rfl) (by kernel_rfl) (by kernel_rfl) (fun _ _ _ h => h) (Or.inl ⟨by rfl, ?_⟩) (by assumption) ?_; rotate_left 1; · (intro w hSw; (try dsimp only at hSw); go_simp; all_goals with_reducible rfl)) | refine wpAnyH_take (i := 5) (oi := ⟨_, _, _, _, _, _⟩) (v := undef) rfl (by kernel_rfl) (by kernel_rfl) (by kernel_rfl) (fun _ _ _ h => h) (Or.inr ⟨by kernel_rfl, rfl⟩) (by assumption) ?_
    try simp only [Act.put, List.setIfInBounds_toArray, List.set_cons_zero, List.set_cons_succ]
    first | (refine wpAnyH_take (i := 6) (oi := ⟨_, _, _, _, _, _⟩) (v := ?_) rfl (by kernel_rfl) (by kernel_rfl) (by kernel_rfl) (fun _ _ _ h => h) (Or.inl ⟨by rfl, ?_⟩) (by assumption) ?_; rotate_left 1; · (intro w hSw; (try dsimp only at hSw); go_simp; all_goals with_reducible rfl)) | refine wpAnyH_take (i := 6) (oi := ⟨_, _, _, _, _, _⟩) (v := undef) rfl (by kernel_rfl) (by kernel_rfl) (by kernel_rfl) (fun _ _ _ h => h) (Or.inr ⟨by kernel_rfl, rfl⟩) (by assumption) ?_
    try simp only [Act.put, List.setIfInBounds_toArray, List.set_cons_zero, List.set_cons_succ]
    (refine wpAnyH_take (i := 7) (oi := ⟨_, _, _, _, _, _⟩) (v := ?_) rfl (by kernel_rfl) (by kernel_rfl) (by kernel_rfl) (fun _ _ _ h => h) (Or.inl ⟨by rfl, ?_⟩) (by assumption) ?_; rotate_left 1; · (intro w hSw; (try dsimp only at hSw); go_simp; all_goals with_reducible rfl))
    try simp only [Act.put, List.setIfInBounds_toArray, List.set_cons_zero, List.set_cons_succ]
    (refine wpAnyH_take (i := 8) (oi := ⟨_, _, _, _, _, _⟩) (v := ?_) rfl (by kernel_rfl) (by kernel_rfl) (by kernel_rfl) (fun _ _ _ h => h) (Or.inl ⟨by rfl, ?_⟩) (by assumption) ?_; rotate_left 1; · (intro w hSw; (try dsimp only at hSw); go_simp; all_goals with_reducible rfl))
    try simp only [Act.put, List.setIfInBounds_toArray, List.set_cons_zero, List.set_cons_succ]
    refine wpAnyH_take (i := 9) (oi := ⟨_, _, _, _, _, _⟩) (v := undef) rfl (by kernel_rfl) (by kernel_rfl) (by kernel_rfl) (fun _ _ _ h => h) (Or.inr ⟨by kernel_rfl, rfl⟩) (by assumption) ?_
    try simp only [Act.put, List.setIfInBounds_toArray, List.set_cons_zero, List.set_cons_succ]
    refine wpAnyH_take (i := 10) (oi := ⟨_, _, _, _, _, _⟩) (v := undef) rfl (by kernel_rfl) (by kernel_rfl) (by kernel_rfl) (fun _ _ _ h => h) (Or.inr ⟨by kernel_rfl, rfl⟩) (by assumption) ?_
    try simp only [Act.put, List.setIfInBounds_toArray, List.set_cons_zero, List.set_cons_succ]
    refine wpAnyH_take (i := 11) (oi := ⟨_, _, _, _, _, _⟩) (v := undef) rfl (by kernel_rfl) (by kernel_rfl) (by kernel_rfl) (fun _ _ _ h => h) (Or.inr ⟨by kernel_rfl, rfl⟩) (by assumption) ?_
    try simp only [Act.put, List.setIfInBounds_toArray, List.set_cons_zero, List.set_cons_succ]
    refine wpAnyH_take (i := 12) (oi := ⟨_, _, _, _, _, _⟩) (v := undef) rfl (by kernel_rfl) (by kernel_rfl) (by kernel_rfl) (fun _ _ _ h => h) (Or.inr ⟨by kernel_rfl, rfl⟩) (by assumption) ?_
    try simp only [Act.put, List.setIfInBounds_toArray, List.set_cons_zero, List.set_cons_succ]
    refine wpAnyH_take (i := 13) (oi := ⟨_, _, _, _, _, _⟩) (v := undef) rfl (by kernel_rfl) (by kernel_rfl) (by kernel_rfl) (fun _ _ _ h => h) (Or.inr ⟨by kernel_rfl, rfl⟩) (by assumption) ?_
    try simp only [Act.put, List.setIfInBounds_toArray, List.set_cons_zero, List.set_cons_succ]
    refine wpAnyH_take (i := 14) (oi := ⟨_, _, _, _, _, _⟩) (v := undef) rfl (by kernel_rfl) (by kernel_rfl) (by kernel_rfl) (fun _ _ _ h => h) (Or.inr ⟨by kernel_rfl, rfl⟩) (by assumption) ?_
    try simp only [Act.put, List.setIfInBounds_toArray, List.set_cons_zero, List.set_cons_succ]
    refine wpAnyH_take (i := 15) (oi := ⟨_, _, _, _, _, _⟩) (v := undef) rfl (by kernel_rfl) (by kernel_rfl) (by kernel_rfl) (fun _ _ _ h => h) (Or.inr ⟨by kernel_rfl, rfl⟩) (by assumption) ?_
    try simp only [Act.put, List.setIfInBounds_toArray, List.set_cons_zero, List.set_cons_succ]
    refine wpAnyH_take (i := 16) (oi := ⟨_, _, _, _, _, _⟩) (v := undef) rfl (by kernel_rfl) (by kernel_rfl) (by kernel_rfl) (fun _ _ _ h => h) (Or.inr ⟨by kernel_rfl, rfl⟩) (by assumption) ?_
    try simp only [Act.put, List.setIfInBounds_toArray, List.set_cons_zero, List.set_cons_succ]
    refine wpAnyH_take (i := 17) (oi := ⟨_, _, _, _, _, _⟩) (v := undef) rfl (by kernel_rfl) (by kernel_rfl) (by kernel_rfl) (fun _ _ _ h => h) (Or.inr ⟨by kernel_rfl, rfl⟩) (by assumption) ?_
    try simp only [Act.put, List.setIfInBounds_toArray, List.set_cons_zero, List.set_cons_succ]
    refine wpAnyH_take (i := 18) (oi := ⟨_, _, _, _, _, _⟩) (v := undef) rfl (by kernel_rfl) (by kernel_rfl) (by kernel_rfl) (fun _ _ _ h => h) (Or.inr ⟨by kernel_rfl, rfl⟩) (by assumption) ?_
    try simp only [Act.put, List.setIfInBounds_toArray, List.set_cons_zero, List.set_cons_succ]
    refine wpAnyH_take (i := 19) (oi := ⟨_, _, _, _, _, _⟩) (v := undef) rfl (by kernel_rfl) (by kernel_rfl) (by kernel_rfl) (fun _ _ _ h => h) (Or.inr ⟨by kernel_rfl, rfl⟩) (by assumption) ?_
    try simp only [Act.put, List.setIfInBounds_toArray, List.set_cons_zero, List.set_cons_succ]
    (refine wpAnyH_take (i := 20) (oi := ⟨_, _, _, _, _, _⟩) (v := ?_) rfl (by kernel_rfl) (by kernel_rfl) (by kernel_rfl) (fun _ _ _ h => h) (Or.inl ⟨by rfl, ?_⟩) (by assumption) ?_; rotate_left 1; · (intro w hSw; (try dsimp only at hSw); go_simp; all_goals with_reducible rfl))
    try simp only [Act.put, List.setIfInBounds_toArray, List.set_cons_zero, List.set_cons_succ]
    (refine wpAnyH_take (i := 21) (oi := ⟨_, _, _, _, _, _⟩) (v := ?_) rfl (by kernel_rfl) (by kernel_rfl) (by kernel_rfl) (fun _ _ _ h => h) (Or.inl ⟨by rfl, ?_⟩) (by assumption) ?_; rotate_left 1; · (intro w hSw; (try dsimp only at hSw); go_simp; all_goals with_reducible rfl))
    try simp only [Act.put, List.setIfInBounds_toArray, List.set_cons_zero, List.set_cons_succ]
    refine wpAnyH_done (by kernel_rfl) ?_ _
    go_wp2_with fail
    go_ret
    exact ⟨ret_bool E.out.symm, hHeld.2.2.out⟩
  · have E := Lib.hid (show d.late x = decide (d.limit < d.time x - d.la) by unfold Dt.late; rw [hb]; rfl)
    rw [hb] at HSt
    clear hb
    go_enter Try.func54, Try.ntmps54
    go_wp2_with fail
    refine wp_region_held_drew (S := fun W => W.cell? ⟨l, 3, none⟩ = some (.bool true) ∧ W.cell? ⟨l, 4, none⟩ = some (.int .i64 d.la) ∧ Hid (Below w.heap.size w W)) (by kernel_rfl) ?_ (fun hHeld => ?_)
    · exact HSt.out _ (below_drewN (n := 1) (Below.refl _ _))
    (refine wpAnyH_take (i := 0) (oi := ⟨_, _, _, _, _, _⟩) (v := ?_) rfl (by kernel_rfl) (by kernel_rfl) (by kernel_rfl) (fun _ _ _ h => h) (Or.inl ⟨by rfl, ?_⟩) (by assumption) ?_; rotate_left 1; · (intro w hSw; (try dsimp only at hSw); go_simp; all_goals with_reducible rfl))
    try simp only [Act.put, List.setIfInBounds_toArray, List.set_cons_zero, List.set_cons_succ]
    (refine wpAnyH_take (i := 1) (oi := ⟨_, _, _, _, _, _⟩) (v := ?_) rfl (by kernel_rfl) (by kernel_rfl) (by kernel_rfl) (fun _ _ _ h => h) (Or.inl ⟨by rfl, ?_⟩) (by assumption) ?_; rotate_left 1; · (intro w hSw; (try dsimp only at hSw); go_simp; all_goals with_reducible rfl))
    try simp only [Act.put, List.setIfInBounds_toArray, List.set_cons_zero, List.set_cons_succ]
    (refine wpAnyH_take (i := 2) (oi := ⟨_, _, _, _, _, _⟩) (v := ?_) rfl (by kernel_rfl) (by kernel_rfl) (by kernel_rfl) (fun _ _ _ h => h) (Or.inl ⟨by rfl, ?_⟩) (by assumption) ?_; rotate_left 1; · (intro w hSw; (try dsimp only at hSw); go_simp; all_goals with_reducible rfl))
    try simp only [Act.put, List.setIfInBounds_toArray, List.set_cons_zero, List.set_cons_succ]
    first | (refine wpAnyH_take (i := 3) (oi := ⟨_, _, _, _, _, _⟩) (v := ?_) rfl (by kernel_rfl) (by kernel_rfl) (by kernel_rfl) (fun _ _ _ h => h) (Or.inl ⟨by rfl, ?_⟩) (by assumption) ?_; rotate_left 1; · (intro w hSw; (try dsimp only at hSw); go_simp; all_goals with_reducible rfl)) | refine wpAnyH_take (i := 3) (oi := ⟨_, _, _, _, _, _⟩) (v := undef) rfl (by kernel_rfl) (by kernel_rfl) (by kernel_rfl) (fun _ _ _ h => h) (Or.inr ⟨by kernel_rfl, rfl⟩) (by assumption) ?_
    try simp only [Act.put, List.setIfInBounds_toArray, List.set_cons_zero, List.set_cons_succ]
    first | (refine wpAnyH_take (i := 4) (oi := ⟨_, _, _, _, _, _⟩) (v := ?_) rfl (by kernel_rfl) (by kernel_rfl) (by kernel_rfl) (fun _ _ _ h => h) (Or.inl ⟨by rfl, ?_⟩) (by assumption) ?_; rotate_left 1; · (intro w hSw; (try dsimp only at hSw); go_simp; all_goals with_reducible rfl)) | refine wpAnyH_take (i := 4) (oi := ⟨_, _, _, _, _, _⟩) (v := undef) rfl (by kernel_rfl) (by kernel_rfl) (by kernel_rfl) (fun _ _ _ h => h) (Or.inr ⟨by kernel_rfl, rfl⟩) (by assumption) ?_
    try simp only [Act.put, List.setIfInBounds_toArray, List.set_cons_zero, List.set_cons_succ]
    first | (refine wpAnyH_take (i := 5) (oi := ⟨_, _, _, _, _, _⟩) (v := ?_) rfl (by kernel_rfl) (by kernel_rfl) (by kernel_rfl) (fun _ _ _ h => h) (Or.inl ⟨by rfl, ?_⟩) (by assumption) ?_; rotate_left 1; · (intro w hSw; (try dsimp only at hSw); go_simp; all_goals with_reducible rfl)) | refine wpAnyH_take (i := 5) (oi := ⟨_, _, _, _, _, _⟩) (v := undef) rfl (by kernel_rfl) (by kernel_rfl) (by kernel_rfl) (fun _ _ _ h => h) (Or.inr ⟨by kernel_rfl, rfl⟩) (by assumption) ?_
    try simp only [Act.put, List.setIfInBounds_toArray, List.set_cons_zero, List.set_cons_succ]
    first | (refine wpAnyH_take (i := 6) (oi := ⟨_, _, _, _, _, _⟩) (v := ?_) rfl (by kernel_rfl) (by kernel_rfl) (by kernel_rfl) (fun _ _ _ h => h) (Or.inl ⟨by rfl, ?_⟩) (by assumption) ?_; rotate_left 1; · (intro w hSw; (try dsimp only at hSw); go_simp; all_goals with_reducible rfl)) | refine wpAnyH_take (i := 6) (oi := ⟨_, _, _, _, _, _⟩) (v := undef) rfl (by kernel_rfl) (by kernel_rfl) (by kernel_rfl) (fun _ _ _ h => h) (Or.inr ⟨by kernel_rfl, rfl⟩) (by assumption) ?_
    try simp only [Act.put, List.setIfInBounds_toArray, List.set_cons_zero, List.set_cons_succ]
    (refine wpAnyH_take (i := 7) (oi := ⟨_, _, _, _, _, _⟩) (v := ?_) rfl (by kernel_rfl) (by kernel_rfl) (by kernel_rfl) (fun _ _ _ h => h) (Or.inl ⟨by rfl, ?_⟩) (by assumption) ?_; rotate_left 1; · (intro w hSw; (try dsimp only at hSw); go_simp; all_goals with_reducible rfl))
    try simp only [Act.put, List.setIfInBounds_toArray, List.set_cons_zero, List.set_cons_succ]
    (refine wpAnyH_take (i := 8) (oi := ⟨_, _, _, _, _, _⟩) (v := ?_) rfl (by kernel_rfl) (by kernel_rfl) (by kernel_rfl) (fun _ _ _ h => h) (Or.inl ⟨by rfl, ?_⟩) (by assumption) ?_; rotate_left 1; · (intro w hSw; (try dsimp only at hSw); go_simp; all_goals with_reducible rfl))
    try simp only [Act.put, List.setIfInBounds_toArray, List.set_cons_zero, List.set_cons_succ]
    first | (refine wpAnyH_take (i := 9) (oi := ⟨_, _, _, _, _, _⟩) (v := ?_) rfl (by kernel_rfl) (by kernel_rfl) (by kernel_rfl) (fun _ _ _ h => h) (Or.inl ⟨by rfl, ?_⟩) (by assumption) ?_; rotate_left 1; · (intro w hSw; (try dsimp only at hSw); go_simp; all_goals with_reducible rfl)) | refine wpAnyH_take (i := 9) (oi := ⟨_, _, _, _, _, _⟩) (v := undef) rfl (by kernel_rfl) (by kernel_rfl) (by kernel_rfl) (fun _ _ _ h => h) (Or.inr ⟨by kernel_rfl, rfl⟩) (by assumption) ?_
    try simp only [Act.put, List.setIfInBounds_toArray, List.set_cons_zero, List.set_cons_succ]
    first | (refine wpAnyH_take (i := 10) (oi := ⟨_, _, _, _, _, _⟩) (v := ?_) rfl (by kernel_rfl) (by kernel_rfl) (by kernel_rfl) (fun _ _ _ h => h) (Or.inl ⟨by rfl, ?_⟩) (by assumption) ?_; rotate_left 1; · (intro w hSw; (try dsimp only at hSw); go_simp; all_goals with_reducible rfl)) | refine wpAnyH_take (i := 10) (oi := ⟨_, _, _, _, _, _⟩) (v := undef) rfl (by kernel_rfl) (by kernel_rfl) (by kernel_rfl) (fun _ _ _ h => h) (Or.inr ⟨by kernel_rfl, rfl⟩) (by assumption) ?_
    try simp only [Act.put, List.setIfInBounds_toArray, List.set_cons_zero, List.set_cons_succ]
    first | (refine wpAnyH_take (i := 12) (oi := ⟨_, _, _, _, _, _⟩) (v := ?_) rfl (by kernel_rfl) (by kernel_rfl) (by kernel_rfl) (fun _ _ _ h => h) (Or.inl ⟨by rfl, ?_⟩) (by assumption) ?_; rotate_left 1; · (intro w hSw; (try dsimp only at hSw); go_simp; all_goals with_reducible rfl)) | refine wpAnyH_take (i := 12) (oi := ⟨_, _, _, _, _, _⟩) (v := undef) rfl (by kernel_rfl) (by kernel_rfl) (by kernel_rfl) (fun _ _ _ h => h) (Or.inr ⟨by kernel_rfl, rfl⟩) (by assumption) ?_
    try simp only [Act.put, List.setIfInBounds_toArray, List.set_cons_zero, List.set_cons_succ]
    first | (refine wpAnyH_take (i := 13) (oi := ⟨_, _, _, _, _, _⟩) (v := ?_) rfl (by kernel_rfl) (by kernel_rfl) (by kernel_rfl) (fun _ _ _ h => h) (Or.inl ⟨by rfl, ?_⟩) (by assumption) ?_; rotate_left 1; · (intro w hSw; (try dsimp only at hSw); go_simp; all_goals with_reducible rfl)) | refine wpAnyH_take (i := 13) (oi := ⟨_, _, _, _, _, _⟩) (v := undef) rfl (by kernel_rfl) (by kernel_rfl) (by kernel_rfl) (fun _ _ _ h => h) (Or.inr ⟨by kernel_rfl, rfl⟩) (by assumption) ?_
    try simp only [Act.put, List.setIfInBounds_toArray, List.set_cons_zero, List.set_cons_succ]
    first | (refine wpAnyH_take (i := 14) (oi := ⟨_, _, _, _, _, _⟩) (v := ?_) rfl (by kernel_rfl) (by kernel_rfl) (by kernel_rfl) (fun _ _ _ h => h) (Or.inl ⟨by rfl, ?_⟩) (by assumption) ?_; rotate_left 1; · (intro w hSw; (try dsimp only at hSw); go_simp; all_goals with_reducible rfl)) | refine wpAnyH_take (i := 14) (oi := ⟨_, _, _, _, _, _⟩) (v := undef) rfl (by kernel_rfl) (by kernel_rfl) (by kernel_rfl) (fun _ _ _ h => h) (Or.inr ⟨by kernel_rfl, rfl⟩) (by assumption) ?_
    try simp only [Act.put, List.setIfInBounds_toArray, List.set_cons_zero, List.set_cons_succ]
    first | (refine wpAnyH_take (i := 15) (oi := ⟨_, _, _, _, _, _⟩) (v := ?_) rfl (by kernel_rfl) (by kernel_rfl) (by kernel_rfl) (fun _ _ _ h => h) (Or.inl ⟨by rfl, ?_⟩) (by assumption) ?_; rotate_left 1; · (intro w hSw; (try dsimp only at hSw); go_simp; all_goals with_reducible rfl)) | refine wpAnyH_take (i := 15) (oi := ⟨_, _, _, _, _, _⟩) (v := undef) rfl (by kernel_rfl) (by kernel_rfl) (by kernel_rfl) (fun _ _ _ h => h) (Or.inr ⟨by kernel_rfl, rfl⟩) (by assumption) ?_
    try simp only [Act.put, List.setIfInBounds_toArray, List.set_cons_zero, List.set_cons_succ]
    first | (refine wpAnyH_take (i := 17) (oi := ⟨_, _, _, _, _, _⟩) (v := ?_) rfl (by kernel_rfl) (by kernel_rfl) (by kernel_rfl) (fun _ _ _ h => h) (Or.inl ⟨by rfl, ?_⟩) (by assumption) ?_; rotate_left 1; · (intro w hSw; (try dsimp only at hSw); go_simp; all_goals with_reducible rfl)) | refine wpAnyH_take (i := 17) (oi := ⟨_, _, _, _, _, _⟩) (v := undef) rfl (by kernel_rfl) (by kernel_rfl) (by kernel_rfl) (fun _ _ _ h => h) (Or.inr ⟨by kernel_rfl, rfl⟩) (by assumption) ?_
    try simp only [Act.put, List.setIfInBounds_toArray, List.set_cons_zero, List.set_cons_succ]
    refine wpAnyH_ready (rs := [11]) (by kernel_rfl) (by simp) ?_
    refine AllReadyH.cons (o := ⟨_, _, _, _, _, _⟩) rfl (fun Kq hKq => ?_) AllReadyH.nil
    go_simp
    have hHeld2 := hHeld; clear hHeld
    (go_at_call 47; (with_reducible refine (time_any l d v x _ (dbox_below H.out.box hHeld2.2.2.out)).mono ?_); rintro e w2 ⟨rfl, rfl⟩)
    refine hKq.out _ _ ?_ (fun hHeld => ?_)
    · (try dsimp only); exact hHeld2
    clear hKq Kq
    try simp only [Act.put, List.setIfInBounds_toArray, List.set_cons_zero, List.set_cons_succ]
    first | (refine wpAnyH_take (i := 16) (oi := ⟨_, _, _, _, _, _⟩) (v := ?_) rfl (by kernel_rfl) (by kernel_rfl) (by kernel_rfl) (fun _ _ _ h => h) (Or.inl ⟨by rfl, ?_⟩) (by assumption) ?_; rotate_left 1; · (intro w hSw; (try dsimp only at hSw); go_simp; all_goals with_reducible rfl)) | refine wpAnyH_take (i := 16) (oi := ⟨_, _, _, _, _, _⟩) (v := undef) rfl (by kernel_rfl) (by kernel_rfl) (by kernel_rfl) (fun _ _ _ h => h) (Or.inr ⟨by kernel_rfl, rfl⟩) (by assumption) ?_
    try simp only [Act.put, List.setIfInBounds_toArray, List.set_cons_zero, List.set_cons_succ]
    refine wpAnyH_ready (rs := [18]) (by kernel_rfl) (by simp) ?_
    refine AllReadyH.cons (o := ⟨_, _, _, _, _, _⟩) rfl (fun Kq hKq => ?_) AllReadyH.nil
    go_simp
    have hHeld2 := hHeld; clear hHeld
    (have HB2 := hHeld2.2.2; go_at_call 63; (with_reducible refine (limit_any base l d v _ (H.out.below HB2.out) HD.out).mono ?_); rintro e w3 ⟨rfl, hb⟩; have HK := Lib.hid (below_after HB2.out hb (Nat.le_refl _)); clear hb)
    refine hKq.out _ _ ?_ (fun hHeld => ?_)
    · (try dsimp only); exact HSt.out _ HK.out
    clear hKq Kq
    try simp only [Act.put, List.setIfInBounds_toArray, List.set_cons_zero, List.set_cons_succ]
    first | (refine wpAnyH_take (i := 19) (oi := ⟨_, _, _, _, _, _⟩) (v := ?_) rfl (by kernel_rfl) (by kernel_rfl) (by kernel_rfl) (fun _ _ _ h => h) (Or.inl ⟨by rfl, ?_⟩) (by assumption) ?_; rotate_left 1; · (intro w hSw; (try dsimp only at hSw); go_simp; all_goals with_reducible rfl)) | refine wpAnyH_take (i := 19) (oi := ⟨_, _, _, _, _, _⟩) (v := undef) rfl (by kernel_rfl) (by kernel_rfl) (by kernel_rfl) (fun _ _ _ h => h) (Or.inr ⟨by kernel_rfl, rfl⟩) (by assumption) ?_
    try simp only [Act.put, List.setIfInBounds_toArray, List.set_cons_zero, List.set_cons_succ]
    (refine wpAnyH_take (i := 20) (oi := ⟨_, _, _, _, _, _⟩) (v := ?_) rfl (by kernel_rfl) (by kernel_rfl) (by kernel_rfl) (fun _ _ _ h => h) (Or.inl ⟨by rfl, ?_⟩) (by assumption) ?_; rotate_left 1; · (intro w hSw; (try dsimp only at hSw); go_simp; all_goals with_reducible rfl))
    try simp only [Act.put, List.setIfInBounds_toArray, List.set_cons_zero, List.set_cons_succ]
    (refine wpAnyH_take (i := 21) (oi := ⟨_, _, _, _, _, _⟩) (v := ?_) rfl (by kernel_rfl) (by kernel_rfl) (by kernel_rfl) (fun _ _ _ h => h) (Or.inl ⟨by rfl, ?_⟩) (by assumption) ?_; rotate_left 1; · (intro w hSw; (try dsimp only at hSw); go_simp; all_goals with_reducible rfl))
    try simp only [Act.put, List.setIfInBounds_toArray, List.set_cons_zero, List.set_cons_succ]
    refine wpAnyH_done (by kernel_rfl) ?_ _
    go_wp2_with fail
    go_ret
    exact ⟨ret_bool E.out.symm, HK.out⟩
    end Go.Proofs.Ytkoeplgkiogjlaa
namespace Go.Proofs.Ytkoeplgkiogjlaa
open Go Go.RowKit
theorem eq_nil (w : World) (a : Option Addr) (n c : Nat) : (binOp .eql 45 (.slice a n c) (.slice none 0 0)).run Try.prog w = .ok (.bool a.isNone) w := Lib.run_eql_slice_nil w _ _ a n c 0 0 Try.underlying45
/-- append of a list of numbers to an empty literal. -/
theorem wpList_copied {ops : Array Oper} {rest : List Oper} {o : Oper} {a : Act} {Q : Exit → Act → World → Prop} (hgd : o.guard = none) (s x : Operand)
    (ho : o.op = .call { callee := .builtin .append, args := #[s, x], argTypes := #[45, 45] }) (w : World) (v : Value) (g : List Int)
    (hs : a.eval s = .slice (some ⟨w.heap.size, 0, none⟩) 0 0) (hx : a.eval x = v) (hI : Rcs encN 1 w v g) (hl : g.length ≤ 4096)
    (h : ∀ A' c' w', Gaps w' w.heap.size (.slice A' g.length c') g → Below w.heap.size w w' → wpList Try.prog ops Q rest (a.put o.dst (.slice A' g.length c')) w') :
    wpList Try.prog ops Q (o :: rest) a (w.alloc (.cells #[] 3)) := by
  have HO : Gaps (w.alloc (.cells #[] 3)) w.heap.size (.slice (some ⟨w.heap.size, 0, none⟩) 0 0) [] := World.ownsRow_made w #[] 0 (Nat.le_refl _) (by decide) rfl
  refine wpList_append_recs (enc := encN) (sz := 1) 45 3 Try.underlying45 info3 rfl encN_len (by decide) encN_one (by decide) hgd s x ho _ w.heap.size _ v [] g hs hx HO (hI.below (below_oneX w _)) (by simp; omega) (by simp) fun v' w' h1 h2 => ?_
  obtain ⟨A', c', rfl, _⟩ := gaps_slice (g := g) h1
  exact h A' c' w' h1 ((below_oneX w _).trans h2)
theorem clone_any (b0 : Nat) (v : Value) (g : List Int) (w : World) (h : Gaps w b0 v g) (hl : g.length ≤ 4096) : Calls Try.prog 46 #[v] w fun e w' => ∃ u, e = .returned u ∧ Gaps w' w.heap.size u g ∧ Below w.heap.size w w' := by
  have HI := Lib.hid (gaps_rcs h)
  have HL := Lib.hid hl
  obtain ⟨A, c, rfl, _, hn⟩ := gaps_slice h
  clear h hl
  cases A with
  | none =>
    obtain rfl := hn rfl
    have hg : g = [] := by
      obtain ⟨A', c', hv, h0, hc, _⟩ := HI.out
      injection hv with e1 e2 e3
      exact List.eq_nil_of_length_eq_zero (by omega)
    subst hg
    clear hn HI
    have hq : ∀ (w : World) (a : Option Addr) (n c : Nat), (binOp .eql 45 (.slice a n c) (.slice none 0 0)).run Try.prog w = .ok (.bool a.isNone) w := eq_nil
    go_enter Try.func46, Try.ntmps46
    go_wp2_with fail
    go_ret
    exact ⟨_, rfl, OwnsR.nil _ _ _, Below.refl _ _⟩
  | some ad =>
    clear hn
    have hq : ∀ (w : World) (a : Option Addr) (n c : Nat), (binOp .eql 45 (.slice a n c) (.slice none 0 0)).run Try.prog w = .ok (.bool a.isNone) w := eq_nil
    go_enter Try.func46, Try.ntmps46
    go_wp2_with (refine wpList_copied (by rfl) _ _ (by rfl) w _ g (by rfl) (by rfl) HI.out HL.out ?_; intro A2 c2 w2 h1 h2; have G := Lib.hid h1; have B2 := Lib.hid h2; clear h1 h2)
    go_ret
    exact ⟨_, rfl, G.out, B2.out⟩
theorem copy_any (base l : Nat) (d : Dt) (v : Value) (w : World) (h : Det 81 w base l d v) (hd : d.Ok) : Calls Try.prog 28 #[.pointer (some ⟨l, 0, none⟩)] w fun e w' => ∃ l' v', e = .returned (.pointer (some ⟨l', 0, none⟩)) ∧ Det 81 w' w.heap.size l' d v' ∧ Below w.heap.size w w' := by
  have H := Lib.hid h
  have HF := Lib.hid (few hd)
  obtain ⟨c0, c1, c2, c3, c4, c5⟩ := dbox_cells h.box
  obtain ⟨A, c, rfl, -, -⟩ := gaps_slice h.gaps
  have B := Lib.hid (below_oneX w (.cells #[.int .i64 d.mn, .int .i64 d.mx, .int .i64 d.wi, .bool d.bg, .int .i64 d.la, .slice A d.ga.length c] 81))
  have X : Hid (DBox 81 (w.alloc (.cells #[.int .i64 d.mn, .int .i64 d.mx, .int .i64 d.wi, .bool d.bg, .int .i64 d.la, .slice A d.ga.length c] 81)) w.heap.size d (.slice A d.ga.length c)) := Lib.hid (heap_alloc_new w _)
  have HL := Lib.hid h.lt
  have H2 := Lib.hid (h.below B.out)
  have c5' := (dbox_cells H2.out.box).2.2.2.2.2
  clear h hd
  go_enter Try.func28, Try.ntmps28
  go_wp2_with fail
  (with_reducible refine (clone_any base _ d.ga _ H2.out.gaps HF.out).mono ?_)
  rintro e w2 ⟨u, rfl, h1, h2⟩
  obtain ⟨A2, c2', rfl, -, -⟩ := gaps_slice h1
  have G := Lib.hid (World.ownsRow.mono (base' := w.heap.size) h1 (by simp))
  have B2 := Lib.hid (below_after B.out h2 (Nat.le_refl _))
  have X2 := Lib.hid (dbox_below X.out h2)
  have f5 := (dbox_free X2.out).2.2
  have c5'' := (dbox_cells X2.out).2.2.2.2.2
  clear h1 h2 c0 c1 c2 c3 c4 c5 c5'
  go_wp2_with fail
  go_ret
  exact ⟨_, _, rfl, ⟨dbox_set5 X2.out _ d.ga, Nat.le_refl _, gaps_set X2.out (by decide) G.out, by decide⟩, B2.out.setCell (p := ⟨w.heap.size, 5, none⟩) (Nat.le_refl _) _⟩
end Go.Proofs.Ytkoeplgkiogjlaa
namespace Go.Proofs.Ytkoeplgkiogjlaa
open Go Go.RowKit Go.Maps
theorem laid : laidOutB Try.prog = true := by kernel_rfl
theorem row35 : (35 : TypeId) < Try.prog.types.size := of_decide_eq_true (by kernel_rfl)
theorem wide35 : (match Try.prog.underlying 35 with | some (.array _ _) | some (.struct _) => true | _ => false) = true := by rw [Try.underlying35]
theorem law35 : Go.WideMaps.KeyLaw Try.prog 35 := deep_law_laid laid (m := 2) (by omega) row35 (by kernel_rfl) wide35
theorem keyed35 : Keyed Try.prog 35 := Keyed.of_law law35
def idv (p : Int × Int) : Value := .agg #[.int .i64 p.1, .int .i64 p.2]
def idLit (p : Int × Int) : Lit := .string (keyBytes [.int .i64 p.1, .int .i64 p.2])
def In2 (p : Int × Int) : Prop := (-9223372036854775808 ≤ p.1 ∧ p.1 ≤ 9223372036854775807) ∧ (-9223372036854775808 ≤ p.2 ∧ p.2 ≤ 9223372036854775807)
theorem kt35 : Try.prog.keyType 35 = true := by kernel_rfl
theorem lits3 {n : Nat} {x : Int} (h : -9223372036854775808 ≤ x ∧ x ≤ 9223372036854775807) : Try.prog.keyLits (n + 1) 3 [.int .i64 x] = some [.int .i64 x] := by
  have := WalkArith.wf_i64 h
  simp [Program.keyLits, Try.underlying3, this]
theorem lits3_inv {n : Nat} {v : Value} {l : List Lit} (h : Try.prog.keyLits (n + 1) 3 [v] = some l) : ∃ x : Int, (-9223372036854775808 ≤ x ∧ x ≤ 9223372036854775807) ∧ v = .int .i64 x ∧ l = [.int .i64 x] := by
  unfold Program.keyLits at h
  rw [Try.underlying3] at h
  cases v <;> simp at h
  obtain ⟨⟨rfl, h1⟩, rfl⟩ := h
  refine ⟨_, ?_, rfl, rfl⟩
  simp [Lit.wf, IntKind.min, IntKind.max, IntKind.signed, IntKind.bits] at h1
  exact h1
theorem cells3' : Try.prog.cellsOf 3 = 1 := by kernel_rfl
theorem cells35' : Try.prog.cellsOf 35 = 2 := by kernel_rfl
theorem key_id {p : Int × Int} (h : In2 p) : keyOf Try.prog 35 (idv p) = some (idLit p) := by
  unfold keyOf
  simp only [Try.underlying35]
  rw [if_pos (by rw [kt35]; simp [idv, Value.formed, Try.underlying35, cells35'])]
  unfold idLit idv
  unfold Program.keyLits
  simp [Try.underlying35, cells35', cells3', Value.cells, lits3 (n := 113) h.1, lits3 (n := 113) h.2]
theorem key_inv {v : Value} {l : Lit} (h : keyOf Try.prog 35 v = some l) : ∃ p, In2 p ∧ v = idv p ∧ l = idLit p := by
  unfold keyOf at h
  simp only [Try.underlying35] at h
  split at h
  · rename_i hc
    simp only [Bool.and_eq_true, Value.formed, Try.underlying35, cells35'] at hc
    cases v <;> simp at hc
    rename_i cs
    obtain ⟨_, hcs⟩ := hc
    obtain ⟨a, b, rfl⟩ : ∃ a b, cs = #[a, b] := by
      obtain ⟨l⟩ := cs
      match l, hcs with
      | [a, b], _ => exact ⟨a, b, rfl⟩
    unfold Program.keyLits at h
    simp [Try.underlying35, cells35', cells3', Value.cells] at h
    cases h1 : Try.prog.keyLits 114 3 [a] with
    | none => rw [h1] at h; cases h
    | some la =>
      cases h2 : Try.prog.keyLits 114 3 [b] with
      | none => rw [h1, h2] at h; cases h
      | some lb =>
        rw [h1, h2] at h
        obtain ⟨x, hx, rfl, rfl⟩ := lits3_inv (n := 113) h1
        obtain ⟨y, hy, rfl, rfl⟩ := lits3_inv (n := 113) h2
        simp at h
        exact ⟨(x, y), ⟨hx, hy⟩, rfl, h.symm⟩
  · cases h
theorem idLit_inj {p q : Int × Int} (hp : In2 p) (hq : In2 q) (h : idLit p = idLit q) : p = q := by
  have e := keyed35.inj (key_id hp) (by rw [h]; exact key_id hq)
  unfold idv at e
  simp at e
  exact Prod.ext e.1 e.2
theorem idLit_ne {p q : Int × Int} (hp : In2 p) (hq : In2 q) (h : p ≠ q) : idLit p ≠ idLit q := fun e => h (idLit_inj hp hq e)
theorem idLit_key (p : Int × Int) : WideAt.IsKeyLit (idLit p) := by unfold idLit; trivial
/-- How the elements of a map are written and read. -/
structure El (V : Type) where
  v : V → Value
  d : V → DataW Unit
  r : Value → Option (DataW Unit × List MemPlace)
  dinj : ∀ {x y}, d x = d y → x = y
  rv : ∀ x, r (v x) = some (d x, [])
  inv : ∀ {u z}, r u = some z → ∃ x, u = v x ∧ z = (d x, [])
section
variable {V : Type} {E : El V} {w : World} {b n : Nat} {M : Int × Int → Option V}
/-- Block b is a map of at most n entries, in which M stands. -/
def MapI (E : El V) (w : World) (b n : Nat) (M : Int × Int → Option V) : Prop :=
  ∃ D, w.ownsMap Try.prog 35 E.r b n D ∧ ∀ p, In2 p → (Maps.has D (idLit p) = (M p).isSome ∧ ∀ x, M p = some x → ∀ z, D.atKey (idLit p) z = E.d x)
def putI (M : Int × Int → Option V) (p : Int × Int) (x : Option V) : Int × Int → Option V := fun q => if q = p then x else M q
theorem putI_same (M : Int × Int → Option V) (p : Int × Int) (x : Option V) : putI M p x p = x := by simp [putI]
theorem putI_other (M : Int × Int → Option V) {p q : Int × Int} (x : Option V) (h : q ≠ p) : putI M p x q = M q := by simp [putI, h]
theorem MapI.made (E : El V) (w : World) : MapI E (w.alloc (.map #[] 0)) w.heap.size 0 (fun _ => none) :=
  ⟨_, World.ownsMap_made _ _ _ _, fun p _ => ⟨rfl, fun x h => by cases h⟩⟩
theorem MapI.lt (h : MapI E w b n M) : b < w.heap.size := by
  obtain ⟨D, h1, _⟩ := h
  exact h1.lt
theorem MapI.mono (h : MapI E w b n M) {k : Nat} (hk : n ≤ k) : MapI E w b k M := by
  obtain ⟨D, h1, h2⟩ := h
  exact ⟨D, h1.mono hk, h2⟩
theorem MapI.same {w' : World} (h : MapI E w b n M) (hb : w'.heap[b]? = w.heap[b]?) : MapI E w' b n M := by
  obtain ⟨D, ⟨es, clock, h1, h2⟩, h3⟩ := h
  exact ⟨D, ⟨es, clock, hb.trans h1, h2⟩, h3⟩
/-- x, ok := m[p] -/
theorem MapI.look {T e : TypeId} (h : MapI E w b n M) (ht : Try.prog.underlying T = some (.map 35 e)) {z : V} (hz : (zeroValue e).run Try.prog w = .ok (E.v z) w) {p : Int × Int} (hp : In2 p) :
    (Instr.lookup T (.map (some b)) (idv p) true).run Try.prog w = .ok (.tuple #[E.v ((M p).getD z), .bool (M p).isSome]) w := by
  obtain ⟨D, h1, h2⟩ := h
  obtain ⟨v, ps, hrun, hv⟩ := h1.look_ok keyed35 ht hz (E.rv z) (key_id hp)
  obtain ⟨k1, k2⟩ := h2 p hp
  rw [k1] at hrun
  obtain ⟨x, rfl, e⟩ := E.inv hv
  injection e with e
  rw [hrun]
  cases hM : M p with
  | none =>
    rw [hM] at k1
    rw [Maps.atKey_of_not_has k1] at e
    rw [E.dinj e]
    rfl
  | some y =>
    rw [k2 y hM] at e
    rw [E.dinj e]
    rfl
/-- m[p] -/
theorem MapI.at {T e : TypeId} (h : MapI E w b n M) (ht : Try.prog.underlying T = some (.map 35 e)) {z : V} (hz : (zeroValue e).run Try.prog w = .ok (E.v z) w) {p : Int × Int} (hp : In2 p) :
    (Instr.lookup T (.map (some b)) (idv p) false).run Try.prog w = .ok (E.v ((M p).getD z)) w := by
  obtain ⟨D, h1, h2⟩ := h
  obtain ⟨v, ps, hrun, hv⟩ := h1.lookup keyed35 ht hz (E.rv z) (key_id hp)
  obtain ⟨k1, k2⟩ := h2 p hp
  obtain ⟨x, rfl, e⟩ := E.inv hv
  injection e with e
  rw [hrun]
  cases hM : M p with
  | none =>
    rw [hM] at k1
    rw [Maps.atKey_of_not_has k1] at e
    rw [E.dinj e]
    rfl
  | some y =>
    rw [k2 y hM] at e
    rw [E.dinj e]
    rfl
/-- m[p] = x -/
theorem MapI.put {T e : TypeId} (h : MapI E w b n M) (ht : Try.prog.underlying T = some (.map 35 e)) (hn : n < maxLen) {p : Int × Int} (hp : In2 p) (x : V) :
    ∃ w', (Instr.mapUpdate T (.map (some b)) (idv p) (E.v x)).run Try.prog w = .ok () w' ∧ MapI E w' b (n + 1) (putI M p (some x)) ∧ w.mapTurned w' b := by
  obtain ⟨D, h1, h2⟩ := h
  have hm := h1.isMap
  obtain ⟨w', hrun, k1, k2⟩ := h1.store keyed35 ht hn (key_id hp) (E.rv x)
  refine ⟨w', hrun, ⟨_, k1, fun q hq => ?_⟩, k2⟩
  by_cases e : q = p
  · subst e
    rw [putI_same]
    refine ⟨Maps.has_put_same hm (idLit_key q) _, fun y hy z => ?_⟩
    injection hy with hy
    rw [Maps.atKey_put_same hm (idLit_key q), hy]
  · have hne := idLit_ne hq hp e
    rw [putI_other M _ e]
    refine ⟨(Maps.has_put_other hne _).trans (h2 q hq).1, fun y hy z => ?_⟩
    rw [Maps.atKey_put_other hne]
    exact (h2 q hq).2 y hy z
/-- delete(m, p) -/
theorem MapI.drop {T e : TypeId} (h : MapI E w b n M) (ht : Try.prog.underlying T = some (.map 35 e)) {p : Int × Int} (hp : In2 p) (ty : TypeId) :
    ∃ w', (Builtin.delete_ #[T, 35] ty #[.map (some b), idv p]).run Try.prog w = .ok (.tuple #[]) w' ∧ MapI E w' b n (putI M p none) ∧ w.mapTurned w' b := by
  obtain ⟨D, h1, h2⟩ := h
  obtain ⟨w', hrun, k1, k2⟩ := h1.drop keyed35 ht (key_id hp) ty
  refine ⟨w', hrun, ⟨_, k1, fun q hq => ?_⟩, k2⟩
  by_cases e : q = p
  · subst e
    rw [putI_same]
    exact ⟨Maps.has_del_same, fun y hy => by cases hy⟩
  · have hne := idLit_ne hq hp e
    rw [putI_other M _ e]
    refine ⟨(Maps.has_del_other hne).trans (h2 q hq).1, fun y hy z => ?_⟩
    rw [Maps.atKey_del_other hne]
    exact (h2 q hq).2 y hy z
/-- A range over the map of block b, in block r: 'left' are still to come. -/
def RngI (E : El V) (w : World) (b r n : Nat) (M : Int × Int → Option V) (left : Int × Int → Bool) (cnt : Nat) : Prop :=
  ∃ D lf, w.ranges Try.prog 35 E.r b r n D lf cnt ∧ (∀ p, In2 p → (Maps.has D (idLit p) = (M p).isSome ∧ ∀ x, M p = some x → ∀ z, D.atKey (idLit p) z = E.d x)) ∧ ∀ p, In2 p → lf (idLit p) = left p
variable {r cnt : Nat} {left : Int × Int → Bool}
theorem RngI.map (h : RngI E w b r n M left cnt) : MapI E w b n M := by
  obtain ⟨D, lf, h1, h2, _⟩ := h
  exact ⟨D, h1.owns, h2⟩
theorem RngI.kept {w' : World} {row : Option Nat} (h : RngI E w b r n M left cnt) (hg : w.grownBy w' row) (hb : some b ≠ row) (hr : some r ≠ row) : RngI E w' b r n M left cnt := by
  obtain ⟨D, lf, h1, h2⟩ := h
  exact ⟨D, lf, h1.kept hg hb hr, h2⟩
/-- for p := range m: the beginning -/
theorem MapI.range {T e : TypeId} (h : MapI E w b n M) (ht : Try.prog.underlying T = some (.map 35 e)) :
    ∃ w' c, (Instr.range T (.map (some b))).run Try.prog w = .ok (.pointer (some ⟨w.heap.size, 0, none⟩)) w' ∧ RngI E w' b w.heap.size n M (fun p => (M p).isSome) c ∧ c ≤ n ∧ w.grownBy w' none ∧ w'.heap.size = w.heap.size + 1 := by
  obtain ⟨D, h1, h2⟩ := h
  have hs := h1.size_le
  obtain ⟨w', hrun, k1, k2, k3⟩ := h1.range keyed35 ht
  exact ⟨w', _, hrun, ⟨D, _, k1, h2, fun p hp => (h2 p hp).1⟩, hs, k2, k3⟩
def offI (left : Int × Int → Bool) (p : Int × Int) : Int × Int → Bool := fun q => left q && !decide (q = p)
theorem sameKey_id {p q : Int × Int} (hp : In2 p) (hq : In2 q) : (idLit q).sameKey (idLit p) = decide (q = p) := by
  by_cases e : q = p
  · subst e
    simp [WideAt.sameKey_self (idLit_key q)]
  · rw [Maps.sameKey_ne (idLit_ne hq hp e)]
    simp [e]
/-- Its next one: none is left, or p is, whatever M says of it. -/
theorem RngI.next (h : RngI E w b r n M left cnt) (ty : TypeId) :
    (cnt = 0 ∧ (∀ p, In2 p → left p = false) ∧ (Instr.next (.pointer (some ⟨r, 0, none⟩)) false ty).run Try.prog w = .ok (.tuple #[.bool false]) w) ∨
    ∃ p x w' c, In2 p ∧ left p = true ∧ M p = some x ∧ (Instr.next (.pointer (some ⟨r, 0, none⟩)) false ty).run Try.prog w = .ok (.tuple #[.bool true, idv p, E.v x]) w' ∧
      RngI E w' b r n M (offI left p) c ∧ c < cnt ∧ w.grownBy w' (some r) ∧ w'.heap.size = w.heap.size ∧ (Instr.entry (.pointer (some ⟨r, 0, none⟩))).run Try.prog w' = .ok (.tuple #[idv p, E.v x]) w' := by
  obtain ⟨D, lf, h1, h2, h3⟩ := h
  rcases h1.next keyed35 ty with ⟨k0, k1, k2⟩ | ⟨key, v, kl, y, w', c, k1, k2, k3, k4, k5, k6, k7, k8, k9, k10⟩
  · exact .inl ⟨k0, fun p hp => (h3 p hp).symm.trans (k1 _), k2⟩
  · obtain ⟨p, hp, rfl, rfl⟩ := key_inv k1
    obtain ⟨x, rfl, e⟩ := E.inv k3
    have hM : M p = some x := by
      have hh : Maps.has D (idLit p) = true := Maps.has_true_of_atKey k4
      obtain ⟨j1, j2⟩ := h2 p hp
      rw [hh] at j1
      cases hM : M p with
      | none => rw [hM] at j1; cases j1
      | some y =>
        have := j2 y hM (E.d x)
        rw [k4, e] at this
        rw [E.dinj this]
    refine .inr ⟨p, x, w', c, hp, (h3 p hp).symm.trans k2, hM, k5, ⟨D, _, k6, h2, fun q hq => ?_⟩, k7, k8, k9, k10⟩
    simp only [offI, h3 q hq, sameKey_id hp hq]
/-- delete(m, p) in it -/
theorem RngI.drop {T e : TypeId} (h : RngI E w b r n M left cnt) (ht : Try.prog.underlying T = some (.map 35 e)) {p : Int × Int} (hp : In2 p) (ty : TypeId) :
    ∃ w' c, (Builtin.delete_ #[T, 35] ty #[.map (some b), idv p]).run Try.prog w = .ok (.tuple #[]) w' ∧ RngI E w' b r n (putI M p none) (offI left p) c ∧ c ≤ cnt ∧ w.mapTurned w' b := by
  obtain ⟨D, lf, h1, h2, h3⟩ := h
  obtain ⟨w', c, hrun, k1, k2, k3⟩ := h1.drop keyed35 ht (key_id hp) ty
  refine ⟨w', c, hrun, ⟨_, _, k1, fun q hq => ?_, fun q hq => ?_⟩, k2, k3⟩
  · by_cases e : q = p
    · subst e
      rw [putI_same]
      exact ⟨Maps.has_del_same, fun y hy => by cases hy⟩
    · have hne := idLit_ne hq hp e
      rw [putI_other M _ e]
      refine ⟨(Maps.has_del_other hne).trans (h2 q hq).1, fun y hy z => ?_⟩
      rw [Maps.atKey_del_other hne]
      exact (h2 q hq).2 y hy z
  · simp only [offI, h3 q hq, sameKey_id hp hq]
end
section
variable {V : Type} {E : El V} {b n r cnt : Nat} {M : Int × Int → Option V} {left : Int × Int → Bool} {T e : TypeId}
theorem wpList_range_id (w : World) {ops : Array Oper} {rest : List Oper} {o : Oper} {a : Act} {Q : Exit → Act → World → Prop} (hg : o.guard = none) (m : Operand) (hop : o.op = Op.range T m)
    (ht : Try.prog.underlying T = some (.map 35 e)) (h : MapI E w b n M) (hm : a.eval m = .map (some b))
    (hK : ∀ w' c, RngI E w' b w.heap.size n M (fun p => (M p).isSome) c → c ≤ n → w.grownBy w' none → w'.heap.size = w.heap.size + 1 → wpList Try.prog ops Q rest (a.put o.dst (.pointer (some ⟨w.heap.size, 0, none⟩))) w') :
    wpList Try.prog ops Q (o :: rest) a w := by
  refine wpList_plain hg fun K' hK' => ?_
  unfold Oper.wp
  obtain ⟨w', c, hrun, r1, r2, r3, r4⟩ := h.range ht
  simp [execOp, hop, hm, hrun, Result.andThen]
  exact hK' _ _ (hK w' c r1 r2 r3 r4)
theorem wpList_next_id (w : World) {ops : Array Oper} {rest : List Oper} {o : Oper} {a : Act} {Q : Exit → Act → World → Prop} (hg : o.guard = none) (it : Operand) (hop : o.op = Op.next it false)
    (h : RngI E w b r n M left cnt) (hit : a.eval it = .pointer (some ⟨r, 0, none⟩))
    (hDone : cnt = 0 → (∀ p, In2 p → left p = false) → wpList Try.prog ops Q rest (a.put o.dst (.tuple #[.bool false])) w)
    (hMore : ∀ (p : Int × Int) (x : V) (w' : World) (c : Nat), In2 p → left p = true → M p = some x → RngI E w' b r n M (offI left p) c → c < cnt → w.grownBy w' (some r) → w'.heap.size = w.heap.size →
      (Instr.entry (.pointer (some ⟨r, 0, none⟩))).run Try.prog w' = .ok (.tuple #[idv p, E.v x]) w' → wpList Try.prog ops Q rest (a.put o.dst (.tuple #[.bool true, idv p, E.v x])) w') :
    wpList Try.prog ops Q (o :: rest) a w := by
  refine wpList_plain hg fun K' hK' => ?_
  unfold Oper.wp
  rcases h.next o.type with ⟨h0, hl, hrun⟩ | ⟨p, x, w', c, hp, hl, hM, hrun, r1, r2, r3, r4, r5⟩
  · simp [execOp, hop, hit, hrun, Result.andThen]
    exact hK' _ _ (hDone h0 hl)
  · simp [execOp, hop, hit, hrun, Result.andThen]
    exact hK' _ _ (hMore p x w' c hp hl hM r1 r2 r3 r4 r5)
variable {F : Fence} {nF : Nat}
theorem wpListIn_range_id (w : World) {ops : Array Oper} {rest : List Oper} {o : Oper} {a : Act} {Q : Exit → Act → World → Prop} (hg : o.guard = none) (m : Operand) (hop : o.op = Op.range T m)
    (ht : Try.prog.underlying T = some (.map 35 e)) (h : MapI E w b n M) (hm : a.eval m = .map (some b))
    (hK : ∀ w' c, RngI E w' b w.heap.size n M (fun p => (M p).isSome) c → c ≤ n → w.grownBy w' none → w'.heap.size = w.heap.size + 1 → wpListIn F nF Try.prog ops Q rest (a.put o.dst (.pointer (some ⟨w.heap.size, 0, none⟩))) w') :
    wpListIn F nF Try.prog ops Q (o :: rest) a w := by
  refine wpListIn_plain hg fun K' hK' => ?_
  unfold Oper.wpIn
  refine ⟨by simp [Oper.about, hop], ?_⟩
  rw [Oper.semAt_plain F _ _ (by rw [hop]; intro c hc'; cases hc')]
  obtain ⟨w', c, hrun, r1, r2, r3, r4⟩ := h.range ht
  simp [execOp, hop, hm, hrun, Result.andThen]
  exact hK' _ _ (hK w' c r1 r2 r3 r4)
theorem wpListIn_next_id (w : World) {ops : Array Oper} {rest : List Oper} {o : Oper} {a : Act} {Q : Exit → Act → World → Prop} (hg : o.guard = none) (it : Operand) (hop : o.op = Op.next it false)
    (h : RngI E w b r n M left cnt) (hit : a.eval it = .pointer (some ⟨r, 0, none⟩))
    (hDone : cnt = 0 → (∀ p, In2 p → left p = false) → wpListIn F nF Try.prog ops Q rest (a.put o.dst (.tuple #[.bool false])) w)
    (hMore : ∀ (p : Int × Int) (x : V) (w' : World) (c : Nat), In2 p → left p = true → M p = some x → RngI E w' b r n M (offI left p) c → c < cnt → w.grownBy w' (some r) → w'.heap.size = w.heap.size →
      (Instr.entry (.pointer (some ⟨r, 0, none⟩))).run Try.prog w' = .ok (.tuple #[idv p, E.v x]) w' → wpListIn F nF Try.prog ops Q rest (a.put o.dst (.tuple #[.bool true, idv p, E.v x])) w') :
    wpListIn F nF Try.prog ops Q (o :: rest) a w := by
  refine wpListIn_plain hg fun K' hK' => ?_
  unfold Oper.wpIn
  refine ⟨by simp [Oper.about, hop], ?_⟩
  rw [Oper.semAt_plain F _ _ (by rw [hop]; intro c hc'; cases hc')]
  rcases h.next o.type with ⟨h0, hl, hrun⟩ | ⟨p, x, w', c, hp, hl, hM, hrun, r1, r2, r3, r4, r5⟩
  · simp [execOp, hop, hit, hrun, Result.andThen]
    exact hK' _ _ (hDone h0 hl)
  · simp [execOp, hop, hit, hrun, Result.andThen]
    exact hK' _ _ (hMore p x w' c hp hl hM r1 r2 r3 r4 r5)
end
end Go.Proofs.Ytkoeplgkiogjlaa
