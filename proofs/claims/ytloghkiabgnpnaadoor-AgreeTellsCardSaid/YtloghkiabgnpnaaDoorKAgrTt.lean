/-
  Walked: who is not reached in any view, whether any ID is reached, whether all agree, and all that are reached, and who leads, are the document's. No statement is proved in this text.
-/
import Derived.Test.YtloghkiabgnpnaaDoorH25
namespace Go.Proofs.YtloghkiabgnpnaaDoor
open Go Go.RowKit
/-- A row of cells of IDs, of which nothing is known but that it is there. -/
def BlkI (w : World) (g n : Nat) : Prop := ∃ cur : Array Value, w.heap[g]? = some (.cells cur 32 (0, 0)) ∧ n ≤ cur.size
theorem BlkI.cell {w : World} {g n i : Nat} (h : BlkI w g n) (hi : i < n) : ∃ u, w.cell? ⟨g, i, none⟩ = some u := by
  obtain ⟨cur, h1, h2⟩ := h
  exact ⟨cur[i]'(by omega), by rw [cell_of_row _ _ i _ _ _ h1]; exact Array.getElem?_eq_getElem (by omega)⟩
theorem BlkI.free {w : World} {g n i : Nat} (h : BlkI w g n) : w.frozen? ⟨g, i, none⟩ = false := by
  obtain ⟨cur, h1, -⟩ := h
  simp [World.frozen?, h1]
theorem BlkI.put {w : World} {g n i : Nat} {v : Value} (h : BlkI w g n) : BlkI (w.setCell ⟨g, i, none⟩ v) g n := by
  obtain ⟨cur, h1, h2⟩ := h
  refine ⟨cur.setIfInBounds i v, ?_, by simpa using h2⟩
  simp [World.setCell, Array.getElem?_modify, h1]
theorem blkI_owns {w : World} {base g n c : Nat} {l : List Sets.Id2} (h : Owns w base (.slice (some ⟨g, 0, none⟩) n c) l) : BlkI w g (n * 2) ∧ base ≤ g := by
  have hn := ids_len (ids_of_owns h)
  rcases id h.2 with ⟨h1, -⟩ | ⟨g', cap, cur, h1, hb, hh, h3, h4, h5, -⟩
  · cases h1
  · injection h1 with e1 e2 e3
    injection e1 with e1
    injection e1 with e1
    subst e1
    exact ⟨⟨cur, hh, by rw [h5, hn]; omega⟩, hb⟩
theorem owns_form {w : World} {base : Nat} {v : Value} {l : List Sets.Id2} (h : Owns w base v l) : (v = .slice none 0 0 ∧ l = []) ∨ ∃ g n c, v = .slice (some ⟨g, 0, none⟩) n c ∧ n = l.length := by
  rcases owns_split h with ⟨h1, h2⟩ | ⟨g, cap, h1, -, -⟩
  · exact .inl ⟨h1, List.eq_nil_of_length_eq_zero h2⟩
  · exact .inr ⟨g, _, cap, h1, rfl⟩
set_option maxHeartbeats 16000000 in
set_option maxRecDepth 100000 in
theorem agreeTells_any (v : Value) (V : Vw) (y1 y2 : Int) (w : World) (h : VAt w v V) (hW : WideV V) (ht : Tabs w) : Calls Tryd.prog 4 #[v, .agg #[.int .i64 y1, .int .i64 y2]] w fun e w' => e = .returned (.bool true) ∧ Below w.heap.size w w' := by
  obtain ⟨a, b, c, d, e, rfl, hr⟩ := h
  have q1 := below_one w (.cells #[.slice a.1 a.2.1 a.2.2, .slice b.1 b.2.1 b.2.2, .slice c.1 c.2.1 c.2.2, .slice d.1 d.2.1 d.2.2, .slice e.1 e.2.1 e.2.2] 29)
  have q2 := below_one (w.alloc (.cells #[.slice a.1 a.2.1 a.2.2, .slice b.1 b.2.1 b.2.2, .slice c.1 c.2.1 c.2.2, .slice d.1 d.2.1 d.2.2, .slice e.1 e.2.1 e.2.2] 29)) (.cells #[.int .i64 y1, .int .i64 y2] 32)
  have G1 := Lib.hid ((agV_new hr).below q2)
  have X1 := Lib.hid (box_new (w.alloc (.cells #[.slice a.1 a.2.1 a.2.2, .slice b.1 b.2.1 b.2.2, .slice c.1 c.2.1 c.2.2, .slice d.1 d.2.1 d.2.2, .slice e.1 e.2.1 e.2.2] 29)) y1 y2)
  have BB := Lib.hid (below_after q1 q2 (Nat.le_refl _))
  have HZ := Lib.hid (show (w.alloc (.cells #[.slice a.1 a.2.1 a.2.2, .slice b.1 b.2.1 b.2.2, .slice c.1 c.2.1 c.2.2, .slice d.1 d.2.1 d.2.2, .slice e.1 e.2.1 e.2.2] 29)).heap.size = w.heap.size + 1 by simp)
  have T1 := Lib.hid (ht.below BB.out)
  have HW := Lib.hid hW
  clear hr q1 q2 hW ht
  rw [HZ.out] at X1
  obtain ⟨p0, p1, p2, p3, p4⟩ := vbox_cells G1.out.x
  go_enter Tryd.func4, Tryd.ntmps4
  go_wp2_with fail
  clear p0 p1 p2 p3 p4
  generalize (w.alloc (.cells #[.slice a.1 a.2.1 a.2.2, .slice b.1 b.2.1 b.2.2, .slice c.1 c.2.1 c.2.2, .slice d.1 d.2.1 d.2.2, .slice e.1 e.2.1 e.2.2] 29)).alloc (.cells #[.int .i64 y1, .int .i64 y2] 32) = w1 at *
  obtain ⟨g, hg⟩ : ∃ g, g = w.heap.size := ⟨_, rfl⟩
  obtain ⟨gi, hgi⟩ : ∃ g, g = w.heap.size + 1 := ⟨_, rfl⟩
  rw [← hg] at G1
  rw [← hgi] at X1
  rw [← hgi, ← hg]
  clear HZ hg hgi
  (with_reducible refine (large_any _ V w1 G1.out.at_ HW.out).mono ?_)
  rintro e2 w2 ⟨zz, rfl, hz, hb⟩
  have G2 := Lib.hid (G1.out.below hb)
  have T2 := Lib.hid (T1.out.below hb)
  have X2 := Lib.hid (box_below X1.out hb)
  have B2 := Lib.hid (below_after BB.out hb (Nat.le_refl _))
  clear hb G1 T1 X1 BB
  rcases zz with _ | _
  case true =>
    go_wp2_with fail
    go_ret
    exact ⟨rfl, B2.out⟩
  case false =>
    have HV := Lib.hid (FitL.fit (hz rfl))
    have HML : Hid (V.m.length ≤ 100000) := Lib.hid (Nat.le_trans HV.out.m (by omega))
    clear hz
    obtain ⟨x1, x2, hx⟩ : ∃ x1 x2 : Int, (x1, x2) = (Agr.leadO V.m V.r).getD (0, 0) := ⟨_, _, rfl⟩
    obtain ⟨iz, hiz⟩ : ∃ iz, iz = (Agr.leadO V.m V.r).isSome := ⟨_, rfl⟩
    have HLv : Hid (leadV (Agr.leadO V.m V.r) = .tuple #[.agg #[.int .i64 x1, .int .i64 x2], .bool iz]) := Lib.hid (by unfold leadV; rw [← hx, ← hiz])
    clear hx hiz
    obtain ⟨p0, p1, p2, p3, p4⟩ := vbox_cells G2.out.x
    go_wp2_with fail
    clear p0 p1 p2 p3 p4
    (with_reducible refine (leader_any _ V w2 G2.out.at_ HV.out T2.out).mono ?_)
    rw [HLv.out]
    rintro e3 w3 ⟨rfl, hb⟩
    have q := below_one w3 (.cells #[.int .i64 x1, .int .i64 x2] 32)
    have G3 := Lib.hid ((G2.out.below hb).below q)
    have X3 := Lib.hid (box_below (box_below X2.out hb) q)
    have A3 := Lib.hid (box_new w3 x1 x2)
    have B3 := Lib.hid (below_after (below_after B2.out hb (Nat.le_refl _)) q (Nat.le_refl _))
    clear hb q G2 X2 B2 T2
    obtain ⟨p0, p1, p2, p3, p4⟩ := vbox_cells G3.out.x
    go_wp2_with fail
    clear p0 p1 p2 p3 p4
    generalize w3.alloc (.cells #[.int .i64 x1, .int .i64 x2] 32) = wa at *
    obtain ⟨ga, hga⟩ : ∃ g, g = w3.heap.size := ⟨_, rfl⟩
    rw [← hga] at A3
    rw [← hga]
    clear hga
    (with_reducible refine (refLeader_any _ V wa G3.out.at_ HV.out HW.out.u).mono ?_)
    rw [HLv.out]
    rintro e4 w4 ⟨rfl, hb⟩
    have q := below_one w4 (.cells #[.int .i64 x1, .int .i64 x2] 32)
    have G4 := Lib.hid ((G3.out.below hb).below q)
    have X4 := Lib.hid (box_below (box_below X3.out hb) q)
    have A4 := Lib.hid (box_below (box_below A3.out hb) q)
    have D4 := Lib.hid (box_new w4 x1 x2)
    have B4 := Lib.hid (below_after (below_after B3.out hb (Nat.le_refl _)) q (Nat.le_refl _))
    clear hb q G3 X3 B3 A3
    obtain ⟨p0, p1, p2, p3, p4⟩ := vbox_cells G4.out.x
    go_wp2_with fail
    clear p0 p1 p2 p3 p4
    generalize w4.alloc (.cells #[.int .i64 x1, .int .i64 x2] 32) = w5 at *
    obtain ⟨gb, hgb⟩ : ∃ g, g = w4.heap.size := ⟨_, rfl⟩
    rw [← hgb] at D4
    rw [← hgb]
    clear hgb HLv
    (with_reducible refine (notReached_any _ V w5 G4.out.at_ HV.out).mono ?_)
    rintro e5 w6 ⟨vl, rfl, ho, hb⟩
    have G6 := Lib.hid (G4.out.below hb)
    have X6 := Lib.hid (box_below X4.out hb)
    have A6 := Lib.hid (box_below A4.out hb)
    have D6 := Lib.hid (box_below D4.out hb)
    have Z6 := Lib.hid hb
    have O6 := Lib.hid ho
    have I6 := Lib.hid (ids_of_owns ho)
    clear hb ho X4 A4 D4
    go_upto_region 6 with fail
    have HQ := Lib.hid fun w' (hb : Below w6.heap.size w6 w') => (show (w'.cell? ⟨g, 0, none⟩ = some (.slice a.1 a.2.1 a.2.2) ∧ w'.cell? ⟨g, 1, none⟩ = some (.slice b.1 b.2.1 b.2.2) ∧ w'.cell? ⟨g, 2, none⟩ = some (.slice c.1 c.2.1 c.2.2) ∧ w'.cell? ⟨g, 3, none⟩ = some (.slice d.1 d.2.1 d.2.2) ∧ w'.cell? ⟨g, 4, none⟩ = some (.slice e.1 e.2.1 e.2.2)) ∧ (w'.cell? ⟨gi, 0, none⟩ = some (.int .i64 y1) ∧ w'.cell? ⟨gi, 1, none⟩ = some (.int .i64 y2)) ∧ (w'.cell? ⟨ga, 0, none⟩ = some (.int .i64 x1) ∧ w'.cell? ⟨ga, 1, none⟩ = some (.int .i64 x2)) ∧ (w'.cell? ⟨gb, 0, none⟩ = some (.int .i64 x1) ∧ w'.cell? ⟨gb, 1, none⟩ = some (.int .i64 x2)) ∧ Hid (Below w6.heap.size w6 w') from ⟨vbox_cells (G6.out.below hb).x, box_cells (box_below X6.out hb), box_cells (box_below A6.out hb), box_cells (box_below D6.out hb), Lib.hid hb⟩)
    have HNL : Hid ((Agr.nr V.m V.r).length ≤ 1000000) := Lib.hid (Nat.le_trans (Agr.nr_len _ _) (Nat.le_trans HV.out.m (by omega)))
    have HNR := Lib.hid fun W (hb : Below w6.heap.size w6 W) => refNR_any _ V W (G6.out.below hb).at_ HV.out
    have HSm : Hid (sameB (Agr.nr V.m V.r) (Agr.nr V.m V.r) = true) := Lib.hid (decide_eq_true rfl)
    have HIDs := Lib.hid fun u W (hb : Below w6.heap.size w6 W) (hi : Ids W u (Agr.nr V.m V.r)) => ids_any _ _ _ _ W (I6.out.below hb) hi (by have := Agr.nr_len V.m V.r; have := HV.out.m; omega)
    rw [HSm.out] at HIDs
    have HRe := Lib.hid fun W (hb : Below w6.heap.size w6 W) => reached_any _ V y1 y2 W (G6.out.below hb).at_ HV.out
    have HRf := Lib.hid fun W (hb : Below w6.heap.size w6 W) => refReached_any _ V y1 y2 W (G6.out.below hb).at_ HV.out
    have HAl := Lib.hid fun W (hb : Below w6.heap.size w6 W) => all_any _ V W (G6.out.below hb).at_ HV.out
    have HAf := Lib.hid fun W (hb : Below w6.heap.size w6 W) => refAll_any _ V W (G6.out.below hb).at_ HV.out
    have HRg := Lib.hid fun W (hb : Below w6.heap.size w6 W) => reaching_any _ V W (G6.out.below hb).at_ HV.out
    have HRh := Lib.hid fun W (hb : Below w6.heap.size w6 W) => refReaching_any _ V W (G6.out.below hb).at_ HV.out
    generalize Agr.reachedB V.m V.r (y1, y2) = rb at *
    generalize Agr.allB V.m V.r V.s = ab at *
    generalize Agr.reachB V.m V.r V.s = cb at *
    have hr1 := bool_self rb
    have hr2 := bool_self ab
    have hr3 := bool_self cb
    have hr4 := bool_self iz
    have hr5 : (x1 == x1) = true := by simp
    have hr6 : (x2 == x2) = true := by simp
    go_cut [10] (fun s10 wx => s10 = .bool true ∧ Hid (Below w6.heap.size w6 wx))
    case first =>
      refine wp_region_held_drew (S := fun w' => (w'.cell? ⟨g, 0, none⟩ = some (.slice a.1 a.2.1 a.2.2) ∧ w'.cell? ⟨g, 1, none⟩ = some (.slice b.1 b.2.1 b.2.2) ∧ w'.cell? ⟨g, 2, none⟩ = some (.slice c.1 c.2.1 c.2.2) ∧ w'.cell? ⟨g, 3, none⟩ = some (.slice d.1 d.2.1 d.2.2) ∧ w'.cell? ⟨g, 4, none⟩ = some (.slice e.1 e.2.1 e.2.2)) ∧ (w'.cell? ⟨gi, 0, none⟩ = some (.int .i64 y1) ∧ w'.cell? ⟨gi, 1, none⟩ = some (.int .i64 y2)) ∧ (w'.cell? ⟨ga, 0, none⟩ = some (.int .i64 x1) ∧ w'.cell? ⟨ga, 1, none⟩ = some (.int .i64 x2)) ∧ (w'.cell? ⟨gb, 0, none⟩ = some (.int .i64 x1) ∧ w'.cell? ⟨gb, 1, none⟩ = some (.int .i64 x2)) ∧ Hid (Below w6.heap.size w6 w')) (by kernel_rfl) ?_ (fun hHeld => ?_)
      · exact HQ.out _ (Below.refl _ _).drew
      (refine wpAnyH_take (i := 0) (oi := ⟨_, _, _, _, _, _⟩) (v := ?_) rfl (by kernel_rfl) (by kernel_rfl) (by kernel_rfl) (fun _ _ _ h => h) (Or.inl ⟨by rfl, ?_⟩) (by assumption) ?_; rotate_left 1; · (intro w hSw; (try dsimp only at hSw); go_simp; all_goals with_reducible rfl))
      try simp only [Act.put, List.setIfInBounds_toArray, List.set_cons_zero, List.set_cons_succ]
      (refine wpAnyH_take (i := 1) (oi := ⟨_, _, _, _, _, _⟩) (v := ?_) rfl (by kernel_rfl) (by kernel_rfl) (by kernel_rfl) (fun _ _ _ h => h) (Or.inl ⟨by rfl, ?_⟩) (by assumption) ?_; rotate_left 1; · (intro w hSw; (try dsimp only at hSw); go_simp; all_goals with_reducible rfl))
      try simp only [Act.put, List.setIfInBounds_toArray, List.set_cons_zero, List.set_cons_succ]
      refine wpAnyH_ready (rs := [2]) (by kernel_rfl) (by simp) ?_
      refine AllReadyH.cons (o := ⟨_, _, _, _, _, _⟩) rfl (fun Kq hKq => ?_) AllReadyH.nil
      go_simp
      clear hHeld
      (go_at_call 22; (with_reducible refine (HNR.out _ (Below.refl _ _).drew).mono ?_); rintro e wk2 ⟨vr, rfl, hi, hb⟩; have HK2 := Lib.hid (below_after (Below.refl _ _).drew hb (Nat.le_refl _)); have HIr := Lib.hid hi; clear hi; clear hb)
      refine hKq.out _ _ ?_ (fun hHeld => ?_)
      · (try dsimp only); exact HQ.out _ HK2.out
      clear hKq Kq
      try simp only [Act.put, List.setIfInBounds_toArray, List.set_cons_zero, List.set_cons_succ]
      refine wpAnyH_ready (rs := [3]) (by kernel_rfl) (by simp) ?_
      refine AllReadyH.cons (o := ⟨_, _, _, _, _, _⟩) rfl (fun Kq hKq => ?_) AllReadyH.nil
      go_simp
      clear hHeld
      (go_at_call 21; (with_reducible refine (HIDs.out _ _ HK2.out HIr.out).mono ?_); rintro e wk3 ⟨rfl, hb⟩; have HK3 := Lib.hid (below_after HK2.out hb (Nat.le_refl _)); clear hb)
      refine hKq.out _ _ ?_ (fun hHeld => ?_)
      · (try dsimp only); exact HQ.out _ HK3.out
      clear hKq Kq
      try simp only [Act.put, List.setIfInBounds_toArray, List.set_cons_zero, List.set_cons_succ]
      (refine wpAnyH_take (i := 4) (oi := ⟨_, _, _, _, _, _⟩) (v := ?_) rfl (by kernel_rfl) (by kernel_rfl) (by kernel_rfl) (fun _ _ _ h => h) (Or.inl ⟨by rfl, ?_⟩) (by assumption) ?_; rotate_left 1; · (intro w hSw; (try dsimp only at hSw); go_simp; all_goals with_reducible rfl))
      try simp only [Act.put, List.setIfInBounds_toArray, List.set_cons_zero, List.set_cons_succ]
      first | (refine wpAnyH_take (i := 5) (oi := ⟨_, _, _, _, _, _⟩) (v := ?_) rfl (by kernel_rfl) (by kernel_rfl) (by kernel_rfl) (fun _ _ _ h => h) (Or.inl ⟨by rfl, ?_⟩) (by assumption) ?_; rotate_left 1; · (intro w hSw; (try dsimp only at hSw); go_simp; all_goals with_reducible rfl)) | refine wpAnyH_take (i := 5) (oi := ⟨_, _, _, _, _, _⟩) (v := undef) rfl (by kernel_rfl) (by kernel_rfl) (by kernel_rfl) (fun _ _ _ h => h) (Or.inr ⟨by kernel_rfl, rfl⟩) (by assumption) ?_
      try simp only [Act.put, List.setIfInBounds_toArray, List.set_cons_zero, List.set_cons_succ]
      first | (refine wpAnyH_take (i := 6) (oi := ⟨_, _, _, _, _, _⟩) (v := ?_) rfl (by kernel_rfl) (by kernel_rfl) (by kernel_rfl) (fun _ _ _ h => h) (Or.inl ⟨by rfl, ?_⟩) (by assumption) ?_; rotate_left 1; · (intro w hSw; (try dsimp only at hSw); go_simp; all_goals with_reducible rfl)) | refine wpAnyH_take (i := 6) (oi := ⟨_, _, _, _, _, _⟩) (v := undef) rfl (by kernel_rfl) (by kernel_rfl) (by kernel_rfl) (fun _ _ _ h => h) (Or.inr ⟨by kernel_rfl, rfl⟩) (by assumption) ?_
      try simp only [Act.put, List.setIfInBounds_toArray, List.set_cons_zero, List.set_cons_succ]
      first | (refine wpAnyH_take (i := 8) (oi := ⟨_, _, _, _, _, _⟩) (v := ?_) rfl (by kernel_rfl) (by kernel_rfl) (by kernel_rfl) (fun _ _ _ h => h) (Or.inl ⟨by rfl, ?_⟩) (by assumption) ?_; rotate_left 1; · (intro w hSw; (try dsimp only at hSw); go_simp; all_goals with_reducible rfl)) | refine wpAnyH_take (i := 8) (oi := ⟨_, _, _, _, _, _⟩) (v := undef) rfl (by kernel_rfl) (by kernel_rfl) (by kernel_rfl) (fun _ _ _ h => h) (Or.inr ⟨by kernel_rfl, rfl⟩) (by assumption) ?_
      try simp only [Act.put, List.setIfInBounds_toArray, List.set_cons_zero, List.set_cons_succ]
      first | (refine wpAnyH_take (i := 9) (oi := ⟨_, _, _, _, _, _⟩) (v := ?_) rfl (by kernel_rfl) (by kernel_rfl) (by kernel_rfl) (fun _ _ _ h => h) (Or.inl ⟨by rfl, ?_⟩) (by assumption) ?_; rotate_left 1; · (intro w hSw; (try dsimp only at hSw); go_simp; all_goals with_reducible rfl)) | refine wpAnyH_take (i := 9) (oi := ⟨_, _, _, _, _, _⟩) (v := undef) rfl (by kernel_rfl) (by kernel_rfl) (by kernel_rfl) (fun _ _ _ h => h) (Or.inr ⟨by kernel_rfl, rfl⟩) (by assumption) ?_
      try simp only [Act.put, List.setIfInBounds_toArray, List.set_cons_zero, List.set_cons_succ]
      refine wpAnyH_ready (rs := [7]) (by kernel_rfl) (by simp) ?_
      refine AllReadyH.cons (o := ⟨_, _, _, _, _, _⟩) rfl (fun Kq hKq => ?_) AllReadyH.nil
      go_simp
      clear hHeld
      (go_at_call 12; (with_reducible refine (HRe.out _ HK3.out).mono ?_); rintro e wk7 ⟨rfl, hb⟩; have HK7 := Lib.hid (below_after HK3.out hb (Nat.le_refl _)); clear hb)
      refine hKq.out _ _ ?_ (fun hHeld => ?_)
      · (try dsimp only); exact HQ.out _ HK7.out
      clear hKq Kq
      try simp only [Act.put, List.setIfInBounds_toArray, List.set_cons_zero, List.set_cons_succ]
      refine wpAnyH_ready (rs := [10]) (by kernel_rfl) (by simp) ?_
      refine AllReadyH.cons (o := ⟨_, _, _, _, _, _⟩) rfl (fun Kq hKq => ?_) AllReadyH.nil
      go_simp
      clear hHeld
      (go_at_call 23; (with_reducible refine (HRf.out _ HK7.out).mono ?_); rintro e wk10 ⟨rfl, hb⟩; have HK10 := Lib.hid (below_after HK7.out hb (Nat.le_refl _)); clear hb)
      refine hKq.out _ _ ?_ (fun hHeld => ?_)
      · (try dsimp only); exact HQ.out _ HK10.out
      clear hKq Kq
      try simp only [Act.put, List.setIfInBounds_toArray, List.set_cons_zero, List.set_cons_succ]
      first | (refine wpAnyH_take (i := 11) (oi := ⟨_, _, _, _, _, _⟩) (v := ?_) rfl (by kernel_rfl) (by kernel_rfl) (by kernel_rfl) (fun _ _ _ h => h) (Or.inl ⟨by rfl, ?_⟩) (by assumption) ?_; rotate_left 1; · (intro w hSw; (try dsimp only at hSw); go_simp; all_goals with_reducible rfl)) | refine wpAnyH_take (i := 11) (oi := ⟨_, _, _, _, _, _⟩) (v := undef) rfl (by kernel_rfl) (by kernel_rfl) (by kernel_rfl) (fun _ _ _ h => h) (Or.inr ⟨by kernel_rfl, rfl⟩) (by assumption) ?_
      try simp only [Act.put, List.setIfInBounds_toArray, List.set_cons_zero, List.set_cons_succ]
      (refine wpAnyH_take (i := 12) (oi := ⟨_, _, _, _, _, _⟩) (v := ?_) rfl (by kernel_rfl) (by kernel_rfl) (by kernel_rfl) (fun _ _ _ h => h) (Or.inl ⟨by rfl, ?_⟩) (by assumption) ?_; rotate_left 1; · (intro w hSw; (try dsimp only at hSw); go_simp; all_goals with_reducible rfl))
      try simp only [Act.put, List.setIfInBounds_toArray, List.set_cons_zero, List.set_cons_succ]
      (refine wpAnyH_take (i := 13) (oi := ⟨_, _, _, _, _, _⟩) (v := ?_) rfl (by kernel_rfl) (by kernel_rfl) (by kernel_rfl) (fun _ _ _ h => h) (Or.inl ⟨by rfl, ?_⟩) (by assumption) ?_; rotate_left 1; · (intro w hSw; (try dsimp only at hSw); go_simp; all_goals with_reducible rfl))
      try simp only [Act.put, List.setIfInBounds_toArray, List.set_cons_zero, List.set_cons_succ]
      first | (refine wpAnyH_take (i := 14) (oi := ⟨_, _, _, _, _, _⟩) (v := ?_) rfl (by kernel_rfl) (by kernel_rfl) (by kernel_rfl) (fun _ _ _ h => h) (Or.inl ⟨by rfl, ?_⟩) (by assumption) ?_; rotate_left 1; · (intro w hSw; (try dsimp only at hSw); go_simp; all_goals with_reducible rfl)) | refine wpAnyH_take (i := 14) (oi := ⟨_, _, _, _, _, _⟩) (v := undef) rfl (by kernel_rfl) (by kernel_rfl) (by kernel_rfl) (fun _ _ _ h => h) (Or.inr ⟨by kernel_rfl, rfl⟩) (by assumption) ?_
      try simp only [Act.put, List.setIfInBounds_toArray, List.set_cons_zero, List.set_cons_succ]
      first | (refine wpAnyH_take (i := 16) (oi := ⟨_, _, _, _, _, _⟩) (v := ?_) rfl (by kernel_rfl) (by kernel_rfl) (by kernel_rfl) (fun _ _ _ h => h) (Or.inl ⟨by rfl, ?_⟩) (by assumption) ?_; rotate_left 1; · (intro w hSw; (try dsimp only at hSw); go_simp; all_goals with_reducible rfl)) | refine wpAnyH_take (i := 16) (oi := ⟨_, _, _, _, _, _⟩) (v := undef) rfl (by kernel_rfl) (by kernel_rfl) (by kernel_rfl) (fun _ _ _ h => h) (Or.inr ⟨by kernel_rfl, rfl⟩) (by assumption) ?_
      try simp only [Act.put, List.setIfInBounds_toArray, List.set_cons_zero, List.set_cons_succ]
      refine wpAnyH_ready (rs := [15]) (by kernel_rfl) (by simp) ?_
      refine AllReadyH.cons (o := ⟨_, _, _, _, _, _⟩) rfl (fun Kq hKq => ?_) AllReadyH.nil
      go_simp
      clear hHeld
      (go_at_call 24; (with_reducible refine (HAl.out _ HK10.out).mono ?_); rintro e wk15 ⟨rfl, hb⟩; have HK15 := Lib.hid (below_after HK10.out hb (Nat.le_refl _)); clear hb)
      refine hKq.out _ _ ?_ (fun hHeld => ?_)
      · (try dsimp only); exact HQ.out _ HK15.out
      clear hKq Kq
      try simp only [Act.put, List.setIfInBounds_toArray, List.set_cons_zero, List.set_cons_succ]
      refine wpAnyH_ready (rs := [17]) (by kernel_rfl) (by simp) ?_
      refine AllReadyH.cons (o := ⟨_, _, _, _, _, _⟩) rfl (fun Kq hKq => ?_) AllReadyH.nil
      go_simp
      clear hHeld
      (go_at_call 25; (with_reducible refine (HAf.out _ HK15.out).mono ?_); rintro e wk17 ⟨rfl, hb⟩; have HK17 := Lib.hid (below_after HK15.out hb (Nat.le_refl _)); clear hb)
      refine hKq.out _ _ ?_ (fun hHeld => ?_)
      · (try dsimp only); exact HQ.out _ HK17.out
      clear hKq Kq
      try simp only [Act.put, List.setIfInBounds_toArray, List.set_cons_zero, List.set_cons_succ]
      first | (refine wpAnyH_take (i := 18) (oi := ⟨_, _, _, _, _, _⟩) (v := ?_) rfl (by kernel_rfl) (by kernel_rfl) (by kernel_rfl) (fun _ _ _ h => h) (Or.inl ⟨by rfl, ?_⟩) (by assumption) ?_; rotate_left 1; · (intro w hSw; (try dsimp only at hSw); go_simp; all_goals with_reducible rfl)) | refine wpAnyH_take (i := 18) (oi := ⟨_, _, _, _, _, _⟩) (v := undef) rfl (by kernel_rfl) (by kernel_rfl) (by kernel_rfl) (fun _ _ _ h => h) (Or.inr ⟨by kernel_rfl, rfl⟩) (by assumption) ?_
      try simp only [Act.put, List.setIfInBounds_toArray, List.set_cons_zero, List.set_cons_succ]
      (refine wpAnyH_take (i := 19) (oi := ⟨_, _, _, _, _, _⟩) (v := ?_) rfl (by kernel_rfl) (by kernel_rfl) (by kernel_rfl) (fun _ _ _ h => h) (Or.inl ⟨by rfl, ?_⟩) (by assumption) ?_; rotate_left 1; · (intro w hSw; (try dsimp only at hSw); go_simp; all_goals with_reducible rfl))
      try simp only [Act.put, List.setIfInBounds_toArray, List.set_cons_zero, List.set_cons_succ]
      (refine wpAnyH_take (i := 20) (oi := ⟨_, _, _, _, _, _⟩) (v := ?_) rfl (by kernel_rfl) (by kernel_rfl) (by kernel_rfl) (fun _ _ _ h => h) (Or.inl ⟨by rfl, ?_⟩) (by assumption) ?_; rotate_left 1; · (intro w hSw; (try dsimp only at hSw); go_simp; all_goals with_reducible rfl))
      try simp only [Act.put, List.setIfInBounds_toArray, List.set_cons_zero, List.set_cons_succ]
      first | (refine wpAnyH_take (i := 21) (oi := ⟨_, _, _, _, _, _⟩) (v := ?_) rfl (by kernel_rfl) (by kernel_rfl) (by kernel_rfl) (fun _ _ _ h => h) (Or.inl ⟨by rfl, ?_⟩) (by assumption) ?_; rotate_left 1; · (intro w hSw; (try dsimp only at hSw); go_simp; all_goals with_reducible rfl)) | refine wpAnyH_take (i := 21) (oi := ⟨_, _, _, _, _, _⟩) (v := undef) rfl (by kernel_rfl) (by kernel_rfl) (by kernel_rfl) (fun _ _ _ h => h) (Or.inr ⟨by kernel_rfl, rfl⟩) (by assumption) ?_
      try simp only [Act.put, List.setIfInBounds_toArray, List.set_cons_zero, List.set_cons_succ]
      first | (refine wpAnyH_take (i := 23) (oi := ⟨_, _, _, _, _, _⟩) (v := ?_) rfl (by kernel_rfl) (by kernel_rfl) (by kernel_rfl) (fun _ _ _ h => h) (Or.inl ⟨by rfl, ?_⟩) (by assumption) ?_; rotate_left 1; · (intro w hSw; (try dsimp only at hSw); go_simp; all_goals with_reducible rfl)) | refine wpAnyH_take (i := 23) (oi := ⟨_, _, _, _, _, _⟩) (v := undef) rfl (by kernel_rfl) (by kernel_rfl) (by kernel_rfl) (fun _ _ _ h => h) (Or.inr ⟨by kernel_rfl, rfl⟩) (by assumption) ?_
      try simp only [Act.put, List.setIfInBounds_toArray, List.set_cons_zero, List.set_cons_succ]
      refine wpAnyH_ready (rs := [22]) (by kernel_rfl) (by simp) ?_
      refine AllReadyH.cons (o := ⟨_, _, _, _, _, _⟩) rfl (fun Kq hKq => ?_) AllReadyH.nil
      go_simp
      clear hHeld
      (go_at_call 26; (with_reducible refine (HRg.out _ HK17.out).mono ?_); rintro e wk22 ⟨rfl, hb⟩; have HK22 := Lib.hid (below_after HK17.out hb (Nat.le_refl _)); clear hb)
      refine hKq.out _ _ ?_ (fun hHeld => ?_)
      · (try dsimp only); exact HQ.out _ HK22.out
      clear hKq Kq
      try simp only [Act.put, List.setIfInBounds_toArray, List.set_cons_zero, List.set_cons_succ]
      refine wpAnyH_ready (rs := [24]) (by kernel_rfl) (by simp) ?_
      refine AllReadyH.cons (o := ⟨_, _, _, _, _, _⟩) rfl (fun Kq hKq => ?_) AllReadyH.nil
      go_simp
      clear hHeld
      (go_at_call 27; (with_reducible refine (HRh.out _ HK22.out).mono ?_); rintro e wk24 ⟨rfl, hb⟩; have HK24 := Lib.hid (below_after HK22.out hb (Nat.le_refl _)); clear hb)
      refine hKq.out _ _ ?_ (fun hHeld => ?_)
      · (try dsimp only); exact HQ.out _ HK24.out
      clear hKq Kq
      try simp only [Act.put, List.setIfInBounds_toArray, List.set_cons_zero, List.set_cons_succ]
      first | (refine wpAnyH_take (i := 25) (oi := ⟨_, _, _, _, _, _⟩) (v := ?_) rfl (by kernel_rfl) (by kernel_rfl) (by kernel_rfl) (fun _ _ _ h => h) (Or.inl ⟨by rfl, ?_⟩) (by assumption) ?_; rotate_left 1; · (intro w hSw; (try dsimp only at hSw); go_simp; all_goals with_reducible rfl)) | refine wpAnyH_take (i := 25) (oi := ⟨_, _, _, _, _, _⟩) (v := undef) rfl (by kernel_rfl) (by kernel_rfl) (by kernel_rfl) (fun _ _ _ h => h) (Or.inr ⟨by kernel_rfl, rfl⟩) (by assumption) ?_
      try simp only [Act.put, List.setIfInBounds_toArray, List.set_cons_zero, List.set_cons_succ]
      (refine wpAnyH_take (i := 26) (oi := ⟨_, _, _, _, _, _⟩) (v := ?_) rfl (by kernel_rfl) (by kernel_rfl) (by kernel_rfl) (fun _ _ _ h => h) (Or.inl ⟨by rfl, ?_⟩) (by assumption) ?_; rotate_left 1; · (intro w hSw; (try dsimp only at hSw); go_simp; all_goals with_reducible rfl))
      try simp only [Act.put, List.setIfInBounds_toArray, List.set_cons_zero, List.set_cons_succ]
      (refine wpAnyH_take (i := 27) (oi := ⟨_, _, _, _, _, _⟩) (v := ?_) rfl (by kernel_rfl) (by kernel_rfl) (by kernel_rfl) (fun _ _ _ h => h) (Or.inl ⟨by rfl, ?_⟩) (by assumption) ?_; rotate_left 1; · (intro w hSw; (try dsimp only at hSw); go_simp; all_goals with_reducible rfl))
      try simp only [Act.put, List.setIfInBounds_toArray, List.set_cons_zero, List.set_cons_succ]
      first | (refine wpAnyH_take (i := 28) (oi := ⟨_, _, _, _, _, _⟩) (v := ?_) rfl (by kernel_rfl) (by kernel_rfl) (by kernel_rfl) (fun _ _ _ h => h) (Or.inl ⟨by rfl, ?_⟩) (by assumption) ?_; rotate_left 1; · (intro w hSw; (try dsimp only at hSw); go_simp; all_goals with_reducible rfl)) | refine wpAnyH_take (i := 28) (oi := ⟨_, _, _, _, _, _⟩) (v := undef) rfl (by kernel_rfl) (by kernel_rfl) (by kernel_rfl) (fun _ _ _ h => h) (Or.inr ⟨by kernel_rfl, rfl⟩) (by assumption) ?_
      try simp only [Act.put, List.setIfInBounds_toArray, List.set_cons_zero, List.set_cons_succ]
      first | (refine wpAnyH_take (i := 29) (oi := ⟨_, _, _, _, _, _⟩) (v := ?_) rfl (by kernel_rfl) (by kernel_rfl) (by kernel_rfl) (fun _ _ _ h => h) (Or.inl ⟨by rfl, ?_⟩) (by assumption) ?_; rotate_left 1; · (intro w hSw; (try dsimp only at hSw); go_simp; all_goals with_reducible rfl)) | refine wpAnyH_take (i := 29) (oi := ⟨_, _, _, _, _, _⟩) (v := undef) rfl (by kernel_rfl) (by kernel_rfl) (by kernel_rfl) (fun _ _ _ h => h) (Or.inr ⟨by kernel_rfl, rfl⟩) (by assumption) ?_
      try simp only [Act.put, List.setIfInBounds_toArray, List.set_cons_zero, List.set_cons_succ]
      first | (refine wpAnyH_take (i := 30) (oi := ⟨_, _, _, _, _, _⟩) (v := ?_) rfl (by kernel_rfl) (by kernel_rfl) (by kernel_rfl) (fun _ _ _ h => h) (Or.inl ⟨by rfl, ?_⟩) (by assumption) ?_; rotate_left 1; · (intro w hSw; (try dsimp only at hSw); go_simp; all_goals with_reducible rfl)) | refine wpAnyH_take (i := 30) (oi := ⟨_, _, _, _, _, _⟩) (v := undef) rfl (by kernel_rfl) (by kernel_rfl) (by kernel_rfl) (fun _ _ _ h => h) (Or.inr ⟨by kernel_rfl, rfl⟩) (by assumption) ?_
      try simp only [Act.put, List.setIfInBounds_toArray, List.set_cons_zero, List.set_cons_succ]
      (refine wpAnyH_take (i := 31) (oi := ⟨_, _, _, _, _, _⟩) (v := ?_) rfl (by kernel_rfl) (by kernel_rfl) (by kernel_rfl) (fun _ _ _ h => h) (Or.inl ⟨by rfl, ?_⟩) (by assumption) ?_; rotate_left 1; · (intro w hSw; (try dsimp only at hSw); go_simp; all_goals with_reducible rfl))
      try simp only [Act.put, List.setIfInBounds_toArray, List.set_cons_zero, List.set_cons_succ]
      (refine wpAnyH_take (i := 32) (oi := ⟨_, _, _, _, _, _⟩) (v := ?_) rfl (by kernel_rfl) (by kernel_rfl) (by kernel_rfl) (fun _ _ _ h => h) (Or.inl ⟨by rfl, ?_⟩) (by assumption) ?_; rotate_left 1; · (intro w hSw; (try dsimp only at hSw); go_simp; all_goals with_reducible rfl))
      try simp only [Act.put, List.setIfInBounds_toArray, List.set_cons_zero, List.set_cons_succ]
      first | (refine wpAnyH_take (i := 33) (oi := ⟨_, _, _, _, _, _⟩) (v := ?_) rfl (by kernel_rfl) (by kernel_rfl) (by kernel_rfl) (fun _ _ _ h => h) (Or.inl ⟨by rfl, ?_⟩) (by assumption) ?_; rotate_left 1; · (intro w hSw; (try dsimp only at hSw); go_simp; all_goals with_reducible rfl)) | refine wpAnyH_take (i := 33) (oi := ⟨_, _, _, _, _, _⟩) (v := undef) rfl (by kernel_rfl) (by kernel_rfl) (by kernel_rfl) (fun _ _ _ h => h) (Or.inr ⟨by kernel_rfl, rfl⟩) (by assumption) ?_
      try simp only [Act.put, List.setIfInBounds_toArray, List.set_cons_zero, List.set_cons_succ]
      first | (refine wpAnyH_take (i := 34) (oi := ⟨_, _, _, _, _, _⟩) (v := ?_) rfl (by kernel_rfl) (by kernel_rfl) (by kernel_rfl) (fun _ _ _ h => h) (Or.inl ⟨by rfl, ?_⟩) (by assumption) ?_; rotate_left 1; · (intro w hSw; (try dsimp only at hSw); go_simp; all_goals with_reducible rfl)) | refine wpAnyH_take (i := 34) (oi := ⟨_, _, _, _, _, _⟩) (v := undef) rfl (by kernel_rfl) (by kernel_rfl) (by kernel_rfl) (fun _ _ _ h => h) (Or.inr ⟨by kernel_rfl, rfl⟩) (by assumption) ?_
      try simp only [Act.put, List.setIfInBounds_toArray, List.set_cons_zero, List.set_cons_succ]
      first | (refine wpAnyH_take (i := 35) (oi := ⟨_, _, _, _, _, _⟩) (v := ?_) rfl (by kernel_rfl) (by kernel_rfl) (by kernel_rfl) (fun _ _ _ h => h) (Or.inl ⟨by rfl, ?_⟩) (by assumption) ?_; rotate_left 1; · (intro w hSw; (try dsimp only at hSw); go_simp; all_goals with_reducible rfl)) | refine wpAnyH_take (i := 35) (oi := ⟨_, _, _, _, _, _⟩) (v := undef) rfl (by kernel_rfl) (by kernel_rfl) (by kernel_rfl) (fun _ _ _ h => h) (Or.inr ⟨by kernel_rfl, rfl⟩) (by assumption) ?_
      try simp only [Act.put, List.setIfInBounds_toArray, List.set_cons_zero, List.set_cons_succ]
      (refine wpAnyH_take (i := 36) (oi := ⟨_, _, _, _, _, _⟩) (v := ?_) rfl (by kernel_rfl) (by kernel_rfl) (by kernel_rfl) (fun _ _ _ h => h) (Or.inl ⟨by rfl, ?_⟩) (by assumption) ?_; rotate_left 1; · (intro w hSw; (try dsimp only at hSw); go_simp; all_goals with_reducible rfl))
      try simp only [Act.put, List.setIfInBounds_toArray, List.set_cons_zero, List.set_cons_succ]
      (refine wpAnyH_take (i := 37) (oi := ⟨_, _, _, _, _, _⟩) (v := ?_) rfl (by kernel_rfl) (by kernel_rfl) (by kernel_rfl) (fun _ _ _ h => h) (Or.inl ⟨by rfl, ?_⟩) (by assumption) ?_; rotate_left 1; · (intro w hSw; (try dsimp only at hSw); go_simp; all_goals with_reducible rfl))
      try simp only [Act.put, List.setIfInBounds_toArray, List.set_cons_zero, List.set_cons_succ]
      refine wpAnyH_done (by kernel_rfl) ?_ _
      go_wp2_with fail
      go_meet
      exact ⟨rfl, HK24⟩
    case rest =>
      obtain ⟨rfl, HC⟩ := hcut
      rename World => w7
      clear HQ HNR HIDs HRe HRf HAl HAf HRg HRh hr1 hr2 hr3 hr4 hr5 hr6 X6 A6 D6 I6
      have O7 := Lib.hid (O6.out.below HC.out)
      have Z7 := Lib.hid (below_after Z6.out HC.out (Nat.le_refl _))
      have HFin : Hid (∀ w8 : World, Below w5.heap.size w5 w8 → Hid (Below w5.heap.size w5 w8)) := Lib.hid fun _ h => Lib.hid h
      clear O6 Z6 HC G6 HFin
      obtain ⟨la, ln, lc, hvl, hlk⟩ : ∃ la ln lc, vl = .slice la ln lc ∧ Hid (∀ k, k < ln → ∃ gl, la = some ⟨gl, 0, none⟩ ∧ w5.heap.size ≤ gl ∧ BlkI w7 gl (ln * 2)) := by
        rcases owns_form O7.out with ⟨h1, h2⟩ | ⟨gl, n, c, h1, h2⟩
        · exact ⟨none, 0, 0, h1, Lib.hid fun k hk => absurd hk (by omega)⟩
        · have := O7.out
          rw [h1] at this
          exact ⟨_, n, c, h1, Lib.hid fun k _ => ⟨gl, rfl, (blkI_owns this).2, (blkI_owns this).1⟩⟩
      have hln : ln ≤ 1000 := by
        have := O7.out
        rw [hvl] at this
        rw [ids_len (ids_of_owns this)]
        exact Nat.le_trans (Agr.nr_len _ _) HV.out.m
      subst hvl
      clear O7
      go_wp2_with fail
      go_loopw [11] (fun s11 wr => ∃ k : Nat, s11 = .int .i64 k ∧ k ≤ ln ∧ Hid (∀ gl, la = some ⟨gl, 0, none⟩ → BlkI w7 gl (ln * 2) → BlkI wr gl (ln * 2)) ∧ Hid (Below w5.heap.size w5 wr)) (fun s11 _ => ln - (intOf s11).toNat)
      case atStart => exact ⟨0, rfl, by omega, Lib.hid (fun _ _ h => h), Z7⟩
      case round =>
        obtain ⟨k, rfl, hk, HBk, HB⟩ := hrel
        rename World => wr
        by_cases hlt : k < ln
        · have hd : decide (k < ln) = true := decide_eq_true hlt
          have i3 : (0 : Int) ≤ (k : Int) := by omega
          have i4 : (k : Int) < (ln : Int) := by omega
          obtain ⟨gl, hla, hge, hbk⟩ := hlk.out k hlt
          have BK := Lib.hid (HBk.out gl hla hbk)
          obtain ⟨u0, c0⟩ := BK.out.cell (i := k * 2) (by omega)
          obtain ⟨u1, c1⟩ := BK.out.cell (i := k * 2 + 1) (by omega)
          have f0 := BK.out.free (i := k * 2)
          have f1 := BK.out.free (i := k * 2 + 1)
          subst hla
          go_wp2_with fail
          go_roundw
          case rel => exact ⟨k + 1, by go_num, by omega, Lib.hid (fun gl' e _ => by obtain rfl : gl = gl' := (by injection e with e; injection e); exact BK.out.put.put), Lib.hid (below_put (below_put HB.out hge _ _) hge _ _)⟩
          case measure => simp [intOf]; omega
        · have hd : decide (k < ln) = false := decide_eq_false hlt
          go_upto_region 11 with fail
          clear hlk HBk
          obtain ⟨w8, hw8⟩ : ∃ W, W = wr := ⟨_, rfl⟩
          rw [← hw8] at HB
          rw [← hw8]
          clear hw8
          have G8 := Lib.hid (G4.out.below HB.out)
          have B8 := Lib.hid (below_after B4.out HB.out (Nat.le_refl _))
          have HP := Lib.hid fun w' (hb : Below w8.heap.size w8 w') => (show (w'.cell? ⟨g, 0, none⟩ = some (.slice a.1 a.2.1 a.2.2) ∧ w'.cell? ⟨g, 1, none⟩ = some (.slice b.1 b.2.1 b.2.2) ∧ w'.cell? ⟨g, 2, none⟩ = some (.slice c.1 c.2.1 c.2.2) ∧ w'.cell? ⟨g, 3, none⟩ = some (.slice d.1 d.2.1 d.2.2) ∧ w'.cell? ⟨g, 4, none⟩ = some (.slice e.1 e.2.1 e.2.2)) ∧ Hid (Below w8.heap.size w8 w') from ⟨vbox_cells (G8.out.below hb).x, Lib.hid hb⟩)
          have HNa := Lib.hid fun W (hb : Below w8.heap.size w8 W) => notReached_any _ V W (G8.out.below hb).at_ HV.out
          have HNb := Lib.hid fun W (hb : Below w8.heap.size w8 W) => refNR_any _ V W (G8.out.below hb).at_ HV.out
          have HNc := Lib.hid fun u u' W (hi : Ids W u (Agr.nr V.m V.r)) (hj : Ids W u' (Agr.nr V.m V.r)) => ids_any u u' _ _ W hi hj (by have := Agr.nr_len V.m V.r; have := HV.out.m; omega)
          rw [HSm.out] at HNc
          refine wp_region_held_drew (S := fun w' => (w'.cell? ⟨g, 0, none⟩ = some (.slice a.1 a.2.1 a.2.2) ∧ w'.cell? ⟨g, 1, none⟩ = some (.slice b.1 b.2.1 b.2.2) ∧ w'.cell? ⟨g, 2, none⟩ = some (.slice c.1 c.2.1 c.2.2) ∧ w'.cell? ⟨g, 3, none⟩ = some (.slice d.1 d.2.1 d.2.2) ∧ w'.cell? ⟨g, 4, none⟩ = some (.slice e.1 e.2.1 e.2.2)) ∧ Hid (Below w8.heap.size w8 w')) (by kernel_rfl) ?_ (fun hHeld => ?_)
          · exact HP.out _ (Below.refl _ _).drew
          (refine wpAnyH_take (i := 0) (oi := ⟨_, _, _, _, _, _⟩) (v := ?_) rfl (by kernel_rfl) (by kernel_rfl) (by kernel_rfl) (fun _ _ _ h => h) (Or.inl ⟨by rfl, ?_⟩) (by assumption) ?_; rotate_left 1; · (intro w hSw; (try dsimp only at hSw); go_simp; all_goals with_reducible rfl))
          try simp only [Act.put, List.setIfInBounds_toArray, List.set_cons_zero, List.set_cons_succ]
          (refine wpAnyH_take (i := 1) (oi := ⟨_, _, _, _, _, _⟩) (v := ?_) rfl (by kernel_rfl) (by kernel_rfl) (by kernel_rfl) (fun _ _ _ h => h) (Or.inl ⟨by rfl, ?_⟩) (by assumption) ?_; rotate_left 1; · (intro w hSw; (try dsimp only at hSw); go_simp; all_goals with_reducible rfl))
          try simp only [Act.put, List.setIfInBounds_toArray, List.set_cons_zero, List.set_cons_succ]
          first | (refine wpAnyH_take (i := 2) (oi := ⟨_, _, _, _, _, _⟩) (v := ?_) rfl (by kernel_rfl) (by kernel_rfl) (by kernel_rfl) (fun _ _ _ h => h) (Or.inl ⟨by rfl, ?_⟩) (by assumption) ?_; rotate_left 1; · (intro w hSw; (try dsimp only at hSw); go_simp; all_goals with_reducible rfl)) | refine wpAnyH_take (i := 2) (oi := ⟨_, _, _, _, _, _⟩) (v := undef) rfl (by kernel_rfl) (by kernel_rfl) (by kernel_rfl) (fun _ _ _ h => h) (Or.inr ⟨by kernel_rfl, rfl⟩) (by assumption) ?_
          try simp only [Act.put, List.setIfInBounds_toArray, List.set_cons_zero, List.set_cons_succ]
          first | (refine wpAnyH_take (i := 4) (oi := ⟨_, _, _, _, _, _⟩) (v := ?_) rfl (by kernel_rfl) (by kernel_rfl) (by kernel_rfl) (fun _ _ _ h => h) (Or.inl ⟨by rfl, ?_⟩) (by assumption) ?_; rotate_left 1; · (intro w hSw; (try dsimp only at hSw); go_simp; all_goals with_reducible rfl)) | refine wpAnyH_take (i := 4) (oi := ⟨_, _, _, _, _, _⟩) (v := undef) rfl (by kernel_rfl) (by kernel_rfl) (by kernel_rfl) (fun _ _ _ h => h) (Or.inr ⟨by kernel_rfl, rfl⟩) (by assumption) ?_
          try simp only [Act.put, List.setIfInBounds_toArray, List.set_cons_zero, List.set_cons_succ]
          refine wpAnyH_ready (rs := [3]) (by kernel_rfl) (by simp) ?_
          refine AllReadyH.cons (o := ⟨_, _, _, _, _, _⟩) rfl (fun Kq hKq => ?_) AllReadyH.nil
          go_simp
          clear hHeld
          (go_at_call 20; (with_reducible refine (HNa.out _ (Below.refl _ _).drew).mono ?_); rintro e wj3 ⟨v3, rfl, ho, hb⟩; have HJ3 := Lib.hid (below_after (Below.refl _ _).drew hb (Nat.le_refl _)); have HI3 := Lib.hid (ids_of_owns ho); clear ho; clear hb)
          refine hKq.out _ _ ?_ (fun hHeld => ?_)
          · (try dsimp only); exact HP.out _ HJ3.out
          clear hKq Kq
          try simp only [Act.put, List.setIfInBounds_toArray, List.set_cons_zero, List.set_cons_succ]
          refine wpAnyH_ready (rs := [5]) (by kernel_rfl) (by simp) ?_
          refine AllReadyH.cons (o := ⟨_, _, _, _, _, _⟩) rfl (fun Kq hKq => ?_) AllReadyH.nil
          go_simp
          clear hHeld
          (go_at_call 22; (with_reducible refine (HNb.out _ HJ3.out).mono ?_); rintro e wj5 ⟨v5, rfl, hi, hb⟩; have HJ5 := Lib.hid (below_after HJ3.out hb (Nat.le_refl _)); have HI5 := Lib.hid hi; have HI3b := Lib.hid (HI3.out.below hb); clear hi; clear hb)
          refine hKq.out _ _ ?_ (fun hHeld => ?_)
          · (try dsimp only); exact HP.out _ HJ5.out
          clear hKq Kq
          try simp only [Act.put, List.setIfInBounds_toArray, List.set_cons_zero, List.set_cons_succ]
          refine wpAnyH_ready (rs := [6]) (by kernel_rfl) (by simp) ?_
          refine AllReadyH.cons (o := ⟨_, _, _, _, _, _⟩) rfl (fun Kq hKq => ?_) AllReadyH.nil
          go_simp
          clear hHeld
          (go_at_call 21; (with_reducible refine (HNc.out _ _ _ HI3b.out HI5.out).mono ?_); rintro e wj6 ⟨rfl, hb⟩; have HJ6 := Lib.hid (below_after HJ5.out hb (Nat.le_refl _)); clear hb)
          refine hKq.out _ _ ?_ (fun hHeld => ?_)
          · (try dsimp only); exact HP.out _ HJ6.out
          clear hKq Kq
          try simp only [Act.put, List.setIfInBounds_toArray, List.set_cons_zero, List.set_cons_succ]
          (refine wpAnyH_take (i := 7) (oi := ⟨_, _, _, _, _, _⟩) (v := ?_) rfl (by kernel_rfl) (by kernel_rfl) (by kernel_rfl) (fun _ _ _ h => h) (Or.inl ⟨by rfl, ?_⟩) (by assumption) ?_; rotate_left 1; · (intro w hSw; (try dsimp only at hSw); go_simp; all_goals with_reducible rfl))
          try simp only [Act.put, List.setIfInBounds_toArray, List.set_cons_zero, List.set_cons_succ]
          (refine wpAnyH_take (i := 8) (oi := ⟨_, _, _, _, _, _⟩) (v := ?_) rfl (by kernel_rfl) (by kernel_rfl) (by kernel_rfl) (fun _ _ _ h => h) (Or.inl ⟨by rfl, ?_⟩) (by assumption) ?_; rotate_left 1; · (intro w hSw; (try dsimp only at hSw); go_simp; all_goals with_reducible rfl))
          try simp only [Act.put, List.setIfInBounds_toArray, List.set_cons_zero, List.set_cons_succ]
          refine wpAnyH_done (by kernel_rfl) ?_ _
          go_wp2_with fail
          go_ret
          exact ⟨rfl, below_after B8.out HJ6.out (Nat.le_refl _)⟩
end Go.Proofs.YtloghkiabgnpnaaDoor
