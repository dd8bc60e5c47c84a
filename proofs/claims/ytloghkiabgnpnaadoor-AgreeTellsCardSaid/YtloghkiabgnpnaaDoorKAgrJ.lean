/-
  Walked: where all agree all that are reached agree; where all that are reached agree, and all are reached, all agree. No statement is proved in this text.
-/
import Derived.Test.YtloghkiabgnpnaaDoorH18
namespace Go.Proofs.YtloghkiabgnpnaaDoor
open Go Go.RowKit
set_option maxHeartbeats 8000000 in
theorem agreeAll_any (v : Value) (V : Vw) (w : World) (h : VAt w v V) (hW : WideV V) (ht : Tabs w) : Calls Tryd.prog 6 #[v] w fun e w' => e = .returned (.bool true) ∧ Below w.heap.size w w' := by
  obtain ⟨a, b, c, d, e, rfl, hr⟩ := h
  have G1 := Lib.hid (agV_new hr)
  have BB := Lib.hid (below_one w (.cells #[.slice a.1 a.2.1 a.2.2, .slice b.1 b.2.1 b.2.2, .slice c.1 c.2.1 c.2.2, .slice d.1 d.2.1 d.2.2, .slice e.1 e.2.1 e.2.2] 29))
  have T1 := Lib.hid (ht.below BB.out)
  have HW := Lib.hid hW
  clear hr hW ht
  go_enter Tryd.func6, Tryd.ntmps6
  go_wp2_with fail
  generalize w.alloc (.cells #[.slice a.1 a.2.1 a.2.2, .slice b.1 b.2.1 b.2.2, .slice c.1 c.2.1 c.2.2, .slice d.1 d.2.1 d.2.2, .slice e.1 e.2.1 e.2.2] 29) = w1 at *
  obtain ⟨g, hg⟩ : ∃ g, g = w.heap.size := ⟨_, rfl⟩
  rw [← hg] at G1
  rw [← hg]
  clear hg
  (with_reducible refine (works_any w1 T1.out).mono ?_)
  rintro e1 w2 ⟨rfl, hb⟩
  have G2 := Lib.hid (G1.out.below hb)
  have T2 := Lib.hid (T1.out.below hb)
  have B2 := Lib.hid (below_after BB.out hb (Nat.le_refl _))
  clear hb G1 T1 BB
  obtain ⟨p0, p1, p2, p3, p4⟩ := vbox_cells G2.out.x
  go_wp2_with fail
  clear p0 p1 p2 p3 p4
  (with_reducible refine (large_any _ V w2 G2.out.at_ HW.out).mono ?_)
  rintro e2 w3 ⟨z, rfl, hz, hb⟩
  have G3 := Lib.hid (G2.out.below hb)
  have T3 := Lib.hid (T2.out.below hb)
  have B3 := Lib.hid (below_after B2.out hb (Nat.le_refl _))
  clear hb G2 T2 B2
  rcases z with _ | _
  case true =>
    clear hz
    go_wp2_with fail
    (with_reducible refine (works_any w3 T3.out).mono ?_)
    rintro e4 w4 ⟨rfl, hb⟩
    have B4 := Lib.hid (below_after B3.out hb (Nat.le_refl _))
    clear hb
    go_wp2_with fail
    go_ret
    exact ⟨rfl, B4.out⟩
  case false =>
    have HV := Lib.hid (FitL.fit (hz rfl))
    clear hz
    have HAll := Lib.hid fun W (hb : Below w3.heap.size w3 W) => all_any _ V W (G3.out.below hb).at_ HV.out
    have HRe := Lib.hid fun W (hb : Below w3.heap.size w3 W) => reaching_any _ V W (G3.out.below hb).at_ HV.out
    have HNR0 := Lib.hid fun W (hb : Below w3.heap.size w3 W) => notReached_any _ V W (G3.out.below hb).at_ HV.out
    have HI1 := Lib.hid (Agr.all_reach (m := V.m) (rs := V.r) (s := V.s))
    have HI2 := Lib.hid (Agr.reach_all (m := V.m) (rs := V.r) (s := V.s))
    generalize Agr.allB V.m V.r V.s = A at *
    generalize Agr.reachB V.m V.r V.s = R at *
    obtain ⟨p0, p1, p2, p3, p4⟩ := vbox_cells G3.out.x
    go_wp2_with fail
    clear p0 p1 p2 p3 p4
    (with_reducible refine (HAll.out w3 (Below.refl _ _)).mono ?_)
    rintro e4 w4 ⟨rfl, hb⟩
    have G4 := Lib.hid (G3.out.below hb)
    have B4 := Lib.hid (below_after B3.out hb (Nat.le_refl _))
    have Z4 := Lib.hid hb
    clear hb
    have HTail : Hid (∀ W, Below w3.heap.size w3 W → (W.heap.size = W.heap.size)) := Lib.hid fun _ _ => rfl
    rcases A with _ | _
    · obtain ⟨p0, p1, p2, p3, p4⟩ := vbox_cells G4.out.x
      go_upto_region 5 with fail
      clear p0 p1 p2 p3 p4
      rename_i u0
      obtain ⟨w5, hw5⟩ : ∃ W, W = w4 := ⟨_, rfl⟩
      rw [← hw5] at G4 B4 Z4
      rw [← hw5]
      clear hw5
      have HQ := Lib.hid fun w' (hb : Below w5.heap.size w5 w') => (show (w'.cell? ⟨g, 0, none⟩ = some (.slice a.1 a.2.1 a.2.2) ∧ w'.cell? ⟨g, 1, none⟩ = some (.slice b.1 b.2.1 b.2.2) ∧ w'.cell? ⟨g, 2, none⟩ = some (.slice c.1 c.2.1 c.2.2) ∧ w'.cell? ⟨g, 3, none⟩ = some (.slice d.1 d.2.1 d.2.2) ∧ w'.cell? ⟨g, 4, none⟩ = some (.slice e.1 e.2.1 e.2.2)) ∧ Hid (Below w5.heap.size w5 w') from ⟨vbox_cells (vbox_below G4.out.x hb), Lib.hid hb⟩)
      have HNR := Lib.hid fun W (hb : Below w5.heap.size w5 W) => HNR0.out W (below_after Z4.out hb (Nat.le_refl _))
      have HAl := Lib.hid fun W (hb : Below w5.heap.size w5 W) => HAll.out W (below_after Z4.out hb (Nat.le_refl _))
      have HRe2 := Lib.hid fun W (hb : Below w5.heap.size w5 W) => HRe.out W (below_after Z4.out hb (Nat.le_refl _))
      by_cases hn : 0 < (Agr.nr V.m V.r).length
      · have HPos : Hid (∀ nn : Nat, nn = (Agr.nr V.m V.r).length → decide (0 < nn) = true) := Lib.hid fun nn h => decide_eq_true (by omega)
        clear hn
        refine wp_region_held_drew (S := fun w' => (w'.cell? ⟨g, 0, none⟩ = some (.slice a.1 a.2.1 a.2.2) ∧ w'.cell? ⟨g, 1, none⟩ = some (.slice b.1 b.2.1 b.2.2) ∧ w'.cell? ⟨g, 2, none⟩ = some (.slice c.1 c.2.1 c.2.2) ∧ w'.cell? ⟨g, 3, none⟩ = some (.slice d.1 d.2.1 d.2.2) ∧ w'.cell? ⟨g, 4, none⟩ = some (.slice e.1 e.2.1 e.2.2)) ∧ Hid (Below w5.heap.size w5 w')) (by kernel_rfl) ?_ (fun hHeld => ?_)
        · exact HQ.out _ (Below.refl _ _).drew
        (refine wpAnyH_take (i := 0) (oi := ⟨_, _, _, _, _, _⟩) (v := ?_) rfl (by kernel_rfl) (by kernel_rfl) (by kernel_rfl) (fun _ _ _ h => h) (Or.inl ⟨by rfl, ?_⟩) (by assumption) ?_; rotate_left 1; · (intro w hSw; (try dsimp only at hSw); go_simp; all_goals with_reducible rfl))
        try simp only [Act.put, List.setIfInBounds_toArray, List.set_cons_zero, List.set_cons_succ]
        refine wpAnyH_ready (rs := [1]) (by kernel_rfl) (by simp) ?_
        refine AllReadyH.cons (o := ⟨_, _, _, _, _, _⟩) rfl (fun Kq hKq => ?_) AllReadyH.nil
        go_simp
        clear hHeld
        (go_at_call 20; (with_reducible refine (HNR.out _ (Below.refl _ _).drew).mono ?_); rintro e wk ⟨vn, rfl, ho, hb⟩; have HK1 := Lib.hid (below_after (Below.refl _ _).drew hb (Nat.le_refl _)); obtain ⟨An, nn, cn, hvn, hnn⟩ := owns_len ho; subst hvn; have HNn := Lib.hid hnn; have hpos := HPos.out nn hnn; clear ho hb hnn)
        refine hKq.out _ _ ?_ (fun hHeld => ?_)
        · (try dsimp only); exact HQ.out _ HK1.out
        clear hKq Kq
        try simp only [Act.put, List.setIfInBounds_toArray, List.set_cons_zero, List.set_cons_succ]
        (refine wpAnyH_take (i := 2) (oi := ⟨_, _, _, _, _, _⟩) (v := ?_) rfl (by kernel_rfl) (by kernel_rfl) (by kernel_rfl) (fun _ _ _ h => h) (Or.inl ⟨by rfl, ?_⟩) (by assumption) ?_; rotate_left 1; · (intro w hSw; (try dsimp only at hSw); go_simp; all_goals with_reducible rfl))
        try simp only [Act.put, List.setIfInBounds_toArray, List.set_cons_zero, List.set_cons_succ]
        (refine wpAnyH_take (i := 3) (oi := ⟨_, _, _, _, _, _⟩) (v := ?_) rfl (by kernel_rfl) (by kernel_rfl) (by kernel_rfl) (fun _ _ _ h => h) (Or.inl ⟨by rfl, ?_⟩) (by assumption) ?_; rotate_left 1; · (intro w hSw; (try dsimp only at hSw); go_simp; all_goals with_reducible rfl))
        try simp only [Act.put, List.setIfInBounds_toArray, List.set_cons_zero, List.set_cons_succ]
        (refine wpAnyH_take (i := 4) (oi := ⟨_, _, _, _, _, _⟩) (v := ?_) rfl (by kernel_rfl) (by kernel_rfl) (by kernel_rfl) (fun _ _ _ h => h) (Or.inl ⟨by rfl, ?_⟩) (by assumption) ?_; rotate_left 1; · (intro w hSw; (try dsimp only at hSw); go_simp; all_goals with_reducible rfl))
        try simp only [Act.put, List.setIfInBounds_toArray, List.set_cons_zero, List.set_cons_succ]
        refine wpAnyH_take (i := 5) (oi := ⟨_, _, _, _, _, _⟩) (v := undef) rfl (by kernel_rfl) (by kernel_rfl) (by kernel_rfl) (fun _ _ _ h => h) (Or.inr ⟨by kernel_rfl, rfl⟩) (by assumption) ?_
        try simp only [Act.put, List.setIfInBounds_toArray, List.set_cons_zero, List.set_cons_succ]
        refine wpAnyH_take (i := 6) (oi := ⟨_, _, _, _, _, _⟩) (v := undef) rfl (by kernel_rfl) (by kernel_rfl) (by kernel_rfl) (fun _ _ _ h => h) (Or.inr ⟨by kernel_rfl, rfl⟩) (by assumption) ?_
        try simp only [Act.put, List.setIfInBounds_toArray, List.set_cons_zero, List.set_cons_succ]
        refine wpAnyH_take (i := 7) (oi := ⟨_, _, _, _, _, _⟩) (v := undef) rfl (by kernel_rfl) (by kernel_rfl) (by kernel_rfl) (fun _ _ _ h => h) (Or.inr ⟨by kernel_rfl, rfl⟩) (by assumption) ?_
        try simp only [Act.put, List.setIfInBounds_toArray, List.set_cons_zero, List.set_cons_succ]
        refine wpAnyH_take (i := 8) (oi := ⟨_, _, _, _, _, _⟩) (v := undef) rfl (by kernel_rfl) (by kernel_rfl) (by kernel_rfl) (fun _ _ _ h => h) (Or.inr ⟨by kernel_rfl, rfl⟩) (by assumption) ?_
        try simp only [Act.put, List.setIfInBounds_toArray, List.set_cons_zero, List.set_cons_succ]
        refine wpAnyH_take (i := 9) (oi := ⟨_, _, _, _, _, _⟩) (v := undef) rfl (by kernel_rfl) (by kernel_rfl) (by kernel_rfl) (fun _ _ _ h => h) (Or.inr ⟨by kernel_rfl, rfl⟩) (by assumption) ?_
        try simp only [Act.put, List.setIfInBounds_toArray, List.set_cons_zero, List.set_cons_succ]
        (refine wpAnyH_take (i := 10) (oi := ⟨_, _, _, _, _, _⟩) (v := ?_) rfl (by kernel_rfl) (by kernel_rfl) (by kernel_rfl) (fun _ _ _ h => h) (Or.inl ⟨by rfl, ?_⟩) (by assumption) ?_; rotate_left 1; · (intro w hSw; (try dsimp only at hSw); go_simp; all_goals with_reducible rfl))
        try simp only [Act.put, List.setIfInBounds_toArray, List.set_cons_zero, List.set_cons_succ]
        (refine wpAnyH_take (i := 11) (oi := ⟨_, _, _, _, _, _⟩) (v := ?_) rfl (by kernel_rfl) (by kernel_rfl) (by kernel_rfl) (fun _ _ _ h => h) (Or.inl ⟨by rfl, ?_⟩) (by assumption) ?_; rotate_left 1; · (intro w hSw; (try dsimp only at hSw); go_simp; all_goals with_reducible rfl))
        try simp only [Act.put, List.setIfInBounds_toArray, List.set_cons_zero, List.set_cons_succ]
        refine wpAnyH_done (by kernel_rfl) ?_ _
        go_wp2_with fail
        go_ret
        exact ⟨rfl, below_after B4.out HK1.out (Nat.le_refl _)⟩
      · have HPos : Hid (∀ nn : Nat, nn = (Agr.nr V.m V.r).length → decide (0 < nn) = false) := Lib.hid fun nn h => decide_eq_false (by omega)
        have HEq := Lib.hid (HI2.out (List.eq_nil_of_length_eq_zero (by omega)))
        have hbb := bool_self R
        clear hn
        rw [HEq.out] at HAl
        go_region_held3 (fun w' => (w'.cell? ⟨g, 0, none⟩ = some (.slice a.1 a.2.1 a.2.2) ∧ w'.cell? ⟨g, 1, none⟩ = some (.slice b.1 b.2.1 b.2.2) ∧ w'.cell? ⟨g, 2, none⟩ = some (.slice c.1 c.2.1 c.2.2) ∧ w'.cell? ⟨g, 3, none⟩ = some (.slice d.1 d.2.1 d.2.2) ∧ w'.cell? ⟨g, 4, none⟩ = some (.slice e.1 e.2.1 e.2.2)) ∧ Hid (Below w5.heap.size w5 w'))
          (first | exact HQ.out _ (Below.refl _ _).drew | exact HQ.out _ HK3.out | exact HQ.out _ HK2.out | exact HQ.out _ HK1.out)
          (first | (go_at_call 20; (with_reducible refine (HNR.out _ (Below.refl _ _).drew).mono ?_); rintro e wk ⟨vn, rfl, ho, hb⟩; have HK1 := Lib.hid (below_after (Below.refl _ _).drew hb (Nat.le_refl _)); obtain ⟨An, nn, cn, hvn, hnn⟩ := owns_len ho; subst hvn; have HNn := Lib.hid hnn; have hpos := HPos.out nn hnn; clear ho hb hnn) | (go_at_call 24; (with_reducible refine (HAl.out _ HK1.out).mono ?_); rintro e wk ⟨rfl, hb⟩; have HK2 := Lib.hid (below_after HK1.out hb (Nat.le_refl _)); clear hb) | (go_at_call 26; (with_reducible refine (HRe2.out _ HK2.out).mono ?_); rintro e wk ⟨rfl, hb⟩; have HK3 := Lib.hid (below_after HK2.out hb (Nat.le_refl _)); clear hb))
        go_wp2_with fail
        go_ret
        exact ⟨ret_bool (by simp), below_after B4.out HK3.out (Nat.le_refl _)⟩
    · have HR1 : Hid (R = true) := Lib.hid (HI1.out rfl)
      obtain ⟨p0, p1, p2, p3, p4⟩ := vbox_cells G4.out.x
      go_wp2_with fail
      clear p0 p1 p2 p3 p4
      (with_reducible refine (HRe.out w4 Z4.out).mono ?_)
      rw [HR1.out]
      rintro e5 w5 ⟨rfl, hb⟩
      have G5 := Lib.hid (G4.out.below hb)
      have B5 := Lib.hid (below_after B4.out hb (Nat.le_refl _))
      have Z5 := Lib.hid (below_after Z4.out hb (Nat.le_refl _))
      clear hb
      go_upto_region 5 with fail
      clear G4 B4 Z4
      have G4 := G5
      have B4 := B5
      have Z4 := Z5
      clear G5 B5 Z5
      have HQ := Lib.hid fun w' (hb : Below w5.heap.size w5 w') => (show (w'.cell? ⟨g, 0, none⟩ = some (.slice a.1 a.2.1 a.2.2) ∧ w'.cell? ⟨g, 1, none⟩ = some (.slice b.1 b.2.1 b.2.2) ∧ w'.cell? ⟨g, 2, none⟩ = some (.slice c.1 c.2.1 c.2.2) ∧ w'.cell? ⟨g, 3, none⟩ = some (.slice d.1 d.2.1 d.2.2) ∧ w'.cell? ⟨g, 4, none⟩ = some (.slice e.1 e.2.1 e.2.2)) ∧ Hid (Below w5.heap.size w5 w') from ⟨vbox_cells (vbox_below G4.out.x hb), Lib.hid hb⟩)
      have HNR := Lib.hid fun W (hb : Below w5.heap.size w5 W) => HNR0.out W (below_after Z4.out hb (Nat.le_refl _))
      have HAl := Lib.hid fun W (hb : Below w5.heap.size w5 W) => HAll.out W (below_after Z4.out hb (Nat.le_refl _))
      have HRe2 := Lib.hid fun W (hb : Below w5.heap.size w5 W) => HRe.out W (below_after Z4.out hb (Nat.le_refl _))
      by_cases hn : 0 < (Agr.nr V.m V.r).length
      · have HPos : Hid (∀ nn : Nat, nn = (Agr.nr V.m V.r).length → decide (0 < nn) = true) := Lib.hid fun nn h => decide_eq_true (by omega)
        clear hn
        refine wp_region_held_drew (S := fun w' => (w'.cell? ⟨g, 0, none⟩ = some (.slice a.1 a.2.1 a.2.2) ∧ w'.cell? ⟨g, 1, none⟩ = some (.slice b.1 b.2.1 b.2.2) ∧ w'.cell? ⟨g, 2, none⟩ = some (.slice c.1 c.2.1 c.2.2) ∧ w'.cell? ⟨g, 3, none⟩ = some (.slice d.1 d.2.1 d.2.2) ∧ w'.cell? ⟨g, 4, none⟩ = some (.slice e.1 e.2.1 e.2.2)) ∧ Hid (Below w5.heap.size w5 w')) (by kernel_rfl) ?_ (fun hHeld => ?_)
        · exact HQ.out _ (Below.refl _ _).drew
        (refine wpAnyH_take (i := 0) (oi := ⟨_, _, _, _, _, _⟩) (v := ?_) rfl (by kernel_rfl) (by kernel_rfl) (by kernel_rfl) (fun _ _ _ h => h) (Or.inl ⟨by rfl, ?_⟩) (by assumption) ?_; rotate_left 1; · (intro w hSw; (try dsimp only at hSw); go_simp; all_goals with_reducible rfl))
        try simp only [Act.put, List.setIfInBounds_toArray, List.set_cons_zero, List.set_cons_succ]
        refine wpAnyH_ready (rs := [1]) (by kernel_rfl) (by simp) ?_
        refine AllReadyH.cons (o := ⟨_, _, _, _, _, _⟩) rfl (fun Kq hKq => ?_) AllReadyH.nil
        go_simp
        clear hHeld
        (go_at_call 20; (with_reducible refine (HNR.out _ (Below.refl _ _).drew).mono ?_); rintro e wk ⟨vn, rfl, ho, hb⟩; have HK1 := Lib.hid (below_after (Below.refl _ _).drew hb (Nat.le_refl _)); obtain ⟨An, nn, cn, hvn, hnn⟩ := owns_len ho; subst hvn; have HNn := Lib.hid hnn; have hpos := HPos.out nn hnn; clear ho hb hnn)
        refine hKq.out _ _ ?_ (fun hHeld => ?_)
        · (try dsimp only); exact HQ.out _ HK1.out
        clear hKq Kq
        try simp only [Act.put, List.setIfInBounds_toArray, List.set_cons_zero, List.set_cons_succ]
        (refine wpAnyH_take (i := 2) (oi := ⟨_, _, _, _, _, _⟩) (v := ?_) rfl (by kernel_rfl) (by kernel_rfl) (by kernel_rfl) (fun _ _ _ h => h) (Or.inl ⟨by rfl, ?_⟩) (by assumption) ?_; rotate_left 1; · (intro w hSw; (try dsimp only at hSw); go_simp; all_goals with_reducible rfl))
        try simp only [Act.put, List.setIfInBounds_toArray, List.set_cons_zero, List.set_cons_succ]
        (refine wpAnyH_take (i := 3) (oi := ⟨_, _, _, _, _, _⟩) (v := ?_) rfl (by kernel_rfl) (by kernel_rfl) (by kernel_rfl) (fun _ _ _ h => h) (Or.inl ⟨by rfl, ?_⟩) (by assumption) ?_; rotate_left 1; · (intro w hSw; (try dsimp only at hSw); go_simp; all_goals with_reducible rfl))
        try simp only [Act.put, List.setIfInBounds_toArray, List.set_cons_zero, List.set_cons_succ]
        (refine wpAnyH_take (i := 4) (oi := ⟨_, _, _, _, _, _⟩) (v := ?_) rfl (by kernel_rfl) (by kernel_rfl) (by kernel_rfl) (fun _ _ _ h => h) (Or.inl ⟨by rfl, ?_⟩) (by assumption) ?_; rotate_left 1; · (intro w hSw; (try dsimp only at hSw); go_simp; all_goals with_reducible rfl))
        try simp only [Act.put, List.setIfInBounds_toArray, List.set_cons_zero, List.set_cons_succ]
        refine wpAnyH_take (i := 5) (oi := ⟨_, _, _, _, _, _⟩) (v := undef) rfl (by kernel_rfl) (by kernel_rfl) (by kernel_rfl) (fun _ _ _ h => h) (Or.inr ⟨by kernel_rfl, rfl⟩) (by assumption) ?_
        try simp only [Act.put, List.setIfInBounds_toArray, List.set_cons_zero, List.set_cons_succ]
        refine wpAnyH_take (i := 6) (oi := ⟨_, _, _, _, _, _⟩) (v := undef) rfl (by kernel_rfl) (by kernel_rfl) (by kernel_rfl) (fun _ _ _ h => h) (Or.inr ⟨by kernel_rfl, rfl⟩) (by assumption) ?_
        try simp only [Act.put, List.setIfInBounds_toArray, List.set_cons_zero, List.set_cons_succ]
        refine wpAnyH_take (i := 7) (oi := ⟨_, _, _, _, _, _⟩) (v := undef) rfl (by kernel_rfl) (by kernel_rfl) (by kernel_rfl) (fun _ _ _ h => h) (Or.inr ⟨by kernel_rfl, rfl⟩) (by assumption) ?_
        try simp only [Act.put, List.setIfInBounds_toArray, List.set_cons_zero, List.set_cons_succ]
        refine wpAnyH_take (i := 8) (oi := ⟨_, _, _, _, _, _⟩) (v := undef) rfl (by kernel_rfl) (by kernel_rfl) (by kernel_rfl) (fun _ _ _ h => h) (Or.inr ⟨by kernel_rfl, rfl⟩) (by assumption) ?_
        try simp only [Act.put, List.setIfInBounds_toArray, List.set_cons_zero, List.set_cons_succ]
        refine wpAnyH_take (i := 9) (oi := ⟨_, _, _, _, _, _⟩) (v := undef) rfl (by kernel_rfl) (by kernel_rfl) (by kernel_rfl) (fun _ _ _ h => h) (Or.inr ⟨by kernel_rfl, rfl⟩) (by assumption) ?_
        try simp only [Act.put, List.setIfInBounds_toArray, List.set_cons_zero, List.set_cons_succ]
        (refine wpAnyH_take (i := 10) (oi := ⟨_, _, _, _, _, _⟩) (v := ?_) rfl (by kernel_rfl) (by kernel_rfl) (by kernel_rfl) (fun _ _ _ h => h) (Or.inl ⟨by rfl, ?_⟩) (by assumption) ?_; rotate_left 1; · (intro w hSw; (try dsimp only at hSw); go_simp; all_goals with_reducible rfl))
        try simp only [Act.put, List.setIfInBounds_toArray, List.set_cons_zero, List.set_cons_succ]
        (refine wpAnyH_take (i := 11) (oi := ⟨_, _, _, _, _, _⟩) (v := ?_) rfl (by kernel_rfl) (by kernel_rfl) (by kernel_rfl) (fun _ _ _ h => h) (Or.inl ⟨by rfl, ?_⟩) (by assumption) ?_; rotate_left 1; · (intro w hSw; (try dsimp only at hSw); go_simp; all_goals with_reducible rfl))
        try simp only [Act.put, List.setIfInBounds_toArray, List.set_cons_zero, List.set_cons_succ]
        refine wpAnyH_done (by kernel_rfl) ?_ _
        go_wp2_with fail
        go_ret
        exact ⟨rfl, below_after B4.out HK1.out (Nat.le_refl _)⟩
      · have HPos : Hid (∀ nn : Nat, nn = (Agr.nr V.m V.r).length → decide (0 < nn) = false) := Lib.hid fun nn h => decide_eq_false (by omega)
        have HEq := Lib.hid (HI2.out (List.eq_nil_of_length_eq_zero (by omega)))
        have hbb := bool_self R
        clear hn
        rw [HEq.out] at HAl
        go_region_held3 (fun w' => (w'.cell? ⟨g, 0, none⟩ = some (.slice a.1 a.2.1 a.2.2) ∧ w'.cell? ⟨g, 1, none⟩ = some (.slice b.1 b.2.1 b.2.2) ∧ w'.cell? ⟨g, 2, none⟩ = some (.slice c.1 c.2.1 c.2.2) ∧ w'.cell? ⟨g, 3, none⟩ = some (.slice d.1 d.2.1 d.2.2) ∧ w'.cell? ⟨g, 4, none⟩ = some (.slice e.1 e.2.1 e.2.2)) ∧ Hid (Below w5.heap.size w5 w'))
          (first | exact HQ.out _ (Below.refl _ _).drew | exact HQ.out _ HK3.out | exact HQ.out _ HK2.out | exact HQ.out _ HK1.out)
          (first | (go_at_call 20; (with_reducible refine (HNR.out _ (Below.refl _ _).drew).mono ?_); rintro e wk ⟨vn, rfl, ho, hb⟩; have HK1 := Lib.hid (below_after (Below.refl _ _).drew hb (Nat.le_refl _)); obtain ⟨An, nn, cn, hvn, hnn⟩ := owns_len ho; subst hvn; have HNn := Lib.hid hnn; have hpos := HPos.out nn hnn; clear ho hb hnn) | (go_at_call 24; (with_reducible refine (HAl.out _ HK1.out).mono ?_); rintro e wk ⟨rfl, hb⟩; have HK2 := Lib.hid (below_after HK1.out hb (Nat.le_refl _)); clear hb) | (go_at_call 26; (with_reducible refine (HRe2.out _ HK2.out).mono ?_); rintro e wk ⟨rfl, hb⟩; have HK3 := Lib.hid (below_after HK2.out hb (Nat.le_refl _)); clear hb))
        go_wp2_with fail
        go_ret
        exact ⟨ret_bool (by simp), below_after B4.out HK3.out (Nat.le_refl _)⟩
end Go.Proofs.YtloghkiabgnpnaaDoor
