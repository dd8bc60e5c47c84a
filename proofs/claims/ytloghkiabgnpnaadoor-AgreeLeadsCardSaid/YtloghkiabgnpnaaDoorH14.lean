/-
  Carried over and put together: contracts of this program's functions, and plain facts. No statement is proved in this text.
-/
import Derived.Test.YtloghkiabgnpnaaDoorH13
namespace Go.Proofs.YtloghkiabgnpnaaDoor
open Go Go.RowKit
/-- A view that is not too great. -/
structure FitA (V : Vw) : Prop where
  m : V.m.length ≤ 1000
  r : V.r.length ≤ 1000
  s : V.s.length ≤ 1000
  n : (V.r.map fun r => r.2.2.length).sum ≤ 100000
theorem notL_len (m : List Agr.Mm) : ∀ rs : List Agr.Row, (Agr.notL m rs).length ≤ (rs.map fun r => r.2.2.length).sum
  | [] => Nat.le_refl _
  | r :: rs => by
    have ih := notL_len m rs
    unfold Agr.notL at ih ⊢
    rw [List.flatMap_cons, List.length_append, List.map_cons, List.sum_cons]
    have h : (if r.1 ∈ Agr.chosenL (fun s => decide (s < 6)) m then Sets.del r.2.2 r.1 else []).length ≤ r.2.2.length := by
      split
      · exact Nat.le_trans (Sets.setOf_len _) (List.length_filter_le _ _)
      · simp
    omega
theorem sum_take {l : List Nat} (k : Nat) : (l.take k).sum ≤ l.sum := by
  conv => rhs; rw [← List.take_append_drop k l]
  rw [List.sum_append]
  omega
theorem sum_at {l : List Nat} {k : Nat} (h : k < l.length) : (l.take k).sum + l[k] ≤ l.sum := by
  have := sum_take (l := l) (k + 1)
  rw [List.take_succ_eq_append_getElem h, List.sum_append] at this
  simpa using this
theorem notL_next {m : List Agr.Mm} {rs : List Agr.Row} {k : Nat} (hk : k < rs.length) : Agr.notL m (rs.take (k + 1)) = Agr.notL m (rs.take k) ++ if hasB rs[k].1 (Agr.chosenL (fun s => decide (s < 6)) m) then Sets.del rs[k].2.2 rs[k].1 else [] := by
  unfold Agr.notL
  rw [List.take_succ_eq_append_getElem hk, List.flatMap_append]
  congr 1
  rw [List.flatMap_singleton]
  unfold hasB
  by_cases c : rs[k].1 ∈ Agr.chosenL (fun s => decide (s < 6)) m <;> simp [c]
/-- What stands of the world: a view in a block. -/
structure AgV (g : Nat) (a b c d e : SL) (V : Vw) (W : World) : Prop where
  x : VBox W g a b c d e
  r : RV W a b c d e V
theorem AgV.below {g : Nat} {a b c d e : SL} {V : Vw} {W W' : World} (h : AgV g a b c d e V W) (hb : Below W.heap.size W W') : AgV g a b c d e V W' := ⟨vbox_below h.x hb, h.r.below hb⟩
theorem agV_new {w : World} {a b c d e : SL} {V : Vw} (hr : RV w a b c d e V) : AgV w.heap.size a b c d e V (w.alloc (.cells #[.slice a.1 a.2.1 a.2.2, .slice b.1 b.2.1 b.2.2, .slice c.1 c.2.1 c.2.2, .slice d.1 d.2.1 d.2.2, .slice e.1 e.2.1 e.2.2] 29)) := ⟨vbox_new w a b c d e, hr.below (below_one w _)⟩
theorem AgV.at_ {g : Nat} {a b c d e : SL} {V : Vw} {W : World} (h : AgV g a b c d e V W) : VAt W (.agg #[.slice a.1 a.2.1 a.2.2, .slice b.1 b.2.1 b.2.2, .slice c.1 c.2.1 c.2.2, .slice d.1 d.2.1 d.2.2, .slice e.1 e.2.1 e.2.2]) V := h.r.at_
set_option maxHeartbeats 4000000 in
theorem notReached_any (v : Value) (V : Vw) (w : World) (h : VAt w v V) (hV : FitA V) :
    Calls Tryd.prog 20 #[v] w (News (Agr.nr V.m V.r) w) := by
  obtain ⟨a, b, c, d, e, rfl, hr⟩ := h
  have G1 := Lib.hid (agV_new hr)
  have BB := Lib.hid (below_one w (.cells #[.slice a.1 a.2.1 a.2.2, .slice b.1 b.2.1 b.2.2, .slice c.1 c.2.1 c.2.2, .slice d.1 d.2.1 d.2.2, .slice e.1 e.2.1 e.2.2] 29))
  have HV := Lib.hid hV
  have hcl := rows_len hr.r
  have hc1 : c.2.1 ≤ 1000 := by rw [hcl]; exact hV.r
  have HCL := Lib.hid hcl
  clear hr hV hcl
  obtain ⟨p0, p1, p2, p3, p4⟩ := vbox_cells G1.out.x
  go_enter Tryd.func20, Tryd.ntmps20
  go_wp2_with fail
  generalize w.alloc (.cells #[.slice a.1 a.2.1 a.2.2, .slice b.1 b.2.1 b.2.2, .slice c.1 c.2.1 c.2.2, .slice d.1 d.2.1 d.2.2, .slice e.1 e.2.1 e.2.2] 29) = w1 at *
  obtain ⟨g, hg⟩ : ∃ g, g = w.heap.size := ⟨_, rfl⟩
  rw [← hg] at G1 p0 p1 p2 p3 p4
  rw [← hg]
  clear p0 p1 p2 p3 p4
  (with_reducible refine (agrChosen_any low_asks _ V w1 G1.out.at_ trivial (Nat.le_trans HV.out.m (by omega))).mono ?_)
  rintro e2 w2 ⟨v1, rfl, ho, hb⟩
  have G2 := Lib.hid (G1.out.below hb)
  have B2 := Lib.hid (below_after BB.out hb (Nat.le_refl _))
  have I2 := Lib.hid (ids_of_owns ho)
  clear ho hb G1 hg
  obtain ⟨p0, p1, p2, p3, p4⟩ := vbox_cells G2.out.x
  go_wp2_with fail
  clear p0 p1 p2 p3 p4
  go_loopw [14, 4] (fun s14 s4 wr => ∃ k : Nat, s14 = .int .i64 k ∧ k ≤ c.2.1 ∧ Hid (Owns wr w2.heap.size s4 (Agr.notL V.m (V.r.take k))) ∧ Hid (Below w2.heap.size w2 wr)) (fun s14 _ _ => c.2.1 - (intOf s14).toNat)
  case atStart => exact ⟨0, rfl, by omega, Lib.hid (owns_nil _ _), Lib.hid (Below.refl _ _)⟩
  case round =>
    obtain ⟨k, rfl, hk, HO, HB⟩ := hrel
    by_cases hlt : k < c.2.1
    · have hd : decide ((k : Int) < (c.2.1 : Int)) = true := decide_eq_true (by omega)
      have i3 : (0 : Int) ≤ (k : Int) := by omega
      have i4 : (k : Int) < (c.2.1 : Int) := by omega
      have hkr : k < V.r.length := by have := HCL.out; omega
      obtain ⟨ad, B, x, y, hA, hs, hc⟩ := rows_cells G2.out.r.r hkr
      have HA := Lib.hid hA
      have HS := Lib.hid hs
      obtain ⟨c1, c2, c3, c4⟩ := hc _ HB.out
      have HNx := Lib.hid (notL_next (m := V.m) hkr)
      have HLen : Hid ((Agr.notL V.m (V.r.take k)).length + V.r[k].2.2.length ≤ 100000) := Lib.hid (by
        have h1 := notL_len V.m (V.r.take k)
        have h2 := sum_at (l := V.r.map fun r => r.2.2.length) (k := k) (by simpa using hkr)
        have h3 := HV.out.n
        have h4 : ((V.r.take k).map fun r => r.2.2.length).sum + V.r[k].2.2.length ≤ (V.r.map fun r => r.2.2.length).sum := by
          rw [List.map_take]
          simpa using h2
        exact Nat.le_trans (Nat.add_le_add_right h1 _) (Nat.le_trans h4 h3))
      have HE : Hid (V.r[k].1 = (V.r[k].1.1, V.r[k].1.2)) := Lib.hid rfl
      rw [HE.out] at HNx
      clear hA hs hc HE
      generalize V.r[k].1.1 = x1 at *
      generalize V.r[k].1.2 = x2 at *
      generalize V.r[k].2.1 = x3 at *
      generalize V.r[k].2.2 = not at *
      have HX := Lib.hid (wbox_new wr x1 x2 x3 (.slice B x y))
      have BX := Lib.hid (below_one wr (.cells #[.int .i64 x1, .int .i64 x2, .int .i64 x3, .slice B x y] 37))
      have IX := Lib.hid ((I2.out.below HB.out).below BX.out)
      clear hkr
      rw [HA.out]
      rcases hh : hasB (x1, x2) (Agr.chosenL (fun s => decide (s < 6)) V.m) with _ | _
      · have HH := Lib.hid hh
        rw [hh] at HNx
        clear hh
        go_wp2_with fail
        (with_reducible refine (bin_any _ _ x1 x2 _ IX.out (Agr.rises_chosen _ _) (by have := Agr.chosen_len (fun s => decide (s < 6)) V.m; have := HV.out.m; omega)).mono ?_)
        rw [HH.out]
        rintro e3 w3 ⟨z, rfl, -, hb⟩
        have B3 := Lib.hid (below_after BX.out hb (Nat.le_refl _))
        have O3 := Lib.hid (HO.out.below B3.out)
        clear hb c1 c2 c3 c4
        have HNy := Lib.hid (HNx.out.trans (List.append_nil _))
        go_wp2_with fail
        go_roundw
        case rel => exact ⟨k + 1, by go_num, by omega, Lib.hid (by rw [HNy.out]; exact O3.out), Lib.hid (below_after HB.out B3.out (Nat.le_refl _))⟩
        case measure => simp [intOf]; omega
      · have HH := Lib.hid hh
        rw [hh] at HNx
        clear hh
        go_wp2_with fail
        (with_reducible refine (bin_any _ _ x1 x2 _ IX.out (Agr.rises_chosen _ _) (by have := Agr.chosen_len (fun s => decide (s < 6)) V.m; have := HV.out.m; omega)).mono ?_)
        rw [HH.out]
        rintro e3 w3 ⟨z, rfl, -, hb⟩
        have B3 := Lib.hid (below_after BX.out hb (Nat.le_refl _))
        have X3 := Lib.hid (wbox_below HX.out hb)
        have S3 := Lib.hid ((HS.out.below HB.out).below B3.out)
        obtain ⟨m1, m2, m3, m4⟩ := wbox_cells X3.out
        clear hb c1 c2 c3 c4
        go_wp2_with fail
        (with_reducible refine (del_new _ not x1 x2 w3 S3.out (by have := HLen.out; omega)).mono ?_)
        rintro e4 w4 ⟨v4, rfl, ho, hb⟩
        have B4 := Lib.hid (below_after B3.out hb (Nat.le_refl _))
        have O4 := Lib.hid (HO.out.below B4.out)
        have I4 := Lib.hid (ids_of_owns ho)
        have Z4 := Lib.hid (below_after HB.out B4.out (Nat.le_refl _))
        clear ho hb m1 m2 m3 m4
        have HL4 : Hid ((Agr.notL V.m (V.r.take k)).length + (Sets.del not (x1, x2)).length ≤ 1000000) := Lib.hid (by
          have := HLen.out
          have : (Sets.del not (x1, x2)).length ≤ not.length := Nat.le_trans (Sets.setOf_len _) (List.length_filter_le _ _)
          omega)
        have HNy := Lib.hid (HNx.out.trans (show _ = _ ++ Sets.del not (x1, x2) from rfl))
        go_wp2_with (first | (at_builtin; refine wpList_append_list rfl (.tmp 26) (.tmp 31) rfl w4 w2.heap.size _ _ _ _ rfl rfl O4.out I4.out HL4.out Z4.out.size ?_; intro v9 w9 h1 h2))
        refine ⟨⟨k + 1, by go_num, by omega, Lib.hid (by rw [HNy.out]; exact h1), Lib.hid (Z4.out.trans h2)⟩, by simp [intOf]; omega⟩
    · have hd : decide ((k : Int) < (c.2.1 : Int)) = false := decide_eq_false (by omega)
      have O1 : Hid (Owns wr w2.heap.size u4 (Agr.notL V.m V.r)) := Lib.hid (by
        have := HO.out
        rwa [List.take_of_length_le (by have := HCL.out; omega)] at this)
      have G3 := Lib.hid (G2.out.below HB.out)
      obtain ⟨p0, p1, p2, p3, p4⟩ := vbox_cells G3.out.x
      go_wp2_with fail
      clear p0 p1 p2 p3 p4
      (with_reducible refine (agrChosen_any all_asks _ V wr G3.out.at_ trivial (Nat.le_trans HV.out.m (by omega))).mono ?_)
      rintro e3 w3 ⟨v3, rfl, ho, hb⟩
      have I3 := Lib.hid (ids_of_owns ho)
      have O3 := Lib.hid (ids_of_owns (O1.out.below hb))
      have B3 := Lib.hid (below_after (below_after B2.out HB.out (Nat.le_refl _)) hb (Nat.le_refl _))
      clear ho hb
      go_wp2_with fail
      (with_reducible refine (both_new _ _ _ _ w3 O3.out I3.out (Nat.le_trans (notL_len V.m V.r) (Nat.le_trans HV.out.n (by omega))) (by have := Agr.chosen_len (fun _ => true) V.m; have := HV.out.m; omega)).mono ?_)
      rintro e4 w4 ⟨v4, rfl, ho, hb⟩
      have O4 := Lib.hid (ho.mono B3.out.size)
      have B4 := Lib.hid (below_after B3.out hb (Nat.le_refl _))
      clear ho hb
      go_wp2_with fail
      go_ret
      exact ⟨_, rfl, O4.out, B4.out⟩
end Go.Proofs.YtloghkiabgnpnaaDoor
namespace Go.Proofs.YtloghkiabgnpnaaDoor
open Go Go.RowKit
theorem gotV_some {o : Option Agr.Mm} : ∃ x1 x2 x3 x4 : Int, gotV o = .tuple #[.agg #[.int .i64 x1, .int .i64 x2, .int .u8 x3, .int .i64 x4], .bool o.isSome] ∧ x3 = (o.getD noneM).2.1 := ⟨_, _, _, _, rfl, rfl⟩
set_option maxHeartbeats 4000000 in
theorem reached_any (v : Value) (V : Vw) (x y : Int) (w : World) (h : VAt w v V) (hV : FitA V) :
    Calls Tryd.prog 12 #[v, .agg #[.int .i64 x, .int .i64 y]] w fun e w' => e = .returned (.bool (Agr.reachedB V.m V.r (x, y))) ∧ Below w.heap.size w w' := by
  obtain ⟨a, b, c, d, e, rfl, hr⟩ := h
  have q1 := below_one w (.cells #[.slice a.1 a.2.1 a.2.2, .slice b.1 b.2.1 b.2.2, .slice c.1 c.2.1 c.2.2, .slice d.1 d.2.1 d.2.2, .slice e.1 e.2.1 e.2.2] 29)
  have q2 := below_one (w.alloc (.cells #[.slice a.1 a.2.1 a.2.2, .slice b.1 b.2.1 b.2.2, .slice c.1 c.2.1 c.2.2, .slice d.1 d.2.1 d.2.2, .slice e.1 e.2.1 e.2.2] 29)) (.cells #[.int .i64 x, .int .i64 y] 32)
  have G1 := Lib.hid ((agV_new hr).below q2)
  have X1 := Lib.hid (box_new (w.alloc (.cells #[.slice a.1 a.2.1 a.2.2, .slice b.1 b.2.1 b.2.2, .slice c.1 c.2.1 c.2.2, .slice d.1 d.2.1 d.2.2, .slice e.1 e.2.1 e.2.2] 29)) x y)
  have BB := Lib.hid (below_after q1 q2 (Nat.le_refl _))
  have HV := Lib.hid hV
  have HZ := Lib.hid (show (w.alloc (.cells #[.slice a.1 a.2.1 a.2.2, .slice b.1 b.2.1 b.2.2, .slice c.1 c.2.1 c.2.2, .slice d.1 d.2.1 d.2.2, .slice e.1 e.2.1 e.2.2] 29)).heap.size = w.heap.size + 1 by simp)
  clear hr hV q1 q2
  rw [HZ.out] at X1
  obtain ⟨p0, p1, p2, p3, p4⟩ := vbox_cells G1.out.x
  obtain ⟨i0, i1⟩ := box_cells X1.out
  go_enter Tryd.func12, Tryd.ntmps12
  go_wp2_with fail
  generalize (w.alloc (.cells #[.slice a.1 a.2.1 a.2.2, .slice b.1 b.2.1 b.2.2, .slice c.1 c.2.1 c.2.2, .slice d.1 d.2.1 d.2.2, .slice e.1 e.2.1 e.2.2] 29)).alloc (.cells #[.int .i64 x, .int .i64 y] 32) = w1 at *
  obtain ⟨g, hg⟩ : ∃ g, g = w.heap.size := ⟨_, rfl⟩
  obtain ⟨gi, hgi⟩ : ∃ g, g = w.heap.size + 1 := ⟨_, rfl⟩
  rw [← hg] at G1 p0 p1 p2 p3 p4
  rw [← hgi] at X1 i0 i1
  rw [← hgi, ← hg]
  clear HZ p0 p1 p2 p3 p4 i0 i1
  (with_reducible refine (get_any _ V.m x y w1 G1.out.r.m (by have := HV.out.m; omega)).mono ?_)
  rintro e2 w2 ⟨rfl, hb⟩
  obtain ⟨x1, x2, x3, x4, hgot, -⟩ := gotV_some (o := getO V.m (x, y))
  have HGot := Lib.hid hgot
  have G2 := Lib.hid (G1.out.below hb)
  have X2 := Lib.hid (box_below X1.out hb)
  have B2 := Lib.hid (below_after BB.out hb (Nat.le_refl _))
  have q3 := below_one w2 (.cells #[.int .i64 x1, .int .i64 x2, .int .u8 x3, .int .i64 x4] 52)
  have G3 := Lib.hid (G2.out.below q3)
  have X3 := Lib.hid (box_below X2.out q3)
  have B3 := Lib.hid (below_after B2.out q3 (Nat.le_refl _))
  clear hb hgot q3 hg hgi G1 X1
  rw [HGot.out]
  go_upto_region 2 with fail
  generalize w2.alloc (.cells #[.int .i64 x1, .int .i64 x2, .int .u8 x3, .int .i64 x4] 52) = w3 at *
  have HQ := Lib.hid fun w' (hb : Below w3.heap.size w3 w') => (show (w'.cell? ⟨g, 0, none⟩ = some (.slice a.1 a.2.1 a.2.2) ∧ w'.cell? ⟨g, 1, none⟩ = some (.slice b.1 b.2.1 b.2.2) ∧ w'.cell? ⟨g, 2, none⟩ = some (.slice c.1 c.2.1 c.2.2) ∧ w'.cell? ⟨g, 3, none⟩ = some (.slice d.1 d.2.1 d.2.2) ∧ w'.cell? ⟨g, 4, none⟩ = some (.slice e.1 e.2.1 e.2.2)) ∧ (w'.cell? ⟨gi, 0, none⟩ = some (.int .i64 x) ∧ w'.cell? ⟨gi, 1, none⟩ = some (.int .i64 y)) ∧ Hid (Below w3.heap.size w3 w') from
    ⟨vbox_cells (G3.out.below hb).x, box_cells (box_below X3.out hb), Lib.hid hb⟩)
  have HRd : Hid ((getO V.m (x, y)).isSome = Agr.isMem V.m (x, y)) := Lib.hid rfl
  rw [HRd.out]
  have HRs := Lib.hid (Agr.reached_is V.m V.r (x, y))
  rcases hm : Agr.isMem V.m (x, y) with _ | _
  · rw [hm] at HRs
    clear hm
    refine wp_region_held_drew (S := fun w' => Hid (Below w3.heap.size w3 w')) (by kernel_rfl) ?_ (fun hHeld => ?_)
    · exact Lib.hid (Below.refl _ _).drew
    (refine wpAnyH_take (i := 0) (oi := ⟨_, _, _, _, _, _⟩) (v := ?_) rfl (by kernel_rfl) (by kernel_rfl) (by kernel_rfl) (fun _ _ _ h => h) (Or.inl ⟨by rfl, ?_⟩) (by assumption) ?_; rotate_left 1; · (intro w hSw; (try dsimp only at hSw); go_simp; all_goals with_reducible rfl))
    try simp only [Act.put, List.setIfInBounds_toArray, List.set_cons_zero, List.set_cons_succ]
    (refine wpAnyH_take (i := 1) (oi := ⟨_, _, _, _, _, _⟩) (v := ?_) rfl (by kernel_rfl) (by kernel_rfl) (by kernel_rfl) (fun _ _ _ h => h) (Or.inl ⟨by rfl, ?_⟩) (by assumption) ?_; rotate_left 1; · (intro w hSw; (try dsimp only at hSw); go_simp; all_goals with_reducible rfl))
    try simp only [Act.put, List.setIfInBounds_toArray, List.set_cons_zero, List.set_cons_succ]
    refine wpAnyH_take (i := 2) (oi := ⟨_, _, _, _, _, _⟩) (v := undef) rfl (by kernel_rfl) (by kernel_rfl) (by kernel_rfl) (fun _ _ _ h => h) (Or.inr ⟨by kernel_rfl, rfl⟩) (by assumption) ?_
    try simp only [Act.put, List.setIfInBounds_toArray, List.set_cons_zero, List.set_cons_succ]
    refine wpAnyH_take (i := 3) (oi := ⟨_, _, _, _, _, _⟩) (v := undef) rfl (by kernel_rfl) (by kernel_rfl) (by kernel_rfl) (fun _ _ _ h => h) (Or.inr ⟨by kernel_rfl, rfl⟩) (by assumption) ?_
    try simp only [Act.put, List.setIfInBounds_toArray, List.set_cons_zero, List.set_cons_succ]
    refine wpAnyH_take (i := 4) (oi := ⟨_, _, _, _, _, _⟩) (v := undef) rfl (by kernel_rfl) (by kernel_rfl) (by kernel_rfl) (fun _ _ _ h => h) (Or.inr ⟨by kernel_rfl, rfl⟩) (by assumption) ?_
    try simp only [Act.put, List.setIfInBounds_toArray, List.set_cons_zero, List.set_cons_succ]
    refine wpAnyH_take (i := 5) (oi := ⟨_, _, _, _, _, _⟩) (v := undef) rfl (by kernel_rfl) (by kernel_rfl) (by kernel_rfl) (fun _ _ _ h => h) (Or.inr ⟨by kernel_rfl, rfl⟩) (by assumption) ?_
    try simp only [Act.put, List.setIfInBounds_toArray, List.set_cons_zero, List.set_cons_succ]
    refine wpAnyH_take (i := 6) (oi := ⟨_, _, _, _, _, _⟩) (v := undef) rfl (by kernel_rfl) (by kernel_rfl) (by kernel_rfl) (fun _ _ _ h => h) (Or.inr ⟨by kernel_rfl, rfl⟩) (by assumption) ?_
    try simp only [Act.put, List.setIfInBounds_toArray, List.set_cons_zero, List.set_cons_succ]
    (refine wpAnyH_take (i := 7) (oi := ⟨_, _, _, _, _, _⟩) (v := ?_) rfl (by kernel_rfl) (by kernel_rfl) (by kernel_rfl) (fun _ _ _ h => h) (Or.inl ⟨by rfl, ?_⟩) (by assumption) ?_; rotate_left 1; · (intro w hSw; (try dsimp only at hSw); go_simp; all_goals with_reducible rfl))
    try simp only [Act.put, List.setIfInBounds_toArray, List.set_cons_zero, List.set_cons_succ]
    (refine wpAnyH_take (i := 8) (oi := ⟨_, _, _, _, _, _⟩) (v := ?_) rfl (by kernel_rfl) (by kernel_rfl) (by kernel_rfl) (fun _ _ _ h => h) (Or.inl ⟨by rfl, ?_⟩) (by assumption) ?_; rotate_left 1; · (intro w hSw; (try dsimp only at hSw); go_simp; all_goals with_reducible rfl))
    try simp only [Act.put, List.setIfInBounds_toArray, List.set_cons_zero, List.set_cons_succ]
    refine wpAnyH_done (by kernel_rfl) ?_ _
    go_wp2_with fail
    go_ret
    exact ⟨ret_bool (by rw [← HRs.out]; rfl), below_drewN (n := 1) B3.out⟩
  · rw [hm] at HRs
    clear hm
    have HNR := Lib.hid fun W (hb : Below w3.heap.size w3 W) => notReached_any _ V W (G3.out.below hb).at_ HV.out
    have HHas := Lib.hid fun v W (hi : Ids W v (Agr.nr V.m V.r)) => has_any v (Agr.nr V.m V.r) x y W hi (by have := Agr.nr_len V.m V.r; have := HV.out.m; omega)
    go_region_held3 (fun w' => (w'.cell? ⟨g, 0, none⟩ = some (.slice a.1 a.2.1 a.2.2) ∧ w'.cell? ⟨g, 1, none⟩ = some (.slice b.1 b.2.1 b.2.2) ∧ w'.cell? ⟨g, 2, none⟩ = some (.slice c.1 c.2.1 c.2.2) ∧ w'.cell? ⟨g, 3, none⟩ = some (.slice d.1 d.2.1 d.2.2) ∧ w'.cell? ⟨g, 4, none⟩ = some (.slice e.1 e.2.1 e.2.2)) ∧ (w'.cell? ⟨gi, 0, none⟩ = some (.int .i64 x) ∧ w'.cell? ⟨gi, 1, none⟩ = some (.int .i64 y)) ∧ Hid (Below w3.heap.size w3 w'))
      (first | exact HQ.out _ (Below.refl _ _).drew | exact HQ.out _ HK2.out | exact HQ.out _ HK.out)
      (first | (go_at_call 20; (with_reducible refine (HNR.out _ (by first | exact (Below.refl _ _).drew)).mono ?_); rintro e w' ⟨vn, rfl, ho, hb⟩; have HK := Lib.hid (below_after (Below.refl _ _).drew hb (Nat.le_refl _)); have HO := Lib.hid (ids_of_owns ho); clear ho hb) | (go_at_call 34; (with_reducible refine (HHas.out _ _ HO.out).mono ?_); rintro e w' ⟨rfl, hb⟩; have HK2 := Lib.hid (below_after HK.out hb (Nat.le_refl _)); clear hb))
    go_wp2_with fail
    go_ret
    exact ⟨ret_bool (by rw [← HRs.out]; simp), below_after B3.out HK2.out (Nat.le_refl _)⟩
end Go.Proofs.YtloghkiabgnpnaaDoor
namespace Go.Proofs.YtloghkiabgnpnaaDoor
open Go Go.RowKit
theorem owns_len {w : World} {base : Nat} {v : Value} {l : List Sets.Id2} (h : Owns w base v l) : ∃ A n c, v = .slice A n c ∧ n = l.length := by
  obtain ⟨A, c, hv, -⟩ := ids_of_owns h
  exact ⟨A, _, c, hv, rfl⟩
theorem int_beq_zero (n : Nat) : ((n : Int) == 0) = decide (n = 0) := by
  by_cases h : n = 0
  · subst h; rfl
  · rw [decide_eq_false h]; exact beq_eq_false_iff_ne.2 (by omega)
theorem without_small {l m : List Sets.Id2} {n : Nat} (h : l.length ≤ n) : (Sets.without l m).length ≤ n := Nat.le_trans (Sets.setOf_len _) (Nat.le_trans (List.length_filter_le _ _) h)
set_option maxHeartbeats 4000000 in
theorem seen_any (v u : Value) (V : Vw) (l : List Sets.Id2) (w : World) (h : VAt w v V) (hu : Ids w u l) (hV : FitA V) (hl : l.length ≤ 1000) :
    Calls Tryd.prog 49 #[v, u] w fun e w' => e = .returned (.bool (Agr.seenB V.s l)) ∧ Below w.heap.size w w' := by
  obtain ⟨a, b, c, d, e, rfl, hr⟩ := h
  have G1 := Lib.hid (agV_new hr)
  have BB := Lib.hid (below_one w (.cells #[.slice a.1 a.2.1 a.2.2, .slice b.1 b.2.1 b.2.2, .slice c.1 c.2.1 c.2.2, .slice d.1 d.2.1 d.2.2, .slice e.1 e.2.1 e.2.2] 29))
  have HV := Lib.hid hV
  have I1 := Lib.hid (hu.below BB.out)
  obtain ⟨A, n, hv, hn⟩ : ∃ A n, u = .slice A l.length n ∧ l.length = l.length := by
    obtain ⟨A, n, hv, -⟩ := hu
    exact ⟨A, n, hv, rfl⟩
  subst hv
  clear hr hV hu hn
  obtain ⟨p0, p1, p2, p3, p4⟩ := vbox_cells G1.out.x
  by_cases h0 : 0 < l.length
  · have hd : decide (0 < l.length) = true := decide_eq_true h0
    have HW := Lib.hid (without_new (.slice A l.length n) (.slice e.1 e.2.1 e.2.2) l V.s _ I1.out G1.out.r.s (by omega) (by have := HV.out.s; omega))
    have HR := Lib.hid (show decide ((Sets.without l V.s).length = 0) = Agr.seenB V.s l by unfold Agr.seenB; rw [hd]; rfl)
    clear h0
    go_enter Tryd.func49, Tryd.ntmps49
    go_wp2_with fail
    (with_reducible refine HW.out.mono ?_)
    rintro e2 w2 ⟨v2, rfl, ho, hb⟩
    have B2 := Lib.hid (below_after BB.out hb (Nat.le_refl _))
    obtain ⟨A2, n2, c2, rfl, hn2⟩ := owns_len ho
    rw [← hn2] at HR
    clear ho hb hn2 p0 p1 p2 p3 p4 HW
    by_cases h2 : n2 = 0
    · subst h2
      go_wp2_with fail
      go_ret
      exact ⟨ret_bool (by rw [← HR.out]; rfl), B2.out⟩
    · have h3 : (n2 == 0) = false := by simpa using h2
      have HR2 := Lib.hid (show false = Agr.seenB V.s l by rw [← HR.out]; exact (decide_eq_false h2).symm)
      have h4 : ((n2 : Int) == 0) = false := beq_eq_false_iff_ne.2 (by omega)
      go_wp2_with fail
      go_ret
      exact ⟨ret_bool HR2.out, B2.out⟩
  · have hd : decide (0 < l.length) = false := decide_eq_false h0
    have HR := Lib.hid (show false = Agr.seenB V.s l by unfold Agr.seenB; rw [hd]; rfl)
    clear h0
    go_enter Tryd.func49, Tryd.ntmps49
    go_wp2_with fail
    go_ret
    exact ⟨ret_bool HR.out, BB.out⟩
set_option maxHeartbeats 8000000 in
theorem all_any (v : Value) (V : Vw) (w : World) (h : VAt w v V) (hV : FitA V) :
    Calls Tryd.prog 24 #[v] w fun e w' => e = .returned (.bool (Agr.allB V.m V.r V.s)) ∧ Below w.heap.size w w' := by
  obtain ⟨a, b, c, d, e, rfl, hr⟩ := h
  have G1 := Lib.hid (agV_new hr)
  have BB := Lib.hid (below_one w (.cells #[.slice a.1 a.2.1 a.2.2, .slice b.1 b.2.1 b.2.2, .slice c.1 c.2.1 c.2.2, .slice d.1 d.2.1 d.2.2, .slice e.1 e.2.1 e.2.2] 29))
  have HV := Lib.hid hV
  clear hr hV
  obtain ⟨p0, p1, p2, p3, p4⟩ := vbox_cells G1.out.x
  go_enter Tryd.func24, Tryd.ntmps24
  go_wp2_with fail
  generalize w.alloc (.cells #[.slice a.1 a.2.1 a.2.2, .slice b.1 b.2.1 b.2.2, .slice c.1 c.2.1 c.2.2, .slice d.1 d.2.1 d.2.2, .slice e.1 e.2.1 e.2.2] 29) = w1 at *
  obtain ⟨g, hg⟩ : ∃ g, g = w.heap.size := ⟨_, rfl⟩
  rw [← hg] at G1
  rw [← hg]
  clear hg p0 p1 p2 p3 p4
  (with_reducible refine (agrChosen_any await_asks _ V w1 G1.out.at_ trivial (Nat.le_trans HV.out.m (by omega))).mono ?_)
  rintro e2 w2 ⟨v1, rfl, ho, hb⟩
  have G2 := Lib.hid (G1.out.below hb)
  have B2 := Lib.hid (below_after BB.out hb (Nat.le_refl _))
  have I2 := Lib.hid (ids_of_owns ho)
  clear ho hb BB
  go_upto_region 2 with fail
  clear G1
  have G1 := G2
  have HQ := Lib.hid fun w' (hb : Below w2.heap.size w2 w') => (show (w'.cell? ⟨g, 0, none⟩ = some (.slice a.1 a.2.1 a.2.2) ∧ w'.cell? ⟨g, 1, none⟩ = some (.slice b.1 b.2.1 b.2.2) ∧ w'.cell? ⟨g, 2, none⟩ = some (.slice c.1 c.2.1 c.2.2) ∧ w'.cell? ⟨g, 3, none⟩ = some (.slice d.1 d.2.1 d.2.2) ∧ w'.cell? ⟨g, 4, none⟩ = some (.slice e.1 e.2.1 e.2.2)) ∧ Hid (Below w2.heap.size w2 w') from ⟨vbox_cells (G1.out.below hb).x, Lib.hid hb⟩)
  have HAw := Lib.hid fun W (hb : Below w2.heap.size w2 W) => I2.out.below hb
  have HCho := Lib.hid fun W (hb : Below w2.heap.size w2 W) => agrChosen_any voter_asks _ V W (G1.out.below hb).at_ trivial (Nat.le_trans HV.out.m (by omega))
  have HSeen := Lib.hid fun v W (hb : Below w2.heap.size w2 W) (hi : Ids W v (Agr.chosenL Agr.voterB V.m)) => seen_any _ v V (Agr.chosenL Agr.voterB V.m) W (G1.out.below hb).at_ hi HV.out (Nat.le_trans (Agr.chosen_len _ _) HV.out.m)
  have HNR := Lib.hid fun W (hb : Below w2.heap.size w2 W) => notReached_any _ V W (G1.out.below hb).at_ HV.out
  have HBoth := Lib.hid fun v u W (hi : Ids W v (Agr.chosenL Agr.awaitB V.m)) (hj : Ids W u (Agr.nr V.m V.r)) => both_new v u _ _ W hi hj (Nat.le_trans (Agr.chosen_len _ _) (Nat.le_trans HV.out.m (by omega))) (Nat.le_trans (Agr.nr_len _ _) (Nat.le_trans HV.out.m (by omega)))
  have HRes : Hid (Agr.allB V.m V.r V.s = (Agr.seenB V.s (Agr.chosenL Agr.voterB V.m) && decide ((Sets.both (Agr.chosenL Agr.awaitB V.m) (Agr.nr V.m V.r)).length = 0))) := Lib.hid rfl
  rcases hs : Agr.seenB V.s (Agr.chosenL Agr.voterB V.m) with _ | _
  · rw [hs] at HSeen HRes
    clear hs
    refine wp_region_held_drew (S := fun w' => (w'.cell? ⟨g, 0, none⟩ = some (.slice a.1 a.2.1 a.2.2) ∧ w'.cell? ⟨g, 1, none⟩ = some (.slice b.1 b.2.1 b.2.2) ∧ w'.cell? ⟨g, 2, none⟩ = some (.slice c.1 c.2.1 c.2.2) ∧ w'.cell? ⟨g, 3, none⟩ = some (.slice d.1 d.2.1 d.2.2) ∧ w'.cell? ⟨g, 4, none⟩ = some (.slice e.1 e.2.1 e.2.2)) ∧ Hid (Below w2.heap.size w2 w')) (by kernel_rfl) ?_ (fun hHeld => ?_)
    · exact HQ.out _ (Below.refl _ _).drew
    (refine wpAnyH_take (i := 0) (oi := ⟨_, _, _, _, _, _⟩) (v := ?_) rfl (by kernel_rfl) (by kernel_rfl) (by kernel_rfl) (fun _ _ _ h => h) (Or.inl ⟨by rfl, ?_⟩) (by assumption) ?_; rotate_left 1; · (intro w hSw; (try dsimp only at hSw); go_simp; all_goals with_reducible rfl))
    try simp only [Act.put, List.setIfInBounds_toArray, List.set_cons_zero, List.set_cons_succ]
    (refine wpAnyH_take (i := 1) (oi := ⟨_, _, _, _, _, _⟩) (v := ?_) rfl (by kernel_rfl) (by kernel_rfl) (by kernel_rfl) (fun _ _ _ h => h) (Or.inl ⟨by rfl, ?_⟩) (by assumption) ?_; rotate_left 1; · (intro w hSw; (try dsimp only at hSw); go_simp; all_goals with_reducible rfl))
    try simp only [Act.put, List.setIfInBounds_toArray, List.set_cons_zero, List.set_cons_succ]
    refine wpAnyH_ready (rs := [2]) (by kernel_rfl) (by simp) ?_
    refine AllReadyH.cons (o := ⟨_, _, _, _, _, _⟩) rfl (fun Kq hKq => ?_) AllReadyH.nil
    go_simp
    clear hHeld
    (go_at_call 35; (with_reducible refine (HCho.out _ (by first | exact (Below.refl _ _).drew | exact HK1.out)).mono ?_); rintro e w' ⟨vv, rfl, ho, hb⟩; have HK1 := Lib.hid (below_after (by first | exact (Below.refl _ _).drew) hb (Nat.le_refl _)); have HO1 := Lib.hid (ids_of_owns ho); clear ho hb)
    refine hKq.out _ _ ?_ (fun hHeld => ?_)
    · (try dsimp only); first | exact HQ.out _ HK2.out | exact HQ.out _ HK1.out
    clear hKq Kq
    try simp only [Act.put, List.setIfInBounds_toArray, List.set_cons_zero, List.set_cons_succ]
    refine wpAnyH_ready (rs := [3]) (by kernel_rfl) (by simp) ?_
    refine AllReadyH.cons (o := ⟨_, _, _, _, _, _⟩) rfl (fun Kq hKq => ?_) AllReadyH.nil
    go_simp
    clear hHeld
    (go_at_call 49; (with_reducible refine (HSeen.out _ _ HK1.out HO1.out).mono ?_); rintro e w' ⟨rfl, hb⟩; have HK2 := Lib.hid (below_after HK1.out hb (Nat.le_refl _)); clear hb)
    refine hKq.out _ _ ?_ (fun hHeld => ?_)
    · (try dsimp only); first | exact HQ.out _ HK2.out | exact HQ.out _ HK1.out
    clear hKq Kq
    try simp only [Act.put, List.setIfInBounds_toArray, List.set_cons_zero, List.set_cons_succ]
    (refine wpAnyH_take (i := 4) (oi := ⟨_, _, _, _, _, _⟩) (v := ?_) rfl (by kernel_rfl) (by kernel_rfl) (by kernel_rfl) (fun _ _ _ h => h) (Or.inl ⟨by rfl, ?_⟩) (by assumption) ?_; rotate_left 1; · (intro w hSw; (try dsimp only at hSw); go_simp; all_goals with_reducible rfl))
    try simp only [Act.put, List.setIfInBounds_toArray, List.set_cons_zero, List.set_cons_succ]
    refine wpAnyH_take (i := 5) (oi := ⟨_, _, _, _, _, _⟩) (v := undef) rfl (by kernel_rfl) (by kernel_rfl) (by kernel_rfl) (fun _ _ _ h => h) (Or.inr ⟨by kernel_rfl, rfl⟩) (by assumption) ?_
    try simp only [Act.put, List.setIfInBounds_toArray, List.set_cons_zero, List.set_cons_succ]
    refine wpAnyH_take (i := 6) (oi := ⟨_, _, _, _, _, _⟩) (v := undef) rfl (by kernel_rfl) (by kernel_rfl) (by kernel_rfl) (fun _ _ _ h => h) (Or.inr ⟨by kernel_rfl, rfl⟩) (by assumption) ?_
    try simp only [Act.put, List.setIfInBounds_toArray, List.set_cons_zero, List.set_cons_succ]
    refine wpAnyH_take (i := 7) (oi := ⟨_, _, _, _, _, _⟩) (v := undef) rfl (by kernel_rfl) (by kernel_rfl) (by kernel_rfl) (fun _ _ _ h => h) (Or.inr ⟨by kernel_rfl, rfl⟩) (by assumption) ?_
    try simp only [Act.put, List.setIfInBounds_toArray, List.set_cons_zero, List.set_cons_succ]
    refine wpAnyH_take (i := 8) (oi := ⟨_, _, _, _, _, _⟩) (v := undef) rfl (by kernel_rfl) (by kernel_rfl) (by kernel_rfl) (fun _ _ _ h => h) (Or.inr ⟨by kernel_rfl, rfl⟩) (by assumption) ?_
    try simp only [Act.put, List.setIfInBounds_toArray, List.set_cons_zero, List.set_cons_succ]
    refine wpAnyH_take (i := 9) (oi := ⟨_, _, _, _, _, _⟩) (v := undef) rfl (by kernel_rfl) (by kernel_rfl) (by kernel_rfl) (fun _ _ _ h => h) (Or.inr ⟨by kernel_rfl, rfl⟩) (by assumption) ?_
    try simp only [Act.put, List.setIfInBounds_toArray, List.set_cons_zero, List.set_cons_succ]
    refine wpAnyH_take (i := 10) (oi := ⟨_, _, _, _, _, _⟩) (v := undef) rfl (by kernel_rfl) (by kernel_rfl) (by kernel_rfl) (fun _ _ _ h => h) (Or.inr ⟨by kernel_rfl, rfl⟩) (by assumption) ?_
    try simp only [Act.put, List.setIfInBounds_toArray, List.set_cons_zero, List.set_cons_succ]
    (refine wpAnyH_take (i := 11) (oi := ⟨_, _, _, _, _, _⟩) (v := ?_) rfl (by kernel_rfl) (by kernel_rfl) (by kernel_rfl) (fun _ _ _ h => h) (Or.inl ⟨by rfl, ?_⟩) (by assumption) ?_; rotate_left 1; · (intro w hSw; (try dsimp only at hSw); go_simp; all_goals with_reducible rfl))
    try simp only [Act.put, List.setIfInBounds_toArray, List.set_cons_zero, List.set_cons_succ]
    (refine wpAnyH_take (i := 12) (oi := ⟨_, _, _, _, _, _⟩) (v := ?_) rfl (by kernel_rfl) (by kernel_rfl) (by kernel_rfl) (fun _ _ _ h => h) (Or.inl ⟨by rfl, ?_⟩) (by assumption) ?_; rotate_left 1; · (intro w hSw; (try dsimp only at hSw); go_simp; all_goals with_reducible rfl))
    try simp only [Act.put, List.setIfInBounds_toArray, List.set_cons_zero, List.set_cons_succ]
    refine wpAnyH_done (by kernel_rfl) ?_ _
    go_wp2_with fail
    go_ret
    exact ⟨ret_bool (by rw [HRes.out]; rfl), below_after B2.out HK2.out (Nat.le_refl _)⟩
  · rw [hs] at HSeen HRes
    clear hs
    go_region_held3 (fun w' => (w'.cell? ⟨g, 0, none⟩ = some (.slice a.1 a.2.1 a.2.2) ∧ w'.cell? ⟨g, 1, none⟩ = some (.slice b.1 b.2.1 b.2.2) ∧ w'.cell? ⟨g, 2, none⟩ = some (.slice c.1 c.2.1 c.2.2) ∧ w'.cell? ⟨g, 3, none⟩ = some (.slice d.1 d.2.1 d.2.2) ∧ w'.cell? ⟨g, 4, none⟩ = some (.slice e.1 e.2.1 e.2.2)) ∧ Hid (Below w2.heap.size w2 w'))
      (first | exact HQ.out _ (Below.refl _ _).drew | exact HQ.out _ HK4.out | exact HQ.out _ HK3.out | exact HQ.out _ HK2.out | exact HQ.out _ HK1.out)
      (first | (go_at_call 35; (with_reducible refine (HCho.out _ (by first | exact (Below.refl _ _).drew | exact HK1.out)).mono ?_); rintro e w' ⟨vv, rfl, ho, hb⟩; have HK1 := Lib.hid (below_after (by first | exact (Below.refl _ _).drew) hb (Nat.le_refl _)); have HO1 := Lib.hid (ids_of_owns ho); clear ho hb) | (go_at_call 49; (with_reducible refine (HSeen.out _ _ HK1.out HO1.out).mono ?_); rintro e w' ⟨rfl, hb⟩; have HK2 := Lib.hid (below_after HK1.out hb (Nat.le_refl _)); clear hb) | (go_at_call 20; (with_reducible refine (HNR.out _ HK2.out).mono ?_); rintro e w' ⟨vn, rfl, ho, hb⟩; have HK3 := Lib.hid (below_after HK2.out hb (Nat.le_refl _)); have HO3 := Lib.hid (ids_of_owns ho); have HA3 := Lib.hid ((HAw.out _ HK2.out).below hb); clear ho hb) | (go_at_call 45; (with_reducible refine (HBoth.out _ _ _ HA3.out HO3.out).mono ?_); rintro e w' ⟨vb, rfl, ho, hb⟩; have HK4 := Lib.hid (below_after HK3.out hb (Nat.le_refl _)); obtain ⟨Ab, nb, cb, hvb, hnb⟩ := owns_len ho; subst hvb; have HN4 := Lib.hid hnb; clear ho hb hnb))
    go_wp2_with fail
    go_ret
    exact ⟨ret_bool (by rw [HRes.out, ← HN4.out, int_beq_zero]; rfl), below_after B2.out HK4.out (Nat.le_refl _)⟩
set_option maxHeartbeats 8000000 in
theorem reaching_any (v : Value) (V : Vw) (w : World) (h : VAt w v V) (hV : FitA V) :
    Calls Tryd.prog 26 #[v] w fun e w' => e = .returned (.bool (Agr.reachB V.m V.r V.s)) ∧ Below w.heap.size w w' := by
  obtain ⟨a, b, c, d, e, rfl, hr⟩ := h
  have G1 := Lib.hid (agV_new hr)
  have BB := Lib.hid (below_one w (.cells #[.slice a.1 a.2.1 a.2.2, .slice b.1 b.2.1 b.2.2, .slice c.1 c.2.1 c.2.2, .slice d.1 d.2.1 d.2.2, .slice e.1 e.2.1 e.2.2] 29))
  have HV := Lib.hid hV
  clear hr hV
  obtain ⟨p0, p1, p2, p3, p4⟩ := vbox_cells G1.out.x
  go_enter Tryd.func26, Tryd.ntmps26
  go_upto_region 1 with fail
  generalize w.alloc (.cells #[.slice a.1 a.2.1 a.2.2, .slice b.1 b.2.1 b.2.2, .slice c.1 c.2.1 c.2.2, .slice d.1 d.2.1 d.2.2, .slice e.1 e.2.1 e.2.2] 29) = w1 at *
  obtain ⟨g, hg⟩ : ∃ g, g = w.heap.size := ⟨_, rfl⟩
  rw [← hg] at G1
  rw [← hg]
  clear hg p0 p1 p2 p3 p4
  have HQ := Lib.hid fun w' (hb : Below w1.heap.size w1 w') => (show (w'.cell? ⟨g, 0, none⟩ = some (.slice a.1 a.2.1 a.2.2) ∧ w'.cell? ⟨g, 1, none⟩ = some (.slice b.1 b.2.1 b.2.2) ∧ w'.cell? ⟨g, 2, none⟩ = some (.slice c.1 c.2.1 c.2.2) ∧ w'.cell? ⟨g, 3, none⟩ = some (.slice d.1 d.2.1 d.2.2) ∧ w'.cell? ⟨g, 4, none⟩ = some (.slice e.1 e.2.1 e.2.2)) ∧ Hid (Below w1.heap.size w1 w') from ⟨vbox_cells (G1.out.below hb).x, Lib.hid hb⟩)
  have HCho := Lib.hid fun W (hb : Below w1.heap.size w1 W) => agrChosen_any voter_asks _ V W (G1.out.below hb).at_ trivial (Nat.le_trans HV.out.m (by omega))
  have HNR := Lib.hid fun W (hb : Below w1.heap.size w1 W) => notReached_any _ V W (G1.out.below hb).at_ HV.out
  have HWo := Lib.hid fun v u W (hi : Ids W v (Agr.chosenL Agr.voterB V.m)) (hj : Ids W u (Agr.nr V.m V.r)) => without_new v u _ _ W hi hj (Nat.le_trans (Agr.chosen_len _ _) (Nat.le_trans HV.out.m (by omega))) (Nat.le_trans (Agr.nr_len _ _) (Nat.le_trans HV.out.m (by omega)))
  have HSeen := Lib.hid fun v W (hb : Below w1.heap.size w1 W) (hi : Ids W v (Sets.without (Agr.chosenL Agr.voterB V.m) (Agr.nr V.m V.r))) => seen_any _ v V _ W (G1.out.below hb).at_ hi HV.out (without_small (Nat.le_trans (Agr.chosen_len _ _) HV.out.m))
  have HRes : Hid (Agr.reachB V.m V.r V.s = Agr.seenB V.s (Sets.without (Agr.chosenL Agr.voterB V.m) (Agr.nr V.m V.r))) := Lib.hid rfl
  go_region_held3 (fun w' => (w'.cell? ⟨g, 0, none⟩ = some (.slice a.1 a.2.1 a.2.2) ∧ w'.cell? ⟨g, 1, none⟩ = some (.slice b.1 b.2.1 b.2.2) ∧ w'.cell? ⟨g, 2, none⟩ = some (.slice c.1 c.2.1 c.2.2) ∧ w'.cell? ⟨g, 3, none⟩ = some (.slice d.1 d.2.1 d.2.2) ∧ w'.cell? ⟨g, 4, none⟩ = some (.slice e.1 e.2.1 e.2.2)) ∧ Hid (Below w1.heap.size w1 w'))
    (first | exact HQ.out _ (Below.refl _ _).drew | exact HQ.out _ HK4.out | exact HQ.out _ HK3.out | exact HQ.out _ HK2.out | exact HQ.out _ HK1.out)
    (first | (go_at_call 35; (with_reducible refine (HCho.out _ (by first | exact (Below.refl _ _).drew | exact HK1.out)).mono ?_); rintro e w' ⟨vv, rfl, ho, hb⟩; have HK1 := Lib.hid (below_after (by first | exact (Below.refl _ _).drew) hb (Nat.le_refl _)); have HO1 := Lib.hid (ids_of_owns ho); clear ho hb) | (go_at_call 20; (with_reducible refine (HNR.out _ HK1.out).mono ?_); rintro e w' ⟨vn, rfl, ho, hb⟩; have HK2 := Lib.hid (below_after HK1.out hb (Nat.le_refl _)); have HO2 := Lib.hid (ids_of_owns ho); have HA2 := Lib.hid (HO1.out.below hb); clear ho hb) | (go_at_call 31; (with_reducible refine (HWo.out _ _ _ HA2.out HO2.out).mono ?_); rintro e w' ⟨vb, rfl, ho, hb⟩; have HK3 := Lib.hid (below_after HK2.out hb (Nat.le_refl _)); have HO3 := Lib.hid (ids_of_owns ho); clear ho hb) | (go_at_call 49; (with_reducible refine (HSeen.out _ _ HK3.out HO3.out).mono ?_); rintro e w' ⟨rfl, hb⟩; have HK4 := Lib.hid (below_after HK3.out hb (Nat.le_refl _)); clear hb))
  go_wp2_with fail
  go_ret
  exact ⟨ret_bool HRes.out.symm, below_after BB.out HK4.out (Nat.le_refl _)⟩
end Go.Proofs.YtloghkiabgnpnaaDoor
