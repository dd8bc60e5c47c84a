/-
  Carried over and put together: contracts of this program's functions, and plain facts. No statement is proved in this text.
-/
import Derived.Test.YtgphiggbajbmhaaGreatDoorOz
import Derived.Test.YtgphiggbajbmhaaGreatDoorE30
set_option maxRecDepth 20000
namespace Go.Proofs.YtgphiggbajbmhaaGreatDoor
open Go Go.RowKit
theorem owns_len {w : World} {base : Nat} {v : Value} {l : List Sets.Id2} (h : Owns w base v l) : ∃ A n c, v = .slice A n c ∧ n = l.length := by
 obtain ⟨A, c, hv, -⟩ := ids_of_owns h
 exact ⟨A, _, c, hv, rfl⟩
theorem int_beq_zero (n : Nat) : ((n : Int) == 0) = decide (n = 0) := by
 by_cases h : n = 0
 ·subst h; rfl
 ·rw [decide_eq_false h]; exact beq_eq_false_iff_ne.2 (by omega)
set_option maxHeartbeats 4000000 in
theorem seen_anyAGR (v u : Value) (V : Vw) (l : List Sets.Id2) (w : World) (h : VAt w v V) (hu : Ids w u l) (hV : FitA V) (hl : l.length ≤ 1000) :
  Calls Tryz.prog 142 #[v, u] w fun e w' => e = .returned (.bool (Agr.seenB V.s l)) ∧ Below w.heap.size w w' := by
 obtain ⟨a, b, c, d, e, rfl, hr⟩ := h
 have G1 := Lib.hid (agV_new hr)
 have BB := Lib.hid (below_one w (.cells #[.slice a.1 a.2.1 a.2.2, .slice b.1 b.2.1 b.2.2, .slice c.1 c.2.1 c.2.2, .slice d.1 d.2.1 d.2.2, .slice e.1 e.2.1 e.2.2] 27))
 have HV := Lib.hid hV
 have I1 := Lib.hid (hu.below BB.out)
 obtain ⟨A, n, hv, hn⟩ : ∃ A n, u = .slice A l.length n ∧ l.length = l.length := by
  obtain ⟨A, n, hv, -⟩ := hu
  exact ⟨A, n, hv, rfl⟩
 subst hv
 clear hr hV hu hn
 obtain ⟨p0, p1, p2, p3, p4⟩ := vbox_cells G1.out.x
 by_cases h0 : 0 < l.length
 ·have hd : decide (0 < l.length) = true := decide_eq_true h0
  have HW := Lib.hid (without_new (.slice A l.length n) (.slice e.1 e.2.1 e.2.2) l V.s _ I1.out G1.out.r.s (by omega) (by have := HV.out.s; omega))
  have HR := Lib.hid (show decide ((Sets.without l V.s).length = 0) = Agr.seenB V.s l by unfold Agr.seenB; rw [hd]; rfl)
  clear h0
  go_enter Tryz.func142, Tryz.ntmps142
  go_wp2_with fail
  (with_reducible refine HW.out.mono ?_)
  rintro e2 w2 ⟨v2, rfl, ho, hb⟩
  have B2 := Lib.hid (below_after BB.out hb (Nat.le_refl _))
  obtain ⟨A2, n2, c2, rfl, hn2⟩ := owns_len ho
  rw [← hn2] at HR
  clear ho hb hn2 p0 p1 p2 p3 p4 HW
  by_cases h2 : n2 = 0
  ·subst h2
   go_wp2_with fail
   go_ret
   exact ⟨ret_bool (by rw [← HR.out]; rfl), B2.out⟩
  ·have h3 : (n2 == 0) = false := by simpa using h2
   have HR2 := Lib.hid (show false = Agr.seenB V.s l by rw [← HR.out]; exact (decide_eq_false h2).symm)
   have h4 : ((n2 : Int) == 0) = false := beq_eq_false_iff_ne.2 (by omega)
   go_wp2_with fail
   go_ret
   exact ⟨ret_bool HR2.out, B2.out⟩
 ·have hd : decide (0 < l.length) = false := decide_eq_false h0
  have HR := Lib.hid (show false = Agr.seenB V.s l by unfold Agr.seenB; rw [hd]; rfl)
  clear h0
  go_enter Tryz.func142, Tryz.ntmps142
  go_wp2_with fail
  go_ret
  exact ⟨ret_bool HR.out, BB.out⟩
set_option maxHeartbeats 8000000 in
theorem all_any (v : Value) (V : Vw) (w : World) (h : VAt w v V) (hV : FitA V) :
  Calls Tryz.prog 95 #[v] w fun e w' => e = .returned (.bool (Agr.allB V.m V.r V.s)) ∧ Below w.heap.size w w' := by
 obtain ⟨a, b, c, d, e, rfl, hr⟩ := h
 have G1 := Lib.hid (agV_new hr)
 have BB := Lib.hid (below_one w (.cells #[.slice a.1 a.2.1 a.2.2, .slice b.1 b.2.1 b.2.2, .slice c.1 c.2.1 c.2.2, .slice d.1 d.2.1 d.2.2, .slice e.1 e.2.1 e.2.2] 27))
 have HV := Lib.hid hV
 clear hr hV
 obtain ⟨p0, p1, p2, p3, p4⟩ := vbox_cells G1.out.x
 go_enter Tryz.func95, Tryz.ntmps95
 go_wp2_with fail
 generalize w.alloc (.cells #[.slice a.1 a.2.1 a.2.2, .slice b.1 b.2.1 b.2.2, .slice c.1 c.2.1 c.2.2, .slice d.1 d.2.1 d.2.2, .slice e.1 e.2.1 e.2.2] 27) = w1 at *
 obtain ⟨g, hg⟩ : ∃ g, g = w.heap.size := ⟨_, rfl⟩
 rw [← hg] at G1
 rw [← hg]
 clear hg p0 p1 p2 p3 p4
 (with_reducible refine (agrChosen_any await_asks _ V w1 G1.out.at_ trivial HV.out.m).mono ?_)
 rintro e2 w2 ⟨v1, rfl, ho, hb⟩
 have G2 := Lib.hid (G1.out.below hb)
 have B2 := Lib.hid (below_after BB.out hb (Nat.le_refl _))
 have I2 := Lib.hid (ids_of_owns ho)
 clear ho hb BB
 go_upto_region 2 with fail
 clear G1
 have G1 := G2
 have HQ := Lib.hid fun w' (hb : Below w2.heap.size w2 w') => (show (w'.cell? ⟨g, 0, none⟩ = some (.slice a.1 a.2.1 a.2.2) ∧ w'.cell? ⟨g, 1, none⟩ = some (.slice b.1 b.2.1 b.2.2) ∧ w'.cell? ⟨g, 2, none⟩ = some (.slice c.1 c.2.1 c.2.2) ∧ w'.cell? ⟨g, 3, none⟩ = some (.slice d.1 d.2.1 d.2.2) ∧ w'.cell? ⟨g, 4, none⟩ = some (.slice e.1 e.2.1 e.2.2)) ∧ Hid (Below w2.heap.size w2 w') from ⟨vbox_cells (G1.out.below hb).x, Lib.hid hb⟩)
 have HAw := Lib.hid fun W (hb : Below w2.heap.size w2 W) => I2.out.below hb
 have HCho := Lib.hid fun W (hb : Below w2.heap.size w2 W) => agrChosen_any voter_asks _ V W (G1.out.below hb).at_ trivial HV.out.m
 have HSeen := Lib.hid fun v W (hb : Below w2.heap.size w2 W) (hi : Ids W v (Agr.chosenL Agr.voterB V.m)) => seen_anyAGR _ v V (Agr.chosenL Agr.voterB V.m) W (G1.out.below hb).at_ hi HV.out (Nat.le_trans (Agr.chosen_len _ _) (Nat.le_trans (Nat.le_of_lt HV.out.m) (by decide)))
 have HNR := Lib.hid fun W (hb : Below w2.heap.size w2 W) => notReached_any _ V W (G1.out.below hb).at_ HV.out
 have HBoth := Lib.hid fun v u W (hi : Ids W v (Agr.chosenL Agr.awaitB V.m)) (hj : Ids W u (Agr.nr V.m V.r)) => both_new v u _ _ W hi hj (Nat.le_trans (Agr.chosen_len _ _) (Nat.le_trans (Nat.le_of_lt HV.out.m) (by decide))) (Nat.le_trans (Agr.nr_len _ _) (Nat.le_trans (Nat.le_of_lt HV.out.m) (by decide)))
 have HRes : Hid (Agr.allB V.m V.r V.s = (Agr.seenB V.s (Agr.chosenL Agr.voterB V.m) && decide ((Sets.both (Agr.chosenL Agr.awaitB V.m) (Agr.nr V.m V.r)).length = 0))) := Lib.hid rfl
 rcases hs : Agr.seenB V.s (Agr.chosenL Agr.voterB V.m) with _ | _
 ·rw [hs] at HSeen HRes
  clear hs
  refine wp_region_held_drew (S := fun w' => (w'.cell? ⟨g, 0, none⟩ = some (.slice a.1 a.2.1 a.2.2) ∧ w'.cell? ⟨g, 1, none⟩ = some (.slice b.1 b.2.1 b.2.2) ∧ w'.cell? ⟨g, 2, none⟩ = some (.slice c.1 c.2.1 c.2.2) ∧ w'.cell? ⟨g, 3, none⟩ = some (.slice d.1 d.2.1 d.2.2) ∧ w'.cell? ⟨g, 4, none⟩ = some (.slice e.1 e.2.1 e.2.2)) ∧ Hid (Below w2.heap.size w2 w')) (by kernel_rfl) ?_ (fun hHeld => ?_)
  ·exact HQ.out _ (Below.refl _ _).drew
  (refine tk_ (i := 0) (oi := ⟨_, _, _, _, _, _⟩) (v := ?_) rfl (Or.inl ⟨by rfl, ?_⟩) ?_; rotate_left 1; · (intro w hSw; (try dsimp only at hSw); go_simp; all_goals with_reducible rfl))
  try simp only [Act.put, si0, si1, si2]
  (refine tk_ (i := 1) (oi := ⟨_, _, _, _, _, _⟩) (v := ?_) rfl (Or.inl ⟨by rfl, ?_⟩) ?_; rotate_left 1; · (intro w hSw; (try dsimp only at hSw); go_simp; all_goals with_reducible rfl))
  try simp only [Act.put, si0, si1, si2]
  refine wpAnyH_ready (rs := [2]) (by kernel_rfl) (by simp) ?_
  refine AllReadyH.cons (o := ⟨_, _, _, _, _, _⟩) rfl (fun Kq hKq => ?_) AllReadyH.nil
  go_simp
  clear hHeld
  (go_at_call 90; (with_reducible refine (HCho.out _ (by first | exact (Below.refl _ _).drew | exact HK1.out)).mono ?_); rintro e w' ⟨vv, rfl, ho, hb⟩; have HK1 := Lib.hid (below_after (by first | exact (Below.refl _ _).drew) hb (Nat.le_refl _)); have HO1 := Lib.hid (ids_of_owns ho); clear ho hb)
  refine hKq.out _ _ ?_ (fun hHeld => ?_)
  ·(try dsimp only); first | exact HQ.out _ HK2.out | exact HQ.out _ HK1.out
  clear hKq Kq
  try simp only [Act.put, si0, si1, si2]
  refine wpAnyH_ready (rs := [3]) (by kernel_rfl) (by simp) ?_
  refine AllReadyH.cons (o := ⟨_, _, _, _, _, _⟩) rfl (fun Kq hKq => ?_) AllReadyH.nil
  go_simp
  clear hHeld
  (go_at_call 142; (with_reducible refine (HSeen.out _ _ HK1.out HO1.out).mono ?_); rintro e w' ⟨rfl, hb⟩; have HK2 := Lib.hid (below_after HK1.out hb (Nat.le_refl _)); clear hb)
  refine hKq.out _ _ ?_ (fun hHeld => ?_)
  ·(try dsimp only); first | exact HQ.out _ HK2.out | exact HQ.out _ HK1.out
  clear hKq Kq
  try simp only [Act.put, si0, si1, si2]
  (refine tk_ (i := 4) (oi := ⟨_, _, _, _, _, _⟩) (v := ?_) rfl (Or.inl ⟨by rfl, ?_⟩) ?_; rotate_left 1; · (intro w hSw; (try dsimp only at hSw); go_simp; all_goals with_reducible rfl))
  try simp only [Act.put, si0, si1, si2]
  refine tk_ (i := 5) (oi := ⟨_, _, _, _, _, _⟩) (v := undef) rfl (Or.inr ⟨by kernel_rfl, rfl⟩) ?_
  try simp only [Act.put, si0, si1, si2]
  refine tk_ (i := 6) (oi := ⟨_, _, _, _, _, _⟩) (v := undef) rfl (Or.inr ⟨by kernel_rfl, rfl⟩) ?_
  try simp only [Act.put, si0, si1, si2]
  refine tk_ (i := 7) (oi := ⟨_, _, _, _, _, _⟩) (v := undef) rfl (Or.inr ⟨by kernel_rfl, rfl⟩) ?_
  try simp only [Act.put, si0, si1, si2]
  refine tk_ (i := 8) (oi := ⟨_, _, _, _, _, _⟩) (v := undef) rfl (Or.inr ⟨by kernel_rfl, rfl⟩) ?_
  try simp only [Act.put, si0, si1, si2]
  refine tk_ (i := 9) (oi := ⟨_, _, _, _, _, _⟩) (v := undef) rfl (Or.inr ⟨by kernel_rfl, rfl⟩) ?_
  try simp only [Act.put, si0, si1, si2]
  refine tk_ (i := 10) (oi := ⟨_, _, _, _, _, _⟩) (v := undef) rfl (Or.inr ⟨by kernel_rfl, rfl⟩) ?_
  try simp only [Act.put, si0, si1, si2]
  (refine tk_ (i := 11) (oi := ⟨_, _, _, _, _, _⟩) (v := ?_) rfl (Or.inl ⟨by rfl, ?_⟩) ?_; rotate_left 1; · (intro w hSw; (try dsimp only at hSw); go_simp; all_goals with_reducible rfl))
  try simp only [Act.put, si0, si1, si2]
  (refine tk_ (i := 12) (oi := ⟨_, _, _, _, _, _⟩) (v := ?_) rfl (Or.inl ⟨by rfl, ?_⟩) ?_; rotate_left 1; · (intro w hSw; (try dsimp only at hSw); go_simp; all_goals with_reducible rfl))
  try simp only [Act.put, si0, si1, si2]
  refine wpAnyH_done (by kernel_rfl) ?_ _
  go_wp2_with fail
  go_ret
  exact ⟨ret_bool (by rw [HRes.out]; rfl), below_after B2.out HK2.out (Nat.le_refl _)⟩
 ·rw [hs] at HSeen HRes
  clear hs
  go_region_held3 (fun w' => (w'.cell? ⟨g, 0, none⟩ = some (.slice a.1 a.2.1 a.2.2) ∧ w'.cell? ⟨g, 1, none⟩ = some (.slice b.1 b.2.1 b.2.2) ∧ w'.cell? ⟨g, 2, none⟩ = some (.slice c.1 c.2.1 c.2.2) ∧ w'.cell? ⟨g, 3, none⟩ = some (.slice d.1 d.2.1 d.2.2) ∧ w'.cell? ⟨g, 4, none⟩ = some (.slice e.1 e.2.1 e.2.2)) ∧ Hid (Below w2.heap.size w2 w'))
   (first | exact HQ.out _ (Below.refl _ _).drew | exact HQ.out _ HK4.out | exact HQ.out _ HK3.out | exact HQ.out _ HK2.out | exact HQ.out _ HK1.out)
   (first | (go_at_call 90; (with_reducible refine (HCho.out _ (by first | exact (Below.refl _ _).drew | exact HK1.out)).mono ?_); rintro e w' ⟨vv, rfl, ho, hb⟩; have HK1 := Lib.hid (below_after (by first | exact (Below.refl _ _).drew) hb (Nat.le_refl _)); have HO1 := Lib.hid (ids_of_owns ho); clear ho hb) | (go_at_call 142; (with_reducible refine (HSeen.out _ _ HK1.out HO1.out).mono ?_); rintro e w' ⟨rfl, hb⟩; have HK2 := Lib.hid (below_after HK1.out hb (Nat.le_refl _)); clear hb) | (go_at_call 89; (with_reducible refine (HNR.out _ HK2.out).mono ?_); rintro e w' ⟨vn, rfl, ho, hb⟩; have HK3 := Lib.hid (below_after HK2.out hb (Nat.le_refl _)); have HO3 := Lib.hid (ids_of_owns ho); have HA3 := Lib.hid ((HAw.out _ HK2.out).below hb); clear ho hb) | (go_at_call 137; (with_reducible refine (HBoth.out _ _ _ HA3.out HO3.out).mono ?_); rintro e w' ⟨vb, rfl, ho, hb⟩; have HK4 := Lib.hid (below_after HK3.out hb (Nat.le_refl _)); obtain ⟨Ab, nb, cb, hvb, hnb⟩ := owns_len ho; subst hvb; have HN4 := Lib.hid hnb; clear ho hb hnb))
  go_wp2_with fail
  go_ret
  exact ⟨ret_bool (by rw [HRes.out, ← HN4.out, int_beq_zero]; rfl), below_after B2.out HK4.out (Nat.le_refl _)⟩
end Go.Proofs.YtgphiggbajbmhaaGreatDoor
namespace Go.Proofs.YtgphiggbajbmhaaGreatDoor
open Go Go.RowKit
def Tabs (w : World) : Prop := (w.cell? ⟨0, 0, none⟩ = some (.int .u8 3) ∧ w.cell? ⟨0, 1, none⟩ = some (.int .u8 4) ∧ w.cell? ⟨0, 2, none⟩ = some (.int .u8 2) ∧ w.cell? ⟨0, 3, none⟩ = some (.int .u8 2) ∧ w.cell? ⟨0, 4, none⟩ = some (.int .u8 1) ∧ w.cell? ⟨0, 5, none⟩ = some (.int .u8 1)) ∧ 0 < w.heap.size
theorem Tabs.below {w w' : World} (h : Tabs w) (hb : Below w.heap.size w w') : Tabs w' := by
 obtain ⟨⟨h0, h1, h2, h3, h4, h5⟩, hs⟩ := h
 exact ⟨⟨(hb.cell hs).trans h0, (hb.cell hs).trans h1, (hb.cell hs).trans h2, (hb.cell hs).trans h3, (hb.cell hs).trans h4, (hb.cell hs).trans h5⟩, Nat.lt_of_lt_of_le hs hb.size⟩
def leadV (o : Option Sets.Id2) : Value := .tuple #[.agg #[.int .i64 (o.getD (0, 0)).1, .int .i64 (o.getD (0, 0)).2], .bool o.isSome]
theorem owns_head {w : World} {base g n c : Nat} {x y : Int} {t : List Sets.Id2} (h : Owns w base (.slice (some ⟨g, 0, none⟩) n c) ((x, y) :: t)) : w.cell? ⟨g, 0, none⟩ = some (.int .i64 x) ∧ w.cell? ⟨g, 1, none⟩ = some (.int .i64 y) := by
 have h1 := flat_at ((x, y) :: t) 0 (by simp)
 exact ⟨World.ownsRow.cells h (g := g) rfl 0 _ h1.1, World.ownsRow.cells h (g := g) rfl 1 _ h1.2⟩
def rkA (k : Nat) : Int := if k = 0 then 3 else if k = 1 then 2 else 1
def rkZ (k : Nat) : Int := if k = 0 then 4 else if k = 1 then 2 else 1
def Nobody (m : List Agr.Mm) (rs : List Agr.Row) (k : Nat) : Prop := ∀ j, j < k → Agr.ofRank m rs (rkA j) (rkZ j) = []
theorem nobody_next {m : List Agr.Mm} {rs : List Agr.Row} {k : Nat} (h : Nobody m rs k) (e : Agr.ofRank m rs (rkA k) (rkZ k) = []) : Nobody m rs (k + 1) := by
 intro j hj
 by_cases c : j = k
 ·subst c; exact e
 ·exact h j (by omega)
theorem nobody_lead {m : List Agr.Mm} {rs : List Agr.Row} {k : Nat} (hk : k < 3) (h : Nobody m rs k) {y : Sets.Id2} {t : List Sets.Id2} (e : Agr.ofRank m rs (rkA k) (rkZ k) = y :: t) : Agr.leadO m rs = some y := by
 unfold Agr.leadO
 match k, hk with
 | 0, _ =>
  change Agr.ofRank m rs 3 4 = _ at e
  rw [e]
 | 1, _ =>
  have h0 : Agr.ofRank m rs 3 4 = [] := h 0 (by omega)
  change Agr.ofRank m rs 2 2 = _ at e
  rw [h0, e]
 | 2, _ =>
  have h0 : Agr.ofRank m rs 3 4 = [] := h 0 (by omega)
  have h1 : Agr.ofRank m rs 2 2 = [] := h 1 (by omega)
  change Agr.ofRank m rs 1 1 = _ at e
  rw [h0, h1, e]
theorem nobody_none {m : List Agr.Mm} {rs : List Agr.Row} (h : Nobody m rs 3) : Agr.leadO m rs = none := by
 have h0 : Agr.ofRank m rs 3 4 = [] := h 0 (by omega)
 have h1 : Agr.ofRank m rs 2 2 = [] := h 1 (by omega)
 have h2 : Agr.ofRank m rs 1 1 = [] := h 2 (by omega)
 unfold Agr.leadO
 rw [h0, h1, h2]
theorem two_cases (k : Nat) : k = 0 ∨ k = 1 ∨ k = 2 ∨ 3 ≤ k := by omega
set_option maxHeartbeats 8000000 in
theorem leader_any (v : Value) (V : Vw) (w : World) (h : VAt w v V) (hV : FitA V) (ht : Tabs w) :
  Calls Tryz.prog 58 #[v] w fun e w' => e = .returned (leadV (Agr.leadO V.m V.r)) ∧ Below w.heap.size w w' := by
 obtain ⟨a, b, c, d, e, rfl, hr⟩ := h
 have q1 := below_one w (.cells #[.slice a.1 a.2.1 a.2.2, .slice b.1 b.2.1 b.2.2, .slice c.1 c.2.1 c.2.2, .slice d.1 d.2.1 d.2.2, .slice e.1 e.2.1 e.2.2] 27)
 have q2 := below_one (w.alloc (.cells #[.slice a.1 a.2.1 a.2.2, .slice b.1 b.2.1 b.2.2, .slice c.1 c.2.1 c.2.2, .slice d.1 d.2.1 d.2.2, .slice e.1 e.2.1 e.2.2] 27)) (.cells #[.int .i64 0, .int .i64 0] 32)
 have G1 := Lib.hid ((agV_new hr).below q2)
 have X1 := Lib.hid (box_new (w.alloc (.cells #[.slice a.1 a.2.1 a.2.2, .slice b.1 b.2.1 b.2.2, .slice c.1 c.2.1 c.2.2, .slice d.1 d.2.1 d.2.2, .slice e.1 e.2.1 e.2.2] 27)) 0 0)
 have BB := Lib.hid (below_after q1 q2 (Nat.le_refl _))
 have T1 := Lib.hid ((ht.below q1).below q2)
 have HV := Lib.hid hV
 have HZ := Lib.hid (show (w.alloc (.cells #[.slice a.1 a.2.1 a.2.2, .slice b.1 b.2.1 b.2.2, .slice c.1 c.2.1 c.2.2, .slice d.1 d.2.1 d.2.2, .slice e.1 e.2.1 e.2.2] 27)).heap.size = w.heap.size + 1 by simp)
 clear hr hV q1 q2 ht
 rw [HZ.out] at X1
 obtain ⟨p0, p1, p2, p3, p4⟩ := vbox_cells G1.out.x
 go_enter Tryz.func58, Tryz.ntmps58
 go_wp2_with fail
 generalize (w.alloc (.cells #[.slice a.1 a.2.1 a.2.2, .slice b.1 b.2.1 b.2.2, .slice c.1 c.2.1 c.2.2, .slice d.1 d.2.1 d.2.2, .slice e.1 e.2.1 e.2.2] 27)).alloc (.cells #[.int .i64 0, .int .i64 0] 32) = w1 at *
 obtain ⟨g, hg⟩ : ∃ g, g = w.heap.size := ⟨_, rfl⟩
 obtain ⟨gi, hgi⟩ : ∃ g, g = w.heap.size + 1 := ⟨_, rfl⟩
 rw [← hg] at G1
 rw [← hgi] at X1
 rw [← hgi, ← hg]
 have hgi2 : w.heap.size ≤ gi := by omega
 clear HZ p0 p1 p2 p3 p4 hg hgi
 (with_reducible refine (notReached_any _ V w1 G1.out.at_ HV.out).mono ?_)
 rintro e2 w2 ⟨vn, rfl, ho, hb⟩
 have G2 := Lib.hid (G1.out.below hb)
 have X2 := Lib.hid (box_below X1.out hb)
 have T2 := Lib.hid (T1.out.below hb)
 have B2 := Lib.hid (below_after BB.out hb (Nat.le_refl _))
 have N2 := Lib.hid (ids_of_owns ho)
 clear ho hb G1 X1 T1 BB
 obtain ⟨⟨t0, t1, t2, t3, t4, t5⟩, -⟩ := T2.out
 go_wp2_with fail
 clear t0 t1 t2 t3 t4 t5
 go_loopw [12] (fun s12 wr => ∃ k : Nat, s12 = .int .i64 k ∧ k ≤ 3 ∧ Hid (Nobody V.m V.r k) ∧ Hid (Below w2.heap.size w2 wr)) (fun s12 _ => 3 - (intOf s12).toNat)
 case atStart => exact ⟨0, rfl, by omega, Lib.hid (fun j hj => by omega), Lib.hid (Below.refl _ _)⟩
 case round =>
  obtain ⟨k, rfl, hk, HN, HB⟩ := hrel
  have G3 := Lib.hid (G2.out.below HB.out)
  have X3 := Lib.hid (box_below X2.out HB.out)
  have N3 := Lib.hid (N2.out.below HB.out)
  have B3 := Lib.hid (below_after B2.out HB.out (Nat.le_refl _))
  have HAll : Hid (∀ (A Z : Int), Below wr.heap.size wr (wr.alloc (.cells #[.int .u8 A, .int .u8 Z] 118)) ∧ RBox (wr.alloc (.cells #[.int .u8 A, .int .u8 Z] 118)) wr.heap.size A Z) := Lib.hid fun A Z => ⟨below_one _ _, heap_alloc_new wr _⟩
  have HFin : Hid (∀ (n : Nat) (y : Sets.Id2) (t : List Sets.Id2), n < 3 → Nobody V.m V.r n → Agr.ofRank V.m V.r (rkA n) (rkZ n) = y :: t → leadV (some y) = leadV (Agr.leadO V.m V.r)) := Lib.hid fun n y t hn h1 h2 => by rw [nobody_lead hn h1 h2]
  rcases two_cases k with rfl | rfl | rfl | h3
  case inr.inr.inr =>
   obtain rfl : k = 3 := by omega
   have HL := Lib.hid (nobody_none HN.out)
   obtain ⟨f1, f2⟩ := box_free X3.out
   obtain ⟨x1, x2⟩ := box_cells X3.out
   go_wp2_with fail
   have X9 := box_set X3.out 0 0
   obtain ⟨q0, q1⟩ := box_cells X9
   refine bodyPost_ret (v := leadV none) (by simp [results, Tryz.results58, go_sem, q0, q1, leadV]) rfl ?_
   exact ⟨by rw [HL.out], below_setCells B3.out hgi2 0 [_, _]⟩
  case inl =>
   obtain ⟨hq1, hq2⟩ := HAll.out 3 4
   have G4 := Lib.hid (G3.out.below hq1)
   have X4 := Lib.hid (box_below X3.out hq1)
   have N4 := Lib.hid (N3.out.below hq1)
   have B4 := Lib.hid (below_after B3.out hq1 (Nat.le_refl _))
   have Z4 := Lib.hid (below_after HB.out hq1 (Nat.le_refl _))
   have R4 := Lib.hid hq2
   clear hq1 hq2 G3 X3 N3 B3 HB HAll
   obtain ⟨p0, p1, p2, p3, p4⟩ := vbox_cells G4.out.x
   have hix : ∀ W, Sem.run Tryz.prog (Instr.index 119 (.agg #[.int .u8 3, .int .u8 4, .int .u8 2, .int .u8 2, .int .u8 1, .int .u8 1]) (.int .i64 0)) W = .ok (.agg #[.int .u8 3, .int .u8 4]) W := fun W => by kernel_rfl
   go_wp2_with fail
   clear hix
   obtain ⟨X, hX⟩ : ∃ X, X = wr.heap.size := ⟨_, rfl⟩
   rw [← hX] at R4
   rw [← hX]
   generalize wr.alloc (.cells #[.int .u8 3, .int .u8 4] 118) = w4 at *
   clear p0 p1 p2 p3 p4 hX
   (with_reducible refine (agrChosen_any (rank_asks X 3 4) _ V w4 G4.out.at_ R4.out HV.out.m).mono ?_)
   rintro e5 w5 ⟨v5, rfl, ho, hb⟩
   have I5 := Lib.hid (ids_of_owns ho)
   have N5 := Lib.hid (N4.out.below hb)
   have X5 := Lib.hid (box_below X4.out hb)
   have B5 := Lib.hid (below_after B4.out hb (Nat.le_refl _))
   have Z5 := Lib.hid (below_after Z4.out hb (Nat.le_refl _))
   clear ho hb G4 X4 N4 B4 Z4 R4
   go_wp2_with fail
   (with_reducible refine (without_new _ _ _ _ w5 I5.out N5.out (Nat.le_trans (Agr.chosen_len _ _) (Nat.le_trans (Nat.le_of_lt HV.out.m) (by decide))) (Nat.le_trans (Agr.nr_len _ _) (Nat.le_trans (Nat.le_of_lt HV.out.m) (by decide)))).mono ?_)
   rintro e6 w6 ⟨v6, rfl, ho, hb⟩
   have X6 := Lib.hid (box_below X5.out hb)
   have B6 := Lib.hid (below_after B5.out hb (Nat.le_refl _))
   have Z6 := Lib.hid (below_after Z5.out hb (Nat.le_refl _))
   have HO : Hid (Owns w6 w5.heap.size v6 (Agr.ofRank V.m V.r (rkA 0) (rkZ 0))) := Lib.hid ho
   clear ho hb X5 B5 Z5 I5 N5
   rcases hof : Agr.ofRank V.m V.r (rkA 0) (rkZ 0) with _ | ⟨⟨y1, y2⟩, t⟩
   ·have HN2 := Lib.hid (nobody_next HN.out hof)
    rw [hof] at HO
    obtain ⟨A, n, c', rfl, hn⟩ := owns_len HO.out
    obtain rfl : n = 0 := by simpa using hn
    clear hof hn HO
    go_wp2_with fail
    go_roundw
    case rel => exact ⟨1, rfl, by omega, HN2, Z6⟩
    case measure => simp [intOf]
   ·have HL := Lib.hid (HFin.out 0 (y1, y2) t (by omega) HN.out hof)
    rw [hof] at HO
    rcases owns_split HO.out with ⟨-, hn⟩ | ⟨gg, cap, rfl, -, -⟩
    ·simp at hn
    obtain ⟨o0, o1⟩ := owns_head HO.out
    have hd : decide (0 < t.length + 1) = true := by simp
    have hd2 : (0 : Int) < (t.length : Int) + 1 := by omega
    obtain ⟨f1, f2⟩ := box_free X6.out
    obtain ⟨x1, x2⟩ := box_cells X6.out
    clear hof HO
    go_wp2_with fail
    have X9 := box_set X6.out y1 y2
    obtain ⟨q0, q1⟩ := box_cells X9
    refine bodyPost_ret (v := leadV (some (y1, y2))) (by simp [results, Tryz.results58, go_sem, q0, q1, leadV]) rfl ?_
    exact ⟨by rw [HL.out], below_setCells B6.out hgi2 0 [_, _]⟩
  case inr.inl =>
   obtain ⟨hq1, hq2⟩ := HAll.out 2 2
   have G4 := Lib.hid (G3.out.below hq1)
   have X4 := Lib.hid (box_below X3.out hq1)
   have N4 := Lib.hid (N3.out.below hq1)
   have B4 := Lib.hid (below_after B3.out hq1 (Nat.le_refl _))
   have Z4 := Lib.hid (below_after HB.out hq1 (Nat.le_refl _))
   have R4 := Lib.hid hq2
   clear hq1 hq2 G3 X3 N3 B3 HB HAll
   obtain ⟨p0, p1, p2, p3, p4⟩ := vbox_cells G4.out.x
   have hix : ∀ W, Sem.run Tryz.prog (Instr.index 119 (.agg #[.int .u8 3, .int .u8 4, .int .u8 2, .int .u8 2, .int .u8 1, .int .u8 1]) (.int .i64 1)) W = .ok (.agg #[.int .u8 2, .int .u8 2]) W := fun W => by kernel_rfl
   go_wp2_with fail
   clear hix
   obtain ⟨X, hX⟩ : ∃ X, X = wr.heap.size := ⟨_, rfl⟩
   rw [← hX] at R4
   rw [← hX]
   generalize wr.alloc (.cells #[.int .u8 2, .int .u8 2] 118) = w4 at *
   clear p0 p1 p2 p3 p4 hX
   (with_reducible refine (agrChosen_any (rank_asks X 2 2) _ V w4 G4.out.at_ R4.out HV.out.m).mono ?_)
   rintro e5 w5 ⟨v5, rfl, ho, hb⟩
   have I5 := Lib.hid (ids_of_owns ho)
   have N5 := Lib.hid (N4.out.below hb)
   have X5 := Lib.hid (box_below X4.out hb)
   have B5 := Lib.hid (below_after B4.out hb (Nat.le_refl _))
   have Z5 := Lib.hid (below_after Z4.out hb (Nat.le_refl _))
   clear ho hb G4 X4 N4 B4 Z4 R4
   go_wp2_with fail
   (with_reducible refine (without_new _ _ _ _ w5 I5.out N5.out (Nat.le_trans (Agr.chosen_len _ _) (Nat.le_trans (Nat.le_of_lt HV.out.m) (by decide))) (Nat.le_trans (Agr.nr_len _ _) (Nat.le_trans (Nat.le_of_lt HV.out.m) (by decide)))).mono ?_)
   rintro e6 w6 ⟨v6, rfl, ho, hb⟩
   have X6 := Lib.hid (box_below X5.out hb)
   have B6 := Lib.hid (below_after B5.out hb (Nat.le_refl _))
   have Z6 := Lib.hid (below_after Z5.out hb (Nat.le_refl _))
   have HO : Hid (Owns w6 w5.heap.size v6 (Agr.ofRank V.m V.r (rkA 1) (rkZ 1))) := Lib.hid ho
   clear ho hb X5 B5 Z5 I5 N5
   rcases hof : Agr.ofRank V.m V.r (rkA 1) (rkZ 1) with _ | ⟨⟨y1, y2⟩, t⟩
   ·have HN2 := Lib.hid (nobody_next HN.out hof)
    rw [hof] at HO
    obtain ⟨A, n, c', rfl, hn⟩ := owns_len HO.out
    obtain rfl : n = 0 := by simpa using hn
    clear hof hn HO
    go_wp2_with fail
    go_roundw
    case rel => exact ⟨2, rfl, by omega, HN2, Z6⟩
    case measure => simp [intOf]
   ·have HL := Lib.hid (HFin.out 1 (y1, y2) t (by omega) HN.out hof)
    rw [hof] at HO
    rcases owns_split HO.out with ⟨-, hn⟩ | ⟨gg, cap, rfl, -, -⟩
    ·simp at hn
    obtain ⟨o0, o1⟩ := owns_head HO.out
    have hd : decide (0 < t.length + 1) = true := by simp
    have hd2 : (0 : Int) < (t.length : Int) + 1 := by omega
    obtain ⟨f1, f2⟩ := box_free X6.out
    obtain ⟨x1, x2⟩ := box_cells X6.out
    clear hof HO
    go_wp2_with fail
    have X9 := box_set X6.out y1 y2
    obtain ⟨q0, q1⟩ := box_cells X9
    refine bodyPost_ret (v := leadV (some (y1, y2))) (by simp [results, Tryz.results58, go_sem, q0, q1, leadV]) rfl ?_
    exact ⟨by rw [HL.out], below_setCells B6.out hgi2 0 [_, _]⟩
  case inr.inr.inl =>
   obtain ⟨hq1, hq2⟩ := HAll.out 1 1
   have G4 := Lib.hid (G3.out.below hq1)
   have X4 := Lib.hid (box_below X3.out hq1)
   have N4 := Lib.hid (N3.out.below hq1)
   have B4 := Lib.hid (below_after B3.out hq1 (Nat.le_refl _))
   have Z4 := Lib.hid (below_after HB.out hq1 (Nat.le_refl _))
   have R4 := Lib.hid hq2
   clear hq1 hq2 G3 X3 N3 B3 HB HAll
   obtain ⟨p0, p1, p2, p3, p4⟩ := vbox_cells G4.out.x
   have hix : ∀ W, Sem.run Tryz.prog (Instr.index 119 (.agg #[.int .u8 3, .int .u8 4, .int .u8 2, .int .u8 2, .int .u8 1, .int .u8 1]) (.int .i64 2)) W = .ok (.agg #[.int .u8 1, .int .u8 1]) W := fun W => by kernel_rfl
   go_wp2_with fail
   clear hix
   obtain ⟨X, hX⟩ : ∃ X, X = wr.heap.size := ⟨_, rfl⟩
   rw [← hX] at R4
   rw [← hX]
   generalize wr.alloc (.cells #[.int .u8 1, .int .u8 1] 118) = w4 at *
   clear p0 p1 p2 p3 p4 hX
   (with_reducible refine (agrChosen_any (rank_asks X 1 1) _ V w4 G4.out.at_ R4.out HV.out.m).mono ?_)
   rintro e5 w5 ⟨v5, rfl, ho, hb⟩
   have I5 := Lib.hid (ids_of_owns ho)
   have N5 := Lib.hid (N4.out.below hb)
   have X5 := Lib.hid (box_below X4.out hb)
   have B5 := Lib.hid (below_after B4.out hb (Nat.le_refl _))
   have Z5 := Lib.hid (below_after Z4.out hb (Nat.le_refl _))
   clear ho hb G4 X4 N4 B4 Z4 R4
   go_wp2_with fail
   (with_reducible refine (without_new _ _ _ _ w5 I5.out N5.out (Nat.le_trans (Agr.chosen_len _ _) (Nat.le_trans (Nat.le_of_lt HV.out.m) (by decide))) (Nat.le_trans (Agr.nr_len _ _) (Nat.le_trans (Nat.le_of_lt HV.out.m) (by decide)))).mono ?_)
   rintro e6 w6 ⟨v6, rfl, ho, hb⟩
   have X6 := Lib.hid (box_below X5.out hb)
   have B6 := Lib.hid (below_after B5.out hb (Nat.le_refl _))
   have Z6 := Lib.hid (below_after Z5.out hb (Nat.le_refl _))
   have HO : Hid (Owns w6 w5.heap.size v6 (Agr.ofRank V.m V.r (rkA 2) (rkZ 2))) := Lib.hid ho
   clear ho hb X5 B5 Z5 I5 N5
   rcases hof : Agr.ofRank V.m V.r (rkA 2) (rkZ 2) with _ | ⟨⟨y1, y2⟩, t⟩
   ·have HN2 := Lib.hid (nobody_next HN.out hof)
    rw [hof] at HO
    obtain ⟨A, n, c', rfl, hn⟩ := owns_len HO.out
    obtain rfl : n = 0 := by simpa using hn
    clear hof hn HO
    go_wp2_with fail
    go_roundw
    case rel => exact ⟨3, rfl, by omega, HN2, Z6⟩
    case measure => simp [intOf]
   ·have HL := Lib.hid (HFin.out 2 (y1, y2) t (by omega) HN.out hof)
    rw [hof] at HO
    rcases owns_split HO.out with ⟨-, hn⟩ | ⟨gg, cap, rfl, -, -⟩
    ·simp at hn
    obtain ⟨o0, o1⟩ := owns_head HO.out
    have hd : decide (0 < t.length + 1) = true := by simp
    have hd2 : (0 : Int) < (t.length : Int) + 1 := by omega
    obtain ⟨f1, f2⟩ := box_free X6.out
    obtain ⟨x1, x2⟩ := box_cells X6.out
    clear hof HO
    go_wp2_with fail
    have X9 := box_set X6.out y1 y2
    obtain ⟨q0, q1⟩ := box_cells X9
    refine bodyPost_ret (v := leadV (some (y1, y2))) (by simp [results, Tryz.results58, go_sem, q0, q1, leadV]) rfl ?_
    exact ⟨by rw [HL.out], below_setCells B6.out hgi2 0 [_, _]⟩
end Go.Proofs.YtgphiggbajbmhaaGreatDoor
