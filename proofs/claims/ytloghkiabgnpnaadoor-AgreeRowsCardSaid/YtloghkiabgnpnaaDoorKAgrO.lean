/-
  Walked: the rows of those that are no members, or Down, do not matter, nor what somebody says of itself; with a row more nobody is reached who was not. No statement is proved in this text.
-/
import Derived.Test.YtloghkiabgnpnaaDoorH19
namespace Go.Proofs.YtloghkiabgnpnaaDoor
open Go Go.RowKit
/-- What stands between the two rows that are laid behind the view's. -/
structure RwT (w : World) (b1 g gr gi g2 : Nat) (a b c d e n1 s2 u1 u2 : SL) (V : Vw) (x1 x2 x3 y1 y2 : Int) (not : List Sets.Id2) (W : World) : Prop where
  s : RwS g gr gi a b c d e n1 V x1 x2 x3 y1 y2 not W
  y : VBox W g2 a b s2 d e
  r : RowsAt W (.slice s2.1 s2.2.1 s2.2.2) (V.r ++ [((x1, x2), x3, not)])
  l1 : Ids W (.slice u1.1 u1.2.1 u1.2.2) (Agr.nr V.m V.r)
  l2 : Ids W (.slice u2.1 u2.2.1 u2.2.2) (Agr.nr V.m (V.r ++ [((x1, x2), x3, not)]))
  b : Below b1 w W
theorem RwT.below {w : World} {b1 g gr gi g2 : Nat} {a b c d e n1 s2 u1 u2 : SL} {V : Vw} {x1 x2 x3 y1 y2 : Int} {not : List Sets.Id2} {W W' : World} (h : RwT w b1 g gr gi g2 a b c d e n1 s2 u1 u2 V x1 x2 x3 y1 y2 not W) (hb : Below W.heap.size W W') (h1 : b1 ≤ W.heap.size) : RwT w b1 g gr gi g2 a b c d e n1 s2 u1 u2 V x1 x2 x3 y1 y2 not W' :=
  ⟨h.s.below hb, vbox_below h.y hb, h.r.below hb, h.l1.below hb, h.l2.below hb, h.b.trans (hb.mono h1)⟩
theorem RwT.at2 {w : World} {b1 g gr gi g2 : Nat} {a b c d e n1 s2 u1 u2 : SL} {V : Vw} {x1 x2 x3 y1 y2 : Int} {not : List Sets.Id2} {W : World} (h : RwT w b1 g gr gi g2 a b c d e n1 s2 u1 u2 V x1 x2 x3 y1 y2 not W) : AgV g2 a b s2 d e ⟨V.m, V.f, V.r ++ [((x1, x2), x3, not)], V.c, V.s⟩ W :=
  ⟨h.y, ⟨h.s.v.r.m, h.s.v.r.f, h.r, h.s.v.r.c, h.s.v.r.s⟩⟩
theorem rws_cells {g gr gi : Nat} {a b c d e n1 : SL} {V : Vw} {x1 x2 x3 y1 y2 : Int} {not : List Sets.Id2} {W : World} (h : RwS g gr gi a b c d e n1 V x1 x2 x3 y1 y2 not W) : (W.cell? ⟨g, 2, none⟩ = some (.slice c.1 c.2.1 c.2.2)) ∧ (W.cell? ⟨gr, 0, none⟩ = some (.int .i64 x1) ∧ W.cell? ⟨gr, 1, none⟩ = some (.int .i64 x2) ∧ W.cell? ⟨gr, 2, none⟩ = some (.int .i64 x3) ∧ W.cell? ⟨gr, 3, none⟩ = some (.slice n1.1 n1.2.1 n1.2.2)) :=
  ⟨(vbox_cells h.v.x).2.2.1, wbox_cells h.r⟩
/-- What stands once a row was laid behind the view's. -/
def RwD (w : World) (b1 g gr gi g2 : Nat) (a b d e n1 : SL) (V : Vw) (x1 x2 x3 y1 y2 : Int) (not : List Sets.Id2) (c : SL) (rs : List Agr.Row) (W : World) : Prop := ∃ s2 : SL, VBox W g2 a b s2 d e ∧ RowsAt W (.slice s2.1 s2.2.1 s2.2.2) rs ∧ RwS g gr gi a b c d e n1 V x1 x2 x3 y1 y2 not W ∧ Below b1 w W
theorem rws_done {w : World} {b1 g gr gi g2 : Nat} {a b c d e n1 p2 : SL} {V : Vw} {x1 x2 x3 y1 y2 : Int} {not : List Sets.Id2} {W0 Wq : World} {base : Nat} {s2 : SL} {qs : List Raw} {q : Raw} {r : Agr.Row}
    (h : RwS g gr gi a b c d e n1 V x1 x2 x3 y1 y2 not W0) (y : VBox W0 g2 a b p2 d e) (hp : Below W0.heap.size W0 Wq) (ho : OwnsW Wq base (.slice s2.1 s2.2.1 s2.2.2) ([] ++ qs ++ [q])) (he : EachReads W0 qs V.r) (hr : Reads Wq q r)
    (h1 : g ≠ g2) (h2 : gr ≠ g2) (h3 : gi ≠ g2) (hb : Below b1 w W0) (hg : b1 ≤ g2 ∧ b1 ≤ W0.heap.size) : RwD w b1 g gr gi g2 a b d e n1 V x1 x2 x3 y1 y2 not c (V.r ++ [r]) (Wq.setCell ⟨g2, 2, none⟩ (.slice s2.1 s2.2.1 s2.2.2)) := by
  have y2 := vbox_below y hp
  rw [List.nil_append] at ho
  exact ⟨s2, vbox_put2 y2 s2, (rows_of ho (he.below hp) hr).kp (kp_cell y2 2 _), (h.below hp).put y2 h1 h2 h3 2 _, below_put (hb.trans (hp.mono hg.2)) hg.1 2 _⟩

set_option maxHeartbeats 32000000 in
set_option maxRecDepth 100000 in
theorem agreeRows_any (v : Value) (V : Vw) (x1 x2 x3 : Int) (u : Value) (not : List Sets.Id2) (y1 y2 : Int) (w : World) (h : VAt w v V) (hu : Ids w u not) (hW : WideV V) (ht : Tabs w) :
    Calls Tryd.prog 8 #[v, .agg #[.int .i64 x1, .int .i64 x2, .int .i64 x3, u], .agg #[.int .i64 y1, .int .i64 y2]] w fun e w' => e = .returned (.bool true) ∧ Below w.heap.size w w' := by
  obtain ⟨a, b, c, d, e, rfl, hr⟩ := h
  obtain ⟨n1, rfl⟩ := sl_ids hu
  have hzl := ids_len hu
  have q1 := below_one w (.cells #[.slice a.1 a.2.1 a.2.2, .slice b.1 b.2.1 b.2.2, .slice c.1 c.2.1 c.2.2, .slice d.1 d.2.1 d.2.2, .slice e.1 e.2.1 e.2.2] 29)
  have q2 := below_one (w.alloc (.cells #[.slice a.1 a.2.1 a.2.2, .slice b.1 b.2.1 b.2.2, .slice c.1 c.2.1 c.2.2, .slice d.1 d.2.1 d.2.2, .slice e.1 e.2.1 e.2.2] 29)) (.cells #[.int .i64 x1, .int .i64 x2, .int .i64 x3, .slice n1.1 n1.2.1 n1.2.2] 37)
  have q3 := below_one ((w.alloc (.cells #[.slice a.1 a.2.1 a.2.2, .slice b.1 b.2.1 b.2.2, .slice c.1 c.2.1 c.2.2, .slice d.1 d.2.1 d.2.2, .slice e.1 e.2.1 e.2.2] 29)).alloc (.cells #[.int .i64 x1, .int .i64 x2, .int .i64 x3, .slice n1.1 n1.2.1 n1.2.2] 37)) (.cells #[.int .i64 y1, .int .i64 y2] 32)
  have G1 : Hid (RwS w.heap.size (w.heap.size + 1) (w.heap.size + 1 + 1) a b c d e n1 V x1 x2 x3 y1 y2 not (((w.alloc (.cells #[.slice a.1 a.2.1 a.2.2, .slice b.1 b.2.1 b.2.2, .slice c.1 c.2.1 c.2.2, .slice d.1 d.2.1 d.2.2, .slice e.1 e.2.1 e.2.2] 29)).alloc (.cells #[.int .i64 x1, .int .i64 x2, .int .i64 x3, .slice n1.1 n1.2.1 n1.2.2] 37)).alloc (.cells #[.int .i64 y1, .int .i64 y2] 32))) := Lib.hid ⟨((agV_new hr).below q2).below q3, wbox_below (by simpa using wbox_new (w.alloc (.cells #[.slice a.1 a.2.1 a.2.2, .slice b.1 b.2.1 b.2.2, .slice c.1 c.2.1 c.2.2, .slice d.1 d.2.1 d.2.2, .slice e.1 e.2.1 e.2.2] 29)) x1 x2 x3 (.slice n1.1 n1.2.1 n1.2.2)) q3, ((hu.below q1).below q2).below q3, by simpa using box_new ((w.alloc (.cells #[.slice a.1 a.2.1 a.2.2, .slice b.1 b.2.1 b.2.2, .slice c.1 c.2.1 c.2.2, .slice d.1 d.2.1 d.2.2, .slice e.1 e.2.1 e.2.2] 29)).alloc (.cells #[.int .i64 x1, .int .i64 x2, .int .i64 x3, .slice n1.1 n1.2.1 n1.2.2] 37)) y1 y2⟩
  have T1 := Lib.hid (((ht.below q1).below q2).below q3)
  have BB := Lib.hid (below_after (below_after q1 q2 (Nat.le_refl _)) q3 (Nat.le_refl _))
  have HW := Lib.hid hW
  have HZL := Lib.hid hzl
  clear hr hW ht hu hzl q1 q2 q3
  go_enter Tryd.func8, Tryd.ntmps8
  go_wp2_with fail
  generalize ((w.alloc (.cells #[.slice a.1 a.2.1 a.2.2, .slice b.1 b.2.1 b.2.2, .slice c.1 c.2.1 c.2.2, .slice d.1 d.2.1 d.2.2, .slice e.1 e.2.1 e.2.2] 29)).alloc (.cells #[.int .i64 x1, .int .i64 x2, .int .i64 x3, .slice n1.1 n1.2.1 n1.2.2] 37)).alloc (.cells #[.int .i64 y1, .int .i64 y2] 32) = w1 at *
  obtain ⟨g, hg⟩ : ∃ g, g = w.heap.size := ⟨_, rfl⟩
  obtain ⟨gr, hgr⟩ : ∃ g, g = w.heap.size + 1 := ⟨_, rfl⟩
  obtain ⟨gi, hgi⟩ : ∃ g, g = w.heap.size + 1 + 1 := ⟨_, rfl⟩
  rw [← hgi, ← hgr, ← hg] at G1
  rw [← hgi, ← hgr, ← hg]
  clear hg hgr hgi
  (with_reducible refine (works_any w1 T1.out).mono ?_)
  rintro e1 w2 ⟨rfl, hb⟩
  have G2 := Lib.hid (G1.out.below hb)
  have T2 := Lib.hid (T1.out.below hb)
  have B2 := Lib.hid (below_after BB.out hb (Nat.le_refl _))
  clear hb G1 T1 BB
  obtain ⟨p0, p1, p2, p3, p4⟩ := vbox_cells G2.out.v.x
  go_wp2_with fail
  clear p0 p1 p2 p3 p4
  (with_reducible refine (large_any _ V w2 G2.out.v.at_ HW.out).mono ?_)
  rintro e2 w3 ⟨zz, rfl, hz, hb⟩
  have G3 := Lib.hid (G2.out.below hb)
  have T3 := Lib.hid (T2.out.below hb)
  have B3 := Lib.hid (below_after B2.out hb (Nat.le_refl _))
  clear hb G2 T2 B2
  rcases zz with _ | _
  case true =>
    clear hz
    go_wp2_with fail
    (with_reducible refine (works_any w3 T3.out).mono ?_)
    rintro e4 w4 ⟨rfl, hb⟩
    have B4 := Lib.hid (below_after B3.out hb (Nat.le_refl _))
    clear hb
    go_wp2_with fail
    go_ret
    exact ⟨rfl, B4.out⟩
  case false =>
    have HL := Lib.hid (hz rfl)
    clear hz
    by_cases hm : 100 < n1.2.1
    · have hd : decide ((100 : Int) < (n1.2.1 : Int)) = true := decide_eq_true (by omega)
      obtain ⟨r0, r1, r2, r3⟩ := wbox_cells G3.out.r
      go_wp2_with fail
      clear r0 r1 r2 r3
      (with_reducible refine (works_any w3 T3.out).mono ?_)
      rintro e4 w4 ⟨rfl, hb⟩
      have B4 := Lib.hid (below_after B3.out hb (Nat.le_refl _))
      clear hb
      go_wp2_with fail
      go_ret
      exact ⟨rfl, B4.out⟩
    · have hd : decide ((100 : Int) < (n1.2.1 : Int)) = false := decide_eq_false (by omega)
      have HV := Lib.hid HL.out.fit
      have HVr : Hid (V.r.length ≤ 1000) := Lib.hid HV.out.r
      have HML : Hid (not.length ≤ 100) := Lib.hid (by have := HZL.out; omega)
      clear hm T3
      obtain ⟨r0, r1, r2, r3⟩ := wbox_cells G3.out.r
      obtain ⟨p0, p1, p2, p3, p4⟩ := vbox_cells G3.out.v.x
      go_upto_region 4 with fail
      clear r0 r1 r2 r3 p0 p1 p2 p3 p4
      have hsz := B3.out.size
      have hq := below_one w3 (.cells #[.slice a.1 a.2.1 a.2.2, .slice b.1 b.2.1 b.2.2, .slice c.1 c.2.1 c.2.2, .slice d.1 d.2.1 d.2.2, .slice e.1 e.2.1 e.2.2] 29)
      have RWW := Lib.hid (G3.out.below hq)
      have BWW := Lib.hid (below_after B3.out hq (Nat.le_refl _))
      have YBW := Lib.hid (vbox_new w3 a b c d e)
      have hl1 : g < w3.heap.size := vbox_lt G3.out.v.x
      have hl2 : gr < w3.heap.size := wbox_lt G3.out.r
      have hl3 : gi < w3.heap.size := box_lt G3.out.i
      have hl4 : w3.heap.size ≤ (w3.alloc (.cells #[.slice a.1 a.2.1 a.2.2, .slice b.1 b.2.1 b.2.2, .slice c.1 c.2.1 c.2.2, .slice d.1 d.2.1 d.2.2, .slice e.1 e.2.1 e.2.2] 29)).heap.size := hq.size
      generalize w3.alloc (.cells #[.slice a.1 a.2.1 a.2.2, .slice b.1 b.2.1 b.2.2, .slice c.1 c.2.1 c.2.2, .slice d.1 d.2.1 d.2.2, .slice e.1 e.2.1 e.2.2] 29) = W0 at *
      obtain ⟨g2, hg2⟩ : ∃ g, g = w3.heap.size := ⟨_, rfl⟩
      rw [← hg2] at YBW
      rw [← hg2]
      obtain ⟨b1, hb1⟩ : ∃ b, b = w.heap.size := ⟨_, rfl⟩
      rw [← hb1] at BWW
      have hn1 : g ≠ g2 := by omega
      have hn2 : gr ≠ g2 := by omega
      have hn3 : gi ≠ g2 := by omega
      have hgw : b1 ≤ g2 ∧ b1 ≤ W0.heap.size := ⟨by omega, by omega⟩
      have HB1 := Lib.hid hb1
      clear hq hg2 hl1 hl2 hl3 hl4 hsz G3 B3 hb1
      go_upto_region 4 with fail
      have HQ := Lib.hid fun w' (hb : Below W0.heap.size W0 w') => (show (w'.cell? ⟨g, 2, none⟩ = some (.slice c.1 c.2.1 c.2.2)) ∧ (w'.cell? ⟨gr, 0, none⟩ = some (.int .i64 x1) ∧ w'.cell? ⟨gr, 1, none⟩ = some (.int .i64 x2) ∧ w'.cell? ⟨gr, 2, none⟩ = some (.int .i64 x3) ∧ w'.cell? ⟨gr, 3, none⟩ = some (.slice n1.1 n1.2.1 n1.2.2)) from rws_cells (RWW.out.below hb))
      have HQ2 := Lib.hid fun w' (hb : Below W0.heap.size W0 w') (v : Value) => (show ((w'.setCell ⟨g2, 2, none⟩ v).cell? ⟨g, 2, none⟩ = some (.slice c.1 c.2.1 c.2.2)) ∧ ((w'.setCell ⟨g2, 2, none⟩ v).cell? ⟨gr, 0, none⟩ = some (.int .i64 x1) ∧ (w'.setCell ⟨g2, 2, none⟩ v).cell? ⟨gr, 1, none⟩ = some (.int .i64 x2) ∧ (w'.setCell ⟨g2, 2, none⟩ v).cell? ⟨gr, 2, none⟩ = some (.int .i64 x3) ∧ (w'.setCell ⟨g2, 2, none⟩ v).cell? ⟨gr, 3, none⟩ = some (.slice n1.1 n1.2.1 n1.2.2)) from rws_cells ((RWW.out.below hb).put (vbox_below YBW.out hb) hn1 hn2 hn3 2 v))
      obtain ⟨qs, hrc, hre⟩ := RWW.out.v.r.r
      have HRc := Lib.hid fun w' (hb : Below W0.heap.size W0 w') => hrc.below hb
      have HEr := Lib.hid hre
      have HLr : Hid (([] : List Raw).length + qs.length ≤ 100000) := Lib.hid (by have := HVr.out; have := hre.len; simp; omega)
      have HLq : Hid (([] ++ qs).length + 1 ≤ 100000) := Lib.hid (by have := HVr.out; have := hre.len; simp; omega)
      have YB := YBW
      clear hrc hre
      go_cut [7] (fun s7 wx => s7 = .pointer (some ⟨g2, 0, none⟩) ∧ Hid (RwD w b1 g gr gi g2 a b d e n1 V x1 x2 x3 y1 y2 not c (V.r ++ [((x1, x2), x3, not)]) wx))
      case first =>
          refine wp_region_held_drew (S := fun w' => (w'.cell? ⟨g, 2, none⟩ = some (.slice c.1 c.2.1 c.2.2)) ∧ (w'.cell? ⟨gr, 0, none⟩ = some (.int .i64 x1) ∧ w'.cell? ⟨gr, 1, none⟩ = some (.int .i64 x2) ∧ w'.cell? ⟨gr, 2, none⟩ = some (.int .i64 x3) ∧ w'.cell? ⟨gr, 3, none⟩ = some (.slice n1.1 n1.2.1 n1.2.2))) (by kernel_rfl) ?_ (fun hHeld => ?_)
          · exact HQ.out _ (Below.refl _ _).drew
          (refine wpAnyH_take (i := 1) (oi := ⟨_, _, _, _, _, _⟩) (v := ?_) rfl (by kernel_rfl) (by kernel_rfl) (by kernel_rfl) (fun _ _ _ h => h) (Or.inl ⟨by rfl, ?_⟩) (by assumption) ?_; rotate_left 1; · (intro w hSw; (try dsimp only at hSw); go_simp; all_goals with_reducible rfl))
          try simp only [Act.put, List.setIfInBounds_toArray, List.set_cons_zero, List.set_cons_succ]
          (refine wpAnyH_take (i := 2) (oi := ⟨_, _, _, _, _, _⟩) (v := ?_) rfl (by kernel_rfl) (by kernel_rfl) (by kernel_rfl) (fun _ _ _ h => h) (Or.inl ⟨by rfl, ?_⟩) (by assumption) ?_; rotate_left 1; · (intro w hSw; (try dsimp only at hSw); go_simp; all_goals with_reducible rfl))
          try simp only [Act.put, List.setIfInBounds_toArray, List.set_cons_zero, List.set_cons_succ]
          (refine wpAnyH_take (i := 4) (oi := ⟨_, _, _, _, _, _⟩) (v := ?_) rfl (by kernel_rfl) (by kernel_rfl) (by kernel_rfl) (fun _ _ _ h => h) (Or.inl ⟨by rfl, ?_⟩) (by assumption) ?_; rotate_left 1; · (intro w hSw; (try dsimp only at hSw); go_simp; all_goals with_reducible rfl))
          try simp only [Act.put, List.setIfInBounds_toArray, List.set_cons_zero, List.set_cons_succ]
          refine wpAnyH_ready (rs := [0, 5]) (by kernel_rfl) (by simp) ?_
          refine AllReadyH.cons (o := ⟨_, _, _, _, _, _⟩) rfl (fun Kq hKq => ?_) (AllReadyH.cons (o := ⟨_, _, _, _, _, _⟩) rfl (fun Kq hKq => ?_) (AllReadyH.nil))
          · go_simp
            clear hHeld
            have hq : Below W0.heap.size W0 (W0.alloc (.cells #[] 37)).drew := (below_one W0 (.cells #[] 37)).drew; have hz0 : W0.heap.size + 1 ≤ (W0.alloc (.cells #[] 37)).drew.heap.size := (show W0.heap.size + 1 ≤ (W0.alloc (.cells #[] 37)).heap.size by simp); have P0 := Lib.hid (show Below W0.heap.size W0 (W0.alloc (.cells #[] 37)).drew from hq); have O0 := Lib.hid (show OwnsW (W0.alloc (.cells #[] 37)).drew W0.heap.size (.slice (some ⟨W0.heap.size, 0, none⟩) 0 0) [] from World.ownsRow_made W0 #[] 0 (Nat.le_refl _) (Nat.zero_le _) (by simp)); generalize (W0.alloc (.cells #[] 37)).drew = v0 at *; clear hq
            refine hKq.out _ _ ?_ (fun hHeld => ?_)
            · (try dsimp only); exact HQ.out _ P0.out
            clear hKq Kq
            try simp only [Act.put, List.setIfInBounds_toArray, List.set_cons_zero, List.set_cons_succ]
            refine wpAnyH_ready (rs := [3, 5]) (by kernel_rfl) (by simp) ?_
            refine AllReadyH.cons (o := ⟨_, _, _, _, _, _⟩) rfl (fun Kq hKq => ?_) (AllReadyH.cons (o := ⟨_, _, _, _, _, _⟩) rfl (fun Kq hKq => ?_) (AllReadyH.nil))
            · clear hHeld
              refine step_append_rows (by rfl) (.tmp 26) (.tmp 28) (by rfl) _ W0.heap.size _ _ [] qs (by rfl) (by rfl) O0.out (HRc.out _ P0.out) HLr.out P0.out.size ?_; intro s3 v3 h1 hg h2; have hz3 : v0.heap.size ≤ v3.heap.size := h2.size; have O3 := Lib.hid h1; have P3 := Lib.hid (P0.out.trans h2); clear h1 hg h2
              refine hKq.out _ _ ?_ (fun hHeld => ?_)
              · (try dsimp only); exact HQ.out _ P3.out
              clear hKq Kq
              try simp only [Act.put, List.setIfInBounds_toArray, List.set_cons_zero, List.set_cons_succ]
              refine wpAnyH_ready (rs := [5]) (by kernel_rfl) (by simp) ?_
              refine AllReadyH.cons (o := ⟨_, _, _, _, _, _⟩) rfl (fun Kq hKq => ?_) (AllReadyH.nil)
              go_simp
              clear hHeld
              have hq : Below v3.heap.size v3 (v3.alloc (.cells #[.int .i64 x1, .int .i64 x2, .int .i64 x3, .slice n1.1 n1.2.1 n1.2.2] 37)) := below_one v3 (.cells #[.int .i64 x1, .int .i64 x2, .int .i64 x3, .slice n1.1 n1.2.1 n1.2.2] 37); have hz5 : v3.heap.size + 1 ≤ (v3.alloc (.cells #[.int .i64 x1, .int .i64 x2, .int .i64 x3, .slice n1.1 n1.2.1 n1.2.2] 37)).heap.size := (show v3.heap.size + 1 ≤ (v3.alloc (.cells #[.int .i64 x1, .int .i64 x2, .int .i64 x3, .slice n1.1 n1.2.1 n1.2.2] 37)).heap.size by simp); have P5 := Lib.hid (below_after P3.out hq (Nat.le_refl _)); have O3 := Lib.hid (OwnsR.below O3.out hq); have X5 := Lib.hid (show WBox (v3.alloc (.cells #[.int .i64 x1, .int .i64 x2, .int .i64 x3, .slice n1.1 n1.2.1 n1.2.2] 37)) v3.heap.size x1 x2 x3 _ from wbox_new v3 x1 x2 x3 _); generalize (v3.alloc (.cells #[.int .i64 x1, .int .i64 x2, .int .i64 x3, .slice n1.1 n1.2.1 n1.2.2] 37)) = v5 at *; clear hq
              refine hKq.out _ _ ?_ (fun hHeld => ?_)
              · (try dsimp only); exact HQ.out _ P5.out
              clear hKq Kq
              try simp only [Act.put, List.setIfInBounds_toArray, List.set_cons_zero, List.set_cons_succ]
              refine wpAnyH_ready (rs := [6]) (by kernel_rfl) (by simp) ?_
              refine AllReadyH.cons (o := ⟨_, _, _, _, _, _⟩) rfl (fun Kq hKq => ?_) (AllReadyH.nil)
              clear hHeld
              refine step_append_rows (by rfl) (.tmp 29) (.tmp 31) (by rfl) _ W0.heap.size _ _ ([] ++ qs) _ (by rfl) (by rfl) O3.out (rcs_wbox (s := n1) X5.out) HLq.out P5.out.size ?_; intro s6 v6 h1 hg h2; have O6 := Lib.hid h1; have P6 := Lib.hid (P5.out.trans h2); obtain ⟨s2, hs2⟩ := sl_owns h1; subst hs2; have Y6 := Lib.hid (vbox_below YB.out P6.out); clear h1 hg h2
              refine hKq.out _ _ ?_ (fun hHeld => ?_)
              · (try dsimp only); exact HQ.out _ P6.out
              clear hKq Kq
              try simp only [Act.put, List.setIfInBounds_toArray, List.set_cons_zero, List.set_cons_succ]
              (refine wpAnyH_take (i := 7) (oi := ⟨_, _, _, _, _, _⟩) (v := ?_) rfl (by kernel_rfl) (by kernel_rfl) (by kernel_rfl) (fun _ _ _ h => h) (Or.inl ⟨by rfl, ?_⟩) (by assumption) ?_; rotate_left 1; · (intro w hSw; (try dsimp only at hSw); go_simp; all_goals with_reducible rfl))
              try simp only [Act.put, List.setIfInBounds_toArray, List.set_cons_zero, List.set_cons_succ]
              refine wpAnyH_ready (rs := [8]) (by kernel_rfl) (by simp) ?_
              refine AllReadyH.cons (o := ⟨_, _, _, _, _, _⟩) rfl (fun Kq hKq => ?_) (AllReadyH.nil)
              obtain ⟨o0, o1, o2, o3, o4⟩ := vbox_cells Y6.out
              obtain ⟨f0, f1, f2, f3, f4⟩ := vbox_free Y6.out
              go_simp
              clear hHeld
              clear o0 o1 o2 o3 o4 f0 f1 f2 f3 f4
              refine hKq.out _ _ ?_ (fun hHeld => ?_)
              · (try dsimp only); exact HQ2.out _ (by first | exact P6.out) _
              clear hKq Kq
              try simp only [Act.put, List.setIfInBounds_toArray, List.set_cons_zero, List.set_cons_succ]
              refine wpAnyH_done (by kernel_rfl) ?_ _
              go_wp2_with fail
              go_meet
              exact ⟨rfl, Lib.hid (rws_done RWW.out YBW.out P6.out O6.out HEr.out (⟨rfl, rfl, RWW.out.n.below P6.out⟩) hn1 hn2 hn3 BWW.out hgw)⟩
            · go_simp
              clear hHeld
              have hq : Below v0.heap.size v0 (v0.alloc (.cells #[.int .i64 x1, .int .i64 x2, .int .i64 x3, .slice n1.1 n1.2.1 n1.2.2] 37)) := below_one v0 (.cells #[.int .i64 x1, .int .i64 x2, .int .i64 x3, .slice n1.1 n1.2.1 n1.2.2] 37); have hz5 : v0.heap.size + 1 ≤ (v0.alloc (.cells #[.int .i64 x1, .int .i64 x2, .int .i64 x3, .slice n1.1 n1.2.1 n1.2.2] 37)).heap.size := (show v0.heap.size + 1 ≤ (v0.alloc (.cells #[.int .i64 x1, .int .i64 x2, .int .i64 x3, .slice n1.1 n1.2.1 n1.2.2] 37)).heap.size by simp); have P5 := Lib.hid (below_after P0.out hq (Nat.le_refl _)); have O0 := Lib.hid (OwnsR.below O0.out hq); have X5 := Lib.hid (show WBox (v0.alloc (.cells #[.int .i64 x1, .int .i64 x2, .int .i64 x3, .slice n1.1 n1.2.1 n1.2.2] 37)) v0.heap.size x1 x2 x3 _ from wbox_new v0 x1 x2 x3 _); generalize (v0.alloc (.cells #[.int .i64 x1, .int .i64 x2, .int .i64 x3, .slice n1.1 n1.2.1 n1.2.2] 37)) = v5 at *; clear hq
              refine hKq.out _ _ ?_ (fun hHeld => ?_)
              · (try dsimp only); exact HQ.out _ P5.out
              clear hKq Kq
              try simp only [Act.put, List.setIfInBounds_toArray, List.set_cons_zero, List.set_cons_succ]
              refine wpAnyH_ready (rs := [3]) (by kernel_rfl) (by simp) ?_
              refine AllReadyH.cons (o := ⟨_, _, _, _, _, _⟩) rfl (fun Kq hKq => ?_) (AllReadyH.nil)
              clear hHeld
              refine step_append_rows (by rfl) (.tmp 26) (.tmp 28) (by rfl) _ W0.heap.size _ _ [] qs (by rfl) (by rfl) O0.out (HRc.out _ P5.out) HLr.out P5.out.size ?_; intro s3 v3 h1 hg h2; have hz3 : v5.heap.size ≤ v3.heap.size := h2.size; have O3 := Lib.hid h1; have P3 := Lib.hid (P5.out.trans h2); have X5 := Lib.hid (wbox_grown X5.out hg (show (some W0.heap.size : Option Nat) ≠ some v0.heap.size from fun e => by have e2 : W0.heap.size = v0.heap.size := Option.some.inj e; omega)); clear h1 hg h2
              refine hKq.out _ _ ?_ (fun hHeld => ?_)
              · (try dsimp only); exact HQ.out _ P3.out
              clear hKq Kq
              try simp only [Act.put, List.setIfInBounds_toArray, List.set_cons_zero, List.set_cons_succ]
              refine wpAnyH_ready (rs := [6]) (by kernel_rfl) (by simp) ?_
              refine AllReadyH.cons (o := ⟨_, _, _, _, _, _⟩) rfl (fun Kq hKq => ?_) (AllReadyH.nil)
              clear hHeld
              refine step_append_rows (by rfl) (.tmp 29) (.tmp 31) (by rfl) _ W0.heap.size _ _ ([] ++ qs) _ (by rfl) (by rfl) O3.out (rcs_wbox (s := n1) X5.out) HLq.out P3.out.size ?_; intro s6 v6 h1 hg h2; have O6 := Lib.hid h1; have P6 := Lib.hid (P3.out.trans h2); obtain ⟨s2, hs2⟩ := sl_owns h1; subst hs2; have Y6 := Lib.hid (vbox_below YB.out P6.out); clear h1 hg h2
              refine hKq.out _ _ ?_ (fun hHeld => ?_)
              · (try dsimp only); exact HQ.out _ P6.out
              clear hKq Kq
              try simp only [Act.put, List.setIfInBounds_toArray, List.set_cons_zero, List.set_cons_succ]
              (refine wpAnyH_take (i := 7) (oi := ⟨_, _, _, _, _, _⟩) (v := ?_) rfl (by kernel_rfl) (by kernel_rfl) (by kernel_rfl) (fun _ _ _ h => h) (Or.inl ⟨by rfl, ?_⟩) (by assumption) ?_; rotate_left 1; · (intro w hSw; (try dsimp only at hSw); go_simp; all_goals with_reducible rfl))
              try simp only [Act.put, List.setIfInBounds_toArray, List.set_cons_zero, List.set_cons_succ]
              refine wpAnyH_ready (rs := [8]) (by kernel_rfl) (by simp) ?_
              refine AllReadyH.cons (o := ⟨_, _, _, _, _, _⟩) rfl (fun Kq hKq => ?_) (AllReadyH.nil)
              obtain ⟨o0, o1, o2, o3, o4⟩ := vbox_cells Y6.out
              obtain ⟨f0, f1, f2, f3, f4⟩ := vbox_free Y6.out
              go_simp
              clear hHeld
              clear o0 o1 o2 o3 o4 f0 f1 f2 f3 f4
              refine hKq.out _ _ ?_ (fun hHeld => ?_)
              · (try dsimp only); exact HQ2.out _ (by first | exact P6.out) _
              clear hKq Kq
              try simp only [Act.put, List.setIfInBounds_toArray, List.set_cons_zero, List.set_cons_succ]
              refine wpAnyH_done (by kernel_rfl) ?_ _
              go_wp2_with fail
              go_meet
              exact ⟨rfl, Lib.hid (rws_done RWW.out YBW.out P6.out O6.out HEr.out (⟨rfl, rfl, RWW.out.n.below P6.out⟩) hn1 hn2 hn3 BWW.out hgw)⟩
          · go_simp
            clear hHeld
            have hq : Below W0.heap.size W0 (W0.alloc (.cells #[.int .i64 x1, .int .i64 x2, .int .i64 x3, .slice n1.1 n1.2.1 n1.2.2] 37)).drew := (below_one W0 (.cells #[.int .i64 x1, .int .i64 x2, .int .i64 x3, .slice n1.1 n1.2.1 n1.2.2] 37)).drew; have hz5 : W0.heap.size + 1 ≤ (W0.alloc (.cells #[.int .i64 x1, .int .i64 x2, .int .i64 x3, .slice n1.1 n1.2.1 n1.2.2] 37)).drew.heap.size := (show W0.heap.size + 1 ≤ (W0.alloc (.cells #[.int .i64 x1, .int .i64 x2, .int .i64 x3, .slice n1.1 n1.2.1 n1.2.2] 37)).heap.size by simp); have P5 := Lib.hid (show Below W0.heap.size W0 (W0.alloc (.cells #[.int .i64 x1, .int .i64 x2, .int .i64 x3, .slice n1.1 n1.2.1 n1.2.2] 37)).drew from hq); have X5 := Lib.hid (show WBox (W0.alloc (.cells #[.int .i64 x1, .int .i64 x2, .int .i64 x3, .slice n1.1 n1.2.1 n1.2.2] 37)).drew W0.heap.size x1 x2 x3 _ from wbox_new W0 x1 x2 x3 _); generalize (W0.alloc (.cells #[.int .i64 x1, .int .i64 x2, .int .i64 x3, .slice n1.1 n1.2.1 n1.2.2] 37)).drew = v5 at *; clear hq
            refine hKq.out _ _ ?_ (fun hHeld => ?_)
            · (try dsimp only); exact HQ.out _ P5.out
            clear hKq Kq
            try simp only [Act.put, List.setIfInBounds_toArray, List.set_cons_zero, List.set_cons_succ]
            refine wpAnyH_ready (rs := [0]) (by kernel_rfl) (by simp) ?_
            refine AllReadyH.cons (o := ⟨_, _, _, _, _, _⟩) rfl (fun Kq hKq => ?_) (AllReadyH.nil)
            go_simp
            clear hHeld
            have hq : Below v5.heap.size v5 (v5.alloc (.cells #[] 37)) := below_one v5 (.cells #[] 37); have hz0 : v5.heap.size + 1 ≤ (v5.alloc (.cells #[] 37)).heap.size := (show v5.heap.size + 1 ≤ (v5.alloc (.cells #[] 37)).heap.size by simp); have P0 := Lib.hid (below_after P5.out hq (Nat.le_refl _)); have X5 := Lib.hid (wbox_below X5.out hq); have O0 := Lib.hid (show OwnsW (v5.alloc (.cells #[] 37)) W0.heap.size (.slice (some ⟨v5.heap.size, 0, none⟩) 0 0) [] from World.ownsRow_made v5 #[] 0 P5.out.size (Nat.zero_le _) (by simp)); generalize (v5.alloc (.cells #[] 37)) = v0 at *; clear hq
            refine hKq.out _ _ ?_ (fun hHeld => ?_)
            · (try dsimp only); exact HQ.out _ P0.out
            clear hKq Kq
            try simp only [Act.put, List.setIfInBounds_toArray, List.set_cons_zero, List.set_cons_succ]
            refine wpAnyH_ready (rs := [3]) (by kernel_rfl) (by simp) ?_
            refine AllReadyH.cons (o := ⟨_, _, _, _, _, _⟩) rfl (fun Kq hKq => ?_) (AllReadyH.nil)
            clear hHeld
            refine step_append_rows (by rfl) (.tmp 26) (.tmp 28) (by rfl) _ W0.heap.size _ _ [] qs (by rfl) (by rfl) O0.out (HRc.out _ P0.out) HLr.out P0.out.size ?_; intro s3 v3 h1 hg h2; have hz3 : v0.heap.size ≤ v3.heap.size := h2.size; have O3 := Lib.hid h1; have P3 := Lib.hid (P0.out.trans h2); have X5 := Lib.hid (wbox_grown X5.out hg (show (some v5.heap.size : Option Nat) ≠ some W0.heap.size from fun e => by have e2 : v5.heap.size = W0.heap.size := Option.some.inj e; omega)); clear h1 hg h2
            refine hKq.out _ _ ?_ (fun hHeld => ?_)
            · (try dsimp only); exact HQ.out _ P3.out
            clear hKq Kq
            try simp only [Act.put, List.setIfInBounds_toArray, List.set_cons_zero, List.set_cons_succ]
            refine wpAnyH_ready (rs := [6]) (by kernel_rfl) (by simp) ?_
            refine AllReadyH.cons (o := ⟨_, _, _, _, _, _⟩) rfl (fun Kq hKq => ?_) (AllReadyH.nil)
            clear hHeld
            refine step_append_rows (by rfl) (.tmp 29) (.tmp 31) (by rfl) _ W0.heap.size _ _ ([] ++ qs) _ (by rfl) (by rfl) O3.out (rcs_wbox (s := n1) X5.out) HLq.out P3.out.size ?_; intro s6 v6 h1 hg h2; have O6 := Lib.hid h1; have P6 := Lib.hid (P3.out.trans h2); obtain ⟨s2, hs2⟩ := sl_owns h1; subst hs2; have Y6 := Lib.hid (vbox_below YB.out P6.out); clear h1 hg h2
            refine hKq.out _ _ ?_ (fun hHeld => ?_)
            · (try dsimp only); exact HQ.out _ P6.out
            clear hKq Kq
            try simp only [Act.put, List.setIfInBounds_toArray, List.set_cons_zero, List.set_cons_succ]
            (refine wpAnyH_take (i := 7) (oi := ⟨_, _, _, _, _, _⟩) (v := ?_) rfl (by kernel_rfl) (by kernel_rfl) (by kernel_rfl) (fun _ _ _ h => h) (Or.inl ⟨by rfl, ?_⟩) (by assumption) ?_; rotate_left 1; · (intro w hSw; (try dsimp only at hSw); go_simp; all_goals with_reducible rfl))
            try simp only [Act.put, List.setIfInBounds_toArray, List.set_cons_zero, List.set_cons_succ]
            refine wpAnyH_ready (rs := [8]) (by kernel_rfl) (by simp) ?_
            refine AllReadyH.cons (o := ⟨_, _, _, _, _, _⟩) rfl (fun Kq hKq => ?_) (AllReadyH.nil)
            obtain ⟨o0, o1, o2, o3, o4⟩ := vbox_cells Y6.out
            obtain ⟨f0, f1, f2, f3, f4⟩ := vbox_free Y6.out
            go_simp
            clear hHeld
            clear o0 o1 o2 o3 o4 f0 f1 f2 f3 f4
            refine hKq.out _ _ ?_ (fun hHeld => ?_)
            · (try dsimp only); exact HQ2.out _ (by first | exact P6.out) _
            clear hKq Kq
            try simp only [Act.put, List.setIfInBounds_toArray, List.set_cons_zero, List.set_cons_succ]
            refine wpAnyH_done (by kernel_rfl) ?_ _
            go_wp2_with fail
            go_meet
            exact ⟨rfl, Lib.hid (rws_done RWW.out YBW.out P6.out O6.out HEr.out (⟨rfl, rfl, RWW.out.n.below P6.out⟩) hn1 hn2 hn3 BWW.out hgw)⟩
      case rest =>
        obtain ⟨rfl, HD⟩ := hcut
        clear HQ HQ2 HRc HEr HLr HLq YB RWW YBW BWW
        rename World => wd
        obtain ⟨s2, hy2, hra, hrs, hbw⟩ := HD.out
        have D1 := Lib.hid hrs
        have Y1 := Lib.hid hy2
        have R1 := Lib.hid hra
        have BD := Lib.hid hbw
        have hbs : b1 ≤ wd.heap.size := by have := HB1.out; have := hbw.size; omega
        have hg1 : b1 ≤ g2 := hgw.1
        clear hy2 hra hrs hbw HD hgw
        have HV2 : Hid (FitA ⟨V.m, V.f, V.r ++ [((x1, x2), x3, not)], V.c, V.s⟩) := Lib.hid ⟨HV.out.m, by have := HL.out; unfold FitL at this; simp; omega, HV.out.s, by have h1 := HL.out; unfold FitL at h1; have h2 := HML.out; show ((V.r ++ [((x1, x2), x3, not)]).map fun r => r.2.2.length).sum ≤ 100000; rw [List.map_append, List.sum_append]; have h3 : (V.r.map fun r => r.2.2.length).sum = sumN V.r := rfl; rw [h3]; simp; omega⟩
        obtain ⟨p0, p1, p2, p3, p4⟩ := vbox_cells D1.out.v.x
        obtain ⟨r0, r1, r2, r3⟩ := wbox_cells D1.out.r
        go_wp2_with fail
        clear p0 p1 p2 p3 p4 r0 r1 r2 r3
        (with_reducible refine (status_any _ V x1 x2 wd D1.out.v.at_ (Nat.le_trans HV.out.m (by omega))).mono ?_)
        rintro e5 w5 ⟨rfl, hb⟩
        have D2 := Lib.hid (D1.out.below hb)
        have Y2 := Lib.hid (vbox_below Y1.out hb)
        have R2 := Lib.hid (R1.out.below hb)
        have B2 := Lib.hid (BD.out.trans (hb.mono hbs))
        have hbs2 : b1 ≤ w5.heap.size := Nat.le_trans hbs hb.size
        clear hb D1 Y1 R1 BD
        have HSt : Hid (statV V.m (x1, x2) = .tuple #[.int .u8 (Agr.st V.m (x1, x2)), .bool (Agr.isMem V.m (x1, x2))]) := Lib.hid rfl
        rw [HSt.out]
        have HSa : Hid (Agr.saysB V.m ((x1, x2), x3, not) = (Agr.isMem V.m (x1, x2) && decide (Agr.st V.m (x1, x2) < 6))) := Lib.hid rfl
        generalize Agr.st V.m (x1, x2) = sT at *
        generalize Agr.isMem V.m (x1, x2) = sI at *
        obtain ⟨p0, p1, p2, p3, p4⟩ := vbox_cells D2.out.v.x
        go_wp2_with fail
        clear p0 p1 p2 p3 p4
        (with_reducible refine (notReached_any _ V w5 D2.out.v.at_ HV.out).mono ?_)
        rintro e6 w6 ⟨v6, rfl, ho, hb⟩
        obtain ⟨u1, hu1⟩ := sl_ids (ids_of_owns ho)
        subst hu1
        have D3 := Lib.hid (D2.out.below hb)
        have Y3 := Lib.hid (vbox_below Y2.out hb)
        have R3 := Lib.hid (R2.out.below hb)
        have B3 := Lib.hid (B2.out.trans (hb.mono hbs2))
        have L3 := Lib.hid (ids_of_owns ho)
        have hbs3 : b1 ≤ w6.heap.size := Nat.le_trans hbs2 hb.size
        clear hb ho D2 Y2 R2 B2
        obtain ⟨p0, p1, p2, p3, p4⟩ := vbox_cells Y3.out
        go_wp2_with fail
        clear p0 p1 p2 p3 p4
        have A3 : Hid (AgV g2 a b s2 d e ⟨V.m, V.f, V.r ++ [((x1, x2), x3, not)], V.c, V.s⟩ w6) := Lib.hid ⟨Y3.out, ⟨D3.out.v.r.m, D3.out.v.r.f, R3.out, D3.out.v.r.c, D3.out.v.r.s⟩⟩
        (with_reducible refine (notReached_any _ _ w6 A3.out.at_ HV2.out).mono ?_)
        rintro e7 w7 ⟨v7, rfl, ho, hb⟩
        obtain ⟨u2, hu2⟩ := sl_ids (ids_of_owns ho)
        subst hu2
        have hbs4 : b1 ≤ w7.heap.size := Nat.le_trans hbs3 hb.size
        have E4 : Hid (RwT w b1 g gr gi g2 a b c d e n1 s2 u1 u2 V x1 x2 x3 y1 y2 not w7) := Lib.hid ⟨D3.out.below hb, vbox_below Y3.out hb, R3.out.below hb, L3.out.below hb, ids_of_owns ho, B3.out.trans (hb.mono hbs3)⟩
        clear hb ho D3 Y3 R3 B3 L3 A3 hbs hbs2 hbs3
        go_upto_region 8 with fail
        go_cut [60] (fun sT wx => sT = .bool false ∧ Hid (RwT w b1 g gr gi g2 a b c d e n1 s2 u1 u2 V x1 x2 x3 y1 y2 not wx) ∧ b1 ≤ wx.heap.size)
        case first =>
          have HNl : Hid ((Agr.nr V.m V.r).length ≤ 1000 ∧ (Agr.nr V.m (V.r ++ [((x1, x2), x3, not)])).length ≤ 1000) := Lib.hid ⟨Nat.le_trans (Agr.nr_len _ _) HV.out.m, Nat.le_trans (Agr.nr_len _ _) HV.out.m⟩
          have HNm := Lib.hid (Agr.nr_more V.m V.r ((x1, x2), x3, not))
          go_wp2_with fail
          (with_reducible refine (without_new _ _ _ _ w7 E4.out.l1 E4.out.l2 (by have := HNl.out.1; omega) (by have := HNl.out.2; omega)).mono ?_)
          rw [HNm.out]
          rintro e8 w8 ⟨v8, rfl, ho, hb⟩
          obtain ⟨A8, n8, c8, rfl, hn8⟩ := owns_len ho
          obtain rfl : n8 = 0 := hn8
          have E5 := Lib.hid (E4.out.below hb hbs4)
          have hbs5 : b1 ≤ w8.heap.size := Nat.le_trans hbs4 hb.size
          clear hb ho E4
          obtain ⟨p0, p1, p2, p3, p4⟩ := vbox_cells E5.out.s.v.x
          obtain ⟨i0, i1⟩ := box_cells E5.out.s.i
          go_wp2_with fail
          clear p0 p1 p2 p3 p4 i0 i1
          (with_reducible refine (reached_any _ V y1 y2 w8 E5.out.s.v.at_ HV.out).mono ?_)
          rintro e9 w9 ⟨rfl, hb⟩
          have E6 := Lib.hid (E5.out.below hb hbs5)
          have hbs6 : b1 ≤ w9.heap.size := Nat.le_trans hbs5 hb.size
          clear hb E5
          have HRM := Lib.hid fun h => Agr.reached_more (m := V.m) (rs := V.r) (r := ((x1, x2), x3, not)) (y := (y1, y2)) h
          generalize Agr.reachedB V.m V.r (y1, y2) = rb at *
          rcases rb with _ | _
          · obtain ⟨p0, p1, p2, p3, p4⟩ := vbox_cells E6.out.y
            obtain ⟨i0, i1⟩ := box_cells E6.out.s.i
            go_wp2_with fail
            clear p0 p1 p2 p3 p4 i0 i1
            (with_reducible refine (reached_any _ _ y1 y2 w9 E6.out.at2.at_ HV2.out).mono ?_)
            rw [HRM.out (by first | rfl | trivial)]
            rintro ea wa ⟨rfl, hb⟩
            have E7 := Lib.hid (E6.out.below hb hbs6)
            have hbs7 : b1 ≤ wa.heap.size := Nat.le_trans hbs6 hb.size
            clear hb E6
            go_wp2_with fail
            go_meet
            exact ⟨rfl, E7, hbs7⟩
          · go_wp2_with fail
            go_meet
            exact ⟨rfl, E6, hbs6⟩
        case rest =>
          obtain ⟨rfl, E5, hbs5⟩ := hcut
          rename World => we
          clear E4 hbs4
          go_upto_region 10 with fail
          go_cut [72] (fun sT wx => sT = .bool false ∧ Hid (RwT w b1 g gr gi g2 a b c d e n1 s2 u1 u2 V x1 x2 x3 y1 y2 not wx) ∧ b1 ≤ wx.heap.size)
          case first =>
            have HId : Hid (Agr.saysB V.m ((x1, x2), x3, not) = false → Calls Tryd.prog 21 #[.slice u1.1 u1.2.1 u1.2.2, .slice u2.1 u2.2.1 u2.2.2] we fun e w' => e = .returned (.bool true) ∧ Below we.heap.size we w') := Lib.hid fun hs => by
              have h1 := ids_any _ _ _ _ we E5.out.l1 E5.out.l2 (by have := Agr.nr_len V.m V.r; have := HV.out.m; omega)
              rw [Agr.nr_same (m := V.m) (rs := V.r) (r := ((x1, x2), x3, not)) (fun y h => by rw [hs] at h; cases h)] at h1
              rw [show sameB (Agr.nr V.m V.r) (Agr.nr V.m V.r) = true from decide_eq_true rfl] at h1
              exact h1
            rcases sI with _ | _
            · have HI2 := Lib.hid (HId.out (by rw [HSa.out]; rfl))
              clear HId
              go_wp2_with fail
              (with_reducible refine HI2.out.mono ?_)
              rintro ea wa ⟨rfl, hb⟩
              have E7 := Lib.hid (E5.out.below hb hbs5)
              have hbs7 : b1 ≤ wa.heap.size := Nat.le_trans hbs5 hb.size
              clear hb E5
              go_wp2_with fail
              go_meet
              exact ⟨rfl, E7, hbs7⟩
            · by_cases hs6 : sT < 6
              · have hd6 : decide ((6 : Int) ≤ sT) = false := decide_eq_false (by omega)
                clear HId
                go_wp2_with fail
                go_meet
                exact ⟨rfl, E5, hbs5⟩
              · have hd6 : decide ((6 : Int) ≤ sT) = true := decide_eq_true (by omega)
                have HI2 := Lib.hid (HId.out (by rw [HSa.out, decide_eq_false hs6]; rfl))
                clear HId
                go_wp2_with fail
                (with_reducible refine HI2.out.mono ?_)
                rintro ea wa ⟨rfl, hb⟩
                have E7 := Lib.hid (E5.out.below hb hbs5)
                have hbs7 : b1 ≤ wa.heap.size := Nat.le_trans hbs5 hb.size
                clear hb E5
                go_wp2_with fail
                go_meet
                exact ⟨rfl, E7, hbs7⟩
          case rest =>
            obtain ⟨rfl, E6, hbs6⟩ := hcut
            rename World => W0
            clear E5 hbs5
            have RWW := Lib.hid E6.out.s
            have YBW := Lib.hid E6.out.y
            have BWW := Lib.hid E6.out.b
            have UL := Lib.hid E6.out.l1
            have hgw : b1 ≤ g2 ∧ b1 ≤ W0.heap.size := ⟨hg1, hbs6⟩
            have HEx : Hid (AgV g2 a b s2 d e ⟨V.m, V.f, V.r ++ [((x1, x2), x3, not)], V.c, V.s⟩ W0) := Lib.hid E6.out.at2
            clear E6
            go_upto_region 12 with fail
            have HQ := Lib.hid fun w' (hb : Below W0.heap.size W0 w') => (show (w'.cell? ⟨g, 2, none⟩ = some (.slice c.1 c.2.1 c.2.2)) ∧ (w'.cell? ⟨gr, 0, none⟩ = some (.int .i64 x1) ∧ w'.cell? ⟨gr, 1, none⟩ = some (.int .i64 x2) ∧ w'.cell? ⟨gr, 2, none⟩ = some (.int .i64 x3) ∧ w'.cell? ⟨gr, 3, none⟩ = some (.slice n1.1 n1.2.1 n1.2.2)) from rws_cells (RWW.out.below hb))
            have HQ2 := Lib.hid fun w' (hb : Below W0.heap.size W0 w') (v : Value) => (show ((w'.setCell ⟨g2, 2, none⟩ v).cell? ⟨g, 2, none⟩ = some (.slice c.1 c.2.1 c.2.2)) ∧ ((w'.setCell ⟨g2, 2, none⟩ v).cell? ⟨gr, 0, none⟩ = some (.int .i64 x1) ∧ (w'.setCell ⟨g2, 2, none⟩ v).cell? ⟨gr, 1, none⟩ = some (.int .i64 x2) ∧ (w'.setCell ⟨g2, 2, none⟩ v).cell? ⟨gr, 2, none⟩ = some (.int .i64 x3) ∧ (w'.setCell ⟨g2, 2, none⟩ v).cell? ⟨gr, 3, none⟩ = some (.slice n1.1 n1.2.1 n1.2.2)) from rws_cells ((RWW.out.below hb).put (vbox_below YBW.out hb) hn1 hn2 hn3 2 v))
            obtain ⟨qs, hrc, hre⟩ := RWW.out.v.r.r
            have HRc := Lib.hid fun w' (hb : Below W0.heap.size W0 w') => hrc.below hb
            have HEr := Lib.hid hre
            have HLr : Hid (([] : List Raw).length + qs.length ≤ 100000) := Lib.hid (by have := HVr.out; have := hre.len; simp; omega)
            have HLq : Hid (([] ++ qs).length + 1 ≤ 100000) := Lib.hid (by have := HVr.out; have := hre.len; simp; omega)
            have YB := YBW
            clear hrc hre
            go_cut [7] (fun s7 wx => s7 = .pointer (some ⟨g2, 0, none⟩) ∧ Hid (RwD w b1 g gr gi g2 a b d e n1 V x1 x2 x3 y1 y2 not c (V.r ++ [((x1, x2), x3, [(x1, x2)])]) wx) ∧ Hid (Ids wx (.slice u1.1 u1.2.1 u1.2.2) (Agr.nr V.m V.r)))
            case first =>
              refine wp_region_held_drew (S := fun w' => (w'.cell? ⟨g, 2, none⟩ = some (.slice c.1 c.2.1 c.2.2)) ∧ (w'.cell? ⟨gr, 0, none⟩ = some (.int .i64 x1) ∧ w'.cell? ⟨gr, 1, none⟩ = some (.int .i64 x2) ∧ w'.cell? ⟨gr, 2, none⟩ = some (.int .i64 x3) ∧ w'.cell? ⟨gr, 3, none⟩ = some (.slice n1.1 n1.2.1 n1.2.2))) (by kernel_rfl) ?_ (fun hHeld => ?_)
              · exact HQ.out _ (Below.refl _ _).drew
              (refine wpAnyH_take (i := 1) (oi := ⟨_, _, _, _, _, _⟩) (v := ?_) rfl (by kernel_rfl) (by kernel_rfl) (by kernel_rfl) (fun _ _ _ h => h) (Or.inl ⟨by rfl, ?_⟩) (by assumption) ?_; rotate_left 1; · (intro w hSw; (try dsimp only at hSw); go_simp; all_goals with_reducible rfl))
              try simp only [Act.put, List.setIfInBounds_toArray, List.set_cons_zero, List.set_cons_succ]
              (refine wpAnyH_take (i := 2) (oi := ⟨_, _, _, _, _, _⟩) (v := ?_) rfl (by kernel_rfl) (by kernel_rfl) (by kernel_rfl) (fun _ _ _ h => h) (Or.inl ⟨by rfl, ?_⟩) (by assumption) ?_; rotate_left 1; · (intro w hSw; (try dsimp only at hSw); go_simp; all_goals with_reducible rfl))
              try simp only [Act.put, List.setIfInBounds_toArray, List.set_cons_zero, List.set_cons_succ]
              (refine wpAnyH_take (i := 4) (oi := ⟨_, _, _, _, _, _⟩) (v := ?_) rfl (by kernel_rfl) (by kernel_rfl) (by kernel_rfl) (fun _ _ _ h => h) (Or.inl ⟨by rfl, ?_⟩) (by assumption) ?_; rotate_left 1; · (intro w hSw; (try dsimp only at hSw); go_simp; all_goals with_reducible rfl))
              try simp only [Act.put, List.setIfInBounds_toArray, List.set_cons_zero, List.set_cons_succ]
              (refine wpAnyH_take (i := 5) (oi := ⟨_, _, _, _, _, _⟩) (v := ?_) rfl (by kernel_rfl) (by kernel_rfl) (by kernel_rfl) (fun _ _ _ h => h) (Or.inl ⟨by rfl, ?_⟩) (by assumption) ?_; rotate_left 1; · (intro w hSw; (try dsimp only at hSw); go_simp; all_goals with_reducible rfl))
              try simp only [Act.put, List.setIfInBounds_toArray, List.set_cons_zero, List.set_cons_succ]
              (refine wpAnyH_take (i := 6) (oi := ⟨_, _, _, _, _, _⟩) (v := ?_) rfl (by kernel_rfl) (by kernel_rfl) (by kernel_rfl) (fun _ _ _ h => h) (Or.inl ⟨by rfl, ?_⟩) (by assumption) ?_; rotate_left 1; · (intro w hSw; (try dsimp only at hSw); go_simp; all_goals with_reducible rfl))
              try simp only [Act.put, List.setIfInBounds_toArray, List.set_cons_zero, List.set_cons_succ]
              (refine wpAnyH_take (i := 7) (oi := ⟨_, _, _, _, _, _⟩) (v := ?_) rfl (by kernel_rfl) (by kernel_rfl) (by kernel_rfl) (fun _ _ _ h => h) (Or.inl ⟨by rfl, ?_⟩) (by assumption) ?_; rotate_left 1; · (intro w hSw; (try dsimp only at hSw); go_simp; all_goals with_reducible rfl))
              try simp only [Act.put, List.setIfInBounds_toArray, List.set_cons_zero, List.set_cons_succ]
              (refine wpAnyH_take (i := 8) (oi := ⟨_, _, _, _, _, _⟩) (v := ?_) rfl (by kernel_rfl) (by kernel_rfl) (by kernel_rfl) (fun _ _ _ h => h) (Or.inl ⟨by rfl, ?_⟩) (by assumption) ?_; rotate_left 1; · (intro w hSw; (try dsimp only at hSw); go_simp; all_goals with_reducible rfl))
              try simp only [Act.put, List.setIfInBounds_toArray, List.set_cons_zero, List.set_cons_succ]
              (refine wpAnyH_take (i := 9) (oi := ⟨_, _, _, _, _, _⟩) (v := ?_) rfl (by kernel_rfl) (by kernel_rfl) (by kernel_rfl) (fun _ _ _ h => h) (Or.inl ⟨by rfl, ?_⟩) (by assumption) ?_; rotate_left 1; · (intro w hSw; (try dsimp only at hSw); go_simp; all_goals with_reducible rfl))
              try simp only [Act.put, List.setIfInBounds_toArray, List.set_cons_zero, List.set_cons_succ]
              refine wpAnyH_ready (rs := [0, 10]) (by kernel_rfl) (by simp) ?_
              refine AllReadyH.cons (o := ⟨_, _, _, _, _, _⟩) rfl (fun Kq hKq => ?_) (AllReadyH.cons (o := ⟨_, _, _, _, _, _⟩) rfl (fun Kq hKq => ?_) (AllReadyH.nil))
              · go_simp
                clear hHeld
                have hq : Below W0.heap.size W0 (W0.alloc (.cells #[] 37)).drew := (below_one W0 (.cells #[] 37)).drew; have hz0 : W0.heap.size + 1 ≤ (W0.alloc (.cells #[] 37)).drew.heap.size := (show W0.heap.size + 1 ≤ (W0.alloc (.cells #[] 37)).heap.size by simp); have P0 := Lib.hid (show Below W0.heap.size W0 (W0.alloc (.cells #[] 37)).drew from hq); have O0 := Lib.hid (show OwnsW (W0.alloc (.cells #[] 37)).drew W0.heap.size (.slice (some ⟨W0.heap.size, 0, none⟩) 0 0) [] from World.ownsRow_made W0 #[] 0 (Nat.le_refl _) (Nat.zero_le _) (by simp)); generalize (W0.alloc (.cells #[] 37)).drew = v0 at *; clear hq
                refine hKq.out _ _ ?_ (fun hHeld => ?_)
                · (try dsimp only); exact HQ.out _ P0.out
                clear hKq Kq
                try simp only [Act.put, List.setIfInBounds_toArray, List.set_cons_zero, List.set_cons_succ]
                refine wpAnyH_ready (rs := [3, 10]) (by kernel_rfl) (by simp) ?_
                refine AllReadyH.cons (o := ⟨_, _, _, _, _, _⟩) rfl (fun Kq hKq => ?_) (AllReadyH.cons (o := ⟨_, _, _, _, _, _⟩) rfl (fun Kq hKq => ?_) (AllReadyH.nil))
                · clear hHeld
                  refine step_append_rows (by rfl) (.tmp 73) (.tmp 75) (by rfl) _ W0.heap.size _ _ [] qs (by rfl) (by rfl) O0.out (HRc.out _ P0.out) HLr.out P0.out.size ?_; intro s3 v3 h1 hg h2; have hz3 : v0.heap.size ≤ v3.heap.size := h2.size; have O3 := Lib.hid h1; have P3 := Lib.hid (P0.out.trans h2); clear h1 hg h2
                  refine hKq.out _ _ ?_ (fun hHeld => ?_)
                  · (try dsimp only); exact HQ.out _ P3.out
                  clear hKq Kq
                  try simp only [Act.put, List.setIfInBounds_toArray, List.set_cons_zero, List.set_cons_succ]
                  refine wpAnyH_ready (rs := [10]) (by kernel_rfl) (by simp) ?_
                  refine AllReadyH.cons (o := ⟨_, _, _, _, _, _⟩) rfl (fun Kq hKq => ?_) (AllReadyH.nil)
                  go_simp
                  clear hHeld
                  have hq : Below v3.heap.size v3 (v3.alloc (.cells #[.int .i64 x1, .int .i64 x2] 32)) := below_one v3 (.cells #[.int .i64 x1, .int .i64 x2] 32); have hz10 : v3.heap.size + 1 ≤ (v3.alloc (.cells #[.int .i64 x1, .int .i64 x2] 32)).heap.size := (show v3.heap.size + 1 ≤ (v3.alloc (.cells #[.int .i64 x1, .int .i64 x2] 32)).heap.size by simp); have P10 := Lib.hid (below_after P3.out hq (Nat.le_refl _)); have O3 := Lib.hid (OwnsR.below O3.out hq); have X10 := Lib.hid (show Box (v3.alloc (.cells #[.int .i64 x1, .int .i64 x2] 32)) v3.heap.size x1 x2 from box_new v3 x1 x2); generalize (v3.alloc (.cells #[.int .i64 x1, .int .i64 x2] 32)) = v10 at *; clear hq
                  refine hKq.out _ _ ?_ (fun hHeld => ?_)
                  · (try dsimp only); exact HQ.out _ P10.out
                  clear hKq Kq
                  try simp only [Act.put, List.setIfInBounds_toArray, List.set_cons_zero, List.set_cons_succ]
                  (refine wpAnyH_take (i := 11) (oi := ⟨_, _, _, _, _, _⟩) (v := ?_) rfl (by kernel_rfl) (by kernel_rfl) (by kernel_rfl) (fun _ _ _ h => h) (Or.inl ⟨by rfl, ?_⟩) (by assumption) ?_; rotate_left 1; · (intro w hSw; (try dsimp only at hSw); go_simp; all_goals with_reducible rfl))
                  try simp only [Act.put, List.setIfInBounds_toArray, List.set_cons_zero, List.set_cons_succ]
                  refine wpAnyH_ready (rs := [12]) (by kernel_rfl) (by simp) ?_
                  refine AllReadyH.cons (o := ⟨_, _, _, _, _, _⟩) rfl (fun Kq hKq => ?_) (AllReadyH.nil)
                  go_simp
                  clear hHeld
                  have hq : Below v10.heap.size v10 (v10.alloc (.cells #[.int .i64 x1, .int .i64 x2, .int .i64 x3, .slice (some ⟨v3.heap.size, 0, none⟩) 1 1] 37)) := below_one v10 (.cells #[.int .i64 x1, .int .i64 x2, .int .i64 x3, .slice (some ⟨v3.heap.size, 0, none⟩) 1 1] 37); have hz12 : v10.heap.size + 1 ≤ (v10.alloc (.cells #[.int .i64 x1, .int .i64 x2, .int .i64 x3, .slice (some ⟨v3.heap.size, 0, none⟩) 1 1] 37)).heap.size := (show v10.heap.size + 1 ≤ (v10.alloc (.cells #[.int .i64 x1, .int .i64 x2, .int .i64 x3, .slice (some ⟨v3.heap.size, 0, none⟩) 1 1] 37)).heap.size by simp); have P12 := Lib.hid (below_after P10.out hq (Nat.le_refl _)); have O3 := Lib.hid (OwnsR.below O3.out hq); have X10 := Lib.hid (box_below X10.out hq); have X12 := Lib.hid (show WBox (v10.alloc (.cells #[.int .i64 x1, .int .i64 x2, .int .i64 x3, .slice (some ⟨v3.heap.size, 0, none⟩) 1 1] 37)) v10.heap.size x1 x2 x3 _ from wbox_new v10 x1 x2 x3 _); generalize (v10.alloc (.cells #[.int .i64 x1, .int .i64 x2, .int .i64 x3, .slice (some ⟨v3.heap.size, 0, none⟩) 1 1] 37)) = v12 at *; clear hq
                  refine hKq.out _ _ ?_ (fun hHeld => ?_)
                  · (try dsimp only); exact HQ.out _ P12.out
                  clear hKq Kq
                  try simp only [Act.put, List.setIfInBounds_toArray, List.set_cons_zero, List.set_cons_succ]
                  refine wpAnyH_ready (rs := [13]) (by kernel_rfl) (by simp) ?_
                  refine AllReadyH.cons (o := ⟨_, _, _, _, _, _⟩) rfl (fun Kq hKq => ?_) (AllReadyH.nil)
                  clear hHeld
                  refine step_append_rows (by rfl) (.tmp 76) (.tmp 85) (by rfl) _ W0.heap.size _ _ ([] ++ qs) _ (by rfl) (by rfl) O3.out (rcs_wbox (s := (some ⟨v3.heap.size, 0, none⟩, 1, 1)) X12.out) HLq.out P12.out.size ?_; intro s13 v13 h1 hg h2; have X10 := Lib.hid (box_grown X10.out hg (ownsW_apart O3.out X10.out)); have O13 := Lib.hid h1; have P13 := Lib.hid (P12.out.trans h2); obtain ⟨s2, hs2⟩ := sl_owns h1; subst hs2; have Y13 := Lib.hid (vbox_below YB.out P13.out); clear h1 hg h2
                  refine hKq.out _ _ ?_ (fun hHeld => ?_)
                  · (try dsimp only); exact HQ.out _ P13.out
                  clear hKq Kq
                  try simp only [Act.put, List.setIfInBounds_toArray, List.set_cons_zero, List.set_cons_succ]
                  (refine wpAnyH_take (i := 14) (oi := ⟨_, _, _, _, _, _⟩) (v := ?_) rfl (by kernel_rfl) (by kernel_rfl) (by kernel_rfl) (fun _ _ _ h => h) (Or.inl ⟨by rfl, ?_⟩) (by assumption) ?_; rotate_left 1; · (intro w hSw; (try dsimp only at hSw); go_simp; all_goals with_reducible rfl))
                  try simp only [Act.put, List.setIfInBounds_toArray, List.set_cons_zero, List.set_cons_succ]
                  refine wpAnyH_ready (rs := [15]) (by kernel_rfl) (by simp) ?_
                  refine AllReadyH.cons (o := ⟨_, _, _, _, _, _⟩) rfl (fun Kq hKq => ?_) (AllReadyH.nil)
                  obtain ⟨o0, o1, o2, o3, o4⟩ := vbox_cells Y13.out
                  obtain ⟨f0, f1, f2, f3, f4⟩ := vbox_free Y13.out
                  go_simp
                  clear hHeld
                  clear o0 o1 o2 o3 o4 f0 f1 f2 f3 f4
                  refine hKq.out _ _ ?_ (fun hHeld => ?_)
                  · (try dsimp only); exact HQ2.out _ (by first | exact P13.out) _
                  clear hKq Kq
                  try simp only [Act.put, List.setIfInBounds_toArray, List.set_cons_zero, List.set_cons_succ]
                  refine wpAnyH_done (by kernel_rfl) ?_ _
                  go_wp2_with fail
                  go_meet
                  exact ⟨rfl, Lib.hid (rws_done RWW.out YBW.out P13.out O13.out HEr.out (⟨rfl, rfl, ids_box X10.out⟩) hn1 hn2 hn3 BWW.out hgw), Lib.hid ((UL.out.below P13.out).kp (kp_cell Y13.out 2 _))⟩
                · go_simp
                  clear hHeld
                  have hq : Below v0.heap.size v0 (v0.alloc (.cells #[.int .i64 x1, .int .i64 x2] 32)) := below_one v0 (.cells #[.int .i64 x1, .int .i64 x2] 32); have hz10 : v0.heap.size + 1 ≤ (v0.alloc (.cells #[.int .i64 x1, .int .i64 x2] 32)).heap.size := (show v0.heap.size + 1 ≤ (v0.alloc (.cells #[.int .i64 x1, .int .i64 x2] 32)).heap.size by simp); have P10 := Lib.hid (below_after P0.out hq (Nat.le_refl _)); have O0 := Lib.hid (OwnsR.below O0.out hq); have X10 := Lib.hid (show Box (v0.alloc (.cells #[.int .i64 x1, .int .i64 x2] 32)) v0.heap.size x1 x2 from box_new v0 x1 x2); generalize (v0.alloc (.cells #[.int .i64 x1, .int .i64 x2] 32)) = v10 at *; clear hq
                  refine hKq.out _ _ ?_ (fun hHeld => ?_)
                  · (try dsimp only); exact HQ.out _ P10.out
                  clear hKq Kq
                  try simp only [Act.put, List.setIfInBounds_toArray, List.set_cons_zero, List.set_cons_succ]
                  (refine wpAnyH_take (i := 11) (oi := ⟨_, _, _, _, _, _⟩) (v := ?_) rfl (by kernel_rfl) (by kernel_rfl) (by kernel_rfl) (fun _ _ _ h => h) (Or.inl ⟨by rfl, ?_⟩) (by assumption) ?_; rotate_left 1; · (intro w hSw; (try dsimp only at hSw); go_simp; all_goals with_reducible rfl))
                  try simp only [Act.put, List.setIfInBounds_toArray, List.set_cons_zero, List.set_cons_succ]
                  refine wpAnyH_ready (rs := [3, 12]) (by kernel_rfl) (by simp) ?_
                  refine AllReadyH.cons (o := ⟨_, _, _, _, _, _⟩) rfl (fun Kq hKq => ?_) (AllReadyH.cons (o := ⟨_, _, _, _, _, _⟩) rfl (fun Kq hKq => ?_) (AllReadyH.nil))
                  · clear hHeld
                    refine step_append_rows (by rfl) (.tmp 73) (.tmp 75) (by rfl) _ W0.heap.size _ _ [] qs (by rfl) (by rfl) O0.out (HRc.out _ P10.out) HLr.out P10.out.size ?_; intro s3 v3 h1 hg h2; have hz3 : v10.heap.size ≤ v3.heap.size := h2.size; have O3 := Lib.hid h1; have P3 := Lib.hid (P10.out.trans h2); have X10 := Lib.hid (box_grown X10.out hg (show (some W0.heap.size : Option Nat) ≠ some v0.heap.size from fun e => by have e2 : W0.heap.size = v0.heap.size := Option.some.inj e; omega)); clear h1 hg h2
                    refine hKq.out _ _ ?_ (fun hHeld => ?_)
                    · (try dsimp only); exact HQ.out _ P3.out
                    clear hKq Kq
                    try simp only [Act.put, List.setIfInBounds_toArray, List.set_cons_zero, List.set_cons_succ]
                    refine wpAnyH_ready (rs := [12]) (by kernel_rfl) (by simp) ?_
                    refine AllReadyH.cons (o := ⟨_, _, _, _, _, _⟩) rfl (fun Kq hKq => ?_) (AllReadyH.nil)
                    go_simp
                    clear hHeld
                    have hq : Below v3.heap.size v3 (v3.alloc (.cells #[.int .i64 x1, .int .i64 x2, .int .i64 x3, .slice (some ⟨v0.heap.size, 0, none⟩) 1 1] 37)) := below_one v3 (.cells #[.int .i64 x1, .int .i64 x2, .int .i64 x3, .slice (some ⟨v0.heap.size, 0, none⟩) 1 1] 37); have hz12 : v3.heap.size + 1 ≤ (v3.alloc (.cells #[.int .i64 x1, .int .i64 x2, .int .i64 x3, .slice (some ⟨v0.heap.size, 0, none⟩) 1 1] 37)).heap.size := (show v3.heap.size + 1 ≤ (v3.alloc (.cells #[.int .i64 x1, .int .i64 x2, .int .i64 x3, .slice (some ⟨v0.heap.size, 0, none⟩) 1 1] 37)).heap.size by simp); have P12 := Lib.hid (below_after P3.out hq (Nat.le_refl _)); have O3 := Lib.hid (OwnsR.below O3.out hq); have X10 := Lib.hid (box_below X10.out hq); have X12 := Lib.hid (show WBox (v3.alloc (.cells #[.int .i64 x1, .int .i64 x2, .int .i64 x3, .slice (some ⟨v0.heap.size, 0, none⟩) 1 1] 37)) v3.heap.size x1 x2 x3 _ from wbox_new v3 x1 x2 x3 _); generalize (v3.alloc (.cells #[.int .i64 x1, .int .i64 x2, .int .i64 x3, .slice (some ⟨v0.heap.size, 0, none⟩) 1 1] 37)) = v12 at *; clear hq
                    refine hKq.out _ _ ?_ (fun hHeld => ?_)
                    · (try dsimp only); exact HQ.out _ P12.out
                    clear hKq Kq
                    try simp only [Act.put, List.setIfInBounds_toArray, List.set_cons_zero, List.set_cons_succ]
                    refine wpAnyH_ready (rs := [13]) (by kernel_rfl) (by simp) ?_
                    refine AllReadyH.cons (o := ⟨_, _, _, _, _, _⟩) rfl (fun Kq hKq => ?_) (AllReadyH.nil)
                    clear hHeld
                    refine step_append_rows (by rfl) (.tmp 76) (.tmp 85) (by rfl) _ W0.heap.size _ _ ([] ++ qs) _ (by rfl) (by rfl) O3.out (rcs_wbox (s := (some ⟨v0.heap.size, 0, none⟩, 1, 1)) X12.out) HLq.out P12.out.size ?_; intro s13 v13 h1 hg h2; have X10 := Lib.hid (box_grown X10.out hg (ownsW_apart O3.out X10.out)); have O13 := Lib.hid h1; have P13 := Lib.hid (P12.out.trans h2); obtain ⟨s2, hs2⟩ := sl_owns h1; subst hs2; have Y13 := Lib.hid (vbox_below YB.out P13.out); clear h1 hg h2
                    refine hKq.out _ _ ?_ (fun hHeld => ?_)
                    · (try dsimp only); exact HQ.out _ P13.out
                    clear hKq Kq
                    try simp only [Act.put, List.setIfInBounds_toArray, List.set_cons_zero, List.set_cons_succ]
                    (refine wpAnyH_take (i := 14) (oi := ⟨_, _, _, _, _, _⟩) (v := ?_) rfl (by kernel_rfl) (by kernel_rfl) (by kernel_rfl) (fun _ _ _ h => h) (Or.inl ⟨by rfl, ?_⟩) (by assumption) ?_; rotate_left 1; · (intro w hSw; (try dsimp only at hSw); go_simp; all_goals with_reducible rfl))
                    try simp only [Act.put, List.setIfInBounds_toArray, List.set_cons_zero, List.set_cons_succ]
                    refine wpAnyH_ready (rs := [15]) (by kernel_rfl) (by simp) ?_
                    refine AllReadyH.cons (o := ⟨_, _, _, _, _, _⟩) rfl (fun Kq hKq => ?_) (AllReadyH.nil)
                    obtain ⟨o0, o1, o2, o3, o4⟩ := vbox_cells Y13.out
                    obtain ⟨f0, f1, f2, f3, f4⟩ := vbox_free Y13.out
                    go_simp
                    clear hHeld
                    clear o0 o1 o2 o3 o4 f0 f1 f2 f3 f4
                    refine hKq.out _ _ ?_ (fun hHeld => ?_)
                    · (try dsimp only); exact HQ2.out _ (by first | exact P13.out) _
                    clear hKq Kq
                    try simp only [Act.put, List.setIfInBounds_toArray, List.set_cons_zero, List.set_cons_succ]
                    refine wpAnyH_done (by kernel_rfl) ?_ _
                    go_wp2_with fail
                    go_meet
                    exact ⟨rfl, Lib.hid (rws_done RWW.out YBW.out P13.out O13.out HEr.out (⟨rfl, rfl, ids_box X10.out⟩) hn1 hn2 hn3 BWW.out hgw), Lib.hid ((UL.out.below P13.out).kp (kp_cell Y13.out 2 _))⟩
                  · go_simp
                    clear hHeld
                    have hq : Below v10.heap.size v10 (v10.alloc (.cells #[.int .i64 x1, .int .i64 x2, .int .i64 x3, .slice (some ⟨v0.heap.size, 0, none⟩) 1 1] 37)) := below_one v10 (.cells #[.int .i64 x1, .int .i64 x2, .int .i64 x3, .slice (some ⟨v0.heap.size, 0, none⟩) 1 1] 37); have hz12 : v10.heap.size + 1 ≤ (v10.alloc (.cells #[.int .i64 x1, .int .i64 x2, .int .i64 x3, .slice (some ⟨v0.heap.size, 0, none⟩) 1 1] 37)).heap.size := (show v10.heap.size + 1 ≤ (v10.alloc (.cells #[.int .i64 x1, .int .i64 x2, .int .i64 x3, .slice (some ⟨v0.heap.size, 0, none⟩) 1 1] 37)).heap.size by simp); have P12 := Lib.hid (below_after P10.out hq (Nat.le_refl _)); have O0 := Lib.hid (OwnsR.below O0.out hq); have X10 := Lib.hid (box_below X10.out hq); have X12 := Lib.hid (show WBox (v10.alloc (.cells #[.int .i64 x1, .int .i64 x2, .int .i64 x3, .slice (some ⟨v0.heap.size, 0, none⟩) 1 1] 37)) v10.heap.size x1 x2 x3 _ from wbox_new v10 x1 x2 x3 _); generalize (v10.alloc (.cells #[.int .i64 x1, .int .i64 x2, .int .i64 x3, .slice (some ⟨v0.heap.size, 0, none⟩) 1 1] 37)) = v12 at *; clear hq
                    refine hKq.out _ _ ?_ (fun hHeld => ?_)
                    · (try dsimp only); exact HQ.out _ P12.out
                    clear hKq Kq
                    try simp only [Act.put, List.setIfInBounds_toArray, List.set_cons_zero, List.set_cons_succ]
                    refine wpAnyH_ready (rs := [3]) (by kernel_rfl) (by simp) ?_
                    refine AllReadyH.cons (o := ⟨_, _, _, _, _, _⟩) rfl (fun Kq hKq => ?_) (AllReadyH.nil)
                    clear hHeld
                    refine step_append_rows (by rfl) (.tmp 73) (.tmp 75) (by rfl) _ W0.heap.size _ _ [] qs (by rfl) (by rfl) O0.out (HRc.out _ P12.out) HLr.out P12.out.size ?_; intro s3 v3 h1 hg h2; have hz3 : v12.heap.size ≤ v3.heap.size := h2.size; have O3 := Lib.hid h1; have P3 := Lib.hid (P12.out.trans h2); have X10 := Lib.hid (box_grown X10.out hg (show (some W0.heap.size : Option Nat) ≠ some v0.heap.size from fun e => by have e2 : W0.heap.size = v0.heap.size := Option.some.inj e; omega)); have X12 := Lib.hid (wbox_grown X12.out hg (show (some W0.heap.size : Option Nat) ≠ some v10.heap.size from fun e => by have e2 : W0.heap.size = v10.heap.size := Option.some.inj e; omega)); clear h1 hg h2
                    refine hKq.out _ _ ?_ (fun hHeld => ?_)
                    · (try dsimp only); exact HQ.out _ P3.out
                    clear hKq Kq
                    try simp only [Act.put, List.setIfInBounds_toArray, List.set_cons_zero, List.set_cons_succ]
                    refine wpAnyH_ready (rs := [13]) (by kernel_rfl) (by simp) ?_
                    refine AllReadyH.cons (o := ⟨_, _, _, _, _, _⟩) rfl (fun Kq hKq => ?_) (AllReadyH.nil)
                    clear hHeld
                    refine step_append_rows (by rfl) (.tmp 76) (.tmp 85) (by rfl) _ W0.heap.size _ _ ([] ++ qs) _ (by rfl) (by rfl) O3.out (rcs_wbox (s := (some ⟨v0.heap.size, 0, none⟩, 1, 1)) X12.out) HLq.out P3.out.size ?_; intro s13 v13 h1 hg h2; have X10 := Lib.hid (box_grown X10.out hg (ownsW_apart O3.out X10.out)); have O13 := Lib.hid h1; have P13 := Lib.hid (P3.out.trans h2); obtain ⟨s2, hs2⟩ := sl_owns h1; subst hs2; have Y13 := Lib.hid (vbox_below YB.out P13.out); clear h1 hg h2
                    refine hKq.out _ _ ?_ (fun hHeld => ?_)
                    · (try dsimp only); exact HQ.out _ P13.out
                    clear hKq Kq
                    try simp only [Act.put, List.setIfInBounds_toArray, List.set_cons_zero, List.set_cons_succ]
                    (refine wpAnyH_take (i := 14) (oi := ⟨_, _, _, _, _, _⟩) (v := ?_) rfl (by kernel_rfl) (by kernel_rfl) (by kernel_rfl) (fun _ _ _ h => h) (Or.inl ⟨by rfl, ?_⟩) (by assumption) ?_; rotate_left 1; · (intro w hSw; (try dsimp only at hSw); go_simp; all_goals with_reducible rfl))
                    try simp only [Act.put, List.setIfInBounds_toArray, List.set_cons_zero, List.set_cons_succ]
                    refine wpAnyH_ready (rs := [15]) (by kernel_rfl) (by simp) ?_
                    refine AllReadyH.cons (o := ⟨_, _, _, _, _, _⟩) rfl (fun Kq hKq => ?_) (AllReadyH.nil)
                    obtain ⟨o0, o1, o2, o3, o4⟩ := vbox_cells Y13.out
                    obtain ⟨f0, f1, f2, f3, f4⟩ := vbox_free Y13.out
                    go_simp
                    clear hHeld
                    clear o0 o1 o2 o3 o4 f0 f1 f2 f3 f4
                    refine hKq.out _ _ ?_ (fun hHeld => ?_)
                    · (try dsimp only); exact HQ2.out _ (by first | exact P13.out) _
                    clear hKq Kq
                    try simp only [Act.put, List.setIfInBounds_toArray, List.set_cons_zero, List.set_cons_succ]
                    refine wpAnyH_done (by kernel_rfl) ?_ _
                    go_wp2_with fail
                    go_meet
                    exact ⟨rfl, Lib.hid (rws_done RWW.out YBW.out P13.out O13.out HEr.out (⟨rfl, rfl, ids_box X10.out⟩) hn1 hn2 hn3 BWW.out hgw), Lib.hid ((UL.out.below P13.out).kp (kp_cell Y13.out 2 _))⟩
              · go_simp
                clear hHeld
                have hq : Below W0.heap.size W0 (W0.alloc (.cells #[.int .i64 x1, .int .i64 x2] 32)).drew := (below_one W0 (.cells #[.int .i64 x1, .int .i64 x2] 32)).drew; have hz10 : W0.heap.size + 1 ≤ (W0.alloc (.cells #[.int .i64 x1, .int .i64 x2] 32)).drew.heap.size := (show W0.heap.size + 1 ≤ (W0.alloc (.cells #[.int .i64 x1, .int .i64 x2] 32)).heap.size by simp); have P10 := Lib.hid (show Below W0.heap.size W0 (W0.alloc (.cells #[.int .i64 x1, .int .i64 x2] 32)).drew from hq); have X10 := Lib.hid (show Box (W0.alloc (.cells #[.int .i64 x1, .int .i64 x2] 32)).drew W0.heap.size x1 x2 from box_new W0 x1 x2); generalize (W0.alloc (.cells #[.int .i64 x1, .int .i64 x2] 32)).drew = v10 at *; clear hq
                refine hKq.out _ _ ?_ (fun hHeld => ?_)
                · (try dsimp only); exact HQ.out _ P10.out
                clear hKq Kq
                try simp only [Act.put, List.setIfInBounds_toArray, List.set_cons_zero, List.set_cons_succ]
                (refine wpAnyH_take (i := 11) (oi := ⟨_, _, _, _, _, _⟩) (v := ?_) rfl (by kernel_rfl) (by kernel_rfl) (by kernel_rfl) (fun _ _ _ h => h) (Or.inl ⟨by rfl, ?_⟩) (by assumption) ?_; rotate_left 1; · (intro w hSw; (try dsimp only at hSw); go_simp; all_goals with_reducible rfl))
                try simp only [Act.put, List.setIfInBounds_toArray, List.set_cons_zero, List.set_cons_succ]
                refine wpAnyH_ready (rs := [0, 12]) (by kernel_rfl) (by simp) ?_
                refine AllReadyH.cons (o := ⟨_, _, _, _, _, _⟩) rfl (fun Kq hKq => ?_) (AllReadyH.cons (o := ⟨_, _, _, _, _, _⟩) rfl (fun Kq hKq => ?_) (AllReadyH.nil))
                · go_simp
                  clear hHeld
                  have hq : Below v10.heap.size v10 (v10.alloc (.cells #[] 37)) := below_one v10 (.cells #[] 37); have hz0 : v10.heap.size + 1 ≤ (v10.alloc (.cells #[] 37)).heap.size := (show v10.heap.size + 1 ≤ (v10.alloc (.cells #[] 37)).heap.size by simp); have P0 := Lib.hid (below_after P10.out hq (Nat.le_refl _)); have X10 := Lib.hid (box_below X10.out hq); have O0 := Lib.hid (show OwnsW (v10.alloc (.cells #[] 37)) W0.heap.size (.slice (some ⟨v10.heap.size, 0, none⟩) 0 0) [] from World.ownsRow_made v10 #[] 0 P10.out.size (Nat.zero_le _) (by simp)); generalize (v10.alloc (.cells #[] 37)) = v0 at *; clear hq
                  refine hKq.out _ _ ?_ (fun hHeld => ?_)
                  · (try dsimp only); exact HQ.out _ P0.out
                  clear hKq Kq
                  try simp only [Act.put, List.setIfInBounds_toArray, List.set_cons_zero, List.set_cons_succ]
                  refine wpAnyH_ready (rs := [3, 12]) (by kernel_rfl) (by simp) ?_
                  refine AllReadyH.cons (o := ⟨_, _, _, _, _, _⟩) rfl (fun Kq hKq => ?_) (AllReadyH.cons (o := ⟨_, _, _, _, _, _⟩) rfl (fun Kq hKq => ?_) (AllReadyH.nil))
                  · clear hHeld
                    refine step_append_rows (by rfl) (.tmp 73) (.tmp 75) (by rfl) _ W0.heap.size _ _ [] qs (by rfl) (by rfl) O0.out (HRc.out _ P0.out) HLr.out P0.out.size ?_; intro s3 v3 h1 hg h2; have hz3 : v0.heap.size ≤ v3.heap.size := h2.size; have O3 := Lib.hid h1; have P3 := Lib.hid (P0.out.trans h2); have X10 := Lib.hid (box_grown X10.out hg (show (some v10.heap.size : Option Nat) ≠ some W0.heap.size from fun e => by have e2 : v10.heap.size = W0.heap.size := Option.some.inj e; omega)); clear h1 hg h2
                    refine hKq.out _ _ ?_ (fun hHeld => ?_)
                    · (try dsimp only); exact HQ.out _ P3.out
                    clear hKq Kq
                    try simp only [Act.put, List.setIfInBounds_toArray, List.set_cons_zero, List.set_cons_succ]
                    refine wpAnyH_ready (rs := [12]) (by kernel_rfl) (by simp) ?_
                    refine AllReadyH.cons (o := ⟨_, _, _, _, _, _⟩) rfl (fun Kq hKq => ?_) (AllReadyH.nil)
                    go_simp
                    clear hHeld
                    have hq : Below v3.heap.size v3 (v3.alloc (.cells #[.int .i64 x1, .int .i64 x2, .int .i64 x3, .slice (some ⟨W0.heap.size, 0, none⟩) 1 1] 37)) := below_one v3 (.cells #[.int .i64 x1, .int .i64 x2, .int .i64 x3, .slice (some ⟨W0.heap.size, 0, none⟩) 1 1] 37); have hz12 : v3.heap.size + 1 ≤ (v3.alloc (.cells #[.int .i64 x1, .int .i64 x2, .int .i64 x3, .slice (some ⟨W0.heap.size, 0, none⟩) 1 1] 37)).heap.size := (show v3.heap.size + 1 ≤ (v3.alloc (.cells #[.int .i64 x1, .int .i64 x2, .int .i64 x3, .slice (some ⟨W0.heap.size, 0, none⟩) 1 1] 37)).heap.size by simp); have P12 := Lib.hid (below_after P3.out hq (Nat.le_refl _)); have O3 := Lib.hid (OwnsR.below O3.out hq); have X10 := Lib.hid (box_below X10.out hq); have X12 := Lib.hid (show WBox (v3.alloc (.cells #[.int .i64 x1, .int .i64 x2, .int .i64 x3, .slice (some ⟨W0.heap.size, 0, none⟩) 1 1] 37)) v3.heap.size x1 x2 x3 _ from wbox_new v3 x1 x2 x3 _); generalize (v3.alloc (.cells #[.int .i64 x1, .int .i64 x2, .int .i64 x3, .slice (some ⟨W0.heap.size, 0, none⟩) 1 1] 37)) = v12 at *; clear hq
                    refine hKq.out _ _ ?_ (fun hHeld => ?_)
                    · (try dsimp only); exact HQ.out _ P12.out
                    clear hKq Kq
                    try simp only [Act.put, List.setIfInBounds_toArray, List.set_cons_zero, List.set_cons_succ]
                    refine wpAnyH_ready (rs := [13]) (by kernel_rfl) (by simp) ?_
                    refine AllReadyH.cons (o := ⟨_, _, _, _, _, _⟩) rfl (fun Kq hKq => ?_) (AllReadyH.nil)
                    clear hHeld
                    refine step_append_rows (by rfl) (.tmp 76) (.tmp 85) (by rfl) _ W0.heap.size _ _ ([] ++ qs) _ (by rfl) (by rfl) O3.out (rcs_wbox (s := (some ⟨W0.heap.size, 0, none⟩, 1, 1)) X12.out) HLq.out P12.out.size ?_; intro s13 v13 h1 hg h2; have X10 := Lib.hid (box_grown X10.out hg (ownsW_apart O3.out X10.out)); have O13 := Lib.hid h1; have P13 := Lib.hid (P12.out.trans h2); obtain ⟨s2, hs2⟩ := sl_owns h1; subst hs2; have Y13 := Lib.hid (vbox_below YB.out P13.out); clear h1 hg h2
                    refine hKq.out _ _ ?_ (fun hHeld => ?_)
                    · (try dsimp only); exact HQ.out _ P13.out
                    clear hKq Kq
                    try simp only [Act.put, List.setIfInBounds_toArray, List.set_cons_zero, List.set_cons_succ]
                    (refine wpAnyH_take (i := 14) (oi := ⟨_, _, _, _, _, _⟩) (v := ?_) rfl (by kernel_rfl) (by kernel_rfl) (by kernel_rfl) (fun _ _ _ h => h) (Or.inl ⟨by rfl, ?_⟩) (by assumption) ?_; rotate_left 1; · (intro w hSw; (try dsimp only at hSw); go_simp; all_goals with_reducible rfl))
                    try simp only [Act.put, List.setIfInBounds_toArray, List.set_cons_zero, List.set_cons_succ]
                    refine wpAnyH_ready (rs := [15]) (by kernel_rfl) (by simp) ?_
                    refine AllReadyH.cons (o := ⟨_, _, _, _, _, _⟩) rfl (fun Kq hKq => ?_) (AllReadyH.nil)
                    obtain ⟨o0, o1, o2, o3, o4⟩ := vbox_cells Y13.out
                    obtain ⟨f0, f1, f2, f3, f4⟩ := vbox_free Y13.out
                    go_simp
                    clear hHeld
                    clear o0 o1 o2 o3 o4 f0 f1 f2 f3 f4
                    refine hKq.out _ _ ?_ (fun hHeld => ?_)
                    · (try dsimp only); exact HQ2.out _ (by first | exact P13.out) _
                    clear hKq Kq
                    try simp only [Act.put, List.setIfInBounds_toArray, List.set_cons_zero, List.set_cons_succ]
                    refine wpAnyH_done (by kernel_rfl) ?_ _
                    go_wp2_with fail
                    go_meet
                    exact ⟨rfl, Lib.hid (rws_done RWW.out YBW.out P13.out O13.out HEr.out (⟨rfl, rfl, ids_box X10.out⟩) hn1 hn2 hn3 BWW.out hgw), Lib.hid ((UL.out.below P13.out).kp (kp_cell Y13.out 2 _))⟩
                  · go_simp
                    clear hHeld
                    have hq : Below v0.heap.size v0 (v0.alloc (.cells #[.int .i64 x1, .int .i64 x2, .int .i64 x3, .slice (some ⟨W0.heap.size, 0, none⟩) 1 1] 37)) := below_one v0 (.cells #[.int .i64 x1, .int .i64 x2, .int .i64 x3, .slice (some ⟨W0.heap.size, 0, none⟩) 1 1] 37); have hz12 : v0.heap.size + 1 ≤ (v0.alloc (.cells #[.int .i64 x1, .int .i64 x2, .int .i64 x3, .slice (some ⟨W0.heap.size, 0, none⟩) 1 1] 37)).heap.size := (show v0.heap.size + 1 ≤ (v0.alloc (.cells #[.int .i64 x1, .int .i64 x2, .int .i64 x3, .slice (some ⟨W0.heap.size, 0, none⟩) 1 1] 37)).heap.size by simp); have P12 := Lib.hid (below_after P0.out hq (Nat.le_refl _)); have O0 := Lib.hid (OwnsR.below O0.out hq); have X10 := Lib.hid (box_below X10.out hq); have X12 := Lib.hid (show WBox (v0.alloc (.cells #[.int .i64 x1, .int .i64 x2, .int .i64 x3, .slice (some ⟨W0.heap.size, 0, none⟩) 1 1] 37)) v0.heap.size x1 x2 x3 _ from wbox_new v0 x1 x2 x3 _); generalize (v0.alloc (.cells #[.int .i64 x1, .int .i64 x2, .int .i64 x3, .slice (some ⟨W0.heap.size, 0, none⟩) 1 1] 37)) = v12 at *; clear hq
                    refine hKq.out _ _ ?_ (fun hHeld => ?_)
                    · (try dsimp only); exact HQ.out _ P12.out
                    clear hKq Kq
                    try simp only [Act.put, List.setIfInBounds_toArray, List.set_cons_zero, List.set_cons_succ]
                    refine wpAnyH_ready (rs := [3]) (by kernel_rfl) (by simp) ?_
                    refine AllReadyH.cons (o := ⟨_, _, _, _, _, _⟩) rfl (fun Kq hKq => ?_) (AllReadyH.nil)
                    clear hHeld
                    refine step_append_rows (by rfl) (.tmp 73) (.tmp 75) (by rfl) _ W0.heap.size _ _ [] qs (by rfl) (by rfl) O0.out (HRc.out _ P12.out) HLr.out P12.out.size ?_; intro s3 v3 h1 hg h2; have hz3 : v12.heap.size ≤ v3.heap.size := h2.size; have O3 := Lib.hid h1; have P3 := Lib.hid (P12.out.trans h2); have X10 := Lib.hid (box_grown X10.out hg (show (some v10.heap.size : Option Nat) ≠ some W0.heap.size from fun e => by have e2 : v10.heap.size = W0.heap.size := Option.some.inj e; omega)); have X12 := Lib.hid (wbox_grown X12.out hg (show (some v10.heap.size : Option Nat) ≠ some v0.heap.size from fun e => by have e2 : v10.heap.size = v0.heap.size := Option.some.inj e; omega)); clear h1 hg h2
                    refine hKq.out _ _ ?_ (fun hHeld => ?_)
                    · (try dsimp only); exact HQ.out _ P3.out
                    clear hKq Kq
                    try simp only [Act.put, List.setIfInBounds_toArray, List.set_cons_zero, List.set_cons_succ]
                    refine wpAnyH_ready (rs := [13]) (by kernel_rfl) (by simp) ?_
                    refine AllReadyH.cons (o := ⟨_, _, _, _, _, _⟩) rfl (fun Kq hKq => ?_) (AllReadyH.nil)
                    clear hHeld
                    refine step_append_rows (by rfl) (.tmp 76) (.tmp 85) (by rfl) _ W0.heap.size _ _ ([] ++ qs) _ (by rfl) (by rfl) O3.out (rcs_wbox (s := (some ⟨W0.heap.size, 0, none⟩, 1, 1)) X12.out) HLq.out P3.out.size ?_; intro s13 v13 h1 hg h2; have X10 := Lib.hid (box_grown X10.out hg (ownsW_apart O3.out X10.out)); have O13 := Lib.hid h1; have P13 := Lib.hid (P3.out.trans h2); obtain ⟨s2, hs2⟩ := sl_owns h1; subst hs2; have Y13 := Lib.hid (vbox_below YB.out P13.out); clear h1 hg h2
                    refine hKq.out _ _ ?_ (fun hHeld => ?_)
                    · (try dsimp only); exact HQ.out _ P13.out
                    clear hKq Kq
                    try simp only [Act.put, List.setIfInBounds_toArray, List.set_cons_zero, List.set_cons_succ]
                    (refine wpAnyH_take (i := 14) (oi := ⟨_, _, _, _, _, _⟩) (v := ?_) rfl (by kernel_rfl) (by kernel_rfl) (by kernel_rfl) (fun _ _ _ h => h) (Or.inl ⟨by rfl, ?_⟩) (by assumption) ?_; rotate_left 1; · (intro w hSw; (try dsimp only at hSw); go_simp; all_goals with_reducible rfl))
                    try simp only [Act.put, List.setIfInBounds_toArray, List.set_cons_zero, List.set_cons_succ]
                    refine wpAnyH_ready (rs := [15]) (by kernel_rfl) (by simp) ?_
                    refine AllReadyH.cons (o := ⟨_, _, _, _, _, _⟩) rfl (fun Kq hKq => ?_) (AllReadyH.nil)
                    obtain ⟨o0, o1, o2, o3, o4⟩ := vbox_cells Y13.out
                    obtain ⟨f0, f1, f2, f3, f4⟩ := vbox_free Y13.out
                    go_simp
                    clear hHeld
                    clear o0 o1 o2 o3 o4 f0 f1 f2 f3 f4
                    refine hKq.out _ _ ?_ (fun hHeld => ?_)
                    · (try dsimp only); exact HQ2.out _ (by first | exact P13.out) _
                    clear hKq Kq
                    try simp only [Act.put, List.setIfInBounds_toArray, List.set_cons_zero, List.set_cons_succ]
                    refine wpAnyH_done (by kernel_rfl) ?_ _
                    go_wp2_with fail
                    go_meet
                    exact ⟨rfl, Lib.hid (rws_done RWW.out YBW.out P13.out O13.out HEr.out (⟨rfl, rfl, ids_box X10.out⟩) hn1 hn2 hn3 BWW.out hgw), Lib.hid ((UL.out.below P13.out).kp (kp_cell Y13.out 2 _))⟩
                · go_simp
                  clear hHeld
                  have hq : Below v10.heap.size v10 (v10.alloc (.cells #[.int .i64 x1, .int .i64 x2, .int .i64 x3, .slice (some ⟨W0.heap.size, 0, none⟩) 1 1] 37)) := below_one v10 (.cells #[.int .i64 x1, .int .i64 x2, .int .i64 x3, .slice (some ⟨W0.heap.size, 0, none⟩) 1 1] 37); have hz12 : v10.heap.size + 1 ≤ (v10.alloc (.cells #[.int .i64 x1, .int .i64 x2, .int .i64 x3, .slice (some ⟨W0.heap.size, 0, none⟩) 1 1] 37)).heap.size := (show v10.heap.size + 1 ≤ (v10.alloc (.cells #[.int .i64 x1, .int .i64 x2, .int .i64 x3, .slice (some ⟨W0.heap.size, 0, none⟩) 1 1] 37)).heap.size by simp); have P12 := Lib.hid (below_after P10.out hq (Nat.le_refl _)); have X10 := Lib.hid (box_below X10.out hq); have X12 := Lib.hid (show WBox (v10.alloc (.cells #[.int .i64 x1, .int .i64 x2, .int .i64 x3, .slice (some ⟨W0.heap.size, 0, none⟩) 1 1] 37)) v10.heap.size x1 x2 x3 _ from wbox_new v10 x1 x2 x3 _); generalize (v10.alloc (.cells #[.int .i64 x1, .int .i64 x2, .int .i64 x3, .slice (some ⟨W0.heap.size, 0, none⟩) 1 1] 37)) = v12 at *; clear hq
                  refine hKq.out _ _ ?_ (fun hHeld => ?_)
                  · (try dsimp only); exact HQ.out _ P12.out
                  clear hKq Kq
                  try simp only [Act.put, List.setIfInBounds_toArray, List.set_cons_zero, List.set_cons_succ]
                  refine wpAnyH_ready (rs := [0]) (by kernel_rfl) (by simp) ?_
                  refine AllReadyH.cons (o := ⟨_, _, _, _, _, _⟩) rfl (fun Kq hKq => ?_) (AllReadyH.nil)
                  go_simp
                  clear hHeld
                  have hq : Below v12.heap.size v12 (v12.alloc (.cells #[] 37)) := below_one v12 (.cells #[] 37); have hz0 : v12.heap.size + 1 ≤ (v12.alloc (.cells #[] 37)).heap.size := (show v12.heap.size + 1 ≤ (v12.alloc (.cells #[] 37)).heap.size by simp); have P0 := Lib.hid (below_after P12.out hq (Nat.le_refl _)); have X10 := Lib.hid (box_below X10.out hq); have X12 := Lib.hid (wbox_below X12.out hq); have O0 := Lib.hid (show OwnsW (v12.alloc (.cells #[] 37)) W0.heap.size (.slice (some ⟨v12.heap.size, 0, none⟩) 0 0) [] from World.ownsRow_made v12 #[] 0 P12.out.size (Nat.zero_le _) (by simp)); generalize (v12.alloc (.cells #[] 37)) = v0 at *; clear hq
                  refine hKq.out _ _ ?_ (fun hHeld => ?_)
                  · (try dsimp only); exact HQ.out _ P0.out
                  clear hKq Kq
                  try simp only [Act.put, List.setIfInBounds_toArray, List.set_cons_zero, List.set_cons_succ]
                  refine wpAnyH_ready (rs := [3]) (by kernel_rfl) (by simp) ?_
                  refine AllReadyH.cons (o := ⟨_, _, _, _, _, _⟩) rfl (fun Kq hKq => ?_) (AllReadyH.nil)
                  clear hHeld
                  refine step_append_rows (by rfl) (.tmp 73) (.tmp 75) (by rfl) _ W0.heap.size _ _ [] qs (by rfl) (by rfl) O0.out (HRc.out _ P0.out) HLr.out P0.out.size ?_; intro s3 v3 h1 hg h2; have hz3 : v0.heap.size ≤ v3.heap.size := h2.size; have O3 := Lib.hid h1; have P3 := Lib.hid (P0.out.trans h2); have X10 := Lib.hid (box_grown X10.out hg (show (some v12.heap.size : Option Nat) ≠ some W0.heap.size from fun e => by have e2 : v12.heap.size = W0.heap.size := Option.some.inj e; omega)); have X12 := Lib.hid (wbox_grown X12.out hg (show (some v12.heap.size : Option Nat) ≠ some v10.heap.size from fun e => by have e2 : v12.heap.size = v10.heap.size := Option.some.inj e; omega)); clear h1 hg h2
                  refine hKq.out _ _ ?_ (fun hHeld => ?_)
                  · (try dsimp only); exact HQ.out _ P3.out
                  clear hKq Kq
                  try simp only [Act.put, List.setIfInBounds_toArray, List.set_cons_zero, List.set_cons_succ]
                  refine wpAnyH_ready (rs := [13]) (by kernel_rfl) (by simp) ?_
                  refine AllReadyH.cons (o := ⟨_, _, _, _, _, _⟩) rfl (fun Kq hKq => ?_) (AllReadyH.nil)
                  clear hHeld
                  refine step_append_rows (by rfl) (.tmp 76) (.tmp 85) (by rfl) _ W0.heap.size _ _ ([] ++ qs) _ (by rfl) (by rfl) O3.out (rcs_wbox (s := (some ⟨W0.heap.size, 0, none⟩, 1, 1)) X12.out) HLq.out P3.out.size ?_; intro s13 v13 h1 hg h2; have X10 := Lib.hid (box_grown X10.out hg (ownsW_apart O3.out X10.out)); have O13 := Lib.hid h1; have P13 := Lib.hid (P3.out.trans h2); obtain ⟨s2, hs2⟩ := sl_owns h1; subst hs2; have Y13 := Lib.hid (vbox_below YB.out P13.out); clear h1 hg h2
                  refine hKq.out _ _ ?_ (fun hHeld => ?_)
                  · (try dsimp only); exact HQ.out _ P13.out
                  clear hKq Kq
                  try simp only [Act.put, List.setIfInBounds_toArray, List.set_cons_zero, List.set_cons_succ]
                  (refine wpAnyH_take (i := 14) (oi := ⟨_, _, _, _, _, _⟩) (v := ?_) rfl (by kernel_rfl) (by kernel_rfl) (by kernel_rfl) (fun _ _ _ h => h) (Or.inl ⟨by rfl, ?_⟩) (by assumption) ?_; rotate_left 1; · (intro w hSw; (try dsimp only at hSw); go_simp; all_goals with_reducible rfl))
                  try simp only [Act.put, List.setIfInBounds_toArray, List.set_cons_zero, List.set_cons_succ]
                  refine wpAnyH_ready (rs := [15]) (by kernel_rfl) (by simp) ?_
                  refine AllReadyH.cons (o := ⟨_, _, _, _, _, _⟩) rfl (fun Kq hKq => ?_) (AllReadyH.nil)
                  obtain ⟨o0, o1, o2, o3, o4⟩ := vbox_cells Y13.out
                  obtain ⟨f0, f1, f2, f3, f4⟩ := vbox_free Y13.out
                  go_simp
                  clear hHeld
                  clear o0 o1 o2 o3 o4 f0 f1 f2 f3 f4
                  refine hKq.out _ _ ?_ (fun hHeld => ?_)
                  · (try dsimp only); exact HQ2.out _ (by first | exact P13.out) _
                  clear hKq Kq
                  try simp only [Act.put, List.setIfInBounds_toArray, List.set_cons_zero, List.set_cons_succ]
                  refine wpAnyH_done (by kernel_rfl) ?_ _
                  go_wp2_with fail
                  go_meet
                  exact ⟨rfl, Lib.hid (rws_done RWW.out YBW.out P13.out O13.out HEr.out (⟨rfl, rfl, ids_box X10.out⟩) hn1 hn2 hn3 BWW.out hgw), Lib.hid ((UL.out.below P13.out).kp (kp_cell Y13.out 2 _))⟩
            case rest =>
              obtain ⟨rfl, HD, UL2⟩ := hcut
              clear HQ HQ2 HRc HEr HLr HLq YB RWW YBW BWW
              rename World => wf
              obtain ⟨s3, hy3, hra3, hrs3, hbw3⟩ := HD.out
              have AF : Hid (AgV g2 a b s3 d e ⟨V.m, V.f, V.r ++ [((x1, x2), x3, [(x1, x2)])], V.c, V.s⟩ wf) := Lib.hid ⟨hy3, ⟨hrs3.v.r.m, hrs3.v.r.f, hra3, hrs3.v.r.c, hrs3.v.r.s⟩⟩
              have BF := Lib.hid hbw3
              have hbf : b1 ≤ wf.heap.size := by have := HB1.out; have := hbw3.size; omega
              clear hy3 hra3 hrs3 hbw3 HD
              have HV3 : Hid (FitA ⟨V.m, V.f, V.r ++ [((x1, x2), x3, [(x1, x2)])], V.c, V.s⟩) := Lib.hid ⟨HV.out.m, by have := HL.out; unfold FitL at this; simp; omega, HV.out.s, by have h1 := HL.out; unfold FitL at h1; show ((V.r ++ [((x1, x2), x3, [(x1, x2)])]).map fun r => r.2.2.length).sum ≤ 100000; rw [List.map_append, List.sum_append]; have h3 : (V.r.map fun r => r.2.2.length).sum = sumN V.r := rfl; rw [h3]; simp; omega⟩
              have HSm : Hid (Agr.nr V.m (V.r ++ [((x1, x2), x3, [(x1, x2)])]) = Agr.nr V.m V.r) := Lib.hid (Agr.nr_same fun y _ h1 h2 => h1 (List.mem_singleton.1 h2).symm)
              obtain ⟨p0, p1, p2, p3, p4⟩ := vbox_cells AF.out.x
              go_wp2_with fail
              clear p0 p1 p2 p3 p4
              (with_reducible refine (notReached_any _ _ wf AF.out.at_ HV3.out).mono ?_)
              rw [HSm.out]
              rintro eb wg ⟨vb, rfl, ho, hb⟩
              have L8 := Lib.hid (ids_of_owns ho)
              have L9 := Lib.hid (UL2.out.below hb)
              have B8 := Lib.hid (BF.out.trans (hb.mono hbf))
              have hbg : b1 ≤ wg.heap.size := Nat.le_trans hbf hb.size
              clear hb ho AF BF UL2
              go_wp2_with fail
              (with_reducible refine (ids_any _ _ _ _ wg L9.out L8.out (by have := Agr.nr_len V.m V.r; have := HV.out.m; omega)).mono ?_)
              rw [show sameB (Agr.nr V.m V.r) (Agr.nr V.m V.r) = true from decide_eq_true rfl]
              rintro ec wh ⟨rfl, hb⟩
              have B9 := Lib.hid (B8.out.trans (hb.mono hbg))
              clear hb
              go_wp2_with fail
              go_ret
              exact ⟨rfl, by rw [← HB1.out]; exact B9.out⟩
end Go.Proofs.YtloghkiabgnpnaaDoor
