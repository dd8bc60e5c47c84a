/-
  A walk over a frame that is copied with all its lists. No statement is proved in this text.
-/
import Derived.Test.YtmgiglefabbmcaaOutD
set_option maxRecDepth 20000
namespace Go.Proofs.Ytmgiglefabbmcaa
open Go Go.RowKit
theorem fc_zero : fc q0 = #[.int .u8 0, .int .i64 0, .int .i64 0, .int .i64 0, .int .i64 0, .int .i64 0, .int .i64 0, .int .i64 0, .int .i64 0, .slice none 0 0, .slice none 0 0, .slice none 0 0, .slice none 0 0, .slice none 0 0] := rfl
theorem setRow_set {w : World} {g : Nat} {cs ds : Array Value} {t : TypeId} (h : w.heap[g]? = some (.cells cs t (0, 0))) : (w.setRow g ds).heap[g]? = some (.cells ds t (0, 0)) := setRow_heap w g cs ds t (0, 0) h
theorem below_setRow {B : Nat} {w W : World} (h : Below B w W) {g : Nat} (hg : B ≤ g) (ds : Array Value) : Below B w (W.setRow g ds) := ⟨h.os, h.tape, h.output, by simpa using h.size, fun k hk => (setRow_other W g k ds (by omega)).trans (h.block k hk)⟩
theorem RawFrame.eta (q : Fq) : q = ⟨q.F, q.a, q.b, q.c, q.d, q.e⟩ := rfl
set_option maxHeartbeats 16000000 in
theorem apart_any (q : Fq) (w : World) (h : FR w q) (hV : Fit 20000 q.F.v) :
    Calls Try.prog 29 #[.agg (fc q)] w fun e w' => ∃ u, e = .returned (.agg (fc u)) ∧ u.F = q.F ∧ FO (fun k => w.heap.size ≤ k) w' u ∧ Below w.heap.size w w' := by
  have HF := Lib.hid hV
  have HR := Lib.hid h
  have G0 := Lib.hid (ApG.first w q)
  rw [fc_zero] at G0
  clear h hV
  obtain ⟨p0, p1, p2, p3, p4, p5, p6, p7, p8, p9, p10, p11, p12, p13⟩ := fb_cells G0.out.x
  obtain ⟨-, -, -, -, -, -, -, -, -, f9, -, -, -, -⟩ := fb_free G0.out.x
  go_enter Try.func29, Try.ntmps29
  go_wp2_with fail
  generalize (w.alloc (.cells (fc q) 32)).alloc (.cells #[.int .u8 0, .int .i64 0, .int .i64 0, .int .i64 0, .int .i64 0, .int .i64 0, .int .i64 0, .int .i64 0, .int .i64 0, .slice none 0 0, .slice none 0 0, .slice none 0 0, .slice none 0 0, .slice none 0 0] 32) = w0 at *
  have C0 := Lib.hid (show Rcs encM 4 w0 (.slice q.a.1 q.a.2.1 q.a.2.2) q.F.v.m from (HR.out.below G0.out.b).m)
  (with_reducible refine (copiedM_any _ q.F.v.m _ C0.out (Nat.le_trans HF.out.m (by decide))).mono ?_)
  rintro e0 v0 ⟨X, rfl, ho, hb⟩
  obtain ⟨s0, rfl⟩ := (G0.out.new ho).sl
  have O0 := Lib.hid (G0.out.new ho)
  have H0 := Lib.hid (G0.out.step hb)
  clear ho hb C0 p0 p1 p2 p3 p4 p5 p6 p7 p8 p9 p10 p11 p12 p13 f9 G0 
  obtain ⟨p0, p1, p2, p3, p4, p5, p6, p7, p8, p9, p10, p11, p12, p13⟩ := fb_cells H0.out.x
  obtain ⟨-, -, -, -, -, -, -, -, -, f9, -, -, -, -⟩ := fb_free H0.out.x
  go_wp2_with fail
  have G1 := Lib.hid (H0.out.put (fb_seta H0.out.x s0))
  have P0 := Lib.hid (O0.out.past 9 (.slice s0.1 s0.2.1 s0.2.2))
  clear p0 p1 p2 p3 p4 p5 p6 p7 p8 p9 p10 p11 p12 p13 f9 H0 O0 
  generalize v0.setCell ⟨w.heap.size, 9, none⟩ (.slice s0.1 s0.2.1 s0.2.2) = w1 at *
  obtain ⟨p0, p1, p2, p3, p4, p5, p6, p7, p8, p9, p10, p11, p12, p13⟩ := fb_cells G1.out.x
  dsimp only at p0 p1 p2 p3 p4 p5 p6 p7 p8 p9 p10 p11 p12 p13
  obtain ⟨-, -, -, -, -, -, -, -, -, -, f9, -, -, -⟩ := fb_free G1.out.x
  go_wp2_with fail
  have C1 := Lib.hid (show Rcs encI 2 w1 (.slice q.b.1 q.b.2.1 q.b.2.2) q.F.v.f from (HR.out.below G1.out.b).f)
  (with_reducible refine (copiedI_any _ q.F.v.f _ C1.out (Nat.le_trans HF.out.f (by decide))).mono ?_)
  rintro e1 v1 ⟨X, rfl, ho, hb⟩
  obtain ⟨s1, rfl⟩ := (G1.out.new ho).sl
  have O1 := Lib.hid (G1.out.new ho)
  have H1 := Lib.hid (G1.out.step hb)
  have P01 := Lib.hid (P0.out.later hb)
  clear ho hb C1 p0 p1 p2 p3 p4 p5 p6 p7 p8 p9 p10 p11 p12 p13 f9 G1 P0
  obtain ⟨p0, p1, p2, p3, p4, p5, p6, p7, p8, p9, p10, p11, p12, p13⟩ := fb_cells H1.out.x
  obtain ⟨-, -, -, -, -, -, -, -, -, -, f9, -, -, -⟩ := fb_free H1.out.x
  go_wp2_with fail
  have G2 := Lib.hid (H1.out.put (fb_setb H1.out.x s1))
  have P1 := Lib.hid (O1.out.past 10 (.slice s1.1 s1.2.1 s1.2.2))
  have P01p := Lib.hid (P01.out.past 10 (.slice s1.1 s1.2.1 s1.2.2))
  clear p0 p1 p2 p3 p4 p5 p6 p7 p8 p9 p10 p11 p12 p13 f9 H1 O1 P01
  generalize v1.setCell ⟨w.heap.size, 10, none⟩ (.slice s1.1 s1.2.1 s1.2.2) = w2 at *
  obtain ⟨p0, p1, p2, p3, p4, p5, p6, p7, p8, p9, p10, p11, p12, p13⟩ := fb_cells G2.out.x
  dsimp only at p0 p1 p2 p3 p4 p5 p6 p7 p8 p9 p10 p11 p12 p13
  obtain ⟨-, -, -, -, -, -, -, -, -, -, -, f9, -, -⟩ := fb_free G2.out.x
  go_wp2_with fail
  obtain ⟨os, hc, hr⟩ := HR.out.r
  have HER := Lib.hid hr
  have C2 := Lib.hid (hc.below G2.out.b)
  have HLL := Lib.hid hr.len
  have hos : os.length ≤ 100000 := by have := HF.out.r; have := hr.len; omega
  (with_reducible refine (copiedW_any _ os _ C2.out hos).mono ?_)
  rintro e2 v2 ⟨X, rfl, ho, hb⟩
  obtain ⟨s2, rfl⟩ := (G2.out.new ho).sl
  have O2 := Lib.hid (G2.out.new ho)
  have H2 := Lib.hid (G2.out.step hb)
  have P01p2 := Lib.hid (P01p.out.later hb)
  have P12 := Lib.hid (P1.out.later hb)
  clear ho hb C2 hc hr p0 p1 p2 p3 p4 p5 p6 p7 p8 p9 p10 p11 p12 p13 f9 G2 P01p P1
  obtain ⟨p0, p1, p2, p3, p4, p5, p6, p7, p8, p9, p10, p11, p12, p13⟩ := fb_cells H2.out.x
  dsimp only at p0 p1 p2 p3 p4 p5 p6 p7 p8 p9 p10 p11 p12 p13
  obtain ⟨-, -, -, -, -, -, -, -, -, -, -, f9, -, -⟩ := fb_free H2.out.x
  go_wp2_with fail
  have G3 : Hid (ApR w ⟨q.F, s0, s1, q.c, q.d, q.e⟩ s2 [] os q.F.v.r (v2.setCell ⟨w.heap.size, 11, none⟩ (.slice s2.1 s2.2.1 s2.2.2))) := Lib.hid ⟨H2.out.put (fb_setc H2.out.x s2), O2.out.past 11 _, trivial⟩
  have P01p2p := Lib.hid (P01p2.out.past 11 (.slice s2.1 s2.2.1 s2.2.2))
  have P12p := Lib.hid (P12.out.past 11 (.slice s2.1 s2.2.1 s2.2.2))
  clear p0 p1 p2 p3 p4 p5 p6 p7 p8 p9 p10 p11 p12 p13 f9 H2 O2 P01p2 P12
  generalize v2.setCell ⟨w.heap.size, 11, none⟩ (.slice s2.1 s2.2.1 s2.2.2) = w3 at *
  obtain ⟨p0, p1, p2, p3, p4, p5, p6, p7, p8, p9, p10, p11, p12, p13⟩ := fb_cells G3.out.g.x
  dsimp only at p0 p1 p2 p3 p4 p5 p6 p7 p8 p9 p10 p11 p12 p13
  have hsl : s2.2.1 = os.length := by
    have := rcs_len (G3.out.rows.rcs encW_len)
    simpa using this
  obtain ⟨S0, S1, S2⟩ := s2
  dsimp only at hsl p0 p1 p2 p3 p4 p5 p6 p7 p8 p9 p10 p11 p12 p13
  subst hsl
  go_wp2_with fail
  clear p0 p1 p2 p3 p4 p5 p6 p7 p8 p9 p10 p11 p12 p13
  go_loopw [4, 5, 36] (fun s4 s5 s36 wr => ∃ (k : Nat) (ns : List Raw), k ≤ os.length ∧ s36 = .int .i64 k ∧ ns.length = k ∧ Hid (ApR w ⟨q.F, s0, s1, q.c, q.d, q.e⟩ (S0, os.length, S2) ns os q.F.v.r wr) ∧ Hid (In1 encM 4 79 (ApN w) wr (.slice s0.1 s0.2.1 s0.2.2) q.F.v.m) ∧ Hid (In1 encI 2 24 (ApN w) wr (.slice s1.1 s1.2.1 s1.2.2) q.F.v.f)) (fun _ _ s36 _ => os.length - (intOf s36).toNat)
  case atStart => exact ⟨0, [], by omega, rfl, rfl, G3, P01p2p, P12p⟩
  case round =>
    obtain ⟨k, ns, hkl, rfl, hn, G4, K0, K1⟩ := hrel
    have i3 : (0 : Int) ≤ (k : Int) := by omega
    by_cases hlt : k < os.length
    · have hd : decide ((k : Int) < (os.length : Int)) = true := by simp; omega
      have i4 : (k : Int) < (os.length : Int) := by omega
      subst hn
      obtain ⟨g, hS⟩ : ∃ g, S0 = some ⟨g, 0, none⟩ := by
        rcases G4.out.rows.1.2 with ⟨h1, h2⟩ | ⟨g, cap, cur, h1, _⟩
        · exfalso
          obtain ⟨hm, _⟩ := mix_at hlt
          omega
        · injection h1 with h1
          exact ⟨g, h1⟩
      subst hS
      obtain ⟨hm, hx⟩ := mix_at hlt
      obtain ⟨c0, -⟩ := G4.out.rows.cell encW_len hm (j := 0) (by rw [hx]; rfl)
      obtain ⟨c1, -⟩ := G4.out.rows.cell encW_len hm (j := 1) (by rw [hx]; rfl)
      obtain ⟨c2, -⟩ := G4.out.rows.cell encW_len hm (j := 2) (by rw [hx]; rfl)
      obtain ⟨c3, g3⟩ := G4.out.rows.cell encW_len hm (j := 3) (by rw [hx]; rfl)
      have hlk : ns.length < q.F.v.r.length := by have := HLL.out; omega
      obtain ⟨-, -, hN⟩ := HER.out.at_ ns.length hlt hlk
      have HN := Lib.hid (Rcs.below hN G4.out.g.b)
      have HNL := Lib.hid (HF.out.n _ (List.getElem_mem hlk))
      have HX := Lib.hid hx
      clear hN hx
      obtain ⟨p0, p1, p2, p3, p4, p5, p6, p7, p8, p9, p10, p11, p12, p13⟩ := fb_cells G4.out.g.x
      dsimp only at p0 p1 p2 p3 p4 p5 p6 p7 p8 p9 p10 p11 p12 p13
      simp only [Nat.add_zero] at c0
      go_upto_region 8 with (fail)
      generalize hy : os[ns.length].2.2 = y at *
      have HY := Lib.hid hy
      clear hy
      have hb5 := below_one wr (.cells #[.int .i64 os[ns.length].1.1, .int .i64 os[ns.length].1.2, .int .i64 os[ns.length].2.1, .slice y.1 y.2.1 y.2.2] 76)
      have G5 := Lib.hid (G4.out.later hb5)
      have N5 := Lib.hid (Rcs.below HN.out hb5)
      have D5 : Hid ((wr.alloc (.cells #[.int .i64 os[ns.length].1.1, .int .i64 os[ns.length].1.2, .int .i64 os[ns.length].2.1, .slice y.1 y.2.1 y.2.2] 76)).cell? ⟨wr.heap.size, 3, none⟩ = some (.slice y.1 y.2.1 y.2.2)) := Lib.hid (by rw [cell_of_row _ _ _ _ _ _ (heap_alloc_new wr _)]; rfl)
      have K0b := Lib.hid (K0.out.later hb5)
      have K1b := Lib.hid (K1.out.later hb5)
      have HGR := Lib.hid (by obtain ⟨cur, h1, _⟩ := G4.out.rows.cur; exact row_lt h1 : g < wr.heap.size)
      clear hb5 HN G4 c0 c1 c2 c3 g3 p0 p1 p2 p3 p4 p5 p6 p7 p8 p9 p10 p11 p12 p13 K0 K1
      generalize wr.alloc (.cells #[.int .i64 os[ns.length].1.1, .int .i64 os[ns.length].1.2, .int .i64 os[ns.length].2.1, .slice y.1 y.2.1 y.2.2] 76) = w5 at *
      obtain ⟨p0, p1, p2, p3, p4, p5, p6, p7, p8, p9, p10, p11, p12, p13⟩ := fb_cells G5.out.g.x
      dsimp only at p0 p1 p2 p3 p4 p5 p6 p7 p8 p9 p10 p11 p12 p13
      have d3 := D5.out
      obtain ⟨rb, hrb⟩ : ∃ rb, rb = wr.heap.size := ⟨_, rfl⟩
      rw [← hrb] at d3 D5 HGR
      rw [← hrb]
      clear hrb
      have C6 := Lib.hid (Rcs.below N5.out (show Below w5.heap.size w5 w5.drew from below_drewN (n := 1) (Below.refl _ _)))
      refine wp_region_held_drew (S := fun W => W.cell? ⟨w.heap.size, 11, none⟩ = some (.slice (some ⟨g, 0, none⟩) os.length S2) ∧ W.cell? ⟨rb, 3, none⟩ = some (.slice y.1 y.2.1 y.2.2)) (by kernel_rfl) ?_ (fun hHeld => ?_)
      · exact ⟨p11, d3⟩
      (refine wpAnyH_take (i := 0) (oi := ⟨_, _, _, _, _, _⟩) (v := ?_) rfl (by kernel_rfl) (by kernel_rfl) (by kernel_rfl) (fun _ _ _ h => h) (Or.inl ⟨by rfl, ?_⟩) (by assumption) ?_; rotate_left 1; · (intro w hSw; (try dsimp only at hSw); go_simp; all_goals with_reducible rfl))
      try simp only [Act.put, List.setIfInBounds_toArray, List.set_cons_zero, List.set_cons_succ]
      (refine wpAnyH_take (i := 1) (oi := ⟨_, _, _, _, _, _⟩) (v := ?_) rfl (by kernel_rfl) (by kernel_rfl) (by kernel_rfl) (fun _ _ _ h => h) (Or.inl ⟨by rfl, ?_⟩) (by assumption) ?_; rotate_left 1; · (intro w hSw; (try dsimp only at hSw); go_simp; all_goals with_reducible rfl))
      try simp only [Act.put, List.setIfInBounds_toArray, List.set_cons_zero, List.set_cons_succ]
      (refine wpAnyH_take (i := 2) (oi := ⟨_, _, _, _, _, _⟩) (v := ?_) rfl (by kernel_rfl) (by kernel_rfl) (by kernel_rfl) (fun _ _ _ h => h) (Or.inl ⟨by rfl, ?_⟩) (by assumption) ?_; rotate_left 1; · (intro w hSw; (try dsimp only at hSw); go_simp; all_goals with_reducible rfl))
      try simp only [Act.put, List.setIfInBounds_toArray, List.set_cons_zero, List.set_cons_succ]
      (refine wpAnyH_take (i := 3) (oi := ⟨_, _, _, _, _, _⟩) (v := ?_) rfl (by kernel_rfl) (by kernel_rfl) (by kernel_rfl) (fun _ _ _ h => h) (Or.inl ⟨by rfl, ?_⟩) (by assumption) ?_; rotate_left 1; · (intro w hSw; (try dsimp only at hSw); go_simp; all_goals with_reducible rfl))
      try simp only [Act.put, List.setIfInBounds_toArray, List.set_cons_zero, List.set_cons_succ]
      (refine wpAnyH_take (i := 4) (oi := ⟨_, _, _, _, _, _⟩) (v := ?_) rfl (by kernel_rfl) (by kernel_rfl) (by kernel_rfl) (fun _ _ _ h => h) (Or.inl ⟨by rfl, ?_⟩) (by assumption) ?_; rotate_left 1; · (intro w hSw; (try dsimp only at hSw); go_simp; all_goals with_reducible rfl))
      try simp only [Act.put, List.setIfInBounds_toArray, List.set_cons_zero, List.set_cons_succ]
      (refine wpAnyH_take (i := 5) (oi := ⟨_, _, _, _, _, _⟩) (v := ?_) rfl (by kernel_rfl) (by kernel_rfl) (by kernel_rfl) (fun _ _ _ h => h) (Or.inl ⟨by rfl, ?_⟩) (by assumption) ?_; rotate_left 1; · (intro w hSw; (try dsimp only at hSw); go_simp; all_goals with_reducible rfl))
      try simp only [Act.put, List.setIfInBounds_toArray, List.set_cons_zero, List.set_cons_succ]
      (refine wpAnyH_take (i := 6) (oi := ⟨_, _, _, _, _, _⟩) (v := ?_) rfl (by kernel_rfl) (by kernel_rfl) (by kernel_rfl) (fun _ _ _ h => h) (Or.inl ⟨by rfl, ?_⟩) (by assumption) ?_; rotate_left 1; · (intro w hSw; (try dsimp only at hSw); go_simp; all_goals with_reducible rfl))
      try simp only [Act.put, List.setIfInBounds_toArray, List.set_cons_zero, List.set_cons_succ]
      refine wpAnyH_ready (rs := [7]) (by kernel_rfl) (by simp) ?_
      refine AllReadyH.cons (o := ⟨_, _, _, _, _, _⟩) rfl (fun Kq hKq => ?_) AllReadyH.nil
      go_simp
      clear hHeld
      (go_at_call 37; (with_reducible refine (copiedI_any _ _ _ C6.out (Nat.le_trans HNL.out (by decide))).mono ?_); rintro e6 w6 ⟨X, rfl, ho, hb⟩; have hb6 : Below w5.heap.size w5 w6 := ⟨hb.os, hb.tape, hb.output, hb.size, hb.block⟩; have ho6 := (G5.out.g.new (W' := w6) (show OwnsR encI 2 24 w6 w5.heap.size X _ from ho)); obtain ⟨t, rfl⟩ := ho6.sl; have O6 := Lib.hid ho6; have G6 := Lib.hid (G5.out.later hb6); have D6 := Lib.hid (cell_below hb6 D5.out); have K0c := Lib.hid (K0b.out.later hb6); have K1c := Lib.hid (K1b.out.later hb6); clear ho hb hb6 ho6 C6 N5 D5 d3 G5 p0 p1 p2 p3 p4 p5 p6 p7 p8 p9 p10 p11 p12 p13 K0b K1b; obtain ⟨hm, hx2⟩ := mix_at hlt; obtain ⟨c3, g3⟩ := G6.out.rows.cell encW_len hm (j := 3) (by rw [hx2]; rfl); obtain ⟨cur, HC, -⟩ := G6.out.rows.cur; clear hx2 hm)
      refine hKq.out _ _ ?_ (fun hHeld => ?_)
      · (try dsimp only); exact ⟨(fb_cells G6.out.g.x).2.2.2.2.2.2.2.2.2.2.2.1, D6.out⟩
      clear hKq Kq
      try simp only [Act.put, List.setIfInBounds_toArray, List.set_cons_zero, List.set_cons_succ]
      (refine wpAnyH_take (i := 8) (oi := ⟨_, _, _, _, _, _⟩) (v := ?_) rfl (by kernel_rfl) (by kernel_rfl) (by kernel_rfl) (fun _ _ _ h => h) (Or.inl ⟨by rfl, ?_⟩) (by assumption) ?_; rotate_left 1; · (intro w hSw; (try dsimp only at hSw); go_simp; all_goals with_reducible rfl))
      try simp only [Act.put, List.setIfInBounds_toArray, List.set_cons_zero, List.set_cons_succ]
      (refine wpAnyH_take (i := 9) (oi := ⟨_, _, _, _, _, _⟩) (v := ?_) rfl (by kernel_rfl) (by kernel_rfl) (by kernel_rfl) (fun _ _ _ h => h) (Or.inl ⟨by rfl, ?_⟩) (by assumption) ?_; rotate_left 1; · (intro w hSw; (try dsimp only at hSw); go_simp; all_goals with_reducible rfl))
      try simp only [Act.put, List.setIfInBounds_toArray, List.set_cons_zero, List.set_cons_succ]
      refine wpAnyH_ready (rs := [10]) (by kernel_rfl) (by simp) ?_
      refine AllReadyH.cons (o := ⟨_, _, _, _, _, _⟩) rfl (fun Kq hKq => ?_) AllReadyH.nil
      go_simp
      clear hHeld
      (have G7 := Lib.hid (G6.out.next HER.out hlt O6.out); have K0d := Lib.hid (K0c.out.row (i := ns.length * 4 + 3) (u := .slice t.1 t.2.1 t.2.2) HC (by decide)); have K1d := Lib.hid (K1c.out.row (i := ns.length * 4 + 3) (u := .slice t.1 t.2.1 t.2.2) HC (by decide)); have D7 := Lib.hid ((World.cell?_of_block (w := w6) (Below.heap_setCell w6 ⟨g, ns.length * 4 + 3, none⟩ (.slice t.1 t.2.1 t.2.2) rb (by have := HGR.out; show rb ≠ g; omega))).trans D6.out))
      refine hKq.out _ _ ?_ (fun hHeld => ?_)
      · (try dsimp only); exact ⟨(fb_cells G7.out.g.x).2.2.2.2.2.2.2.2.2.2.2.1, D7.out⟩
      clear hKq Kq
      try simp only [Act.put, List.setIfInBounds_toArray, List.set_cons_zero, List.set_cons_succ]
      refine wpAnyH_done (by kernel_rfl) ?_ _
      go_wp2_with fail
      go_roundw
      case rel => exact ⟨ns.length + 1, _, by omega, by go_num, by simp, G7, K0d, K1d⟩
      case measure => simp [intOf]; omega
    · obtain rfl : k = os.length := by omega
      have hd : decide ((os.length : Int) < (os.length : Int)) = false := by simp
      have E4 : Hid (EachO (ApN w) wr ns q.F.v.r) := Lib.hid (by have := G4.out.each; rwa [hn, HLL.out, List.take_length] at this)
      have R4 : Hid (In1 encW 4 76 (ApN w) wr (.slice S0 os.length S2) ns) := Lib.hid (by have := G4.out.rows; rwa [hn, List.drop_length, List.append_nil] at this)
      have A4 := Lib.hid G4.out.g
      clear G4
      obtain ⟨p0, p1, p2, p3, p4, p5, p6, p7, p8, p9, p10, p11, p12, p13⟩ := fb_cells A4.out.x
      dsimp only at p0 p1 p2 p3 p4 p5 p6 p7 p8 p9 p10 p11 p12 p13
      obtain ⟨-, -, -, -, -, -, -, -, -, -, -, -, f9, -⟩ := fb_free A4.out.x
      go_wp2_with fail
      have C4 := Lib.hid (show Rcs encT 3 wr (.slice q.d.1 q.d.2.1 q.d.2.2) q.F.v.c from (HR.out.below A4.out.b).c)
      (with_reducible refine (copiedT_any _ q.F.v.c _ C4.out (Nat.le_trans HF.out.c (by decide))).mono ?_)
      rintro e4 v4 ⟨X, rfl, ho, hb⟩
      obtain ⟨s4, rfl⟩ := (A4.out.new ho).sl
      have O4 := Lib.hid (A4.out.new ho)
      have H4 := Lib.hid (A4.out.step hb)
      have K0_4 := Lib.hid (K0.out.later hb)
      have K1_4 := Lib.hid (K1.out.later hb)
      have R4_4 := Lib.hid (R4.out.later hb)
      have E4_4 := Lib.hid (E4.out.later hb)
      clear ho hb C4 p0 p1 p2 p3 p4 p5 p6 p7 p8 p9 p10 p11 p12 p13 f9 A4 K0 K1 R4 E4
      obtain ⟨p0, p1, p2, p3, p4, p5, p6, p7, p8, p9, p10, p11, p12, p13⟩ := fb_cells H4.out.x
      dsimp only at p0 p1 p2 p3 p4 p5 p6 p7 p8 p9 p10 p11 p12 p13
      obtain ⟨-, -, -, -, -, -, -, -, -, -, -, -, f9, -⟩ := fb_free H4.out.x
      go_wp2_with fail
      have G5 := Lib.hid (H4.out.put (fb_setd H4.out.x s4))
      have P4 := Lib.hid (O4.out.past 12 (.slice s4.1 s4.2.1 s4.2.2))
      have K0_4p := Lib.hid (K0_4.out.past 12 (.slice s4.1 s4.2.1 s4.2.2))
      have K1_4p := Lib.hid (K1_4.out.past 12 (.slice s4.1 s4.2.1 s4.2.2))
      have R4_4p := Lib.hid (R4_4.out.past 12 (.slice s4.1 s4.2.1 s4.2.2))
      have E4_4p := Lib.hid (E4_4.out.past 12 (.slice s4.1 s4.2.1 s4.2.2))
      clear p0 p1 p2 p3 p4 p5 p6 p7 p8 p9 p10 p11 p12 p13 f9 H4 O4 K0_4 K1_4 R4_4 E4_4
      generalize v4.setCell ⟨w.heap.size, 12, none⟩ (.slice s4.1 s4.2.1 s4.2.2) = w5 at *
      obtain ⟨p0, p1, p2, p3, p4, p5, p6, p7, p8, p9, p10, p11, p12, p13⟩ := fb_cells G5.out.x
      dsimp only at p0 p1 p2 p3 p4 p5 p6 p7 p8 p9 p10 p11 p12 p13
      obtain ⟨-, -, -, -, -, -, -, -, -, -, -, -, -, f9⟩ := fb_free G5.out.x
      go_wp2_with fail
      have C5 := Lib.hid (show Rcs encI 2 w5 (.slice q.e.1 q.e.2.1 q.e.2.2) q.F.v.s from (HR.out.below G5.out.b).s)
      (with_reducible refine (copiedI_any _ q.F.v.s _ C5.out (Nat.le_trans HF.out.s (by decide))).mono ?_)
      rintro e5 v5 ⟨X, rfl, ho, hb⟩
      obtain ⟨s5, rfl⟩ := (G5.out.new ho).sl
      have O5 := Lib.hid (G5.out.new ho)
      have H5 := Lib.hid (G5.out.step hb)
      have K0_4p_5 := Lib.hid (K0_4p.out.later hb)
      have K1_4p_5 := Lib.hid (K1_4p.out.later hb)
      have R4_4p_5 := Lib.hid (R4_4p.out.later hb)
      have E4_4p_5 := Lib.hid (E4_4p.out.later hb)
      have P4_5 := Lib.hid (P4.out.later hb)
      clear ho hb C5 p0 p1 p2 p3 p4 p5 p6 p7 p8 p9 p10 p11 p12 p13 f9 G5 K0_4p K1_4p R4_4p E4_4p P4
      obtain ⟨p0, p1, p2, p3, p4, p5, p6, p7, p8, p9, p10, p11, p12, p13⟩ := fb_cells H5.out.x
      dsimp only at p0 p1 p2 p3 p4 p5 p6 p7 p8 p9 p10 p11 p12 p13
      obtain ⟨-, -, -, -, -, -, -, -, -, -, -, -, -, f9⟩ := fb_free H5.out.x
      have G6 := Lib.hid (H5.out.put (fb_sete H5.out.x s5))
      have P5 := Lib.hid (O5.out.past 13 (.slice s5.1 s5.2.1 s5.2.2))
      have X6 := Lib.hid G6.out.x
      have Z6 := Lib.hid G6.out.z
      go_wp2_with first
        | (refine wpList_load_row rfl 32 (.tmp 1) rfl _ rfl 32 _ (0, 0) _ X6.out Try.underlying32 rfl (size32 _) ?_)
        | (refine wpList_store_row rfl 32 (.tmp 2) (.tmp 68) rfl _ _ rfl rfl 32 _ Z6.out (size32 _) rfl (fc_one _) ?_)
      have K0_4p_5p := Lib.hid (K0_4p_5.out.past 13 (.slice s5.1 s5.2.1 s5.2.2))
      have K1_4p_5p := Lib.hid (K1_4p_5.out.past 13 (.slice s5.1 s5.2.1 s5.2.2))
      have R4_4p_5p := Lib.hid (R4_4p_5.out.past 13 (.slice s5.1 s5.2.1 s5.2.2))
      have E4_4p_5p := Lib.hid (E4_4p_5.out.past 13 (.slice s5.1 s5.2.1 s5.2.2))
      have P4_5p := Lib.hid (P4_5.out.past 13 (.slice s5.1 s5.2.1 s5.2.2))
      clear p0 p1 p2 p3 p4 p5 p6 p7 p8 p9 p10 p11 p12 p13 f9 H5 O5 K0_4p_5 K1_4p_5 R4_4p_5 E4_4p_5 P4_5
      generalize v5.setCell ⟨w.heap.size, 13, none⟩ (.slice s5.1 s5.2.1 s5.2.2) = w6 at *
      have Z7 := Lib.hid (show FB (w6.setRow (w.heap.size + 1) (fc ⟨q.F, s0, s1, (S0, os.length, S2), s4, s5⟩)) (w.heap.size + 1) ⟨q.F, s0, s1, (S0, os.length, S2), s4, s5⟩ from setRow_set Z6.out)
      have ON : On (ApN w) w6 (w6.setRow (w.heap.size + 1) (fc ⟨q.F, s0, s1, (S0, os.length, S2), s4, s5⟩)) := fun k hk => setRow_other _ _ _ _ (by unfold ApN at hk; omega)
      have B7 := Lib.hid (below_setRow G6.out.b (show w.heap.size ≤ w.heap.size + 1 by omega) (fc ⟨q.F, s0, s1, (S0, os.length, S2), s4, s5⟩))
      have F7 := Lib.hid (show FO (ApN w) (w6.setRow (w.heap.size + 1) (fc ⟨q.F, s0, s1, (S0, os.length, S2), s4, s5⟩)) ⟨q.F, s0, s1, (S0, os.length, S2), s4, s5⟩ from ⟨K0_4p_5p.out.on ON, K1_4p_5p.out.on ON, ⟨ns, R4_4p_5p.out.on ON, E4_4p_5p.out.on ON⟩, P4_5p.out.on ON, P5.out.on ON⟩)
      clear ON
      generalize w6.setRow (w.heap.size + 1) (fc ⟨q.F, s0, s1, (S0, os.length, S2), s4, s5⟩) = w7 at *
      refine bodyPost_ret (results_cell_row Try.results29 _ _ (w.heap.size + 1) 32 _ (0, 0) _ rfl Z7.out Try.underlying32 rfl (size32 _)) rfl ?_
      exact ⟨_, rfl, rfl, F7.out.mono (fun k hk => by unfold ApN at hk; omega), B7.out⟩
end Go.Proofs.Ytmgiglefabbmcaa
