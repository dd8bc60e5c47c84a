/-
  Walked: of two lives of an address. No statement is proved in this text.
-/
import Derived.Test.YtciolhpkhblnbaaLaws
import Derived.Test.YtciolhpkhblnbaaFinds
import Derived.Test.YtciolhpkhblnbaaOpen
namespace Go.Proofs.Ytciolhpkhblnbaa
open Go Go.RowKit Ros
theorem holdsL_eq {w : World} {g : Nat} {A : Option Addr} {n c : Nat} {B : Option Addr} {d : Nat} {L : Ls} (h1 : LBox w g (.slice A n c) (.slice B L.2.length d)) (h2 : Ms w (.slice A n c) L.1) (h3 : Ids w (.slice B L.2.length d) L.2) (hn : n = L.1.length) : HoldsL w g L := by
  subst hn
  exact ⟨A, c, B, d, h1, h2, h3⟩
/-- Is a member there, and not Removed? -/
def aliveB (x : Mm) : Bool := vid x.1.1 x.1.2 && decide (1 ≤ x.2.1 ∧ x.2.1 ≤ 6)
set_option maxHeartbeats 2000000 in
theorem alive_any (a i s n : Int) (w : World) :
    Calls Try.prog 25 #[.agg #[.int .i64 a, .int .i64 i, .int .u8 s, .int .i64 n]] w fun e w' => e = .returned (.bool (aliveB ((a, i), s, n))) ∧ Below w.heap.size w w' := by
  have HB := Lib.hid (below_one w (.cells #[.int .i64 a, .int .i64 i, .int .u8 s, .int .i64 n] 32))
  have HM := Lib.hid (mbox_new w a i s n)
  have HC := Lib.hid fun W => refMay_any a i W
  have HE : Hid (aliveB ((a, i), s, n) = (vid a i && decide (1 ≤ s ∧ s ≤ 6))) := Lib.hid rfl
  obtain ⟨x1, x2, x3, x4⟩ := mbox_cells HM.out
  generalize vid a i = y at *
  cases y
  · have HR := Lib.hid (show aliveB ((a, i), s, n) = false by rw [HE.out]; rfl)
    go_enter Try.func25, Try.ntmps25
    go_wp2_with fail
    (with_reducible refine (HC.out _).mono ?_)
    rintro e w1 ⟨rfl, hb⟩
    have H1 := Lib.hid (below_after HB.out hb (Nat.le_refl _))
    clear hb x1 x2 x3 x4
    go_wp2_with fail
    go_ret
    exact ⟨ret_bool HR.out.symm, H1.out⟩
  · by_cases h1 : 1 ≤ s
    · by_cases h2 : s ≤ 6
      · have HR := Lib.hid (show aliveB ((a, i), s, n) = true by rw [HE.out]; simp; omega)
        clear HE
        go_enter Try.func25, Try.ntmps25
        go_wp2_with fail
        (with_reducible refine (HC.out _).mono ?_)
        rintro e w1 ⟨rfl, hb⟩
        have H1 := Lib.hid (below_after HB.out hb (Nat.le_refl _))
        clear x1 x2 x3 x4
        obtain ⟨x1, x2, x3, x4⟩ := mbox_cells (mbox_below HM.out hb)
        clear hb
        go_wp2_with fail
        go_ret
        exact ⟨ret_bool HR.out.symm, H1.out⟩
      · have HR := Lib.hid (show aliveB ((a, i), s, n) = false by rw [HE.out]; simp; omega)
        clear HE
        go_enter Try.func25, Try.ntmps25
        go_wp2_with fail
        (with_reducible refine (HC.out _).mono ?_)
        rintro e w1 ⟨rfl, hb⟩
        have H1 := Lib.hid (below_after HB.out hb (Nat.le_refl _))
        clear x1 x2 x3 x4
        obtain ⟨x1, x2, x3, x4⟩ := mbox_cells (mbox_below HM.out hb)
        clear hb
        go_wp2_with fail
        go_ret
        exact ⟨ret_bool (by rw [HR.out]; simpa using h2), H1.out⟩
    · have HR := Lib.hid (show aliveB ((a, i), s, n) = false by rw [HE.out]; simp; omega)
      clear HE
      go_enter Try.func25, Try.ntmps25
      go_wp2_with fail
      (with_reducible refine (HC.out _).mono ?_)
      rintro e w1 ⟨rfl, hb⟩
      have H1 := Lib.hid (below_after HB.out hb (Nat.le_refl _))
      clear x1 x2 x3 x4
      obtain ⟨x1, x2, x3, x4⟩ := mbox_cells (mbox_below HM.out hb)
      clear hb
      go_wp2_with fail
      go_ret
      exact ⟨ret_bool HR.out.symm, H1.out⟩
theorem alive_cnt {x : Mm} (h : aliveB x = true) : cnt x = true := by
  unfold aliveB at h
  rw [Bool.and_eq_true] at h
  have := of_decide_eq_true h.2
  unfold cnt
  rw [h.1, Bool.true_and]
  exact decide_eq_true (by omega)
/-- What stands of the world. -/
structure LfG (w : World) (GA GX GY : Nat) (la : Ls) (a i s n j t m : Int) (W : World) : Prop where
  ha : HoldsL W GA la
  hx : MBox W GX a i s n
  hy : MBox W GY a j t m
  below : Below w.heap.size w W
theorem LfG.step {w : World} {GA GX GY : Nat} {la : Ls} {a i s n j t m : Int} {W W' : World} (h : LfG w GA GX GY la a i s n j t m W) (hb : Below W.heap.size W W') : LfG w GA GX GY la a i s n j t m W' := ⟨h.ha.below hb, mbox_below h.hx hb, mbox_below h.hy hb, below_after h.below hb (Nat.le_refl _)⟩
set_option maxHeartbeats 16000000 in
set_option maxRecDepth 100000 in
theorem rosterLife_any (v0 : Value) (la : Ls) (a i s n a' j t m : Int) (w : World) (h0 : LsAt w v0 la) (_hr1 : InR ((a, i), s, n)) (_hr2 : InR ((a', j), t, m)) :
    Calls Try.prog 7 #[v0, .agg #[.int .i64 a, .int .i64 i, .int .u8 s, .int .i64 n], .agg #[.int .i64 a', .int .i64 j, .int .u8 t, .int .i64 m]] w fun e w' => e = .returned (.bool true) ∧ Below w.heap.size w w' := by
  have hK25 : ∀ args W, (callFunc 25 args).run Try.prog W = .ok (.enter 25 args) W := fun args W => enters_fn Try.func25 (by kernel_rfl) rfl args W
  obtain ⟨A0, c0, B0, d0, rfl, m0, i0⟩ := h0
  have q0 := below_one w (.cells #[.slice A0 la.1.length c0, .slice B0 la.2.length d0] 27)
  have q1 := below_one (w.alloc (.cells #[.slice A0 la.1.length c0, .slice B0 la.2.length d0] 27)) (.cells #[.int .i64 a, .int .i64 i, .int .u8 s, .int .i64 n] 32)
  have q2 := below_one ((w.alloc (.cells #[.slice A0 la.1.length c0, .slice B0 la.2.length d0] 27)).alloc (.cells #[.int .i64 a, .int .i64 i, .int .u8 s, .int .i64 n] 32)) (.cells #[.int .i64 a, .int .i64 j, .int .u8 t, .int .i64 m] 32)
  have HG0 : Hid (HoldsL (((w.alloc (.cells #[.slice A0 la.1.length c0, .slice B0 la.2.length d0] 27)).alloc (.cells #[.int .i64 a, .int .i64 i, .int .u8 s, .int .i64 n] 32)).alloc (.cells #[.int .i64 a, .int .i64 j, .int .u8 t, .int .i64 m] 32)) w.heap.size la ∧ MBox (((w.alloc (.cells #[.slice A0 la.1.length c0, .slice B0 la.2.length d0] 27)).alloc (.cells #[.int .i64 a, .int .i64 i, .int .u8 s, .int .i64 n] 32)).alloc (.cells #[.int .i64 a, .int .i64 j, .int .u8 t, .int .i64 m] 32)) (w.heap.size + 1) a i s n ∧ MBox (((w.alloc (.cells #[.slice A0 la.1.length c0, .slice B0 la.2.length d0] 27)).alloc (.cells #[.int .i64 a, .int .i64 i, .int .u8 s, .int .i64 n] 32)).alloc (.cells #[.int .i64 a, .int .i64 j, .int .u8 t, .int .i64 m] 32)) (w.heap.size + 1 + 1) a j t m) := Lib.hid ⟨((holdsL_new m0 i0).below q1).below q2, by simpa using mbox_below (mbox_new (w.alloc (.cells #[.slice A0 la.1.length c0, .slice B0 la.2.length d0] 27)) a i s n) q2, by simpa using mbox_new ((w.alloc (.cells #[.slice A0 la.1.length c0, .slice B0 la.2.length d0] 27)).alloc (.cells #[.int .i64 a, .int .i64 i, .int .u8 s, .int .i64 n] 32)) a j t m⟩
  have QB := Lib.hid (below_after (below_after q0 q1 (Nat.le_refl _)) q2 (Nat.le_refl _))
  obtain ⟨g1, g2, g3, g4⟩ := mbox_cells (mbox_below (mbox_new (w.alloc (.cells #[.slice A0 la.1.length c0, .slice B0 la.2.length d0] 27)) a i s n) (below_one _ (.cells #[.int .i64 a', .int .i64 j, .int .u8 t, .int .i64 m] 32)))
  obtain ⟨y1, y2, y3, y4⟩ := mbox_cells (mbox_new ((w.alloc (.cells #[.slice A0 la.1.length c0, .slice B0 la.2.length d0] 27)).alloc (.cells #[.int .i64 a, .int .i64 i, .int .u8 s, .int .i64 n] 32)) a' j t m)
  obtain ⟨f1, f2, f3, f4⟩ := mbox_free (mbox_new ((w.alloc (.cells #[.slice A0 la.1.length c0, .slice B0 la.2.length d0] 27)).alloc (.cells #[.int .i64 a, .int .i64 i, .int .u8 s, .int .i64 n] 32)) a' j t m)
  simp only [World.size_alloc] at g1 g2 g3 g4 y1 y2 y3 y4 f1 f2 f3 f4
  clear q0 q1 q2 m0 i0
  go_enter Try.func7, Try.ntmps7
  go_wp2_with fail
  clear g1 g2 g3 g4 y1 y2 y3 y4 f1 f2 f3 f4
  generalize ((w.alloc (.cells #[.slice A0 la.1.length c0, .slice B0 la.2.length d0] 27)).alloc (.cells #[.int .i64 a, .int .i64 i, .int .u8 s, .int .i64 n] 32)).alloc (.cells #[.int .i64 a, .int .i64 j, .int .u8 t, .int .i64 m] 32) = w1 at *
  obtain ⟨GA, hGA⟩ : ∃ g, g = w.heap.size := ⟨_, rfl⟩
  obtain ⟨GX, hGX⟩ : ∃ g, g = w.heap.size + 1 := ⟨_, rfl⟩
  obtain ⟨GY, hGY⟩ : ∃ g, g = w.heap.size + 1 + 1 := ⟨_, rfl⟩
  rw [← hGY, ← hGX, ← hGA] at HG0
  rw [← hGY, ← hGX, ← hGA]
  have G0 : Hid (LfG w GA GX GY la a i s n j t m w1) := Lib.hid ⟨HG0.out.1, HG0.out.2.1, HG0.out.2.2, QB.out⟩
  clear hGA hGX hGY HG0 QB
  refine (works_any _).mono ?_
  rintro e w2 ⟨rfl, hb⟩
  have G2 := Lib.hid (G0.out.step hb)
  clear hb G0
  obtain ⟨A, c, B, d, x0, -, -⟩ := id G2.out.ha
  obtain ⟨p0, r0⟩ := lbox_cells x0
  clear x0
  have HLg := Lib.hid fun W => large_one W A c B d la
  go_wp2_with fail
  (with_reducible refine (HLg.out _).mono ?_)
  rintro e w3 ⟨rfl, hb⟩
  have G3 := Lib.hid (G2.out.step hb)
  clear hb p0 r0 HLg G2
  have HC1 := Lib.hid fun W => alive_any a i s n W
  have HC2 := Lib.hid fun W => alive_any a j t m W
  cases hbig : bigL la
  · have HA := Lib.hid (lenOk_of hbig)
    clear hbig
    obtain ⟨x1, x2, x3, x4⟩ := mbox_cells G3.out.hx
    cases hax : aliveB ((a, i), s, n)
    · rw [hax] at HC1
      clear hax
      go_wp2_with fail
      (with_reducible refine (HC1.out _).mono ?_)
      rintro e w4 ⟨rfl, hb⟩
      have G4 := Lib.hid (G3.out.step hb)
      clear hb x1 x2 x3 x4
      go_wp2_with fail
      refine (works_any _).mono ?_
      rintro e w5 ⟨rfl, hb⟩
      have BZ := Lib.hid (below_after G4.out.below hb (Nat.le_refl _))
      clear hb
      go_wp2_with fail
      go_ret
      exact ⟨rfl, BZ.out⟩
    · rw [hax] at HC1
      have CX := Lib.hid (alive_cnt hax)
      clear hax
      go_wp2_with fail
      (with_reducible refine (HC1.out _).mono ?_)
      rintro e w4 ⟨rfl, hb⟩
      have G4 := Lib.hid (G3.out.step hb)
      clear hb x1 x2 x3 x4
      obtain ⟨y1, y2, y3, y4⟩ := mbox_cells G4.out.hy
      cases hay : aliveB ((a, j), t, m)
      · rw [hay] at HC2
        clear hay
        go_wp2_with fail
        (with_reducible refine (HC2.out _).mono ?_)
        rintro e w5 ⟨rfl, hb⟩
        have G5 := Lib.hid (G4.out.step hb)
        clear hb y1 y2 y3 y4
        go_wp2_with fail
        refine (works_any _).mono ?_
        rintro e w6 ⟨rfl, hb⟩
        have BZ := Lib.hid (below_after G5.out.below hb (Nat.le_refl _))
        clear hb
        go_wp2_with fail
        go_ret
        exact ⟨rfl, BZ.out⟩
      · rw [hay] at HC2
        have CY := Lib.hid (alive_cnt hay)
        clear hay
        go_wp2_with fail
        (with_reducible refine (HC2.out _).mono ?_)
        rintro e w5 ⟨rfl, hb⟩
        have G5 := Lib.hid (G4.out.step hb)
        clear hb y1 y2 y3 y4 G4 G3 HC1 HC2
        obtain ⟨x1, x2, x3, x4⟩ := mbox_cells G5.out.hx
        obtain ⟨y1, y2, y3, y4⟩ := mbox_cells G5.out.hy
        by_cases hij : i < j
        · have hd : decide (i ≥ j) = false := decide_eq_false (by omega)
          have hd2 : decide (j ≤ i) = false := decide_eq_false (by omega)
          have HF := Lib.hid (life_facts la CX.out CY.out hij)
          clear hij
          go_upto_region 5 with fail
          clear hd hd2
          obtain ⟨A, c, B, d, x0, z0, z1⟩ := id G5.out.ha
          have LA := Lib.hid fun W (hb : Below w5.heap.size w5 W) => (lsAt_of z0 z1).below hb
          have HS := Lib.hid fun W (hb : Below w5.heap.size w5 W) => And.intro (lbox_cells (lbox_below x0 hb)) (And.intro (mbox_cells (mbox_below G5.out.hx hb)) (And.intro (mbox_cells (mbox_below G5.out.hy hb)) (Lib.hid hb)))
          have HM1 := Lib.hid (show la.1.length + (([((a, i), s, n), ((a, j), t, m)], []) : Ls).1.length ≤ 40000 by have := HA.out.1; simp; omega)
          have HM2 := Lib.hid (show la.2.length + (([((a, i), s, n), ((a, j), t, m)], []) : Ls).2.length ≤ 40000 by have := HA.out.2; simp; omega)
          have PZ := Lib.hid (Below.refl w5.heap.size w5)
          clear x0 z0 z1
          go_cut [8] (fun s8 wx => ∃ g, s8 = .pointer (some ⟨g, 0, none⟩) ∧ Hid (HoldsL wx g (joinL la ([((a, i), s, n), ((a, j), t, m)], []))) ∧ Hid (Below w5.heap.size w5 wx))
          case first =>
            refine wp_region_held_drew (S := fun w' => (w'.cell? ⟨GA, 0, none⟩ = some (.slice A la.1.length c) ∧ w'.cell? ⟨GA, 1, none⟩ = some (.slice B la.2.length d)) ∧ (w'.cell? ⟨GX, 0, none⟩ = some (.int .i64 a) ∧ w'.cell? ⟨GX, 1, none⟩ = some (.int .i64 i) ∧ w'.cell? ⟨GX, 2, none⟩ = some (.int .u8 s) ∧ w'.cell? ⟨GX, 3, none⟩ = some (.int .i64 n)) ∧ (w'.cell? ⟨GY, 0, none⟩ = some (.int .i64 a) ∧ w'.cell? ⟨GY, 1, none⟩ = some (.int .i64 j) ∧ w'.cell? ⟨GY, 2, none⟩ = some (.int .u8 t) ∧ w'.cell? ⟨GY, 3, none⟩ = some (.int .i64 m)) ∧ Hid (Below w5.heap.size w5 w')) (by kernel_rfl) ?_ (fun hHeld => ?_)
            · exact HS.out _ (below_drewN (n := 1) (Below.refl _ _))
            (refine wpAnyH_take (i := 0) (oi := ⟨_, _, _, _, _, _⟩) (v := ?_) rfl (by kernel_rfl) (by kernel_rfl) (by kernel_rfl) (fun _ _ _ h => h) (Or.inl ⟨by rfl, ?_⟩) (by assumption) ?_; rotate_left 1; · (intro w hSw; (try dsimp only at hSw); go_simp; all_goals with_reducible rfl))
            try simp only [Act.put, List.setIfInBounds_toArray, List.set_cons_zero, List.set_cons_succ]
            (refine wpAnyH_take (i := 1) (oi := ⟨_, _, _, _, _, _⟩) (v := ?_) rfl (by kernel_rfl) (by kernel_rfl) (by kernel_rfl) (fun _ _ _ h => h) (Or.inl ⟨by rfl, ?_⟩) (by assumption) ?_; rotate_left 1; · (intro w hSw; (try dsimp only at hSw); go_simp; all_goals with_reducible rfl))
            try simp only [Act.put, List.setIfInBounds_toArray, List.set_cons_zero, List.set_cons_succ]
            (refine wpAnyH_take (i := 2) (oi := ⟨_, _, _, _, _, _⟩) (v := ?_) rfl (by kernel_rfl) (by kernel_rfl) (by kernel_rfl) (fun _ _ _ h => h) (Or.inl ⟨by rfl, ?_⟩) (by assumption) ?_; rotate_left 1; · (intro w hSw; (try dsimp only at hSw); go_simp; all_goals with_reducible rfl))
            try simp only [Act.put, List.setIfInBounds_toArray, List.set_cons_zero, List.set_cons_succ]
            refine wpAnyH_ready (rs := [3, 6]) (by kernel_rfl) (by simp) ?_
            refine AllReadyH.cons (o := ⟨_, _, _, _, _, _⟩) rfl (fun Kq hKq => ?_) (AllReadyH.cons (o := ⟨_, _, _, _, _, _⟩) rfl (fun Kq hKq => ?_) (AllReadyH.nil))
            · go_simp
              clear hHeld
              have P3 := Lib.hid (show Below w5.heap.size w5 (w5.alloc (.cells #[.int .i64 a, .int .i64 i, .int .u8 s, .int .i64 n, .int .i64 a, .int .i64 j, .int .u8 t, .int .i64 m] 32)).drew from (below_drewN (n := 1) (below_one w5 (.cells #[.int .i64 a, .int .i64 i, .int .u8 s, .int .i64 n, .int .i64 a, .int .i64 j, .int .u8 t, .int .i64 m] 32))))
              have M3 := Lib.hid (show Ms (w5.alloc (.cells #[.int .i64 a, .int .i64 i, .int .u8 s, .int .i64 n, .int .i64 a, .int .i64 j, .int .u8 t, .int .i64 m] 32)).drew (.slice (some ⟨w5.heap.size, 0, none⟩) 2 2) [((a, i), s, n), ((a, j), t, m)] from ms_lit w5 [((a, i), s, n), ((a, j), t, m)])
              refine hKq.out _ _ ?_ (fun hHeld => ?_)
              · (try dsimp only); exact HS.out _ P3.out
              clear hKq Kq
              try simp only [Act.put, List.setIfInBounds_toArray, List.set_cons_zero, List.set_cons_succ]
              refine wpAnyH_ready (rs := [4, 6]) (by kernel_rfl) (by simp) ?_
              refine AllReadyH.cons (o := ⟨_, _, _, _, _, _⟩) rfl (fun Kq hKq => ?_) (AllReadyH.cons (o := ⟨_, _, _, _, _, _⟩) rfl (fun Kq hKq => ?_) (AllReadyH.nil))
              · go_simp
                clear hHeld
                go_at_call 11; (with_reducible refine (of_any _ [((a, i), s, n), ((a, j), t, m)] _ M3.out).mono ?_); rintro e v4 ⟨V4, rfl, hV, hb⟩
                have P34 := Lib.hid (below_after P3.out hb (Nat.le_refl _)); have O34 := Lib.hid hV
                clear hV hb
                refine hKq.out _ _ ?_ (fun hHeld => ?_)
                · (try dsimp only); exact HS.out _ P34.out
                clear hKq Kq
                try simp only [Act.put, List.setIfInBounds_toArray, List.set_cons_zero, List.set_cons_succ]
                refine wpAnyH_ready (rs := [5, 6]) (by kernel_rfl) (by simp) ?_
                refine AllReadyH.cons (o := ⟨_, _, _, _, _, _⟩) rfl (fun Kq hKq => ?_) (AllReadyH.cons (o := ⟨_, _, _, _, _, _⟩) rfl (fun Kq hKq => ?_) (AllReadyH.nil))
                · go_simp
                  clear hHeld
                  go_at_call 22; (with_reducible refine (joinL_any _ V4 la ([((a, i), s, n), ((a, j), t, m)], []) _ (LA.out _ P34.out) O34.out HM1.out HM2.out).mono ?_); rintro e v5 ⟨V5, U5, rfl, hV, hU, hb⟩
                  obtain ⟨D5, g5, k5, rfl, hck, hgk, hrk, hDk⟩ := id hV
                  obtain ⟨A5, c5, rfl, hu5⟩ := id (ids_of_owns hU)
                  have HSZ := Lib.hid (show D5.size = (joinL la ([((a, i), s, n), ((a, j), t, m)], [])).1.length by rw [← hDk]; simp)
                  have P345 := Lib.hid (below_after P34.out hb (Nat.le_refl _)); have HV5 := Lib.hid hV; have HU5 := Lib.hid hU
                  clear hV hU hb hck hgk hrk hDk hu5
                  refine hKq.out _ _ ?_ (fun hHeld => ?_)
                  · (try dsimp only); exact HS.out _ P345.out
                  clear hKq Kq
                  try simp only [Act.put, List.setIfInBounds_toArray, List.set_cons_zero, List.set_cons_succ]
                  refine wpAnyH_ready (rs := [6]) (by kernel_rfl) (by simp) ?_
                  refine AllReadyH.cons (o := ⟨_, _, _, _, _, _⟩) rfl (fun Kq hKq => ?_) (AllReadyH.nil)
                  go_simp
                  clear hHeld
                  have P3456 := Lib.hid (show Below w5.heap.size w5 (v5.alloc (.cells #[.slice none 0 0, .slice none 0 0] 27)) from (below_after P345.out (below_one v5 (.cells #[.slice none 0 0, .slice none 0 0] 27)) (Nat.le_refl _)))
                  have L3456 := Lib.hid (show LBox (v5.alloc (.cells #[.slice none 0 0, .slice none 0 0] 27)) (v5.heap.size) (.slice none 0 0) (.slice none 0 0) from lbox_new v5 (.slice none 0 0) (.slice none 0 0))
                  refine hKq.out _ _ ?_ (fun hHeld => ?_)
                  · (try dsimp only); exact HS.out _ P3456.out
                  clear hKq Kq
                  try simp only [Act.put, List.setIfInBounds_toArray, List.set_cons_zero, List.set_cons_succ]
                  refine wpAnyH_ready (rs := [7]) (by kernel_rfl) (by simp) ?_
                  refine AllReadyH.cons (o := ⟨_, _, _, _, _, _⟩) rfl (fun Kq hKq => ?_) (AllReadyH.nil)
                  obtain ⟨k1, k2⟩ := lbox_cells L3456.out
                  obtain ⟨e1, e2⟩ := lbox_free L3456.out
                  go_simp
                  clear hHeld
                  skip
                  have P34567 := Lib.hid (below_after P345.out (below_one v5 (.cells #[.slice (some ⟨g5, 0, none⟩) D5.size k5, .slice A5 (joinL la ([((a, i), s, n), ((a, j), t, m)], [])).2.length c5] 27)) (Nat.le_refl _))
                  refine hKq.out _ _ ?_ (fun hHeld => ?_)
                  · (try dsimp only); exact HS.out _ P34567.out
                  clear hKq Kq
                  try simp only [Act.put, List.setIfInBounds_toArray, List.set_cons_zero, List.set_cons_succ]
                  refine wpAnyH_done (by kernel_rfl) ?_ _
                  go_wp2_with fail
                  go_meet
                  have hF := lbox_new v5 (.slice (some ⟨g5, 0, none⟩) D5.size k5) (.slice A5 (joinL la ([((a, i), s, n), ((a, j), t, m)], [])).2.length c5)
                  have hM := HV5.out.reads.below (below_one v5 (.cells #[.slice (some ⟨g5, 0, none⟩) D5.size k5, .slice A5 (joinL la ([((a, i), s, n), ((a, j), t, m)], [])).2.length c5] 27))
                  have hI := (ids_of_owns HU5.out).below (below_one v5 (.cells #[.slice (some ⟨g5, 0, none⟩) D5.size k5, .slice A5 (joinL la ([((a, i), s, n), ((a, j), t, m)], [])).2.length c5] 27))
                  exact ⟨_, rfl, Lib.hid (holdsL_eq hF hM hI HSZ.out), P34567⟩
                · go_simp
                  clear hHeld
                  have P346 := Lib.hid (show Below w5.heap.size w5 (v4.alloc (.cells #[.slice none 0 0, .slice none 0 0] 27)) from (below_after P34.out (below_one v4 (.cells #[.slice none 0 0, .slice none 0 0] 27)) (Nat.le_refl _)))
                  have L346 := Lib.hid (show LBox (v4.alloc (.cells #[.slice none 0 0, .slice none 0 0] 27)) (v4.heap.size) (.slice none 0 0) (.slice none 0 0) from lbox_new v4 (.slice none 0 0) (.slice none 0 0))
                  have O346 := Lib.hid (show LsAt (v4.alloc (.cells #[.slice none 0 0, .slice none 0 0] 27)) V4 ([((a, i), s, n), ((a, j), t, m)], []) from O34.out.below (below_one _ _))
                  refine hKq.out _ _ ?_ (fun hHeld => ?_)
                  · (try dsimp only); exact HS.out _ P346.out
                  clear hKq Kq
                  try simp only [Act.put, List.setIfInBounds_toArray, List.set_cons_zero, List.set_cons_succ]
                  refine wpAnyH_ready (rs := [5]) (by kernel_rfl) (by simp) ?_
                  refine AllReadyH.cons (o := ⟨_, _, _, _, _, _⟩) rfl (fun Kq hKq => ?_) (AllReadyH.nil)
                  go_simp
                  clear hHeld
                  go_at_call 22; (with_reducible refine (joinL_any _ V4 la ([((a, i), s, n), ((a, j), t, m)], []) _ (LA.out _ P346.out) O346.out HM1.out HM2.out).mono ?_); rintro e v5 ⟨V5, U5, rfl, hV, hU, hb⟩
                  obtain ⟨D5, g5, k5, rfl, hck, hgk, hrk, hDk⟩ := id hV
                  obtain ⟨A5, c5, rfl, hu5⟩ := id (ids_of_owns hU)
                  have HSZ := Lib.hid (show D5.size = (joinL la ([((a, i), s, n), ((a, j), t, m)], [])).1.length by rw [← hDk]; simp)
                  have P3465 := Lib.hid (below_after P346.out hb (Nat.le_refl _)); have HV5 := Lib.hid hV; have HU5 := Lib.hid hU
                  have L3465 := Lib.hid (lbox_below L346.out hb)
                  have HGL := Lib.hid (lbox_lt L346.out)
                  clear hV hU hb hck hgk hrk hDk hu5
                  refine hKq.out _ _ ?_ (fun hHeld => ?_)
                  · (try dsimp only); exact HS.out _ P3465.out
                  clear hKq Kq
                  try simp only [Act.put, List.setIfInBounds_toArray, List.set_cons_zero, List.set_cons_succ]
                  refine wpAnyH_ready (rs := [7]) (by kernel_rfl) (by simp) ?_
                  refine AllReadyH.cons (o := ⟨_, _, _, _, _, _⟩) rfl (fun Kq hKq => ?_) (AllReadyH.nil)
                  obtain ⟨k1, k2⟩ := lbox_cells L3465.out
                  obtain ⟨e1, e2⟩ := lbox_free L3465.out
                  go_simp
                  clear hHeld
                  skip
                  have P34657 := Lib.hid (below_setCells P3465.out (show w5.heap.size ≤ v4.heap.size by (have := P34.out.size; omega)) 0 [.slice (some ⟨g5, 0, none⟩) D5.size k5, .slice A5 (joinL la ([((a, i), s, n), ((a, j), t, m)], [])).2.length c5])
                  refine hKq.out _ _ ?_ (fun hHeld => ?_)
                  · (try dsimp only); exact HS.out _ P34657.out
                  clear hKq Kq
                  try simp only [Act.put, List.setIfInBounds_toArray, List.set_cons_zero, List.set_cons_succ]
                  refine wpAnyH_done (by kernel_rfl) ?_ _
                  go_wp2_with fail
                  go_meet
                  have hF := lbox_set L3465.out (.slice (some ⟨g5, 0, none⟩) D5.size k5) (.slice A5 (joinL la ([((a, i), s, n), ((a, j), t, m)], [])).2.length c5)
                  have hG := grown_setCells (World.grownBy.refl v5 (some (v4.heap.size))) 0 [.slice (some ⟨g5, 0, none⟩) D5.size k5, .slice A5 (joinL la ([((a, i), s, n), ((a, j), t, m)], [])).2.length c5]
                  have hM := (HV5.out.grown hG HGL.out).reads
                  have hI := ids_of_owns (owns_grown HU5.out hG HGL.out)
                  exact ⟨_, rfl, Lib.hid (holdsL_eq hF hM hI HSZ.out), P34657⟩
              · go_simp
                clear hHeld
                have P36 := Lib.hid (show Below w5.heap.size w5 ((w5.alloc (.cells #[.int .i64 a, .int .i64 i, .int .u8 s, .int .i64 n, .int .i64 a, .int .i64 j, .int .u8 t, .int .i64 m] 32)).alloc (.cells #[.slice none 0 0, .slice none 0 0] 27)).drew from (below_drewN (n := 1) (below_two w5 (.cells #[.int .i64 a, .int .i64 i, .int .u8 s, .int .i64 n, .int .i64 a, .int .i64 j, .int .u8 t, .int .i64 m] 32) (.cells #[.slice none 0 0, .slice none 0 0] 27))))
                have L36 := Lib.hid (show LBox ((w5.alloc (.cells #[.int .i64 a, .int .i64 i, .int .u8 s, .int .i64 n, .int .i64 a, .int .i64 j, .int .u8 t, .int .i64 m] 32)).alloc (.cells #[.slice none 0 0, .slice none 0 0] 27)).drew (w5.heap.size + 1) (.slice none 0 0) (.slice none 0 0) from (by have h := lbox_new (w5.alloc (.cells #[.int .i64 a, .int .i64 i, .int .u8 s, .int .i64 n, .int .i64 a, .int .i64 j, .int .u8 t, .int .i64 m] 32)) (.slice none 0 0) (.slice none 0 0); simp only [World.size_alloc] at h; exact h))
                have M36 := Lib.hid (show Ms ((w5.alloc (.cells #[.int .i64 a, .int .i64 i, .int .u8 s, .int .i64 n, .int .i64 a, .int .i64 j, .int .u8 t, .int .i64 m] 32)).alloc (.cells #[.slice none 0 0, .slice none 0 0] 27)).drew (.slice (some ⟨w5.heap.size, 0, none⟩) 2 2) [((a, i), s, n), ((a, j), t, m)] from M3.out.below (below_one _ _))
                refine hKq.out _ _ ?_ (fun hHeld => ?_)
                · (try dsimp only); exact HS.out _ P36.out
                clear hKq Kq
                try simp only [Act.put, List.setIfInBounds_toArray, List.set_cons_zero, List.set_cons_succ]
                refine wpAnyH_ready (rs := [4]) (by kernel_rfl) (by simp) ?_
                refine AllReadyH.cons (o := ⟨_, _, _, _, _, _⟩) rfl (fun Kq hKq => ?_) (AllReadyH.nil)
                go_simp
                clear hHeld
                go_at_call 11; (with_reducible refine (of_any _ [((a, i), s, n), ((a, j), t, m)] _ M36.out).mono ?_); rintro e v4 ⟨V4, rfl, hV, hb⟩
                have P364 := Lib.hid (below_after P36.out hb (Nat.le_refl _)); have O364 := Lib.hid hV
                have L364 := Lib.hid (lbox_below L36.out hb)
                clear hV hb
                refine hKq.out _ _ ?_ (fun hHeld => ?_)
                · (try dsimp only); exact HS.out _ P364.out
                clear hKq Kq
                try simp only [Act.put, List.setIfInBounds_toArray, List.set_cons_zero, List.set_cons_succ]
                refine wpAnyH_ready (rs := [5]) (by kernel_rfl) (by simp) ?_
                refine AllReadyH.cons (o := ⟨_, _, _, _, _, _⟩) rfl (fun Kq hKq => ?_) (AllReadyH.nil)
                go_simp
                clear hHeld
                go_at_call 22; (with_reducible refine (joinL_any _ V4 la ([((a, i), s, n), ((a, j), t, m)], []) _ (LA.out _ P364.out) O364.out HM1.out HM2.out).mono ?_); rintro e v5 ⟨V5, U5, rfl, hV, hU, hb⟩
                obtain ⟨D5, g5, k5, rfl, hck, hgk, hrk, hDk⟩ := id hV
                obtain ⟨A5, c5, rfl, hu5⟩ := id (ids_of_owns hU)
                have HSZ := Lib.hid (show D5.size = (joinL la ([((a, i), s, n), ((a, j), t, m)], [])).1.length by rw [← hDk]; simp)
                have P3645 := Lib.hid (below_after P364.out hb (Nat.le_refl _)); have HV5 := Lib.hid hV; have HU5 := Lib.hid hU
                have L3645 := Lib.hid (lbox_below L364.out hb)
                have HGL := Lib.hid (lbox_lt L364.out)
                clear hV hU hb hck hgk hrk hDk hu5
                refine hKq.out _ _ ?_ (fun hHeld => ?_)
                · (try dsimp only); exact HS.out _ P3645.out
                clear hKq Kq
                try simp only [Act.put, List.setIfInBounds_toArray, List.set_cons_zero, List.set_cons_succ]
                refine wpAnyH_ready (rs := [7]) (by kernel_rfl) (by simp) ?_
                refine AllReadyH.cons (o := ⟨_, _, _, _, _, _⟩) rfl (fun Kq hKq => ?_) (AllReadyH.nil)
                obtain ⟨k1, k2⟩ := lbox_cells L3645.out
                obtain ⟨e1, e2⟩ := lbox_free L3645.out
                go_simp
                clear hHeld
                skip
                have P36457 := Lib.hid (below_setCells P3645.out (show w5.heap.size ≤ w5.heap.size + 1 by (have := P3.out.size; omega)) 0 [.slice (some ⟨g5, 0, none⟩) D5.size k5, .slice A5 (joinL la ([((a, i), s, n), ((a, j), t, m)], [])).2.length c5])
                refine hKq.out _ _ ?_ (fun hHeld => ?_)
                · (try dsimp only); exact HS.out _ P36457.out
                clear hKq Kq
                try simp only [Act.put, List.setIfInBounds_toArray, List.set_cons_zero, List.set_cons_succ]
                refine wpAnyH_done (by kernel_rfl) ?_ _
                go_wp2_with fail
                go_meet
                have hF := lbox_set L3645.out (.slice (some ⟨g5, 0, none⟩) D5.size k5) (.slice A5 (joinL la ([((a, i), s, n), ((a, j), t, m)], [])).2.length c5)
                have hG := grown_setCells (World.grownBy.refl v5 (some (w5.heap.size + 1))) 0 [.slice (some ⟨g5, 0, none⟩) D5.size k5, .slice A5 (joinL la ([((a, i), s, n), ((a, j), t, m)], [])).2.length c5]
                have hM := (HV5.out.grown hG HGL.out).reads
                have hI := ids_of_owns (owns_grown HU5.out hG HGL.out)
                exact ⟨_, rfl, Lib.hid (holdsL_eq hF hM hI HSZ.out), P36457⟩
            · go_simp
              clear hHeld
              have P6 := Lib.hid (show Below w5.heap.size w5 (w5.alloc (.cells #[.slice none 0 0, .slice none 0 0] 27)).drew from (below_drewN (n := 1) (below_one w5 (.cells #[.slice none 0 0, .slice none 0 0] 27))))
              have L6 := Lib.hid (show LBox (w5.alloc (.cells #[.slice none 0 0, .slice none 0 0] 27)).drew (w5.heap.size) (.slice none 0 0) (.slice none 0 0) from lbox_new w5 (.slice none 0 0) (.slice none 0 0))
              refine hKq.out _ _ ?_ (fun hHeld => ?_)
              · (try dsimp only); exact HS.out _ P6.out
              clear hKq Kq
              try simp only [Act.put, List.setIfInBounds_toArray, List.set_cons_zero, List.set_cons_succ]
              refine wpAnyH_ready (rs := [3]) (by kernel_rfl) (by simp) ?_
              refine AllReadyH.cons (o := ⟨_, _, _, _, _, _⟩) rfl (fun Kq hKq => ?_) (AllReadyH.nil)
              go_simp
              clear hHeld
              have P63 := Lib.hid (show Below w5.heap.size w5 ((w5.alloc (.cells #[.slice none 0 0, .slice none 0 0] 27)).alloc (.cells #[.int .i64 a, .int .i64 i, .int .u8 s, .int .i64 n, .int .i64 a, .int .i64 j, .int .u8 t, .int .i64 m] 32)).drew from (below_drewN (n := 1) (below_two w5 (.cells #[.slice none 0 0, .slice none 0 0] 27) (.cells #[.int .i64 a, .int .i64 i, .int .u8 s, .int .i64 n, .int .i64 a, .int .i64 j, .int .u8 t, .int .i64 m] 32))))
              have M63 := Lib.hid (show Ms ((w5.alloc (.cells #[.slice none 0 0, .slice none 0 0] 27)).alloc (.cells #[.int .i64 a, .int .i64 i, .int .u8 s, .int .i64 n, .int .i64 a, .int .i64 j, .int .u8 t, .int .i64 m] 32)).drew (.slice (some ⟨w5.heap.size + 1, 0, none⟩) 2 2) [((a, i), s, n), ((a, j), t, m)] from (by have h := ms_lit (w5.alloc (.cells #[.slice none 0 0, .slice none 0 0] 27)) [((a, i), s, n), ((a, j), t, m)]; simp only [World.size_alloc] at h; exact h))
              have L63 := Lib.hid (show LBox ((w5.alloc (.cells #[.slice none 0 0, .slice none 0 0] 27)).alloc (.cells #[.int .i64 a, .int .i64 i, .int .u8 s, .int .i64 n, .int .i64 a, .int .i64 j, .int .u8 t, .int .i64 m] 32)).drew (w5.heap.size) (.slice none 0 0) (.slice none 0 0) from lbox_below L6.out (below_one _ _))
              refine hKq.out _ _ ?_ (fun hHeld => ?_)
              · (try dsimp only); exact HS.out _ P63.out
              clear hKq Kq
              try simp only [Act.put, List.setIfInBounds_toArray, List.set_cons_zero, List.set_cons_succ]
              refine wpAnyH_ready (rs := [4]) (by kernel_rfl) (by simp) ?_
              refine AllReadyH.cons (o := ⟨_, _, _, _, _, _⟩) rfl (fun Kq hKq => ?_) (AllReadyH.nil)
              go_simp
              clear hHeld
              go_at_call 11; (with_reducible refine (of_any _ [((a, i), s, n), ((a, j), t, m)] _ M63.out).mono ?_); rintro e v4 ⟨V4, rfl, hV, hb⟩
              have P634 := Lib.hid (below_after P63.out hb (Nat.le_refl _)); have O634 := Lib.hid hV
              have L634 := Lib.hid (lbox_below L63.out hb)
              clear hV hb
              refine hKq.out _ _ ?_ (fun hHeld => ?_)
              · (try dsimp only); exact HS.out _ P634.out
              clear hKq Kq
              try simp only [Act.put, List.setIfInBounds_toArray, List.set_cons_zero, List.set_cons_succ]
              refine wpAnyH_ready (rs := [5]) (by kernel_rfl) (by simp) ?_
              refine AllReadyH.cons (o := ⟨_, _, _, _, _, _⟩) rfl (fun Kq hKq => ?_) (AllReadyH.nil)
              go_simp
              clear hHeld
              go_at_call 22; (with_reducible refine (joinL_any _ V4 la ([((a, i), s, n), ((a, j), t, m)], []) _ (LA.out _ P634.out) O634.out HM1.out HM2.out).mono ?_); rintro e v5 ⟨V5, U5, rfl, hV, hU, hb⟩
              obtain ⟨D5, g5, k5, rfl, hck, hgk, hrk, hDk⟩ := id hV
              obtain ⟨A5, c5, rfl, hu5⟩ := id (ids_of_owns hU)
              have HSZ := Lib.hid (show D5.size = (joinL la ([((a, i), s, n), ((a, j), t, m)], [])).1.length by rw [← hDk]; simp)
              have P6345 := Lib.hid (below_after P634.out hb (Nat.le_refl _)); have HV5 := Lib.hid hV; have HU5 := Lib.hid hU
              have L6345 := Lib.hid (lbox_below L634.out hb)
              have HGL := Lib.hid (lbox_lt L634.out)
              clear hV hU hb hck hgk hrk hDk hu5
              refine hKq.out _ _ ?_ (fun hHeld => ?_)
              · (try dsimp only); exact HS.out _ P6345.out
              clear hKq Kq
              try simp only [Act.put, List.setIfInBounds_toArray, List.set_cons_zero, List.set_cons_succ]
              refine wpAnyH_ready (rs := [7]) (by kernel_rfl) (by simp) ?_
              refine AllReadyH.cons (o := ⟨_, _, _, _, _, _⟩) rfl (fun Kq hKq => ?_) (AllReadyH.nil)
              obtain ⟨k1, k2⟩ := lbox_cells L6345.out
              obtain ⟨e1, e2⟩ := lbox_free L6345.out
              go_simp
              clear hHeld
              skip
              have P63457 := Lib.hid (below_setCells P6345.out (show w5.heap.size ≤ w5.heap.size by (have := PZ.out.size; omega)) 0 [.slice (some ⟨g5, 0, none⟩) D5.size k5, .slice A5 (joinL la ([((a, i), s, n), ((a, j), t, m)], [])).2.length c5])
              refine hKq.out _ _ ?_ (fun hHeld => ?_)
              · (try dsimp only); exact HS.out _ P63457.out
              clear hKq Kq
              try simp only [Act.put, List.setIfInBounds_toArray, List.set_cons_zero, List.set_cons_succ]
              refine wpAnyH_done (by kernel_rfl) ?_ _
              go_wp2_with fail
              go_meet
              have hF := lbox_set L6345.out (.slice (some ⟨g5, 0, none⟩) D5.size k5) (.slice A5 (joinL la ([((a, i), s, n), ((a, j), t, m)], [])).2.length c5)
              have hG := grown_setCells (World.grownBy.refl v5 (some (w5.heap.size))) 0 [.slice (some ⟨g5, 0, none⟩) D5.size k5, .slice A5 (joinL la ([((a, i), s, n), ((a, j), t, m)], [])).2.length c5]
              have hM := (HV5.out.grown hG HGL.out).reads
              have hI := ids_of_owns (owns_grown HU5.out hG HGL.out)
              exact ⟨_, rfl, Lib.hid (holdsL_eq hF hM hI HSZ.out), P63457⟩
          case rest =>
            obtain ⟨GJ, rfl, HJ, HB5⟩ := hcut
            clear LA HS HM1 HM2 PZ
            have GW := Lib.hid (G5.out.step HB5.out)
            clear G5 HB5
            have HLJ : Hid (((joinL la ([((a, i), s, n), ((a, j), t, m)], []))).1.length ≤ 100 ∧ ((joinL la ([((a, i), s, n), ((a, j), t, m)], []))).2.length ≤ 100) := Lib.hid (lenJ _ _)
            generalize (joinL la ([((a, i), s, n), ((a, j), t, m)], [])) = J at *
            obtain ⟨e1, e2, e3⟩ := HF.out
            have E1 := Lib.hid e1
            have E2 := Lib.hid e2
            have HGt := Lib.hid fun W v c (h : Ms W v J.1) => get_any v J.1 a c W h (Nat.le_trans HLJ.out.1 (by omega))
            have HAt := Lib.hid fun W v (h : Ms W v J.1) => at_any v J.1 a W h (Nat.le_trans HLJ.out.1 (by omega))
            have HGo := Lib.hid fun W v c (h : Ids W v J.2) => gone_of v J.2 a c W h (Nat.le_trans HLJ.out.2 (by omega))
            have HG1 : Hid (∀ W v, Ms W v J.1 → Calls Try.prog 17 #[v, .agg #[.int .i64 a, .int .i64 i]] W fun e w' => e = .returned (gotV none) ∧ Below W.heap.size W w') := Lib.hid fun W v h => by
              have := HGt.out W v i h
              rwa [E1.out] at this
            have HO1 : Hid (∀ W v, Ids W v J.2 → Calls Try.prog 19 #[v, .agg #[.int .i64 a, .int .i64 i]] W fun e w' => e = .returned (.bool true) ∧ Below W.heap.size W w') := Lib.hid fun W v h => by
              have := HGo.out W v i h
              rwa [E2.out] at this
            clear e1 e2 HF E1 E2
            rcases e3 with ⟨g1, g2, g3⟩ | ⟨g1, st, no, g2, g3⟩
            · have HG2 : Hid (∀ W v, Ms W v J.1 → Calls Try.prog 17 #[v, .agg #[.int .i64 a, .int .i64 j]] W fun e w' => e = .returned (gotV none) ∧ Below W.heap.size W w') := Lib.hid fun W v h => by
                have := HGt.out W v j h
                rwa [g2] at this
              have HO2 : Hid (∀ W v, Ids W v J.2 → Calls Try.prog 19 #[v, .agg #[.int .i64 a, .int .i64 j]] W fun e w' => e = .returned (.bool true) ∧ Below W.heap.size W w') := Lib.hid fun W v h => by
                have := HGo.out W v j h
                rwa [g1] at this
              clear g1 g2
              rcases hat : foreO (isAt a) newerB J.1 with _ | ⟨⟨z1, z2⟩, z3, z4⟩
              · have HA2 : Hid (∀ W v, Ms W v J.1 → Calls Try.prog 16 #[v, .int .i64 a] W fun e w' => e = .returned (gotV none) ∧ Below W.heap.size W w') := Lib.hid fun W v h => by
                  have := HAt.out W v h
                  rwa [hat] at this
                clear hat g3 HGt HAt HGo
                obtain ⟨A6, c6, B6, d6, x6, m6, i6⟩ := id HJ.out
                obtain ⟨u1, u2⟩ := lbox_cells x6
                have X6 := Lib.hid x6
                have M6 := Lib.hid m6
                have I6 := Lib.hid i6
                clear x6 m6 i6
                have G6 := GW
                clear GW
                obtain ⟨x1, x2, x3, x4⟩ := mbox_cells G6.out.hx
                obtain ⟨y1, y2, y3, y4⟩ := mbox_cells G6.out.hy
                go_wp2_with fail
                (with_reducible refine (HG1.out _ _ M6.out).mono ?_)
                rintro e w6 ⟨rfl, hb⟩
                have q := below_one w6 (.cells #[.int .i64 0, .int .i64 0, .int .u8 0, .int .i64 0] 32)
                have G7 := Lib.hid ((G6.out.step hb).step q)
                have X7 := Lib.hid (lbox_below (lbox_below X6.out hb) q)
                have M7 := Lib.hid ((M6.out.below hb).below q)
                have I7 := Lib.hid ((I6.out.below hb).below q)
                clear hb q u1 u2 x1 x2 x3 x4 y1 y2 y3 y4 G6 X6 M6 I6
                rw [show gotV none = .tuple #[.agg #[.int .i64 0, .int .i64 0, .int .u8 0, .int .i64 0], .bool false] from rfl]
                obtain ⟨k1, k2, k3, k4⟩ := mbox_cells (mbox_new w6 0 0 0 0)
                obtain ⟨l1, l2, l3, l4⟩ := mbox_free (mbox_new w6 0 0 0 0)
                obtain ⟨u1, u2⟩ := lbox_cells X7.out
                obtain ⟨x1, x2, x3, x4⟩ := mbox_cells G7.out.hx
                obtain ⟨y1, y2, y3, y4⟩ := mbox_cells G7.out.hy
                go_wp2_with fail
                (with_reducible refine (HG2.out _ _ M7.out).mono ?_)
                rintro e w7 ⟨rfl, hb⟩
                have q := below_one w7 (.cells #[.int .i64 0, .int .i64 0, .int .u8 0, .int .i64 0] 32)
                have G8 := Lib.hid ((G7.out.step hb).step q)
                have X8 := Lib.hid (lbox_below (lbox_below X7.out hb) q)
                have M8 := Lib.hid ((M7.out.below hb).below q)
                have I8 := Lib.hid ((I7.out.below hb).below q)
                clear hb q u1 u2 x1 x2 x3 x4 y1 y2 y3 y4 G7 X7 M7 I7
                clear k1 k2 k3 k4 l1 l2 l3 l4
                rw [show gotV none = .tuple #[.agg #[.int .i64 0, .int .i64 0, .int .u8 0, .int .i64 0], .bool false] from rfl]
                obtain ⟨k1, k2, k3, k4⟩ := mbox_cells (mbox_new w7 0 0 0 0)
                obtain ⟨l1, l2, l3, l4⟩ := mbox_free (mbox_new w7 0 0 0 0)
                obtain ⟨u1, u2⟩ := lbox_cells X8.out
                obtain ⟨x1, x2, x3, x4⟩ := mbox_cells G8.out.hx
                obtain ⟨y1, y2, y3, y4⟩ := mbox_cells G8.out.hy
                go_wp2_with fail
                (with_reducible refine (HA2.out _ _ M8.out).mono ?_)
                rintro e w8 ⟨rfl, hb⟩
                have q := below_one w8 (.cells #[.int .i64 0, .int .i64 0, .int .u8 0, .int .i64 0] 32)
                have G9 := Lib.hid ((G8.out.step hb).step q)
                have X9 := Lib.hid (lbox_below (lbox_below X8.out hb) q)
                have M9 := Lib.hid ((M8.out.below hb).below q)
                have I9 := Lib.hid ((I8.out.below hb).below q)
                clear hb q u1 u2 x1 x2 x3 x4 y1 y2 y3 y4 G8 X8 M8 I8
                clear k1 k2 k3 k4 l1 l2 l3 l4
                have N9 := Lib.hid (mbox_new w8 0 0 0 0)
                obtain ⟨n1, n2, n3, n4⟩ := mbox_cells N9.out
                rw [show gotV none = .tuple #[.agg #[.int .i64 0, .int .i64 0, .int .u8 0, .int .i64 0], .bool false] from rfl]
                obtain ⟨k1, k2, k3, k4⟩ := mbox_cells (mbox_new w8 0 0 0 0)
                obtain ⟨l1, l2, l3, l4⟩ := mbox_free (mbox_new w8 0 0 0 0)
                obtain ⟨u1, u2⟩ := lbox_cells X9.out
                obtain ⟨x1, x2, x3, x4⟩ := mbox_cells G9.out.hx
                obtain ⟨y1, y2, y3, y4⟩ := mbox_cells G9.out.hy
                go_wp2_with fail
                (with_reducible refine (HO1.out _ _ I9.out).mono ?_)
                rintro e w9 ⟨rfl, hb⟩
                have G10 := Lib.hid (G9.out.step hb)
                have X10 := Lib.hid (lbox_below X9.out hb)
                have I10 := Lib.hid (I9.out.below hb)
                have N10 := Lib.hid (mbox_below N9.out hb)
                clear hb u1 u2 x1 x2 x3 x4 y1 y2 y3 y4 n1 n2 n3 n4 G9 X9 I9 N9
                clear k1 k2 k3 k4 l1 l2 l3 l4
                obtain ⟨n1, n2, n3, n4⟩ := mbox_cells N10.out
                obtain ⟨u1, u2⟩ := lbox_cells X10.out
                obtain ⟨x1, x2, x3, x4⟩ := mbox_cells G10.out.hx
                obtain ⟨y1, y2, y3, y4⟩ := mbox_cells G10.out.hy
                go_wp2_with fail
                (with_reducible refine (HO2.out _ _ I10.out).mono ?_)
                rintro e w10 ⟨rfl, hb⟩
                have G11 := Lib.hid (G10.out.step hb)
                have X11 := Lib.hid (lbox_below X10.out hb)
                have I11 := Lib.hid (I10.out.below hb)
                have N11 := Lib.hid (mbox_below N10.out hb)
                clear hb u1 u2 x1 x2 x3 x4 y1 y2 y3 y4 n1 n2 n3 n4 G10 X10 I10 N10
                obtain ⟨n1, n2, n3, n4⟩ := mbox_cells N11.out
                obtain ⟨u1, u2⟩ := lbox_cells X11.out
                obtain ⟨x1, x2, x3, x4⟩ := mbox_cells G11.out.hx
                obtain ⟨y1, y2, y3, y4⟩ := mbox_cells G11.out.hy
                go_wp2_with fail
                go_ret
                exact ⟨rfl, G11.out.below⟩
              · have hz : j ≤ z2 := g3 _ hat
                have HA2 : Hid (∀ W v, Ms W v J.1 → Calls Try.prog 16 #[v, .int .i64 a] W fun e w' => e = .returned (gotV (some ((z1, z2), z3, z4))) ∧ Below W.heap.size W w') := Lib.hid fun W v h => by
                  have := HAt.out W v h
                  rwa [hat] at this
                have hd : decide (z2 ≥ j) = true := decide_eq_true hz
                have hd2 : decide (j ≤ z2) = true := decide_eq_true hz
                clear hat g3 HGt HAt HGo hz
                obtain ⟨A6, c6, B6, d6, x6, m6, i6⟩ := id HJ.out
                obtain ⟨u1, u2⟩ := lbox_cells x6
                have X6 := Lib.hid x6
                have M6 := Lib.hid m6
                have I6 := Lib.hid i6
                clear x6 m6 i6
                have G6 := GW
                clear GW
                obtain ⟨x1, x2, x3, x4⟩ := mbox_cells G6.out.hx
                obtain ⟨y1, y2, y3, y4⟩ := mbox_cells G6.out.hy
                go_wp2_with fail
                (with_reducible refine (HG1.out _ _ M6.out).mono ?_)
                rintro e w6 ⟨rfl, hb⟩
                have q := below_one w6 (.cells #[.int .i64 0, .int .i64 0, .int .u8 0, .int .i64 0] 32)
                have G7 := Lib.hid ((G6.out.step hb).step q)
                have X7 := Lib.hid (lbox_below (lbox_below X6.out hb) q)
                have M7 := Lib.hid ((M6.out.below hb).below q)
                have I7 := Lib.hid ((I6.out.below hb).below q)
                clear hb q u1 u2 x1 x2 x3 x4 y1 y2 y3 y4 G6 X6 M6 I6
                rw [show gotV none = .tuple #[.agg #[.int .i64 0, .int .i64 0, .int .u8 0, .int .i64 0], .bool false] from rfl]
                obtain ⟨k1, k2, k3, k4⟩ := mbox_cells (mbox_new w6 0 0 0 0)
                obtain ⟨l1, l2, l3, l4⟩ := mbox_free (mbox_new w6 0 0 0 0)
                obtain ⟨u1, u2⟩ := lbox_cells X7.out
                obtain ⟨x1, x2, x3, x4⟩ := mbox_cells G7.out.hx
                obtain ⟨y1, y2, y3, y4⟩ := mbox_cells G7.out.hy
                go_wp2_with fail
                (with_reducible refine (HG2.out _ _ M7.out).mono ?_)
                rintro e w7 ⟨rfl, hb⟩
                have q := below_one w7 (.cells #[.int .i64 0, .int .i64 0, .int .u8 0, .int .i64 0] 32)
                have G8 := Lib.hid ((G7.out.step hb).step q)
                have X8 := Lib.hid (lbox_below (lbox_below X7.out hb) q)
                have M8 := Lib.hid ((M7.out.below hb).below q)
                have I8 := Lib.hid ((I7.out.below hb).below q)
                clear hb q u1 u2 x1 x2 x3 x4 y1 y2 y3 y4 G7 X7 M7 I7
                clear k1 k2 k3 k4 l1 l2 l3 l4
                rw [show gotV none = .tuple #[.agg #[.int .i64 0, .int .i64 0, .int .u8 0, .int .i64 0], .bool false] from rfl]
                obtain ⟨k1, k2, k3, k4⟩ := mbox_cells (mbox_new w7 0 0 0 0)
                obtain ⟨l1, l2, l3, l4⟩ := mbox_free (mbox_new w7 0 0 0 0)
                obtain ⟨u1, u2⟩ := lbox_cells X8.out
                obtain ⟨x1, x2, x3, x4⟩ := mbox_cells G8.out.hx
                obtain ⟨y1, y2, y3, y4⟩ := mbox_cells G8.out.hy
                go_wp2_with fail
                (with_reducible refine (HA2.out _ _ M8.out).mono ?_)
                rintro e w8 ⟨rfl, hb⟩
                have q := below_one w8 (.cells #[.int .i64 z1, .int .i64 z2, .int .u8 z3, .int .i64 z4] 32)
                have G9 := Lib.hid ((G8.out.step hb).step q)
                have X9 := Lib.hid (lbox_below (lbox_below X8.out hb) q)
                have M9 := Lib.hid ((M8.out.below hb).below q)
                have I9 := Lib.hid ((I8.out.below hb).below q)
                clear hb q u1 u2 x1 x2 x3 x4 y1 y2 y3 y4 G8 X8 M8 I8
                clear k1 k2 k3 k4 l1 l2 l3 l4
                have N9 := Lib.hid (mbox_new w8 z1 z2 z3 z4)
                obtain ⟨n1, n2, n3, n4⟩ := mbox_cells N9.out
                rw [show gotV (some ((z1, z2), z3, z4)) = .tuple #[.agg #[.int .i64 z1, .int .i64 z2, .int .u8 z3, .int .i64 z4], .bool true] from rfl]
                obtain ⟨k1, k2, k3, k4⟩ := mbox_cells (mbox_new w8 0 0 0 0)
                obtain ⟨l1, l2, l3, l4⟩ := mbox_free (mbox_new w8 0 0 0 0)
                obtain ⟨u1, u2⟩ := lbox_cells X9.out
                obtain ⟨x1, x2, x3, x4⟩ := mbox_cells G9.out.hx
                obtain ⟨y1, y2, y3, y4⟩ := mbox_cells G9.out.hy
                go_wp2_with fail
                (with_reducible refine (HO1.out _ _ I9.out).mono ?_)
                rintro e w9 ⟨rfl, hb⟩
                have G10 := Lib.hid (G9.out.step hb)
                have X10 := Lib.hid (lbox_below X9.out hb)
                have I10 := Lib.hid (I9.out.below hb)
                have N10 := Lib.hid (mbox_below N9.out hb)
                clear hb u1 u2 x1 x2 x3 x4 y1 y2 y3 y4 n1 n2 n3 n4 G9 X9 I9 N9
                clear k1 k2 k3 k4 l1 l2 l3 l4
                obtain ⟨n1, n2, n3, n4⟩ := mbox_cells N10.out
                obtain ⟨u1, u2⟩ := lbox_cells X10.out
                obtain ⟨x1, x2, x3, x4⟩ := mbox_cells G10.out.hx
                obtain ⟨y1, y2, y3, y4⟩ := mbox_cells G10.out.hy
                go_wp2_with fail
                (with_reducible refine (HO2.out _ _ I10.out).mono ?_)
                rintro e w10 ⟨rfl, hb⟩
                have G11 := Lib.hid (G10.out.step hb)
                have X11 := Lib.hid (lbox_below X10.out hb)
                have I11 := Lib.hid (I10.out.below hb)
                have N11 := Lib.hid (mbox_below N10.out hb)
                clear hb u1 u2 x1 x2 x3 x4 y1 y2 y3 y4 n1 n2 n3 n4 G10 X10 I10 N10
                obtain ⟨n1, n2, n3, n4⟩ := mbox_cells N11.out
                obtain ⟨u1, u2⟩ := lbox_cells X11.out
                obtain ⟨x1, x2, x3, x4⟩ := mbox_cells G11.out.hx
                obtain ⟨y1, y2, y3, y4⟩ := mbox_cells G11.out.hy
                go_wp2_with fail
                go_ret
                exact ⟨rfl, G11.out.below⟩
            · have HG2 : Hid (∀ W v, Ms W v J.1 → Calls Try.prog 17 #[v, .agg #[.int .i64 a, .int .i64 j]] W fun e w' => e = .returned (gotV (some ((a, j), st, no))) ∧ Below W.heap.size W w') := Lib.hid fun W v h => by
                have := HGt.out W v j h
                rwa [g2] at this
              have HO2 : Hid (∀ W v, Ids W v J.2 → Calls Try.prog 19 #[v, .agg #[.int .i64 a, .int .i64 j]] W fun e w' => e = .returned (.bool false) ∧ Below W.heap.size W w') := Lib.hid fun W v h => by
                have := HGo.out W v j h
                rwa [g1] at this
              have HA2 : Hid (∀ W v, Ms W v J.1 → Calls Try.prog 16 #[v, .int .i64 a] W fun e w' => e = .returned (gotV (some ((a, j), st, no))) ∧ Below W.heap.size W w') := Lib.hid fun W v h => by
                have := HAt.out W v h
                rwa [g3] at this
              clear g1 g2 g3 HGt HAt HGo
              obtain ⟨A6, c6, B6, d6, x6, m6, i6⟩ := id HJ.out
              obtain ⟨u1, u2⟩ := lbox_cells x6
              have X6 := Lib.hid x6
              have M6 := Lib.hid m6
              have I6 := Lib.hid i6
              clear x6 m6 i6
              have G6 := GW
              clear GW
              obtain ⟨x1, x2, x3, x4⟩ := mbox_cells G6.out.hx
              obtain ⟨y1, y2, y3, y4⟩ := mbox_cells G6.out.hy
              go_wp2_with fail
              (with_reducible refine (HG1.out _ _ M6.out).mono ?_)
              rintro e w6 ⟨rfl, hb⟩
              have q := below_one w6 (.cells #[.int .i64 0, .int .i64 0, .int .u8 0, .int .i64 0] 32)
              have G7 := Lib.hid ((G6.out.step hb).step q)
              have X7 := Lib.hid (lbox_below (lbox_below X6.out hb) q)
              have M7 := Lib.hid ((M6.out.below hb).below q)
              have I7 := Lib.hid ((I6.out.below hb).below q)
              clear hb q u1 u2 x1 x2 x3 x4 y1 y2 y3 y4 G6 X6 M6 I6
              rw [show gotV none = .tuple #[.agg #[.int .i64 0, .int .i64 0, .int .u8 0, .int .i64 0], .bool false] from rfl]
              obtain ⟨k1, k2, k3, k4⟩ := mbox_cells (mbox_new w6 0 0 0 0)
              obtain ⟨l1, l2, l3, l4⟩ := mbox_free (mbox_new w6 0 0 0 0)
              obtain ⟨u1, u2⟩ := lbox_cells X7.out
              obtain ⟨x1, x2, x3, x4⟩ := mbox_cells G7.out.hx
              obtain ⟨y1, y2, y3, y4⟩ := mbox_cells G7.out.hy
              go_wp2_with fail
              (with_reducible refine (HG2.out _ _ M7.out).mono ?_)
              rintro e w7 ⟨rfl, hb⟩
              have q := below_one w7 (.cells #[.int .i64 a, .int .i64 j, .int .u8 st, .int .i64 no] 32)
              have G8 := Lib.hid ((G7.out.step hb).step q)
              have X8 := Lib.hid (lbox_below (lbox_below X7.out hb) q)
              have M8 := Lib.hid ((M7.out.below hb).below q)
              have I8 := Lib.hid ((I7.out.below hb).below q)
              clear hb q u1 u2 x1 x2 x3 x4 y1 y2 y3 y4 G7 X7 M7 I7
              clear k1 k2 k3 k4 l1 l2 l3 l4
              rw [show gotV (some ((a, j), st, no)) = .tuple #[.agg #[.int .i64 a, .int .i64 j, .int .u8 st, .int .i64 no], .bool true] from rfl]
              obtain ⟨k1, k2, k3, k4⟩ := mbox_cells (mbox_new w7 0 0 0 0)
              obtain ⟨l1, l2, l3, l4⟩ := mbox_free (mbox_new w7 0 0 0 0)
              obtain ⟨u1, u2⟩ := lbox_cells X8.out
              obtain ⟨x1, x2, x3, x4⟩ := mbox_cells G8.out.hx
              obtain ⟨y1, y2, y3, y4⟩ := mbox_cells G8.out.hy
              go_wp2_with fail
              (with_reducible refine (HA2.out _ _ M8.out).mono ?_)
              rintro e w8 ⟨rfl, hb⟩
              have q := below_one w8 (.cells #[.int .i64 a, .int .i64 j, .int .u8 st, .int .i64 no] 32)
              have G9 := Lib.hid ((G8.out.step hb).step q)
              have X9 := Lib.hid (lbox_below (lbox_below X8.out hb) q)
              have M9 := Lib.hid ((M8.out.below hb).below q)
              have I9 := Lib.hid ((I8.out.below hb).below q)
              clear hb q u1 u2 x1 x2 x3 x4 y1 y2 y3 y4 G8 X8 M8 I8
              clear k1 k2 k3 k4 l1 l2 l3 l4
              have N9 := Lib.hid (mbox_new w8 a j st no)
              obtain ⟨n1, n2, n3, n4⟩ := mbox_cells N9.out
              rw [show gotV (some ((a, j), st, no)) = .tuple #[.agg #[.int .i64 a, .int .i64 j, .int .u8 st, .int .i64 no], .bool true] from rfl]
              obtain ⟨k1, k2, k3, k4⟩ := mbox_cells (mbox_new w8 0 0 0 0)
              obtain ⟨l1, l2, l3, l4⟩ := mbox_free (mbox_new w8 0 0 0 0)
              obtain ⟨u1, u2⟩ := lbox_cells X9.out
              obtain ⟨x1, x2, x3, x4⟩ := mbox_cells G9.out.hx
              obtain ⟨y1, y2, y3, y4⟩ := mbox_cells G9.out.hy
              go_wp2_with fail
              (with_reducible refine (HO1.out _ _ I9.out).mono ?_)
              rintro e w9 ⟨rfl, hb⟩
              have G10 := Lib.hid (G9.out.step hb)
              have X10 := Lib.hid (lbox_below X9.out hb)
              have I10 := Lib.hid (I9.out.below hb)
              have N10 := Lib.hid (mbox_below N9.out hb)
              clear hb u1 u2 x1 x2 x3 x4 y1 y2 y3 y4 n1 n2 n3 n4 G9 X9 I9 N9
              clear k1 k2 k3 k4 l1 l2 l3 l4
              obtain ⟨n1, n2, n3, n4⟩ := mbox_cells N10.out
              obtain ⟨u1, u2⟩ := lbox_cells X10.out
              obtain ⟨x1, x2, x3, x4⟩ := mbox_cells G10.out.hx
              obtain ⟨y1, y2, y3, y4⟩ := mbox_cells G10.out.hy
              go_wp2_with fail
              (with_reducible refine (HO2.out _ _ I10.out).mono ?_)
              rintro e w10 ⟨rfl, hb⟩
              have G11 := Lib.hid (G10.out.step hb)
              have X11 := Lib.hid (lbox_below X10.out hb)
              have I11 := Lib.hid (I10.out.below hb)
              have N11 := Lib.hid (mbox_below N10.out hb)
              clear hb u1 u2 x1 x2 x3 x4 y1 y2 y3 y4 n1 n2 n3 n4 G10 X10 I10 N10
              obtain ⟨n1, n2, n3, n4⟩ := mbox_cells N11.out
              obtain ⟨u1, u2⟩ := lbox_cells X11.out
              obtain ⟨x1, x2, x3, x4⟩ := mbox_cells G11.out.hx
              obtain ⟨y1, y2, y3, y4⟩ := mbox_cells G11.out.hy
              go_wp2_with fail
              go_ret
              exact ⟨rfl, G11.out.below⟩
        · have hd : decide (i ≥ j) = true := decide_eq_true (by omega)
          have hd2 : decide (j ≤ i) = true := decide_eq_true (by omega)
          clear hij
          go_wp2_with fail
          refine (works_any _).mono ?_
          rintro e w6 ⟨rfl, hb⟩
          have BZ := Lib.hid (below_after G5.out.below hb (Nat.le_refl _))
          clear hb
          go_wp2_with fail
          go_ret
          exact ⟨rfl, BZ.out⟩
  · clear hbig HC1 HC2
    go_wp2_with fail
    refine (works_any _).mono ?_
    rintro e w4 ⟨rfl, hb⟩
    have BZ := Lib.hid (below_after G3.out.below hb (Nat.le_refl _))
    clear hb
    go_wp2_with fail
    go_ret
    exact ⟨rfl, BZ.out⟩
end Go.Proofs.Ytciolhpkhblnbaa
