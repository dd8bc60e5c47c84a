/-
  Walked: what comes of Join may be, but for numbers. No statement is proved in this text.
-/
import Derived.Test.YtciolhpkhblnbaaLaws
import Derived.Test.YtciolhpkhblnbaaRosF
namespace Go.Proofs.Ytciolhpkhblnbaa
open Go Go.RowKit Ros
/-- A number written. -/
theorem rowM_no {w : World} {g : Nat} {d : Array Mm} (h : RowAtR encM 4 w g d) {i : Nat} (hi : i < d.size) (n : Int) : RowAtR encM 4 (w.setCell ⟨g, i * 4 + 3, none⟩ (.int .i64 n)) g (d.setIfInBounds i (d[i]!.1, d[i]!.2.1, n)) := by
  refine ⟨by rw [World.size_setCell]; exact h.1, fun k hk j u hu => ⟨?_, ?_⟩⟩
  · have hk2 : k < d.size := by simpa using hk
    show (w.setCells g (i * 4 + 3) [.int .i64 n]).cell? _ = _
    have hj : j < 4 := (List.getElem?_eq_some_iff.1 hu).1
    by_cases e : k = i
    · subst e
      rw [getElem!_pos _ k hk, Array.getElem_setIfInBounds_self] at hu
      by_cases e3 : j = 3
      · subst e3
        rw [← Option.some.inj hu]
        have := World.cell?_setCells_in g [Value.int .i64 n] (k * 4 + 3) w (fun m hm => by
          have hm0 : m = 0 := by simpa using hm
          subst hm0
          rw [Nat.add_zero, (h.2 k hk2 3 _ rfl).1]
          rfl) 0 (by simp)
        rw [Nat.add_zero] at this
        rw [this]
        rfl
      · rw [World.cell?_setCells_out g _ (k * 4 + 3) w _ (fun _ _ => .inl (show k * 4 + j < k * 4 + 3 by omega))]
        refine (h.2 k hk2 j u ?_).1
        rw [← hu]
        rcases (show j = 0 ∨ j = 1 ∨ j = 2 by omega) with rfl | rfl | rfl <;> rfl
    · have hg : (d.setIfInBounds i (d[i]!.1, d[i]!.2.1, n))[k]! = d[k]! := by
        rw [getElem!_pos _ k hk, getElem!_pos d k hk2, Array.getElem_setIfInBounds_ne _ (fun h => e h.symm)]
      rw [hg] at hu
      rw [World.cell?_setCells_out g _ (i * 4 + 3) w _ (fun _ _ => ?_)]
      · exact (h.2 k hk2 j u hu).1
      · show k * 4 + j < i * 4 + 3 ∨ i * 4 + 3 + 1 ≤ k * 4 + j
        omega
  · have hk2 : k < d.size := by simpa using hk
    show (w.setCells g (i * 4 + 3) [.int .i64 n]).frozen? _ = _
    rw [World.frozen?_setCells]
    have hj : j < 4 := (List.getElem?_eq_some_iff.1 hu).1
    have hj2 : j < (encM d[k]!).length := hj
    exact (h.2 k hk2 j _ (List.getElem?_eq_getElem hj2)).2
/-- The first k mended. -/
def fixA (D : Array Mm) (k : Nat) : Array Mm := ((D.toList.take k).map fixM ++ D.toList.drop k).toArray
theorem fixA_size (D : Array Mm) (k : Nat) : (fixA D k).size = D.size := by simp [fixA]; omega
theorem fixA_none (D : Array Mm) : fixA D 0 = D := by simp [fixA]
theorem fixA_all (D : Array Mm) {k : Nat} (hk : D.size ≤ k) : (fixA D k).toList = D.toList.map fixM := by
  unfold fixA
  rw [List.take_of_length_le (by simpa using hk), List.drop_of_length_le (by simpa using hk)]
  simp
theorem fixA_at (D : Array Mm) {k : Nat} (hk : k < D.size) : (fixA D k)[k]! = D[k]! := by
  rw [getElem!_pos _ k (by rw [fixA_size]; exact hk), getElem!_pos D k hk]
  simp only [fixA, List.getElem_toArray]
  rw [List.getElem_append_right (by simp; omega)]
  simp
  congr 1
  omega
theorem fixA_put (D : Array Mm) {k : Nat} (hk : k < D.size) : (fixA D k).setIfInBounds k (fixM D[k]!) = fixA D (k + 1) := by
  apply Array.ext_getElem?
  intro j
  by_cases hj : j < D.size
  · rw [Array.getElem?_eq_getElem (by simp [fixA_size]; exact hj), Array.getElem?_eq_getElem (by rw [fixA_size]; exact hj)]
    congr 1
    by_cases e : j = k
    · subst e
      rw [Array.getElem_setIfInBounds_self, getElem!_pos D j hj]
      simp only [fixA, List.getElem_toArray]
      rw [List.getElem_append_left (by simp; omega)]
      simp
    · rw [Array.getElem_setIfInBounds_ne (by rw [fixA_size]; exact hj) (fun h => e h.symm)]
      simp only [fixA, List.getElem_toArray]
      by_cases h2 : j < k
      · rw [List.getElem_append_left (by simp; omega), List.getElem_append_left (by simp; omega)]
        simp
      · rw [List.getElem_append_right (by simp; omega), List.getElem_append_right (by simp; omega)]
        simp
        congr 1
        omega
  · rw [Array.getElem?_eq_none (by simp [fixA_size]; omega), Array.getElem?_eq_none (by rw [fixA_size]; omega)]
theorem lbox_grown {w w' : World} {g r : Nat} {V U : Value} (h : LBox w g V U) (hb : w.grownBy w' (some r)) (hg : g ≠ r) : LBox w' g V U := (hb.block g (lbox_lt h) (by simpa using hg)).trans h
/-- What stands of the world. -/
structure MyG (w : World) (GA GB GX gv hi : Nat) (la lb : Ls) (V U : Value) (D : Array Mm) (JF : List Id2) (W : World) : Prop where
  ha : HoldsL W GA la
  hb : HoldsL W GB lb
  hx : LBox W GX V U
  hr : RowAtR encM 4 W gv D
  hu : Owns W hi U JF
  below : Below w.heap.size w W
theorem MyG.step {w : World} {GA GB GX gv hi : Nat} {la lb : Ls} {V U : Value} {D : Array Mm} {JF : List Id2} {W W' : World} (h : MyG w GA GB GX gv hi la lb V U D JF W) (hb : Below W.heap.size W W') : MyG w GA GB GX gv hi la lb V U D JF W' := ⟨h.ha.below hb, h.hb.below hb, lbox_below h.hx hb, rowAtR_kept h.hr hb, h.hu.below hb, below_after h.below hb (Nat.le_refl _)⟩
set_option maxHeartbeats 16000000 in
set_option maxRecDepth 100000 in
theorem rosterMay_any (v0 : Value) (la : Ls) (v1 : Value) (lb : Ls) (w : World) (h0 : LsAt w v0 la) (h1 : LsAt w v1 lb) :
    Calls Try.prog 5 #[v0, v1] w fun e w' => e = .returned (.bool true) ∧ Below w.heap.size w w' := by
  obtain ⟨A0, c0, B0, d0, rfl, m0, i0⟩ := h0
  obtain ⟨A1, c1, B1, d1, rfl, m1, i1⟩ := h1
  have q0 := below_one w (.cells #[.slice A0 la.1.length c0, .slice B0 la.2.length d0] 27)
  have q1 := below_one (w.alloc (.cells #[.slice A0 la.1.length c0, .slice B0 la.2.length d0] 27)) (.cells #[.slice A1 lb.1.length c1, .slice B1 lb.2.length d1] 27)
  have Q := below_after q0 q1 (Nat.le_refl _)
  have HG0 : Hid (HoldsL ((w.alloc (.cells #[.slice A0 la.1.length c0, .slice B0 la.2.length d0] 27)).alloc (.cells #[.slice A1 lb.1.length c1, .slice B1 lb.2.length d1] 27)) w.heap.size la ∧ HoldsL ((w.alloc (.cells #[.slice A0 la.1.length c0, .slice B0 la.2.length d0] 27)).alloc (.cells #[.slice A1 lb.1.length c1, .slice B1 lb.2.length d1] 27)) (w.heap.size + 1) lb) := Lib.hid ⟨(holdsL_new m0 i0).below q1, by simpa using holdsL_new (m1.below q0) (i1.below q0)⟩
  have QB := Lib.hid Q
  clear q0 q1 Q m0 i0 m1 i1
  go_enter Try.func5, Try.ntmps5
  go_wp2_with fail
  generalize (w.alloc (.cells #[.slice A0 la.1.length c0, .slice B0 la.2.length d0] 27)).alloc (.cells #[.slice A1 lb.1.length c1, .slice B1 lb.2.length d1] 27) = w1 at *
  obtain ⟨GA, hGA⟩ : ∃ g, g = w.heap.size := ⟨_, rfl⟩
  obtain ⟨GB, hGB⟩ : ∃ g, g = w.heap.size + 1 := ⟨_, rfl⟩
  rw [← hGB, ← hGA] at HG0
  rw [← hGB, ← hGA]
  clear hGA hGB
  refine (works_any _).mono ?_
  rintro e w2 ⟨rfl, hb⟩
  have G1 := Lib.hid (And.intro (HG0.out.1.below hb) (And.intro (HG0.out.2.below hb) (below_after QB.out hb (Nat.le_refl _))))
  clear HG0 hb QB
  obtain ⟨⟨A0, c0, B0, d0, x0, -, -⟩, ⟨A1, c1, B1, d1, x1, -, -⟩, -⟩ := id G1.out
  obtain ⟨p0, r0⟩ := lbox_cells x0
  obtain ⟨p1, r1⟩ := lbox_cells x1
  clear x0 x1
  have HLg := Lib.hid fun W => large_two W A0 c0 B0 d0 la A1 c1 B1 d1 lb
  go_wp2_with fail
  (with_reducible refine (HLg.out _).mono ?_)
  rintro e w3 ⟨rfl, hb⟩
  have G3 := Lib.hid (And.intro (G1.out.1.below hb) (And.intro (G1.out.2.1.below hb) (below_after G1.out.2.2 hb (Nat.le_refl _))))
  clear hb p0 r0 p1 r1 HLg G1
  rcases hbig : bigL la || bigL lb with _ | _
  · rw [Bool.or_eq_false_iff] at hbig
    have HA := Lib.hid (lenOk_of hbig.1)
    have HB := Lib.hid (lenOk_of hbig.2)
    clear hbig
    obtain ⟨⟨A0', c0', B0', d0', x0, y0, z0⟩, ⟨A1', c1', B1', d1', x1, y1, z1⟩, -⟩ := id G3.out
    obtain ⟨p0, r0⟩ := lbox_cells x0
    obtain ⟨p1, r1⟩ := lbox_cells x1
    have L0 := Lib.hid (lsAt_of y0 z0)
    have L1 := Lib.hid (lsAt_of y1 z1)
    clear x0 x1 y0 y1 z0 z1
    go_wp2_with fail
    (with_reducible refine (joinL_apart _ _ la lb _ L0.out L1.out (HA.out.sum1 HB.out) (HA.out.sum2 HB.out)).mono ?_)
    rintro e w4 ⟨V, U, hi, rfl, hV, hlt, hhi, hU, hb⟩
    obtain ⟨D, gv, cv, rfl, hcv, hgv, hR, hD⟩ := hV
    have hgl := hlt gv _ _ rfl
    obtain ⟨Au, cu, rfl, hu⟩ := id (ids_of_owns hU)
    have HD : Hid (D.toList = (joinL la lb).1) := Lib.hid hD
    have HFx : Hid (mayB ((joinL la lb).1.map fixM) (joinL la lb).2 = true) := Lib.hid (fix_may (jn_norm la lb))
    have HVj := Lib.hid fun h1 h2 => valid_join (a := la) (b := lb) h1 h2
    have HLJ : Hid ((joinL la lb).1.length ≤ 100 ∧ (joinL la lb).2.length ≤ 100) := Lib.hid (lenJ la lb)
    have q4 := below_one w4 (.cells #[.slice (some ⟨gv, 0, none⟩) D.size cv, .slice Au (joinL la lb).2.length cu] 27)
    obtain ⟨GX, hGX⟩ : ∃ g, g = w4.heap.size := ⟨_, rfl⟩
    have hgx : GX ≠ gv := by have := hR.1; omega
    have HN := Lib.hid (And.intro hgx (And.intro hgl (And.intro hcv (show w.heap.size ≤ gv from Nat.le_trans G3.out.2.2.size hgv))))
    have G4 : Hid (MyG w GA GB GX gv hi la lb (.slice (some ⟨gv, 0, none⟩) D.size cv) (.slice Au (joinL la lb).2.length cu) D (joinL la lb).2 (w4.alloc (.cells #[.slice (some ⟨gv, 0, none⟩) D.size cv, .slice Au (joinL la lb).2.length cu] 27))) := Lib.hid ⟨(G3.out.1.below hb).below q4, (G3.out.2.1.below hb).below q4, hGX ▸ lbox_new w4 (.slice (some ⟨gv, 0, none⟩) D.size cv) (.slice Au (joinL la lb).2.length cu), rowAtR_kept hR q4, hU.below q4, below_after (below_after G3.out.2.2 hb (Nat.le_refl _)) q4 (Nat.le_refl _)⟩
    obtain ⟨k1, k2⟩ := lbox_cells (lbox_new w4 (.slice none 0 0) (.slice none 0 0))
    obtain ⟨f1, f2⟩ := lbox_free (lbox_new w4 (.slice none 0 0) (.slice none 0 0))
    clear hb p0 r0 p1 r1 L0 L1 q4 hu hU hR hlt hhi hgl hcv hgv hgx hD
    generalize (joinL la lb).1 = JM at *
    generalize (joinL la lb).2 = JF at *
    go_upto_region 4 with fail
    clear k1 k2 f1 f2 G3
    rw [← hGX]
    generalize w4.alloc (.cells #[.slice (some ⟨gv, 0, none⟩) D.size cv, .slice Au JF.length cu] 27) = w5 at *
    clear hGX
    have XM : Hid (∀ W, RowAtR encM 4 W gv D → Ms W (.slice (some ⟨gv, 0, none⟩) D.size cv) JM) := Lib.hid fun W h => by
      rw [← HD.out]
      exact rowAtR_rcs h HN.out.2.2.1
    have HC1 := Lib.hid fun W v u (z : Bool) (h : Ms W v la.1) (k : Ids W u la.2) (he : mayB la.1 la.2 = z) => may_ok v u la z W h k HA.out he
    have HC2 := Lib.hid fun W v u (z : Bool) (h : Ms W v lb.1) (k : Ids W u lb.2) (he : mayB lb.1 lb.2 = z) => may_ok v u lb z W h k HB.out he
    have HC3 := Lib.hid fun W v u (z : Bool) (h : Ms W v JM) (k : Ids W u JF) (he : mayB JM JF = z) => may_ok v u (JM, JF) z W h k HLJ.out he
    have HC4 : Hid (∀ W v u, Ms W v (JM.map fixM) → Ids W u JF → Calls Try.prog 14 #[v, u] W fun e w' => e = .returned (.bool true) ∧ Below W.heap.size W w') := Lib.hid fun W v u h k => may_ok v u (JM.map fixM, JF) true W h k ⟨by have := HLJ.out.1; simpa using this, HLJ.out.2⟩ HFx.out
    go_cut [38] (fun s38 wx => s38 = .bool false ∧ Hid (MyG w GA GB GX gv hi la lb (.slice (some ⟨gv, 0, none⟩) D.size cv) (.slice Au JF.length cu) D JF wx))
    case first =>
      obtain ⟨A0, c0, B0, d0, x0, m0, i0⟩ := id G4.out.ha
      obtain ⟨p0, r0⟩ := lbox_cells x0
      have M0 := Lib.hid m0
      have I0 := Lib.hid i0
      clear x0 m0 i0
      cases ha : mayB la.1 la.2
      · go_wp2_with fail
        (with_reducible refine (HC1.out _ _ _ false M0.out I0.out ha).mono ?_)
        rintro e w6 ⟨rfl, hb⟩
        have G6 := Lib.hid (G4.out.step hb)
        clear hb p0 r0
        go_wp2_with fail
        go_meet
        exact ⟨rfl, G6⟩
      · go_wp2_with fail
        (with_reducible refine (HC1.out _ _ _ true M0.out I0.out ha).mono ?_)
        rintro e w6 ⟨rfl, hb⟩
        have G6 := Lib.hid (G4.out.step hb)
        clear hb p0 r0
        obtain ⟨A1, c1, B1, d1, x1, m1, i1⟩ := id G6.out.hb
        obtain ⟨p1, r1⟩ := lbox_cells x1
        have M1 := Lib.hid m1
        have I1 := Lib.hid i1
        clear x1 m1 i1
        cases hbb : mayB lb.1 lb.2
        · go_wp2_with fail
          (with_reducible refine (HC2.out _ _ _ false M1.out I1.out hbb).mono ?_)
          rintro e w7 ⟨rfl, hb⟩
          have G7 := Lib.hid (G6.out.step hb)
          clear hb p1 r1
          go_wp2_with fail
          go_meet
          exact ⟨rfl, G7⟩
        · go_wp2_with fail
          (with_reducible refine (HC2.out _ _ _ true M1.out I1.out hbb).mono ?_)
          rintro e w7 ⟨rfl, hb⟩
          have G7 := Lib.hid (G6.out.step hb)
          clear hb p1 r1
          have HMJ := HVj.out ha hbb
          obtain ⟨p2, r2⟩ := lbox_cells G7.out.hx
          have M2 := Lib.hid (XM.out _ G7.out.hr)
          have I2 := Lib.hid (ids_of_owns G7.out.hu)
          go_wp2_with fail
          (with_reducible refine (HC3.out _ _ _ true M2.out I2.out HMJ).mono ?_)
          rintro e w8 ⟨rfl, hb⟩
          have G8 := Lib.hid (G7.out.step hb)
          clear hb p2 r2
          go_wp2_with fail
          go_meet
          exact ⟨rfl, G8⟩
    case rest =>
      obtain ⟨rfl, G5⟩ := hcut
      clear G4 HC1 HC2 HC3 HVj XM
      have HD13 := Lib.hid (show D.size ≤ 100 by have := HLJ.out.1; rw [← HD.out] at this; simpa using this)
      go_wp2_with fail
      go_loopw [6] (fun s6 wr => ∃ k : Nat, k ≤ D.size ∧ s6 = .int .i64 k ∧ Hid (RowAtR encM 4 wr gv (fixA D k)) ∧ Hid (LBox wr GX (.slice (some ⟨gv, 0, none⟩) D.size cv) (.slice Au JF.length cu)) ∧ Hid (Owns wr hi (.slice Au JF.length cu) JF) ∧ Hid (Below w.heap.size w wr)) (fun s6 _ => D.size - (intOf s6).toNat)
      case atStart => exact ⟨0, by omega, rfl, Lib.hid (by rw [fixA_none]; exact G5.out.hr), Lib.hid G5.out.hx, Lib.hid G5.out.hu, Lib.hid G5.out.below⟩
      case round =>
        obtain ⟨k, hkl, rfl, HR, HX, HU, HW⟩ := hrel
        have i3 : (0 : Int) ≤ (k : Int) := by omega
        have hd13 := HD13.out
        by_cases hlt : k < D.size
        · have hd : decide ((k : Int) < (D.size : Int)) = true := by simp; omega
          have i4 : (k : Int) < (D.size : Int) := by omega
          have hks : k < (fixA D k).size := by rw [fixA_size]; exact hlt
          have hne := HN.out.1
          have hgh := HN.out.2.1
          have hge := HN.out.2.2.2
          have R1 := Lib.hid (rowM_no HR.out hks 0)
          have g1 := grown_setCells (World.grownBy.refl wr (some gv)) (k * 4 + 3) [.int .i64 0]
          have X1 := Lib.hid (lbox_grown HX.out g1 hne)
          have U1 := Lib.hid (owns_grown HU.out g1 hgh)
          have W1 := Lib.hid (below_setCells HW.out hge (k * 4 + 3) [.int .i64 0])
          have hput := fixA_put D hlt
          have hat := fixA_at D hlt
          have hcell := (HR.out.mem hks)
          have hcell1 := (R1.out.mem (k := k) (by simpa using hks))
          rw [hat] at hcell R1
          rw [show ((fixA D k).setIfInBounds k ((fixA D k)[k]!.1, (fixA D k)[k]!.2.1, 0))[k]! = (D[k]!.1, D[k]!.2.1, (0 : Int)) by rw [getElem!_pos _ k (by simpa using hks), Array.getElem_setIfInBounds_self, hat]] at hcell1
          obtain ⟨⟨y1, y2, y3, y4⟩, f1, f2, f3, f4⟩ := hcell
          obtain ⟨⟨z1, z2, z3, z4⟩, e1, e2, e3, e4⟩ := hcell1
          obtain ⟨p0, r0⟩ := lbox_cells HX.out
          obtain ⟨p1, r1⟩ := lbox_cells X1.out
          by_cases hs : D[k]!.2.1 = 3
          · have hfx : fixM D[k]! = (D[k]!.1, D[k]!.2.1, (1 : Int)) := by unfold fixM; rw [if_pos (by omega)]
            have R2 := rowM_no R1.out (show k < ((fixA D k).setIfInBounds k (D[k]!.1, D[k]!.2.1, 0)).size by simpa using hks) 1
            rw [show ((fixA D k).setIfInBounds k (D[k]!.1, D[k]!.2.1, 0))[k]! = (D[k]!.1, D[k]!.2.1, (0 : Int)) by rw [getElem!_pos _ k (by simpa using hks), Array.getElem_setIfInBounds_self], Array.setIfInBounds_setIfInBounds, ← hfx, hput] at R2
            have R2 := Lib.hid R2
            have g2 := grown_setCells (World.grownBy.refl (wr.setCell ⟨gv, k * 4 + 3, none⟩ (.int .i64 0)) (some gv)) (k * 4 + 3) [.int .i64 1]
            have X2 := Lib.hid (lbox_grown X1.out g2 hne)
            have U2 := Lib.hid (owns_grown U1.out g2 hgh)
            have W2 := Lib.hid (below_setCells W1.out hge (k * 4 + 3) [.int .i64 1])
            rw [hs] at y3 z3
            clear hs hput hat hfx g1 g2
            generalize D[k]!.1.1 = x1 at *
            generalize D[k]!.1.2 = x2 at *
            generalize D[k]!.2.2 = x4 at *
            go_wp2_with fail
            go_roundw
            case rel => exact ⟨k + 1, by omega, by go_num, R2, X2, U2, W2⟩
            case measure => simp [intOf]; omega
          · by_cases hs4 : D[k]!.2.1 = 4
            · have b3 : ((4 : Int) == 3) = false := by decide
              have hs := hs4
              have hfx : fixM D[k]! = (D[k]!.1, D[k]!.2.1, (1 : Int)) := by unfold fixM; rw [if_pos (by omega)]
              have R2 := rowM_no R1.out (show k < ((fixA D k).setIfInBounds k (D[k]!.1, D[k]!.2.1, 0)).size by simpa using hks) 1
              rw [show ((fixA D k).setIfInBounds k (D[k]!.1, D[k]!.2.1, 0))[k]! = (D[k]!.1, D[k]!.2.1, (0 : Int)) by rw [getElem!_pos _ k (by simpa using hks), Array.getElem_setIfInBounds_self], Array.setIfInBounds_setIfInBounds, ← hfx, hput] at R2
              have R2 := Lib.hid R2
              have g2 := grown_setCells (World.grownBy.refl (wr.setCell ⟨gv, k * 4 + 3, none⟩ (.int .i64 0)) (some gv)) (k * 4 + 3) [.int .i64 1]
              have X2 := Lib.hid (lbox_grown X1.out g2 hne)
              have U2 := Lib.hid (owns_grown U1.out g2 hgh)
              have W2 := Lib.hid (below_setCells W1.out hge (k * 4 + 3) [.int .i64 1])
              rw [hs] at y3 z3
              clear hs hs4 hput hat hfx g1 g2
              generalize D[k]!.1.1 = x1 at *
              generalize D[k]!.1.2 = x2 at *
              generalize D[k]!.2.2 = x4 at *
              go_wp2_with fail
              go_roundw
              case rel => exact ⟨k + 1, by omega, by go_num, R2, X2, U2, W2⟩
              case measure => simp [intOf]; omega
            · have hfx : fixM D[k]! = (D[k]!.1, D[k]!.2.1, (0 : Int)) := by unfold fixM; rw [if_neg (by omega)]
              rw [← hfx, hput] at R1
              have b3 : (D[k]!.2.1 == 3) = false := beq_eq_false_iff_ne.2 hs
              have b4 : (D[k]!.2.1 == 4) = false := beq_eq_false_iff_ne.2 hs4
              clear hs hs4 hput hat hfx g1
              generalize D[k]!.1.1 = x1 at *
              generalize D[k]!.1.2 = x2 at *
              generalize D[k]!.2.1 = x3 at *
              generalize D[k]!.2.2 = x4 at *
              go_wp2_with fail
              go_roundw
              case rel => exact ⟨k + 1, by omega, by go_num, R1, X1, U1, W1⟩
              case measure => simp [intOf]; omega
        · obtain rfl : k = D.size := by omega
          have hd : decide ((D.size : Int) < (D.size : Int)) = false := by simp
          have hM := rowAtR_rcs HR.out (c := cv) (by rw [fixA_size]; exact HN.out.2.2.1)
          rw [fixA_size, fixA_all D (Nat.le_refl _), HD.out] at hM
          have MF := Lib.hid hM
          have UF := Lib.hid (ids_of_owns HU.out)
          clear hM
          obtain ⟨p0, r0⟩ := lbox_cells HX.out
          go_wp2_with fail
          (with_reducible refine (HC4.out _ _ _ MF.out UF.out).mono ?_)
          rintro e w6 ⟨rfl, hb⟩
          have B6 := Lib.hid (below_after HW.out hb (Nat.le_refl _))
          clear hb p0 r0
          go_wp2_with fail
          go_ret
          exact ⟨rfl, B6.out⟩
  · clear hbig
    go_wp2_with fail
    refine (works_any _).mono ?_
    rintro e w4 ⟨rfl, hb⟩
    have B4 := Lib.hid (below_after G3.out.2.2 hb (Nat.le_refl _))
    clear hb
    go_wp2_with fail
    go_ret
    exact ⟨rfl, B4.out⟩
end Go.Proofs.Ytciolhpkhblnbaa
