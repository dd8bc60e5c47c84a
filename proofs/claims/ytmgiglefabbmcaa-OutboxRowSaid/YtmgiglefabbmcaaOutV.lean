/-
  A walk: the row in which frames are taken. No statement is proved in this text.
-/
import Derived.Test.YtmgiglefabbmcaaOutU
import Derived.Deep.DeepCutAuto
set_option maxRecDepth 20000
namespace Go.Proofs.Ytmgiglefabbmcaa
open Go Go.RowKit
/-- Block g tells which have been met. -/
def MetAt (w : World) (g n : Nat) (M : Nat → Bool) : Prop := ∃ cur, w.heap[g]? = some (.cells cur 4 (0, 0)) ∧ ∀ j, j < n → cur[j]? = some (.bool (M j))
theorem MetAt.cell {w : World} {g n : Nat} {M : Nat → Bool} (h : MetAt w g n M) {j : Nat} (hj : j < n) : w.cell? ⟨g, j, none⟩ = some (.bool (M j)) ∧ w.frozen? ⟨g, j, none⟩ = false := by
  obtain ⟨cur, h1, h2⟩ := h
  exact ⟨by rw [cell_of_row _ _ _ _ _ _ h1]; exact h2 j hj, frozen_of_row _ _ _ _ _ h1⟩
theorem MetAt.set {w : World} {g n : Nat} {M : Nat → Bool} (h : MetAt w g n M) {j : Nat} (hj : j < n) : MetAt (w.setCell ⟨g, j, none⟩ (.bool true)) g n (upd M j) := by
  obtain ⟨cur, h1, h2⟩ := h
  refine ⟨_, heap_setCell_same w g j cur 4 (.bool true) h1, fun x hx => ?_⟩
  have h3 := h2 j hj
  unfold upd
  by_cases e : x = j
  · subst e
    rw [if_pos rfl, Array.getElem?_setIfInBounds, if_pos rfl, if_pos (Array.getElem?_eq_some_iff.1 h3).1]
  · rw [if_neg e, Array.getElem?_setIfInBounds, if_neg (fun e2 => e e2.symm)]
    exact h2 x hx
theorem MetAt.lt {w : World} {g n : Nat} {M : Nat → Bool} (h : MetAt w g n M) : g < w.heap.size := by
  obtain ⟨cur, h1, _⟩ := h
  exact row_lt h1
theorem MetAt.same {w w' : World} {g n : Nat} {M : Nat → Bool} (h : MetAt w g n M) (hb : w'.heap[g]? = w.heap[g]?) : MetAt w' g n M := by
  obtain ⟨cur, h1, h2⟩ := h
  exact ⟨cur, hb.trans h1, h2⟩
theorem info4 : (Try.prog.info? 4).map (fun i => (i.zero, i.size, i.bytes)) = some (some (.bool false), 1, 1) := by kernel_rfl
theorem met_new {w w' : World} {n base : Nat} (h : w'.ownsRow base 4 1 (.slice (some ⟨w.heap.size, 0, none⟩) n n) n (madeCells (Value.bool false).cells (n * 1)).toList) : MetAt w' w.heap.size n (fun _ => false) := by
  rcases h.2 with ⟨h1, _⟩ | ⟨g, cap, cur, h1, _, h3, _, _, h5, h6⟩
  · cases h1
  · injection h1 with h1
    injection h1 with h1
    injection h1 with h1
    subst h1
    refine ⟨cur, h3, fun j hj => ?_⟩
    have e : (madeCells (Value.bool false).cells (n * 1)).toList = List.replicate n (.bool false) := by rw [Nat.mul_one]; exact toList_madeCells_one _ n
    rw [e, Nat.mul_one] at h6
    have : (cur.toList.take n)[j]? = some (.bool false) := by rw [h6, List.getElem?_replicate, if_pos hj]
    rw [List.getElem?_take, if_pos hj] at this
    simpa using this
abbrev RwD (w : World) (g : Nat) : Nat → Prop := fun k => k < w.heap.size ∨ k = g
/-- What stands. -/
structure RwG (w : World) (p gm : Nat) (mx : Int) (ks : List Int) (i : Nat) (L : List Fr) (M : Nat → Bool) (lost taken : Nat) (last : Int) (W : World) : Prop where
  r : RowI ks i L M last
  s : lost + taken + L.length = i
  b : Bx (RwD w gm) W p mx L
  m : MetAt W gm ks.length M
  w : Below w.heap.size w W
theorem RwG.below {w W W' : World} {p gm : Nat} {mx : Int} {ks : List Int} {i : Nat} {L : List Fr} {M : Nat → Bool} {lost taken : Nat} {last : Int} (h : RwG w p gm mx ks i L M lost taken last W) (hb : Below W.heap.size W W') : RwG w p gm mx ks i L M lost taken last W' :=
  ⟨h.r, h.s, h.b.step hb, h.m.same (hb.block _ h.m.lt), below_after h.w hb (Nat.le_refl _)⟩
/-- One more has been met: its cell is written. -/
theorem bx_met {w W : World} {p gm j : Nat} {mx : Int} {L : List Fr} (h : Bx (RwD w gm) W p mx L) : Bx (RwD w gm) (W.setCell ⟨gm, j, none⟩ (.bool true)) p mx L := h.only (only_setCell W gm j _) fun _ hk => .inr hk
theorem rcs_byte {w w' : World} {ad : Addr} {n c : Nat} {l : List Int} (h : Rcs encU 1 w (.slice (some ad) n c) l) (hb : Below w.heap.size w w') {k : Nat} (hk : k < l.length) : w'.cell? (ad.add k) = some (.int .u8 l[k]) := by
  have := h.first hb hk (u := .int .u8 l[k]) rfl
  rwa [Nat.mul_one] at this
set_option maxHeartbeats 64000000 in
set_option maxRecDepth 100000 in
theorem row_any (mx : Int) (v : Value) (ks : List Int) (v2 : Value) (ts : List Bool) (w : World) (_hmx : -9223372036854775808 ≤ mx ∧ mx ≤ 9223372036854775807) (h : Rcs encU 1 w v ks) (h2 : Rcs encB 1 w v2 ts) :
    Calls Try.prog 5 #[.int .i64 mx, v, v2] w fun e w' => e = .returned (.bool true) ∧ Below w.heap.size w w' := by
  have HI := Lib.hid h
  have HI2 := Lib.hid h2
  obtain ⟨A, c, rfl, -, -, -⟩ := h
  obtain ⟨A2, c2, rfl, -, -, -⟩ := h2
  go_enter Try.func5, Try.ntmps5
  go_wp2_with fail
  (with_reducible refine (works_any w).mono ?_)
  rintro e1 w1 ⟨rfl, hb⟩
  have B1 := Lib.hid hb
  clear hb
  by_cases hl : ks.length ≤ 500
  case neg =>
    have hd5 : decide ((500 : Int) < (ks.length : Int)) = true := by simp; omega
    go_wp2_with fail
    (with_reducible refine (works_any w1).mono ?_)
    rintro e2 w2 ⟨rfl, hb⟩
    have B2 := Lib.hid (below_after B1.out hb (Nat.le_refl _))
    clear hb
    go_wp2_with fail
    go_ret
    exact ⟨rfl, B2.out⟩
  case pos =>
    have hd5 : decide ((500 : Int) < (ks.length : Int)) = false := by simp; omega
    by_cases hm : 1 ≤ mx ∧ mx ≤ 4096
    case neg =>
      go_wp2_with fail
      (with_reducible refine (new_no mx w1 hm).mono ?_)
      rintro e2 w2 ⟨rfl, rfl⟩
      go_wp2_with fail
      go_ret
      exact ⟨rfl, B1.out⟩
    case pos =>
      go_wp2_with fail
      (with_reducible refine (bx_new (fun k => k < w.heap.size) mx w1 (fun k hk => Nat.lt_of_lt_of_le hk B1.out.size) hm).mono ?_)
      rintro e2 w2 ⟨rfl, hx, hb⟩
      have H2 := Lib.hid hx
      have B2 := Lib.hid (below_after B1.out hb (Nat.le_refl _))
      clear hx hb B1
      obtain ⟨p, hp⟩ : ∃ p, p = w1.heap.size := ⟨_, rfl⟩
      rw [← hp] at H2
      rw [← hp]
      clear hp
      obtain ⟨i4, j1, j2, j3, j4⟩ := info_parts info4
      have hbz : i4.bytes * ks.length ≤ 281474976710656 := by rw [j4]; omega
      go_upto_region 9 with (refine wpList_make_full w2 rfl (.tmp 37) (.tmp 37) 64 rfl 0 4 i4 (.bool false) 1 Try.underlying64 j1 j2 j3 .i64 .i64 _ _ ks.length rfl rfl rfl rfl hbz (by unfold maxLen; omega) (Nat.zero_le _) ?_; intro w3 h3 h4)
      have BM := Lib.hid (show Below w2.heap.size w2 w3 from (Below.refl _ _).grown h4 (Nat.le_refl _) fun k hk => by cases hk)
      have GM := Lib.hid (met_new h3)
      obtain ⟨gm, hgm⟩ : ∃ g, g = w2.heap.size := ⟨_, rfl⟩
      have G3 : Hid (RwG w p gm mx ks 0 [] (fun _ => false) 0 0 (-1) w3) := Lib.hid ⟨⟨fun F hF => (by cases hF), List.Pairwise.nil, fun _ _ => rfl, by omega⟩, rfl, (H2.out.below BM.out).mono fun k hk => by
        rcases hk with hk | hk
        · exact .inl hk
        · refine .inr ⟨by omega, ?_⟩
          have := GM.out.lt
          omega, by rw [hgm]; exact GM.out, below_after B2.out BM.out (Nat.le_refl _)⟩
      have GML := Lib.hid (show w.heap.size ≤ gm by rw [hgm]; exact B2.out.size)
      rw [← hgm]
      clear h3 h4 BM GM hgm H2 B2 j1 j2 j3 j4 hbz
      go_wp2_with fail
      go_loopw [9, 10, 11, 13] (fun s9 s10 s11 s13 wr => ∃ (i : Nat) (L : List Fr) (M : Nat → Bool) (lost taken : Nat) (last : Int), i ≤ ks.length ∧ s13 = .int .i64 i ∧ s9 = .int .i64 last ∧ s10 = .int .i64 lost ∧ s11 = .int .i64 taken ∧ lost ≤ i ∧ taken ≤ i ∧ -1 ≤ last ∧ last < i ∧ Hid (RwG w p gm mx ks i L M lost taken last wr)) (fun _ _ _ s13 _ => ks.length - (intOf s13).toNat)
      case atStart => exact ⟨0, [], fun _ => false, 0, 0, -1, by omega, rfl, rfl, rfl, rfl, by omega, by omega, by omega, by omega, G3⟩
      case round =>
        clear G3
        obtain ⟨i, L, M, lost, taken, last, hil, rfl, rfl, rfl, rfl, hlo, hta, hla, hla2, G⟩ := hrel
        have i3 : (0 : Int) ≤ (i : Int) := by omega
        by_cases hlt : i < ks.length
        case neg =>
          obtain rfl : i = ks.length := by omega
          have hd : decide ((ks.length : Int) < (ks.length : Int)) = false := by simp
          go_wp2_with fail
          go_ret
          exact ⟨rfl, G.out.w⟩
        case pos =>
          have hd : decide ((i : Int) < (ks.length : Int)) = true := by simp; omega
          have i4 : (i : Int) < (ks.length : Int) := by omega
          obtain ⟨ad, rfl⟩ := HI.out.addr (Nat.lt_of_le_of_lt (Nat.zero_le _) hlt)
          have HKB := Lib.hid (fun W (hb : Below w.heap.size w W) (j : Nat) (hj : j < ks.length) => rcs_byte HI.out hb hj)
          have c0 := HKB.out _ G.out.w i hlt
          go_wp2_with fail
          (with_reducible refine (of_any ks[i] (i : Int) _).mono ?_)
          rintro e3 w3 ⟨rfl, hb⟩
          have G3 := Lib.hid (G.out.below hb)
          clear hb c0 G
          go_wp2_with fail
          (with_reducible refine (bx_put _ w3 p mx L G3.out.b (bare ks[i] (i : Int)) (fr_bare _ _ _) (fit_bare _ _)).mono ?_)
          rintro e4 w4 ⟨qo, Q, rfl, ho, -, -, hx, hk⟩
          have HB4 := Lib.hid (hx.mono (E := RwD w gm) fun _ e => .inl e)
          have HM4 := Lib.hid (G3.out.m.same (hk.on gm (.inr rfl)))
          have HW4 := Lib.hid (G3.out.w.trans (hk.below fun k e => .inl e))
          have HO := Lib.hid ho
          have HS3 := Lib.hid G3.out.s
          have HR3 := Lib.hid (G3.out.r.put (mx := mx) hlt)
          have SO := Lib.hid (size32 qo)
          clear ho hx hk G3
          have ZZ := Lib.hid (heap_alloc_new w4 (.cells #[.int .u8 0, .int .i64 0, .int .i64 0, .int .i64 0, .int .i64 0, .int .i64 0, .int .i64 0, .int .i64 0, .int .i64 0, .slice none 0 0, .slice none 0 0, .slice none 0 0, .slice none 0 0, .slice none 0 0] 32))
          have B5 := Lib.hid (show Below w4.heap.size w4 ((w4.alloc (.cells #[.int .u8 0, .int .i64 0, .int .i64 0, .int .i64 0, .int .i64 0, .int .i64 0, .int .i64 0, .int .i64 0, .int .i64 0, .slice none 0 0, .slice none 0 0, .slice none 0 0, .slice none 0 0, .slice none 0 0] 32)).setRow w4.heap.size (fc qo)) from below_setRow (below_one w4 _) (Nat.le_refl _) _)
          have X5 := Lib.hid (show FB ((w4.alloc (.cells #[.int .u8 0, .int .i64 0, .int .i64 0, .int .i64 0, .int .i64 0, .int .i64 0, .int .i64 0, .int .i64 0, .int .i64 0, .slice none 0 0, .slice none 0 0, .slice none 0 0, .slice none 0 0, .slice none 0 0] 32)).setRow w4.heap.size (fc qo)) w4.heap.size qo from setRow_set ZZ.out)
          obtain ⟨z, hz⟩ : ∃ z, (putL mx L (bare ks[i] (i : Int)).F).2.2 = z := ⟨_, rfl⟩
          rw [hz]
          have HZ := Lib.hid hz
          clear hz
          go_upto_region 13 with (refine wpList_store_row rfl 32 (.tmp 14) (.tmp 54) rfl w4.heap.size (fc qo) rfl rfl 32 _ ZZ.out SO.out rfl (fc_one _) ?_)
          clear ZZ
          generalize (w4.alloc (.cells #[.int .u8 0, .int .i64 0, .int .i64 0, .int .i64 0, .int .i64 0, .int .i64 0, .int .i64 0, .int .i64 0, .int .i64 0, .slice none 0 0, .slice none 0 0, .slice none 0 0, .slice none 0 0, .slice none 0 0] 32)).setRow w4.heap.size (fc qo) = w5 at *
          have HB5 := Lib.hid (HB4.out.step B5.out)
          have HM5 := Lib.hid (HM4.out.same (B5.out.block _ HM4.out.lt))
          have HW5 := Lib.hid (below_after HW4.out B5.out (Nat.le_refl _))
          clear HB4 HM4 HW4 B5
          go_wp2_with fail
          (with_reducible refine (bx_len _ w5 p mx _ HB5.out).mono ?_)
          rintro e6 w6 ⟨rfl, rfl⟩
          have hml := HB5.out.len
          have hdm : decide (mx < ((putL mx L (bare ks[i] (i : Int)).F).1.length : Int)) = false := by simp; omega
          go_upto_if 65 with fail
          go_cut [0, 10] (fun s0 s10 wx => s0 = .int .i64 mx ∧ ∃ (M' : Nat → Bool) (lost' : Nat), s10 = .int .i64 lost' ∧ lost' ≤ i + 1 ∧ Hid (RwG w p gm mx ks (i + 1) (putL mx L (bare ks[i] (i : Int)).F).1 M' lost' taken last wx))
          case first =>
            as_aux_lemma =>
              have hr := HR3.out
              dsimp only [bF] at hr
              have hz2 : (putL mx L (bare ks[i] (i : Int)).F).2.2 = z := HZ.out
              cases z
              case false =>
                have GG : Hid (RwG w p gm mx ks (i + 1) (putL mx L (bare ks[i] (i : Int)).F).1 M lost taken last w5) := Lib.hid (by
                  rcases hr with ⟨_, h1, h2⟩ | ⟨h1, _⟩
                  · exact ⟨h2, by have := HS3.out; omega, HB5.out, HM5.out, HW5.out⟩
                  · exact absurd (hz2.symm.trans h1) (by simp))
                clear hr hz2
                go_wp2_with fail
                go_meet
                exact ⟨rfl, M, lost, rfl, by omega, GG⟩
              case true =>
                obtain ⟨j, q1, q2, ⟨q3, q4⟩, q5, HRR⟩ : ∃ j : Nat, (putL mx L (bare ks[i] (i : Int)).F).2.1.n = j ∧ j ≤ i ∧ (∃ h : j < ks.length, (putL mx L (bare ks[i] (i : Int)).F).2.1.k = ks[j]) ∧ M j = false ∧ Hid ((putL mx L (bare ks[i] (i : Int)).F).1.length = L.length ∧ RowI ks (i + 1) (putL mx L (bare ks[i] (i : Int)).F).1 (upd M j) last) := by
                  rcases hr with ⟨h1, _⟩ | ⟨_, h1, j, h2, h3, h4, h5, h6⟩
                  · exact absurd (hz2.symm.trans h1) (by simp)
                  · exact ⟨j, h2, h3, h4, h5, h1, h6⟩
                clear hr hz2
                obtain ⟨p0, -, -, -, -, p5, -⟩ := fb_cells X5.out
                rw [HO.out, q4] at p0
                rw [HO.out, q1] at p5
                obtain ⟨m0, m1⟩ := HM5.out.cell q3
                rw [q5] at m0
                have k0 := HKB.out _ HW5.out j q3
                have HQ1 := Lib.hid q1
                clear q1 q4 q5
                generalize ks[j] = kj at *
                have f1 : decide ((j : Int) < 0) = false := by simp
                have f2 : decide ((i : Int) < (j : Int)) = false := by simp; omega
                have f3 : (kj != kj) = false := by simp
                have f4 : (0 : Int) ≤ (j : Int) := by omega
                have f5 : (j : Int) < (ks.length : Int) := by omega
                go_wp2_with fail
                go_quiet (fail)
                have B7 := Lib.hid (show Below w5.heap.size w5 (w5.drewN nq) from below_drewN (Below.refl _ _))
                have X7 := Lib.hid (fb_below X5.out B7.out)
                have HM7 := Lib.hid (HM5.out.same (B7.out.block _ HM5.out.lt))
                have GG : Hid (RwG w p gm mx ks (i + 1) (putL mx L (bare ks[i] (i : Int)).F).1 (upd M j) (lost + 1) taken last ((w5.drewN nq).setCell ⟨gm, j, none⟩ (.bool true))) := Lib.hid ⟨HRR.out.2, by have := HS3.out; have := HRR.out.1; omega, bx_met (HB5.out.step B7.out), HM7.out.set q3, (below_after HW5.out B7.out (Nat.le_refl _)).setCell (show w.heap.size ≤ gm from GML.out) _⟩
                clear p0 p5 m0 m1 k0 X5 HM5 HB5 HW5 B7
                generalize w5.drewN nq = w7 at *
                obtain ⟨p0, -, -, -, -, p5, -⟩ := fb_cells X7.out
                rw [HO.out] at p5
                rw [HQ1.out] at p5
                obtain ⟨m0, m1⟩ := HM7.out.cell q3
                go_wp2_with fail
                go_meet
                exact ⟨rfl, upd M j, lost + 1, by go_num, by omega, GG⟩
          case rest =>
            as_aux_lemma =>
              obtain ⟨rfl, M', lost', rfl, hlo', GC⟩ := hcut
              rename World => wd
              clear HO HS3 HR3 HZ HB5 HM5 HW5 X5 SO hml hdm hlo
              generalize (putL mx L (bare ks[i] (i : Int)).F).1 = L' at *
              go_upto_region 20 with fail
              go_cut [0, 107] (fun s0 s107 wx => s0 = .int .i64 mx ∧ ∃ tb : Bool, s107 = .bool tb ∧ wx = wd)
              case first =>
                as_aux_lemma =>
                  by_cases hti : i < ts.length
                  · have ht1 : decide ((i : Int) < (ts.length : Int)) = true := by simp; omega
                    have ht2 : (i : Int) < (ts.length : Int) := by omega
                    obtain ⟨ad2, rfl⟩ := HI2.out.addr (Nat.lt_of_le_of_lt (Nat.zero_le _) hti)
                    have c1 := rcs_bool HI2.out GC.out.w hti
                    generalize ts[i] = tb at *
                    go_wp2_with fail
                    go_meet
                    exact ⟨rfl, tb, rfl, rfl⟩
                  · have ht1 : decide ((i : Int) < (ts.length : Int)) = false := by simp; omega
                    go_wp2_with fail
                    go_meet
                    exact ⟨rfl, false, rfl, rfl⟩
              case rest =>
                as_aux_lemma =>
                  obtain ⟨rfl, tb, rfl, rfl⟩ := hcut
                  go_upto_if 107 with fail
                  go_cut [0, 9, 11] (fun s0 s9 s11 wx => s0 = .int .i64 mx ∧ ∃ (L3 : List Fr) (M3 : Nat → Bool) (taken3 : Nat) (last3 : Int), s9 = .int .i64 last3 ∧ s11 = .int .i64 taken3 ∧ taken3 ≤ i + 1 ∧ -1 ≤ last3 ∧ last3 < (i : Int) + 1 ∧ Hid (RwG w p gm mx ks (i + 1) L3 M3 lost' taken3 last3 wx))
                  case first =>
                    as_aux_lemma =>
                      cases tb
                      case false =>
                        go_wp2_with fail
                        go_meet
                        exact ⟨rfl, L', M', taken, last, rfl, rfl, by omega, by omega, by omega, GC⟩
                      case true =>
                        go_wp2_with fail
                        (with_reducible refine (bx_take _ _ p mx L' GC.out.b).mono ?_)
                        rintro e8 w8 ⟨qt, Q8, rfl, ho, -, -, hx, hk⟩
                        obtain ⟨zt, hzt⟩ : ∃ z, (!L'.isEmpty) = z := ⟨_, rfl⟩
                        rw [hzt]
                        have HO8 := Lib.hid ho
                        have HB8 := Lib.hid (hx.mono (E := RwD w gm) fun _ e => .inl e)
                        have HM8 := Lib.hid (GC.out.m.same (hk.on gm (.inr rfl)))
                        have HW8 := Lib.hid (GC.out.w.trans (hk.below fun k e => .inl e))
                        have HS8 := Lib.hid GC.out.s
                        have HR8 := Lib.hid GC.out.r
                        have SO8 := Lib.hid (size32 qt)
                        clear ho hx hk GC
                        have ZZ := Lib.hid (heap_alloc_new w8 (.cells #[.int .u8 0, .int .i64 0, .int .i64 0, .int .i64 0, .int .i64 0, .int .i64 0, .int .i64 0, .int .i64 0, .int .i64 0, .slice none 0 0, .slice none 0 0, .slice none 0 0, .slice none 0 0, .slice none 0 0] 32))
                        have B9 := Lib.hid (show Below w8.heap.size w8 ((w8.alloc (.cells #[.int .u8 0, .int .i64 0, .int .i64 0, .int .i64 0, .int .i64 0, .int .i64 0, .int .i64 0, .int .i64 0, .int .i64 0, .slice none 0 0, .slice none 0 0, .slice none 0 0, .slice none 0 0, .slice none 0 0] 32)).setRow w8.heap.size (fc qt)) from below_setRow (below_one w8 _) (Nat.le_refl _) _)
                        have X9 := Lib.hid (show FB ((w8.alloc (.cells #[.int .u8 0, .int .i64 0, .int .i64 0, .int .i64 0, .int .i64 0, .int .i64 0, .int .i64 0, .int .i64 0, .int .i64 0, .slice none 0 0, .slice none 0 0, .slice none 0 0, .slice none 0 0, .slice none 0 0] 32)).setRow w8.heap.size (fc qt)) w8.heap.size qt from setRow_set ZZ.out)
                        go_upto_region 22 with (refine wpList_store_row rfl 32 (.tmp 17) (.tmp 111) rfl w8.heap.size (fc qt) rfl rfl 32 _ ZZ.out SO8.out rfl (fc_one _) ?_)
                        clear ZZ
                        generalize (w8.alloc (.cells #[.int .u8 0, .int .i64 0, .int .i64 0, .int .i64 0, .int .i64 0, .int .i64 0, .int .i64 0, .int .i64 0, .int .i64 0, .slice none 0 0, .slice none 0 0, .slice none 0 0, .slice none 0 0, .slice none 0 0] 32)).setRow w8.heap.size (fc qt) = w9 at *
                        have HB9 := Lib.hid (HB8.out.step B9.out)
                        have HM9 := Lib.hid (HM8.out.same (B9.out.block _ HM8.out.lt))
                        have HW9 := Lib.hid (below_after HW8.out B9.out (Nat.le_refl _))
                        clear HB8 HM8 HW8 B9
                        cases zt
                        case false =>
                          have hL : L' = [] := by cases L' with | nil => rfl | cons _ _ => simp at hzt
                          clear hzt
                          have GG : Hid (RwG w p gm mx ks (i + 1) L' M' lost' taken last w9) := Lib.hid ⟨HR8.out, HS8.out, by have := HB9.out; rw [hL] at this ⊢; exact this, HM9.out, HW9.out⟩
                          clear hL
                          go_wp2_with fail
                          go_meet
                          exact ⟨rfl, L', M', taken, last, rfl, rfl, by omega, by omega, by omega, GG⟩
                        case true =>
                          have h0 : 0 < L'.length := by cases L' with | nil => simp at hzt | cons _ _ => simp
                          clear hzt
                          obtain ⟨j, q1, q2, ⟨q3, q4⟩, q5, q6, q7⟩ := HR8.out.take h0
                          have HRT := Lib.hid q7
                          have HQ1 := Lib.hid q1
                          obtain ⟨p0, -, -, -, -, p5, -⟩ := fb_cells X9.out
                          rw [HO8.out, q4] at p0
                          rw [HO8.out, q1] at p5
                          obtain ⟨m0, m1⟩ := HM9.out.cell q3
                          rw [q5] at m0
                          have k0 := HKB.out _ HW9.out j q3
                          have HTL := Lib.hid (show L'.tail.length + 1 = L'.length by rw [List.length_tail]; omega)
                          clear q1 q4 q5 q7
                          generalize ks[j] = kj at *
                          have f1 : decide ((j : Int) ≤ last) = false := by simp; omega
                          have f2 : decide ((i : Int) < (j : Int)) = false := by simp; omega
                          have f3 : (kj != kj) = false := by simp
                          have f4 : (0 : Int) ≤ (j : Int) := by omega
                          have f5 : (j : Int) < (ks.length : Int) := by omega
                          have f6 : j ≤ i := by omega
                          have f7 : last < (j : Int) := by omega
                          go_wp2_with fail
                          go_quiet (fail)
                          have B10 := Lib.hid (show Below w9.heap.size w9 (w9.drewN nq) from below_drewN (Below.refl _ _))
                          have X10 := Lib.hid (fb_below X9.out B10.out)
                          have HM10 := Lib.hid (HM9.out.same (B10.out.block _ HM9.out.lt))
                          have GG : Hid (RwG w p gm mx ks (i + 1) L'.tail (upd M' j) lost' (taken + 1) (j : Int) ((w9.drewN nq).setCell ⟨gm, j, none⟩ (.bool true))) := Lib.hid ⟨HRT.out, by have := HS8.out; have := HTL.out; omega, bx_met (HB9.out.step B10.out), HM10.out.set q3, (below_after HW9.out B10.out (Nat.le_refl _)).setCell (show w.heap.size ≤ gm from GML.out) _⟩
                          have GX : Hid (FB ((w9.drewN nq).setCell ⟨gm, j, none⟩ (.bool true)) w8.heap.size qt) := Lib.hid ((Below.heap_setCell _ _ _ _ (show w8.heap.size ≠ gm from fun e => by
                            have h1 := X10.out
                            obtain ⟨cur, h2, _⟩ := HM10.out
                            unfold FB at h1
                            rw [e, h2] at h1
                            injection h1 with h1
                            injection h1 with _ h1 _
                            exact absurd h1 (by decide))).trans X10.out)
                          clear p0 p5 m0 m1 k0 X9 HM9 HB9 HW9 B10
                          generalize w9.drewN nq = w10 at *
                          obtain ⟨p0, -, -, -, -, p5, -⟩ := fb_cells X10.out
                          rw [HO8.out, HQ1.out] at p5
                          obtain ⟨m0, m1⟩ := HM10.out.cell q3
                          obtain ⟨-, -, -, -, -, g5, -⟩ := fb_cells GX.out
                          rw [HO8.out, HQ1.out] at g5
                          go_wp2_with fail
                          go_meet
                          exact ⟨rfl, L'.tail, upd M' j, taken + 1, (j : Int), rfl, by go_num, by omega, by omega, by omega, GG⟩
                  case rest =>
                    as_aux_lemma =>
                      clear GC hta hla hla2
                      obtain ⟨rfl, L3, M3, taken3, last3, rfl, rfl, hta, hla, hla2, G9⟩ := hcut
                      rename World => wd
                      go_wp2_with fail
                      (with_reducible refine (bx_all _ wd p mx L3 G9.out.b).mono ?_)
                      rintro e11 w11 ⟨us, vv, rfl, hu, hf, -, hb⟩
                      have HU := Lib.hid hu
                      have HR := Lib.hid hf.rcs
                      have G11 := Lib.hid (G9.out.below hb)
                      obtain ⟨A4, c4, hv4, -⟩ := id hf
                      subst hv4
                      have hus : us.length = L3.length := by have := congrArg List.length hu; simpa using this
                      have HUS := Lib.hid hus
                      have hsum := G11.out.s
                      have hsz := G11.out.b.few
                      rw [← hus] at hsum hsz
                      have e1 : ((lost' : Int) + (taken3 : Int) + (us.length : Int) != (i : Int) + 1) = false := by simp; omega
                      clear hu hf hb G9 hus
                      go_wp2_with fail
                      (with_reducible refine (bx_len _ w11 p mx L3 G11.out.b).mono ?_)
                      rintro e12 w12 ⟨rfl, rfl⟩
                      have e2 : ((us.length : Int) != (L3.length : Int)) = false := by have := HUS.out; simp; omega
                      go_wp2_with fail
                      go_loopw [20] (fun s20 wr2 => ∃ k : Nat, k ≤ us.length ∧ s20 = .int .i64 k ∧ Hid (Below w11.heap.size w11 wr2)) (fun s20 _ => us.length - (intOf s20).toNat)
                      case atStart => exact ⟨0, by omega, rfl, Lib.hid (Below.refl _ _)⟩
                      case round =>
                        obtain ⟨wo, hwo⟩ : ∃ wo : World, wo = w11 := ⟨_, rfl⟩
                        obtain ⟨k, hkl, rfl, HW2⟩ := hrel
                        have k3 : (0 : Int) ≤ (k : Int) := by omega
                        by_cases hlt2 : k < us.length
                        case neg =>
                          obtain rfl : k = us.length := by omega
                          have hd2 : decide ((us.length : Int) < (us.length : Int)) = false := by simp
                          have GF := Lib.hid (G11.out.below HW2.out)
                          go_wp2_with fail
                          go_roundw
                          case rel => exact ⟨i + 1, L3, M3, lost', taken3, last3, by omega, by go_num, rfl, rfl, rfl, by omega, by omega, by omega, by push_cast; omega, GF⟩
                          case measure => simp [intOf]; omega
                        case pos =>
                          have hd2 : decide ((k : Int) < (us.length : Int)) = true := by simp; omega
                          have k4 : (k : Int) < (us.length : Int) := by omega
                          obtain ⟨ad4, rfl⟩ := HR.out.addr (Nat.lt_of_le_of_lt (Nat.zero_le _) hlt2)
                          have hkL : k < L3.length := by have := HUS.out; omega
                          obtain ⟨j, q1, q2, q3, q4, q5⟩ := G11.out.r.at_ hkL
                          have eL : ∀ (x : Nat) (h1 : x < us.length) (h2 : x < L3.length), us[x].F = L3[x] := fun x h1 h2 => by
                            have := congrArg (fun l => l[x]?) HU.out
                            simp [h1, h2] at this
                            exact this
                          have c5 := HR.out.cell HW2.out hlt2 5 (by decide) (u := .int .i64 us[k].F.n) rfl
                          rw [eL k hlt2 hkL, q1] at c5
                          obtain ⟨m0, -⟩ := (G11.out.m.same (HW2.out.block _ G11.out.m.lt)).cell q3
                          rw [q4] at m0
                          have f1 : decide ((j : Int) ≤ last3) = false := by simp; omega
                          have f4 : (0 : Int) ≤ (j : Int) := by omega
                          have f5 : (j : Int) < (ks.length : Int) := by omega
                          have f7 : last3 < (j : Int) := by omega
                          by_cases hk0 : k = 0
                          case pos =>
                            have g1 : decide ((0 : Int) < (k : Int)) = false := by simp; omega
                            have g1b : ¬ 0 < k := by omega
                            have g1c : ¬ (0 : Int) < (k : Int) := by omega
                            clear q1 q4 eL hk0
                            go_wp2_with fail
                            go_quiet (fail)
                            go_wp2_with fail
                            go_roundw
                            case rel => exact ⟨k + 1, by omega, by go_num, Lib.hid (below_drewN HW2.out)⟩
                            case measure => simp [intOf]; omega
                          case neg =>
                            have g1 : decide ((0 : Int) < (k : Int)) = true := by simp; omega
                            have g1b : 0 < k := by omega
                            obtain ⟨k1, hk1⟩ : ∃ k1, k = k1 + 1 := ⟨k - 1, by omega⟩
                            have gw : IntKind.i64.wrap ((k : Int) - 1) = (k1 : Int) := by rw [IntWalk.i64_in _ ⟨by omega, by omega⟩]; omega
                            have gw2 : wrap64 ((k : Int) - 1) = (k1 : Int) := (IntWalk.i64_left _).symm.trans gw
                            have g3 : (0 : Int) ≤ (k1 : Int) := by omega
                            have g4 : (k1 : Int) < (us.length : Int) := by omega
                            obtain ⟨j2, r1, -⟩ := G11.out.r.at_ (k := k1) (by omega)
                            have c6 := HR.out.cell HW2.out (k := k1) (by omega) 5 (by decide) (u := .int .i64 us[k1].F.n) rfl
                            rw [eL k1 (by omega) (by omega), r1] at c6
                            have g5 : decide ((j : Int) ≤ (j2 : Int)) = false := by
                              have h1 := G11.out.r.lt (k := k1) (by omega)
                              have h2 : L3[k1 + 1]'(by omega) = L3[k] := by congr 1; omega
                              rw [h2, q1, r1] at h1
                              simp; omega
                            have g5b : j2 < j := by
                              have := of_decide_eq_false g5
                              omega
                            clear q1 q4 r1 eL hk1 hk0
                            go_wp2_with fail
                            go_quiet (fail)
                            go_wp2_with fail
                            go_roundw
                            case rel => exact ⟨k + 1, by omega, by go_num, Lib.hid (below_drewN HW2.out)⟩
                            case measure => simp [intOf]; omega
end Go.Proofs.Ytmgiglefabbmcaa
