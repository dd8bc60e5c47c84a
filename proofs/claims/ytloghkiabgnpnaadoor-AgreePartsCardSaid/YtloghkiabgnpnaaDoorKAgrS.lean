/-
  Walked: where the rows of just some members say that all others are not reached, and no others say anything: these others are not reached, and nobody else, if one of the some is below Down. No statement is proved in this text.
-/
import Derived.Test.YtloghkiabgnpnaaDoorH21
import Derived.Test.YtloghkiabgnpnaaDoorH20
namespace Go.Proofs.YtloghkiabgnpnaaDoor
open Go Go.RowKit
set_option maxHeartbeats 16000000 in
set_option maxRecDepth 100000 in
theorem agreeParts_any (v : Value) (V : Vw) (u : Value) (S : List Int) (w : World) (h : VAt w v V) (hu : Nums w u S) (hW : WideV V) (ht : Tabs w) : Calls Tryd.prog 9 #[v, u] w fun e w' => e = .returned (.bool true) ∧ Below w.heap.size w w' := by
  obtain ⟨a, b, c, d, e, rfl, hr⟩ := h
  obtain ⟨z, rfl⟩ := sl_rcs hu
  have hzl := rcs_len hu
  have G1 := Lib.hid (agV_new hr)
  have BB := Lib.hid (below_one w (.cells #[.slice a.1 a.2.1 a.2.2, .slice b.1 b.2.1 b.2.2, .slice c.1 c.2.1 c.2.2, .slice d.1 d.2.1 d.2.2, .slice e.1 e.2.1 e.2.2] 29))
  have T1 := Lib.hid (ht.below BB.out)
  have U1 := Lib.hid (hu.below BB.out)
  have HW := Lib.hid hW
  have HZL := Lib.hid hzl
  clear hr hW ht hu hzl
  go_enter Tryd.func9, Tryd.ntmps9
  go_wp2_with fail
  generalize w.alloc (.cells #[.slice a.1 a.2.1 a.2.2, .slice b.1 b.2.1 b.2.2, .slice c.1 c.2.1 c.2.2, .slice d.1 d.2.1 d.2.2, .slice e.1 e.2.1 e.2.2] 29) = w1 at *
  obtain ⟨g, hg⟩ : ∃ g, g = w.heap.size := ⟨_, rfl⟩
  rw [← hg] at G1
  rw [← hg]
  clear hg
  (with_reducible refine (works_any w1 T1.out).mono ?_)
  rintro e1 w2 ⟨rfl, hb⟩
  have G2 := Lib.hid (G1.out.below hb)
  have T2 := Lib.hid (T1.out.below hb)
  have U2 := Lib.hid (U1.out.below hb)
  have B2 := Lib.hid (below_after BB.out hb (Nat.le_refl _))
  clear hb G1 T1 BB U1
  obtain ⟨p0, p1, p2, p3, p4⟩ := vbox_cells G2.out.x
  go_wp2_with fail
  clear p0 p1 p2 p3 p4
  (with_reducible refine (large_any _ V w2 G2.out.at_ HW.out).mono ?_)
  rintro e2 w3 ⟨zz, rfl, hz, hb⟩
  have G3 := Lib.hid (G2.out.below hb)
  have T3 := Lib.hid (T2.out.below hb)
  have U3 := Lib.hid (U2.out.below hb)
  have B3 := Lib.hid (below_after B2.out hb (Nat.le_refl _))
  clear hb G2 T2 B2 U2
  rcases zz with _ | _
  case true =>
    clear hz
    go_wp2_with fail
    (with_reducible refine (works_any w3 T3.out).mono ?_)
    rintro e4 w4 ⟨rfl, hb⟩
    have B4 := Lib.hid (below_after B3.out hb (Nat.le_refl _))
    clear hb
    go_wp2_with fail
    go_ret
    exact ⟨rfl, B4.out⟩
  case false =>
    have HL := Lib.hid (hz rfl)
    clear hz
    by_cases hm : 50 < z.2.1
    · have hd : decide ((50 : Int) < (z.2.1 : Int)) = true := decide_eq_true (by omega)
      go_wp2_with fail
      (with_reducible refine (works_any w3 T3.out).mono ?_)
      rintro e4 w4 ⟨rfl, hb⟩
      have B4 := Lib.hid (below_after B3.out hb (Nat.le_refl _))
      clear hb
      go_wp2_with fail
      go_ret
      exact ⟨rfl, B4.out⟩
    · have hd : decide ((50 : Int) < (z.2.1 : Int)) = false := decide_eq_false (by omega)
      have HV := Lib.hid HL.out.fit
      have HML : Hid (V.m.length < 500) := Lib.hid (by have := HL.out; unfold FitL at this; omega)
      have hn := rcs_len G3.out.r.m
      have HN := Lib.hid hn
      have hnl : a.2.1 ≤ 1000 := by rw [hn]; exact HV.out.m
      have hsn : z.2.1 ≤ 50 := by omega
      clear hm T3 hn
      go_wp2_with fail
      go_loopw [5, 6, 7, 8] (fun s5 s6 s7 s8 wr => ∃ (k : Nat) (lo : Bool), s8 = .int .i64 k ∧ s7 = .bool lo ∧ k ≤ a.2.1 ∧ Hid (TwoP wr w3.heap.size s5 s6 (inP S (V.m.take k)) (outP S (V.m.take k))) ∧ Hid (lo = lowP S (V.m.take k)) ∧ Hid ((idsM (V.m.take k)).Nodup) ∧ Hid (Below w3.heap.size w3 wr)) (fun _ _ _ s8 _ => a.2.1 - (intOf s8).toNat)
      case atStart => exact ⟨0, false, rfl, rfl, by omega, Lib.hid (TwoP.nil _ _), Lib.hid rfl, Lib.hid List.nodup_nil, Lib.hid (Below.refl _ _)⟩
      case round =>
        obtain ⟨k, lo, rfl, rfl, hk, HT, HLo, HNd, HB⟩ := hrel
        rename World => wr
        have G4 := Lib.hid (G3.out.below HB.out)
        obtain ⟨p0, p1, p2, p3, p4⟩ := vbox_cells G4.out.x
        by_cases hlt : k < a.2.1
        · have hd1 : decide (k < a.2.1) = true := decide_eq_true hlt
          have i3 : (0 : Int) ≤ (k : Int) := by omega
          have i4 : (k : Int) < (a.2.1 : Int) := by omega
          have hkm : k < V.m.length := by have := HN.out; omega
          obtain ⟨ad, hA, c1, c2, c3, c4⟩ := G4.out.r.m.at_ (Below.refl _ _) hkm
          have p0' := p0.trans (show some (Value.slice a.1 a.2.1 a.2.2) = some (Value.slice (some ad) a.2.1 a.2.2) by rw [hA])
          have HPi := Lib.hid fun h => parts_in (s := S) hkm h
          have HPo := Lib.hid fun h => parts_out (s := S) hkm h
          have HNx : Hid ((∀ y ∈ V.m.take k, y.1 ≠ V.m[k].1) → (idsM (V.m.take (k + 1))).Nodup) := Lib.hid fun h => nodup_next hkm HNd.out h
          obtain ⟨xk, hxk⟩ : ∃ x, x = V.m[k] := ⟨_, rfl⟩
          rw [← hxk] at c1 c2 c3 c4 HPi HPo HNx
          obtain ⟨⟨x1, x2⟩, x3, x4⟩ := xk
          dsimp only at c1 c2 c3 c4
          have HAd := Lib.hid hA
          clear hA p0 hxk
          have q := below_one wr (.cells #[.int .i64 x1, .int .i64 x2, .int .u8 x3, .int .i64 x4] 52)
          have X1 := Lib.hid (mbox_new wr x1 x2 x3 x4)
          have G5 := Lib.hid (G4.out.below q)
          have T5 := Lib.hid (HT.out.below q)
          have B5 := Lib.hid (below_after HB.out q (Nat.le_refl _))
          go_wp2_with fail
          clear p0' p1 p2 p3 p4 c1 c2 c3 c4 q G4 HT HB HNd
          generalize wr.alloc (.cells #[.int .i64 x1, .int .i64 x2, .int .u8 x3, .int .i64 x4] 52) = wx at *
          obtain ⟨gx, hgx⟩ : ∃ g, g = wr.heap.size := ⟨_, rfl⟩
          rw [← hgx] at X1
          rw [← hgx]
          clear hgx
          go_loopw [10] (fun s10 wi => ∃ j : Nat, s10 = .int .i64 j ∧ j ≤ k ∧ Hid (∀ y ∈ V.m.take j, y.1 ≠ (x1, x2)) ∧ Hid (Below wx.heap.size wx wi)) (fun s10 _ => k - (intOf s10).toNat)
          case atStart => exact ⟨0, rfl, by omega, Lib.hid (fun y hy => by cases hy), Lib.hid (Below.refl _ _)⟩
          case round =>
            obtain ⟨j, rfl, hj, HF, HI⟩ := hrel
            rename World => wi
            have G6 := Lib.hid (G5.out.below HI.out)
            have X6 := Lib.hid (mbox_below X1.out HI.out)
            obtain ⟨p0, p1, p2, p3, p4⟩ := vbox_cells G6.out.x
            obtain ⟨m1, m2, m3, m4⟩ := mbox_cells X6.out
            by_cases hjk : j < k
            · have hd2 : decide (j < k) = true := decide_eq_true hjk
              have i5 : (0 : Int) ≤ (j : Int) := by omega
              have i6 : (j : Int) < (a.2.1 : Int) := by omega
              have hjm : j < V.m.length := by have := HN.out; omega
              obtain ⟨ad2, hA2, c1, c2, c3, c4⟩ := G6.out.r.m.at_ (Below.refl _ _) hjm
              have p0' := p0.trans (show some (Value.slice a.1 a.2.1 a.2.2) = some (Value.slice (some ad2) a.2.1 a.2.2) by rw [hA2])
              have HFn : Hid ((V.m[j].1.1, V.m[j].1.2) ≠ (x1, x2) → ∀ y ∈ V.m.take (j + 1), y.1 ≠ (x1, x2)) := Lib.hid fun h y hy => by
                rw [List.take_succ_eq_append_getElem hjm] at hy
                rcases List.mem_append.1 hy with hy | hy
                · exact HF.out y hy
                · rw [List.mem_singleton.1 hy]; exact h
              clear hA2 p0
              generalize V.m[j].1.1 = y1 at *
              generalize V.m[j].1.2 = y2 at *
              generalize V.m[j].2.1 = y3 at *
              generalize V.m[j].2.2 = y4 at *
              clear hjm
              by_cases hx : y1 = x1
              · subst hx
                by_cases hy : y2 = x2
                · subst hy
                  have BE := Lib.hid (B3.out.trans ((below_after B5.out HI.out (Nat.le_refl _)).mono B3.out.size))
                  clear HFn
                  go_wp2_with fail
                  go_quiet (fail)
                  go_wp2_with fail
                  go_ret
                  exact ⟨rfl, below_drewN BE.out⟩
                · have h2 : (y2 == x2) = false := by simpa using hy
                  have HF2 := Lib.hid (HFn.out fun e => hy (by injection e))
                  clear HFn hy
                  go_wp2_with fail
                  go_quiet (fail)
                  go_wp2_with fail
                  go_roundw
                  case rel => exact ⟨j + 1, by go_num, by omega, HF2, Lib.hid (below_drewN HI.out)⟩
                  case measure => simp [intOf]; omega
              · have h2 : (y1 == x1) = false := by simpa using hx
                have HF2 := Lib.hid (HFn.out fun e => hx (by injection e))
                clear HFn hx
                go_wp2_with fail
                go_quiet (fail)
                go_wp2_with fail
                go_roundw
                case rel => exact ⟨j + 1, by go_num, by omega, HF2, Lib.hid (below_drewN HI.out)⟩
                case measure => simp [intOf]; omega
            · have hd2 : decide (j < k) = false := decide_eq_false hjk
              have HNd2 := Lib.hid (HNx.out (by have := HF.out; obtain rfl : j = k := (by omega); exact this))
              have T6 := Lib.hid (T5.out.below HI.out)
              have B6 := Lib.hid (below_after B5.out HI.out (Nat.le_refl _))
              have U6 := Lib.hid (U3.out.below B6.out)
              clear HNx HF HI G5 X1 T5 B5 hjk p0 p1 p2 p3 p4 m1 m2 m3 m4
              go_wp2_with fail
              clear hd2
              go_loopw [11, 12] (fun s11 s12 wj => ∃ j : Nat, s12 = .int .i64 j ∧ j ≤ z.2.1 ∧ s11 = .bool (inB (S.take j) ((x1, x2), x3, x4)) ∧ Hid (Below wi.heap.size wi wj)) (fun _ s12 _ => z.2.1 - (intOf s12).toNat)
              case atStart => exact ⟨0, rfl, by omega, rfl, Lib.hid (Below.refl _ _)⟩
              case round =>
                obtain ⟨j2, rfl, hj2, rfl, HJ⟩ := hrel
                rename World => wj
                have X7 := Lib.hid (mbox_below X6.out HJ.out)
                obtain ⟨m1, m2, m3, m4⟩ := mbox_cells X7.out
                by_cases hjz : j2 < z.2.1
                · have hd2 : decide (j2 < z.2.1) = true := decide_eq_true hjz
                  have i5 : (0 : Int) ≤ (j2 : Int) := by omega
                  have i6 : (j2 : Int) < (z.2.1 : Int) := by omega
                  have hjm : j2 < S.length := by have := HZL.out; omega
                  obtain ⟨ad2, hA2⟩ := Rcs.addr U6.out (by omega)
                  have U6' := U6.out
                  rw [hA2] at U6'
                  have c1 := Rcs.first U6' HJ.out hjm rfl
                  have HIn := Lib.hid (inB_next hjm ((x1, x2), x3, x4))
                  have HZ2 : Hid (Value.slice z.1 z.2.1 z.2.2 = Value.slice (some ad2) z.2.1 z.2.2) := Lib.hid (by rw [hA2])
                  rw [hA2]
                  rw [Nat.mul_one] at c1
                  clear hA2 U6'
                  generalize S[j2] = y1 at *
                  clear hjm
                  generalize inB (S.take j2) ((x1, x2), x3, x4) = bi at *
                  rcases bi with _ | _
                  · by_cases hx : y1 = x1
                    · subst hx
                      have HI2 : Hid (inB (S.take (j2 + 1)) ((y1, x2), x3, x4) = true) := Lib.hid (by rw [HIn.out]; simp)
                      clear HIn
                      go_wp2_with fail
                      go_quiet (fail)
                      go_wp2_with fail
                      go_roundw
                      case rel => exact ⟨j2 + 1, by go_num, by omega, by rw [HI2.out], Lib.hid (below_drewN HJ.out)⟩
                      case measure => simp [intOf]; omega
                    · have h2 : (y1 == x1) = false := by simpa using hx
                      have HI2 : Hid (inB (S.take (j2 + 1)) ((x1, x2), x3, x4) = false) := Lib.hid (by rw [HIn.out]; simp [h2])
                      clear HIn hx
                      go_wp2_with fail
                      go_quiet (fail)
                      go_wp2_with fail
                      go_roundw
                      case rel => exact ⟨j2 + 1, by go_num, by omega, by rw [HI2.out], Lib.hid (below_drewN HJ.out)⟩
                      case measure => simp [intOf]; omega
                  · have HI2 : Hid (inB (S.take (j2 + 1)) ((x1, x2), x3, x4) = true) := Lib.hid (by rw [HIn.out]; simp)
                    clear HIn
                    go_wp2_with fail
                    go_quiet (fail)
                    go_wp2_with fail
                    go_roundw
                    case rel => exact ⟨j2 + 1, by go_num, by omega, by rw [HI2.out], Lib.hid (below_drewN HJ.out)⟩
                    case measure => simp [intOf]; omega
                · have hd2 : decide (j2 < z.2.1) = false := decide_eq_false hjz
                  have hTS : S.take j2 = S := List.take_of_length_le (by have := HZL.out; omega)
                  rw [hTS]
                  have T7 := Lib.hid (T6.out.below HJ.out)
                  have B7 := Lib.hid (below_after B6.out HJ.out (Nat.le_refl _))
                  have hl7 : (inP S (V.m.take k)).length + (outP S (V.m.take k)).length ≤ 1000 := by rw [inP_len, List.length_take]; omega
                  have HL7 := Lib.hid hl7
                  have hB7 : w3.heap.size ≤ wj.heap.size := B7.out.size
                  clear hTS hjz hl7 T6 B6 X6 HJ U6
                  rcases hbi : inB S ((x1, x2), x3, x4) with _ | _
                  · obtain ⟨e1, e2, e3⟩ := HPo.out hbi
                    have HE1 := Lib.hid e1
                    have HE2 := Lib.hid e2
                    have HE3 := Lib.hid e3
                    clear HPi HPo e1 e2 e3 hbi
                    go_wp2_with (first | (at_builtin; refine wpList_append_two rfl (.tmp 83) (.tmp 86) rfl wj w3.heap.size _ _ _ _ x1 x2 gx x1 x2 x3 x4 rfl rfl T7.out.swap X7.out (by have := HL7.out; omega) hB7 ?_; intro v9 w9 h1 h2 h3; have T9 := Lib.hid h1.swap; have B9 := Lib.hid (B7.out.trans h3); clear h1 h2 h3))
                    go_roundw
                    case rel => exact ⟨k + 1, lo, by go_num, rfl, by omega, Lib.hid (by rw [HE1.out, HE2.out]; exact T9.out), Lib.hid (by rw [HE3.out]; exact HLo.out), HNd2, B9⟩
                    case measure => simp [intOf]; omega
                  · obtain ⟨e1, e2, e3⟩ := HPi.out hbi
                    have HE1 := Lib.hid e1
                    have HE2 := Lib.hid e2
                    have HE3 := Lib.hid e3
                    clear HPi HPo e1 e2 e3 hbi
                    rcases lo with _ | _
                    · go_wp2_with (first | (at_builtin; refine wpList_append_two rfl (.tmp 72) (.tmp 75) rfl wj w3.heap.size _ _ _ _ x1 x2 gx x1 x2 x3 x4 rfl rfl T7.out X7.out (by have := HL7.out; omega) hB7 ?_; intro v9 w9 h1 h2 h3; have T9 := Lib.hid h1; have B9 := Lib.hid (B7.out.trans h3); obtain ⟨n1, n2, n3, n4⟩ := mbox_cells h2; clear h1 h2 h3))
                      go_roundw
                      case rel => exact ⟨k + 1, decide (x3 < 6), by go_num, rfl, by omega, Lib.hid (by rw [HE1.out, HE2.out]; exact T9.out), Lib.hid (by rw [HE3.out, ← HLo.out]; rfl), HNd2, B9⟩
                      case measure => simp [intOf]; omega
                    · go_wp2_with (first | (at_builtin; refine wpList_append_two rfl (.tmp 72) (.tmp 75) rfl wj w3.heap.size _ _ _ _ x1 x2 gx x1 x2 x3 x4 rfl rfl T7.out X7.out (by have := HL7.out; omega) hB7 ?_; intro v9 w9 h1 h2 h3; have T9 := Lib.hid h1; have B9 := Lib.hid (B7.out.trans h3); obtain ⟨n1, n2, n3, n4⟩ := mbox_cells h2; clear h1 h2 h3))
                      go_roundw
                      case rel => exact ⟨k + 1, true, by go_num, rfl, by omega, Lib.hid (by rw [HE1.out, HE2.out]; exact T9.out), Lib.hid (by rw [HE3.out, ← HLo.out]; rfl), HNd2, B9⟩
                      case measure => simp [intOf]; omega
        · have hd1 : decide (k < a.2.1) = false := decide_eq_false hlt
          have hkn : k = V.m.length := by have := HN.out; omega
          have hTk : V.m.take k = V.m := List.take_of_length_le (by omega)
          rw [hTk] at HT HLo HNd
          rename_i u5 u6
          obtain ⟨s5, hs5⟩ := sl_ids (ids_of_owns HT.out.l)
          obtain ⟨s6, hs6⟩ := sl_ids (ids_of_owns HT.out.m)
          subst hs5
          subst hs6
          have I5 := Lib.hid (ids_of_owns HT.out.l)
          have I6 := Lib.hid (ids_of_owns HT.out.m)
          have h5 := ids_len I5.out
          have h6 := inP_len S V.m
          have H5 := Lib.hid h5
          have h5l : s5.2.1 ≤ 1000 := by have := HML.out; omega
          have HOl : Hid ((outP S V.m).length ≤ 1000 ∧ (inP S V.m).length ≤ 1000) := Lib.hid (by have := HML.out; omega)
          have RW := Lib.hid (G3.out.below HB.out).r
          have BW := Lib.hid (B3.out.trans (HB.out.mono B3.out.size))
          have q := below_one wr (.cells #[.slice a.1 a.2.1 a.2.2, .slice b.1 b.2.1 b.2.2, .slice none 0 0, .slice d.1 d.2.1 d.2.2, .slice e.1 e.2.1 e.2.2] 29)
          have Y4 := Lib.hid (vbox_new wr a b nl d e)
          have hz4 : (wr.alloc (.cells #[.slice a.1 a.2.1 a.2.2, .slice b.1 b.2.1 b.2.2, .slice none 0 0, .slice d.1 d.2.1 d.2.2, .slice e.1 e.2.1 e.2.2] 29)).heap.size = wr.heap.size + 1 := by simp
          clear h5 h6 HT HB G4 hlt hkn hTk
          go_wp2_with fail
          clear p0 p1 p2 p3 p4 hd1
          have E4 := Lib.hid q
          change Hid (VBox (wr.alloc (.cells #[.slice a.1 a.2.1 a.2.2, .slice b.1 b.2.1 b.2.2, .slice none 0 0, .slice d.1 d.2.1 d.2.2, .slice e.1 e.2.1 e.2.2] 29)) wr.heap.size a b nl d e) at Y4
          generalize wr.alloc (.cells #[.slice a.1 a.2.1 a.2.2, .slice b.1 b.2.1 b.2.2, .slice none 0 0, .slice d.1 d.2.1 d.2.2, .slice e.1 e.2.1 e.2.2] 29) = w4 at *
          obtain ⟨g3, hg3⟩ : ∃ g, g = wr.heap.size := ⟨_, rfl⟩
          rw [← hg3] at Y4
          rw [← hg3]
          have hg4 : g3 < w4.heap.size := by omega
          have hg5 : wr.heap.size ≤ g3 := by omega
          have hg6 : wr.heap.size ≤ w4.heap.size := by omega
          clear q hg3 hz4
          go_loopw [14] (fun s14 wx => ∃ (k : Nat) (p : SL), s14 = .int .i64 k ∧ k ≤ s5.2.1 ∧ Hid (VBox wx g3 a b p d e) ∧ Hid (OwnsW wx w4.heap.size (.slice p.1 p.2.1 p.2.2) (rawP s6 ((inP S V.m).take k))) ∧ Hid (Below wr.heap.size wr wx) ∧ Hid (w4.heap.size ≤ wx.heap.size)) (fun s14 _ => s5.2.1 - (intOf s14).toNat)
          case atStart => exact ⟨0, nl, rfl, by omega, Y4, Lib.hid (OwnsR.nil _ _ _), E4, Lib.hid (Nat.le_refl _)⟩
          case round =>
            obtain ⟨j, p, rfl, hj, HY, HO, HB, HZ⟩ := hrel
            rename World => wx
            clear Y4 E4
            by_cases hlt : j < s5.2.1
            · have hd1 : decide (j < s5.2.1) = true := decide_eq_true hlt
              have i3 : (0 : Int) ≤ (j : Int) := by omega
              have i4 : (j : Int) < (s5.2.1 : Int) := by omega
              have hjm : j < (inP S V.m).length := by have := H5.out; omega
              obtain ⟨ad, hA, c1, c2⟩ := I5.out.at_ HB.out hjm
              have HNx := Lib.hid (rawP_next (s := s6) hjm)
              have HQ := Lib.hid fun w' (hb : Below wr.heap.size wr w') => (by
                obtain ⟨ad', hA', c1, c2⟩ := I5.out.at_ hb hjm
                rw [hA] at hA'
                obtain rfl := Option.some.inj hA'
                exact ⟨c1, c2⟩ : w'.cell? (ad.add (j * 2)) = some (.int .i64 (inP S V.m)[j].1) ∧ w'.cell? ⟨(ad.add (j * 2)).block, (ad.add (j * 2)).off + 1, none⟩ = some (.int .i64 (inP S V.m)[j].2))
              obtain ⟨yk, hyk⟩ : ∃ y, y = (inP S V.m)[j] := ⟨_, rfl⟩
              rw [← hyk] at c1 c2 HNx HQ
              obtain ⟨x1, x2⟩ := yk
              dsimp only at c1 c2 HQ
              have hw5 : Hid (Value.slice s5.1 s5.2.1 s5.2.2 = Value.slice (some ad) s5.2.1 s5.2.2) := Lib.hid (by rw [hA])
              have HLr : Hid ((rawP s6 ((inP S V.m).take j)).length + 1 ≤ 100000) := Lib.hid (by have := HOl.out; rw [rawP_len, List.length_take]; omega)
              rw [hA]
              clear hyk hA hjm
              go_upto_region 28 with fail
              clear c1 c2
              have PB : Hid (Below wr.heap.size wr wx.drew) := Lib.hid (below_after HB.out (Below.refl _ _).drew (Nat.le_refl _))
              have YB : Hid (VBox wx.drew g3 a b p d e) := Lib.hid (vbox_below HY.out (Below.refl _ _).drew)
              have OB : Hid (OwnsW wx.drew w4.heap.size (.slice p.1 p.2.1 p.2.2) (rawP s6 ((inP S V.m).take j))) := Lib.hid (HO.out.below (Below.refl _ _).drew)
              have ZB : Hid (w4.heap.size ≤ wx.drew.heap.size) := Lib.hid HZ.out
              clear HB HY HO HZ
              refine wp_region_held_drew (S := fun w' => w'.cell? (ad.add (j * 2)) = some (.int .i64 x1) ∧ w'.cell? ⟨(ad.add (j * 2)).block, (ad.add (j * 2)).off + 1, none⟩ = some (.int .i64 x2)) (by kernel_rfl) ?_ (fun hHeld => ?_)
              · exact HQ.out _ PB.out
              generalize wx.drew = W0 at *
              (refine wpAnyH_take (i := 0) (oi := ⟨_, _, _, _, _, _⟩) (v := ?_) rfl (by kernel_rfl) (by kernel_rfl) (by kernel_rfl) (fun _ _ _ h => h) (Or.inl ⟨by rfl, ?_⟩) (by assumption) ?_; rotate_left 1; · (intro w hSw; (try dsimp only at hSw); go_simp; all_goals with_reducible rfl))
              try simp only [Act.put, List.setIfInBounds_toArray, List.set_cons_zero, List.set_cons_succ]
              (refine wpAnyH_take (i := 2) (oi := ⟨_, _, _, _, _, _⟩) (v := ?_) rfl (by kernel_rfl) (by kernel_rfl) (by kernel_rfl) (fun _ _ _ h => h) (Or.inl ⟨by rfl, ?_⟩) (by assumption) ?_; rotate_left 1; · (intro w hSw; (try dsimp only at hSw); go_simp; all_goals with_reducible rfl))
              try simp only [Act.put, List.setIfInBounds_toArray, List.set_cons_zero, List.set_cons_succ]
              (refine wpAnyH_take (i := 3) (oi := ⟨_, _, _, _, _, _⟩) (v := ?_) rfl (by kernel_rfl) (by kernel_rfl) (by kernel_rfl) (fun _ _ _ h => h) (Or.inl ⟨by rfl, ?_⟩) (by assumption) ?_; rotate_left 1; · (intro w hSw; (try dsimp only at hSw); go_simp; all_goals with_reducible rfl))
              try simp only [Act.put, List.setIfInBounds_toArray, List.set_cons_zero, List.set_cons_succ]
              (refine wpAnyH_take (i := 4) (oi := ⟨_, _, _, _, _, _⟩) (v := ?_) rfl (by kernel_rfl) (by kernel_rfl) (by kernel_rfl) (fun _ _ _ h => h) (Or.inl ⟨by rfl, ?_⟩) (by assumption) ?_; rotate_left 1; · (intro w hSw; (try dsimp only at hSw); go_simp; all_goals with_reducible rfl))
              try simp only [Act.put, List.setIfInBounds_toArray, List.set_cons_zero, List.set_cons_succ]
              (refine wpAnyH_take (i := 5) (oi := ⟨_, _, _, _, _, _⟩) (v := ?_) rfl (by kernel_rfl) (by kernel_rfl) (by kernel_rfl) (fun _ _ _ h => h) (Or.inl ⟨by rfl, ?_⟩) (by assumption) ?_; rotate_left 1; · (intro w hSw; (try dsimp only at hSw); go_simp; all_goals with_reducible rfl))
              try simp only [Act.put, List.setIfInBounds_toArray, List.set_cons_zero, List.set_cons_succ]
              (refine wpAnyH_take (i := 6) (oi := ⟨_, _, _, _, _, _⟩) (v := ?_) rfl (by kernel_rfl) (by kernel_rfl) (by kernel_rfl) (fun _ _ _ h => h) (Or.inl ⟨by rfl, ?_⟩) (by assumption) ?_; rotate_left 1; · (intro w hSw; (try dsimp only at hSw); go_simp; all_goals with_reducible rfl))
              try simp only [Act.put, List.setIfInBounds_toArray, List.set_cons_zero, List.set_cons_succ]
              (refine wpAnyH_take (i := 7) (oi := ⟨_, _, _, _, _, _⟩) (v := ?_) rfl (by kernel_rfl) (by kernel_rfl) (by kernel_rfl) (fun _ _ _ h => h) (Or.inl ⟨by rfl, ?_⟩) (by assumption) ?_; rotate_left 1; · (intro w hSw; (try dsimp only at hSw); go_simp; all_goals with_reducible rfl))
              try simp only [Act.put, List.setIfInBounds_toArray, List.set_cons_zero, List.set_cons_succ]
              refine wpAnyH_ready (rs := [1, 8]) (by kernel_rfl) (by simp) ?_
              refine AllReadyH.cons (o := ⟨_, _, _, _, _, _⟩) rfl (fun Kq hKq => ?_) (AllReadyH.cons (o := ⟨_, _, _, _, _, _⟩) rfl (fun Kq hKq => ?_) (AllReadyH.nil))
              · obtain ⟨o0, o1, o2, o3, o4⟩ := vbox_cells YB.out
                go_simp
                clear hHeld
                clear o0 o1 o2 o3 o4
                refine hKq.out _ _ ?_ (fun hHeld => ?_)
                · (try dsimp only); exact HQ.out _ PB.out
                clear hKq Kq
                try simp only [Act.put, List.setIfInBounds_toArray, List.set_cons_zero, List.set_cons_succ]
                refine wpAnyH_ready (rs := [8]) (by kernel_rfl) (by simp) ?_
                refine AllReadyH.cons (o := ⟨_, _, _, _, _, _⟩) rfl (fun Kq hKq => ?_) (AllReadyH.nil)
                go_simp
                clear hHeld
                have hq := below_one W0 (.cells #[.int .i64 x1, .int .i64 x2, .int .i64 1, .slice s6.1 s6.2.1 s6.2.2] 37); have P8 := Lib.hid (below_after PB.out hq (Nat.le_refl _)); have Y8 := Lib.hid (vbox_below YB.out hq); have O8 := Lib.hid (OwnsR.below OB.out hq); have X8 := Lib.hid (wbox_new W0 x1 x2 1 (.slice s6.1 s6.2.1 s6.2.2)); have Z8 := Lib.hid (Nat.le_trans ZB.out hq.size); generalize W0.alloc (.cells #[.int .i64 x1, .int .i64 x2, .int .i64 1, .slice s6.1 s6.2.1 s6.2.2] 37) = v8 at *; clear hq
                refine hKq.out _ _ ?_ (fun hHeld => ?_)
                · (try dsimp only); exact HQ.out _ P8.out
                clear hKq Kq
                try simp only [Act.put, List.setIfInBounds_toArray, List.set_cons_zero, List.set_cons_succ]
                refine wpAnyH_ready (rs := [9]) (by kernel_rfl) (by simp) ?_
                refine AllReadyH.cons (o := ⟨_, _, _, _, _, _⟩) rfl (fun Kq hKq => ?_) (AllReadyH.nil)
                clear hHeld
                refine step_append_rows (by rfl) (.tmp 97) (.tmp 104) (by rfl) _ w4.heap.size _ _ (rawP s6 ((inP S V.m).take j)) _ (by rfl) (by rfl) O8.out (rcs_wbox (s := s6) X8.out) HLr.out Z8.out ?_; intro s9 v9 h1 hg h2; have P9 := Lib.hid (P8.out.trans (h2.mono hg6)); have Y9 := Lib.hid ((h2.block _ hg4).trans Y8.out); have Z9 := Lib.hid (Nat.le_trans Z8.out h2.size); obtain ⟨p9, hs9⟩ := sl_owns h1; subst hs9; have O9 := Lib.hid h1; change Hid (VBox v9 g3 a b p d e) at Y9; clear h1 hg h2
                refine hKq.out _ _ ?_ (fun hHeld => ?_)
                · (try dsimp only); exact HQ.out _ P9.out
                clear hKq Kq
                try simp only [Act.put, List.setIfInBounds_toArray, List.set_cons_zero, List.set_cons_succ]
                (refine wpAnyH_take (i := 10) (oi := ⟨_, _, _, _, _, _⟩) (v := ?_) rfl (by kernel_rfl) (by kernel_rfl) (by kernel_rfl) (fun _ _ _ h => h) (Or.inl ⟨by rfl, ?_⟩) (by assumption) ?_; rotate_left 1; · (intro w hSw; (try dsimp only at hSw); go_simp; all_goals with_reducible rfl))
                try simp only [Act.put, List.setIfInBounds_toArray, List.set_cons_zero, List.set_cons_succ]
                refine wpAnyH_ready (rs := [11]) (by kernel_rfl) (by simp) ?_
                refine AllReadyH.cons (o := ⟨_, _, _, _, _, _⟩) rfl (fun Kq hKq => ?_) (AllReadyH.nil)
                obtain ⟨o0, o1, o2, o3, o4⟩ := vbox_cells Y9.out
                obtain ⟨f0, f1, f2, f3, f4⟩ := vbox_free Y9.out
                go_simp
                clear hHeld
                clear o0 o1 o2 o3 o4 f0 f1 f2 f3 f4
                refine hKq.out _ _ ?_ (fun hHeld => ?_)
                · (try dsimp only); exact HQ.out _ (below_put P9.out hg5 2 _)
                clear hKq Kq
                try simp only [Act.put, List.setIfInBounds_toArray, List.set_cons_zero, List.set_cons_succ]
                refine wpAnyH_done (by kernel_rfl) ?_ _
                go_wp2_with fail
                go_roundw
                case rel => exact ⟨j + 1, p9, by go_num, by omega, Lib.hid (vbox_put2 Y9.out p9), Lib.hid (by rw [HNx.out]; exact ownsW_put O9.out hg4), Lib.hid (below_put P9.out hg5 2 _), Lib.hid (by have := Z9.out; simpa [World.setCell] using this)⟩
                case measure => simp [intOf]; omega
              · go_simp
                clear hHeld
                have hq := below_one W0 (.cells #[.int .i64 x1, .int .i64 x2, .int .i64 1, .slice s6.1 s6.2.1 s6.2.2] 37); have P8 := Lib.hid (below_after PB.out hq (Nat.le_refl _)); have Y8 := Lib.hid (vbox_below YB.out hq); have O8 := Lib.hid (OwnsR.below OB.out hq); have X8 := Lib.hid (wbox_new W0 x1 x2 1 (.slice s6.1 s6.2.1 s6.2.2)); have Z8 := Lib.hid (Nat.le_trans ZB.out hq.size); generalize W0.alloc (.cells #[.int .i64 x1, .int .i64 x2, .int .i64 1, .slice s6.1 s6.2.1 s6.2.2] 37) = v8 at *; clear hq
                refine hKq.out _ _ ?_ (fun hHeld => ?_)
                · (try dsimp only); exact HQ.out _ P8.out
                clear hKq Kq
                try simp only [Act.put, List.setIfInBounds_toArray, List.set_cons_zero, List.set_cons_succ]
                refine wpAnyH_ready (rs := [1]) (by kernel_rfl) (by simp) ?_
                refine AllReadyH.cons (o := ⟨_, _, _, _, _, _⟩) rfl (fun Kq hKq => ?_) (AllReadyH.nil)
                obtain ⟨o0, o1, o2, o3, o4⟩ := vbox_cells Y8.out
                go_simp
                clear hHeld
                clear o0 o1 o2 o3 o4
                refine hKq.out _ _ ?_ (fun hHeld => ?_)
                · (try dsimp only); exact HQ.out _ P8.out
                clear hKq Kq
                try simp only [Act.put, List.setIfInBounds_toArray, List.set_cons_zero, List.set_cons_succ]
                refine wpAnyH_ready (rs := [9]) (by kernel_rfl) (by simp) ?_
                refine AllReadyH.cons (o := ⟨_, _, _, _, _, _⟩) rfl (fun Kq hKq => ?_) (AllReadyH.nil)
                clear hHeld
                refine step_append_rows (by rfl) (.tmp 97) (.tmp 104) (by rfl) _ w4.heap.size _ _ (rawP s6 ((inP S V.m).take j)) _ (by rfl) (by rfl) O8.out (rcs_wbox (s := s6) X8.out) HLr.out Z8.out ?_; intro s9 v9 h1 hg h2; have P9 := Lib.hid (P8.out.trans (h2.mono hg6)); have Y9 := Lib.hid ((h2.block _ hg4).trans Y8.out); have Z9 := Lib.hid (Nat.le_trans Z8.out h2.size); obtain ⟨p9, hs9⟩ := sl_owns h1; subst hs9; have O9 := Lib.hid h1; change Hid (VBox v9 g3 a b p d e) at Y9; clear h1 hg h2
                refine hKq.out _ _ ?_ (fun hHeld => ?_)
                · (try dsimp only); exact HQ.out _ P9.out
                clear hKq Kq
                try simp only [Act.put, List.setIfInBounds_toArray, List.set_cons_zero, List.set_cons_succ]
                (refine wpAnyH_take (i := 10) (oi := ⟨_, _, _, _, _, _⟩) (v := ?_) rfl (by kernel_rfl) (by kernel_rfl) (by kernel_rfl) (fun _ _ _ h => h) (Or.inl ⟨by rfl, ?_⟩) (by assumption) ?_; rotate_left 1; · (intro w hSw; (try dsimp only at hSw); go_simp; all_goals with_reducible rfl))
                try simp only [Act.put, List.setIfInBounds_toArray, List.set_cons_zero, List.set_cons_succ]
                refine wpAnyH_ready (rs := [11]) (by kernel_rfl) (by simp) ?_
                refine AllReadyH.cons (o := ⟨_, _, _, _, _, _⟩) rfl (fun Kq hKq => ?_) (AllReadyH.nil)
                obtain ⟨o0, o1, o2, o3, o4⟩ := vbox_cells Y9.out
                obtain ⟨f0, f1, f2, f3, f4⟩ := vbox_free Y9.out
                go_simp
                clear hHeld
                clear o0 o1 o2 o3 o4 f0 f1 f2 f3 f4
                refine hKq.out _ _ ?_ (fun hHeld => ?_)
                · (try dsimp only); exact HQ.out _ (below_put P9.out hg5 2 _)
                clear hKq Kq
                try simp only [Act.put, List.setIfInBounds_toArray, List.set_cons_zero, List.set_cons_succ]
                refine wpAnyH_done (by kernel_rfl) ?_ _
                go_wp2_with fail
                go_roundw
                case rel => exact ⟨j + 1, p9, by go_num, by omega, Lib.hid (vbox_put2 Y9.out p9), Lib.hid (by rw [HNx.out]; exact ownsW_put O9.out hg4), Lib.hid (below_put P9.out hg5 2 _), Lib.hid (by have := Z9.out; simpa [World.setCell] using this)⟩
                case measure => simp [intOf]; omega
            · have hd1 : decide (j < s5.2.1) = false := decide_eq_false hlt
              have hIn : (inP S V.m).take j = inP S V.m := List.take_of_length_le (by have := H5.out; omega)
              rw [hIn] at HO
              have I6' := Lib.hid (I6.out.below HB.out)
              have RW' := Lib.hid (RW.out.below HB.out)
              have AF : Hid (AgV g3 a b p d e ⟨V.m, V.f, rowsP S V.m, V.c, V.s⟩ wx) := Lib.hid ⟨HY.out, ⟨RW'.out.m, RW'.out.f, ⟨rawP s6 (inP S V.m), rcs_owns encW_len HO.out, rawP_reads I6'.out _⟩, RW'.out.c, RW'.out.s⟩⟩
              have BF := Lib.hid (below_after BW.out HB.out (Nat.le_refl _))
              have HV3 : Hid (FitA ⟨V.m, V.f, rowsP S V.m, V.c, V.s⟩) := Lib.hid ⟨HV.out.m, (rowsP_fits HML.out).1, HV.out.s, (rowsP_fits HML.out).2⟩
              clear HY HO HB RW RW' I5 I6 BW hIn hlt
              obtain ⟨p0, p1, p2, p3, p4⟩ := vbox_cells AF.out.x
              go_wp2_with fail
              clear p0 p1 p2 p3 p4
              (with_reducible refine (notReached_any _ _ wx AF.out.at_ HV3.out).mono ?_)
              rintro eb wg ⟨vb, rfl, ho, hb⟩
              obtain ⟨An, nn, cn, rfl, hnn⟩ := owns_len ho
              have L8 := Lib.hid (ids_of_owns ho)
              have I8 := Lib.hid (I6'.out.below hb)
              have B8 := Lib.hid (below_after BF.out hb (Nat.le_refl _))
              have HNn := Lib.hid hnn
              have HNl : Hid ((Agr.nr V.m (rowsP S V.m)).length ≤ 1000) := Lib.hid (Nat.le_trans (Agr.nr_len _ _) HV.out.m)
              clear hb ho AF BF I6' hnn
              rcases lo with _ | _
              · have hn0 : nn = 0 := by rw [HNn.out]; show (Agr.nr V.m (rowsP S V.m)).length = 0; rw [nr_high HNd.out HLo.out.symm]; rfl
                subst hn0
                clear HNn
                go_wp2_with fail
                go_ret
                exact ⟨rfl, B8.out⟩
              · go_wp2_with fail
                (with_reducible refine (same_any _ _ _ _ wg L8.out I8.out (Nat.le_trans HNl.out (by omega)) (Nat.le_trans HOl.out.1 (by omega))).mono ?_)
                rw [same_low HNd.out HLo.out.symm]
                rintro ec wh ⟨rfl, hb⟩
                have B9 := Lib.hid (below_after B8.out hb (Nat.le_refl _))
                clear hb
                go_wp2_with fail
                go_ret
                exact ⟨rfl, B9.out⟩
end Go.Proofs.YtloghkiabgnpnaaDoor
