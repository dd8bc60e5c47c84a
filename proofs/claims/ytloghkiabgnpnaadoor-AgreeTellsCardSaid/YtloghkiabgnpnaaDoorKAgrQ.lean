/-
  Walked: the leader is a member that is reached, below Exiting, and no other one of its rank, or a better one, that is reached has a lesser ID; there is one just if somebody of a status from Joining to Leaving is reached. No statement is proved in this text.
-/
import Derived.Test.YtloghkiabgnpnaaDoorH20
namespace Go.Proofs.YtloghkiabgnpnaaDoor
open Go Go.RowKit
theorem rnk_le {s : Int} : decide ((3 : Int) < rnk s) = decide (Agr.rk s = 0) := by
  have := (Agr.rk_spec s).2.2.2
  unfold rnk
  by_cases h : Agr.rk s = 0
  · rw [if_pos h, decide_eq_true h]; rfl
  · rw [if_neg h, decide_eq_false h]; exact decide_eq_false (by omega)
theorem rnk_some {s : Int} (h : Agr.rk s ≠ 0) : rnk s = Agr.rk s := if_neg h
/-- What is known of a member that is asked for. -/
theorem st_range {m : List Agr.Mm} (hu : ∀ x ∈ m, 0 ≤ x.2.1 ∧ x.2.1 < 256) (y : Sets.Id2) : ∃ n : Nat, Agr.st m y = n ∧ n < 256 := by
  have h : 0 ≤ Agr.st m y ∧ Agr.st m y < 256 := by
    unfold Agr.st
    rcases hg : getO m y with _ | x
    · exact ⟨by decide, by decide⟩
    · exact hu x (List.mem_of_find?_eq_some hg)
  exact ⟨(Agr.st m y).toNat, by omega, by omega⟩
/-- A member, where all that is known of it is read: its ID, status, and whether it is reached. -/
structure Lds (w : World) (b1 g g2 : Nat) (a b c d e : SL) (V : Vw) (y1 y2 : Int) (W : World) : Prop where
  v : AgV g a b c d e V W
  y : Box W g2 y1 y2
  b : Below b1 w W
  z : b1 ≤ W.heap.size
theorem Lds.below {w : World} {b1 g g2 : Nat} {a b c d e : SL} {V : Vw} {y1 y2 : Int} {W W' : World} (h : Lds w b1 g g2 a b c d e V y1 y2 W) (hb : Below W.heap.size W W') : Lds w b1 g g2 a b c d e V y1 y2 W' :=
  ⟨h.v.below hb, box_below h.y hb, h.b.trans (hb.mono h.z), Nat.le_trans h.z hb.size⟩
set_option maxHeartbeats 8000000 in
theorem agreeLeads_any (v : Value) (V : Vw) (w : World) (h : VAt w v V) (hW : WideV V) (ht : Tabs w) : Calls Tryd.prog 7 #[v] w fun e w' => e = .returned (.bool true) ∧ Below w.heap.size w w' := by
  obtain ⟨a, b, c, d, e, rfl, hr⟩ := h
  have G1 := Lib.hid (agV_new hr)
  have BB := Lib.hid (below_one w (.cells #[.slice a.1 a.2.1 a.2.2, .slice b.1 b.2.1 b.2.2, .slice c.1 c.2.1 c.2.2, .slice d.1 d.2.1 d.2.2, .slice e.1 e.2.1 e.2.2] 29))
  have T1 := Lib.hid (ht.below BB.out)
  have HW := Lib.hid hW
  clear hr hW ht
  go_enter Tryd.func7, Tryd.ntmps7
  go_wp2_with fail
  generalize w.alloc (.cells #[.slice a.1 a.2.1 a.2.2, .slice b.1 b.2.1 b.2.2, .slice c.1 c.2.1 c.2.2, .slice d.1 d.2.1 d.2.2, .slice e.1 e.2.1 e.2.2] 29) = w1 at *
  obtain ⟨g, hg⟩ : ∃ g, g = w.heap.size := ⟨_, rfl⟩
  rw [← hg] at G1
  rw [← hg]
  clear hg
  (with_reducible refine (works_any w1 T1.out).mono ?_)
  rintro e1 w2 ⟨rfl, hb⟩
  have G2 := Lib.hid (G1.out.below hb)
  have T2 := Lib.hid (T1.out.below hb)
  have B2 := Lib.hid (below_after BB.out hb (Nat.le_refl _))
  clear hb G1 T1 BB
  obtain ⟨p0, p1, p2, p3, p4⟩ := vbox_cells G2.out.x
  go_wp2_with fail
  clear p0 p1 p2 p3 p4
  (with_reducible refine (large_any _ V w2 G2.out.at_ HW.out).mono ?_)
  rintro e2 w3 ⟨z, rfl, hz, hb⟩
  have G3 := Lib.hid (G2.out.below hb)
  have T3 := Lib.hid (T2.out.below hb)
  have B3 := Lib.hid (below_after B2.out hb (Nat.le_refl _))
  clear hb G2 T2 B2
  rcases z with _ | _
  case true =>
    clear hz
    go_wp2_with fail
    (with_reducible refine (works_any w3 T3.out).mono ?_)
    rintro e4 w4 ⟨rfl, hb⟩
    have B4 := Lib.hid (below_after B3.out hb (Nat.le_refl _))
    clear hb
    go_wp2_with fail
    go_ret
    exact ⟨rfl, B4.out⟩
  case false =>
    have HV := Lib.hid (FitL.fit (hz rfl))
    clear hz
    have HRa := Lib.hid (fun y : Sets.Id2 => st_range HW.out.u y)
    have HLn : Hid (V.m.length ≤ 100000) := Lib.hid (Nat.le_trans HV.out.m (by omega))
    obtain ⟨p0, p1, p2, p3, p4⟩ := vbox_cells G3.out.x
    go_wp2_with fail
    clear p0 p1 p2 p3 p4
    (with_reducible refine (leader_any _ V w3 G3.out.at_ HV.out T3.out).mono ?_)
    rintro e2 w4 ⟨rfl, hb⟩
    have G4 := Lib.hid (G3.out.below hb)
    have B4 := Lib.hid (below_after B3.out hb (Nat.le_refl _))
    clear hb G3 T3 B3
    have HBest := Lib.hid fun y h => Agr.leadO_some (m := V.m) (rs := V.r) (y := y) h
    have HNone := Lib.hid fun h => Agr.leadO_none (m := V.m) (rs := V.r) h
    generalize Agr.leadO V.m V.r = o at *
    obtain ⟨b1, hb1⟩ : ∃ b, b = w.heap.size := ⟨_, rfl⟩
    rw [← hb1] at B4
    have hle : b1 ≤ w4.heap.size := by rw [hb1]; exact B4.out.size
    have HB1 := Lib.hid hb1
    clear hb1
    rcases o with _ | ⟨y1, y2⟩
    · have HLv : Hid (leadV none = .tuple #[.agg #[.int .i64 0, .int .i64 0], .bool false]) := Lib.hid rfl
      rw [HLv.out]
      have HN0 := Lib.hid (HNone.out rfl)
      clear HLv HBest HNone
      have q5 := below_one w4 (.cells #[.int .i64 0, .int .i64 0] 32)
      have D5 : Hid (Lds w b1 g w4.heap.size a b c d e V 0 0 (w4.alloc (.cells #[.int .i64 0, .int .i64 0] 32))) := Lib.hid ⟨G4.out.below q5, box_new w4 0 0, B4.out.trans (q5.mono hle), Nat.le_trans hle q5.size⟩
      obtain ⟨p0, p1, p2, p3, p4⟩ := vbox_cells D5.out.v.x
      obtain ⟨i0, i1⟩ := box_cells D5.out.y
      clear q5 G4 B4 hle
      go_wp2_with fail
      clear p0 p1 p2 p3 p4 i0 i1
      generalize w4.alloc (.cells #[.int .i64 0, .int .i64 0] 32) = w5 at *
      obtain ⟨g2, hg2⟩ : ∃ g, g = w4.heap.size := ⟨_, rfl⟩
      rw [← hg2] at D5
      rw [← hg2]
      clear hg2
      (with_reducible refine (status_any _ V 0 0 w5 D5.out.v.at_ HLn.out).mono ?_)
      rintro e6 w6 ⟨rfl, hb⟩
      have D6 := Lib.hid (D5.out.below hb)
      clear hb D5
      obtain ⟨n0, hn0, hn1⟩ := HRa.out (0, 0)
      have HSt : Hid (statV V.m (0, 0) = .tuple #[.int .u8 n0, .bool (Agr.isMem V.m (0, 0))]) := Lib.hid (by unfold statV; rw [hn0])
      rw [HSt.out]
      have hn1' := hn1
      generalize Agr.isMem V.m (0, 0) = im at *
      clear hn0 HSt
      obtain ⟨p0, p1, p2, p3, p4⟩ := vbox_cells D6.out.v.x
      obtain ⟨i0, i1⟩ := box_cells D6.out.y
      have hz0 : ((0 : Int) == 0) = true := rfl
      go_wp2_with fail
      clear p0 p1 p2 p3 p4 i0 i1
      have hn := rcs_len D6.out.v.r.m
      have HN := Lib.hid hn
      have hnl : a.2.1 ≤ 100000 := by rw [hn]; exact HLn.out
      clear hn
      go_loopw [8] (fun s8 wr => ∃ k : Nat, s8 = .int .i64 k ∧ k ≤ a.2.1 ∧ Hid (Lds w b1 g g2 a b c d e V 0 0 wr)) (fun s8 _ => a.2.1 - (intOf s8).toNat)
      case atStart => exact ⟨0, rfl, by omega, D6⟩
      case round =>
        obtain ⟨k, rfl, hk, HD⟩ := hrel
        rename World => wr
        clear D6
        obtain ⟨p0, p1, p2, p3, p4⟩ := vbox_cells HD.out.v.x
        by_cases hlt : k < a.2.1
        · have hd : decide (k < a.2.1) = true := decide_eq_true hlt
          have i3 : (0 : Int) ≤ (k : Int) := by omega
          have i4 : (k : Int) < (a.2.1 : Int) := by omega
          have hkm : k < V.m.length := by have := HN.out; omega
          obtain ⟨ad, hA, c1, c2, c3, c4⟩ := HD.out.v.r.m.at_ (Below.refl _ _) hkm
          have p0' := p0.trans (show some (Value.slice a.1 a.2.1 a.2.2) = some (Value.slice (some ad) a.2.1 a.2.2) by rw [hA])
          clear hA p0
          generalize V.m[k].1.1 = x1 at *
          generalize V.m[k].1.2 = x2 at *
          generalize V.m[k].2.1 = x3 at *
          generalize V.m[k].2.2 = x4 at *
          clear hkm
          have q := below_one wr (.cells #[.int .i64 x1, .int .i64 x2] 32)
          have E1 := Lib.hid (HD.out.below q)
          have X1 := Lib.hid (box_new wr x1 x2)
          obtain ⟨r0, r1, r2, r3, r4⟩ := vbox_cells E1.out.v.x
          obtain ⟨i0, i1⟩ := box_cells X1.out
          clear q
          go_wp2_with fail
          clear p0' p1 p2 p3 p4 r0 r1 r2 r3 r4 i0 i1 c1 c2 c3 c4 HD
          generalize wr.alloc (.cells #[.int .i64 x1, .int .i64 x2] 32) = wa at *
          obtain ⟨g3, hg3⟩ : ∃ g, g = wr.heap.size := ⟨_, rfl⟩
          rw [← hg3] at X1
          rw [← hg3]
          clear hg3
          (with_reducible refine (status_any _ V x1 x2 wa E1.out.v.at_ HLn.out).mono ?_)
          rintro ea wb ⟨rfl, hb⟩
          have E2 := Lib.hid (E1.out.below hb)
          have X2 := Lib.hid (box_below X1.out hb)
          clear hb E1 X1
          obtain ⟨n1, hn2, hn3⟩ := HRa.out (x1, x2)
          have HSt : Hid (statV V.m (x1, x2) = .tuple #[.int .u8 n1, .bool (Agr.isMem V.m (x1, x2))]) := Lib.hid (by unfold statV; rw [hn2])
          rw [HSt.out]
          have HSn := Lib.hid hn2
          clear hn2 HSt
          generalize Agr.isMem V.m (x1, x2) = im2 at *
          obtain ⟨p0, p1, p2, p3, p4⟩ := vbox_cells E2.out.v.x
          obtain ⟨i0, i1⟩ := box_cells X2.out
          go_wp2_with fail
          clear p0 p1 p2 p3 p4 i0 i1
          (with_reducible refine (reached_any _ V x1 x2 wb E2.out.v.at_ HV.out).mono ?_)
          rintro eb wc ⟨rfl, hb⟩
          have E3 := Lib.hid (E2.out.below hb)
          have X3 := Lib.hid (box_below X2.out hb)
          clear hb E2 X2
          have HRx : Hid (∀ r, r = Agr.reachedB V.m V.r (x1, x2) → r = Agr.reachedB V.m V.r (x1, x2)) := Lib.hid fun _ h => h
          obtain ⟨rb, hrb⟩ : ∃ rb, rb = Agr.reachedB V.m V.r (x1, x2) := ⟨_, rfl⟩
          rw [← hrb]
          have HRb := Lib.hid hrb
          clear hrb HRx
          rcases rb with _ | _
          · go_wp2_with fail
            go_roundw
            case rel => exact ⟨k + 1, by go_num, by omega, E3⟩
            case measure => simp [intOf]; omega
          · go_wp2_with fail
            (with_reducible refine (rank_any n1 hn3 wc).mono ?_)
            rintro ec we ⟨rfl, hb⟩
            have E4 := Lib.hid (E3.out.below hb)
            have X4 := Lib.hid (box_below X3.out hb)
            clear hb E3 X3
            have hd4 : decide ((3 : Int) < rnk n1) = true := by rw [rnk_le, ← HSn.out]; exact decide_eq_true (HN0.out (x1, x2) HRb.out.symm)
            go_wp2_with fail
            go_roundw
            case rel => exact ⟨k + 1, by go_num, by omega, E4⟩
            case measure => simp [intOf]; omega
        · have hd : decide (k < a.2.1) = false := decide_eq_false hlt
          go_wp2_with fail
          go_ret
          exact ⟨rfl, by rw [← HB1.out]; exact HD.out.b⟩
    · have HLv : Hid (leadV (some (y1, y2)) = .tuple #[.agg #[.int .i64 y1, .int .i64 y2], .bool true]) := Lib.hid rfl
      rw [HLv.out]
      have HB := Lib.hid (HBest.out (y1, y2) rfl)
      clear HLv HBest HNone
      have q5 := below_one w4 (.cells #[.int .i64 y1, .int .i64 y2] 32)
      have D5 : Hid (Lds w b1 g w4.heap.size a b c d e V y1 y2 (w4.alloc (.cells #[.int .i64 y1, .int .i64 y2] 32))) := Lib.hid ⟨G4.out.below q5, box_new w4 y1 y2, B4.out.trans (q5.mono hle), Nat.le_trans hle q5.size⟩
      obtain ⟨p0, p1, p2, p3, p4⟩ := vbox_cells D5.out.v.x
      obtain ⟨i0, i1⟩ := box_cells D5.out.y
      clear q5 G4 B4 hle
      go_wp2_with fail
      clear p0 p1 p2 p3 p4 i0 i1
      generalize w4.alloc (.cells #[.int .i64 y1, .int .i64 y2] 32) = w5 at *
      obtain ⟨g2, hg2⟩ : ∃ g, g = w4.heap.size := ⟨_, rfl⟩
      rw [← hg2] at D5
      rw [← hg2]
      clear hg2
      (with_reducible refine (status_any _ V y1 y2 w5 D5.out.v.at_ HLn.out).mono ?_)
      rintro e6 w6 ⟨rfl, hb⟩
      have D6 := Lib.hid (D5.out.below hb)
      clear hb D5
      obtain ⟨n0, hn0, hn1⟩ := HRa.out (y1, y2)
      have hmem : Agr.isMem V.m (y1, y2) = true := by have h := HB.out.is; unfold Agr.reachedB at h; rw [Bool.and_eq_true] at h; exact h.1
      have HSt : Hid (statV V.m (y1, y2) = .tuple #[.int .u8 n0, .bool true]) := Lib.hid (by unfold statV; rw [hmem, hn0])
      have HB2 : Hid (Agr.rk n0 ≠ 0 ∧ ∀ z, Agr.reachedB V.m V.r z = true → Agr.rk (Agr.st V.m z) ≠ 0 → Agr.rk n0 < Agr.rk (Agr.st V.m z) ∨ Agr.rk n0 = Agr.rk (Agr.st V.m z) ∧ ¬ Sets.lt z (y1, y2)) := Lib.hid (by rw [← hn0]; exact ⟨HB.out.rank, HB.out.best⟩)
      have HRd := Lib.hid HB.out.is
      clear hmem HB
      rw [HSt.out]
      have hn1' := hn1
      clear hn0 HSt
      obtain ⟨p0, p1, p2, p3, p4⟩ := vbox_cells D6.out.v.x
      obtain ⟨i0, i1⟩ := box_cells D6.out.y
      go_wp2_with fail
      clear p0 p1 p2 p3 p4 i0 i1
      (with_reducible refine (reached_any _ V y1 y2 w6 D6.out.v.at_ HV.out).mono ?_)
      rw [HRd.out]
      rintro e7 w7 ⟨rfl, hb⟩
      have D7 := Lib.hid (D6.out.below hb)
      clear hb D6 HRd
      go_wp2_with fail
      (with_reducible refine (rank_any n0 hn1 w7).mono ?_)
      rintro e8 w8 ⟨rfl, hb⟩
      have D8 := Lib.hid (D7.out.below hb)
      have hd8 : decide ((3 : Int) < rnk n0) = false := by rw [rnk_le]; exact decide_eq_false HB2.out.1
      clear hb D7
      obtain ⟨p0, p1, p2, p3, p4⟩ := vbox_cells D8.out.v.x
      go_wp2_with fail
      clear p0 p1 p2 p3 p4 hd8
      have hn := rcs_len D8.out.v.r.m
      have HN := Lib.hid hn
      have hnl : a.2.1 ≤ 100000 := by rw [hn]; exact HLn.out
      clear hn
      go_loopw [8] (fun s8 wr => ∃ k : Nat, s8 = .int .i64 k ∧ k ≤ a.2.1 ∧ Hid (Lds w b1 g g2 a b c d e V y1 y2 wr)) (fun s8 _ => a.2.1 - (intOf s8).toNat)
      case atStart => exact ⟨0, rfl, by omega, D8⟩
      case round =>
        obtain ⟨k, rfl, hk, HD⟩ := hrel
        rename World => wr
        clear D8
        obtain ⟨p0, p1, p2, p3, p4⟩ := vbox_cells HD.out.v.x
        by_cases hlt : k < a.2.1
        · have hd : decide (k < a.2.1) = true := decide_eq_true hlt
          have i3 : (0 : Int) ≤ (k : Int) := by omega
          have i4 : (k : Int) < (a.2.1 : Int) := by omega
          have hkm : k < V.m.length := by have := HN.out; omega
          obtain ⟨ad, hA, c1, c2, c3, c4⟩ := HD.out.v.r.m.at_ (Below.refl _ _) hkm
          have p0' := p0.trans (show some (Value.slice a.1 a.2.1 a.2.2) = some (Value.slice (some ad) a.2.1 a.2.2) by rw [hA])
          clear hA p0
          generalize V.m[k].1.1 = x1 at *
          generalize V.m[k].1.2 = x2 at *
          generalize V.m[k].2.1 = x3 at *
          generalize V.m[k].2.2 = x4 at *
          clear hkm
          have q := below_one wr (.cells #[.int .i64 x1, .int .i64 x2] 32)
          have E1 := Lib.hid (HD.out.below q)
          have X1 := Lib.hid (box_new wr x1 x2)
          obtain ⟨r0, r1, r2, r3, r4⟩ := vbox_cells E1.out.v.x
          obtain ⟨i0, i1⟩ := box_cells X1.out
          clear q
          go_wp2_with fail
          clear p0' p1 p2 p3 p4 r0 r1 r2 r3 r4 i0 i1 c1 c2 c3 c4 HD
          generalize wr.alloc (.cells #[.int .i64 x1, .int .i64 x2] 32) = wa at *
          obtain ⟨g3, hg3⟩ : ∃ g, g = wr.heap.size := ⟨_, rfl⟩
          rw [← hg3] at X1
          rw [← hg3]
          clear hg3
          (with_reducible refine (status_any _ V x1 x2 wa E1.out.v.at_ HLn.out).mono ?_)
          rintro ea wb ⟨rfl, hb⟩
          have E2 := Lib.hid (E1.out.below hb)
          have X2 := Lib.hid (box_below X1.out hb)
          clear hb E1 X1
          obtain ⟨n1, hn2, hn3⟩ := HRa.out (x1, x2)
          have HSt : Hid (statV V.m (x1, x2) = .tuple #[.int .u8 n1, .bool (Agr.isMem V.m (x1, x2))]) := Lib.hid (by unfold statV; rw [hn2])
          rw [HSt.out]
          have HSn := Lib.hid hn2
          clear hn2 HSt
          generalize Agr.isMem V.m (x1, x2) = im2 at *
          obtain ⟨p0, p1, p2, p3, p4⟩ := vbox_cells E2.out.v.x
          obtain ⟨i0, i1⟩ := box_cells X2.out
          go_wp2_with fail
          clear p0 p1 p2 p3 p4 i0 i1
          (with_reducible refine (reached_any _ V x1 x2 wb E2.out.v.at_ HV.out).mono ?_)
          rintro eb wc ⟨rfl, hb⟩
          have E3 := Lib.hid (E2.out.below hb)
          have X3 := Lib.hid (box_below X2.out hb)
          clear hb E2 X2
          have HRx : Hid (∀ r, r = Agr.reachedB V.m V.r (x1, x2) → r = Agr.reachedB V.m V.r (x1, x2)) := Lib.hid fun _ h => h
          obtain ⟨rb, hrb⟩ : ∃ rb, rb = Agr.reachedB V.m V.r (x1, x2) := ⟨_, rfl⟩
          rw [← hrb]
          have HRb := Lib.hid hrb
          clear hrb HRx
          rcases rb with _ | _
          · go_wp2_with fail
            go_roundw
            case rel => exact ⟨k + 1, by go_num, by omega, E3⟩
            case measure => simp [intOf]; omega
          · go_wp2_with fail
            (with_reducible refine (rank_any n1 hn3 wc).mono ?_)
            rintro ec we ⟨rfl, hb⟩
            have E4 := Lib.hid (E3.out.below hb)
            have X4 := Lib.hid (box_below X3.out hb)
            clear hb E3 X3
            by_cases hk0 : Agr.rk n1 = 0
            · have hd4 : decide ((3 : Int) < rnk n1) = true := by rw [rnk_le]; exact decide_eq_true hk0
              go_wp2_with fail
              go_roundw
              case rel => exact ⟨k + 1, by go_num, by omega, E4⟩
              case measure => simp [intOf]; omega
            · have hd4 : decide ((3 : Int) < rnk n1) = false := by rw [rnk_le]; exact decide_eq_false hk0
              have hbs := HB2.out.2 (x1, x2) HRb.out.symm (by rw [HSn.out]; exact hk0)
              rw [HSn.out] at hbs
              have hlt1 : decide (rnk n1 < rnk n0) = false := by rw [rnk_some hk0, rnk_some HB2.out.1]; exact decide_eq_false (by omega)
              have HBs := Lib.hid hbs
              have Hk0 := Lib.hid hk0
              clear hbs hk0
              go_wp2_with fail
              (with_reducible refine (rank_any n1 hn3 _).mono ?_)
              rintro ed0 wd0 ⟨rfl, hb⟩
              have F0 := Lib.hid (E4.out.below hb)
              have Y0 := Lib.hid (box_below X4.out hb)
              clear hb
              go_wp2_with fail
              (with_reducible refine (rank_any n0 hn1 _).mono ?_)
              rintro ed1 wd1 ⟨rfl, hb⟩
              have F1 := Lib.hid (F0.out.below hb)
              have Y1 := Lib.hid (box_below Y0.out hb)
              clear hb
              go_wp2_with fail
              (with_reducible refine (rank_any n1 hn3 _).mono ?_)
              rintro ed2 wd2 ⟨rfl, hb⟩
              have F2 := Lib.hid (F1.out.below hb)
              have Y2 := Lib.hid (box_below Y1.out hb)
              clear hb
              go_wp2_with fail
              (with_reducible refine (rank_any n0 hn1 _).mono ?_)
              rintro ed3 wd3 ⟨rfl, hb⟩
              have F3 := Lib.hid (F2.out.below hb)
              have Y3 := Lib.hid (box_below Y2.out hb)
              clear hb
              by_cases hq : rnk n1 = rnk n0
              · have hq2 : (rnk n1 == rnk n0) = true := by simpa using hq
                have hls : lss x1 x2 y1 y2 = false := (lss_not (x1, x2) (y1, y2)).2 (by
                  rw [rnk_some Hk0.out, rnk_some HB2.out.1] at hq
                  rcases HBs.out with h | h
                  · omega
                  · exact h.2)
                have HLs := Lib.hid hls
                obtain ⟨i0, i1⟩ := box_cells Y3.out
                obtain ⟨j0, j1⟩ := box_cells F3.out.y
                clear hq hls
                go_wp2_with fail
                clear i0 i1 j0 j1
                (with_reducible refine (less_any x1 x2 y1 y2 wd3).mono ?_)
                rw [HLs.out]
                rintro ee wz ⟨rfl, hb⟩
                have F4 := Lib.hid (F3.out.below hb)
                clear hb
                go_wp2_with fail
                go_roundw
                case rel => exact ⟨k + 1, by go_num, by omega, F4⟩
                case measure => simp [intOf]; omega
              · have hq2 : (rnk n1 == rnk n0) = false := by simpa using hq
                clear hq
                go_wp2_with fail
                go_roundw
                case rel => exact ⟨k + 1, by go_num, by omega, F3⟩
                case measure => simp [intOf]; omega
        · have hd : decide (k < a.2.1) = false := decide_eq_false hlt
          go_wp2_with fail
          go_ret
          exact ⟨rfl, by rw [← HB1.out]; exact HD.out.b⟩
end Go.Proofs.YtloghkiabgnpnaaDoor
