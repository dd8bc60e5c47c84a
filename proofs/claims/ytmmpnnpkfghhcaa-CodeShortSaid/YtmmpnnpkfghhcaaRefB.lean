/-
  Walks over the document's own answers for layer 2, continued: lists. No statement is proved in this text; it holds for every input that its premises let by.
-/
import Derived.Test.YtmmpnnpkfghhcaaRefA
namespace Go.Proofs.Ytmmpnnpkfghhcaa
open Go.RowKit
theorem below_drewN {B n : Nat} {w w1 : World} (h : Below B w w1) : Below B w (w1.drewN n) := ⟨h.os, h.tape, h.output, h.size, h.block⟩
theorem lss_lt {a i b j : Int} (h : a < b) : lss a i b j = true := by simp [lss]; omega
theorem lss_gt {a i b j : Int} (h : b < a) : lss a i b j = false := by simp [lss]; omega
theorem lss_eq {a i b j : Int} (h : a = b) (k : i < j) : lss a i b j = true := by simp [lss]; omega
theorem lss_ne {a i b j : Int} (h : a = b) (k : j ≤ i) : lss a i b j = false := by simp [lss]; omega
set_option maxHeartbeats 1000000 in
set_option maxRecDepth 100000 in
theorem refRises_any (v : Value) (l : List (Int × Int)) (w : World) (h : Ids w v l) (hl : l.length ≤ 100000) :
    Calls Try.prog 27 #[v] w fun e w' => e = .returned (.bool (allVid l && risesB l)) ∧ Below w.heap.size w w' := by
  obtain ⟨A, c, rfl, hz⟩ := id h
  clear hz
  have HI := Lib.hid h
  clear h
  go_enter Try.func27, Try.ntmps27
  go_wp2
  go_loopw [3] (fun s3 wr => ∃ k : Nat, k ≤ l.length ∧ s3 = .int .i64 k ∧ allVid (l.take k) = true ∧ risesB (l.take k) = true ∧ Below w.heap.size w wr) (fun s3 _ => l.length - (intOf s3).toNat)
  case atStart => exact ⟨0, by omega, rfl, rfl, rfl, Below.refl _ _⟩
  case round =>
    obtain ⟨k, hkl, rfl, hr, hr2, hw⟩ := hrel
    have HR := Lib.hid hr
    have HR2 := Lib.hid hr2
    have HW := Lib.hid hw
    clear hr hr2 hw
    by_cases hlt : k < l.length
    · have hd : decide ((k : Int) < (l.length : Int)) = true := by simp; omega
      obtain ⟨ad, rfl, c1, c2⟩ := HI.out.at_ HW.out hlt
      cases hv : vid l[k].1 l[k].2
      · have HN := Lib.hid (allVid_not hlt hv)
        have HV := Lib.hid hv
        clear hv
        go_wp2_with fail
        refine (may_any _ _ _).mono ?_
        rintro e w1 ⟨rfl, hb1⟩
        rw [HV.out]
        have HB := Lib.hid (below_after HW.out hb1 (Nat.le_refl _))
        clear hb1
        go_wp2_with fail
        go_ret
        exact ⟨ret_bool (by rw [HN.out]; rfl), HB.out⟩
      · have HN := Lib.hid (show allVid (l.take (k + 1)) = true by rw [allVid_take hlt, HR.out, hv]; rfl)
        have HV := Lib.hid hv
        clear hv
        by_cases h0 : 0 < k
        · obtain ⟨j, rfl⟩ : ∃ j, k = j + 1 := ⟨k - 1, by omega⟩
          have HT := Lib.hid (risesB_take hlt)
          have HF := Lib.hid fun h => risesB_not hlt h
          go_wp2_with fail
          refine (may_any _ _ _).mono ?_
          rintro e w1 ⟨rfl, hb1⟩
          rw [HV.out]
          have HB := Lib.hid (below_after HW.out hb1 (Nat.le_refl _))
          clear hb1 c1 c2
          have c1 := cell1 HI.out HB.out hlt
          have c2 := cell2 HI.out HB.out hlt
          have c3 := cell1 HI.out HB.out (k := j) (by omega)
          have c4 := cell2 HI.out HB.out (k := j) (by omega)
          have i1 : IntKind.i64.wrap ((j : Int) + 1 - 1) = (j : Int) := by rw [IntWalk.i64_in _ ⟨by omega, by omega⟩]; omega
          have i2 : IntKind.i64.wrap (j : Int) = (j : Int) := IntWalk.i64_in _ ⟨by omega, by omega⟩
          have i3 : (0 : Int) ≤ (j : Int) := by omega
          have i4 : (j : Int) < (l.length : Int) := by omega
          have i5 : (0 : Int) ≤ (j : Int) + 1 := by omega
          have i6 : (j : Int) + 1 < (l.length : Int) := by omega
          have i7 : ((j : Int) + 1).toNat = j + 1 := by omega
          have i8 : decide ((0 : Int) < (j : Int) + 1) = true := decide_eq_true (by omega)
          have HEQ := Lib.hid (Eq.refl (lss l[j].1 l[j].2 l[j+1].1 l[j+1].2))
          generalize l[j].1 = a at *
          generalize l[j].2 = i at *
          generalize l[j+1].1 = b at *
          generalize l[j+1].2 = m at *
          rcases Int.lt_trichotomy a b with h | h | h
          · have HE := Lib.hid (lss_lt (i := i) (j := m) h)
            have d1 : decide (b < a) = false := by simp; omega
            have d2 : (a == b) = false := by simp; omega
            clear h
            go_wp2_with fail
            go_quiet (fail)
            go_wp2_with fail
            go_roundw
            case rel => exact ⟨j + 2, by omega, by go_num, HN.out, by rw [HT.out, HR2.out, HE.out]; rfl, below_drewN HB.out⟩
            case measure => simp [intOf]; omega
          · have d1 : decide (b < a) = false := by simp; omega
            have d2 : (a == b) = true := by simp; omega
            by_cases hm : i < m
            · have HE := Lib.hid (lss_eq h hm)
              have d3 : decide (m ≤ i) = false := by simp; omega
              clear h
              go_wp2_with fail
              go_quiet (fail)
              go_wp2_with fail
              go_roundw
              case rel => exact ⟨j + 2, by omega, by go_num, HN.out, by rw [HT.out, HR2.out, HE.out]; rfl, below_drewN HB.out⟩
              case measure => simp [intOf]; omega
            · have HE := Lib.hid (lss_ne h (Int.not_lt.1 hm))
              have d3 : decide (m ≤ i) = true := by simp; omega
              clear h
              go_wp2_with fail
              go_quiet (fail)
              go_wp2_with fail
              go_ret
              exact ⟨ret_bool (by rw [HF.out HE.out, Bool.and_false]), below_drewN HB.out⟩
          · have HE := Lib.hid (lss_gt (i := i) (j := m) h)
            have d1 : decide (b < a) = true := by simp; omega
            clear h
            go_wp2_with fail
            go_quiet (fail)
            go_wp2_with fail
            go_ret
            exact ⟨ret_bool (by rw [HF.out HE.out, Bool.and_false]), below_drewN HB.out⟩
        · have HO := Lib.hid (show risesB (l.take (k + 1)) = true by rw [show k + 1 = 1 by omega]; exact risesB_one l)
          have i8 : decide ((0 : Int) < (k : Int)) = false := by simp; omega
          go_wp2_with fail
          refine (may_any _ _ _).mono ?_
          rintro e w1 ⟨rfl, hb1⟩
          rw [HV.out]
          have HB := Lib.hid (below_after HW.out hb1 (Nat.le_refl _))
          clear hb1 c1 c2
          go_wp2_with fail
          go_quiet (fail)
          go_wp2_with fail
          go_roundw
          case rel => exact ⟨k + 1, by omega, by go_num, HN.out, HO.out, below_drewN HB.out⟩
          case measure => simp [intOf]; omega
    · obtain rfl : k = l.length := by omega
      have hd : decide ((l.length : Int) < (l.length : Int)) = false := by simp
      go_wp2_with fail
      go_ret
      exact ⟨ret_bool (by have h1 := HR.out; have h2 := HR2.out; rw [List.take_length] at h1 h2; rw [h1, h2]; rfl), HW.out⟩
end Go.Proofs.Ytmmpnnpkfghhcaa
