/-
  Walks over the document's own comparison of lists. No statement is proved in this text; it holds for every input that its premises let by.
-/
import Derived.Test.YtciolhpkhblnbaaJoin
namespace Go.Proofs.Ytciolhpkhblnbaa
open Go Go.RowKit Ros
theorem same_next {α : Type} {l m : List α} {k : Nat} (h : k < l.length) (h' : k < m.length) (ht : l.take k = m.take k) (he : l[k] = m[k]) : l.take (k + 1) = m.take (k + 1) := by
  rw [List.take_succ_eq_append_getElem h, List.take_succ_eq_append_getElem h', ht, he]
theorem same_not {α : Type} {l m : List α} {k : Nat} (h : k < l.length) (h' : k < m.length) (he : l[k] ≠ m[k]) : l ≠ m := fun e => by
  subst e
  exact he rfl
set_option maxHeartbeats 4000000 in
theorem sameI_any (v u : Value) (l m : List Id2) (w : World) (h : Ids w v l) (h2 : Ids w u m) (hl : l.length ≤ 100000) (hm : m.length ≤ 100000) :
    Calls Try.prog 29 #[v, u] w fun e w' => e = .returned (.bool (decide (l = m))) ∧ Below w.heap.size w w' := by
  have HI := Lib.hid h
  have HJ := Lib.hid h2
  obtain ⟨A, c, rfl, hz⟩ := h
  obtain ⟨B, d, rfl, hy⟩ := h2
  clear hz hy
  by_cases hlm : l.length = m.length
  · have hne : ((m.length : Int) != (m.length : Int)) = false := by simp
    rw [hlm]
    rw [hlm] at HI
    go_enter Try.func29, Try.ntmps29
    go_wp2_with fail
    go_loopw [5] (fun s5 wr => ∃ k : Nat, k ≤ m.length ∧ s5 = .int .i64 k ∧ Hid (l.take k = m.take k) ∧ Hid (Below w.heap.size w wr)) (fun s5 _ => m.length - (intOf s5).toNat)
    case atStart => exact ⟨0, by omega, rfl, Lib.hid rfl, Lib.hid (Below.refl _ _)⟩
    case round =>
      obtain ⟨k, hkl, rfl, HT, HW⟩ := hrel
      have i3 : (0 : Int) ≤ (k : Int) := by omega
      by_cases hlt : k < m.length
      · have hlt2 : k < l.length := by omega
        have hd : decide ((k : Int) < (m.length : Int)) = true := by simp; omega
        have i4 : (k : Int) < (m.length : Int) := by omega
        obtain ⟨ad, rfl, c1, c2⟩ := HI.out.at_ HW.out hlt2
        obtain ⟨ae, rfl, d1, d2⟩ := HJ.out.at_ HW.out hlt
        have HN := Lib.hid fun h : l[k] = m[k] => same_next hlt2 hlt HT.out h
        have HX := Lib.hid fun h : l[k] ≠ m[k] => same_not hlt2 hlt h
        by_cases e0 : l[k].1 = m[k].1
        · by_cases e1 : l[k].2 = m[k].2
          · have HF := Lib.hid (HN.out (Prod.ext e0 e1))
            rw [e0] at c1
            rw [e1] at c2
            clear e0 e1 HN HX
            generalize m[k].1 = p at *
            generalize m[k].2 = q at *
            go_wp2_with fail
            go_quiet (fail)
            go_wp2_with fail
            go_roundw
            case rel => exact ⟨k + 1, by omega, by go_num, HF, Lib.hid (below_drewN HW.out)⟩
            case measure => simp [intOf]; omega
          · have HF := Lib.hid (decide_eq_false (HX.out fun h => e1 (by rw [h])))
            rw [e0] at c1
            have b1 : (l[k].2 == m[k].2) = false := beq_eq_false_iff_ne.2 e1
            clear e0 e1 HN HX
            generalize m[k].1 = p at *
            generalize m[k].2 = q at *
            generalize l[k].2 = q2 at *
            go_wp2_with fail
            go_quiet (fail)
            go_wp2_with fail
            go_ret
            exact ⟨ret_bool HF.out.symm, below_drewN HW.out⟩
        · have HF := Lib.hid (decide_eq_false (HX.out fun h => e0 (by rw [h])))
          have b0 : (l[k].1 == m[k].1) = false := beq_eq_false_iff_ne.2 e0
          clear e0 HN HX
          generalize m[k].1 = p at *
          generalize l[k].1 = p2 at *
          generalize m[k].2 = q at *
          generalize l[k].2 = q2 at *
          go_wp2_with fail
          go_quiet (fail)
          go_wp2_with fail
          go_ret
          exact ⟨ret_bool HF.out.symm, below_drewN HW.out⟩
      · have hd : decide ((k : Int) < (m.length : Int)) = false := by simp; omega
        have HF := Lib.hid (show decide (l = m) = true by
          have := HT.out
          rw [List.take_of_length_le (by omega), List.take_of_length_le (by omega)] at this
          exact decide_eq_true this)
        go_wp2_with fail
        go_ret
        exact ⟨ret_bool HF.out.symm, HW.out⟩
  · have hne : ((l.length : Int) != (m.length : Int)) = true := by simp; omega
    have HF := Lib.hid (show decide (l = m) = false by
      apply decide_eq_false
      rintro rfl
      exact hlm rfl)
    go_enter Try.func29, Try.ntmps29
    go_wp2_with fail
    go_ret
    exact ⟨ret_bool HF.out.symm, Below.refl _ _⟩
set_option maxHeartbeats 4000000 in
theorem sameM_any (v u : Value) (l m : List Mm) (w : World) (h : Ms w v l) (h2 : Ms w u m) (hl : l.length ≤ 100000) (hm : m.length ≤ 100000) :
    Calls Try.prog 28 #[v, u] w fun e w' => e = .returned (.bool (decide (l = m))) ∧ Below w.heap.size w w' := by
  have HI := Lib.hid h
  have HJ := Lib.hid h2
  obtain ⟨A, c, rfl, hz⟩ := h
  obtain ⟨B, d, rfl, hy⟩ := h2
  clear hz hy
  by_cases hlm : l.length = m.length
  · have hne : ((m.length : Int) != (m.length : Int)) = false := by simp
    rw [hlm]
    rw [hlm] at HI
    go_enter Try.func28, Try.ntmps28
    go_wp2_with fail
    go_loopw [5] (fun s5 wr => ∃ k : Nat, k ≤ m.length ∧ s5 = .int .i64 k ∧ Hid (l.take k = m.take k) ∧ Hid (Below w.heap.size w wr)) (fun s5 _ => m.length - (intOf s5).toNat)
    case atStart => exact ⟨0, by omega, rfl, Lib.hid rfl, Lib.hid (Below.refl _ _)⟩
    case round =>
      obtain ⟨k, hkl, rfl, HT, HW⟩ := hrel
      have i3 : (0 : Int) ≤ (k : Int) := by omega
      by_cases hlt : k < m.length
      · have hlt2 : k < l.length := by omega
        have hd : decide ((k : Int) < (m.length : Int)) = true := by simp; omega
        have i4 : (k : Int) < (m.length : Int) := by omega
        obtain ⟨ad, rfl, c1, c2, c3, c4⟩ := Ms.at_ HI.out HW.out hlt2
        obtain ⟨ae, rfl, d1, d2, d3, d4⟩ := Ms.at_ HJ.out HW.out hlt
        have HN := Lib.hid fun h : l[k] = m[k] => same_next hlt2 hlt HT.out h
        have HX := Lib.hid fun h : l[k] ≠ m[k] => same_not hlt2 hlt h
        by_cases e0 : l[k].1.1 = m[k].1.1
        · by_cases e1 : l[k].1.2 = m[k].1.2
          · by_cases e2 : l[k].2.1 = m[k].2.1
            · by_cases e3 : l[k].2.2 = m[k].2.2
              · have HF := Lib.hid (HN.out (Prod.ext (Prod.ext e0 e1) (Prod.ext e2 e3)))
                rw [e0] at c1
                rw [e1] at c2
                rw [e2] at c3
                rw [e3] at c4
                clear e0 e1 e2 e3 HN HX
                generalize m[k].1.1 = p at *
                generalize m[k].1.2 = q at *
                generalize m[k].2.1 = r at *
                generalize m[k].2.2 = s at *
                go_wp2_with fail
                go_quiet (fail)
                go_wp2_with fail
                go_roundw
                case rel => exact ⟨k + 1, by omega, by go_num, HF, Lib.hid (below_drewN HW.out)⟩
                case measure => simp [intOf]; omega
              · have HF := Lib.hid (decide_eq_false (HX.out fun h => e3 (by rw [h])))
                rw [e0] at c1
                rw [e1] at c2
                rw [e2] at c3
                have b3 : (l[k].2.2 == m[k].2.2) = false := beq_eq_false_iff_ne.2 e3
                clear e0 e1 e2 e3 HN HX
                generalize m[k].1.1 = p at *
                generalize m[k].1.2 = q at *
                generalize m[k].2.1 = r at *
                generalize m[k].2.2 = s at *
                generalize l[k].2.2 = s2 at *
                go_wp2_with fail
                go_quiet (fail)
                go_wp2_with fail
                go_ret
                exact ⟨ret_bool HF.out.symm, below_drewN HW.out⟩
            · have HF := Lib.hid (decide_eq_false (HX.out fun h => e2 (by rw [h])))
              rw [e0] at c1
              rw [e1] at c2
              have b2 : (l[k].2.1 == m[k].2.1) = false := beq_eq_false_iff_ne.2 e2
              clear e0 e1 e2 HN HX
              generalize m[k].1.1 = p at *
              generalize m[k].1.2 = q at *
              generalize m[k].2.1 = r at *
              generalize l[k].2.1 = r2 at *
              generalize m[k].2.2 = s at *
              generalize l[k].2.2 = s2 at *
              go_wp2_with fail
              go_quiet (fail)
              go_wp2_with fail
              go_ret
              exact ⟨ret_bool HF.out.symm, below_drewN HW.out⟩
          · have HF := Lib.hid (decide_eq_false (HX.out fun h => e1 (by rw [h])))
            rw [e0] at c1
            have b1 : (l[k].1.2 == m[k].1.2) = false := beq_eq_false_iff_ne.2 e1
            clear e0 e1 HN HX
            generalize m[k].1.1 = p at *
            generalize m[k].1.2 = q at *
            generalize l[k].1.2 = q2 at *
            generalize m[k].2.1 = r at *
            generalize l[k].2.1 = r2 at *
            generalize m[k].2.2 = s at *
            generalize l[k].2.2 = s2 at *
            go_wp2_with fail
            go_quiet (fail)
            go_wp2_with fail
            go_ret
            exact ⟨ret_bool HF.out.symm, below_drewN HW.out⟩
        · have HF := Lib.hid (decide_eq_false (HX.out fun h => e0 (by rw [h])))
          have b0 : (l[k].1.1 == m[k].1.1) = false := beq_eq_false_iff_ne.2 e0
          clear e0 HN HX
          generalize m[k].1.1 = p at *
          generalize l[k].1.1 = p2 at *
          generalize m[k].1.2 = q at *
          generalize l[k].1.2 = q2 at *
          generalize m[k].2.1 = r at *
          generalize l[k].2.1 = r2 at *
          generalize m[k].2.2 = s at *
          generalize l[k].2.2 = s2 at *
          go_wp2_with fail
          go_quiet (fail)
          go_wp2_with fail
          go_ret
          exact ⟨ret_bool HF.out.symm, below_drewN HW.out⟩
      · have hd : decide ((k : Int) < (m.length : Int)) = false := by simp; omega
        have HF := Lib.hid (show decide (l = m) = true by
          have := HT.out
          rw [List.take_of_length_le (by omega), List.take_of_length_le (by omega)] at this
          exact decide_eq_true this)
        go_wp2_with fail
        go_ret
        exact ⟨ret_bool HF.out.symm, HW.out⟩
  · have hne : ((l.length : Int) != (m.length : Int)) = true := by simp; omega
    have HF := Lib.hid (show decide (l = m) = false by
      apply decide_eq_false
      rintro rfl
      exact hlm rfl)
    go_enter Try.func28, Try.ntmps28
    go_wp2_with fail
    go_ret
    exact ⟨ret_bool HF.out.symm, Below.refl _ _⟩
end Go.Proofs.Ytciolhpkhblnbaa
