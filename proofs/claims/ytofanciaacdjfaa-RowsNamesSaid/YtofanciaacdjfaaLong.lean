/-
  Walks over the statements' own questions: are rows more than a statement goes over; are two lists of rows the same; is an ID in a list. No statement is proved in this text; it holds for every input that its premises let by.
-/
import Derived.Test.YtofanciaacdjfaaGets
namespace Go.Proofs.Ytofanciaacdjfaa
open Go Go.RowKit Sets RowSets
/-- Are rows more than a statement goes over? -/
def longB (l : List Row) : Bool := decide (80 < l.length) || l.any fun r => decide (80 < r.2.2.length)
theorem longB_len {l : List Row} (h : longB l = false) : l.length ≤ 80 := by
  unfold longB at h
  have := (Bool.or_eq_false_iff.1 h).1
  have := of_decide_eq_false this
  omega
theorem longB_nots {l : List Row} (h : longB l = false) : ∀ r ∈ l, r.2.2.length ≤ 80 := by
  unfold longB at h
  intro r hr
  have := List.any_eq_false.1 (Bool.or_eq_false_iff.1 h).2 r hr
  simp at this
  exact this
theorem long_more {l : List Row} (h : 80 < l.length) : longB l = true := by
  unfold longB
  rw [decide_eq_true h, Bool.true_or]
theorem long_one {l : List Row} {k : Nat} (hk : k < l.length) (h : 80 < l[k].2.2.length) : longB l = true := by
  unfold longB
  rw [Bool.or_eq_true]
  exact .inr (List.any_eq_true.2 ⟨l[k], List.getElem_mem hk, decide_eq_true h⟩)
theorem long_none {l : List Row} (h : ¬ 80 < l.length) (hn : ∀ r ∈ l, r.2.2.length ≤ 80) : longB l = false := by
  unfold longB
  rw [decide_eq_false h, Bool.false_or, List.any_eq_false]
  intro r hr
  have := hn r hr
  simp
  exact this
/-- The lengths of rows' lists, as their slices tell them. -/
theorem Reads.lenS {w : World} {q : Raw} {r : Row} (h : Reads w q r) : q.2.2.2.1 = r.2.2.length := by
  obtain ⟨_, _, A, c, hv, _⟩ := h
  unfold slc at hv
  injection hv
set_option maxHeartbeats 1000000 in
theorem long_any (v : Value) (l : List Row) (w : World) (h : RowsAt w v l) :
    Calls Try.prog 11 #[v] w fun e w' => e = .returned (.bool (longB l)) ∧ Below w.heap.size w w' := by
  obtain ⟨qs, h1, h2⟩ := h
  have hlen := h2.len.symm
  have HI := Lib.hid h1
  have HE := Lib.hid h2
  obtain ⟨A, c, rfl, hz⟩ := h1
  clear hz h2
  by_cases h8 : 80 < qs.length
  · have hd : decide ((80 : Int) < (qs.length : Int)) = true := by simp; omega
    have HR := Lib.hid (long_more (l := l) (by omega))
    go_enter Try.func11, Try.ntmps11
    go_wp2_with fail
    go_ret
    exact ⟨ret_bool HR.out.symm, Below.refl _ _⟩
  · have hd0 : decide ((80 : Int) < (qs.length : Int)) = false := by simp; omega
    go_enter Try.func11, Try.ntmps11
    go_wp2_with fail
    go_loopw [3] (fun s3 wr => ∃ k : Nat, k ≤ qs.length ∧ s3 = .int .i64 k ∧ Hid (∀ r ∈ l.take k, r.2.2.length ≤ 80) ∧ Hid (Below w.heap.size w wr)) (fun s3 _ => qs.length - (intOf s3).toNat)
    case atStart => exact ⟨0, by omega, rfl, Lib.hid (fun r hr => by simp at hr), Lib.hid (Below.refl _ _)⟩
    case round =>
      obtain ⟨k, hkl, rfl, HT, HW⟩ := hrel
      have i3 : (0 : Int) ≤ (k : Int) := by omega
      by_cases hlt : k < qs.length
      · have hdk : decide ((k : Int) < (qs.length : Int)) = true := by simp; omega
        have i4 : (k : Int) < (qs.length : Int) := by omega
        obtain ⟨ad, rfl, c1, c2, c3, c4⟩ := HI.out.raw HW.out hlt
        have hlt2 : k < l.length := by omega
        have HQ := Lib.hid (HE.out.at_ k hlt hlt2).lenS
        have H1 := Lib.hid fun h => long_one hlt2 h
        have H0 := Lib.hid fun (h : l[k].2.2.length ≤ 80) => (show ∀ r ∈ l.take (k + 1), r.2.2.length ≤ 80 from fun r hr => by
          rw [take_snoc hlt2] at hr
          rcases List.mem_append.1 hr with hr | hr
          · exact HT.out r hr
          · rw [List.mem_singleton.1 hr]; exact h)
        rw [← HQ.out] at H1 H0
        clear HQ c1 c2 c3
        generalize qs[k].2.2.1 = B at *
        generalize qs[k].2.2.2.1 = m at *
        generalize qs[k].2.2.2.2 = d at *
        by_cases hm : 80 < m
        · have hdm : decide ((80 : Int) < (m : Int)) = true := by simp; omega
          have HR := Lib.hid (H1.out hm)
          clear H1 H0
          go_wp2_with fail
          go_ret
          exact ⟨ret_bool HR.out.symm, HW.out⟩
        · have hdm : decide ((80 : Int) < (m : Int)) = false := by simp; omega
          have HF := Lib.hid (H0.out (by omega))
          clear H1 H0
          go_wp2_with fail
          go_roundw
          case rel => exact ⟨k + 1, by omega, by go_num, HF, HW⟩
          case measure => simp [intOf]; omega
      · have hdk : decide ((k : Int) < (qs.length : Int)) = false := by simp; omega
        have HR := Lib.hid (long_none (l := l) (by omega) (by have := HT.out; rwa [List.take_of_length_le (by omega)] at this))
        go_wp2_with fail
        go_ret
        exact ⟨ret_bool HR.out.symm, HW.out⟩
set_option maxHeartbeats 1000000 in
theorem in_any (v : Value) (l : List (Int × Int)) (a i : Int) (w : World) (h : Ids w v l) (hl : l.length ≤ 100000) :
    Calls Try.prog 17 #[v, .agg #[.int .i64 a, .int .i64 i]] w fun e w' => e = .returned (.bool (hasB (a, i) l)) ∧ Below w.heap.size w w' := by
  obtain ⟨A, c, rfl, hz⟩ := id h
  clear hz
  have HI := Lib.hid h
  have HX := Lib.hid (box_new w a i)
  have HB := Lib.hid ((Below.refl w.heap.size w).alloc (Nat.le_refl _) (.cells #[.int .i64 a, .int .i64 i] 23))
  clear h
  go_enter Try.func17, Try.ntmps17
  go_wp2_with fail
  go_loopw [5] (fun s5 wr => ∃ k : Nat, k ≤ l.length ∧ s5 = .int .i64 k ∧ hasB (a, i) (l.take k) = false ∧ Box wr w.heap.size a i ∧ Below w.heap.size w wr) (fun s5 _ => l.length - (intOf s5).toNat)
  case atStart => exact ⟨0, by omega, rfl, hasB_none _ _, HX.out, HB.out⟩
  case round =>
    obtain ⟨k, hkl, rfl, ht, hx, hw⟩ := hrel
    have HW := Lib.hid hw
    have HT := Lib.hid ht
    have HY := Lib.hid hx
    clear hw ht hx
    by_cases hlt : k < l.length
    · have hd : decide ((k : Int) < (l.length : Int)) = true := by simp; omega
      have i3 : (0 : Int) ≤ (k : Int) := by omega
      have i4 : (k : Int) < (l.length : Int) := by omega
      obtain ⟨ad, rfl, c1, c2⟩ := HI.out.at_ HW.out hlt
      obtain ⟨c3, c4⟩ := box_cells HY.out
      have HN := Lib.hid fun e1 e2 => hasB_yes (a := a) (i := i) hlt e1 e2
      have HS := Lib.hid fun hn => hasB_next hlt HT.out hn
      generalize l[k].1 = b at *
      generalize l[k].2 = j at *
      by_cases hab : b = a
      · subst hab
        by_cases hij : j = i
        · subst hij
          have HF := Lib.hid (HN.out rfl rfl)
          clear HN HS
          go_wp2_with fail
          go_quiet (fail)
          go_wp2_with fail
          go_ret
          exact ⟨ret_bool HF.out.symm, below_drewN HW.out⟩
        · have h2 : (j == i) = false := by simpa using hij
          have HF := Lib.hid (HS.out fun h => hij h.2)
          clear HN HS
          go_wp2_with fail
          go_quiet (fail)
          go_wp2_with fail
          go_roundw
          case rel => exact ⟨k + 1, by omega, by go_num, HF.out, box_drewN HY.out, below_drewN HW.out⟩
          case measure => simp [intOf]; omega
      · have h2 : (b == a) = false := by simpa using hab
        have HF := Lib.hid (HS.out fun h => hab h.1)
        clear HN HS
        go_wp2_with fail
        go_quiet (fail)
        go_wp2_with fail
        go_roundw
        case rel => exact ⟨k + 1, by omega, by go_num, HF.out, box_drewN HY.out, below_drewN HW.out⟩
        case measure => simp [intOf]; omega
    · have hd : decide ((k : Int) < (l.length : Int)) = false := by simp; omega
      have HS := Lib.hid (hasB_all (by omega) HT.out)
      go_wp2_with fail
      go_ret
      exact ⟨ret_bool HS.out.symm, HW.out⟩
/-- Lists of one length that are bounded. -/
def Small (l : List Row) : Prop := l.length ≤ 1000 ∧ ∀ r ∈ l, r.2.2.length ≤ 20000
set_option maxHeartbeats 4000000 in
/-- The same rows, wherever they lie, are the same. -/
theorem sameRows_any (v u : Value) (l : List Row) (w : World) (h : RowsAt w v l) (k : RowsAt w u l) (hl : Small l) :
    Calls Try.prog 13 #[v, u] w fun e w' => e = .returned (.bool true) ∧ Below w.heap.size w w' := by
  obtain ⟨qs, h1, h2⟩ := h
  obtain ⟨ps, k1, k2⟩ := k
  have hlen := h2.len.symm
  have hlen2 : ps.length = qs.length := by rw [k2.len, hlen]
  have HI := Lib.hid h1
  have HE := Lib.hid h2
  have HJ := Lib.hid k1
  have HF := Lib.hid k2
  have HN := Lib.hid hl.2
  have hl1 := hl.1
  obtain ⟨A, c, rfl, hz⟩ := h1
  obtain ⟨B, d, rfl, hz2⟩ := k1
  clear hz h2 hz2 k2 hl
  rw [hlen2] at HJ ⊢
  go_enter Try.func13, Try.ntmps13
  go_wp2_with fail
  go_loopw [5] (fun s5 wr => ∃ k : Nat, k ≤ qs.length ∧ s5 = .int .i64 k ∧ Hid (Below w.heap.size w wr)) (fun s5 _ => qs.length - (intOf s5).toNat)
  case atStart => exact ⟨0, by omega, rfl, Lib.hid (Below.refl _ _)⟩
  case round =>
    obtain ⟨k, hkl, rfl, HW⟩ := hrel
    have i3 : (0 : Int) ≤ (k : Int) := by omega
    by_cases hlt : k < qs.length
    · have hdk : decide ((k : Int) < (qs.length : Int)) = true := by simp; omega
      have i4 : (k : Int) < (qs.length : Int) := by omega
      have hlt2 : k < l.length := by omega
      have hlt3 : k < ps.length := by omega
      obtain ⟨ad, rfl, _⟩ := HI.out.raw HW.out hlt
      obtain ⟨ae, rfl, _⟩ := HJ.out.raw HW.out hlt3
      have HR := HE.out.at_ k hlt hlt2
      have HS := HF.out.at_ k hlt3 hlt2
      have HC1 := Lib.hid fun w' (hb : Below w.heap.size w w') => (HI.out.raw hb hlt)
      have HC2 := Lib.hid fun w' (hb : Below w.heap.size w w') => (HJ.out.raw hb hlt3)
      have e1 : ps[k].1.1 = qs[k].1.1 := by rw [HR.1, HS.1]
      have e2 : ps[k].1.2 = qs[k].1.2 := by rw [HR.1, HS.1]
      have e3 : ps[k].2.1 = qs[k].2.1 := by rw [HR.2.1, HS.2.1]
      have HM := Lib.hid (show Ids w (.slice qs[k].2.2.1 qs[k].2.2.2.1 qs[k].2.2.2.2) l[k].2.2 from HR.2.2)
      have HP := Lib.hid (show Ids w (.slice ps[k].2.2.1 ps[k].2.2.2.1 ps[k].2.2.2.2) l[k].2.2 from HS.2.2)
      have HL := Lib.hid (HN.out l[k] (List.getElem_mem hlt2))
      have HB := Lib.hid (show sameB (setOf l[k].2.2) (setOf l[k].2.2) = true from decide_eq_true rfl)
      rw [e1, e2, e3] at HC2
      clear HR HS e1 e2 e3
      generalize qs[k].1.1 = a at *
      generalize qs[k].1.2 = i at *
      generalize qs[k].2.1 = n at *
      generalize qs[k].2.2.1 = C at *
      generalize qs[k].2.2.2.1 = m at *
      generalize qs[k].2.2.2.2 = c' at *
      generalize ps[k].2.2.1 = D at *
      generalize ps[k].2.2.2.1 = m' at *
      generalize ps[k].2.2.2.2 = d' at *
      have HS := Lib.hid fun w' (hb : Below w.heap.size w w') => (show (w'.cell? (ad.add (k * 4)) = some (.int .i64 a) ∧ w'.cell? ⟨(ad.add (k * 4)).block, (ad.add (k * 4)).off + 1, none⟩ = some (.int .i64 i) ∧ w'.cell? ⟨(ad.add (k * 4)).block, (ad.add (k * 4)).off + 2, none⟩ = some (.int .i64 n) ∧ w'.cell? ⟨(ad.add (k * 4)).block, (ad.add (k * 4)).off + 3, none⟩ = some (.slice C m c')) ∧ (w'.cell? (ae.add (k * 4)) = some (.int .i64 a) ∧ w'.cell? ⟨(ae.add (k * 4)).block, (ae.add (k * 4)).off + 1, none⟩ = some (.int .i64 i) ∧ w'.cell? ⟨(ae.add (k * 4)).block, (ae.add (k * 4)).off + 2, none⟩ = some (.int .i64 n) ∧ w'.cell? ⟨(ae.add (k * 4)).block, (ae.add (k * 4)).off + 3, none⟩ = some (.slice D m' d')) ∧ Hid (Below w.heap.size w w') from by
        obtain ⟨x, e, x1, x2, x3, x4⟩ := HC1.out w' hb
        obtain ⟨y, e2, y1, y2, y3, y4⟩ := HC2.out w' hb
        injection e with e
        injection e2 with e2
        subst e e2
        exact ⟨⟨x1, x2, x3, x4⟩, ⟨y1, y2, y3, y4⟩, Lib.hid hb⟩)
      clear HC1 HC2
      go_wp2_with fail
      go_region_held3 (fun w' => (w'.cell? (ad.add (k * 4)) = some (.int .i64 a) ∧ w'.cell? ⟨(ad.add (k * 4)).block, (ad.add (k * 4)).off + 1, none⟩ = some (.int .i64 i) ∧ w'.cell? ⟨(ad.add (k * 4)).block, (ad.add (k * 4)).off + 2, none⟩ = some (.int .i64 n) ∧ w'.cell? ⟨(ad.add (k * 4)).block, (ad.add (k * 4)).off + 3, none⟩ = some (.slice C m c')) ∧ (w'.cell? (ae.add (k * 4)) = some (.int .i64 a) ∧ w'.cell? ⟨(ae.add (k * 4)).block, (ae.add (k * 4)).off + 1, none⟩ = some (.int .i64 i) ∧ w'.cell? ⟨(ae.add (k * 4)).block, (ae.add (k * 4)).off + 2, none⟩ = some (.int .i64 n) ∧ w'.cell? ⟨(ae.add (k * 4)).block, (ae.add (k * 4)).off + 3, none⟩ = some (.slice D m' d')) ∧ Hid (Below w.heap.size w w'))
        (first | exact HS.out _ HW.out.drew | exact HS.out _ HK.out)
        (first | (go_at_call 18; (with_reducible refine (refSame_any _ _ l[k].2.2 l[k].2.2 _ (HM.out.below HW.out.drew) (HP.out.below HW.out.drew) (by have := HL.out; omega) (by have := HL.out; omega)).mono ?_); rw [HB.out]; rintro e w' ⟨rfl, hb⟩; have HK := Lib.hid (below_after HW.out.drew hb (Nat.le_refl _)); clear hb))
      go_wp2_with fail
      go_roundw
      case rel => exact ⟨k + 1, by omega, by go_num, Hid.out (by assumption)⟩
      case measure => simp [intOf]; omega
    · have hdk : decide ((k : Int) < (qs.length : Int)) = false := by simp; omega
      go_wp2_with fail
      go_ret
      exact ⟨rfl, HW.out⟩
end Go.Proofs.Ytofanciaacdjfaa
