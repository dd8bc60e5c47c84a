/-
  A walk over all who are in the rows of some IDs. No statement is proved in this text; it holds for every input that its premises let by.
-/
import Derived.Test.YtofanciaacdjfaaBin
import Derived.Test.YtofanciaacdjfaaFirst
import Derived.Test.YtofanciaacdjfaaRowFacts
import Derived.Test.YtofanciaacdjfaaRowMath
namespace Go.Proofs.Ytofanciaacdjfaa
open Go Go.RowKit Sets RowSets
/-- What has been gathered of the first rows. -/
def gatherN (of : List Id2) (l : List Row) : List Id2 := (l.filter fun r => decide (r.1 ∈ of)).flatMap (·.2.2)
theorem gatherN_len {of : List Id2} {m : Nat} : ∀ {l : List Row}, (∀ r ∈ l, r.2.2.length ≤ m) → (gatherN of l).length ≤ l.length * m
  | [], _ => by simp [gatherN]
  | r :: l, h => by
    have ih := gatherN_len (of := of) (l := l) fun u hu => h u (List.mem_cons_of_mem _ hu)
    have h1 := h r (List.mem_cons_self ..)
    rw [List.length_cons, Nat.add_mul, Nat.one_mul]
    unfold gatherN at *
    by_cases e : r.1 ∈ of
    · rw [List.filter_cons_of_pos (by simpa using e), List.flatMap_cons, List.length_append]
      omega
    · rw [List.filter_cons_of_neg (by simpa using e)]
      omega
theorem gatherN_yes {of : List Id2} {l : List Row} {k : Nat} (hk : k < l.length) (h : hasB (l[k].1.1, l[k].1.2) (setOf of) = true) : gatherN of (l.take (k + 1)) = gatherN of (l.take k) ++ l[k].2.2 := by
  have h2 : l[k].1 ∈ of := (mem_setOf _ _).1 (of_decide_eq_true h)
  unfold gatherN
  rw [take_snoc hk, List.filter_append, List.flatMap_append]
  congr 1
  rw [List.filter_cons_of_pos (by simpa using h2)]
  simp
theorem gatherN_no {of : List Id2} {l : List Row} {k : Nat} (hk : k < l.length) (h : hasB (l[k].1.1, l[k].1.2) (setOf of) = false) : gatherN of (l.take (k + 1)) = gatherN of (l.take k) := by
  have h2 : l[k].1 ∉ of := fun hm => (of_decide_eq_false h) ((mem_setOf _ _).2 hm)
  unfold gatherN
  rw [take_snoc hk, List.filter_append, List.flatMap_append]
  rw [List.filter_cons_of_neg (by simpa using h2)]
  simp
set_option maxHeartbeats 4000000 in
set_option maxRecDepth 100000 in
theorem not_any (v vo : Value) (l : List Row) (of : List Id2) (n m : Nat) (w : World) (h : RowsAt w v l) (ho : Ids w vo of) (hu : Up l) (hl : Lens n m l) (hn : n ≤ 1000) (hm : m ≤ 1000) (hnm : n * m ≤ 40000) (hof : of.length ≤ 40000) :
    Calls Try.prog 19 #[v, vo] w (News (notL l of) w) := by
  obtain ⟨qs, h1, h2⟩ := h
  have hlen := h2.len.symm
  have HI := Lib.hid h1
  have HE := Lib.hid h2
  have HO := Lib.hid ho
  have HL := Lib.hid hl
  have HD := Lib.hid hlen
  have hq : qs.length ≤ 1000 := by have := hl.1; omega
  have HG := Lib.hid fun k => (show (gatherN of (l.take k)).length ≤ 40000 by
    have h1 := gatherN_len (of := of) (l := l.take k) (m := m) fun r hr => hl.2 r (List.mem_of_mem_take hr)
    have h2 : (l.take k).length * m ≤ n * m := Nat.mul_le_mul_right _ (by have := hl.1; rw [List.length_take]; omega)
    omega)
  have HS := Lib.hid (show Sorted qs by unfold Sorted; rw [h2.owners]; exact hu)
  have HM : Hid (∀ r ∈ l, r.2.2.length ≤ 1000) := Lib.hid fun r hr => Nat.le_trans (hl.2 r hr) hm
  clear h1 h2 ho hl hlen hu hnm hn hm
  go_enter Try.func19, Try.ntmps19
  go_wp2_with fail
  refine (set_new vo of _ HO.out hof).mono ?_
  rintro e w1 ⟨vs, rfl, hi, hb⟩
  have B1 := Lib.hid hb
  have S1 := Lib.hid (ownsI_ids (ownsI_of hi))
  have I1 := Lib.hid (HI.out.below hb)
  clear hi hb
  go_wp2_with fail
  refine (firsts_any v qs _ I1.out HS.out (by omega)).mono ?_
  rintro e wb ⟨vf, rfl, hf, hb⟩
  have BB := Lib.hid (below_after B1.out hb (Nat.le_refl _))
  have SB := Lib.hid (S1.out.below hb)
  have FB := Lib.hid (rcs_owns encW_len hf)
  have EB := Lib.hid (HE.out.below BB.out)
  clear hf hb
  obtain ⟨A, c, rfl, hz⟩ := id FB.out
  clear hz
  go_wp2_with fail
  go_loopw [5, 15] (fun s5 s15 wr => ∃ vN : Value, ∃ k : Nat, k ≤ qs.length ∧ vN = s5 ∧ s15 = .int .i64 k ∧ Hid (Owns wr wb.heap.size vN (gatherN of (l.take k))) ∧ Hid (Below wb.heap.size wb wr)) (fun _ s15 _ => qs.length - (intOf s15).toNat)
  case atStart => exact ⟨_, 0, by omega, rfl, rfl, Lib.hid (owns_nil _ _), Lib.hid (Below.refl _ _)⟩
  case round =>
    obtain ⟨vN, k, hkl, rfl, rfl, HN, HW⟩ := hrel
    have i3 : (0 : Int) ≤ (k : Int) := by omega
    by_cases hlt : k < qs.length
    · have hd : decide ((k : Int) < (qs.length : Int)) = true := decide_eq_true (by omega)
      have i4 : (k : Int) < (qs.length : Int) := by omega
      have hk2 : k < l.length := by have := HD.out; omega
      obtain ⟨ad, rfl, c1, c2, c3, c4⟩ := FB.out.raw HW.out hlt
      have hrd := EB.out.at_ k hlt hk2
      have HQ := Lib.hid (show Ids wb (.slice qs[k].2.2.1 qs[k].2.2.2.1 qs[k].2.2.2.2) l[k].2.2 from hrd.2.2)
      have HY := Lib.hid fun h => gatherN_yes (of := of) hk2 h
      have HZ := Lib.hid fun h => gatherN_no (of := of) hk2 h
      have HK := Lib.hid (HM.out l[k] (List.getElem_mem hk2))
      rw [← hrd.1] at HY HZ
      clear hrd
      generalize l[k].2.2 = nk at *
      generalize qs[k].1.1 = a at *
      generalize qs[k].1.2 = i at *
      generalize qs[k].2.1 = ver at *
      generalize qs[k].2.2.1 = B at *
      generalize qs[k].2.2.2.1 = mm at *
      generalize qs[k].2.2.2.2 = d at *
      have BX := Lib.hid (below_one wr (.cells #[.int .i64 a, .int .i64 i, .int .i64 ver, .slice B mm d] 26))
      have X1 := Lib.hid (wbox_new wr a i ver (.slice B mm d))
      have N1 := Lib.hid (show Owns (wr.alloc (.cells #[.int .i64 a, .int .i64 i, .int .i64 ver, .slice B mm d] 26)) wb.heap.size vN (gatherN of (l.take k)) from HN.out.below BX.out)
      have W1 := Lib.hid (below_after HW.out BX.out (Nat.le_refl _))
      obtain ⟨x1, x2, x3, x4⟩ := wbox_cells X1.out
      go_wp2_with fail
      refine (bin_any vs (setOf of) a i _ (SB.out.below W1.out) (rises_setOf of) (by have := setOf_len of; omega)).mono ?_
      rintro e w5 ⟨p, rfl, _, hb⟩
      have X2 := Lib.hid (wbox_below X1.out hb)
      have W2 := Lib.hid (below_after W1.out hb (Nat.le_refl _))
      have N2 := Lib.hid (show Owns w5 wb.heap.size vN (gatherN of (l.take k)) from N1.out.below hb)
      clear hb c1 c2 c3 c4 x1 x2 x3 x4
      obtain ⟨x1, x2, x3, x4⟩ := wbox_cells X2.out
      rcases hh : hasB (a, i) (setOf of) with _ | _
      · have HE2 := Lib.hid (HZ.out hh)
        clear hh HY HZ
        go_wp2_with fail
        go_roundw
        case rel => exact ⟨vN, k + 1, by omega, rfl, by go_num, by rw [HE2.out]; exact N2, W2⟩
        case measure => simp [intOf]; omega
      · have HE2 := Lib.hid (HY.out hh)
        have HLN := Lib.hid (HG.out k)
        clear hh HY HZ
        go_wp2_with (at_builtin; refine wpList_append_list rfl (.tmp 27) (.tmp 29) rfl w5 wb.heap.size _ _ (gatherN of (l.take k)) nk rfl rfl N2.out (HQ.out.below W2.out) (by have := HLN.out; have := HK.out; omega) W2.out.size ?_; intro v' w6 k1 k2; have N3 := Lib.hid k1; have W3 := Lib.hid (W2.out.trans k2); clear k1 k2)
        go_roundw
        case rel => exact ⟨v', k + 1, by omega, rfl, by go_num, by rw [HE2.out]; exact N3, W3⟩
        case measure => simp [intOf]; omega
    · have hd : decide ((k : Int) < (qs.length : Int)) = false := decide_eq_false (by omega)
      have HF := Lib.hid (show gatherN of (l.take k) = gatherN of l by rw [List.take_of_length_le (by have := HD.out; omega)])
      have HFL := Lib.hid (show (gatherN of l).length ≤ 40000 by have := HG.out k; rwa [HF.out] at this)
      have N1 := Lib.hid (show Owns wr wb.heap.size vN (gatherN of l) from HF.out ▸ HN.out)
      clear HN
      go_wp2_with fail
      refine (set_new vN (gatherN of l) _ (ownsI_ids (ownsI_of N1.out)) HFL.out).mono ?_
      rintro e w7 ⟨v7, rfl, hi, hb⟩
      have B7 := Lib.hid (below_after (below_after BB.out HW.out (Nat.le_refl _)) hb (Nat.le_refl _))
      have N7 := Lib.hid (show Owns w7 w.heap.size v7 (notL l of) from hi.mono (below_after BB.out HW.out (Nat.le_refl _)).size)
      clear hi hb
      go_wp2_with fail
      go_ret
      exact ⟨v7, rfl, N7.out, B7.out⟩
end Go.Proofs.Ytofanciaacdjfaa
