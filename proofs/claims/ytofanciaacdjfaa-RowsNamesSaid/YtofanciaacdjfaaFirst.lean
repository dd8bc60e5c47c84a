/-
  Walks over the library's stable sort, and its way to keep one of what is the same, where the rows are in order, and of unlike IDs, already; the first row of each ID. No statement is proved in this text; it holds for every input that its premises let by.
-/
import Derived.Test.YtofanciaacdjfaaFirsts
namespace Go.Proofs.Ytofanciaacdjfaa
open Go Go.RowKit Sets RowSets
theorem sortStable_any (v : Value) (qs : List Raw) (w : World) (h : Rcs encW 4 w v qs) (hs : Sorted qs) (hl : qs.length ≤ 100000) :
    Calls Try.prog 61 #[v, .func (.func 62) #[] #[]] w fun e w' => e = .returned (.tuple #[]) ∧ Below w.heap.size w w' := by
  have HI := Lib.hid h
  obtain ⟨A, c, rfl, hz⟩ := h
  clear hz
  go_enter Try.func61, Try.ntmps61
  go_wp2_with fail
  refine (stable_any _ qs w HI.out hs hl).mono ?_
  rintro e w1 ⟨rfl, hb⟩
  have HB := Lib.hid hb
  clear hb
  go_wp2_with fail
  go_end0
  exact ⟨rfl, HB.out⟩
theorem sorted_apart {qs : List Raw} (h : Sorted qs) {j : Nat} (hj : j + 1 < qs.length) : isI (qs[j + 1].1.1, qs[j + 1].1.2) (qs[j].1.1, qs[j].1.2) = false := by
  have hl : lt qs[j].1 qs[j + 1].1 := by
    have := List.pairwise_iff_getElem.1 h j (j + 1) (by simpa using (by omega : j < qs.length)) (by simpa using hj) (by omega)
    simpa using this
  refine decide_eq_false fun e => lt_irrefl qs[j].1 ?_
  have e2 : qs[j + 1].1 = qs[j].1 := e
  rw [e2] at hl
  exact hl
set_option maxHeartbeats 2000000 in
theorem compactW_any (v : Value) (qs : List Raw) (w : World) (h : Rcs encW 4 w v qs) (hs : Sorted qs) (hl : qs.length ≤ 100000) :
    Calls Try.prog 63 #[v, .func (.func 64) #[] #[]] w fun e w' => e = .returned v ∧ Below w.heap.size w w' := by
  have HI := Lib.hid h
  have HO := Lib.hid hs
  obtain ⟨A, c, rfl, hz⟩ := h
  clear hz hs
  by_cases h2 : qs.length < 2
  · have hd : decide ((qs.length : Int) < 2) = true := by simp; omega
    go_enter Try.func63, Try.ntmps63
    go_wp2_with fail
    go_ret
    exact ⟨rfl, Below.refl _ _⟩
  · have hd0 : decide ((qs.length : Int) < 2) = false := by simp; omega
    go_enter Try.func63, Try.ntmps63
    go_wp2_with fail
    go_loopw [5] (fun s5 wr => ∃ j : Nat, s5 = .int .i64 ((j : Int) + 1) ∧ j + 1 ≤ qs.length ∧ Hid (Below w.heap.size w wr)) (fun s5 _ => qs.length + 1 - (intOf s5).toNat)
    case atStart => exact ⟨0, rfl, by omega, Lib.hid (Below.refl _ _)⟩
    case round =>
      obtain ⟨j, rfl, hjl, HW⟩ := hrel
      by_cases hlt : j + 1 < qs.length
      · have hd : decide (((j : Int) + 1) < (qs.length : Int)) = true := decide_eq_true (by omega)
        have hk1 : j + 1 < qs.length := hlt
        have hk2 : j < qs.length := by omega
        have HC := Lib.hid (sorted_apart HO.out hk1)
        have i1 : IntKind.i64.wrap ((j : Int) + 1 - 1) = (j : Int) := by rw [IntWalk.i64_in _ ⟨by omega, by omega⟩]; omega
        have i2 : IntKind.i64.wrap (j : Int) = (j : Int) := IntWalk.i64_in _ ⟨by omega, by omega⟩
        have i3 : (0 : Int) ≤ (j : Int) := by omega
        have i4 : (j : Int) < (qs.length : Int) := by omega
        have i5 : (0 : Int) ≤ (j : Int) + 1 := by omega
        have i6 : (j : Int) + 1 < (qs.length : Int) := by omega
        have i7 : ((j : Int) + 1).toNat = j + 1 := by omega
        obtain ⟨ad, rfl⟩ := HI.out.addr (by omega)
        have HS := Lib.hid fun w' (hb : Below w.heap.size w w') => And.intro (HI.out.raw hb (k := j + 1) hk1) (And.intro (HI.out.raw hb (k := j) hk2) hb)
        generalize qs[j + 1].1.1 = a1 at *
        generalize qs[j + 1].1.2 = i1 at *
        generalize qs[j + 1].2.1 = n1 at *
        generalize qs[j + 1].2.2.1 = B1 at *
        generalize qs[j + 1].2.2.2.1 = m1 at *
        generalize qs[j + 1].2.2.2.2 = d1 at *
        generalize qs[j].1.1 = a2 at *
        generalize qs[j].1.2 = i2 at *
        generalize qs[j].2.1 = n2 at *
        generalize qs[j].2.2.1 = B2 at *
        generalize qs[j].2.2.2.1 = m2 at *
        generalize qs[j].2.2.2.2 = d2 at *
        have HQ := Lib.hid fun w' (hb : Below w.heap.size w w') => (show (w'.cell? (ad.add ((j + 1) * 4)) = some (.int .i64 a1) ∧ w'.cell? ⟨(ad.add ((j + 1) * 4)).block, (ad.add ((j + 1) * 4)).off + 1, none⟩ = some (.int .i64 i1) ∧ w'.cell? ⟨(ad.add ((j + 1) * 4)).block, (ad.add ((j + 1) * 4)).off + 2, none⟩ = some (.int .i64 n1) ∧ w'.cell? ⟨(ad.add ((j + 1) * 4)).block, (ad.add ((j + 1) * 4)).off + 3, none⟩ = some (.slice B1 m1 d1)) ∧ (w'.cell? (ad.add (j * 4)) = some (.int .i64 a2) ∧ w'.cell? ⟨(ad.add (j * 4)).block, (ad.add (j * 4)).off + 1, none⟩ = some (.int .i64 i2) ∧ w'.cell? ⟨(ad.add (j * 4)).block, (ad.add (j * 4)).off + 2, none⟩ = some (.int .i64 n2) ∧ w'.cell? ⟨(ad.add (j * 4)).block, (ad.add (j * 4)).off + 3, none⟩ = some (.slice B2 m2 d2)) ∧ Hid (Below w.heap.size w w') from by
          obtain ⟨⟨x, e, x1⟩, ⟨y, e2, y1⟩, hb⟩ := HS.out w' hb
          injection e with e
          injection e2 with e2
          subst e e2
          exact ⟨x1, y1, Lib.hid hb⟩)
        clear HS
        go_wp2_with fail
        go_region_held3 (fun w' => (w'.cell? (ad.add ((j + 1) * 4)) = some (.int .i64 a1) ∧ w'.cell? ⟨(ad.add ((j + 1) * 4)).block, (ad.add ((j + 1) * 4)).off + 1, none⟩ = some (.int .i64 i1) ∧ w'.cell? ⟨(ad.add ((j + 1) * 4)).block, (ad.add ((j + 1) * 4)).off + 2, none⟩ = some (.int .i64 n1) ∧ w'.cell? ⟨(ad.add ((j + 1) * 4)).block, (ad.add ((j + 1) * 4)).off + 3, none⟩ = some (.slice B1 m1 d1)) ∧ (w'.cell? (ad.add (j * 4)) = some (.int .i64 a2) ∧ w'.cell? ⟨(ad.add (j * 4)).block, (ad.add (j * 4)).off + 1, none⟩ = some (.int .i64 i2) ∧ w'.cell? ⟨(ad.add (j * 4)).block, (ad.add (j * 4)).off + 2, none⟩ = some (.int .i64 n2) ∧ w'.cell? ⟨(ad.add (j * 4)).block, (ad.add (j * 4)).off + 3, none⟩ = some (.slice B2 m2 d2)) ∧ Hid (Below w.heap.size w w'))
          (first | exact HQ.out _ HW.out.drew | exact HQ.out _ HK.out)
          (first | (go_at_call 64; (with_reducible refine (eqW_any _ _ _ _ _ _ _ _ _ _ _ _ _).mono ?_); rw [HC.out]; rintro e w' ⟨rfl, hb⟩; have HK := Lib.hid (below_after HW.out.drew hb (Nat.le_refl _)); clear hb))
        go_wp2_with fail
        go_roundw
        case rel => exact ⟨j + 1, by go_num, by omega, Hid.out (by assumption)⟩
        case measure => simp [intOf]; omega
      · have hd : decide (((j : Int) + 1) < (qs.length : Int)) = false := decide_eq_false (by omega)
        go_wp2_with fail
        go_ret
        exact ⟨rfl, HW.out⟩
/-- The first row of each ID, where the rows are in order. -/
theorem firsts_any (v : Value) (qs : List Raw) (w : World) (h : Rcs encW 4 w v qs) (hs : Sorted qs) (hl : qs.length ≤ 100000) :
    Calls Try.prog 41 #[v] w fun e w' => ∃ v', e = .returned v' ∧ OwnsW w' w.heap.size v' qs ∧ Below w.heap.size w w' := by
  have HI := Lib.hid h
  have HO := Lib.hid hs
  clear h hs
  go_enter Try.func41, Try.ntmps41
  go_wp2_with fail
  refine (cloneW_any v qs w HI.out hl).mono ?_
  rintro e w1 ⟨v1, rfl, ho, hb⟩
  have O1 := Lib.hid ho
  have B1 := Lib.hid hb
  clear ho hb
  go_wp2_with fail
  refine (sortStable_any v1 qs w1 (rcs_owns encW_len O1.out) HO.out hl).mono ?_
  rintro e w2 ⟨rfl, hb⟩
  have B2 := Lib.hid (below_after B1.out hb (Nat.le_refl _))
  have O2 := Lib.hid (O1.out.below hb)
  clear hb
  go_wp2_with fail
  refine (compactW_any v1 qs w2 (rcs_owns encW_len O2.out) HO.out hl).mono ?_
  rintro e w3 ⟨rfl, hb⟩
  have B3 := Lib.hid (below_after B2.out hb (Nat.le_refl _))
  have O3 := Lib.hid (O2.out.below hb)
  clear hb
  go_wp2_with fail
  go_ret
  exact ⟨_, rfl, O3.out, B3.out⟩
end Go.Proofs.Ytofanciaacdjfaa
