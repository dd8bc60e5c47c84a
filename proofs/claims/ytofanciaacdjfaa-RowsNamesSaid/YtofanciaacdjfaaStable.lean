/-
  Walks over the library's stable sort, where the rows are in order already: nothing is written. No statement is proved in this text; it holds for every input that its premises let by.
-/
import Derived.Test.YtofanciaacdjfaaMays
namespace Go.Proofs.Ytofanciaacdjfaa
open Go Go.RowKit Sets RowSets
/-- Do the rows' IDs rise? -/
def Sorted (qs : List Raw) : Prop := Rises (qs.map (·.1))
theorem sorted_cmp {qs : List Raw} (h : Sorted qs) {i j : Nat} (hij : i < j) (hj : j < qs.length) : cmpZ qs[j].1.1 qs[j].1.2 (qs[i]'(by omega)).1.1 (qs[i]'(by omega)).1.2 = 1 := by
  have hl : lt (qs[i]'(by omega)).1 qs[j].1 := by
    have := List.pairwise_iff_getElem.1 h i j (by simpa using (by omega : i < qs.length)) (by simpa using hj) hij
    simpa using this
  rw [cmpZ_eq, if_neg (lt_asymm hl), if_pos hl]
set_option maxHeartbeats 2000000 in
theorem insertion_any (v : Value) (qs : List Raw) (a b : Nat) (w : World) (h : Rcs encW 4 w v qs) (hs : Sorted qs) (hl : qs.length ≤ 100000) (hab : a ≤ b) (hb : b ≤ qs.length) :
    Calls Try.prog 79 #[v, .int .i64 a, .int .i64 b, .func (.func 62) #[] #[]] w fun e w' => e = .returned (.tuple #[]) ∧ Below w.heap.size w w' := by
  have HI := Lib.hid h
  have HO := Lib.hid hs
  obtain ⟨A, c, rfl, hz⟩ := h
  clear hz hs
  have j0 : IntKind.i64.wrap ((a : Int) + 1) = (a : Int) + 1 := IntWalk.i64_in _ ⟨by omega, by omega⟩
  go_enter Try.func79, Try.ntmps79
  go_wp2_with fail
  clear j0
  go_loopw [8] (fun s8 wr => ∃ k : Nat, a < k ∧ k ≤ b + 1 ∧ s8 = .int .i64 k ∧ Hid (Below w.heap.size w wr)) (fun s8 _ => b + 1 - (intOf s8).toNat)
  case atStart => exact ⟨a + 1, by omega, by omega, by go_num, Lib.hid (Below.refl _ _)⟩
  case round =>
    obtain ⟨k, hak, hkb, rfl, HW⟩ := hrel
    obtain ⟨j, rfl⟩ : ∃ j, k = j + 1 := ⟨k - 1, by omega⟩
    by_cases hlt : j + 1 < b
    · have hd : decide (((j : Int) + 1) < (b : Int)) = true := decide_eq_true (by omega)
      have hd2 : decide ((a : Int) < ((j : Int) + 1)) = true := decide_eq_true (by omega)
      have hk1 : j + 1 < qs.length := by omega
      have hk2 : j < qs.length := by omega
      have HC := Lib.hid (sorted_cmp HO.out (show j < j + 1 by omega) hk1)
      have i1 : IntKind.i64.wrap ((j : Int) + 1 - 1) = (j : Int) := by rw [IntWalk.i64_in _ ⟨by omega, by omega⟩]; omega
      have i2 : IntKind.i64.wrap (j : Int) = (j : Int) := IntWalk.i64_in _ ⟨by omega, by omega⟩
      have i3 : (0 : Int) ≤ (j : Int) := by omega
      have i4 : (j : Int) < (qs.length : Int) := by omega
      have i5 : (0 : Int) ≤ (j : Int) + 1 := by omega
      have i6 : (j : Int) + 1 < (qs.length : Int) := by omega
      have i7 : ((j : Int) + 1).toNat = j + 1 := by omega
      obtain ⟨ad, rfl⟩ := HI.out.addr (by omega)
      have HS := Lib.hid fun w' (hb : Below w.heap.size w w') => And.intro (HI.out.raw hb (k := j + 1) hk1) (And.intro (HI.out.raw hb (k := j) hk2) hb)
      generalize qs[j + 1].1.1 = a1 at *
      generalize qs[j + 1].1.2 = i1 at *
      generalize qs[j + 1].2.1 = n1 at *
      generalize qs[j + 1].2.2.1 = B1 at *
      generalize qs[j + 1].2.2.2.1 = m1 at *
      generalize qs[j + 1].2.2.2.2 = d1 at *
      generalize qs[j].1.1 = a2 at *
      generalize qs[j].1.2 = i2 at *
      generalize qs[j].2.1 = n2 at *
      generalize qs[j].2.2.1 = B2 at *
      generalize qs[j].2.2.2.1 = m2 at *
      generalize qs[j].2.2.2.2 = d2 at *
      have HQ := Lib.hid fun w' (hb : Below w.heap.size w w') => (show (w'.cell? (ad.add ((j + 1) * 4)) = some (.int .i64 a1) ∧ w'.cell? ⟨(ad.add ((j + 1) * 4)).block, (ad.add ((j + 1) * 4)).off + 1, none⟩ = some (.int .i64 i1) ∧ w'.cell? ⟨(ad.add ((j + 1) * 4)).block, (ad.add ((j + 1) * 4)).off + 2, none⟩ = some (.int .i64 n1) ∧ w'.cell? ⟨(ad.add ((j + 1) * 4)).block, (ad.add ((j + 1) * 4)).off + 3, none⟩ = some (.slice B1 m1 d1)) ∧ (w'.cell? (ad.add (j * 4)) = some (.int .i64 a2) ∧ w'.cell? ⟨(ad.add (j * 4)).block, (ad.add (j * 4)).off + 1, none⟩ = some (.int .i64 i2) ∧ w'.cell? ⟨(ad.add (j * 4)).block, (ad.add (j * 4)).off + 2, none⟩ = some (.int .i64 n2) ∧ w'.cell? ⟨(ad.add (j * 4)).block, (ad.add (j * 4)).off + 3, none⟩ = some (.slice B2 m2 d2)) ∧ Hid (Below w.heap.size w w') from by
        obtain ⟨⟨x, e, x1⟩, ⟨y, e2, y1⟩, hb⟩ := HS.out w' hb
        injection e with e
        injection e2 with e2
        subst e e2
        exact ⟨x1, y1, Lib.hid hb⟩)
      clear HS
      go_wp2_with fail
      refine wp_loop_rounds 1 ?_
      rw [rounds_succ]
      go_wp2_with fail
      go_region_held3 (fun w' => (w'.cell? (ad.add ((j + 1) * 4)) = some (.int .i64 a1) ∧ w'.cell? ⟨(ad.add ((j + 1) * 4)).block, (ad.add ((j + 1) * 4)).off + 1, none⟩ = some (.int .i64 i1) ∧ w'.cell? ⟨(ad.add ((j + 1) * 4)).block, (ad.add ((j + 1) * 4)).off + 2, none⟩ = some (.int .i64 n1) ∧ w'.cell? ⟨(ad.add ((j + 1) * 4)).block, (ad.add ((j + 1) * 4)).off + 3, none⟩ = some (.slice B1 m1 d1)) ∧ (w'.cell? (ad.add (j * 4)) = some (.int .i64 a2) ∧ w'.cell? ⟨(ad.add (j * 4)).block, (ad.add (j * 4)).off + 1, none⟩ = some (.int .i64 i2) ∧ w'.cell? ⟨(ad.add (j * 4)).block, (ad.add (j * 4)).off + 2, none⟩ = some (.int .i64 n2) ∧ w'.cell? ⟨(ad.add (j * 4)).block, (ad.add (j * 4)).off + 3, none⟩ = some (.slice B2 m2 d2)) ∧ Hid (Below w.heap.size w w'))
        (first | exact HQ.out _ HW.out.drew | exact HQ.out _ HK.out)
        (first | (go_at_call 62; (with_reducible refine (cmpW_any _ _ _ _ _ _ _ _ _ _ _ _ _).mono ?_); rw [HC.out]; rintro e w' ⟨rfl, hb⟩; have HK := Lib.hid (below_after HW.out.drew hb (Nat.le_refl _)); clear hb))
      go_wp2_with fail
      go_roundw
      case rel => exact ⟨j + 2, by omega, by omega, by go_num, Hid.out (by assumption)⟩
      case measure => simp [intOf]; omega
    · have hd : decide (((j : Int) + 1) < (b : Int)) = false := decide_eq_false (by omega)
      go_wp2_with fail
      go_end0
      exact ⟨rfl, HW.out⟩
end Go.Proofs.Ytofanciaacdjfaa
