/-
  A walk over the library's merge of two parts of a list in place, where the rows are in order already: nothing is written. No statement is proved in this text; it holds for every input that its premises let by.
-/
import Derived.Test.YtofanciaacdjfaaStable
namespace Go.Proofs.Ytofanciaacdjfaa
open Go Go.RowKit Sets RowSets
set_option maxHeartbeats 2000000 in
set_option maxRecDepth 100000 in
theorem sym_left (v : Value) (qs : List Raw) (a b : Nat) (w : World) (h : Rcs encW 4 w v qs) (hs : Sorted qs) (hl : qs.length ≤ 100000) (hab : a + 1 < b) (hb : b ≤ qs.length) :
    Calls Try.prog 80 #[v, .int .i64 a, .int .i64 ((a : Int) + 1), .int .i64 b, .func (.func 62) #[] #[]] w fun e w' => e = .returned (.tuple #[]) ∧ Below w.heap.size w w' := by
  have HI := Lib.hid h
  have HO := Lib.hid hs
  obtain ⟨A, c, rfl, hz⟩ := h
  clear hz hs
  have j0 : IntKind.i64.wrap ((a : Int) + 1 - (a : Int)) = 1 := by rw [IntWalk.i64_in _ ⟨by omega, by omega⟩]; omega
  go_enter Try.func80, Try.ntmps80
  go_wp2_with fail
  go_loopw [10, 11] (fun s10 s11 wr => ∃ j : Nat, s10 = .int .i64 ((a : Int) + 1) ∧ s11 = .int .i64 j ∧ a + 1 ≤ j ∧ j ≤ b ∧ Hid (Below w.heap.size w wr)) (fun _ s11 _ => (intOf s11).toNat)
  case atStart => exact ⟨b, rfl, rfl, by omega, by omega, Lib.hid (Below.refl _ _)⟩
  case round =>
    obtain ⟨j, rfl, rfl, hj1, hj2, HW⟩ := hrel
    by_cases hlt : a + 1 < j
    · have hd : decide (((a : Int) + 1) < (j : Int)) = true := decide_eq_true (by omega)
      obtain ⟨k, hk⟩ : ∃ k : Nat, ((a : Int) + 1 + (j : Int)) / 2 = (k : Int) := ⟨(a + 1 + j) / 2, by omega⟩
      have hk1 : k < qs.length := by omega
      have hk2 : a < qs.length := by omega
      have HC := Lib.hid (sorted_cmp HO.out (show a < k by omega) hk1)
      have i3 : (0 : Int) ≤ (k : Int) := by omega
      have i4 : (k : Int) < (qs.length : Int) := by omega
      have i5 : (0 : Int) ≤ (a : Int) := by omega
      have i6 : (a : Int) < (qs.length : Int) := by omega
      obtain ⟨ad, rfl⟩ := HI.out.addr (by omega)
      have HS := Lib.hid fun w' (hb : Below w.heap.size w w') => And.intro (HI.out.raw hb (k := k) hk1) (And.intro (HI.out.raw hb (k := a) hk2) hb)
      generalize qs[k].1.1 = a1 at *
      generalize qs[k].1.2 = i1 at *
      generalize qs[k].2.1 = n1 at *
      generalize qs[k].2.2.1 = B1 at *
      generalize qs[k].2.2.2.1 = m1 at *
      generalize qs[k].2.2.2.2 = d1 at *
      generalize qs[a].1.1 = a2 at *
      generalize qs[a].1.2 = i2 at *
      generalize qs[a].2.1 = n2 at *
      generalize qs[a].2.2.1 = B2 at *
      generalize qs[a].2.2.2.1 = m2 at *
      generalize qs[a].2.2.2.2 = d2 at *
      have HQ := Lib.hid fun w' (hb : Below w.heap.size w w') => (show (w'.cell? (ad.add (k * 4)) = some (.int .i64 a1) ∧ w'.cell? ⟨(ad.add (k * 4)).block, (ad.add (k * 4)).off + 1, none⟩ = some (.int .i64 i1) ∧ w'.cell? ⟨(ad.add (k * 4)).block, (ad.add (k * 4)).off + 2, none⟩ = some (.int .i64 n1) ∧ w'.cell? ⟨(ad.add (k * 4)).block, (ad.add (k * 4)).off + 3, none⟩ = some (.slice B1 m1 d1)) ∧ (w'.cell? (ad.add (a * 4)) = some (.int .i64 a2) ∧ w'.cell? ⟨(ad.add (a * 4)).block, (ad.add (a * 4)).off + 1, none⟩ = some (.int .i64 i2) ∧ w'.cell? ⟨(ad.add (a * 4)).block, (ad.add (a * 4)).off + 2, none⟩ = some (.int .i64 n2) ∧ w'.cell? ⟨(ad.add (a * 4)).block, (ad.add (a * 4)).off + 3, none⟩ = some (.slice B2 m2 d2)) ∧ Hid (Below w.heap.size w w') from by
        obtain ⟨⟨x, e, x1⟩, ⟨y, e2, y1⟩, hb⟩ := HS.out w' hb
        injection e with e
        injection e2 with e2
        subst e e2
        exact ⟨x1, y1, Lib.hid hb⟩)
      clear HS
      go_wp2_with fail
      go_region_held3 (fun w' => (w'.cell? (ad.add (k * 4)) = some (.int .i64 a1) ∧ w'.cell? ⟨(ad.add (k * 4)).block, (ad.add (k * 4)).off + 1, none⟩ = some (.int .i64 i1) ∧ w'.cell? ⟨(ad.add (k * 4)).block, (ad.add (k * 4)).off + 2, none⟩ = some (.int .i64 n1) ∧ w'.cell? ⟨(ad.add (k * 4)).block, (ad.add (k * 4)).off + 3, none⟩ = some (.slice B1 m1 d1)) ∧ (w'.cell? (ad.add (a * 4)) = some (.int .i64 a2) ∧ w'.cell? ⟨(ad.add (a * 4)).block, (ad.add (a * 4)).off + 1, none⟩ = some (.int .i64 i2) ∧ w'.cell? ⟨(ad.add (a * 4)).block, (ad.add (a * 4)).off + 2, none⟩ = some (.int .i64 n2) ∧ w'.cell? ⟨(ad.add (a * 4)).block, (ad.add (a * 4)).off + 3, none⟩ = some (.slice B2 m2 d2)) ∧ Hid (Below w.heap.size w w'))
        (first | exact HQ.out _ HW.out.drew | exact HQ.out _ HK.out)
        (first | (go_at_call 62; (with_reducible refine (cmpW_any _ _ _ _ _ _ _ _ _ _ _ _ _).mono ?_); rw [HC.out]; rintro e w' ⟨rfl, hb⟩; have HK := Lib.hid (below_after HW.out.drew hb (Nat.le_refl _)); clear hb))
      go_wp2_with fail
      go_roundw
      case rel => exact ⟨k, rfl, rfl, by omega, by omega, Hid.out (by assumption)⟩
      case measure => simp [intOf]; omega
    · obtain rfl : j = a + 1 := by omega
      have hd : decide (((a : Int) + 1) < (a : Int) + 1) = false := decide_eq_false (by omega)
      have j1 : IntKind.i64.wrap ((a : Int) + 1 - 1) = (a : Int) := by rw [IntWalk.i64_in _ ⟨by omega, by omega⟩]; omega
      have j2 : decide ((a : Int) < (a : Int)) = false := decide_eq_false (by omega)
      have HB := Lib.hid HW.out
      go_wp2_with fail
      refine wp_loop_rounds 1 ?_
      rw [rounds_succ]
      go_wp2_with fail
      refine bodyPost_ret (results_none rfl _ _ _) rfl ?_
      exact ⟨rfl, HB.out⟩
set_option maxHeartbeats 2000000 in
set_option maxRecDepth 100000 in
theorem sym_right (v : Value) (qs : List Raw) (a m : Nat) (w : World) (h : Rcs encW 4 w v qs) (hs : Sorted qs) (hl : qs.length ≤ 100000) (hab : a + 1 < m) (hb : m + 1 ≤ qs.length) :
    Calls Try.prog 80 #[v, .int .i64 a, .int .i64 m, .int .i64 ((m : Int) + 1), .func (.func 62) #[] #[]] w fun e w' => e = .returned (.tuple #[]) ∧ Below w.heap.size w w' := by
  have HI := Lib.hid h
  have HO := Lib.hid hs
  obtain ⟨A, c, rfl, hz⟩ := h
  clear hz hs
  have j0 : IntKind.i64.wrap ((m : Int) + 1 - (m : Int)) = 1 := by rw [IntWalk.i64_in _ ⟨by omega, by omega⟩]; omega
  have j1 : ((m : Int) - (a : Int) == 1) = false := beq_eq_false_iff_ne.2 (by omega)
  go_enter Try.func80, Try.ntmps80
  go_wp2_with fail
  go_loopw [14, 15] (fun s10 s11 wr => ∃ i : Nat, s10 = .int .i64 i ∧ s11 = .int .i64 m ∧ a ≤ i ∧ i ≤ m ∧ Hid (Below w.heap.size w wr)) (fun s10 _ _ => m - (intOf s10).toNat)
  case atStart => exact ⟨a, rfl, rfl, by omega, by omega, Lib.hid (Below.refl _ _)⟩
  case round =>
    obtain ⟨i, rfl, rfl, hj1, hj2, HW⟩ := hrel
    by_cases hlt : i < m
    · have hd : decide ((i : Int) < (m : Int)) = true := decide_eq_true (by omega)
      obtain ⟨k, hk⟩ : ∃ k : Nat, ((i : Int) + (m : Int)) / 2 = (k : Int) := ⟨(i + m) / 2, by omega⟩
      have hk1 : m < qs.length := by omega
      have hk2 : k < qs.length := by omega
      have HC := Lib.hid (sorted_cmp HO.out (show k < m by omega) hk1)
      have i3 : (0 : Int) ≤ (k : Int) := by omega
      have i4 : (k : Int) < (qs.length : Int) := by omega
      have i5 : (0 : Int) ≤ (m : Int) := by omega
      have i6 : (m : Int) < (qs.length : Int) := by omega
      obtain ⟨ad, rfl⟩ := HI.out.addr (by omega)
      have HS := Lib.hid fun w' (hb : Below w.heap.size w w') => And.intro (HI.out.raw hb (k := m) hk1) (And.intro (HI.out.raw hb (k := k) hk2) hb)
      generalize qs[m].1.1 = a1 at *
      generalize qs[m].1.2 = i1 at *
      generalize qs[m].2.1 = n1 at *
      generalize qs[m].2.2.1 = B1 at *
      generalize qs[m].2.2.2.1 = m1 at *
      generalize qs[m].2.2.2.2 = d1 at *
      generalize qs[k].1.1 = a2 at *
      generalize qs[k].1.2 = i2 at *
      generalize qs[k].2.1 = n2 at *
      generalize qs[k].2.2.1 = B2 at *
      generalize qs[k].2.2.2.1 = m2 at *
      generalize qs[k].2.2.2.2 = d2 at *
      have HQ := Lib.hid fun w' (hb : Below w.heap.size w w') => (show (w'.cell? (ad.add (m * 4)) = some (.int .i64 a1) ∧ w'.cell? ⟨(ad.add (m * 4)).block, (ad.add (m * 4)).off + 1, none⟩ = some (.int .i64 i1) ∧ w'.cell? ⟨(ad.add (m * 4)).block, (ad.add (m * 4)).off + 2, none⟩ = some (.int .i64 n1) ∧ w'.cell? ⟨(ad.add (m * 4)).block, (ad.add (m * 4)).off + 3, none⟩ = some (.slice B1 m1 d1)) ∧ (w'.cell? (ad.add (k * 4)) = some (.int .i64 a2) ∧ w'.cell? ⟨(ad.add (k * 4)).block, (ad.add (k * 4)).off + 1, none⟩ = some (.int .i64 i2) ∧ w'.cell? ⟨(ad.add (k * 4)).block, (ad.add (k * 4)).off + 2, none⟩ = some (.int .i64 n2) ∧ w'.cell? ⟨(ad.add (k * 4)).block, (ad.add (k * 4)).off + 3, none⟩ = some (.slice B2 m2 d2)) ∧ Hid (Below w.heap.size w w') from by
        obtain ⟨⟨x, e, x1⟩, ⟨y, e2, y1⟩, hb⟩ := HS.out w' hb
        injection e with e
        injection e2 with e2
        subst e e2
        exact ⟨x1, y1, Lib.hid hb⟩)
      clear HS
      go_wp2_with fail
      go_region_held3 (fun w' => (w'.cell? (ad.add (m * 4)) = some (.int .i64 a1) ∧ w'.cell? ⟨(ad.add (m * 4)).block, (ad.add (m * 4)).off + 1, none⟩ = some (.int .i64 i1) ∧ w'.cell? ⟨(ad.add (m * 4)).block, (ad.add (m * 4)).off + 2, none⟩ = some (.int .i64 n1) ∧ w'.cell? ⟨(ad.add (m * 4)).block, (ad.add (m * 4)).off + 3, none⟩ = some (.slice B1 m1 d1)) ∧ (w'.cell? (ad.add (k * 4)) = some (.int .i64 a2) ∧ w'.cell? ⟨(ad.add (k * 4)).block, (ad.add (k * 4)).off + 1, none⟩ = some (.int .i64 i2) ∧ w'.cell? ⟨(ad.add (k * 4)).block, (ad.add (k * 4)).off + 2, none⟩ = some (.int .i64 n2) ∧ w'.cell? ⟨(ad.add (k * 4)).block, (ad.add (k * 4)).off + 3, none⟩ = some (.slice B2 m2 d2)) ∧ Hid (Below w.heap.size w w'))
        (first | exact HQ.out _ HW.out.drew | exact HQ.out _ HK.out)
        (first | (go_at_call 62; (with_reducible refine (cmpW_any _ _ _ _ _ _ _ _ _ _ _ _ _).mono ?_); rw [HC.out]; rintro e w' ⟨rfl, hb⟩; have HK := Lib.hid (below_after HW.out.drew hb (Nat.le_refl _)); clear hb))
      go_wp2_with fail
      go_roundw
      case rel => exact ⟨k + 1, by go_num, rfl, by omega, by omega, Hid.out (by assumption)⟩
      case measure => simp [intOf]; omega
    · obtain rfl : i = m := by omega
      have hd : decide ((i : Int) < (i : Int)) = false := decide_eq_false (by omega)
      have HB := Lib.hid HW.out
      go_wp2_with fail
      refine wp_loop_rounds 1 ?_
      rw [rounds_succ]
      go_wp2_with fail
      refine bodyPost_ret (results_none rfl _ _ _) rfl ?_
      exact ⟨rfl, HB.out⟩
set_option maxHeartbeats 4000000 in
set_option maxRecDepth 100000 in
theorem sym_lo (N : Nat) (ih : ∀ (v : Value) (qs : List Raw) (a m b : Nat) (w : World), b - a ≤ N → Rcs encW 4 w v qs → Sorted qs → qs.length ≤ 100000 → a < m → m < b → b ≤ qs.length →
      Calls Try.prog 80 #[v, .int .i64 a, .int .i64 m, .int .i64 b, .func (.func 62) #[] #[]] w fun e w' => e = .returned (.tuple #[]) ∧ Below w.heap.size w w')
    (v : Value) (qs : List Raw) (a m b : Nat) (w : World) (hN : b - a ≤ N + 1) (h : Rcs encW 4 w v qs) (hs : Sorted qs) (hl : qs.length ≤ 100000) (ham : a + 1 < m) (hmb : m + 1 < b) (hb : b ≤ qs.length) (hm : m ≤ (a + b) / 2) :
    Calls Try.prog 80 #[v, .int .i64 a, .int .i64 m, .int .i64 b, .func (.func 62) #[] #[]] w fun e w' => e = .returned (.tuple #[]) ∧ Below w.heap.size w w' := by
  have HI := Lib.hid h
  have HO := Lib.hid hs
  obtain ⟨A, c, rfl, hz⟩ := h
  clear hz hs
  have j0 : ((m : Int) - (a : Int) == 1) = false := beq_eq_false_iff_ne.2 (by omega)
  have j1 : ((b : Int) - (m : Int) == 1) = false := beq_eq_false_iff_ne.2 (by omega)
  obtain ⟨d, hd0⟩ : ∃ d : Nat, ((a : Int) + (b : Int)) / 2 = (d : Int) := ⟨(a + b) / 2, by omega⟩
  have hmd : m ≤ d := by omega
  have j2 : decide (d < m) = false := decide_eq_false (by omega)
  have HRec := Lib.hid fun (h0 : m < d) W (hb' : Below w.heap.size w W) => ih _ qs a m d W (by omega) (HI.out.below hb') HO.out hl (by omega) h0 (by omega)
  clear ih
  go_enter Try.func80, Try.ntmps80
  go_wp2_with fail
  go_loopw [20, 21] (fun s20 s21 wr => ∃ t : Nat, s20 = .int .i64 t ∧ s21 = .int .i64 m ∧ a ≤ t ∧ t ≤ m ∧ Hid (Below w.heap.size w wr)) (fun s20 _ _ => m - (intOf s20).toNat)
  case atStart => exact ⟨a, rfl, rfl, by omega, by omega, Lib.hid (Below.refl _ _)⟩
  case round =>
    obtain ⟨t, rfl, rfl, hj1, hj2, HW⟩ := hrel
    by_cases hlt : t < m
    · have hd : decide ((t : Int) < (m : Int)) = true := decide_eq_true (by omega)
      obtain ⟨k, hk⟩ : ∃ k : Nat, ((t : Int) + (m : Int)) / 2 = (k : Int) := ⟨(t + m) / 2, by omega⟩
      obtain ⟨p, hp⟩ : ∃ p : Nat, (d : Int) + (m : Int) - 1 - (k : Int) = (p : Int) := ⟨d + m - 1 - k, by omega⟩
      have i8 : IntKind.i64.wrap ((d : Int) + (m : Int) - 1 - (k : Int)) = (p : Int) := by rw [IntWalk.i64_in _ ⟨by omega, by omega⟩]; omega
      have i9 : IntKind.i64.wrap (p : Int) = (p : Int) := IntWalk.i64_in _ ⟨by omega, by omega⟩
      have hk1 : p < qs.length := by omega
      have hk2 : k < qs.length := by omega
      have HC := Lib.hid (sorted_cmp HO.out (show k < p by omega) hk1)
      have i3 : (0 : Int) ≤ (k : Int) := by omega
      have i4 : (k : Int) < (qs.length : Int) := by omega
      have i5 : (0 : Int) ≤ (p : Int) := by omega
      have i6 : (p : Int) < (qs.length : Int) := by omega
      obtain ⟨ad, rfl⟩ := HI.out.addr (by omega)
      have HS := Lib.hid fun w' (hb : Below w.heap.size w w') => And.intro (HI.out.raw hb (k := p) hk1) (And.intro (HI.out.raw hb (k := k) hk2) hb)
      generalize qs[p].1.1 = a1 at *
      generalize qs[p].1.2 = i1 at *
      generalize qs[p].2.1 = n1 at *
      generalize qs[p].2.2.1 = B1 at *
      generalize qs[p].2.2.2.1 = m1 at *
      generalize qs[p].2.2.2.2 = d1 at *
      generalize qs[k].1.1 = a2 at *
      generalize qs[k].1.2 = i2 at *
      generalize qs[k].2.1 = n2 at *
      generalize qs[k].2.2.1 = B2 at *
      generalize qs[k].2.2.2.1 = m2 at *
      generalize qs[k].2.2.2.2 = d2 at *
      have HQ := Lib.hid fun w' (hb : Below w.heap.size w w') => (show (w'.cell? (ad.add (p * 4)) = some (.int .i64 a1) ∧ w'.cell? ⟨(ad.add (p * 4)).block, (ad.add (p * 4)).off + 1, none⟩ = some (.int .i64 i1) ∧ w'.cell? ⟨(ad.add (p * 4)).block, (ad.add (p * 4)).off + 2, none⟩ = some (.int .i64 n1) ∧ w'.cell? ⟨(ad.add (p * 4)).block, (ad.add (p * 4)).off + 3, none⟩ = some (.slice B1 m1 d1)) ∧ (w'.cell? (ad.add (k * 4)) = some (.int .i64 a2) ∧ w'.cell? ⟨(ad.add (k * 4)).block, (ad.add (k * 4)).off + 1, none⟩ = some (.int .i64 i2) ∧ w'.cell? ⟨(ad.add (k * 4)).block, (ad.add (k * 4)).off + 2, none⟩ = some (.int .i64 n2) ∧ w'.cell? ⟨(ad.add (k * 4)).block, (ad.add (k * 4)).off + 3, none⟩ = some (.slice B2 m2 d2)) ∧ Hid (Below w.heap.size w w') from by
        obtain ⟨⟨x, e, x1⟩, ⟨y, e2, y1⟩, hb⟩ := HS.out w' hb
        injection e with e
        injection e2 with e2
        subst e e2
        exact ⟨x1, y1, Lib.hid hb⟩)
      clear HS
      go_wp2_with fail
      go_region_held3 (fun w' => (w'.cell? (ad.add (p * 4)) = some (.int .i64 a1) ∧ w'.cell? ⟨(ad.add (p * 4)).block, (ad.add (p * 4)).off + 1, none⟩ = some (.int .i64 i1) ∧ w'.cell? ⟨(ad.add (p * 4)).block, (ad.add (p * 4)).off + 2, none⟩ = some (.int .i64 n1) ∧ w'.cell? ⟨(ad.add (p * 4)).block, (ad.add (p * 4)).off + 3, none⟩ = some (.slice B1 m1 d1)) ∧ (w'.cell? (ad.add (k * 4)) = some (.int .i64 a2) ∧ w'.cell? ⟨(ad.add (k * 4)).block, (ad.add (k * 4)).off + 1, none⟩ = some (.int .i64 i2) ∧ w'.cell? ⟨(ad.add (k * 4)).block, (ad.add (k * 4)).off + 2, none⟩ = some (.int .i64 n2) ∧ w'.cell? ⟨(ad.add (k * 4)).block, (ad.add (k * 4)).off + 3, none⟩ = some (.slice B2 m2 d2)) ∧ Hid (Below w.heap.size w w'))
        (first | exact HQ.out _ HW.out.drew | exact HQ.out _ HK.out)
        (first | (go_at_call 62; (with_reducible refine (cmpW_any _ _ _ _ _ _ _ _ _ _ _ _ _).mono ?_); rw [HC.out]; rintro e w' ⟨rfl, hb⟩; have HK := Lib.hid (below_after HW.out.drew hb (Nat.le_refl _)); clear hb))
      go_wp2_with fail
      go_roundw
      case rel => exact ⟨k + 1, by go_num, rfl, by omega, by omega, Hid.out (by assumption)⟩
      case measure => simp [intOf]; omega
    · obtain rfl : t = m := by omega
      have hd : decide ((t : Int) < (t : Int)) = false := decide_eq_false (by omega)
      have hd1 : decide ((a : Int) < (t : Int)) = true := decide_eq_true (by omega)
      have he : IntKind.i64.wrap ((d : Int) + (t : Int) - (t : Int)) = (d : Int) := by rw [IntWalk.i64_in _ ⟨by omega, by omega⟩]; omega
      have hd2 : decide ((d : Int) < (d : Int)) = false := decide_eq_false (by omega)
      by_cases h0 : t < d
      · have hd3 : decide ((t : Int) < (d : Int)) = true := decide_eq_true (by omega)
        have HR := Lib.hid (HRec.out h0 _ HW.out)
        go_wp2_with fail
        (with_reducible refine HR.out.mono ?_)
        rintro e w1 ⟨rfl, hb1⟩
        have HB := Lib.hid (below_after HW.out hb1 (Nat.le_refl _))
        clear hb1
        go_wp2_with fail
        go_end0
        exact ⟨rfl, HB.out⟩
      · have hd3 : decide ((t : Int) < (d : Int)) = false := decide_eq_false (by omega)
        go_wp2_with fail
        go_end0
        exact ⟨rfl, HW.out⟩
set_option maxHeartbeats 4000000 in
set_option maxRecDepth 100000 in
theorem sym_hi (N : Nat) (ih : ∀ (v : Value) (qs : List Raw) (a m b : Nat) (w : World), b - a ≤ N → Rcs encW 4 w v qs → Sorted qs → qs.length ≤ 100000 → a < m → m < b → b ≤ qs.length →
      Calls Try.prog 80 #[v, .int .i64 a, .int .i64 m, .int .i64 b, .func (.func 62) #[] #[]] w fun e w' => e = .returned (.tuple #[]) ∧ Below w.heap.size w w')
    (v : Value) (qs : List Raw) (a m b : Nat) (w : World) (hN : b - a ≤ N + 1) (h : Rcs encW 4 w v qs) (hs : Sorted qs) (hl : qs.length ≤ 100000) (ham : a + 1 < m) (hmb : m + 1 < b) (hb : b ≤ qs.length) (hm : (a + b) / 2 < m) :
    Calls Try.prog 80 #[v, .int .i64 a, .int .i64 m, .int .i64 b, .func (.func 62) #[] #[]] w fun e w' => e = .returned (.tuple #[]) ∧ Below w.heap.size w w' := by
  have HI := Lib.hid h
  have HO := Lib.hid hs
  obtain ⟨A, c, rfl, hz⟩ := h
  clear hz hs
  have j0 : ((m : Int) - (a : Int) == 1) = false := beq_eq_false_iff_ne.2 (by omega)
  have j1 : ((b : Int) - (m : Int) == 1) = false := beq_eq_false_iff_ne.2 (by omega)
  obtain ⟨d, hd0⟩ : ∃ d : Nat, ((a : Int) + (b : Int)) / 2 = (d : Int) := ⟨(a + b) / 2, by omega⟩
  have hmd : d < m := by omega
  have j2 : decide (d < m) = true := decide_eq_true (by omega)
  have HRec := Lib.hid fun W (hb' : Below w.heap.size w W) => ih _ qs d m b W (by omega) (HI.out.below hb') HO.out hl hmd (by omega) hb
  obtain ⟨s, hs0⟩ : ∃ s : Nat, (d : Int) + (m : Int) - (b : Int) = (s : Int) := ⟨d + m - b, by omega⟩
  clear ih
  go_enter Try.func80, Try.ntmps80
  go_wp2_with fail
  go_loopw [20, 21] (fun s20 s21 wr => ∃ t : Nat, s20 = .int .i64 t ∧ s21 = .int .i64 d ∧ s ≤ t ∧ t ≤ d ∧ Hid (Below w.heap.size w wr)) (fun s20 _ _ => d - (intOf s20).toNat)
  case atStart => exact ⟨s, rfl, rfl, by omega, by omega, Lib.hid (Below.refl _ _)⟩
  case round =>
    obtain ⟨t, rfl, rfl, hj1, hj2, HW⟩ := hrel
    by_cases hlt : t < d
    · have hd : decide ((t : Int) < (d : Int)) = true := decide_eq_true (by omega)
      obtain ⟨k, hk⟩ : ∃ k : Nat, ((t : Int) + (d : Int)) / 2 = (k : Int) := ⟨(t + d) / 2, by omega⟩
      obtain ⟨p, hp⟩ : ∃ p : Nat, (d : Int) + (m : Int) - 1 - (k : Int) = (p : Int) := ⟨d + m - 1 - k, by omega⟩
      have i8 : IntKind.i64.wrap ((d : Int) + (m : Int) - 1 - (k : Int)) = (p : Int) := by rw [IntWalk.i64_in _ ⟨by omega, by omega⟩]; omega
      have i9 : IntKind.i64.wrap (p : Int) = (p : Int) := IntWalk.i64_in _ ⟨by omega, by omega⟩
      have hk1 : p < qs.length := by omega
      have hk2 : k < qs.length := by omega
      have HC := Lib.hid (sorted_cmp HO.out (show k < p by omega) hk1)
      have i3 : (0 : Int) ≤ (k : Int) := by omega
      have i4 : (k : Int) < (qs.length : Int) := by omega
      have i5 : (0 : Int) ≤ (p : Int) := by omega
      have i6 : (p : Int) < (qs.length : Int) := by omega
      obtain ⟨ad, rfl⟩ := HI.out.addr (by omega)
      have HS := Lib.hid fun w' (hb : Below w.heap.size w w') => And.intro (HI.out.raw hb (k := p) hk1) (And.intro (HI.out.raw hb (k := k) hk2) hb)
      generalize qs[p].1.1 = a1 at *
      generalize qs[p].1.2 = i1 at *
      generalize qs[p].2.1 = n1 at *
      generalize qs[p].2.2.1 = B1 at *
      generalize qs[p].2.2.2.1 = m1 at *
      generalize qs[p].2.2.2.2 = d1 at *
      generalize qs[k].1.1 = a2 at *
      generalize qs[k].1.2 = i2 at *
      generalize qs[k].2.1 = n2 at *
      generalize qs[k].2.2.1 = B2 at *
      generalize qs[k].2.2.2.1 = m2 at *
      generalize qs[k].2.2.2.2 = d2 at *
      have HQ := Lib.hid fun w' (hb : Below w.heap.size w w') => (show (w'.cell? (ad.add (p * 4)) = some (.int .i64 a1) ∧ w'.cell? ⟨(ad.add (p * 4)).block, (ad.add (p * 4)).off + 1, none⟩ = some (.int .i64 i1) ∧ w'.cell? ⟨(ad.add (p * 4)).block, (ad.add (p * 4)).off + 2, none⟩ = some (.int .i64 n1) ∧ w'.cell? ⟨(ad.add (p * 4)).block, (ad.add (p * 4)).off + 3, none⟩ = some (.slice B1 m1 d1)) ∧ (w'.cell? (ad.add (k * 4)) = some (.int .i64 a2) ∧ w'.cell? ⟨(ad.add (k * 4)).block, (ad.add (k * 4)).off + 1, none⟩ = some (.int .i64 i2) ∧ w'.cell? ⟨(ad.add (k * 4)).block, (ad.add (k * 4)).off + 2, none⟩ = some (.int .i64 n2) ∧ w'.cell? ⟨(ad.add (k * 4)).block, (ad.add (k * 4)).off + 3, none⟩ = some (.slice B2 m2 d2)) ∧ Hid (Below w.heap.size w w') from by
        obtain ⟨⟨x, e, x1⟩, ⟨y, e2, y1⟩, hb⟩ := HS.out w' hb
        injection e with e
        injection e2 with e2
        subst e e2
        exact ⟨x1, y1, Lib.hid hb⟩)
      clear HS
      go_wp2_with fail
      go_region_held3 (fun w' => (w'.cell? (ad.add (p * 4)) = some (.int .i64 a1) ∧ w'.cell? ⟨(ad.add (p * 4)).block, (ad.add (p * 4)).off + 1, none⟩ = some (.int .i64 i1) ∧ w'.cell? ⟨(ad.add (p * 4)).block, (ad.add (p * 4)).off + 2, none⟩ = some (.int .i64 n1) ∧ w'.cell? ⟨(ad.add (p * 4)).block, (ad.add (p * 4)).off + 3, none⟩ = some (.slice B1 m1 d1)) ∧ (w'.cell? (ad.add (k * 4)) = some (.int .i64 a2) ∧ w'.cell? ⟨(ad.add (k * 4)).block, (ad.add (k * 4)).off + 1, none⟩ = some (.int .i64 i2) ∧ w'.cell? ⟨(ad.add (k * 4)).block, (ad.add (k * 4)).off + 2, none⟩ = some (.int .i64 n2) ∧ w'.cell? ⟨(ad.add (k * 4)).block, (ad.add (k * 4)).off + 3, none⟩ = some (.slice B2 m2 d2)) ∧ Hid (Below w.heap.size w w'))
        (first | exact HQ.out _ HW.out.drew | exact HQ.out _ HK.out)
        (first | (go_at_call 62; (with_reducible refine (cmpW_any _ _ _ _ _ _ _ _ _ _ _ _ _).mono ?_); rw [HC.out]; rintro e w' ⟨rfl, hb⟩; have HK := Lib.hid (below_after HW.out.drew hb (Nat.le_refl _)); clear hb))
      go_wp2_with fail
      go_roundw
      case rel => exact ⟨k + 1, by go_num, rfl, by omega, by omega, Hid.out (by assumption)⟩
      case measure => simp [intOf]; omega
    · obtain rfl : t = d := by omega
      have hd : decide ((t : Int) < (t : Int)) = false := decide_eq_false (by omega)
      have hd1 : decide ((t : Int) < (m : Int)) = true := decide_eq_true (by omega)
      have he : IntKind.i64.wrap ((t : Int) + (m : Int) - (t : Int)) = (m : Int) := by rw [IntWalk.i64_in _ ⟨by omega, by omega⟩]; omega
      have hd2 : decide ((m : Int) < (m : Int)) = false := decide_eq_false (by omega)
      have hd3 : decide ((m : Int) < (b : Int)) = true := decide_eq_true (by omega)
      have hd4 : decide ((a : Int) < (t : Int)) = true := decide_eq_true (by omega)
      have HR := Lib.hid (HRec.out _ HW.out)
      go_wp2_with fail
      (with_reducible refine HR.out.mono ?_)
      rintro e w1 ⟨rfl, hb1⟩
      have HB := Lib.hid (below_after HW.out hb1 (Nat.le_refl _))
      clear hb1
      go_wp2_with fail
      go_end0
      exact ⟨rfl, HB.out⟩
/-- symMerge over rows that are in order. -/
theorem sym_any (N : Nat) : ∀ (v : Value) (qs : List Raw) (a m b : Nat) (w : World), b - a ≤ N → Rcs encW 4 w v qs → Sorted qs → qs.length ≤ 100000 → a < m → m < b → b ≤ qs.length →
    Calls Try.prog 80 #[v, .int .i64 a, .int .i64 m, .int .i64 b, .func (.func 62) #[] #[]] w fun e w' => e = .returned (.tuple #[]) ∧ Below w.heap.size w w' := by
  induction N with
  | zero => intro v qs a m b w hN _ _ _ h1 h2 _; omega
  | succ N ih =>
    intro v qs a m b w hN h hs hl h1 h2 hb
    by_cases e1 : m = a + 1
    · subst e1
      exact sym_left v qs a b w h hs hl h2 hb
    · by_cases e2 : b = m + 1
      · subst e2
        exact sym_right v qs a m w h hs hl (by omega) hb
      · by_cases e3 : m ≤ (a + b) / 2
        · exact sym_lo N ih v qs a m b w hN h hs hl (by omega) (by omega) hb e3
        · exact sym_hi N ih v qs a m b w hN h hs hl (by omega) (by omega) hb (by omega)
end Go.Proofs.Ytofanciaacdjfaa
