/-
  Contracts and plain facts.
-/
import Derived.Test.YthkkipbmlafdiaaGreatOy
import Derived.Test.YthkkipbmlafdiaaGreatB18
set_option maxRecDepth 20000
namespace Go.Proofs.YthkkipbmlafdiaaGreat
section
open Go Go.RowKit Sets RowSets
set_option maxHeartbeats 2000000 in
set_option maxRecDepth 100000 in
theorem sym_left (v : Value) (qs : List Raw) (a b : Nat) (w : World) (h : Rcs encW 4 w v qs) (hs : Sorted qs) (hl : qs.length ≤ 100000) (hab : a + 1 < b) (hb : b ≤ qs.length) :
  Calls Tryz.prog 214 #[v, .int .i64 a, .int .i64 ((a : Int) + 1), .int .i64 b, .func (.func 190) #[] #[]] w fun e w' => e = .returned (.tuple #[]) ∧ Below w.heap.size w w' := by
 have HI := hd_ h;have HO := hd_ hs;obtain ⟨A, c, rfl, hz⟩ := h;clear hz hs;have j0 : IntKind.i64.wrap ((a : Int) + 1 - (a : Int)) = 1 := by rw [IntWalk.i64_in _ ⟨by omega, by omega⟩]; omega
 go_enter Tryz.func214, Tryz.ntmps214
 go_wp2_with fail;go_loopw [10, 11] (fun s10 s11 wr => ∃ j : Nat, s10 = .int .i64 ((a : Int) + 1) ∧ s11 = .int .i64 j ∧ a + 1 ≤ j ∧ j ≤ b ∧ Hid (Below w.heap.size w wr)) (fun _ s11 _ => (intOf s11).toNat)
 case atStart => exact ⟨b, rfl, rfl, by omega, by omega, hd_ (Below.refl _ _)⟩
 case round =>
  obtain ⟨j, rfl, rfl, hj1, hj2, HW⟩ := hrel;by_cases hlt : a + 1 < j
  ·have hd : decide (((a : Int) + 1) < (j : Int)) = true := decide_eq_true (by omega)
   obtain ⟨k, hk⟩ : ∃ k : Nat, ((a : Int) + 1 + (j : Int)) / 2 = (k : Int) := ⟨(a + 1 + j) / 2, by omega⟩
   have hk1 : k < qs.length := by omega
   have hk2 : a < qs.length := by omega
   have HC := hd_ (sorted_cmp HO.out (show a < k by omega) hk1)
   have i3 : (0 : Int) ≤ (k : Int) := by omega
   have i4 : (k : Int) < (qs.length : Int) := by omega
   have i5 : (0 : Int) ≤ (a : Int) := by omega
   have i6 : (a : Int) < (qs.length : Int) := by omega
   obtain ⟨ad, rfl⟩ := HI.out.addr (by omega)
   have HS := hd_ fun w' (hb : Below w.heap.size w w') => And.intro (HI.out.raw hb (k := k) hk1) (And.intro (HI.out.raw hb (k := a) hk2) hb)
   generalize qs[k].1.1 = a1 at *;generalize qs[k].1.2 = i1 at *;generalize qs[k].2.1 = n1 at *;generalize qs[k].2.2.1 = B1 at *;generalize qs[k].2.2.2.1 = m1 at *;generalize qs[k].2.2.2.2 = d1 at *;generalize qs[a].1.1 = a2 at *;generalize qs[a].1.2 = i2 at *;generalize qs[a].2.1 = n2 at *;generalize qs[a].2.2.1 = B2 at *;generalize qs[a].2.2.2.1 = m2 at *;generalize qs[a].2.2.2.2 = d2 at *
   have HQ := hd_ fun w' (hb : Below w.heap.size w w') => (show (w'.cell? (ad.add (k * 4)) = some (.int .i64 a1) ∧ w'.cell? ⟨(ad.add (k * 4)).block, (ad.add (k * 4)).off + 1, none⟩ = some (.int .i64 i1) ∧ w'.cell? ⟨(ad.add (k * 4)).block, (ad.add (k * 4)).off + 2, none⟩ = some (.int .i64 n1) ∧ w'.cell? ⟨(ad.add (k * 4)).block, (ad.add (k * 4)).off + 3, none⟩ = some (.slice B1 m1 d1)) ∧ (w'.cell? (ad.add (a * 4)) = some (.int .i64 a2) ∧ w'.cell? ⟨(ad.add (a * 4)).block, (ad.add (a * 4)).off + 1, none⟩ = some (.int .i64 i2) ∧ w'.cell? ⟨(ad.add (a * 4)).block, (ad.add (a * 4)).off + 2, none⟩ = some (.int .i64 n2) ∧ w'.cell? ⟨(ad.add (a * 4)).block, (ad.add (a * 4)).off + 3, none⟩ = some (.slice B2 m2 d2)) ∧ Hid (Below w.heap.size w w') from by
    obtain ⟨⟨x, e, x1⟩, ⟨y, e2, y1⟩, hb⟩ := HS.out w' hb;injection e with e
    injection e2 with e2
    subst e e2;exact ⟨x1, y1, hd_ hb⟩)
   clear HS;go_wp2_with fail
   go_region_held3 (fun w' => (w'.cell? (ad.add (k * 4)) = some (.int .i64 a1) ∧ w'.cell? ⟨(ad.add (k * 4)).block, (ad.add (k * 4)).off + 1, none⟩ = some (.int .i64 i1) ∧ w'.cell? ⟨(ad.add (k * 4)).block, (ad.add (k * 4)).off + 2, none⟩ = some (.int .i64 n1) ∧ w'.cell? ⟨(ad.add (k * 4)).block, (ad.add (k * 4)).off + 3, none⟩ = some (.slice B1 m1 d1)) ∧ (w'.cell? (ad.add (a * 4)) = some (.int .i64 a2) ∧ w'.cell? ⟨(ad.add (a * 4)).block, (ad.add (a * 4)).off + 1, none⟩ = some (.int .i64 i2) ∧ w'.cell? ⟨(ad.add (a * 4)).block, (ad.add (a * 4)).off + 2, none⟩ = some (.int .i64 n2) ∧ w'.cell? ⟨(ad.add (a * 4)).block, (ad.add (a * 4)).off + 3, none⟩ = some (.slice B2 m2 d2)) ∧ Hid (Below w.heap.size w w'))
    (first | exact HQ.out _ HW.out.drew | exact HQ.out _ HK.out)
    (first | (go_at_call 190; (with_reducible refine (cmpW_any _ _ _ _ _ _ _ _ _ _ _ _ _).mono ?_); rw [HC.out]; rintro e w' ⟨rfl, hb⟩; have HK := hd_ (ba_ HW.out.drew hb); clear hb))
   go_wp2_with fail;go_roundw
   case rel => exact ⟨k, rfl, rfl, by omega, by omega, Hid.out (by assumption)⟩
   case measure => simp [intOf]; omega
  ·obtain rfl : j = a + 1 := by omega
   have hd : decide (((a : Int) + 1) < (a : Int) + 1) = false := decide_eq_false (by omega)
   have j1 : IntKind.i64.wrap ((a : Int) + 1 - 1) = (a : Int) := by rw [IntWalk.i64_in _ ⟨by omega, by omega⟩]; omega
   have j2 : decide ((a : Int) < (a : Int)) = false := decide_eq_false (by omega)
   have HB := hd_ HW.out;go_wp2_with fail;refine wp_loop_rounds 1 ?_
   rw [rounds_succ];go_wp2_with fail;refine bodyPost_ret (results_none rfl _ _ _) rfl ?_
   exact ⟨rfl, HB.out⟩
set_option maxHeartbeats 2000000 in
set_option maxRecDepth 100000 in
theorem sym_right (v : Value) (qs : List Raw) (a m : Nat) (w : World) (h : Rcs encW 4 w v qs) (hs : Sorted qs) (hl : qs.length ≤ 100000) (hab : a + 1 < m) (hb : m + 1 ≤ qs.length) :
  Calls Tryz.prog 214 #[v, .int .i64 a, .int .i64 m, .int .i64 ((m : Int) + 1), .func (.func 190) #[] #[]] w fun e w' => e = .returned (.tuple #[]) ∧ Below w.heap.size w w' := by
 have HI := hd_ h;have HO := hd_ hs;obtain ⟨A, c, rfl, hz⟩ := h;clear hz hs;have j0 : IntKind.i64.wrap ((m : Int) + 1 - (m : Int)) = 1 := by rw [IntWalk.i64_in _ ⟨by omega, by omega⟩]; omega
 have j1 : ((m : Int) - (a : Int) == 1) = false := beq_eq_false_iff_ne.2 (by omega)
 go_enter Tryz.func214, Tryz.ntmps214
 go_wp2_with fail;go_loopw [14, 15] (fun s10 s11 wr => ∃ i : Nat, s10 = .int .i64 i ∧ s11 = .int .i64 m ∧ a ≤ i ∧ i ≤ m ∧ Hid (Below w.heap.size w wr)) (fun s10 _ _ => m - (intOf s10).toNat)
 case atStart => exact ⟨a, rfl, rfl, by omega, by omega, hd_ (Below.refl _ _)⟩
 case round =>
  obtain ⟨i, rfl, rfl, hj1, hj2, HW⟩ := hrel;by_cases hlt : i < m
  ·have hd : decide ((i : Int) < (m : Int)) = true := decide_eq_true (by omega)
   obtain ⟨k, hk⟩ : ∃ k : Nat, ((i : Int) + (m : Int)) / 2 = (k : Int) := ⟨(i + m) / 2, by omega⟩
   have hk1 : m < qs.length := by omega
   have hk2 : k < qs.length := by omega
   have HC := hd_ (sorted_cmp HO.out (show k < m by omega) hk1)
   have i3 : (0 : Int) ≤ (k : Int) := by omega
   have i4 : (k : Int) < (qs.length : Int) := by omega
   have i5 : (0 : Int) ≤ (m : Int) := by omega
   have i6 : (m : Int) < (qs.length : Int) := by omega
   obtain ⟨ad, rfl⟩ := HI.out.addr (by omega)
   have HS := hd_ fun w' (hb : Below w.heap.size w w') => And.intro (HI.out.raw hb (k := m) hk1) (And.intro (HI.out.raw hb (k := k) hk2) hb)
   generalize qs[m].1.1 = a1 at *;generalize qs[m].1.2 = i1 at *;generalize qs[m].2.1 = n1 at *;generalize qs[m].2.2.1 = B1 at *;generalize qs[m].2.2.2.1 = m1 at *;generalize qs[m].2.2.2.2 = d1 at *;generalize qs[k].1.1 = a2 at *;generalize qs[k].1.2 = i2 at *;generalize qs[k].2.1 = n2 at *;generalize qs[k].2.2.1 = B2 at *;generalize qs[k].2.2.2.1 = m2 at *;generalize qs[k].2.2.2.2 = d2 at *
   have HQ := hd_ fun w' (hb : Below w.heap.size w w') => (show (w'.cell? (ad.add (m * 4)) = some (.int .i64 a1) ∧ w'.cell? ⟨(ad.add (m * 4)).block, (ad.add (m * 4)).off + 1, none⟩ = some (.int .i64 i1) ∧ w'.cell? ⟨(ad.add (m * 4)).block, (ad.add (m * 4)).off + 2, none⟩ = some (.int .i64 n1) ∧ w'.cell? ⟨(ad.add (m * 4)).block, (ad.add (m * 4)).off + 3, none⟩ = some (.slice B1 m1 d1)) ∧ (w'.cell? (ad.add (k * 4)) = some (.int .i64 a2) ∧ w'.cell? ⟨(ad.add (k * 4)).block, (ad.add (k * 4)).off + 1, none⟩ = some (.int .i64 i2) ∧ w'.cell? ⟨(ad.add (k * 4)).block, (ad.add (k * 4)).off + 2, none⟩ = some (.int .i64 n2) ∧ w'.cell? ⟨(ad.add (k * 4)).block, (ad.add (k * 4)).off + 3, none⟩ = some (.slice B2 m2 d2)) ∧ Hid (Below w.heap.size w w') from by
    obtain ⟨⟨x, e, x1⟩, ⟨y, e2, y1⟩, hb⟩ := HS.out w' hb;injection e with e
    injection e2 with e2
    subst e e2;exact ⟨x1, y1, hd_ hb⟩)
   clear HS;go_wp2_with fail
   go_region_held3 (fun w' => (w'.cell? (ad.add (m * 4)) = some (.int .i64 a1) ∧ w'.cell? ⟨(ad.add (m * 4)).block, (ad.add (m * 4)).off + 1, none⟩ = some (.int .i64 i1) ∧ w'.cell? ⟨(ad.add (m * 4)).block, (ad.add (m * 4)).off + 2, none⟩ = some (.int .i64 n1) ∧ w'.cell? ⟨(ad.add (m * 4)).block, (ad.add (m * 4)).off + 3, none⟩ = some (.slice B1 m1 d1)) ∧ (w'.cell? (ad.add (k * 4)) = some (.int .i64 a2) ∧ w'.cell? ⟨(ad.add (k * 4)).block, (ad.add (k * 4)).off + 1, none⟩ = some (.int .i64 i2) ∧ w'.cell? ⟨(ad.add (k * 4)).block, (ad.add (k * 4)).off + 2, none⟩ = some (.int .i64 n2) ∧ w'.cell? ⟨(ad.add (k * 4)).block, (ad.add (k * 4)).off + 3, none⟩ = some (.slice B2 m2 d2)) ∧ Hid (Below w.heap.size w w'))
    (first | exact HQ.out _ HW.out.drew | exact HQ.out _ HK.out)
    (first | (go_at_call 190; (with_reducible refine (cmpW_any _ _ _ _ _ _ _ _ _ _ _ _ _).mono ?_); rw [HC.out]; rintro e w' ⟨rfl, hb⟩; have HK := hd_ (ba_ HW.out.drew hb); clear hb))
   go_wp2_with fail;go_roundw
   case rel => exact ⟨k + 1, by go_num, rfl, by omega, by omega, Hid.out (by assumption)⟩
   case measure => simp [intOf]; omega
  ·obtain rfl : i = m := by omega
   have hd : decide ((i : Int) < (i : Int)) = false := decide_eq_false (by omega)
   have HB := hd_ HW.out;go_wp2_with fail;refine wp_loop_rounds 1 ?_
   rw [rounds_succ];go_wp2_with fail;refine bodyPost_ret (results_none rfl _ _ _) rfl ?_
   exact ⟨rfl, HB.out⟩
set_option maxHeartbeats 4000000 in
set_option maxRecDepth 100000 in
theorem sym_lo (N : Nat) (ih : ∀ (v : Value) (qs : List Raw) (a m b : Nat) (w : World), b - a ≤ N → Rcs encW 4 w v qs → Sorted qs → qs.length ≤ 100000 → a < m → m < b → b ≤ qs.length →
   Calls Tryz.prog 214 #[v, .int .i64 a, .int .i64 m, .int .i64 b, .func (.func 190) #[] #[]] w fun e w' => e = .returned (.tuple #[]) ∧ Below w.heap.size w w')
  (v : Value) (qs : List Raw) (a m b : Nat) (w : World) (hN : b - a ≤ N + 1) (h : Rcs encW 4 w v qs) (hs : Sorted qs) (hl : qs.length ≤ 100000) (ham : a + 1 < m) (hmb : m + 1 < b) (hb : b ≤ qs.length) (hm : m ≤ (a + b) / 2) :
  Calls Tryz.prog 214 #[v, .int .i64 a, .int .i64 m, .int .i64 b, .func (.func 190) #[] #[]] w fun e w' => e = .returned (.tuple #[]) ∧ Below w.heap.size w w' := by
 have HI := hd_ h;have HO := hd_ hs;obtain ⟨A, c, rfl, hz⟩ := h;clear hz hs;have j0 : ((m : Int) - (a : Int) == 1) = false := beq_eq_false_iff_ne.2 (by omega)
 have j1 : ((b : Int) - (m : Int) == 1) = false := beq_eq_false_iff_ne.2 (by omega)
 obtain ⟨d, hd0⟩ : ∃ d : Nat, ((a : Int) + (b : Int)) / 2 = (d : Int) := ⟨(a + b) / 2, by omega⟩
 have hmd : m ≤ d := by omega
 have j2 : decide (d < m) = false := decide_eq_false (by omega)
 have HRec := hd_ fun (h0 : m < d) W (hb' : Below w.heap.size w W) => ih _ qs a m d W (by omega) (HI.out.below hb') HO.out hl (by omega) h0 (by omega)
 clear ih;go_enter Tryz.func214, Tryz.ntmps214
 go_wp2_with fail;go_loopw [20, 21] (fun s20 s21 wr => ∃ t : Nat, s20 = .int .i64 t ∧ s21 = .int .i64 m ∧ a ≤ t ∧ t ≤ m ∧ Hid (Below w.heap.size w wr)) (fun s20 _ _ => m - (intOf s20).toNat)
 case atStart => exact ⟨a, rfl, rfl, by omega, by omega, hd_ (Below.refl _ _)⟩
 case round =>
  obtain ⟨t, rfl, rfl, hj1, hj2, HW⟩ := hrel;by_cases hlt : t < m
  ·have hd : decide ((t : Int) < (m : Int)) = true := decide_eq_true (by omega)
   obtain ⟨k, hk⟩ : ∃ k : Nat, ((t : Int) + (m : Int)) / 2 = (k : Int) := ⟨(t + m) / 2, by omega⟩
   obtain ⟨p, hp⟩ : ∃ p : Nat, (d : Int) + (m : Int) - 1 - (k : Int) = (p : Int) := ⟨d + m - 1 - k, by omega⟩
   have i8 : IntKind.i64.wrap ((d : Int) + (m : Int) - 1 - (k : Int)) = (p : Int) := by rw [IntWalk.i64_in _ ⟨by omega, by omega⟩]; omega
   have i9 : IntKind.i64.wrap (p : Int) = (p : Int) := IntWalk.i64_in _ ⟨by omega, by omega⟩
   have hk1 : p < qs.length := by omega
   have hk2 : k < qs.length := by omega
   have HC := hd_ (sorted_cmp HO.out (show k < p by omega) hk1)
   have i3 : (0 : Int) ≤ (k : Int) := by omega
   have i4 : (k : Int) < (qs.length : Int) := by omega
   have i5 : (0 : Int) ≤ (p : Int) := by omega
   have i6 : (p : Int) < (qs.length : Int) := by omega
   obtain ⟨ad, rfl⟩ := HI.out.addr (by omega)
   have HS := hd_ fun w' (hb : Below w.heap.size w w') => And.intro (HI.out.raw hb (k := p) hk1) (And.intro (HI.out.raw hb (k := k) hk2) hb)
   generalize qs[p].1.1 = a1 at *;generalize qs[p].1.2 = i1 at *;generalize qs[p].2.1 = n1 at *;generalize qs[p].2.2.1 = B1 at *;generalize qs[p].2.2.2.1 = m1 at *;generalize qs[p].2.2.2.2 = d1 at *;generalize qs[k].1.1 = a2 at *;generalize qs[k].1.2 = i2 at *;generalize qs[k].2.1 = n2 at *;generalize qs[k].2.2.1 = B2 at *;generalize qs[k].2.2.2.1 = m2 at *;generalize qs[k].2.2.2.2 = d2 at *
   have HQ := hd_ fun w' (hb : Below w.heap.size w w') => (show (w'.cell? (ad.add (p * 4)) = some (.int .i64 a1) ∧ w'.cell? ⟨(ad.add (p * 4)).block, (ad.add (p * 4)).off + 1, none⟩ = some (.int .i64 i1) ∧ w'.cell? ⟨(ad.add (p * 4)).block, (ad.add (p * 4)).off + 2, none⟩ = some (.int .i64 n1) ∧ w'.cell? ⟨(ad.add (p * 4)).block, (ad.add (p * 4)).off + 3, none⟩ = some (.slice B1 m1 d1)) ∧ (w'.cell? (ad.add (k * 4)) = some (.int .i64 a2) ∧ w'.cell? ⟨(ad.add (k * 4)).block, (ad.add (k * 4)).off + 1, none⟩ = some (.int .i64 i2) ∧ w'.cell? ⟨(ad.add (k * 4)).block, (ad.add (k * 4)).off + 2, none⟩ = some (.int .i64 n2) ∧ w'.cell? ⟨(ad.add (k * 4)).block, (ad.add (k * 4)).off + 3, none⟩ = some (.slice B2 m2 d2)) ∧ Hid (Below w.heap.size w w') from by
    obtain ⟨⟨x, e, x1⟩, ⟨y, e2, y1⟩, hb⟩ := HS.out w' hb;injection e with e
    injection e2 with e2
    subst e e2;exact ⟨x1, y1, hd_ hb⟩)
   clear HS;go_wp2_with fail
   go_region_held3 (fun w' => (w'.cell? (ad.add (p * 4)) = some (.int .i64 a1) ∧ w'.cell? ⟨(ad.add (p * 4)).block, (ad.add (p * 4)).off + 1, none⟩ = some (.int .i64 i1) ∧ w'.cell? ⟨(ad.add (p * 4)).block, (ad.add (p * 4)).off + 2, none⟩ = some (.int .i64 n1) ∧ w'.cell? ⟨(ad.add (p * 4)).block, (ad.add (p * 4)).off + 3, none⟩ = some (.slice B1 m1 d1)) ∧ (w'.cell? (ad.add (k * 4)) = some (.int .i64 a2) ∧ w'.cell? ⟨(ad.add (k * 4)).block, (ad.add (k * 4)).off + 1, none⟩ = some (.int .i64 i2) ∧ w'.cell? ⟨(ad.add (k * 4)).block, (ad.add (k * 4)).off + 2, none⟩ = some (.int .i64 n2) ∧ w'.cell? ⟨(ad.add (k * 4)).block, (ad.add (k * 4)).off + 3, none⟩ = some (.slice B2 m2 d2)) ∧ Hid (Below w.heap.size w w'))
    (first | exact HQ.out _ HW.out.drew | exact HQ.out _ HK.out)
    (first | (go_at_call 190; (with_reducible refine (cmpW_any _ _ _ _ _ _ _ _ _ _ _ _ _).mono ?_); rw [HC.out]; rintro e w' ⟨rfl, hb⟩; have HK := hd_ (ba_ HW.out.drew hb); clear hb))
   go_wp2_with fail;go_roundw
   case rel => exact ⟨k + 1, by go_num, rfl, by omega, by omega, Hid.out (by assumption)⟩
   case measure => simp [intOf]; omega
  ·obtain rfl : t = m := by omega
   have hd : decide ((t : Int) < (t : Int)) = false := decide_eq_false (by omega)
   have hd1 : decide ((a : Int) < (t : Int)) = true := decide_eq_true (by omega)
   have he : IntKind.i64.wrap ((d : Int) + (t : Int) - (t : Int)) = (d : Int) := by rw [IntWalk.i64_in _ ⟨by omega, by omega⟩]; omega
   have hd2 : decide ((d : Int) < (d : Int)) = false := decide_eq_false (by omega)
   by_cases h0 : t < d
   ·have hd3 : decide ((t : Int) < (d : Int)) = true := decide_eq_true (by omega)
    have HR := hd_ (HRec.out h0 _ HW.out);go_wp2_with fail;(with_reducible refine HR.out.mono ?_)
    rintro e w1 ⟨rfl, hb1⟩;have HB := hd_ (ba_ HW.out hb1);clear hb1;go_wp2_with fail;go_end0
    exact ⟨rfl, HB.out⟩
   ·have hd3 : decide ((t : Int) < (d : Int)) = false := decide_eq_false (by omega)
    go_wp2_with fail;go_end0
    exact ⟨rfl, HW.out⟩
set_option maxHeartbeats 4000000 in
set_option maxRecDepth 100000 in
theorem sym_hi (N : Nat) (ih : ∀ (v : Value) (qs : List Raw) (a m b : Nat) (w : World), b - a ≤ N → Rcs encW 4 w v qs → Sorted qs → qs.length ≤ 100000 → a < m → m < b → b ≤ qs.length →
   Calls Tryz.prog 214 #[v, .int .i64 a, .int .i64 m, .int .i64 b, .func (.func 190) #[] #[]] w fun e w' => e = .returned (.tuple #[]) ∧ Below w.heap.size w w')
  (v : Value) (qs : List Raw) (a m b : Nat) (w : World) (hN : b - a ≤ N + 1) (h : Rcs encW 4 w v qs) (hs : Sorted qs) (hl : qs.length ≤ 100000) (ham : a + 1 < m) (hmb : m + 1 < b) (hb : b ≤ qs.length) (hm : (a + b) / 2 < m) :
  Calls Tryz.prog 214 #[v, .int .i64 a, .int .i64 m, .int .i64 b, .func (.func 190) #[] #[]] w fun e w' => e = .returned (.tuple #[]) ∧ Below w.heap.size w w' := by
 have HI := hd_ h;have HO := hd_ hs;obtain ⟨A, c, rfl, hz⟩ := h;clear hz hs;have j0 : ((m : Int) - (a : Int) == 1) = false := beq_eq_false_iff_ne.2 (by omega)
 have j1 : ((b : Int) - (m : Int) == 1) = false := beq_eq_false_iff_ne.2 (by omega)
 obtain ⟨d, hd0⟩ : ∃ d : Nat, ((a : Int) + (b : Int)) / 2 = (d : Int) := ⟨(a + b) / 2, by omega⟩
 have hmd : d < m := by omega
 have j2 : decide (d < m) = true := decide_eq_true (by omega)
 have HRec := hd_ fun W (hb' : Below w.heap.size w W) => ih _ qs d m b W (by omega) (HI.out.below hb') HO.out hl hmd (by omega) hb
 obtain ⟨s, hs0⟩ : ∃ s : Nat, (d : Int) + (m : Int) - (b : Int) = (s : Int) := ⟨d + m - b, by omega⟩
 clear ih;go_enter Tryz.func214, Tryz.ntmps214
 go_wp2_with fail;go_loopw [20, 21] (fun s20 s21 wr => ∃ t : Nat, s20 = .int .i64 t ∧ s21 = .int .i64 d ∧ s ≤ t ∧ t ≤ d ∧ Hid (Below w.heap.size w wr)) (fun s20 _ _ => d - (intOf s20).toNat)
 case atStart => exact ⟨s, rfl, rfl, by omega, by omega, hd_ (Below.refl _ _)⟩
 case round =>
  obtain ⟨t, rfl, rfl, hj1, hj2, HW⟩ := hrel;by_cases hlt : t < d
  ·have hd : decide ((t : Int) < (d : Int)) = true := decide_eq_true (by omega)
   obtain ⟨k, hk⟩ : ∃ k : Nat, ((t : Int) + (d : Int)) / 2 = (k : Int) := ⟨(t + d) / 2, by omega⟩
   obtain ⟨p, hp⟩ : ∃ p : Nat, (d : Int) + (m : Int) - 1 - (k : Int) = (p : Int) := ⟨d + m - 1 - k, by omega⟩
   have i8 : IntKind.i64.wrap ((d : Int) + (m : Int) - 1 - (k : Int)) = (p : Int) := by rw [IntWalk.i64_in _ ⟨by omega, by omega⟩]; omega
   have i9 : IntKind.i64.wrap (p : Int) = (p : Int) := IntWalk.i64_in _ ⟨by omega, by omega⟩
   have hk1 : p < qs.length := by omega
   have hk2 : k < qs.length := by omega
   have HC := hd_ (sorted_cmp HO.out (show k < p by omega) hk1)
   have i3 : (0 : Int) ≤ (k : Int) := by omega
   have i4 : (k : Int) < (qs.length : Int) := by omega
   have i5 : (0 : Int) ≤ (p : Int) := by omega
   have i6 : (p : Int) < (qs.length : Int) := by omega
   obtain ⟨ad, rfl⟩ := HI.out.addr (by omega)
   have HS := hd_ fun w' (hb : Below w.heap.size w w') => And.intro (HI.out.raw hb (k := p) hk1) (And.intro (HI.out.raw hb (k := k) hk2) hb)
   generalize qs[p].1.1 = a1 at *;generalize qs[p].1.2 = i1 at *;generalize qs[p].2.1 = n1 at *;generalize qs[p].2.2.1 = B1 at *;generalize qs[p].2.2.2.1 = m1 at *;generalize qs[p].2.2.2.2 = d1 at *;generalize qs[k].1.1 = a2 at *;generalize qs[k].1.2 = i2 at *;generalize qs[k].2.1 = n2 at *;generalize qs[k].2.2.1 = B2 at *;generalize qs[k].2.2.2.1 = m2 at *;generalize qs[k].2.2.2.2 = d2 at *
   have HQ := hd_ fun w' (hb : Below w.heap.size w w') => (show (w'.cell? (ad.add (p * 4)) = some (.int .i64 a1) ∧ w'.cell? ⟨(ad.add (p * 4)).block, (ad.add (p * 4)).off + 1, none⟩ = some (.int .i64 i1) ∧ w'.cell? ⟨(ad.add (p * 4)).block, (ad.add (p * 4)).off + 2, none⟩ = some (.int .i64 n1) ∧ w'.cell? ⟨(ad.add (p * 4)).block, (ad.add (p * 4)).off + 3, none⟩ = some (.slice B1 m1 d1)) ∧ (w'.cell? (ad.add (k * 4)) = some (.int .i64 a2) ∧ w'.cell? ⟨(ad.add (k * 4)).block, (ad.add (k * 4)).off + 1, none⟩ = some (.int .i64 i2) ∧ w'.cell? ⟨(ad.add (k * 4)).block, (ad.add (k * 4)).off + 2, none⟩ = some (.int .i64 n2) ∧ w'.cell? ⟨(ad.add (k * 4)).block, (ad.add (k * 4)).off + 3, none⟩ = some (.slice B2 m2 d2)) ∧ Hid (Below w.heap.size w w') from by
    obtain ⟨⟨x, e, x1⟩, ⟨y, e2, y1⟩, hb⟩ := HS.out w' hb;injection e with e
    injection e2 with e2
    subst e e2;exact ⟨x1, y1, hd_ hb⟩)
   clear HS;go_wp2_with fail
   go_region_held3 (fun w' => (w'.cell? (ad.add (p * 4)) = some (.int .i64 a1) ∧ w'.cell? ⟨(ad.add (p * 4)).block, (ad.add (p * 4)).off + 1, none⟩ = some (.int .i64 i1) ∧ w'.cell? ⟨(ad.add (p * 4)).block, (ad.add (p * 4)).off + 2, none⟩ = some (.int .i64 n1) ∧ w'.cell? ⟨(ad.add (p * 4)).block, (ad.add (p * 4)).off + 3, none⟩ = some (.slice B1 m1 d1)) ∧ (w'.cell? (ad.add (k * 4)) = some (.int .i64 a2) ∧ w'.cell? ⟨(ad.add (k * 4)).block, (ad.add (k * 4)).off + 1, none⟩ = some (.int .i64 i2) ∧ w'.cell? ⟨(ad.add (k * 4)).block, (ad.add (k * 4)).off + 2, none⟩ = some (.int .i64 n2) ∧ w'.cell? ⟨(ad.add (k * 4)).block, (ad.add (k * 4)).off + 3, none⟩ = some (.slice B2 m2 d2)) ∧ Hid (Below w.heap.size w w'))
    (first | exact HQ.out _ HW.out.drew | exact HQ.out _ HK.out)
    (first | (go_at_call 190; (with_reducible refine (cmpW_any _ _ _ _ _ _ _ _ _ _ _ _ _).mono ?_); rw [HC.out]; rintro e w' ⟨rfl, hb⟩; have HK := hd_ (ba_ HW.out.drew hb); clear hb))
   go_wp2_with fail;go_roundw
   case rel => exact ⟨k + 1, by go_num, rfl, by omega, by omega, Hid.out (by assumption)⟩
   case measure => simp [intOf]; omega
  ·obtain rfl : t = d := by omega
   have hd : decide ((t : Int) < (t : Int)) = false := decide_eq_false (by omega)
   have hd1 : decide ((t : Int) < (m : Int)) = true := decide_eq_true (by omega)
   have he : IntKind.i64.wrap ((t : Int) + (m : Int) - (t : Int)) = (m : Int) := by rw [IntWalk.i64_in _ ⟨by omega, by omega⟩]; omega
   have hd2 : decide ((m : Int) < (m : Int)) = false := decide_eq_false (by omega)
   have hd3 : decide ((m : Int) < (b : Int)) = true := decide_eq_true (by omega)
   have hd4 : decide ((a : Int) < (t : Int)) = true := decide_eq_true (by omega)
   have HR := hd_ (HRec.out _ HW.out);go_wp2_with fail;(with_reducible refine HR.out.mono ?_)
   rintro e w1 ⟨rfl, hb1⟩;have HB := hd_ (ba_ HW.out hb1);clear hb1;go_wp2_with fail;go_end0
   exact ⟨rfl, HB.out⟩
theorem sym_any (N : Nat) : ∀ (v : Value) (qs : List Raw) (a m b : Nat) (w : World), b - a ≤ N → Rcs encW 4 w v qs → Sorted qs → qs.length ≤ 100000 → a < m → m < b → b ≤ qs.length →
  Calls Tryz.prog 214 #[v, .int .i64 a, .int .i64 m, .int .i64 b, .func (.func 190) #[] #[]] w fun e w' => e = .returned (.tuple #[]) ∧ Below w.heap.size w w' := by
 induction N with
 | zero => intro v qs a m b w hN _ _ _ h1 h2 _; omega
 | succ N ih =>
  intro v qs a m b w hN h hs hl h1 h2 hb;by_cases e1 : m = a + 1
  ·subst e1
   exact sym_left v qs a b w h hs hl h2 hb
  ·by_cases e2 : b = m + 1
   ·subst e2
    exact sym_right v qs a m w h hs hl (by omega) hb
   ·by_cases e3 : m ≤ (a + b) / 2
    ·exact sym_lo N ih v qs a m b w hN h hs hl (by omega) (by omega) hb e3
    ·exact sym_hi N ih v qs a m b w hN h hs hl (by omega) (by omega) hb (by omega)
end
section
open Go Go.RowKit Sets RowSets
set_option maxHeartbeats 4000000 in
theorem stable_any (v : Value) (qs : List Raw) (w : World) (h : Rcs encW 4 w v qs) (hs : Sorted qs) (hl : qs.length ≤ 100000) :
  Calls Tryz.prog 201 #[v, .int .i64 qs.length, .func (.func 190) #[] #[]] w fun e w' => e = .returned (.tuple #[]) ∧ Below w.heap.size w w' := by
 have HI := hd_ h;have HO := hd_ hs;obtain ⟨A, c, rfl, hz⟩ := h;clear hz hs;generalize hN : qs.length = N at *;have HN := hd_ hN;have CI := hd_ fun (a b : Nat) (h1 : a ≤ b) (h2 : b ≤ N) W (hb : Below w.heap.size w W) => insertion_any (.slice A N c) qs a b W (HI.out.below hb) HO.out (by have := HN.out; omega) h1 (by have := HN.out; omega)
 have CS := hd_ fun (a m b : Nat) (h1 : a < m) (h2 : m < b) (h3 : b ≤ N) W (hb : Below w.heap.size w W) => sym_any (b - a) (.slice A N c) qs a m b W (Nat.le_refl _) (HI.out.below hb) HO.out (by have := HN.out; omega) h1 h2 (by have := HN.out; omega)
 clear hN HI HO;go_enter Tryz.func201, Tryz.ntmps201
 go_wp2_with fail;go_loopw [7, 8] (fun s7 s8 wr => ∃ a b : Nat, s7 = .int .i64 a ∧ s8 = .int .i64 b ∧ Hid (b = a + 20) ∧ a ≤ N ∧ Hid (Below w.heap.size w wr)) (fun s7 _ _ => N - (intOf s7).toNat)
 case atStart => exact ⟨0, 20, rfl, rfl, hd_ rfl, by omega, hd_ (Below.refl _ _)⟩
 case round =>
  obtain ⟨a, b, rfl, rfl, HAB, haN, HW⟩ := hrel;by_cases hlt : b ≤ N
  ·have hd : decide (b ≤ N) = true := decide_eq_true hlt
   go_wp2_with fail;(with_reducible refine (CI.out a b (by have := HAB.out; omega) hlt _ HW.out).mono ?_)
   rintro e w1 ⟨rfl, hb⟩;have HB := hd_ (ba_ HW.out hb);clear hb;go_wp2_with fail;go_roundw
   case rel => exact ⟨b, b + 20, rfl, by go_num, hd_ rfl, by omega, HB⟩
   case measure => have := HAB.out; simp [intOf]; omega
  ·have hd : decide (b ≤ N) = false := decide_eq_false hlt
   go_wp2_with fail;(with_reducible refine (CI.out a N haN (Nat.le_refl _) _ HW.out).mono ?_)
   rintro e w1 ⟨rfl, hb⟩;have HB := hd_ (ba_ HW.out hb);clear hb HW hd hlt HAB haN;go_wp2_with fail;go_loopw [6] (fun s6 wr => ∃ z : Nat, s6 = .int .i64 z ∧ 20 ≤ z ∧ z ≤ 2 * N + 20 ∧ Hid (Below w.heap.size w wr)) (fun s6 _ => 2 * N + 21 - (intOf s6).toNat)
   case atStart => exact ⟨20, rfl, by omega, by omega, HB⟩
   case round =>
    obtain ⟨z, rfl, hz1, hz2, HW⟩ := hrel;by_cases hzN : z < N
    ·have hd : decide (z < N) = true := decide_eq_true hzN
     obtain ⟨y, hy⟩ : ∃ y : Nat, 2 * (z : Int) = (y : Int) := ⟨2 * z, by omega⟩
     have hy2 : (z : Int) * 2 = (y : Int) := by omega
     have hyw : IntKind.i64.wrap (y : Int) = (y : Int) := IntWalk.i64_in _ ⟨by omega, by omega⟩
     go_wp2_with fail;go_loopw [7, 8] (fun s7 s8 wr => ∃ a b : Nat, s7 = .int .i64 a ∧ s8 = .int .i64 b ∧ Hid (b = a + y) ∧ a ≤ N ∧ Hid (Below w.heap.size w wr)) (fun s7 _ _ => N - (intOf s7).toNat)
     case atStart => exact ⟨0, y, rfl, rfl, hd_ (by omega), by omega, HW⟩
     case round =>
      obtain ⟨a, b, rfl, rfl, HAB, haN, HV⟩ := hrel;obtain ⟨m, hm⟩ : ∃ m : Nat, (a : Int) + (z : Int) = (m : Int) := ⟨a + z, by omega⟩
      have hmw : IntKind.i64.wrap (m : Int) = (m : Int) := IntWalk.i64_in _ ⟨by omega, by omega⟩
      by_cases hlt : b ≤ N
      ·have hd2 : decide (b ≤ N) = true := decide_eq_true hlt
       go_wp2_with fail;(with_reducible refine (CS.out a m b (by omega) (by have := HAB.out; omega) hlt _ HV.out).mono ?_)
       rintro e w1 ⟨rfl, hb⟩;have HB2 := hd_ (ba_ HV.out hb);clear hb;go_wp2_with fail;go_roundw
       case rel => exact ⟨b, b + y, rfl, by go_num, hd_ rfl, by omega, HB2⟩
       case measure => have := HAB.out; simp [intOf]; omega
      ·have hd2 : decide (b ≤ N) = false := decide_eq_false hlt
       by_cases hmN : m < N
       ·have hd3 : decide (m < N) = true := decide_eq_true hmN
        go_wp2_with fail;(with_reducible refine (CS.out a m N (by omega) hmN (Nat.le_refl _) _ HV.out).mono ?_)
        rintro e w1 ⟨rfl, hb⟩;have HB2 := hd_ (ba_ HV.out hb);clear hb;go_wp2_with fail;go_roundw
        case rel => exact ⟨y, rfl, by omega, by omega, HB2⟩
        case measure => simp [intOf]; omega
       ·have hd3 : decide (m < N) = false := decide_eq_false hmN
        go_wp2_with fail;go_roundw
        case rel => exact ⟨y, rfl, by omega, by omega, HV⟩
        case measure => simp [intOf]; omega
    ·have hd : decide (z < N) = false := decide_eq_false hzN
     go_wp2_with fail;go_end0
     exact ⟨rfl, HW.out⟩
end
section
open Go Go.RowKit Sets RowSets
theorem sortStable_any (v : Value) (qs : List Raw) (w : World) (h : Rcs encW 4 w v qs) (hs : Sorted qs) (hl : qs.length ≤ 100000) :
  Calls Tryz.prog 189 #[v, .func (.func 190) #[] #[]] w fun e w' => e = .returned (.tuple #[]) ∧ Below w.heap.size w w' := by
 have HI := hd_ h;obtain ⟨A, c, rfl, hz⟩ := h;clear hz;go_enter Tryz.func189, Tryz.ntmps189
 go_wp2_with fail;refine (stable_any _ qs w HI.out hs hl).mono ?_
 rintro e w1 ⟨rfl, hb⟩;have HB := hd_ hb;clear hb;go_wp2_with fail;go_end0
 exact ⟨rfl, HB.out⟩
theorem sorted_apart {qs : List Raw} (h : Sorted qs) {j : Nat} (hj : j + 1 < qs.length) : isI (qs[j + 1].1.1, qs[j + 1].1.2) (qs[j].1.1, qs[j].1.2) = false := by
 have hl : lt qs[j].1 qs[j + 1].1 := by
  have := List.pairwise_iff_getElem.1 h j (j + 1) (by simpa using (by omega : j < qs.length)) (by simpa using hj) (by omega)
  simpa using this
 refine decide_eq_false fun e => ap_ qs[j].1 ?_
 have e2 : qs[j + 1].1 = qs[j].1 := e
 rw [e2] at hl;exact hl
set_option maxHeartbeats 2000000 in
theorem compactW_any (v : Value) (qs : List Raw) (w : World) (h : Rcs encW 4 w v qs) (hs : Sorted qs) (hl : qs.length ≤ 100000) :
  Calls Tryz.prog 191 #[v, .func (.func 192) #[] #[]] w fun e w' => e = .returned v ∧ Below w.heap.size w w' := by
 have HI := hd_ h;have HO := hd_ hs;obtain ⟨A, c, rfl, hz⟩ := h;clear hz hs;by_cases h2 : qs.length < 2
 ·have hd : decide ((qs.length : Int) < 2) = true := by simp; omega
  go_enter Tryz.func191, Tryz.ntmps191
  go_wp2_with fail;go_ret;exact ⟨rfl, Below.refl _ _⟩
 ·have hd0 : decide ((qs.length : Int) < 2) = false := by simp; omega
  go_enter Tryz.func191, Tryz.ntmps191
  go_wp2_with fail;go_loopw [5] (fun s5 wr => ∃ j : Nat, s5 = .int .i64 ((j : Int) + 1) ∧ j + 1 ≤ qs.length ∧ Hid (Below w.heap.size w wr)) (fun s5 _ => qs.length + 1 - (intOf s5).toNat)
  case atStart => exact ⟨0, rfl, by omega, hd_ (Below.refl _ _)⟩
  case round =>
   obtain ⟨j, rfl, hjl, HW⟩ := hrel;by_cases hlt : j + 1 < qs.length
   ·have hd : decide (((j : Int) + 1) < (qs.length : Int)) = true := decide_eq_true (by omega)
    have hk1 : j + 1 < qs.length := hlt
    have hk2 : j < qs.length := by omega
    have HC := hd_ (sorted_apart HO.out hk1);have i1 : IntKind.i64.wrap ((j : Int) + 1 - 1) = (j : Int) := by rw [IntWalk.i64_in _ ⟨by omega, by omega⟩]; omega
    have i2 : IntKind.i64.wrap (j : Int) = (j : Int) := IntWalk.i64_in _ ⟨by omega, by omega⟩
    have i3 : (0 : Int) ≤ (j : Int) := by omega
    have i4 : (j : Int) < (qs.length : Int) := by omega
    have i5 : (0 : Int) ≤ (j : Int) + 1 := by omega
    have i6 : (j : Int) + 1 < (qs.length : Int) := by omega
    have i7 : ((j : Int) + 1).toNat = j + 1 := by omega
    obtain ⟨ad, rfl⟩ := HI.out.addr (by omega)
    have HS := hd_ fun w' (hb : Below w.heap.size w w') => And.intro (HI.out.raw hb (k := j + 1) hk1) (And.intro (HI.out.raw hb (k := j) hk2) hb)
    generalize qs[j + 1].1.1 = a1 at *;generalize qs[j + 1].1.2 = i1 at *;generalize qs[j + 1].2.1 = n1 at *;generalize qs[j + 1].2.2.1 = B1 at *;generalize qs[j + 1].2.2.2.1 = m1 at *;generalize qs[j + 1].2.2.2.2 = d1 at *;generalize qs[j].1.1 = a2 at *;generalize qs[j].1.2 = i2 at *;generalize qs[j].2.1 = n2 at *;generalize qs[j].2.2.1 = B2 at *;generalize qs[j].2.2.2.1 = m2 at *;generalize qs[j].2.2.2.2 = d2 at *
    have HQ := hd_ fun w' (hb : Below w.heap.size w w') => (show (w'.cell? (ad.add ((j + 1) * 4)) = some (.int .i64 a1) ∧ w'.cell? ⟨(ad.add ((j + 1) * 4)).block, (ad.add ((j + 1) * 4)).off + 1, none⟩ = some (.int .i64 i1) ∧ w'.cell? ⟨(ad.add ((j + 1) * 4)).block, (ad.add ((j + 1) * 4)).off + 2, none⟩ = some (.int .i64 n1) ∧ w'.cell? ⟨(ad.add ((j + 1) * 4)).block, (ad.add ((j + 1) * 4)).off + 3, none⟩ = some (.slice B1 m1 d1)) ∧ (w'.cell? (ad.add (j * 4)) = some (.int .i64 a2) ∧ w'.cell? ⟨(ad.add (j * 4)).block, (ad.add (j * 4)).off + 1, none⟩ = some (.int .i64 i2) ∧ w'.cell? ⟨(ad.add (j * 4)).block, (ad.add (j * 4)).off + 2, none⟩ = some (.int .i64 n2) ∧ w'.cell? ⟨(ad.add (j * 4)).block, (ad.add (j * 4)).off + 3, none⟩ = some (.slice B2 m2 d2)) ∧ Hid (Below w.heap.size w w') from by
     obtain ⟨⟨x, e, x1⟩, ⟨y, e2, y1⟩, hb⟩ := HS.out w' hb;injection e with e
     injection e2 with e2
     subst e e2;exact ⟨x1, y1, hd_ hb⟩)
    clear HS;go_wp2_with fail
    go_region_held3 (fun w' => (w'.cell? (ad.add ((j + 1) * 4)) = some (.int .i64 a1) ∧ w'.cell? ⟨(ad.add ((j + 1) * 4)).block, (ad.add ((j + 1) * 4)).off + 1, none⟩ = some (.int .i64 i1) ∧ w'.cell? ⟨(ad.add ((j + 1) * 4)).block, (ad.add ((j + 1) * 4)).off + 2, none⟩ = some (.int .i64 n1) ∧ w'.cell? ⟨(ad.add ((j + 1) * 4)).block, (ad.add ((j + 1) * 4)).off + 3, none⟩ = some (.slice B1 m1 d1)) ∧ (w'.cell? (ad.add (j * 4)) = some (.int .i64 a2) ∧ w'.cell? ⟨(ad.add (j * 4)).block, (ad.add (j * 4)).off + 1, none⟩ = some (.int .i64 i2) ∧ w'.cell? ⟨(ad.add (j * 4)).block, (ad.add (j * 4)).off + 2, none⟩ = some (.int .i64 n2) ∧ w'.cell? ⟨(ad.add (j * 4)).block, (ad.add (j * 4)).off + 3, none⟩ = some (.slice B2 m2 d2)) ∧ Hid (Below w.heap.size w w'))
     (first | exact HQ.out _ HW.out.drew | exact HQ.out _ HK.out)
     (first | (go_at_call 192; (with_reducible refine (eqW_any _ _ _ _ _ _ _ _ _ _ _ _ _).mono ?_); rw [HC.out]; rintro e w' ⟨rfl, hb⟩; have HK := hd_ (ba_ HW.out.drew hb); clear hb))
    go_wp2_with fail;go_roundw
    case rel => exact ⟨j + 1, by go_num, by omega, Hid.out (by assumption)⟩
    case measure => simp [intOf]; omega
   ·have hd : decide (((j : Int) + 1) < (qs.length : Int)) = false := decide_eq_false (by omega)
    go_wp2_with fail;go_ret;exact ⟨rfl, HW.out⟩
theorem firsts_any (v : Value) (qs : List Raw) (w : World) (h : Rcs encW 4 w v qs) (hs : Sorted qs) (hl : qs.length ≤ 100000) :
  Calls Tryz.prog 163 #[v] w fun e w' => ∃ v', e = .returned v' ∧ OwnsW w' w.heap.size v' qs ∧ Below w.heap.size w w' := by
 have HI := hd_ h;have HO := hd_ hs;clear h hs;go_enter Tryz.func163, Tryz.ntmps163
 go_wp2_with fail;refine (cloneW_any v qs w HI.out hl).mono ?_
 rintro e w1 ⟨v1, rfl, ho, hb⟩;have O1 := hd_ ho;have B1 := hd_ hb;clear ho hb;go_wp2_with fail;refine (sortStable_any v1 qs w1 (rcs_owns encW_len O1.out) HO.out hl).mono ?_
 rintro e w2 ⟨rfl, hb⟩;have B2 := hd_ (ba_ B1.out hb);have O2 := hd_ (O1.out.below hb);clear hb;go_wp2_with fail;refine (compactW_any v1 qs w2 (rcs_owns encW_len O2.out) HO.out hl).mono ?_
 rintro e w3 ⟨rfl, hb⟩;have B3 := hd_ (ba_ B2.out hb);have O3 := hd_ (O2.out.below hb);clear hb;go_wp2_with fail;go_ret;exact ⟨_, rfl, O3.out, B3.out⟩
end
end Go.Proofs.YthkkipbmlafdiaaGreat
