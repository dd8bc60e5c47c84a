/-
  Contracts and plain facts.
-/
import Derived.Test.YthkkipbmlafdiaaGreatOy
import Derived.Test.YthkkipbmlafdiaaGreatB14
set_option maxRecDepth 20000
namespace Go.Proofs.YthkkipbmlafdiaaGreat
section
open Go Go.RowKit Ros
set_option maxHeartbeats 4000000 in
theorem mayFloors_any (v : Value) (l : List Id2) (w : World) (h : Ids w v l) (hl : l.length ≤ 100000) :
  Calls Tryz.prog 93 #[v] w fun e w' => e = .returned (.bool (mayF l)) ∧ Below w.heap.size w w' := by
 have HI := hd_ h;obtain ⟨A, c, rfl, hz⟩ := h;clear hz;go_enter Tryz.func93, Tryz.ntmps93
 go_wp2_with fail;go_loopw [7] (fun s7 wr => ∃ k : Nat, k ≤ l.length ∧ s7 = .int .i64 k ∧ Hid (∀ j, j < k → okF l j = true) ∧ Hid (Below w.heap.size w wr)) (fun s7 _ => l.length - (intOf s7).toNat)
 case atStart => exact ⟨0, by omega, rfl, hd_ (fun j hj => absurd hj (by omega)), hd_ (Below.refl _ _)⟩
 case round =>
  obtain ⟨k, hkl, rfl, HT, HW⟩ := hrel;have i3 : (0 : Int) ≤ (k : Int) := by omega
  by_cases hlt : k < l.length
  ·have hd : decide ((k : Int) < (l.length : Int)) = true := by simp; omega
   have i4 : (k : Int) < (l.length : Int) := by omega
   obtain ⟨ad, rfl, c1, c2⟩ := HI.out.at_ HW.out hlt
   have HX : Hid (∀ b, okF l k = b → (b = true → ∀ j, j < k + 1 → okF l j = true) ∧ (b = false → mayF l = false)) := hd_ fun b hb => ⟨fun e j hj => by
    by_cases h : j < k
    ·exact HT.out j h
    ·obtain rfl : j = k := by omega
     rw [hb, e], fun e => mayF_no hlt (hb.trans e)⟩
   have HO := hd_ (okF_is hlt);have XB := hd_ (ao_ wr l[k].1 l[k].2);have B1 := hd_ (below_box HW.out (.cells #[.int .i64 l[k].1, .int .i64 l[k].2] 29) (Nat.le_refl _));have HC := hd_ fun W => may_anyROS l[k].1 l[k].2 W
   have HK0 := hd_ fun W (hb : Below (wr.alloc (.cells #[.int .i64 l[k].1, .int .i64 l[k].2] 29)).heap.size (wr.alloc (.cells #[.int .i64 l[k].1, .int .i64 l[k].2] 29)) W) => And.intro (ae_ (ag_ XB.out hb)) (hd_ hb)
   cases hv : vid l[k].1 l[k].2
   ·rw [hv] at HC HO
    have HF := hd_ ((HX.out _ HO.out).2 rfl);obtain ⟨x1, x2⟩ := ae_ XB.out;clear hv HX HO;generalize l[k].1 = p at *;generalize l[k].2 = q at *;go_wp2_with fail;refine wp_region_held_drew (S := fun w' => (w'.cell? ⟨wr.heap.size, 0, none⟩ = some (.int .i64 p) ∧ w'.cell? ⟨wr.heap.size, 1, none⟩ = some (.int .i64 q)) ∧ Hid (Below (wr.alloc (.cells #[.int .i64 p, .int .i64 q] 29)).heap.size (wr.alloc (.cells #[.int .i64 p, .int .i64 q] 29)) w')) (by kernel_rfl) ?_ (fun hHeld => ?_)
    ·exact HK0.out _ (Below.refl _ _).drew
    refine ty_ 0 ?_;(try simp only [Act.put, si0, si1, si2]);refine a1_ 1 fun Kq hKq => ?_;go_simp;clear hHeld;(go_at_call 64; (with_reducible refine (HC.out _).mono ?_); rintro e w' ⟨rfl, hb⟩; have HK := hd_ (show Below (wr.alloc (.cells #[.int .i64 p, .int .i64 q] 29)).heap.size (wr.alloc (.cells #[.int .i64 p, .int .i64 q] 29)) w' from (Below.refl _ _).drew.trans hb); clear hb)
    refine hKq.out _ _ ?_ (fun hHeld => ?_)
    ·(try dsimp only); exact HK0.out _ HK.out
    clear hKq Kq;(try simp only [Act.put, si0, si1, si2]);refine ty_ 2 ?_;refine ty_ 3 ?_;(try simp only [Act.put, si0, si1, si2]);refine tn_ 4 ?_;(try simp only [Act.put, si0, si1, si2]);refine tn_ 5 ?_;(try simp only [Act.put, si0, si1, si2]);refine tn_ 6 ?_;(try simp only [Act.put, si0, si1, si2]);refine tn_ 7 ?_;(try simp only [Act.put, si0, si1, si2]);refine tn_ 8 ?_;(try simp only [Act.put, si0, si1, si2]);refine tn_ 9 ?_;(try simp only [Act.put, si0, si1, si2]);refine tn_ 10 ?_;(try simp only [Act.put, si0, si1, si2]);refine tn_ 11 ?_;(try simp only [Act.put, si0, si1, si2]);refine tn_ 12 ?_;(try simp only [Act.put, si0, si1, si2]);refine tn_ 13 ?_;(try simp only [Act.put, si0, si1, si2]);refine tn_ 14 ?_;(try simp only [Act.put, si0, si1, si2]);refine tn_ 15 ?_;(try simp only [Act.put, si0, si1, si2]);refine tn_ 16 ?_;(try simp only [Act.put, si0, si1, si2]);refine ty_ 17 ?_;(try simp only [Act.put, si0, si1, si2]);refine wd_ ?_;go_wp2_with fail;go_ret;exact ⟨af_ HF.out.symm, B1.out.trans (HK.out.mono B1.out.size)⟩
   ·rw [hv] at HC HO
    by_cases hk0 : k = 0
    ·have hk1 : decide (0 < k) = false := by simp; omega
     have hk2 : decide ((0 : Int) < (k : Int)) = false := by simp; omega
     have hk3 : decide ((k : Int) > 0) = false := by simp; omega
     have HF := hd_ ((HX.out _ HO.out).1 (by simp [hk0]))
     obtain ⟨x1, x2⟩ := ae_ XB.out;clear hv HX HO hk0;generalize l[k].1 = p at *;generalize l[k].2 = q at *;go_wp2_with fail;refine wp_region_held_drew (S := fun w' => (w'.cell? ⟨wr.heap.size, 0, none⟩ = some (.int .i64 p) ∧ w'.cell? ⟨wr.heap.size, 1, none⟩ = some (.int .i64 q)) ∧ Hid (Below (wr.alloc (.cells #[.int .i64 p, .int .i64 q] 29)).heap.size (wr.alloc (.cells #[.int .i64 p, .int .i64 q] 29)) w')) (by kernel_rfl) ?_ (fun hHeld => ?_)
     ·exact HK0.out _ (Below.refl _ _).drew
     refine ty_ 0 ?_;(try simp only [Act.put, si0, si1, si2]);refine a1_ 1 fun Kq hKq => ?_;go_simp;clear hHeld;(go_at_call 64; (with_reducible refine (HC.out _).mono ?_); rintro e w' ⟨rfl, hb⟩; have HK := hd_ (show Below (wr.alloc (.cells #[.int .i64 p, .int .i64 q] 29)).heap.size (wr.alloc (.cells #[.int .i64 p, .int .i64 q] 29)) w' from (Below.refl _ _).drew.trans hb); clear hb)
     refine hKq.out _ _ ?_ (fun hHeld => ?_)
     ·(try dsimp only); exact HK0.out _ HK.out
     clear hKq Kq;(try simp only [Act.put, si0, si1, si2]);refine ty_ 2 ?_;refine ty_ 3 ?_;try simp only [Act.put, si0, si1, si2]
     first | refine ty_ 4 ?_ | refine tn_ 4 ?_
     try simp only [Act.put, si0, si1, si2]
     first | refine ty_ 5 ?_ | refine tn_ 5 ?_
     try simp only [Act.put, si0, si1, si2]
     first | refine ty_ 6 ?_ | refine tn_ 6 ?_
     (try simp only [Act.put, si0, si1, si2]);refine tn_ 7 ?_;(try simp only [Act.put, si0, si1, si2]);refine tn_ 8 ?_;(try simp only [Act.put, si0, si1, si2]);refine tn_ 9 ?_;(try simp only [Act.put, si0, si1, si2]);refine tn_ 10 ?_;(try simp only [Act.put, si0, si1, si2]);refine tn_ 11 ?_;(try simp only [Act.put, si0, si1, si2]);refine tn_ 12 ?_;(try simp only [Act.put, si0, si1, si2]);refine tn_ 13 ?_;(try simp only [Act.put, si0, si1, si2]);refine tn_ 14 ?_;(try simp only [Act.put, si0, si1, si2]);refine tn_ 15 ?_;try simp only [Act.put, si0, si1, si2]
     first | refine ty_ 16 ?_ | refine tn_ 16 ?_
     (try simp only [Act.put, si0, si1, si2]);refine ty_ 17 ?_;(try simp only [Act.put, si0, si1, si2]);refine wd_ ?_;go_wp2_with fail;go_roundw
     case rel => exact ⟨k + 1, by omega, by go_num, HF, hd_ (B1.out.trans (HK.out.mono B1.out.size))⟩
     case measure => simp [intOf]; omega
    ·obtain ⟨t, rfl⟩ : ∃ t, k = t + 1 := ⟨k - 1, by omega⟩
     have hk0' : decide (t + 1 = 0) = false := by simp
     have i1 : IntKind.i64.wrap ((t : Int) + 1 - 1) = (t : Int) := by rw [IntWalk.i64_in _ ⟨by omega, by omega⟩]; omega
     have i2 : IntKind.i64.wrap (t : Int) = (t : Int) := IntWalk.i64_in _ ⟨by omega, by omega⟩
     have i5 : (0 : Int) ≤ (t : Int) := by omega
     have i6 : (t : Int) < (l.length : Int) := by omega
     have i7 : ((t : Int) + 1).toNat = t + 1 := by omega
     have i8 : decide ((t : Int) + 1 > 0) = true := decide_eq_true (by omega)
     have i9 : decide (0 < (t : Int) + 1) = true := decide_eq_true (by omega)
     have HI2 := hd_ fun W (hb : Below w.heap.size w W) => And.intro (cell1 HI.out hb (show t < l.length by omega)) (cell2 HI.out hb (show t < l.length by omega))
     have HO2 : Hid (okF l (t + 1) = decide (l[t].1 < l[t + 1].1)) := hd_ (by rw [HO.out]; simp)
     have HK1 := hd_ fun W (hb : Below (wr.alloc (.cells #[.int .i64 l[t + 1].1, .int .i64 l[t + 1].2] 29)).heap.size (wr.alloc (.cells #[.int .i64 l[t + 1].1, .int .i64 l[t + 1].2] 29)) W) => And.intro (HK0.out W hb).1 (And.intro (HI2.out W (B1.out.trans (hb.mono B1.out.size))) (HK0.out W hb).2)
     clear hv HO HK0 hk0';by_cases hlt2 : l[t].1 < l[t + 1].1
     ·have HF := hd_ ((HX.out _ HO2.out).1 (decide_eq_true hlt2))
      have hg : decide (l[t].1 ≥ l[t + 1].1) = false := decide_eq_false (by omega)
      have hg2 : decide (l[t + 1].1 ≤ l[t].1) = false := decide_eq_false (by omega)
      obtain ⟨x1, x2⟩ := ae_ XB.out;clear HX HO2 HI2 hlt2;generalize l[t + 1].1 = p at *;generalize l[t + 1].2 = q at *;generalize l[t].1 = p2 at *;generalize l[t].2 = q2 at *;go_wp2_with fail;refine wp_region_held_drew (S := fun w' => (w'.cell? ⟨wr.heap.size, 0, none⟩ = some (.int .i64 p) ∧ w'.cell? ⟨wr.heap.size, 1, none⟩ = some (.int .i64 q)) ∧ (w'.cell? (ad.add (t * 2)) = some (.int .i64 p2) ∧ w'.cell? ⟨(ad.add (t * 2)).block, (ad.add (t * 2)).off + 1, none⟩ = some (.int .i64 q2)) ∧ Hid (Below (wr.alloc (.cells #[.int .i64 p, .int .i64 q] 29)).heap.size (wr.alloc (.cells #[.int .i64 p, .int .i64 q] 29)) w')) (by kernel_rfl) ?_ (fun hHeld => ?_)
      ·exact HK1.out _ (Below.refl _ _).drew
      refine ty_ 0 ?_;(try simp only [Act.put, si0, si1, si2]);refine a1_ 1 fun Kq hKq => ?_;go_simp;clear hHeld;(go_at_call 64; (with_reducible refine (HC.out _).mono ?_); rintro e w' ⟨rfl, hb⟩; have HK := hd_ (show Below (wr.alloc (.cells #[.int .i64 p, .int .i64 q] 29)).heap.size (wr.alloc (.cells #[.int .i64 p, .int .i64 q] 29)) w' from (Below.refl _ _).drew.trans hb); clear hb)
      refine hKq.out _ _ ?_ (fun hHeld => ?_)
      ·(try dsimp only); exact HK1.out _ HK.out
      clear hKq Kq;(try simp only [Act.put, si0, si1, si2]);refine ty_ 2 ?_;refine ty_ 3 ?_;try simp only [Act.put, si0, si1, si2]
      first | refine ty_ 4 ?_ | refine tn_ 4 ?_
      try simp only [Act.put, si0, si1, si2]
      first | refine ty_ 5 ?_ | refine tn_ 5 ?_
      try simp only [Act.put, si0, si1, si2]
      first | refine ty_ 6 ?_ | refine tn_ 6 ?_
      try simp only [Act.put, si0, si1, si2]
      first | refine ty_ 7 ?_ | refine tn_ 7 ?_
      try simp only [Act.put, si0, si1, si2]
      first | refine ty_ 8 ?_ | refine tn_ 8 ?_
      try simp only [Act.put, si0, si1, si2]
      first | refine ty_ 9 ?_ | refine tn_ 9 ?_
      try simp only [Act.put, si0, si1, si2]
      first | refine ty_ 10 ?_ | refine tn_ 10 ?_
      try simp only [Act.put, si0, si1, si2]
      first | refine ty_ 11 ?_ | refine tn_ 11 ?_
      try simp only [Act.put, si0, si1, si2]
      first | refine ty_ 12 ?_ | refine tn_ 12 ?_
      try simp only [Act.put, si0, si1, si2]
      first | refine ty_ 13 ?_ | refine tn_ 13 ?_
      try simp only [Act.put, si0, si1, si2]
      first | refine ty_ 14 ?_ | refine tn_ 14 ?_
      try simp only [Act.put, si0, si1, si2]
      first | refine ty_ 15 ?_ | refine tn_ 15 ?_
      try simp only [Act.put, si0, si1, si2]
      first | refine ty_ 16 ?_ | refine tn_ 16 ?_
      (try simp only [Act.put, si0, si1, si2]);refine ty_ 17 ?_;(try simp only [Act.put, si0, si1, si2]);refine wd_ ?_;go_wp2_with fail;go_roundw
      case rel => exact ⟨t + 1 + 1, by omega, by go_num, HF, hd_ (B1.out.trans (HK.out.mono B1.out.size))⟩
      case measure => simp [intOf]; omega
     ·have HF := hd_ ((HX.out _ HO2.out).2 (decide_eq_false hlt2))
      have hg : decide (l[t].1 ≥ l[t + 1].1) = true := decide_eq_true (by omega)
      have hg2 : decide (l[t + 1].1 ≤ l[t].1) = true := decide_eq_true (by omega)
      obtain ⟨x1, x2⟩ := ae_ XB.out;clear HX HO2 HI2 hlt2;generalize l[t + 1].1 = p at *;generalize l[t + 1].2 = q at *;generalize l[t].1 = p2 at *;generalize l[t].2 = q2 at *;go_wp2_with fail;refine wp_region_held_drew (S := fun w' => (w'.cell? ⟨wr.heap.size, 0, none⟩ = some (.int .i64 p) ∧ w'.cell? ⟨wr.heap.size, 1, none⟩ = some (.int .i64 q)) ∧ (w'.cell? (ad.add (t * 2)) = some (.int .i64 p2) ∧ w'.cell? ⟨(ad.add (t * 2)).block, (ad.add (t * 2)).off + 1, none⟩ = some (.int .i64 q2)) ∧ Hid (Below (wr.alloc (.cells #[.int .i64 p, .int .i64 q] 29)).heap.size (wr.alloc (.cells #[.int .i64 p, .int .i64 q] 29)) w')) (by kernel_rfl) ?_ (fun hHeld => ?_)
      ·exact HK1.out _ (Below.refl _ _).drew
      refine ty_ 0 ?_;(try simp only [Act.put, si0, si1, si2]);refine a1_ 1 fun Kq hKq => ?_;go_simp;clear hHeld;(go_at_call 64; (with_reducible refine (HC.out _).mono ?_); rintro e w' ⟨rfl, hb⟩; have HK := hd_ (show Below (wr.alloc (.cells #[.int .i64 p, .int .i64 q] 29)).heap.size (wr.alloc (.cells #[.int .i64 p, .int .i64 q] 29)) w' from (Below.refl _ _).drew.trans hb); clear hb)
      refine hKq.out _ _ ?_ (fun hHeld => ?_)
      ·(try dsimp only); exact HK1.out _ HK.out
      clear hKq Kq;(try simp only [Act.put, si0, si1, si2]);refine ty_ 2 ?_;refine ty_ 3 ?_;try simp only [Act.put, si0, si1, si2]
      first | refine ty_ 4 ?_ | refine tn_ 4 ?_
      try simp only [Act.put, si0, si1, si2]
      first | refine ty_ 5 ?_ | refine tn_ 5 ?_
      try simp only [Act.put, si0, si1, si2]
      first | refine ty_ 6 ?_ | refine tn_ 6 ?_
      try simp only [Act.put, si0, si1, si2]
      first | refine ty_ 7 ?_ | refine tn_ 7 ?_
      try simp only [Act.put, si0, si1, si2]
      first | refine ty_ 8 ?_ | refine tn_ 8 ?_
      try simp only [Act.put, si0, si1, si2]
      first | refine ty_ 9 ?_ | refine tn_ 9 ?_
      try simp only [Act.put, si0, si1, si2]
      first | refine ty_ 10 ?_ | refine tn_ 10 ?_
      try simp only [Act.put, si0, si1, si2]
      first | refine ty_ 11 ?_ | refine tn_ 11 ?_
      try simp only [Act.put, si0, si1, si2]
      first | refine ty_ 12 ?_ | refine tn_ 12 ?_
      try simp only [Act.put, si0, si1, si2]
      first | refine ty_ 13 ?_ | refine tn_ 13 ?_
      try simp only [Act.put, si0, si1, si2]
      first | refine ty_ 14 ?_ | refine tn_ 14 ?_
      try simp only [Act.put, si0, si1, si2]
      first | refine ty_ 15 ?_ | refine tn_ 15 ?_
      try simp only [Act.put, si0, si1, si2]
      first | refine ty_ 16 ?_ | refine tn_ 16 ?_
      (try simp only [Act.put, si0, si1, si2]);refine ty_ 17 ?_;(try simp only [Act.put, si0, si1, si2]);refine wd_ ?_;go_wp2_with fail;go_ret;exact ⟨af_ HF.out.symm, B1.out.trans (HK.out.mono B1.out.size)⟩
  ·have hd : decide ((k : Int) < (l.length : Int)) = false := by simp; omega
   have HF := hd_ (show mayF l = true from mayF_yes fun j hj => HT.out j (by omega))
   go_wp2_with fail;go_ret;exact ⟨af_ HF.out.symm, HW.out⟩
set_option maxHeartbeats 8000000 in
theorem mayL_any (v u : Value) (l : List Mm) (f : List Id2) (w : World) (h : Ms w v l) (k : Ids w u f) (hl : l.length ≤ 100000) (hf : f.length ≤ 100000) :
  Calls Tryz.prog 44 #[v, u] w fun e w' => e = .returned (.bool (mayB l f)) ∧ Below w.heap.size w w' := by
 have HI := hd_ h;have HG := hd_ k;have HFl : Hid (f.length ≤ 100000) := hd_ hf
 obtain ⟨A, c, rfl, hz⟩ := h;obtain ⟨D, d, rfl, hy⟩ := k;clear hz hy hf;go_enter Tryz.func44, Tryz.ntmps44
 go_wp2_with fail;refine (mayFloors_any _ f _ HG.out HFl.out).mono ?_
 rintro e w0 ⟨rfl, hb⟩;have HB := hd_ hb;clear hb;cases hmf : mayF f
 ·have HF := hd_ (show mayB l f = false by unfold mayB; rw [hmf]; rfl)
  clear hmf;go_wp2_with fail;go_ret;exact ⟨af_ HF.out.symm, HB.out⟩
 ·have HMF := hd_ hmf
  clear hmf;go_wp2_with fail;go_loopw [12] (fun s12 wr => ∃ k : Nat, k ≤ l.length ∧ s12 = .int .i64 k ∧ Hid (∀ j, j < k → okM l f j = true) ∧ Hid (Below w.heap.size w wr)) (fun s12 _ => l.length - (intOf s12).toNat)
  case atStart => exact ⟨0, by omega, rfl, hd_ (fun j hj => absurd hj (by omega)), HB⟩
  case round =>
   obtain ⟨k, hkl, rfl, HT, HW⟩ := hrel;have i3 : (0 : Int) ≤ (k : Int) := by omega
   by_cases hlt : k < l.length
   ·have hd : decide ((k : Int) < (l.length : Int)) = true := by simp; omega
    have i4 : (k : Int) < (l.length : Int) := by omega
    obtain ⟨ad, rfl, c1, c2, c3, c4⟩ := Ms.at_ HI.out HW.out hlt
    have HX : Hid (∀ b, okM l f k = b → (b = true → ∀ j, j < k + 1 → okM l f j = true) ∧ (b = false → mayB l f = false)) := hd_ fun b hb => ⟨fun e j hj => by
     by_cases h : j < k
     ·exact HT.out j h
     ·obtain rfl : j = k := by omega
      rw [hb, e], fun e => mayB_no hlt (hb.trans e)⟩
    have HO := hd_ (okM_is (f := f) hlt);have XB := hd_ (mbox_new wr l[k].1.1 l[k].1.2 l[k].2.1 l[k].2.2);have B1 := hd_ (below_box HW.out (.cells #[.int .i64 l[k].1.1, .int .i64 l[k].1.2, .int .u8 l[k].2.1, .int .i64 l[k].2.2] 31) (Nat.le_refl _));have HC := hd_ fun W => may_anyROS l[k].1.1 l[k].1.2 W
    have HC2 := hd_ fun W => mayNumber_any l[k].1.1 l[k].1.2 l[k].2.1 l[k].2.2 W
    have HC3 := hd_ fun W (hb : Below w.heap.size w W) => gone_of _ f l[k].1.1 l[k].1.2 W (HG.out.below hb) HFl.out
    rw [show goneB f (l[k].1.1, l[k].1.2) = goneB f l[k].1 from rfl] at HC3
    have HP : Hid (0 < k → l[k - 1].1.1 < l[k].1.1 ∨ ¬ l[k - 1].1.1 < l[k].1.1) := hd_ fun _ => Decidable.em _
    cases hv : vid l[k].1.1 l[k].1.2
    ·rw [hv] at HC HO
     have HF := hd_ ((HX.out _ HO.out).2 rfl);obtain ⟨x1, x2, x3, x4⟩ := aw_ XB.out;clear hv HX HO HC2 HC3 HP;generalize l[k].1.1 = p at *;generalize l[k].1.2 = q at *;generalize l[k].2.1 = s at *;generalize l[k].2.2 = n at *;go_wp2_with fail;(with_reducible refine (HC.out _).mono ?_)
     rintro e w1 ⟨rfl, hb⟩;have B2 := hd_ (ah_ B1.out hb (Nat.le_trans (Nat.le_refl _) (Nat.le_refl _)));clear hb x1 x2 x3 x4;go_wp2_with fail;go_ret;exact ⟨af_ HF.out.symm, B2.out⟩
    ·rw [hv] at HC HO
     have K1 := hd_ fun W (hb : Below (wr.alloc (.cells #[.int .i64 l[k].1.1, .int .i64 l[k].1.2, .int .u8 l[k].2.1, .int .i64 l[k].2.2] 31)).heap.size (wr.alloc (.cells #[.int .i64 l[k].1.1, .int .i64 l[k].1.2, .int .u8 l[k].2.1, .int .i64 l[k].2.2] 31)) W) => And.intro (aw_ (mbox_below XB.out hb)) (hd_ (B1.out.trans (hb.mono B1.out.size)))
     cases hm : mayNum l[k].2.1 l[k].2.2
     ·rw [hm] at HC2 HO
      have HF := hd_ ((HX.out _ HO.out).2 rfl);obtain ⟨x1, x2, x3, x4⟩ := aw_ XB.out;clear hv hm HX HO HC3 HP;generalize l[k].1.1 = p at *;generalize l[k].1.2 = q at *;generalize l[k].2.1 = s at *;generalize l[k].2.2 = n at *;go_wp2_with fail;(with_reducible refine (HC.out _).mono ?_)
      rintro e w1 ⟨rfl, hb⟩;have C1 := hd_ hb;clear hb x1 x2 x3 x4;obtain ⟨⟨x1, x2, x3, x4⟩, -⟩ := K1.out _ C1.out;go_wp2_with fail;(with_reducible refine (HC2.out _).mono ?_)
      rintro e w2 ⟨rfl, hb⟩;have C2 := hd_ (ba_ C1.out hb);clear hb x1 x2 x3 x4;go_wp2_with fail;go_ret;exact ⟨af_ HF.out.symm, (K1.out _ C2.out).2.out⟩
     ·rw [hm] at HC2 HO
      cases hg : goneB f l[k].1
      ·rw [hg] at HC3 HO
       by_cases hk0 : k = 0
       ·have hk1 : decide (0 < k) = false := by simp; omega
        have hk2 : decide ((0 : Int) < (k : Int)) = false := by simp; omega
        have hk3 : decide ((k : Int) > 0) = false := by simp; omega
        have HF := hd_ ((HX.out _ HO.out).1 (by simp [hk0]))
        obtain ⟨x1, x2, x3, x4⟩ := aw_ XB.out;clear hv hm hg HX HO HP hk0;generalize l[k].1.1 = p at *;generalize l[k].1.2 = q at *;generalize l[k].2.1 = s at *;generalize l[k].2.2 = n at *;go_wp2_with fail;(with_reducible refine (HC.out _).mono ?_)
        rintro e w1 ⟨rfl, hb⟩;have C1 := hd_ hb;clear hb x1 x2 x3 x4;obtain ⟨⟨x1, x2, x3, x4⟩, -⟩ := K1.out _ C1.out;go_wp2_with fail;(with_reducible refine (HC2.out _).mono ?_)
        rintro e w2 ⟨rfl, hb⟩;have C2 := hd_ (ba_ C1.out hb);clear hb x1 x2 x3 x4;obtain ⟨⟨x1, x2, x3, x4⟩, -⟩ := K1.out _ C2.out;go_wp2_with fail;(with_reducible refine (HC3.out _ (K1.out _ C2.out).2.out).mono ?_)
        rintro e w3 ⟨rfl, hb⟩;have C3 := hd_ (ba_ C2.out hb);clear hb x1 x2 x3 x4;go_wp2_with fail;go_quiet (fail)
        go_wp2_with fail;go_roundw
        case rel => exact ⟨k + 1, by omega, by go_num, HF, hd_ (below_drewN (K1.out _ C3.out).2.out)⟩
        case measure => simp [intOf]; omega
       ·obtain ⟨t, rfl⟩ : ∃ t, k = t + 1 := ⟨k - 1, by omega⟩
        have i1 : IntKind.i64.wrap ((t : Int) + 1 - 1) = (t : Int) := by rw [IntWalk.i64_in _ ⟨by omega, by omega⟩]; omega
        have i2 : IntKind.i64.wrap (t : Int) = (t : Int) := IntWalk.i64_in _ ⟨by omega, by omega⟩
        have i5 : (0 : Int) ≤ (t : Int) := by omega
        have i6 : (t : Int) < (l.length : Int) := by omega
        have i7 : ((t : Int) + 1).toNat = t + 1 := by omega
        have i8 : decide ((t : Int) + 1 > 0) = true := decide_eq_true (by omega)
        have i9 : decide (0 < (t : Int) + 1) = true := decide_eq_true (by omega)
        have HQ := hd_ fun W (hb : Below w.heap.size w W) => (Ms.at_ HI.out hb (show t < l.length by omega))
        have HO2 : Hid (okM l f (t + 1) = decide (l[t].1.1 < l[t + 1].1.1)) := hd_ (by rw [HO.out]; simp)
        clear hv hm hg HO HP;by_cases hlt2 : l[t].1.1 < l[t + 1].1.1
        ·have HF := hd_ ((HX.out _ HO2.out).1 (decide_eq_true hlt2))
         have hg : decide (l[t].1.1 ≥ l[t + 1].1.1) = false := decide_eq_false (by omega)
         have hg2 : decide (l[t + 1].1.1 ≤ l[t].1.1) = false := decide_eq_false (by omega)
         obtain ⟨x1, x2, x3, x4⟩ := aw_ XB.out;clear HX HO2 hlt2;generalize l[t + 1].1.1 = p at *;generalize l[t + 1].1.2 = q at *;generalize l[t + 1].2.1 = s at *;generalize l[t + 1].2.2 = n at *;generalize l[t].1.1 = p2 at *;generalize l[t].1.2 = q2 at *;generalize l[t].2.1 = s2 at *;generalize l[t].2.2 = n2 at *;go_wp2_with fail;(with_reducible refine (HC.out _).mono ?_)
         rintro e w1 ⟨rfl, hb⟩;have C1 := hd_ hb;clear hb x1 x2 x3 x4;obtain ⟨⟨x1, x2, x3, x4⟩, -⟩ := K1.out _ C1.out;go_wp2_with fail;(with_reducible refine (HC2.out _).mono ?_)
         rintro e w2 ⟨rfl, hb⟩;have C2 := hd_ (ba_ C1.out hb);clear hb x1 x2 x3 x4;obtain ⟨⟨x1, x2, x3, x4⟩, -⟩ := K1.out _ C2.out;go_wp2_with fail;(with_reducible refine (HC3.out _ (K1.out _ C2.out).2.out).mono ?_)
         rintro e w3 ⟨rfl, hb⟩;have C3 := hd_ (ba_ C2.out hb);clear hb x1 x2 x3 x4;obtain ⟨⟨x1, x2, x3, x4⟩, -⟩ := K1.out _ C3.out;obtain ⟨ad', e', y1, y2, y3, y4⟩ := HQ.out _ (K1.out _ C3.out).2.out;injection e' with e'
         subst e';go_wp2_with fail;go_quiet (fail)
         go_wp2_with fail;go_roundw
         case rel => exact ⟨t + 1 + 1, by omega, by go_num, HF, hd_ (below_drewN (K1.out _ C3.out).2.out)⟩
         case measure => simp [intOf]; omega
        ·have HF := hd_ ((HX.out _ HO2.out).2 (decide_eq_false hlt2))
         have hg : decide (l[t].1.1 ≥ l[t + 1].1.1) = true := decide_eq_true (by omega)
         have hg2 : decide (l[t + 1].1.1 ≤ l[t].1.1) = true := decide_eq_true (by omega)
         obtain ⟨x1, x2, x3, x4⟩ := aw_ XB.out;clear HX HO2 hlt2;generalize l[t + 1].1.1 = p at *;generalize l[t + 1].1.2 = q at *;generalize l[t + 1].2.1 = s at *;generalize l[t + 1].2.2 = n at *;generalize l[t].1.1 = p2 at *;generalize l[t].1.2 = q2 at *;generalize l[t].2.1 = s2 at *;generalize l[t].2.2 = n2 at *;go_wp2_with fail;(with_reducible refine (HC.out _).mono ?_)
         rintro e w1 ⟨rfl, hb⟩;have C1 := hd_ hb;clear hb x1 x2 x3 x4;obtain ⟨⟨x1, x2, x3, x4⟩, -⟩ := K1.out _ C1.out;go_wp2_with fail;(with_reducible refine (HC2.out _).mono ?_)
         rintro e w2 ⟨rfl, hb⟩;have C2 := hd_ (ba_ C1.out hb);clear hb x1 x2 x3 x4;obtain ⟨⟨x1, x2, x3, x4⟩, -⟩ := K1.out _ C2.out;go_wp2_with fail;(with_reducible refine (HC3.out _ (K1.out _ C2.out).2.out).mono ?_)
         rintro e w3 ⟨rfl, hb⟩;have C3 := hd_ (ba_ C2.out hb);clear hb x1 x2 x3 x4;obtain ⟨⟨x1, x2, x3, x4⟩, -⟩ := K1.out _ C3.out;obtain ⟨ad', e', y1, y2, y3, y4⟩ := HQ.out _ (K1.out _ C3.out).2.out;injection e' with e'
         subst e';go_wp2_with fail;go_quiet (fail)
         go_wp2_with fail;go_ret;exact ⟨af_ HF.out.symm, below_drewN (K1.out _ C3.out).2.out⟩
      ·rw [hg] at HC3 HO
       have HF := hd_ ((HX.out _ HO.out).2 rfl);obtain ⟨x1, x2, x3, x4⟩ := aw_ XB.out;clear hv hm hg HX HO HP;generalize l[k].1.1 = p at *;generalize l[k].1.2 = q at *;generalize l[k].2.1 = s at *;generalize l[k].2.2 = n at *;go_wp2_with fail;(with_reducible refine (HC.out _).mono ?_)
       rintro e w1 ⟨rfl, hb⟩;have C1 := hd_ hb;clear hb x1 x2 x3 x4;obtain ⟨⟨x1, x2, x3, x4⟩, -⟩ := K1.out _ C1.out;go_wp2_with fail;(with_reducible refine (HC2.out _).mono ?_)
       rintro e w2 ⟨rfl, hb⟩;have C2 := hd_ (ba_ C1.out hb);clear hb x1 x2 x3 x4;obtain ⟨⟨x1, x2, x3, x4⟩, -⟩ := K1.out _ C2.out;go_wp2_with fail;(with_reducible refine (HC3.out _ (K1.out _ C2.out).2.out).mono ?_)
       rintro e w3 ⟨rfl, hb⟩;have C3 := hd_ (ba_ C2.out hb);clear hb x1 x2 x3 x4;go_wp2_with fail;go_ret;exact ⟨af_ HF.out.symm, (K1.out _ C3.out).2.out⟩
   ·have hd : decide ((k : Int) < (l.length : Int)) = false := by simp; omega
    have HF := hd_ (show mayB l f = true from mayB_yes HMF.out fun j hj => HT.out j (by omega))
    go_wp2_with fail;go_ret;exact ⟨af_ HF.out.symm, HW.out⟩
end
end Go.Proofs.YthkkipbmlafdiaaGreat
