/-
  Contracts and plain facts.
-/
import Derived.Test.YthkkipbmlafdiaaGreatOy
import Derived.Test.YthkkipbmlafdiaaGreatB13
set_option maxRecDepth 20000
namespace Go.Proofs.YthkkipbmlafdiaaGreat
section
open Go Go.RowKit Ros
set_option maxHeartbeats 2000000 in
theorem floor_any (v : Value) (l : List Id2) (a : Int) (w : World) (h : Ids w v l) (hl : l.length ≤ 100000) :
  Calls Tryz.prog 151 #[v, .int .i64 a] w fun e w' => e = .returned (.int .i64 (floorZ l a)) ∧ Below w.heap.size w w' := by
 have HI := hd_ h;obtain ⟨A, c, rfl, hz⟩ := h;clear hz;go_enter Tryz.func151, Tryz.ntmps151
 go_wp2_with fail;go_loopw [5, 10] (fun s5 s10 wr => ∃ k : Nat, k ≤ l.length ∧ s10 = .int .i64 k ∧ s5 = .int .i64 (floorZ (l.take k) a) ∧ Hid (Below w.heap.size w wr)) (fun _ s10 _ => l.length - (intOf s10).toNat)
 case atStart => exact ⟨0, by omega, rfl, rfl, hd_ (Below.refl _ _)⟩
 case round =>
  obtain ⟨k, hkl, rfl, rfl, HW⟩ := hrel;have i3 : (0 : Int) ≤ (k : Int) := by omega
  by_cases hlt : k < l.length
  ·have hd : decide ((k : Int) < (l.length : Int)) = true := by simp; omega
   have i4 : (k : Int) < (l.length : Int) := by omega
   obtain ⟨ad, rfl, c1, c2⟩ := HI.out.at_ HW.out hlt;have HT := hd_ (floorZ_next (a := a) hlt);have XB := hd_ (ao_ wr l[k].1 l[k].2);have B1 := hd_ (below_box HW.out (.cells #[.int .i64 l[k].1, .int .i64 l[k].2] 29) (Nat.le_refl _));have hm := fun W => max_two (floorZ (l.take k) a) l[k].2 W
   by_cases he : l[k].1 = a
   ·have HF := hd_ (show floorZ (l.take (k + 1)) a = max (floorZ (l.take k) a) l[k].2 by rw [HT.out, if_pos he])
    rw [he] at c1 XB B1;clear he HT;generalize floorZ (l.take k) a = z at *;generalize l[k].2 = i at *;obtain ⟨x1, x2⟩ := ae_ XB.out;go_wp2_with fail;go_roundw
    case rel => exact ⟨k + 1, by omega, by go_num, by rw [HF.out], B1⟩
    case measure => simp [intOf]; omega
   ·have hb : (l[k].1 == a) = false := beq_eq_false_iff_ne.2 he
    have HF := hd_ (show floorZ (l.take (k + 1)) a = floorZ (l.take k) a by rw [HT.out, if_neg he])
    clear he HT;generalize floorZ (l.take k) a = z at *;generalize l[k].1 = b at *;generalize l[k].2 = i at *;obtain ⟨x1, x2⟩ := ae_ XB.out;go_wp2_with fail;go_roundw
    case rel => exact ⟨k + 1, by omega, by go_num, by rw [HF.out], B1⟩
    case measure => simp [intOf]; omega
  ·have hd : decide ((k : Int) < (l.length : Int)) = false := by simp; omega
   have HF := hd_ (show floorZ (l.take k) a = floorZ l a by rw [List.take_of_length_le (by omega)])
   generalize floorZ (l.take k) a = z at *;go_wp2_with fail;go_ret;exact ⟨ret_int HF.out, HW.out⟩
set_option maxHeartbeats 2000000 in
theorem gone_of (v : Value) (l : List Id2) (a i : Int) (w : World) (h : Ids w v l) (hl : l.length ≤ 100000) :
  Calls Tryz.prog 95 #[v, .agg #[.int .i64 a, .int .i64 i]] w fun e w' => e = .returned (.bool (goneB l (a, i))) ∧ Below w.heap.size w w' := by
 have BB := hd_ (ad_ w (.cells #[.int .i64 a, .int .i64 i] 29));have HI := hd_ (h.below BB.out);have XB := hd_ (ao_ w a i);have HE : Hid (goneB l (a, i) = decide (i ≤ floorZ l a)) := hd_ rfl
 have HL : Hid (l.length ≤ 100000) := hd_ hl
 clear h hl;have HC := hd_ fun W (hb : Below (w.alloc (.cells #[.int .i64 a, .int .i64 i] 29)).heap.size (w.alloc (.cells #[.int .i64 a, .int .i64 i] 29)) W) => floor_any v l a W (HI.out.below hb) HL.out
 generalize floorZ l a = z at *;obtain ⟨A, c, rfl, hz⟩ := HI.out;clear hz;have HS := hd_ fun W (hb : Below (w.alloc (.cells #[.int .i64 a, .int .i64 i] 29)).heap.size (w.alloc (.cells #[.int .i64 a, .int .i64 i] 29)) W) => And.intro (ae_ (ag_ XB.out hb)) (hd_ hb)
 obtain ⟨x1, x2⟩ := ae_ XB.out;go_enter Tryz.func95, Tryz.ntmps95
 go_wp2_with fail
 go_region_held3 (fun w' => (w'.cell? ⟨w.heap.size, 0, none⟩ = some (.int .i64 a) ∧ w'.cell? ⟨w.heap.size, 1, none⟩ = some (.int .i64 i)) ∧ Hid (Below (w.alloc (.cells #[.int .i64 a, .int .i64 i] 29)).heap.size (w.alloc (.cells #[.int .i64 a, .int .i64 i] 29)) w'))
  (first | exact HS.out _ (Below.refl _ _).drew | exact HS.out _ HK.out)
  (first | (go_at_call 151; (with_reducible refine (HC.out _ (Below.refl _ _).drew).mono ?_); rintro e w' ⟨rfl, hb⟩; have HK := hd_ ((Below.refl (w.alloc (.cells #[.int .i64 a, .int .i64 i] 29)).heap.size (w.alloc (.cells #[.int .i64 a, .int .i64 i] 29))).drew.trans hb); clear hb))
 go_wp2_with fail;go_ret;exact ⟨af_ HE.out.symm, ba_ BB.out HK.out⟩
set_option maxHeartbeats 2000000 in
theorem mayNumber_any (a i s n : Int) (w : World) :
  Calls Tryz.prog 94 #[.agg #[.int .i64 a, .int .i64 i, .int .u8 s, .int .i64 n]] w fun e w' => e = .returned (.bool (mayNum s n)) ∧ Below w.heap.size w w' := by
 have BB := hd_ (ad_ w (.cells #[.int .i64 a, .int .i64 i, .int .u8 s, .int .i64 n] 31));obtain ⟨x1, x2, x3, x4⟩ := aw_ (mbox_new w a i s n);by_cases h1 : s = 1
 ·subst h1
  by_cases hn : n = 0
  ·subst hn
   have HR := hd_ (show mayNum 1 0 = true by decide)
   go_enter Tryz.func94, Tryz.ntmps94
   go_wp2_with fail;go_ret;exact ⟨af_ HR.out.symm, BB.out⟩
  ·have hb : (n == 0) = false := beq_eq_false_iff_ne.2 hn
   have HR := hd_ (show mayNum 1 n = false by simp [mayNum, hn])
   go_enter Tryz.func94, Tryz.ntmps94
   go_wp2_with fail;go_ret;exact ⟨af_ HR.out.symm, BB.out⟩
 ·have b1 : (s == 1) = false := beq_eq_false_iff_ne.2 h1
  by_cases h2 : s = 2
  ·subst h2
   by_cases hn : n = 0
   ·subst hn
    have HR := hd_ (show mayNum 2 0 = true by decide)
    go_enter Tryz.func94, Tryz.ntmps94
    go_wp2_with fail;go_ret;exact ⟨af_ HR.out.symm, BB.out⟩
   ·have hb : (n == 0) = false := beq_eq_false_iff_ne.2 hn
    have HR := hd_ (show mayNum 2 n = false by simp [mayNum, hn])
    go_enter Tryz.func94, Tryz.ntmps94
    go_wp2_with fail;go_ret;exact ⟨af_ HR.out.symm, BB.out⟩
  ·have b2 : (s == 2) = false := beq_eq_false_iff_ne.2 h2
   by_cases h3 : s = 3
   ·subst h3
    by_cases hn : 1 ≤ n
    ·by_cases hm : n ≤ 1099511627776
     ·have HR := hd_ (show mayNum 3 n = true by simp [mayNum]; omega)
      go_enter Tryz.func94, Tryz.ntmps94
      go_wp2_with fail;go_ret;exact ⟨af_ HR.out.symm, BB.out⟩
     ·have HR := hd_ (show mayNum 3 n = false by simp [mayNum]; omega)
      have hd : decide (n ≤ 1099511627776) = false := decide_eq_false hm
      go_enter Tryz.func94, Tryz.ntmps94
      go_wp2_with fail;go_ret;exact ⟨af_ HR.out.symm, BB.out⟩
    ·have HR := hd_ (show mayNum 3 n = false by simp [mayNum]; omega)
     have hd : decide (1 ≤ n) = false := decide_eq_false hn
     go_enter Tryz.func94, Tryz.ntmps94
     go_wp2_with fail;go_ret;exact ⟨af_ HR.out.symm, BB.out⟩
   ·have b3 : (s == 3) = false := beq_eq_false_iff_ne.2 h3
    by_cases h4 : s = 4
    ·subst h4
     by_cases hn : 1 ≤ n
     ·by_cases hm : n ≤ 1099511627776
      ·have HR := hd_ (show mayNum 4 n = true by simp [mayNum]; omega)
       go_enter Tryz.func94, Tryz.ntmps94
       go_wp2_with fail;go_ret;exact ⟨af_ HR.out.symm, BB.out⟩
      ·have HR := hd_ (show mayNum 4 n = false by simp [mayNum]; omega)
       have hd : decide (n ≤ 1099511627776) = false := decide_eq_false hm
       go_enter Tryz.func94, Tryz.ntmps94
       go_wp2_with fail;go_ret;exact ⟨af_ HR.out.symm, BB.out⟩
     ·have HR := hd_ (show mayNum 4 n = false by simp [mayNum]; omega)
      have hd : decide (1 ≤ n) = false := decide_eq_false hn
      go_enter Tryz.func94, Tryz.ntmps94
      go_wp2_with fail;go_ret;exact ⟨af_ HR.out.symm, BB.out⟩
    ·have b4 : (s == 4) = false := beq_eq_false_iff_ne.2 h4
     by_cases h5 : s = 5
     ·subst h5
      by_cases hn : 0 ≤ n
      ·by_cases hm : n ≤ 1099511627776
       ·have HR := hd_ (show mayNum 5 n = true by simp [mayNum]; omega)
        go_enter Tryz.func94, Tryz.ntmps94
        go_wp2_with fail;go_ret;exact ⟨af_ HR.out.symm, BB.out⟩
       ·have HR := hd_ (show mayNum 5 n = false by simp [mayNum]; omega)
        have hd : decide (n ≤ 1099511627776) = false := decide_eq_false hm
        go_enter Tryz.func94, Tryz.ntmps94
        go_wp2_with fail;go_ret;exact ⟨af_ HR.out.symm, BB.out⟩
      ·have HR := hd_ (show mayNum 5 n = false by simp [mayNum]; omega)
       have hd : decide (0 ≤ n) = false := decide_eq_false hn
       go_enter Tryz.func94, Tryz.ntmps94
       go_wp2_with fail;go_ret;exact ⟨af_ HR.out.symm, BB.out⟩
     ·have b5 : (s == 5) = false := beq_eq_false_iff_ne.2 h5
      by_cases h6 : s = 6
      ·subst h6
       by_cases hn : 0 ≤ n
       ·by_cases hm : n ≤ 1099511627776
        ·have HR := hd_ (show mayNum 6 n = true by simp [mayNum]; omega)
         go_enter Tryz.func94, Tryz.ntmps94
         go_wp2_with fail;go_ret;exact ⟨af_ HR.out.symm, BB.out⟩
        ·have HR := hd_ (show mayNum 6 n = false by simp [mayNum]; omega)
         have hd : decide (n ≤ 1099511627776) = false := decide_eq_false hm
         go_enter Tryz.func94, Tryz.ntmps94
         go_wp2_with fail;go_ret;exact ⟨af_ HR.out.symm, BB.out⟩
       ·have HR := hd_ (show mayNum 6 n = false by simp [mayNum]; omega)
        have hd : decide (0 ≤ n) = false := decide_eq_false hn
        go_enter Tryz.func94, Tryz.ntmps94
        go_wp2_with fail;go_ret;exact ⟨af_ HR.out.symm, BB.out⟩
      ·have b6 : (s == 6) = false := beq_eq_false_iff_ne.2 h6
       have HR := hd_ (show mayNum s n = false by simp [mayNum, h1, h2, h3, h4, h5, h6])
       go_enter Tryz.func94, Tryz.ntmps94
       go_wp2_with fail;go_ret;exact ⟨af_ HR.out.symm, BB.out⟩
end
end Go.Proofs.YthkkipbmlafdiaaGreat
