/-
  Contracts and plain facts.
-/
import Derived.Test.YthkkipbmlafdiaaGreatOy
import Derived.Test.YthkkipbmlafdiaaGreatB16
set_option maxRecDepth 20000
namespace Go.Proofs.YthkkipbmlafdiaaGreat
section
open Go Go.RowKit Sets RowSets
def mayBROW (l : List Row) : Bool := decide (l.length ≤ 64) && (l.all mayRowB && risesB (ids l))
theorem mayB_long {l : List Row} (h : 64 < l.length) : mayBROW l = false := by
 unfold mayBROW;rw [decide_eq_false (by omega), Bool.false_and]
theorem mayB_one {l : List Row} {k : Nat} (hk : k < l.length) (h : mayRowB l[k] = false) : mayBROW l = false := by
 unfold mayBROW;have : l.all mayRowB = false := List.all_eq_false.2 ⟨l[k], List.getElem_mem hk, by rw [h]; simp⟩
 rw [this, Bool.false_and, Bool.and_false]
theorem mayB_two {l : List Row} {k : Nat} (hk : k + 1 < l.length) (h : lss l[k].1.1 l[k].1.2 l[k + 1].1.1 l[k + 1].1.2 = false) : mayBROW l = false := by
 unfold mayBROW;have hk2 : k + 1 < (ids l).length := by simpa [ids] using hk
 have : risesB (ids l) = false := risesB_not hk2 (by simpa [ids] using h)
 rw [this, Bool.and_false, Bool.and_false]
theorem mayB_all {l : List Row} (h : ¬ 64 < l.length) (h1 : ∀ r ∈ l, mayRowB r = true) (h2 : risesB (ids l) = true) : mayBROW l = true := by
 unfold mayBROW;rw [decide_eq_true (show l.length ≤ 64 by omega), List.all_eq_true.2 h1, h2]
 rfl
theorem may_next {l : List Row} {k : Nat} (hk : k < l.length) (h : ∀ r ∈ l.take k, mayRowB r = true) (hn : mayRowB l[k] = true) : ∀ r ∈ l.take (k + 1), mayRowB r = true := fun r hr => by
 rw [take_snoc hk] at hr;rcases List.mem_append.1 hr with hr | hr
 ·exact h r hr
 ·rw [List.mem_singleton.1 hr]; exact hn
theorem rises_next {l : List Row} {k : Nat} (hk : k + 1 < l.length) (h : risesB ((ids l).take (k + 1)) = true) (hn : lss l[k].1.1 l[k].1.2 l[k + 1].1.1 l[k + 1].1.2 = true) : risesB ((ids l).take (k + 2)) = true := by
 have hk2 : k + 1 < (ids l).length := by simpa [ids] using hk
 rw [risesB_take hk2, h];simpa [ids] using hn
set_option maxHeartbeats 4000000 in
theorem may_rows (v : Value) (l : List Row) (w : World) (h : RowsAt w v l) (hn : ∀ r ∈ l, r.2.2.length ≤ 100000) :
  Calls Tryz.prog 45 #[v] w fun e w' => e = .returned (.bool (mayBROW l)) ∧ Below w.heap.size w w' := by
 obtain ⟨qs, h1, h2⟩ := h;have hlen := h2.len.symm;have HI := hd_ h1;have HE0 := hd_ h2;have HN := hd_ hn;obtain ⟨A, c, rfl, hz⟩ := h1;clear hz h2 hn;by_cases h8 : 64 < qs.length
 ·have hd : decide ((64 : Int) < (qs.length : Int)) = true := by simp; omega
  have HR := hd_ (mayB_long (l := l) (by omega))
  go_enter Tryz.func45, Tryz.ntmps45
  go_wp2_with fail;go_ret;exact ⟨af_ HR.out.symm, Below.refl _ _⟩
 ·have hd0 : decide ((64 : Int) < (qs.length : Int)) = false := by simp; omega
  go_enter Tryz.func45, Tryz.ntmps45
  go_wp2_with fail;go_loopw [10] (fun s3 wr => ∃ k : Nat, k ≤ qs.length ∧ s3 = .int .i64 k ∧ Hid (∀ r ∈ l.take k, mayRowB r = true) ∧ Hid (risesB ((ids l).take k) = true) ∧ Hid (Below w.heap.size w wr)) (fun s3 _ => qs.length - (intOf s3).toNat)
  case atStart => exact ⟨0, by omega, rfl, hd_ (fun r hr => by simp at hr), hd_ rfl, hd_ (Below.refl _ _)⟩
  case round =>
   obtain ⟨k, hkl, rfl, HT, HS, HW⟩ := hrel;have i3 : (0 : Int) ≤ (k : Int) := by omega
   by_cases hlt : k < qs.length
   ·have hdk : decide ((k : Int) < (qs.length : Int)) = true := by simp; omega
    have i4 : (k : Int) < (qs.length : Int) := by omega
    obtain ⟨ad, rfl, c1, c2, c3, c4⟩ := HI.out.raw HW.out hlt;have hlt2 : k < l.length := by omega
    have HR := HE0.out.at_ k hlt hlt2;have HL := hd_ (HN.out l[k] (List.getElem_mem hlt2));have HM := hd_ (show Ids w (.slice qs[k].2.2.1 qs[k].2.2.2.1 qs[k].2.2.2.2) l[k].2.2 from HR.2.2)
    have HV : Hid (mayRowB l[k] = mayRowB ((qs[k].1.1, qs[k].1.2), qs[k].2.1, l[k].2.2)) := hd_ (by rw [show ((qs[k].1.1, qs[k].1.2), qs[k].2.1, l[k].2.2) = l[k] from Prod.ext HR.1 (Prod.ext HR.2.1 rfl)])
    have HZ := hd_ (show l[k].1 = (qs[k].1.1, qs[k].1.2) from HR.1.symm)
    have H0 := hd_ fun h => mayB_one hlt2 h
    have H1 := hd_ fun h => may_next hlt2 HT.out h
    rw [HV.out] at H0 H1;have HX := hd_ (av_ wr qs[k].1.1 qs[k].1.2 qs[k].2.1 (.slice qs[k].2.2.1 qs[k].2.2.2.1 qs[k].2.2.2.2));have HB := hd_ (ad_ wr (.cells #[.int .i64 qs[k].1.1, .int .i64 qs[k].1.2, .int .i64 qs[k].2.1, .slice qs[k].2.2.1 qs[k].2.2.2.1 qs[k].2.2.2.2] 68));have HC := hd_ fun W (hb : Below w.heap.size w W) => mayRow_any qs[k].1.1 qs[k].1.2 qs[k].2.1 qs[k].2.2.1 qs[k].2.2.2.1 qs[k].2.2.2.2 l[k].2.2 W (HM.out.below hb) HL.out
    clear HR HV HM;generalize hvv : mayRowB ((qs[k].1.1, qs[k].1.2), qs[k].2.1, l[k].2.2) = v at *;clear hvv;generalize qs[k].1.1 = a at *;generalize qs[k].1.2 = i at *;generalize qs[k].2.1 = n at *;generalize qs[k].2.2.1 = B at *;generalize qs[k].2.2.2.1 = m at *;generalize qs[k].2.2.2.2 = d at *;have W1 := hd_ (HW.out.trans (HB.out.mono HW.out.size));have HF := hd_ fun w' (hb : Below (wr.heap.size + 1) (wr.alloc (.cells #[.int .i64 a, .int .i64 i, .int .i64 n, .slice B m d] 68)) w') => And.intro (ai_ (ay_ HX.out (hb.mono (by simp)))) (hd_ hb)
    have hsz : (wr.alloc (.cells #[.int .i64 a, .int .i64 i, .int .i64 n, .slice B m d] 68)).heap.size = wr.heap.size + 1 := by simp
    obtain ⟨x1, x2, x3, x4⟩ := ai_ HX.out;have HSZ := hd_ hsz;clear hsz;go_wp2_with fail;cases v
    ·have HE := hd_ (H0.out rfl)
     refine wp_region_held_drew (S := fun w' => (w'.cell? ⟨wr.heap.size, 0, none⟩ = some (.int .i64 a) ∧ w'.cell? ⟨wr.heap.size, 1, none⟩ = some (.int .i64 i) ∧ w'.cell? ⟨wr.heap.size, 2, none⟩ = some (.int .i64 n) ∧ w'.cell? ⟨wr.heap.size, 3, none⟩ = some (.slice B m d)) ∧ Hid (Below (wr.heap.size + 1) (wr.alloc (.cells #[.int .i64 a, .int .i64 i, .int .i64 n, .slice B m d] 68)) w')) (by kernel_rfl) ?_ (fun hHeld => ?_)
     ·exact HF.out _ (Below.refl _ _).drew
     refine ty_ 0 ?_;(try simp only [Act.put, si0, si1, si2]);refine a1_ 1 fun Kq hKq => ?_;go_simp;clear hHeld;(go_at_call 96; (with_reducible refine (HC.out _ W1.out.drew).mono ?_); rintro e w' ⟨rfl, hb⟩; have HK := hd_ (show Below (wr.heap.size + 1) (wr.alloc (.cells #[.int .i64 a, .int .i64 i, .int .i64 n, .slice B m d] 68)) w' from (Below.refl _ _).drew.trans (hb.mono (by simp))); have HG := hd_ (ba_ W1.out.drew hb); clear hb)
     refine hKq.out _ _ ?_ (fun hHeld => ?_)
     ·(try dsimp only); exact HF.out _ HK.out
     clear hKq Kq;(try simp only [Act.put, si0, si1, si2]);refine ty_ 2 ?_;refine ty_ 3 ?_;(try simp only [Act.put, si0, si1, si2]);refine tn_ 4 ?_;(try simp only [Act.put, si0, si1, si2]);refine tn_ 5 ?_;(try simp only [Act.put, si0, si1, si2]);refine tn_ 6 ?_;(try simp only [Act.put, si0, si1, si2]);refine tn_ 7 ?_;(try simp only [Act.put, si0, si1, si2]);refine tn_ 8 ?_;(try simp only [Act.put, si0, si1, si2]);refine tn_ 9 ?_;(try simp only [Act.put, si0, si1, si2]);refine tn_ 10 ?_;(try simp only [Act.put, si0, si1, si2]);refine tn_ 11 ?_;(try simp only [Act.put, si0, si1, si2]);refine tn_ 12 ?_;(try simp only [Act.put, si0, si1, si2]);refine tn_ 13 ?_;(try simp only [Act.put, si0, si1, si2]);refine tn_ 14 ?_;(try simp only [Act.put, si0, si1, si2]);refine tn_ 15 ?_;(try simp only [Act.put, si0, si1, si2]);refine tn_ 16 ?_;(try simp only [Act.put, si0, si1, si2]);refine tn_ 17 ?_;(try simp only [Act.put, si0, si1, si2]);refine ty_ 18 ?_;(try simp only [Act.put, si0, si1, si2]);refine wd_ ?_;go_wp2_with fail;go_ret;exact ⟨af_ HE.out.symm, HG.out⟩
    ·have HE := hd_ (H1.out rfl)
     by_cases hk0 : k = 0
     ·subst hk0
      refine wp_region_held_drew (S := fun w' => (w'.cell? ⟨wr.heap.size, 0, none⟩ = some (.int .i64 a) ∧ w'.cell? ⟨wr.heap.size, 1, none⟩ = some (.int .i64 i) ∧ w'.cell? ⟨wr.heap.size, 2, none⟩ = some (.int .i64 n) ∧ w'.cell? ⟨wr.heap.size, 3, none⟩ = some (.slice B m d)) ∧ Hid (Below (wr.heap.size + 1) (wr.alloc (.cells #[.int .i64 a, .int .i64 i, .int .i64 n, .slice B m d] 68)) w')) (by kernel_rfl) ?_ (fun hHeld => ?_)
      ·exact HF.out _ (Below.refl _ _).drew
      refine ty_ 0 ?_;(try simp only [Act.put, si0, si1, si2]);refine a1_ 1 fun Kq hKq => ?_;go_simp;clear hHeld;(go_at_call 96; (with_reducible refine (HC.out _ W1.out.drew).mono ?_); rintro e w' ⟨rfl, hb⟩; have HK := hd_ (show Below (wr.heap.size + 1) (wr.alloc (.cells #[.int .i64 a, .int .i64 i, .int .i64 n, .slice B m d] 68)) w' from (Below.refl _ _).drew.trans (hb.mono (by simp))); have HG := hd_ (ba_ W1.out.drew hb); clear hb)
      refine hKq.out _ _ ?_ (fun hHeld => ?_)
      ·(try dsimp only); exact HF.out _ HK.out
      clear hKq Kq;(try simp only [Act.put, si0, si1, si2]);refine ty_ 2 ?_;refine ty_ 3 ?_;try simp only [Act.put, si0, si1, si2]
      first | refine ty_ 4 ?_ | refine tn_ 4 ?_
      try simp only [Act.put, si0, si1, si2]
      first | refine ty_ 5 ?_ | refine tn_ 5 ?_
      try simp only [Act.put, si0, si1, si2]
      first | refine ty_ 6 ?_ | refine tn_ 6 ?_
      (try simp only [Act.put, si0, si1, si2]);refine tn_ 7 ?_;(try simp only [Act.put, si0, si1, si2]);refine tn_ 8 ?_;(try simp only [Act.put, si0, si1, si2]);refine tn_ 9 ?_;(try simp only [Act.put, si0, si1, si2]);refine tn_ 10 ?_;(try simp only [Act.put, si0, si1, si2]);refine tn_ 11 ?_;(try simp only [Act.put, si0, si1, si2]);refine tn_ 12 ?_;(try simp only [Act.put, si0, si1, si2]);refine tn_ 13 ?_;(try simp only [Act.put, si0, si1, si2]);refine tn_ 14 ?_;(try simp only [Act.put, si0, si1, si2]);refine tn_ 15 ?_;(try simp only [Act.put, si0, si1, si2]);refine tn_ 16 ?_;try simp only [Act.put, si0, si1, si2]
      first | refine ty_ 17 ?_ | refine tn_ 17 ?_
      (try simp only [Act.put, si0, si1, si2]);refine ty_ 18 ?_;(try simp only [Act.put, si0, si1, si2]);refine wd_ ?_;go_wp2_with fail;go_roundw
      case rel => exact ⟨1, by omega, by go_num, HE, hd_ (risesB_one _), HG⟩
      case measure => simp [intOf]; omega
     ·obtain ⟨j, rfl⟩ : ∃ j, k = j + 1 := ⟨k - 1, by omega⟩
      have i1 : IntKind.i64.wrap ((j : Int) + 1 - 1) = (j : Int) := by rw [IntWalk.i64_in _ ⟨by omega, by omega⟩]; omega
      have i2 : IntKind.i64.wrap (j : Int) = (j : Int) := IntWalk.i64_in _ ⟨by omega, by omega⟩
      have i5 : (0 : Int) ≤ (j : Int) := by omega
      have i6 : (j : Int) < (qs.length : Int) := by omega
      have i7 : decide ((0 : Int) < (j : Int) + 1) = true := decide_eq_true (by omega)
      have hj : j < qs.length := by omega
      have hj2 : j < l.length := by omega
      have HRJ := HE0.out.at_ j hj hj2;have HD := hd_ fun w' (hb : Below w.heap.size w w') => (HI.out.raw hb hj)
      have H2 := hd_ fun h => mayB_two hlt2 h
      have H3 := hd_ fun h => rises_next hlt2 HS.out h
      have e1 : l[j].1.1 = qs[j].1.1 := by rw [HRJ.1]
      have e2 : l[j].1.2 = qs[j].1.2 := by rw [HRJ.1]
      rw [HZ.out, e1, e2] at H2 H3;have HL2 := hd_ fun W => less_any qs[j].1.1 qs[j].1.2 a i W
      clear HRJ e1 e2;generalize qs[j].1.1 = p at *;generalize qs[j].1.2 = q at *;generalize qs[j].2.1 = n' at *;generalize qs[j].2.2.1 = B' at *;generalize qs[j].2.2.2.1 = m' at *;generalize qs[j].2.2.2.2 = d' at *
      have HF2 := hd_ fun w' (hb : Below (wr.heap.size + 1) (wr.alloc (.cells #[.int .i64 a, .int .i64 i, .int .i64 n, .slice B m d] 68)) w') => (show (w'.cell? ⟨wr.heap.size, 0, none⟩ = some (.int .i64 a) ∧ w'.cell? ⟨wr.heap.size, 1, none⟩ = some (.int .i64 i) ∧ w'.cell? ⟨wr.heap.size, 2, none⟩ = some (.int .i64 n) ∧ w'.cell? ⟨wr.heap.size, 3, none⟩ = some (.slice B m d)) ∧ (w'.cell? (ad.add (j * 4)) = some (.int .i64 p) ∧ w'.cell? ⟨(ad.add (j * 4)).block, (ad.add (j * 4)).off + 1, none⟩ = some (.int .i64 q)) ∧ Hid (Below (wr.heap.size + 1) (wr.alloc (.cells #[.int .i64 a, .int .i64 i, .int .i64 n, .slice B m d] 68)) w') from by
       obtain ⟨x, e, y1, y2, _⟩ := HD.out w' (W1.out.trans (hb.mono (by have := HW.out.size; omega)))
       injection e with e
       subst e;exact ⟨(HF.out w' hb).1, ⟨y1, y2⟩, hd_ hb⟩)
      clear HD;cases hv : lss p q a i
      ·have HV := hd_ hv
       have HR := hd_ (H2.out hv);clear hv;refine wp_region_held_drew (S := (fun w' => (w'.cell? ⟨wr.heap.size, 0, none⟩ = some (.int .i64 a) ∧ w'.cell? ⟨wr.heap.size, 1, none⟩ = some (.int .i64 i) ∧ w'.cell? ⟨wr.heap.size, 2, none⟩ = some (.int .i64 n) ∧ w'.cell? ⟨wr.heap.size, 3, none⟩ = some (.slice B m d)) ∧ (w'.cell? (ad.add (j * 4)) = some (.int .i64 p) ∧ w'.cell? ⟨(ad.add (j * 4)).block, (ad.add (j * 4)).off + 1, none⟩ = some (.int .i64 q)) ∧ Hid (Below (wr.heap.size + 1) (wr.alloc (.cells #[.int .i64 a, .int .i64 i, .int .i64 n, .slice B m d] 68)) w'))) (by kernel_rfl) ?_ (fun hHeld => ?_)
       ·exact HF2.out _ (Below.refl _ _).drew
       refine ty_ 0 ?_;(try simp only [Act.put, si0, si1, si2]);refine a1_ 1 fun Kq hKq => ?_;go_simp;clear hHeld;(first | (go_at_call 96; (with_reducible refine (HC.out _ W1.out.drew).mono ?_); rintro e w' ⟨rfl, hb⟩; have HK := hd_ (show Below (wr.heap.size + 1) (wr.alloc (.cells #[.int .i64 a, .int .i64 i, .int .i64 n, .slice B m d] 68)) w' from (Below.refl _ _).drew.trans (hb.mono (by simp))); have HG := hd_ (ba_ W1.out.drew hb); clear hb) | (go_at_call 97; (with_reducible refine (HL2.out _).mono ?_); rw [HV.out]; rintro e w' ⟨rfl, hb⟩; have HK := hd_ (HK.out.trans (hb.mono (by have := HK.out.size; simp at this; omega))); have HG := hd_ (ba_ HG.out hb); clear hb))
       refine hKq.out _ _ ?_ (fun hHeld => ?_)
       ·(try dsimp only); exact HF2.out _ HK.out
       clear hKq Kq;(try simp only [Act.put, si0, si1, si2]);refine ty_ 2 ?_;refine ty_ 3 ?_;try simp only [Act.put, si0, si1, si2]
       first | refine ty_ 4 ?_ | refine tn_ 4 ?_
       try simp only [Act.put, si0, si1, si2]
       first | refine ty_ 5 ?_ | refine tn_ 5 ?_
       try simp only [Act.put, si0, si1, si2]
       first | refine ty_ 6 ?_ | refine tn_ 6 ?_
       try simp only [Act.put, si0, si1, si2]
       first | refine ty_ 7 ?_ | refine tn_ 7 ?_
       try simp only [Act.put, si0, si1, si2]
       first | refine ty_ 8 ?_ | refine tn_ 8 ?_
       try simp only [Act.put, si0, si1, si2]
       first | refine ty_ 9 ?_ | refine tn_ 9 ?_
       try simp only [Act.put, si0, si1, si2]
       first | refine ty_ 10 ?_ | refine tn_ 10 ?_
       try simp only [Act.put, si0, si1, si2]
       first | refine ty_ 11 ?_ | refine tn_ 11 ?_
       try simp only [Act.put, si0, si1, si2]
       first | refine ty_ 12 ?_ | refine tn_ 12 ?_
       try simp only [Act.put, si0, si1, si2]
       first | refine ty_ 13 ?_ | refine tn_ 13 ?_
       try simp only [Act.put, si0, si1, si2]
       first | refine ty_ 14 ?_ | refine tn_ 14 ?_
       (try simp only [Act.put, si0, si1, si2]);refine a1_ 15 fun Kq hKq => ?_;go_simp;clear hHeld;(first | (go_at_call 96; (with_reducible refine (HC.out _ W1.out.drew).mono ?_); rintro e w' ⟨rfl, hb⟩; have HK := hd_ (show Below (wr.heap.size + 1) (wr.alloc (.cells #[.int .i64 a, .int .i64 i, .int .i64 n, .slice B m d] 68)) w' from (Below.refl _ _).drew.trans (hb.mono (by simp))); have HG := hd_ (ba_ W1.out.drew hb); clear hb) | (go_at_call 97; (with_reducible refine (HL2.out _).mono ?_); rw [HV.out]; rintro e w' ⟨rfl, hb⟩; have HK := hd_ (HK.out.trans (hb.mono (by have := HK.out.size; simp at this; omega))); have HG := hd_ (ba_ HG.out hb); clear hb))
       refine hKq.out _ _ ?_ (fun hHeld => ?_)
       ·(try dsimp only); exact HF2.out _ HK.out
       clear hKq Kq;try simp only [Act.put, si0, si1, si2]
       first | refine ty_ 16 ?_ | refine tn_ 16 ?_
       try simp only [Act.put, si0, si1, si2]
       first | refine ty_ 17 ?_ | refine tn_ 17 ?_
       (try simp only [Act.put, si0, si1, si2]);refine ty_ 18 ?_;(try simp only [Act.put, si0, si1, si2]);refine wd_ ?_;go_wp2_with fail;go_ret;exact ⟨af_ HR.out.symm, HG.out⟩
      ·have HV := hd_ hv
       have HR := hd_ (H3.out hv);clear hv;refine wp_region_held_drew (S := (fun w' => (w'.cell? ⟨wr.heap.size, 0, none⟩ = some (.int .i64 a) ∧ w'.cell? ⟨wr.heap.size, 1, none⟩ = some (.int .i64 i) ∧ w'.cell? ⟨wr.heap.size, 2, none⟩ = some (.int .i64 n) ∧ w'.cell? ⟨wr.heap.size, 3, none⟩ = some (.slice B m d)) ∧ (w'.cell? (ad.add (j * 4)) = some (.int .i64 p) ∧ w'.cell? ⟨(ad.add (j * 4)).block, (ad.add (j * 4)).off + 1, none⟩ = some (.int .i64 q)) ∧ Hid (Below (wr.heap.size + 1) (wr.alloc (.cells #[.int .i64 a, .int .i64 i, .int .i64 n, .slice B m d] 68)) w'))) (by kernel_rfl) ?_ (fun hHeld => ?_)
       ·exact HF2.out _ (Below.refl _ _).drew
       refine ty_ 0 ?_;(try simp only [Act.put, si0, si1, si2]);refine a1_ 1 fun Kq hKq => ?_;go_simp;clear hHeld;(first | (go_at_call 96; (with_reducible refine (HC.out _ W1.out.drew).mono ?_); rintro e w' ⟨rfl, hb⟩; have HK := hd_ (show Below (wr.heap.size + 1) (wr.alloc (.cells #[.int .i64 a, .int .i64 i, .int .i64 n, .slice B m d] 68)) w' from (Below.refl _ _).drew.trans (hb.mono (by simp))); have HG := hd_ (ba_ W1.out.drew hb); clear hb) | (go_at_call 97; (with_reducible refine (HL2.out _).mono ?_); rw [HV.out]; rintro e w' ⟨rfl, hb⟩; have HK := hd_ (HK.out.trans (hb.mono (by have := HK.out.size; simp at this; omega))); have HG := hd_ (ba_ HG.out hb); clear hb))
       refine hKq.out _ _ ?_ (fun hHeld => ?_)
       ·(try dsimp only); exact HF2.out _ HK.out
       clear hKq Kq;(try simp only [Act.put, si0, si1, si2]);refine ty_ 2 ?_;refine ty_ 3 ?_;try simp only [Act.put, si0, si1, si2]
       first | refine ty_ 4 ?_ | refine tn_ 4 ?_
       try simp only [Act.put, si0, si1, si2]
       first | refine ty_ 5 ?_ | refine tn_ 5 ?_
       try simp only [Act.put, si0, si1, si2]
       first | refine ty_ 6 ?_ | refine tn_ 6 ?_
       try simp only [Act.put, si0, si1, si2]
       first | refine ty_ 7 ?_ | refine tn_ 7 ?_
       try simp only [Act.put, si0, si1, si2]
       first | refine ty_ 8 ?_ | refine tn_ 8 ?_
       try simp only [Act.put, si0, si1, si2]
       first | refine ty_ 9 ?_ | refine tn_ 9 ?_
       try simp only [Act.put, si0, si1, si2]
       first | refine ty_ 10 ?_ | refine tn_ 10 ?_
       try simp only [Act.put, si0, si1, si2]
       first | refine ty_ 11 ?_ | refine tn_ 11 ?_
       try simp only [Act.put, si0, si1, si2]
       first | refine ty_ 12 ?_ | refine tn_ 12 ?_
       try simp only [Act.put, si0, si1, si2]
       first | refine ty_ 13 ?_ | refine tn_ 13 ?_
       try simp only [Act.put, si0, si1, si2]
       first | refine ty_ 14 ?_ | refine tn_ 14 ?_
       (try simp only [Act.put, si0, si1, si2]);refine a1_ 15 fun Kq hKq => ?_;go_simp;clear hHeld;(first | (go_at_call 96; (with_reducible refine (HC.out _ W1.out.drew).mono ?_); rintro e w' ⟨rfl, hb⟩; have HK := hd_ (show Below (wr.heap.size + 1) (wr.alloc (.cells #[.int .i64 a, .int .i64 i, .int .i64 n, .slice B m d] 68)) w' from (Below.refl _ _).drew.trans (hb.mono (by simp))); have HG := hd_ (ba_ W1.out.drew hb); clear hb) | (go_at_call 97; (with_reducible refine (HL2.out _).mono ?_); rw [HV.out]; rintro e w' ⟨rfl, hb⟩; have HK := hd_ (HK.out.trans (hb.mono (by have := HK.out.size; simp at this; omega))); have HG := hd_ (ba_ HG.out hb); clear hb))
       refine hKq.out _ _ ?_ (fun hHeld => ?_)
       ·(try dsimp only); exact HF2.out _ HK.out
       clear hKq Kq;try simp only [Act.put, si0, si1, si2]
       first | refine ty_ 16 ?_ | refine tn_ 16 ?_
       try simp only [Act.put, si0, si1, si2]
       first | refine ty_ 17 ?_ | refine tn_ 17 ?_
       (try simp only [Act.put, si0, si1, si2]);refine ty_ 18 ?_;(try simp only [Act.put, si0, si1, si2]);refine wd_ ?_;go_wp2_with fail;go_roundw
       case rel => exact ⟨j + 2, by omega, by go_num, HE, HR, HG⟩
       case measure => simp [intOf]; omega
   ·have hdk : decide ((k : Int) < (qs.length : Int)) = false := by simp; omega
    have HR := hd_ (mayB_all (l := l) (by omega) (by have := HT.out; rwa [List.take_of_length_le (by omega)] at this) (by have := HS.out; rwa [List.take_of_length_le (by simp [ids]; omega)] at this))
    go_wp2_with fail;go_ret;exact ⟨af_ HR.out.symm, HW.out⟩
end
end Go.Proofs.YthkkipbmlafdiaaGreat
