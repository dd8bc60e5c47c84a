/-
  Contracts and plain facts.
-/
import Derived.Test.YthkkipbmlafdiaaGreatOy
import Derived.Lib.SlKept
import Derived.BigRegion
import Derived.Test.YthkkipbmlafdiaaGreatB04
import Derived.Test.YthkkipbmlafdiaaGreatB05
set_option maxRecDepth 20000
namespace Go.Proofs.YthkkipbmlafdiaaGreat
section
open Go Go.RowKit Sets RowSets
theorem zero23 (W : World) : (zeroValue 29).run Tryz.prog W = .ok (.agg #[.int .i64 0, .int .i64 0]) W := by kernel_rfl
theorem zero26 (W : World) : (zeroValue 68).run Tryz.prog W = .ok (.agg #[.int .i64 0, .int .i64 0, .int .i64 0, .slice none 0 0]) W := by kernel_rfl
theorem kept_front {α : Type} [Inhabited α] {kp : Nat → Bool} {d dk : Array α} {k : Nat} (h : Go.Lib.KeptInv kp d d.size k dk) : (dk.extract 0 k).toList = Go.Lib.keptUpTo kp d d.size := by
 have hk := h.lt;have hs := h.size;apply List.ext_getElem?
 intro j;by_cases c : j < k
 ·rw [h.low j c]
  have h1 : j < (dk.extract 0 k).size := by simp; omega
  rw [Array.getElem?_toList, Array.getElem?_eq_getElem h1, getElem!_pos dk j (by omega)]
  simp
 ·rw [List.getElem?_eq_none (by simp; omega), List.getElem?_eq_none (by rw [h.len]; omega)]
theorem found_none {α : Type} [Inhabited α] {d : Array α} {pp : α → Bool} (h : ∀ x ∈ d.toList, pp x = false) (j : Nat) (hj : j < d.size) : pp d[j]! = false := by
 rw [getElem!_pos d j hj];exact h _ (by simp)
theorem found_take {α : Type} [Inhabited α] {d : Array α} {pp : α → Bool} {k : Nat} (hk : k ≤ d.size) (h : ∀ x ∈ d.toList.take k, pp x = false) (j : Nat) (hj : j < k) : pp d[j]! = false := by
 rw [getElem!_pos d j (by omega)]
 refine h _ ?_
 have : d[j]'(by omega) = (d.toList.take k)[j]'(by simp; omega) := by simp
 rw [this];exact List.getElem_mem _
set_option maxHeartbeats 4000000 in
theorem deleteI_any {K : Nat} {caps : Array Value} {p : Id2 → Bool} {S : World → Prop} (hP : AsksI K caps p S) (g c : Nat) (hSg : ∀ W W', S W → W.grownBy W' (some g) → S W') (d : Array Id2) (w : World) (h : RowAtR encI 2 w g d) (hS : S w) (hc : d.size ≤ c) (hl : d.size ≤ 100000) :
  Calls Tryz.prog 106 #[.slice (some ⟨g, 0, none⟩) d.size c, .func (.func K) #[] caps] w fun e w' => ∃ d' : Array Id2, e = .returned (.slice (some ⟨g, 0, none⟩) d'.size c) ∧ (d'.toList = d.toList.filter fun t => !p t) ∧ d'.size ≤ d.size ∧ RowAtR encI 2 w' g d' ∧ w.grownBy w' (some g) := by
 have HP := hd_ hP;have HSG := hd_ hSg;have HS0 := hd_ hS;have HR := hd_ h;have HI := hd_ (show Ids w (.slice (some ⟨g, 0, none⟩) d.size c) d.toList from ids_rcs (rowAtR_rcs h hc))
 have HA : Hid (Go.Lib.keptUpTo (fun j => !p d[j]!) d d.size = d.toList.filter fun t => !p t) := hd_ (Go.Lib.keptUpTo_filter (fun t : Id2 => !p t) d)
 have hK := hP.enters;clear h hP hSg hS;go_enter Tryz.func106, Tryz.ntmps106
 go_wp2_with fail;(with_reducible refine (indexI_any HP.out _ _ _ HI.out HS0.out (by simpa using hl)).mono ?_)
 rintro e w1 ⟨⟨r, rfl, hf⟩, hb⟩;have HB := hd_ hb;have R1 := hd_ (rowAtR_kept HR.out hb);have S1 := hd_ (HP.out.kept _ _ HS0.out hb);clear hb;rcases hf with ⟨rfl, hall⟩ | ⟨k0, hk0, rfl, hz, hbef⟩
 ·have HF := hd_ (show d.toList = d.toList.filter fun t => !p t by
   rw [← HA.out, Go.Lib.keptUpTo_all (fun j => !p d[j]!) d d.size (fun j hj => by rw [found_none (pp := fun t => p t) hall j hj]; rfl), Go.Lib.range_map_get])
  clear hall;go_wp2_with fail;go_ret;exact ⟨d, rfl, HF.out, Nat.le_refl _, R1.out, am_ (World.grownBy.refl _ _) HB.out⟩
 ·have hk0 : k0 < d.size := by simpa using hk0
  have hne1 : ((k0 : Int) == -1) = false := beq_eq_false_iff_ne.2 (by omega)
  have HS := hd_ (Go.Lib.KeptInv.start (kp := fun j => !p d[j]!) (d := d) (k0 := k0) (fun j hj => by show (!p d[j]!) = true; rw [found_take (pp := fun t => p t) (by omega) hbef j hj]; rfl) (by show (!p d[k0]!) = false; rw [show p d[k0]! = true by rw [getElem!_pos d k0 hk0]; simpa using hz]; rfl))
  have HG := hd_ (show w.grownBy w1 (some g) from am_ (World.grownBy.refl _ _) HB.out)
  have i0 : IntKind.i64.wrap ((k0 : Int) + 1) = (k0 : Int) + 1 := IntWalk.i64_in _ ⟨by omega, by omega⟩
  clear hbef hz;go_wp2_with fail;go_loopw [5, 6] (fun s5 s6 wr => ∃ (i j : Nat) (dk : Array Id2), s5 = .int .i64 i ∧ s6 = .int .i64 j ∧ j ≤ d.size ∧ Hid (Go.Lib.KeptInv (fun j => !p d[j]!) d j i dk) ∧ Hid (RowAtR encI 2 wr g dk) ∧ Hid (w.grownBy wr (some g)) ∧ Hid (S wr)) (fun _ s6 _ => d.size - (intOf s6).toNat)
  case atStart => exact ⟨k0, k0 + 1, d, rfl, by go_num, by omega, HS, R1, HG, S1⟩
  case round =>
   obtain ⟨i, j, dk, rfl, rfl, hjd, HK, H2, H3, H4⟩ := hrel;have hij := HK.out.lt;have hds := HK.out.size;have p1 : (0 : Int) ≤ (j : Int) := by omega
   have p2 : (0 : Int) ≤ (i : Int) := by omega
   by_cases hlt : j < d.size
   ·have hd : decide ((j : Int) < (d.size : Int)) = true := by simp; omega
    have p3 : (j : Int) < (d.size : Int) := by omega
    have p4 : (i : Int) < (d.size : Int) := by omega
    have hT := (H2.out.id (show j < dk.size by omega)).1
    rw [HK.out.high j (by omega)] at hT
    rcases hn : p d[j]! with _ | _
    ·have HKK := hd_ (HK.out.keep hlt (by show (!p d[j]!) = true; rw [hn]; rfl))
     have HC : Hid (∀ W, S W → Calls Tryz.prog K (#[.agg #[.int .i64 d[j]!.1, .int .i64 d[j]!.2]] ++ caps) W fun e w' => e = .returned (.bool false) ∧ Below W.heap.size W w') := hd_ fun W hs => by
      have := HP.out.call d[j]!.1 d[j]!.2 W hs
      rw [show p (d[j]!.1, d[j]!.2) = false from hn] at this
      exact this
     have HE := hd_ (show d[j]! = (d[j]!.1, d[j]!.2) from rfl)
     rw [HE.out] at HKK;clear hn HE;have HX := hd_ (ao_ wr d[j]!.1 d[j]!.2);have BX := hd_ (ad_ wr (.cells #[.int .i64 d[j]!.1, .int .i64 d[j]!.2] 29));have SX := hd_ (HP.out.kept _ _ H4.out BX.out);generalize d[j]!.1 = a at *;generalize d[j]!.2 = b at *;obtain ⟨c1, c2⟩ := hT;go_wp2_with fail;(with_reducible refine (HC.out _ SX.out).mono ?_)
     rintro e w2 ⟨rfl, hb⟩;have B2 := hd_ (ba_ BX.out hb);have R2 := hd_ (rowAtR_kept H2.out B2.out);have G2 := hd_ (am_ H3.out B2.out);have S2 := hd_ (HP.out.kept _ _ SX.out hb);have X2 := hd_ (ag_ HX.out hb);clear hb c1 c2;obtain ⟨x1, x2⟩ := ae_ X2.out;obtain ⟨⟨c1, c2⟩, f1, f2⟩ := H2.out.id (show i < dk.size by omega)
     clear c1 c2 f1 f2;obtain ⟨⟨c1, c2⟩, f1, f2⟩ := R2.out.id (show i < dk.size by omega)
     have R3 := hd_ (rowI_set R2.out (show i < dk.size by omega) a b)
     have G3 := hd_ (grown_setI G2.out i (.int .i64 a) (.int .i64 b));have S3 := hd_ (HSG.out _ _ S2.out (grown_setI (World.grownBy.refl w2 (some g)) i (.int .i64 a) (.int .i64 b)));go_wp2_with fail;go_roundw
     case rel => exact ⟨i + 1, j + 1, _, by go_num, by go_num, by omega, HKK, R3, G3, S3⟩
     case measure => simp [intOf]; omega
    ·have HKK := hd_ (HK.out.skip (by show (!p d[j]!) = false; rw [hn]; rfl))
     have HC : Hid (∀ W, S W → Calls Tryz.prog K (#[.agg #[.int .i64 d[j]!.1, .int .i64 d[j]!.2]] ++ caps) W fun e w' => e = .returned (.bool true) ∧ Below W.heap.size W w') := hd_ fun W hs => by
      have := HP.out.call d[j]!.1 d[j]!.2 W hs
      rw [show p (d[j]!.1, d[j]!.2) = true from hn] at this
      exact this
     clear hn;have BX := hd_ (ad_ wr (.cells #[.int .i64 d[j]!.1, .int .i64 d[j]!.2] 29));have HX := hd_ (ao_ wr d[j]!.1 d[j]!.2);have SX := hd_ (HP.out.kept _ _ H4.out BX.out);generalize d[j]!.1 = a at *;generalize d[j]!.2 = b at *;obtain ⟨c1, c2⟩ := hT;go_wp2_with fail;(with_reducible refine (HC.out _ SX.out).mono ?_)
     rintro e w2 ⟨rfl, hb⟩;have B2 := hd_ (ba_ BX.out hb);have R2 := hd_ (rowAtR_kept H2.out B2.out);have G2 := hd_ (am_ H3.out B2.out);have S2 := hd_ (HP.out.kept _ _ SX.out hb);clear hb c1 c2;go_wp2_with fail;go_roundw
     case rel => exact ⟨i, j + 1, dk, rfl, by go_num, by omega, HKK, R2, G2, S2⟩
     case measure => simp [intOf]; omega
   ·obtain rfl : j = d.size := by omega
    have hd : decide ((d.size : Int) < (d.size : Int)) = false := by simp
    obtain ⟨vs, hcl⟩ := run_clear_recs (P := Tryz.prog) (enc := encI) (sz := 2) encI_len (by omega) Tryz.underlying23 zero23 rfl (by intro u hu; simp [Value.cells] at hu; rcases hu with rfl | rfl <;> rfl) H2.out (show i < dk.size by omega) (c - i) 0
    have R3 := hd_ (rowAtR_front encI_len H2.out (show i ≤ dk.size by omega) vs)
    have G3 := hd_ (grown_setCells H3.out (i * 2) vs);have HF := hd_ (kept_front HK.out);have hci : ¬ c = i := by omega
    have p5 : (i : Int) ≤ (d.size : Int) := by omega
    rw [hds] at hcl;go_wp2_with fail;go_ret;exact ⟨dk.extract 0 i, by simp; omega, HF.out.trans HA.out, by simp; omega, R3.out, G3.out⟩
set_option maxHeartbeats 4000000 in
theorem deleteW_any {K : Nat} {caps : Array Value} {p : Id2 → Bool} {S : World → Prop} (hP : AsksW K caps p S) (g c : Nat) (hSg : ∀ W W', S W → W.grownBy W' (some g) → S W') (d : Array Raw) (w : World) (h : RowAtR encW 4 w g d) (hS : S w) (hc : d.size ≤ c) (hl : d.size ≤ 100000) :
  Calls Tryz.prog 103 #[.slice (some ⟨g, 0, none⟩) d.size c, .func (.func K) #[] caps] w fun e w' => ∃ d' : Array Raw, e = .returned (.slice (some ⟨g, 0, none⟩) d'.size c) ∧ (d'.toList = d.toList.filter fun t => !p t.1) ∧ d'.size ≤ d.size ∧ RowAtR encW 4 w' g d' ∧ w.grownBy w' (some g) := by
 have HP := hd_ hP;have HSG := hd_ hSg;have HS0 := hd_ hS;have HR := hd_ h;have HI := hd_ (rowAtR_rcs h hc);have HA : Hid (Go.Lib.keptUpTo (fun j => !p d[j]!.1) d d.size = d.toList.filter fun t => !p t.1) := hd_ (Go.Lib.keptUpTo_filter (fun t : Raw => !p t.1) d)
 have hK := hP.enters;clear h hP hSg hS;go_enter Tryz.func103, Tryz.ntmps103
 go_wp2_with fail;(with_reducible refine (indexW_any HP.out _ _ _ HI.out HS0.out (by simpa using hl)).mono ?_)
 rintro e w1 ⟨⟨r, rfl, hf⟩, hb⟩;have HB := hd_ hb;have R1 := hd_ (rowAtR_kept HR.out hb);have S1 := hd_ (HP.out.kept _ _ HS0.out hb);clear hb;rcases hf with ⟨rfl, hall⟩ | ⟨k0, hk0, rfl, hz, hbef⟩
 ·have HF := hd_ (show d.toList = d.toList.filter fun t => !p t.1 by
   rw [← HA.out, Go.Lib.keptUpTo_all (fun j => !p d[j]!.1) d d.size (fun j hj => by rw [found_none (pp := fun t : Raw => p t.1) (fun x hx => hall _ (List.mem_map_of_mem hx)) j hj]; rfl), Go.Lib.range_map_get])
  clear hall;go_wp2_with fail;go_ret;exact ⟨d, rfl, HF.out, Nat.le_refl _, R1.out, am_ (World.grownBy.refl _ _) HB.out⟩
 ·have hk0 : k0 < d.size := by simpa using hk0
  have hne1 : ((k0 : Int) == -1) = false := beq_eq_false_iff_ne.2 (by omega)
  have HS := hd_ (Go.Lib.KeptInv.start (kp := fun j => !p d[j]!.1) (d := d) (k0 := k0) (fun j hj => by show (!p d[j]!.1) = true; rw [found_take (pp := fun t : Raw => p t.1) (by omega) (fun x hx => hbef _ (by rw [← List.map_take]; exact List.mem_map_of_mem hx)) j hj]; rfl) (by show (!p d[k0]!.1) = false; rw [show p d[k0]!.1 = true by rw [getElem!_pos d k0 hk0]; simpa using hz]; rfl))
  have HG := hd_ (show w.grownBy w1 (some g) from am_ (World.grownBy.refl _ _) HB.out)
  have i0 : IntKind.i64.wrap ((k0 : Int) + 1) = (k0 : Int) + 1 := IntWalk.i64_in _ ⟨by omega, by omega⟩
  clear hbef hz;go_wp2_with fail;go_loopw [5, 6] (fun s5 s6 wr => ∃ (i j : Nat) (dk : Array Raw), s5 = .int .i64 i ∧ s6 = .int .i64 j ∧ j ≤ d.size ∧ Hid (Go.Lib.KeptInv (fun j => !p d[j]!.1) d j i dk) ∧ Hid (RowAtR encW 4 wr g dk) ∧ Hid (w.grownBy wr (some g)) ∧ Hid (S wr)) (fun _ s6 _ => d.size - (intOf s6).toNat)
  case atStart => exact ⟨k0, k0 + 1, d, rfl, by go_num, by omega, HS, R1, HG, S1⟩
  case round =>
   obtain ⟨i, j, dk, rfl, rfl, hjd, HK, H2, H3, H4⟩ := hrel;have hij := HK.out.lt;have hds := HK.out.size;have p1 : (0 : Int) ≤ (j : Int) := by omega
   have p2 : (0 : Int) ≤ (i : Int) := by omega
   by_cases hlt : j < d.size
   ·have hd : decide ((j : Int) < (d.size : Int)) = true := by simp; omega
    have p3 : (j : Int) < (d.size : Int) := by omega
    have p4 : (i : Int) < (d.size : Int) := by omega
    have hT := (H2.out.row (show j < dk.size by omega)).1
    rw [HK.out.high j (by omega)] at hT
    rcases hn : p d[j]!.1 with _ | _
    ·have HKK := hd_ (HK.out.keep hlt (by show (!p d[j]!.1) = true; rw [hn]; rfl))
     have HC : Hid (∀ W, S W → Calls Tryz.prog K (#[.agg #[.int .i64 d[j]!.1.1, .int .i64 d[j]!.1.2, .int .i64 d[j]!.2.1, .slice d[j]!.2.2.1 d[j]!.2.2.2.1 d[j]!.2.2.2.2]] ++ caps) W fun e w' => e = .returned (.bool false) ∧ Below W.heap.size W w') := hd_ fun W hs => by
      have := HP.out.call d[j]!.1.1 d[j]!.1.2 d[j]!.2.1 d[j]!.2.2.1 d[j]!.2.2.2.1 d[j]!.2.2.2.2 W hs
      rw [show p (d[j]!.1.1, d[j]!.1.2) = false from hn] at this
      exact this
     have HE := hd_ (show d[j]! = ((d[j]!.1.1, d[j]!.1.2), d[j]!.2.1, d[j]!.2.2.1, d[j]!.2.2.2.1, d[j]!.2.2.2.2) from rfl)
     rw [HE.out] at HKK;clear hn HE;have HX := hd_ (av_ wr d[j]!.1.1 d[j]!.1.2 d[j]!.2.1 (.slice d[j]!.2.2.1 d[j]!.2.2.2.1 d[j]!.2.2.2.2));have BX := hd_ (ad_ wr (.cells #[.int .i64 d[j]!.1.1, .int .i64 d[j]!.1.2, .int .i64 d[j]!.2.1, .slice d[j]!.2.2.1 d[j]!.2.2.2.1 d[j]!.2.2.2.2] 68));have SX := hd_ (HP.out.kept _ _ H4.out BX.out);generalize d[j]!.1.1 = a at *;generalize d[j]!.1.2 = b at *;generalize d[j]!.2.1 = n at *;generalize d[j]!.2.2.1 = A at *;generalize d[j]!.2.2.2.1 = m at *;generalize d[j]!.2.2.2.2 = k at *;obtain ⟨c1, c2, c3, c4⟩ := hT;go_wp2_with fail;(with_reducible refine (HC.out _ SX.out).mono ?_)
     rintro e w2 ⟨rfl, hb⟩;have B2 := hd_ (ba_ BX.out hb);have R2 := hd_ (rowAtR_kept H2.out B2.out);have G2 := hd_ (am_ H3.out B2.out);have S2 := hd_ (HP.out.kept _ _ SX.out hb);have X2 := hd_ (ay_ HX.out hb);clear hb c1 c2 c3 c4;obtain ⟨x1, x2, x3, x4⟩ := ai_ X2.out;obtain ⟨⟨c1, c2, c3, c4⟩, f1, f2, f3, f4⟩ := H2.out.row (show i < dk.size by omega)
     clear c1 c2 c3 c4 f1 f2 f3 f4;obtain ⟨⟨c1, c2, c3, c4⟩, f1, f2, f3, f4⟩ := R2.out.row (show i < dk.size by omega)
     have R3 := hd_ (rowW_set R2.out (show i < dk.size by omega) a b n A m k)
     have G3 := hd_ (grown_setW G2.out i (.int .i64 a) (.int .i64 b) (.int .i64 n) (.slice A m k));have S3 := hd_ (HSG.out _ _ S2.out (grown_setW (World.grownBy.refl w2 (some g)) i (.int .i64 a) (.int .i64 b) (.int .i64 n) (.slice A m k)));go_wp2_with fail;go_roundw
     case rel => exact ⟨i + 1, j + 1, _, by go_num, by go_num, by omega, HKK, R3, G3, S3⟩
     case measure => simp [intOf]; omega
    ·have HKK := hd_ (HK.out.skip (by show (!p d[j]!.1) = false; rw [hn]; rfl))
     have HC : Hid (∀ W, S W → Calls Tryz.prog K (#[.agg #[.int .i64 d[j]!.1.1, .int .i64 d[j]!.1.2, .int .i64 d[j]!.2.1, .slice d[j]!.2.2.1 d[j]!.2.2.2.1 d[j]!.2.2.2.2]] ++ caps) W fun e w' => e = .returned (.bool true) ∧ Below W.heap.size W w') := hd_ fun W hs => by
      have := HP.out.call d[j]!.1.1 d[j]!.1.2 d[j]!.2.1 d[j]!.2.2.1 d[j]!.2.2.2.1 d[j]!.2.2.2.2 W hs
      rw [show p (d[j]!.1.1, d[j]!.1.2) = true from hn] at this
      exact this
     clear hn;have BX := hd_ (ad_ wr (.cells #[.int .i64 d[j]!.1.1, .int .i64 d[j]!.1.2, .int .i64 d[j]!.2.1, .slice d[j]!.2.2.1 d[j]!.2.2.2.1 d[j]!.2.2.2.2] 68));have HX := hd_ (av_ wr d[j]!.1.1 d[j]!.1.2 d[j]!.2.1 (.slice d[j]!.2.2.1 d[j]!.2.2.2.1 d[j]!.2.2.2.2));have SX := hd_ (HP.out.kept _ _ H4.out BX.out);generalize d[j]!.1.1 = a at *;generalize d[j]!.1.2 = b at *;generalize d[j]!.2.1 = n at *;generalize d[j]!.2.2.1 = A at *;generalize d[j]!.2.2.2.1 = m at *;generalize d[j]!.2.2.2.2 = k at *;obtain ⟨c1, c2, c3, c4⟩ := hT;go_wp2_with fail;(with_reducible refine (HC.out _ SX.out).mono ?_)
     rintro e w2 ⟨rfl, hb⟩;have B2 := hd_ (ba_ BX.out hb);have R2 := hd_ (rowAtR_kept H2.out B2.out);have G2 := hd_ (am_ H3.out B2.out);have S2 := hd_ (HP.out.kept _ _ SX.out hb);clear hb c1 c2 c3 c4;go_wp2_with fail;go_roundw
     case rel => exact ⟨i, j + 1, dk, rfl, by go_num, by omega, HKK, R2, G2, S2⟩
     case measure => simp [intOf]; omega
   ·obtain rfl : j = d.size := by omega
    have hd : decide ((d.size : Int) < (d.size : Int)) = false := by simp
    obtain ⟨vs, hcl⟩ := run_clear_recs (P := Tryz.prog) (enc := encW) (sz := 4) encW_len (by omega) Tryz.underlying24 zero26 rfl (by intro u hu; simp [Value.cells] at hu; rcases hu with rfl | rfl <;> rfl) H2.out (show i < dk.size by omega) (c - i) 0
    have R3 := hd_ (rowAtR_front encW_len H2.out (show i ≤ dk.size by omega) vs)
    have G3 := hd_ (grown_setCells H3.out (i * 4) vs);have HF := hd_ (kept_front HK.out);have hci : ¬ c = i := by omega
    have p5 : (i : Int) ≤ (d.size : Int) := by omega
    rw [hds] at hcl;go_wp2_with fail;go_ret;exact ⟨dk.extract 0 i, by simp; omega, HF.out.trans HA.out, by simp; omega, R3.out, G3.out⟩
end
section
namespace Ros
abbrev Id2 := Int × Int
abbrev Mm := Id2 × Int × Int
def elder (a b : Int) : Int := if a ≤ 0 then max b 0 else if b ≤ 0 then a else min a b
theorem elder_comm (a b : Int) : elder a b = elder b a := by unfold elder; split <;> split <;> omega
theorem elder_assoc (a b c : Int) : elder (elder a b) c = elder a (elder b c) := by unfold elder; repeat' split <;> omega
theorem elder_self {a : Int} (h : 0 ≤ a) : elder a a = a := by unfold elder; repeat' split <;> omega
theorem elder_zero {a : Int} (h : 0 ≤ a) : elder a 0 = a := by unfold elder; repeat' split <;> omega
theorem zero_elder (a : Int) : elder 0 a = max a 0 := by unfold elder; repeat' split <;> omega
theorem elder_nn (a b : Int) : 0 ≤ elder a b := by unfold elder; repeat' split <;> omega
theorem elder_max (a b : Int) : elder a (max b 0) = elder a b := by unfold elder; repeat' split <;> omega
structure St where
 f : Int
 n : Int
 s : Int
 p : Int
deriving DecidableEq
theorem St.ext4 {x y : St} (h1 : x.f = y.f) (h2 : x.n = y.n) (h3 : x.s = y.s) (h4 : x.p = y.p) : x = y := by
 cases x; cases y; simp_all
def St.zero : St := ⟨0, 0, 0, 0⟩
def St.or (x y : St) : St :=
 ⟨max (max x.f y.f) (if x.n = y.n then 0 else min x.n y.n), max x.n y.n, if x.n = y.n then max x.s y.s else if x.n < y.n then y.s else x.s, if x.n = y.n then elder x.p y.p else if x.n < y.n then y.p else x.p⟩
structure Good (x : St) : Prop where
 f0 : 0 ≤ x.f
 n0 : 0 ≤ x.n
 s0 : 0 ≤ x.s
 p0 : 0 ≤ x.p
 zs : x.n = 0 → x.s = 0
 zp : x.n = 0 → x.p = 0
theorem good_zero : Good St.zero := ⟨by decide, by decide, by decide, by decide, fun _ => rfl, fun _ => rfl⟩
theorem or_comm (x y : St) : x.or y = y.or x := by
 refine St.ext4 ?_ ?_ ?_ ?_ <;> simp only [St.or]
 ·by_cases h : x.n = y.n
  ·rw [if_pos h, if_pos h.symm]; omega
  ·rw [if_neg h, if_neg (show ¬ y.n = x.n from fun e => h e.symm)]; omega
 ·omega
 ·by_cases h : x.n = y.n
  ·rw [if_pos h, if_pos h.symm]; omega
  ·rw [if_neg h, if_neg (show ¬ y.n = x.n from fun e => h e.symm)]
   by_cases h2 : x.n < y.n
   ·rw [if_pos h2, if_neg (by omega)]
   ·rw [if_neg h2, if_pos (by omega)]
 ·by_cases h : x.n = y.n
  ·rw [if_pos h, if_pos h.symm, elder_comm]
  ·rw [if_neg h, if_neg (show ¬ y.n = x.n from fun e => h e.symm)]
   by_cases h2 : x.n < y.n
   ·rw [if_pos h2, if_neg (by omega)]
   ·rw [if_neg h2, if_pos (by omega)]
theorem or_n (x y : St) : (x.or y).n = max x.n y.n := rfl
theorem or_lt {x y : St} (h : x.n < y.n) : x.or y = ⟨max (max x.f y.f) x.n, y.n, y.s, y.p⟩ := by
 refine St.ext4 ?_ ?_ ?_ ?_ <;> simp only [St.or]
 ·rw [if_neg (by omega)]; omega
 ·omega
 ·rw [if_neg (by omega), if_pos h]
 ·rw [if_neg (by omega), if_pos h]
theorem or_gt {x y : St} (h : y.n < x.n) : x.or y = ⟨max (max x.f y.f) y.n, x.n, x.s, x.p⟩ := by
 rw [or_comm, or_lt h, Int.max_comm y.f x.f]
theorem or_eq {x y : St} (hx : 0 ≤ x.f) (h : x.n = y.n) : x.or y = ⟨max x.f y.f, y.n, max x.s y.s, elder x.p y.p⟩ := by
 refine St.ext4 ?_ ?_ ?_ ?_ <;> simp only [St.or]
 ·rw [if_pos h]; omega
 ·omega
 ·rw [if_pos h]
 ·rw [if_pos h]
theorem or_good {x y : St} (hx : Good x) (hy : Good y) : Good (x.or y) := by
 obtain ⟨a1, a2, a3, a4, a5, a6⟩ := hx;obtain ⟨b1, b2, b3, b4, b5, b6⟩ := hy;rcases Int.lt_trichotomy x.n y.n with h | h | h
 ·rw [or_lt h]; exact ⟨by show 0 ≤ max (max x.f y.f) x.n; omega, b2, b3, b4, b5, b6⟩
 ·rw [or_eq a1 h]
  refine ⟨by show 0 ≤ max x.f y.f; omega, b2, by show 0 ≤ max x.s y.s; omega, elder_nn _ _, fun e => ?_, fun e => ?_⟩
  ·have e' : y.n = 0 := e
   show max x.s y.s = 0
   rw [a5 (by omega), b5 e']; rfl
  ·have e' : y.n = 0 := e
   show elder x.p y.p = 0
   rw [a6 (by omega), b6 e']; rfl
 ·rw [or_gt h]; exact ⟨by show 0 ≤ max (max x.f y.f) y.n; omega, a2, a3, a4, a5, a6⟩
theorem or_assoc {x y z : St} (hx : Good x) (hy : Good y) (hz : Good z) : (x.or y).or z = x.or (y.or z) := by
 have a := hx.f0;have b := hy.f0;have c := hz.f0;have a' := hx.n0
 have b' := hy.n0
 have c' := hz.n0
 have ha := (or_good hx hy).f0;have hb := (or_good hy hz).f0;rcases Int.lt_trichotomy x.n y.n with h | h | h <;> rcases Int.lt_trichotomy y.n z.n with k | k | k
 ·rw [or_lt h, or_lt k, or_lt (x := ⟨_, y.n, y.s, y.p⟩) (by exact k), or_lt (x := x) (by show x.n < z.n; omega)]
  refine St.ext4 ?_ rfl rfl rfl
  show max (max (max (max x.f y.f) x.n) z.f) y.n = max (max x.f (max (max y.f z.f) y.n)) x.n
  omega
 ·rw [or_lt h, or_eq b k, or_eq (x := ⟨max (max x.f y.f) x.n, y.n, y.s, y.p⟩) (by show 0 ≤ max (max x.f y.f) x.n; omega) k, or_lt (x := x) (by show x.n < z.n; omega)]
  refine St.ext4 ?_ rfl rfl rfl
  show max (max (max x.f y.f) x.n) z.f = max (max x.f (max y.f z.f)) x.n
  omega
 ·rw [or_lt h, or_gt k, or_gt (x := ⟨_, y.n, y.s, y.p⟩) (by exact k), or_lt (x := x) (by exact h)]
  refine St.ext4 ?_ rfl rfl rfl
  show max (max (max (max x.f y.f) x.n) z.f) z.n = max (max x.f (max (max y.f z.f) z.n)) x.n
  omega
 ·rw [or_eq a h, or_lt k, or_lt (x := ⟨_, y.n, _, _⟩) (by exact k), or_lt (x := x) (by show x.n < z.n; omega)]
  refine St.ext4 ?_ rfl rfl rfl
  show max (max (max x.f y.f) z.f) y.n = max (max x.f (max (max y.f z.f) y.n)) x.n
  omega
 ·rw [or_eq a h, or_eq b k, or_eq (x := ⟨max x.f y.f, y.n, max x.s y.s, elder x.p y.p⟩) (by show 0 ≤ max x.f y.f; omega) k, or_eq (x := x) a (by show x.n = z.n; omega)]
  refine St.ext4 ?_ rfl ?_ (elder_assoc _ _ _)
  ·show max (max x.f y.f) z.f = max x.f (max y.f z.f)
   omega
  ·show max (max x.s y.s) z.s = max x.s (max y.s z.s)
   omega
 ·rw [or_eq a h, or_gt k, or_gt (x := ⟨_, y.n, _, _⟩) (by exact k), or_eq (x := x) a (by exact h)]
  refine St.ext4 ?_ rfl rfl rfl
  show max (max (max x.f y.f) z.f) z.n = max x.f (max (max y.f z.f) z.n)
  omega
 ·rw [or_gt h, or_lt k]
  rcases Int.lt_trichotomy x.n z.n with m | m | m
  ·rw [or_lt (x := ⟨_, x.n, x.s, x.p⟩) (by exact m), or_lt (x := x) (by exact m)]
   refine St.ext4 ?_ rfl rfl rfl
   show max (max (max (max x.f y.f) y.n) z.f) x.n = max (max x.f (max (max y.f z.f) y.n)) x.n
   omega
  ·rw [or_eq (x := ⟨max (max x.f y.f) y.n, x.n, x.s, x.p⟩) (by show 0 ≤ max (max x.f y.f) y.n; omega) m, or_eq (x := x) a (by exact m)]
   refine St.ext4 ?_ rfl rfl rfl
   show max (max (max x.f y.f) y.n) z.f = max x.f (max (max y.f z.f) y.n)
   omega
  ·rw [or_gt (x := ⟨_, x.n, x.s, x.p⟩) (by exact m), or_gt (x := x) (by exact m)]
   refine St.ext4 ?_ rfl rfl rfl
   show max (max (max (max x.f y.f) y.n) z.f) z.n = max (max x.f (max (max y.f z.f) y.n)) z.n
   omega
 ·rw [or_gt h, or_eq b k, or_gt (x := ⟨_, x.n, x.s, x.p⟩) (by show z.n < x.n; omega), or_gt (x := x) (by show z.n < x.n; omega)]
  refine St.ext4 ?_ rfl rfl rfl
  show max (max (max (max x.f y.f) y.n) z.f) z.n = max (max x.f (max y.f z.f)) z.n
  omega
 ·rw [or_gt h, or_gt k, or_gt (x := ⟨_, x.n, x.s, x.p⟩) (by show z.n < x.n; omega), or_gt (x := x) (by show y.n < x.n; omega)]
  refine St.ext4 ?_ rfl rfl rfl
  show max (max (max (max x.f y.f) y.n) z.f) z.n = max (max x.f (max (max y.f z.f) z.n)) y.n
  omega
theorem or_self {x : St} (h : Good x) : x.or x = x := by
 rw [or_eq h.f0 rfl];exact St.ext4 (by show max x.f x.f = x.f; omega) rfl (by show max x.s x.s = x.s; omega) (elder_self h.p0)
theorem or_zero {x : St} (h : Good x) : x.or St.zero = x := by
 have f0 := h.f0;have n0 := h.n0;have s0 := h.s0;rcases Int.lt_or_le 0 x.n with k | k
 ·rw [or_gt (y := St.zero) k]
  exact St.ext4 (by show max (max x.f 0) 0 = x.f; omega) rfl rfl rfl
 ·have e : x.n = 0 := by omega
  rw [or_eq (y := St.zero) h.f0 e];exact St.ext4 (by show max x.f 0 = x.f; omega) e.symm (by show max x.s 0 = x.s; omega) (elder_zero h.p0)
theorem zero_or {x : St} (h : Good x) : St.zero.or x = x := by rw [or_comm, or_zero h]
def kill (x : St) : St := if x.n ≤ x.f then ⟨x.f, 0, 0, 0⟩ else x
theorem kill_good {x : St} (h : Good x) : Good (kill x) := by
 unfold kill;split
 ·exact ⟨h.f0, Int.le_refl _, Int.le_refl _, Int.le_refl _, fun _ => rfl, fun _ => rfl⟩
 ·exact h
theorem kill_kill {x : St} (h : Good x) : kill (kill x) = kill x := by
 unfold kill;by_cases k : x.n ≤ x.f
 ·rw [if_pos k]
  have := h.f0
  exact if_pos this
 ·rw [if_neg k, if_neg k]
theorem kill_or {x y : St} (hx : Good x) (hy : Good y) : kill ((kill x).or y) = kill (x.or y) := by
 by_cases k : x.n ≤ x.f
 ·have e : kill x = ⟨x.f, 0, 0, 0⟩ := if_pos k
  have f0 := hx.f0;have g0 := hy.f0;have n0 := hx.n0;have m0 := hy.n0;rw [e];rcases Int.lt_trichotomy x.n y.n with h | h | h
  ·rw [or_lt h, or_lt (x := ⟨x.f, 0, 0, 0⟩) (by show 0 < y.n; omega)]
   congr 1
   exact St.ext4 (by show max (max x.f y.f) 0 = max (max x.f y.f) x.n; omega) rfl rfl rfl
  ·rw [or_eq f0 h]
   have r : kill ⟨max x.f y.f, y.n, max x.s y.s, elder x.p y.p⟩ = ⟨max x.f y.f, 0, 0, 0⟩ := if_pos (by show y.n ≤ max x.f y.f; omega)
   rw [r];rcases Int.lt_or_le 0 y.n with m | m
   ·rw [or_lt (x := ⟨x.f, 0, 0, 0⟩) m]
    have r2 : kill ⟨max (max x.f y.f) 0, y.n, y.s, y.p⟩ = ⟨max (max x.f y.f) 0, 0, 0, 0⟩ := if_pos (by show y.n ≤ max (max x.f y.f) 0; omega)
    rw [r2];exact St.ext4 (by show max (max x.f y.f) 0 = max x.f y.f; omega) rfl rfl rfl
   ·rw [or_eq (x := ⟨x.f, 0, 0, 0⟩) f0 (by show 0 = y.n; omega)]
    exact if_pos (by show y.n ≤ max x.f y.f; omega)
  ·rw [or_gt h]
   have r : kill ⟨max (max x.f y.f) y.n, x.n, x.s, x.p⟩ = ⟨max (max x.f y.f) y.n, 0, 0, 0⟩ := if_pos (by show x.n ≤ max (max x.f y.f) y.n; omega)
   rw [r];rcases Int.lt_or_le 0 y.n with m | m
   ·rw [or_lt (x := ⟨x.f, 0, 0, 0⟩) m]
    have r2 : kill ⟨max (max x.f y.f) 0, y.n, y.s, y.p⟩ = ⟨max (max x.f y.f) 0, 0, 0, 0⟩ := if_pos (by show y.n ≤ max (max x.f y.f) 0; omega)
    rw [r2];exact St.ext4 (by show max (max x.f y.f) 0 = max (max x.f y.f) y.n; omega) rfl rfl rfl
   ·rw [or_eq (x := ⟨x.f, 0, 0, 0⟩) f0 (by show 0 = y.n; omega)]
    have r2 : kill ⟨max x.f y.f, y.n, max 0 y.s, elder 0 y.p⟩ = ⟨max x.f y.f, 0, 0, 0⟩ := if_pos (by show y.n ≤ max x.f y.f; omega)
    rw [r2];exact St.ext4 (by show max x.f y.f = max (max x.f y.f) y.n; omega) rfl rfl rfl
 ·have e : kill x = x := if_neg k
  rw [e]
def big (l : List St) : St := l.foldr St.or St.zero
end Ros
end
end Go.Proofs.YthkkipbmlafdiaaGreat
