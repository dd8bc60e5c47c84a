/-
  Carried over and put together: contracts of this program's functions, and plain facts. No statement is proved in this text.
-/
import Derived.Lib.AppendZerosOnto
import Derived.Lib.AppendZeros
import Derived.Deep.DeepCutAuto
import Derived.Test.YtjlnnmjhbccdoaaGreatO04
import Derived.Test.YtjlnnmjhbccdoaaGreatO06
set_option maxRecDepth 20000
namespace Go.Proofs.YtjlnnmjhbccdoaaGreat
open Go Go.RowKit Ros
theorem zero30 (W : World) : (zeroValue 29).run Tryz.prog W = .ok (.agg #[.int .i64 0, .int .i64 0]) W := by kernel_rfl
theorem zero32 (W : World) : (zeroValue 31).run Tryz.prog W = .ok (.agg #[.int .i64 0, .int .i64 0, .int .u8 0, .int .i64 0]) W := by kernel_rfl
set_option maxHeartbeats 4000000 in
theorem deleteI_anyROS {K : Nat} {caps : Array Value} {p : Id2 → Bool} {S : World → Prop} (hP : AsksI K caps p S) (g c : Nat) (hSg : ∀ W W', S W → W.grownBy W' (some g) → S W') (d : Array Id2) (w : World) (h : RowAtR encI 2 w g d) (hS : S w) (hc : d.size ≤ c) (hl : d.size ≤ 100000) :
  Calls Tryz.prog 97 #[.slice (some ⟨g, 0, none⟩) d.size c, .func (.func K) #[] caps] w fun e w' => ∃ d' : Array Id2, e = .returned (.slice (some ⟨g, 0, none⟩) d'.size c) ∧ (d'.toList = d.toList.filter fun t => !p t) ∧ d'.size ≤ d.size ∧ RowAtR encI 2 w' g d' ∧ w.grownBy w' (some g) := by
 have HP := Lib.hid hP
 have HSG := Lib.hid hSg
 have HS0 := Lib.hid hS
 have HR := Lib.hid h
 have HI := Lib.hid (show Ids w (.slice (some ⟨g, 0, none⟩) d.size c) d.toList from ids_rcs (rowAtR_rcs h hc))
 have HA : Hid (Go.Lib.keptUpTo (fun j => !p d[j]!) d d.size = d.toList.filter fun t => !p t) := Lib.hid (Go.Lib.keptUpTo_filter (fun t : Id2 => !p t) d)
 have hK := hP.enters
 clear h hP hSg hS
 go_enter Tryz.func97, Tryz.ntmps97
 go_wp2_with fail
 (with_reducible refine (indexI_anyROS HP.out _ _ _ HI.out HS0.out (by simpa using hl)).mono ?_)
 rintro e w1 ⟨⟨r, rfl, hf⟩, hb⟩
 have HB := Lib.hid hb
 have R1 := Lib.hid (rowAtR_kept HR.out hb)
 have S1 := Lib.hid (HP.out.kept _ _ HS0.out hb)
 clear hb
 rcases hf with ⟨rfl, hall⟩ | ⟨k0, hk0, rfl, hz, hbef⟩
 ·have HF := Lib.hid (show d.toList = d.toList.filter fun t => !p t by
   rw [← HA.out, Go.Lib.keptUpTo_all (fun j => !p d[j]!) d d.size (fun j hj => by rw [found_none (pp := fun t => p t) hall j hj]; rfl), Go.Lib.range_map_get])
  clear hall
  go_wp2_with fail
  go_ret
  exact ⟨d, rfl, HF.out, Nat.le_refl _, R1.out, grown_below (World.grownBy.refl _ _) HB.out⟩
 ·have hk0 : k0 < d.size := by simpa using hk0
  have hne1 : ((k0 : Int) == -1) = false := beq_eq_false_iff_ne.2 (by omega)
  have HS := Lib.hid (Go.Lib.KeptInv.start (kp := fun j => !p d[j]!) (d := d) (k0 := k0) (fun j hj => by show (!p d[j]!) = true; rw [found_take (pp := fun t => p t) (by omega) hbef j hj]; rfl) (by show (!p d[k0]!) = false; rw [show p d[k0]! = true by rw [getElem!_pos d k0 hk0]; simpa using hz]; rfl))
  have HG := Lib.hid (show w.grownBy w1 (some g) from grown_below (World.grownBy.refl _ _) HB.out)
  have i0 : IntKind.i64.wrap ((k0 : Int) + 1) = (k0 : Int) + 1 := IntWalk.i64_in _ ⟨by omega, by omega⟩
  clear hbef hz
  go_wp2_with fail
  go_loopw [5, 6] (fun s5 s6 wr => ∃ (i j : Nat) (dk : Array Id2), s5 = .int .i64 i ∧ s6 = .int .i64 j ∧ j ≤ d.size ∧ Hid (Go.Lib.KeptInv (fun j => !p d[j]!) d j i dk) ∧ Hid (RowAtR encI 2 wr g dk) ∧ Hid (w.grownBy wr (some g)) ∧ Hid (S wr)) (fun _ s6 _ => d.size - (intOf s6).toNat)
  case atStart => exact ⟨k0, k0 + 1, d, rfl, by go_num, by omega, HS, R1, HG, S1⟩
  case round =>
   obtain ⟨i, j, dk, rfl, rfl, hjd, HK, H2, H3, H4⟩ := hrel
   have hij := HK.out.lt
   have hds := HK.out.size
   have p1 : (0 : Int) ≤ (j : Int) := by omega
   have p2 : (0 : Int) ≤ (i : Int) := by omega
   by_cases hlt : j < d.size
   ·have hd : decide ((j : Int) < (d.size : Int)) = true := by simp; omega
    have p3 : (j : Int) < (d.size : Int) := by omega
    have p4 : (i : Int) < (d.size : Int) := by omega
    have hT := (H2.out.id (show j < dk.size by omega)).1
    rw [HK.out.high j (by omega)] at hT
    rcases hn : p d[j]! with _ | _
    ·have HKK := Lib.hid (HK.out.keep hlt (by show (!p d[j]!) = true; rw [hn]; rfl))
     have HC : Hid (∀ W, S W → Calls Tryz.prog K (#[.agg #[.int .i64 d[j]!.1, .int .i64 d[j]!.2]] ++ caps) W fun e w' => e = .returned (.bool false) ∧ Below W.heap.size W w') := Lib.hid fun W hs => by
      have := HP.out.call d[j]!.1 d[j]!.2 W hs
      rw [show p (d[j]!.1, d[j]!.2) = false from hn] at this
      exact this
     have HE := Lib.hid (show d[j]! = (d[j]!.1, d[j]!.2) from rfl)
     rw [HE.out] at HKK
     clear hn HE
     have HX := Lib.hid (box_new wr d[j]!.1 d[j]!.2)
     have BX := Lib.hid (below_one wr (.cells #[.int .i64 d[j]!.1, .int .i64 d[j]!.2] 29))
     have SX := Lib.hid (HP.out.kept _ _ H4.out BX.out)
     generalize d[j]!.1 = a at *
     generalize d[j]!.2 = b at *
     obtain ⟨c1, c2⟩ := hT
     go_wp2_with fail
     (with_reducible refine (HC.out _ SX.out).mono ?_)
     rintro e w2 ⟨rfl, hb⟩
     have B2 := Lib.hid (below_after BX.out hb (Nat.le_refl _))
     have R2 := Lib.hid (rowAtR_kept H2.out B2.out)
     have G2 := Lib.hid (grown_below H3.out B2.out)
     have S2 := Lib.hid (HP.out.kept _ _ SX.out hb)
     have X2 := Lib.hid (box_below HX.out hb)
     clear hb c1 c2
     obtain ⟨x1, x2⟩ := box_cells X2.out
     obtain ⟨⟨c1, c2⟩, f1, f2⟩ := H2.out.id (show i < dk.size by omega)
     clear c1 c2 f1 f2
     obtain ⟨⟨c1, c2⟩, f1, f2⟩ := R2.out.id (show i < dk.size by omega)
     have R3 := Lib.hid (rowI_set R2.out (show i < dk.size by omega) a b)
     have G3 := Lib.hid (grown_setI G2.out i (.int .i64 a) (.int .i64 b))
     have S3 := Lib.hid (HSG.out _ _ S2.out (grown_setI (World.grownBy.refl w2 (some g)) i (.int .i64 a) (.int .i64 b)))
     go_wp2_with fail
     go_roundw
     case rel => exact ⟨i + 1, j + 1, _, by go_num, by go_num, by omega, HKK, R3, G3, S3⟩
     case measure => simp [intOf]; omega
    ·have HKK := Lib.hid (HK.out.skip (by show (!p d[j]!) = false; rw [hn]; rfl))
     have HC : Hid (∀ W, S W → Calls Tryz.prog K (#[.agg #[.int .i64 d[j]!.1, .int .i64 d[j]!.2]] ++ caps) W fun e w' => e = .returned (.bool true) ∧ Below W.heap.size W w') := Lib.hid fun W hs => by
      have := HP.out.call d[j]!.1 d[j]!.2 W hs
      rw [show p (d[j]!.1, d[j]!.2) = true from hn] at this
      exact this
     clear hn
     have BX := Lib.hid (below_one wr (.cells #[.int .i64 d[j]!.1, .int .i64 d[j]!.2] 29))
     have HX := Lib.hid (box_new wr d[j]!.1 d[j]!.2)
     have SX := Lib.hid (HP.out.kept _ _ H4.out BX.out)
     generalize d[j]!.1 = a at *
     generalize d[j]!.2 = b at *
     obtain ⟨c1, c2⟩ := hT
     go_wp2_with fail
     (with_reducible refine (HC.out _ SX.out).mono ?_)
     rintro e w2 ⟨rfl, hb⟩
     have B2 := Lib.hid (below_after BX.out hb (Nat.le_refl _))
     have R2 := Lib.hid (rowAtR_kept H2.out B2.out)
     have G2 := Lib.hid (grown_below H3.out B2.out)
     have S2 := Lib.hid (HP.out.kept _ _ SX.out hb)
     clear hb c1 c2
     go_wp2_with fail
     go_roundw
     case rel => exact ⟨i, j + 1, dk, rfl, by go_num, by omega, HKK, R2, G2, S2⟩
     case measure => simp [intOf]; omega
   ·obtain rfl : j = d.size := by omega
    have hd : decide ((d.size : Int) < (d.size : Int)) = false := by simp
    obtain ⟨vs, hcl⟩ := run_clear_recs (P := Tryz.prog) (enc := encI) (sz := 2) encI_len (by omega) Tryz.underlying23 zero30 rfl (by intro u hu; simp [Value.cells] at hu; rcases hu with rfl | rfl <;> rfl) H2.out (show i < dk.size by omega) (c - i) 0
    have R3 := Lib.hid (rowAtR_front encI_len H2.out (show i ≤ dk.size by omega) vs)
    have G3 := Lib.hid (grown_setCells H3.out (i * 2) vs)
    have HF := Lib.hid (kept_front HK.out)
    have hci : ¬ c = i := by omega
    have p5 : (i : Int) ≤ (d.size : Int) := by omega
    rw [hds] at hcl
    go_wp2_with fail
    go_ret
    exact ⟨dk.extract 0 i, by simp; omega, HF.out.trans HA.out, by simp; omega, R3.out, G3.out⟩
set_option maxHeartbeats 4000000 in
theorem deleteM_any {K : Nat} {caps : Array Value} {p : Mm → Bool} {S : World → Prop} {D : Mm → Prop} (hP : AsksM K caps p S D) (g c : Nat) (hSg : ∀ W W', S W → W.grownBy W' (some g) → S W') (d : Array Mm) (w : World) (h : RowAtR encM 4 w g d) (hS : S w) (hc : d.size ≤ c) (hl : d.size ≤ 100000) (hD : ∀ x ∈ d.toList, D x) :
  Calls Tryz.prog 105 #[.slice (some ⟨g, 0, none⟩) d.size c, .func (.func K) #[] caps] w fun e w' => ∃ d' : Array Mm, e = .returned (.slice (some ⟨g, 0, none⟩) d'.size c) ∧ (d'.toList = d.toList.filter fun t => !p t) ∧ d'.size ≤ d.size ∧ RowAtR encM 4 w' g d' ∧ w.grownBy w' (some g) := by
 have HP := Lib.hid hP
 have HSG := Lib.hid hSg
 have HS0 := Lib.hid hS
 have HDl := Lib.hid hD
 have HD : Hid (∀ j, j < d.size → D ((d[j]!.1.1, d[j]!.1.2), d[j]!.2.1, d[j]!.2.2)) := Lib.hid fun j hj => (show D d[j]! from hD _ (by rw [getElem!_pos d j hj]; simp))
 have HR := Lib.hid h
 have HI := Lib.hid (show Ms w (.slice (some ⟨g, 0, none⟩) d.size c) d.toList from rowAtR_rcs h hc)
 have HA : Hid (Go.Lib.keptUpTo (fun j => !p d[j]!) d d.size = d.toList.filter fun t => !p t) := Lib.hid (Go.Lib.keptUpTo_filter (fun t : Mm => !p t) d)
 have hK := hP.enters
 clear h hP hSg hS hD
 go_enter Tryz.func105, Tryz.ntmps105
 go_wp2_with fail
 (with_reducible refine (indexM_any HP.out _ _ _ HI.out HS0.out (by simpa using hl) HDl.out).mono ?_)
 rintro e w1 ⟨⟨r, rfl, hf⟩, hb⟩
 have HB := Lib.hid hb
 have R1 := Lib.hid (rowAtR_kept HR.out hb)
 have S1 := Lib.hid (HP.out.kept _ _ HS0.out hb)
 clear hb
 rcases hf with ⟨rfl, hall⟩ | ⟨k0, hk0, rfl, hz, hbef⟩
 ·have HF := Lib.hid (show d.toList = d.toList.filter fun t => !p t by
   rw [← HA.out, Go.Lib.keptUpTo_all (fun j => !p d[j]!) d d.size (fun j hj => by rw [found_none (pp := fun t => p t) hall j hj]; rfl), Go.Lib.range_map_get])
  clear hall
  go_wp2_with fail
  go_ret
  exact ⟨d, rfl, HF.out, Nat.le_refl _, R1.out, grown_below (World.grownBy.refl _ _) HB.out⟩
 ·have hk0 : k0 < d.size := by simpa using hk0
  have hne1 : ((k0 : Int) == -1) = false := beq_eq_false_iff_ne.2 (by omega)
  have HS := Lib.hid (Go.Lib.KeptInv.start (kp := fun j => !p d[j]!) (d := d) (k0 := k0) (fun j hj => by show (!p d[j]!) = true; rw [found_take (pp := fun t => p t) (by omega) hbef j hj]; rfl) (by show (!p d[k0]!) = false; rw [show p d[k0]! = true by rw [getElem!_pos d k0 hk0]; simpa using hz]; rfl))
  have HG := Lib.hid (show w.grownBy w1 (some g) from grown_below (World.grownBy.refl _ _) HB.out)
  have i0 : IntKind.i64.wrap ((k0 : Int) + 1) = (k0 : Int) + 1 := IntWalk.i64_in _ ⟨by omega, by omega⟩
  clear hbef hz
  go_wp2_with fail
  go_loopw [5, 6] (fun s5 s6 wr => ∃ (i j : Nat) (dk : Array Mm), s5 = .int .i64 i ∧ s6 = .int .i64 j ∧ j ≤ d.size ∧ Hid (Go.Lib.KeptInv (fun j => !p d[j]!) d j i dk) ∧ Hid (RowAtR encM 4 wr g dk) ∧ Hid (w.grownBy wr (some g)) ∧ Hid (S wr)) (fun _ s6 _ => d.size - (intOf s6).toNat)
  case atStart => exact ⟨k0, k0 + 1, d, rfl, by go_num, by omega, HS, R1, HG, S1⟩
  case round =>
   obtain ⟨i, j, dk, rfl, rfl, hjd, HK, H2, H3, H4⟩ := hrel
   have hij := HK.out.lt
   have hds := HK.out.size
   have p1 : (0 : Int) ≤ (j : Int) := by omega
   have p2 : (0 : Int) ≤ (i : Int) := by omega
   by_cases hlt : j < d.size
   ·have hd : decide ((j : Int) < (d.size : Int)) = true := by simp; omega
    have p3 : (j : Int) < (d.size : Int) := by omega
    have p4 : (i : Int) < (d.size : Int) := by omega
    have hT := (H2.out.mem (show j < dk.size by omega)).1
    rw [HK.out.high j (by omega)] at hT
    rcases hn : p d[j]! with _ | _
    ·have HKK := Lib.hid (HK.out.keep hlt (by show (!p d[j]!) = true; rw [hn]; rfl))
     have HC : Hid (∀ W, S W → Calls Tryz.prog K (#[.agg #[.int .i64 d[j]!.1.1, .int .i64 d[j]!.1.2, .int .u8 d[j]!.2.1, .int .i64 d[j]!.2.2]] ++ caps) W fun e w' => e = .returned (.bool false) ∧ Below W.heap.size W w') := Lib.hid fun W hs => by
      have := HP.out.call d[j]!.1.1 d[j]!.1.2 d[j]!.2.1 d[j]!.2.2 W (HD.out j hlt) hs
      rw [show p ((d[j]!.1.1, d[j]!.1.2), d[j]!.2.1, d[j]!.2.2) = false from hn] at this
      exact this
     have HE := Lib.hid (show d[j]! = ((d[j]!.1.1, d[j]!.1.2), d[j]!.2.1, d[j]!.2.2) from rfl)
     rw [HE.out] at HKK
     clear hn HE
     have HX := Lib.hid (mbox_new wr d[j]!.1.1 d[j]!.1.2 d[j]!.2.1 d[j]!.2.2)
     have BX := Lib.hid (below_one wr (.cells #[.int .i64 d[j]!.1.1, .int .i64 d[j]!.1.2, .int .u8 d[j]!.2.1, .int .i64 d[j]!.2.2] 31))
     have SX := Lib.hid (HP.out.kept _ _ H4.out BX.out)
     generalize d[j]!.1.1 = a at *
     generalize d[j]!.1.2 = b at *
     generalize d[j]!.2.1 = m at *
     generalize d[j]!.2.2 = n at *
     obtain ⟨c1, c2, c3, c4⟩ := hT
     go_wp2_with fail
     (with_reducible refine (HC.out _ SX.out).mono ?_)
     rintro e w2 ⟨rfl, hb⟩
     have B2 := Lib.hid (below_after BX.out hb (Nat.le_refl _))
     have R2 := Lib.hid (rowAtR_kept H2.out B2.out)
     have G2 := Lib.hid (grown_below H3.out B2.out)
     have S2 := Lib.hid (HP.out.kept _ _ SX.out hb)
     have X2 := Lib.hid (mbox_below HX.out hb)
     clear hb c1 c2 c3 c4
     obtain ⟨x1, x2, x3, x4⟩ := mbox_cells X2.out
     obtain ⟨⟨c1, c2, c3, c4⟩, f1, f2, f3, f4⟩ := H2.out.mem (show i < dk.size by omega)
     clear c1 c2 c3 c4 f1 f2 f3 f4
     obtain ⟨⟨c1, c2, c3, c4⟩, f1, f2, f3, f4⟩ := R2.out.mem (show i < dk.size by omega)
     have R3 := Lib.hid (rowM_set R2.out (show i < dk.size by omega) a b m n)
     have G3 := Lib.hid (grown_setM G2.out i (.int .i64 a) (.int .i64 b) (.int .u8 m) (.int .i64 n))
     have S3 := Lib.hid (HSG.out _ _ S2.out (grown_setM (World.grownBy.refl w2 (some g)) i (.int .i64 a) (.int .i64 b) (.int .u8 m) (.int .i64 n)))
     go_wp2_with fail
     go_roundw
     case rel => exact ⟨i + 1, j + 1, _, by go_num, by go_num, by omega, HKK, R3, G3, S3⟩
     case measure => simp [intOf]; omega
    ·have HKK := Lib.hid (HK.out.skip (by show (!p d[j]!) = false; rw [hn]; rfl))
     have HC : Hid (∀ W, S W → Calls Tryz.prog K (#[.agg #[.int .i64 d[j]!.1.1, .int .i64 d[j]!.1.2, .int .u8 d[j]!.2.1, .int .i64 d[j]!.2.2]] ++ caps) W fun e w' => e = .returned (.bool true) ∧ Below W.heap.size W w') := Lib.hid fun W hs => by
      have := HP.out.call d[j]!.1.1 d[j]!.1.2 d[j]!.2.1 d[j]!.2.2 W (HD.out j hlt) hs
      rw [show p ((d[j]!.1.1, d[j]!.1.2), d[j]!.2.1, d[j]!.2.2) = true from hn] at this
      exact this
     clear hn
     have BX := Lib.hid (below_one wr (.cells #[.int .i64 d[j]!.1.1, .int .i64 d[j]!.1.2, .int .u8 d[j]!.2.1, .int .i64 d[j]!.2.2] 31))
     have HX := Lib.hid (mbox_new wr d[j]!.1.1 d[j]!.1.2 d[j]!.2.1 d[j]!.2.2)
     have SX := Lib.hid (HP.out.kept _ _ H4.out BX.out)
     generalize d[j]!.1.1 = a at *
     generalize d[j]!.1.2 = b at *
     generalize d[j]!.2.1 = m at *
     generalize d[j]!.2.2 = n at *
     obtain ⟨c1, c2, c3, c4⟩ := hT
     go_wp2_with fail
     (with_reducible refine (HC.out _ SX.out).mono ?_)
     rintro e w2 ⟨rfl, hb⟩
     have B2 := Lib.hid (below_after BX.out hb (Nat.le_refl _))
     have R2 := Lib.hid (rowAtR_kept H2.out B2.out)
     have G2 := Lib.hid (grown_below H3.out B2.out)
     have S2 := Lib.hid (HP.out.kept _ _ SX.out hb)
     clear hb c1 c2 c3 c4
     go_wp2_with fail
     go_roundw
     case rel => exact ⟨i, j + 1, dk, rfl, by go_num, by omega, HKK, R2, G2, S2⟩
     case measure => simp [intOf]; omega
   ·obtain rfl : j = d.size := by omega
    have hd : decide ((d.size : Int) < (d.size : Int)) = false := by simp
    obtain ⟨vs, hcl⟩ := run_clear_recs (P := Tryz.prog) (enc := encM) (sz := 4) encM_len (by omega) Tryz.underlying22 zero32 rfl (by intro u hu; simp [Value.cells] at hu; rcases hu with rfl | rfl | rfl <;> rfl) H2.out (show i < dk.size by omega) (c - i) 0
    have R3 := Lib.hid (rowAtR_front encM_len H2.out (show i ≤ dk.size by omega) vs)
    have G3 := Lib.hid (grown_setCells H3.out (i * 4) vs)
    have HF := Lib.hid (kept_front HK.out)
    have hci : ¬ c = i := by omega
    have p5 : (i : Int) ≤ (d.size : Int) := by omega
    rw [hds] at hcl
    go_wp2_with fail
    go_ret
    exact ⟨dk.extract 0 i, by simp; omega, HF.out.trans HA.out, by simp; omega, R3.out, G3.out⟩
end Go.Proofs.YtjlnnmjhbccdoaaGreat
namespace Go.Proofs.YtjlnnmjhbccdoaaGreat
open Go Go.RowKit Ros
def Lots (w : World) (g t : Nat) (cs : List Value) : Prop := w.heap[g]? = some (.cells cs.toArray t (0, 0))
theorem lots_cell {w : World} {g t : Nat} {cs : List Value} (h : Lots w g t cs) {k : Nat} (hk : k < cs.length) : w.cell? ⟨g, k, none⟩ = some cs[k] := by
 unfold Lots at h
 rw [cell_of_row _ _ k _ _ _ h]
 simp [hk]
theorem lots_below {w w' : World} {g t : Nat} {cs : List Value} (h : Lots w g t cs) (hb : Below w.heap.size w w') : Lots w' g t cs := (hb.block _ (row_lt h)).trans h
theorem flat_take {α : Type} {ls : List (List α)} {k : Nat} (hk : k < ls.length) : (ls.take (k + 1)).flatten = (ls.take k).flatten ++ ls[k] := by
 rw [List.take_succ_eq_append_getElem hk, List.flatten_append]
 simp
def tot {α : Type} (ls : List (List α)) (k : Nat) : Nat := (ls.take k).flatten.length
theorem tot_next {α : Type} {ls : List (List α)} {k : Nat} (hk : k < ls.length) : tot ls (k + 1) = tot ls k + ls[k].length := by
 unfold tot
 rw [flat_take hk, List.length_append]
theorem flat_len_le {α : Type} (ls : List (List α)) (k : Nat) : (ls.take k).flatten.length ≤ ls.flatten.length := by
 have : ls.flatten = (ls.take k).flatten ++ (ls.drop k).flatten := by rw [← List.flatten_append, List.take_append_drop]
 rw [this, List.length_append]
 omega
set_option maxHeartbeats 1000000 in
theorem growI_any (n : Nat) (w : World) (hn : n ≤ 100000) :
  Calls Tryz.prog 147 #[.slice none 0 0, .int .i64 n] w fun e w' => ∃ V, e = .returned V ∧ OwnsR encI 2 29 w' w.heap.size V [] ∧ Below w.heap.size w w' := by
 have h1 : decide ((n : Int) < 0) = false := by simp
 by_cases hp : 0 < n
 ·obtain ⟨i0, hi, hz0, hz1, hz2⟩ := info_parts info30
  have hr : ∀ T, (Builtin.append_ #[23, 3] T #[.slice none 0 0, .int .i64 n]).run Tryz.prog w = .ok (.slice (some ⟨w.heap.size, 0, none⟩) n (grownCap w n 0 29)) (w.drew.alloc (.cells (Builtin.zeroCells (Value.agg #[.int .i64 0, .int .i64 0]).cells n ++ Builtin.zeroCells (Value.agg #[.int .i64 0, .int .i64 0]).cells (grownCap w n 0 29 - n)) 29)) := fun T =>
   Lib.run_append_nil_zeros w 23 3 T 29 i0 _ .i64 .i64 Tryz.underlying23 Tryz.underlying3 hi hz0 n hp (by omega) (by omega) (by rw [hz2]; omega)
  have hc1 : n ≤ grownCap w n 0 29 := grownCap_ge w _ _ _
  have hc2 : grownCap w n 0 29 ≤ maxLen := grownCap_le_maxLen w n 0 29 (by unfold maxLen; omega)
  have HO : Hid (OwnsR encI 2 29 (w.drew.alloc (.cells (Builtin.zeroCells (Value.agg #[.int .i64 0, .int .i64 0]).cells n ++ Builtin.zeroCells (Value.agg #[.int .i64 0, .int .i64 0]).cells (grownCap w n 0 29 - n)) 29)) w.heap.size (.slice (some ⟨w.heap.size, 0, none⟩) 0 (grownCap w n 0 29)) []) := Lib.hid (World.ownsRow_made w.drew _ _ (Nat.le_refl _) hc2 (by simp [Builtin.zeroCells, Value.cells]; omega))
  have HB : Hid (Below w.heap.size w (w.drew.alloc (.cells (Builtin.zeroCells (Value.agg #[.int .i64 0, .int .i64 0]).cells n ++ Builtin.zeroCells (Value.agg #[.int .i64 0, .int .i64 0]).cells (grownCap w n 0 29 - n)) 29))) := Lib.hid ((Below.drew (Below.refl _ w)).alloc (Nat.le_refl _) _)
  generalize grownCap w n 0 29 = G at *
  generalize Builtin.zeroCells (Value.agg #[.int .i64 0, .int .i64 0]).cells n ++ Builtin.zeroCells (Value.agg #[.int .i64 0, .int .i64 0]).cells (G - n) = R at *
  have h2 : decide ((n : Int) > 0) = true := by simpa using hp
  have h2' : decide (0 < (n : Int)) = true := by simpa using hp
  have hw : IntKind.i64.wrap (n : Int) = n := IntWalk.i64_in _ ⟨by omega, by omega⟩
  clear hi hz0 hz1 hz2 hc2
  go_enter Tryz.func147, Tryz.ntmps147
  go_wp2_with (at_builtin; refine Lib.wpList_append_run _ rfl _ _ _ _ rfl _ _ rfl rfl _ _ (hr _) ?_)
  go_ret
  exact ⟨_, rfl, HO.out, HB.out⟩
 ·obtain rfl : n = 0 := by omega
  have HO : Hid (OwnsR encI 2 29 w w.heap.size (.slice none 0 0) []) := Lib.hid (OwnsR.nil _ _ _)
  go_enter Tryz.func147, Tryz.ntmps147
  go_wp2_with fail
  go_ret
  exact ⟨_, rfl, HO.out, Below.refl _ _⟩
set_option maxHeartbeats 4000000 in
theorem concatI_any (g : Nat) (cs : List Value) (ls : List (List Id2)) (w : World) {tt : Nat} (h : Lots w g tt cs) (hcl : cs.length = ls.length) (hs : ∀ (k : Nat) (hk : k < cs.length) (hk' : k < ls.length), Rcs encI 2 w cs[k] ls[k]) (hn : cs.length ≤ 10) (hl : ls.flatten.length ≤ 50000) :
  Calls Tryz.prog 109 #[.slice (some ⟨g, 0, none⟩) cs.length cs.length] w fun e w' => ∃ V, e = .returned V ∧ OwnsR encI 2 29 w' w.heap.size V ls.flatten ∧ Below w.heap.size w w' := by
 have HI := Lib.hid h
 have HS := Lib.hid hs
 have HL : Hid (∀ k, tot ls k ≤ 50000) := Lib.hid (fun k => Nat.le_trans (flat_len_le ls k) hl)
 clear h hs
 go_enter Tryz.func109, Tryz.ntmps109
 go_wp2_with fail
 go_loop [3, 11] (fun s3 s11 => ∃ k : Nat, k ≤ cs.length ∧ s11 = .int .i64 k ∧ s3 = .int .i64 (tot ls k)) (fun _ s11 => cs.length - (intOf s11).toNat)
 case atStart => exact ⟨0, by omega, rfl, by simp [tot]⟩
 case round =>
  obtain ⟨k, hkl, rfl, rfl⟩ := hrel
  have i3 : (0 : Int) ≤ (k : Int) := by omega
  by_cases hlt : k < cs.length
  ·have hd : decide ((k : Int) < (cs.length : Int)) = true := by simp; omega
   have i4 : (k : Int) < (cs.length : Int) := by omega
   obtain ⟨A, c, hv, hz⟩ := HS.out k hlt (by omega)
   have c1 := lots_cell HI.out hlt
   rw [hv] at c1
   clear hz hv
   have hm := HL.out (k + 1)
   have hT := tot_next (ls := ls) (k := k) (by omega)
   rw [hT] at hm
   have HT := Lib.hid hT
   clear hT
   generalize (ls[k]'(by omega)).length = q at *
   generalize tot ls k = p at *
   have hw : IntKind.i64.wrap ((p : Int) + (q : Int)) = (p : Int) + (q : Int) := IntWalk.i64_in _ ⟨by omega, by omega⟩
   have hd2 : decide ((p : Int) + (q : Int) < 0) = false := by simp; omega
   go_wp2_with fail
   go_round
   case rel => exact ⟨k + 1, by omega, by go_num, by rw [HT.out, Int.natCast_add]⟩
   case measure => simp [intOf]; omega
  ·have hd : decide ((k : Int) < (cs.length : Int)) = false := by simp; omega
   have hm := HL.out k
   generalize tot ls k = p at *
   go_wp2_with fail
   refine (growI_any _ _ (by omega)).mono ?_
   rintro e w1 ⟨V0, rfl, hO, hb⟩
   have HB := Lib.hid hb
   have HO := Lib.hid hO
   have HI1 := Lib.hid (lots_below HI.out hb)
   have HS1 := Lib.hid fun k hk hk' => (HS.out k hk hk').below hb
   clear hb hO hd
   go_wp2_with fail
   go_loopw [6, 27] (fun s6 s27 wr => ∃ k : Nat, k ≤ cs.length ∧ s27 = .int .i64 k ∧ Hid (OwnsR encI 2 29 wr w.heap.size s6 (ls.take k).flatten) ∧ Hid (Below w.heap.size w wr)) (fun _ s27 _ => cs.length - (intOf s27).toNat)
   case atStart => exact ⟨0, by omega, rfl, Lib.hid (by simpa using HO.out), HB⟩
   case round =>
    obtain ⟨k, hkl, rfl, HO, HW⟩ := hrel
    have i3 : (0 : Int) ≤ (k : Int) := by omega
    by_cases hlt : k < cs.length
    ·have hd : decide ((k : Int) < (cs.length : Int)) = true := by simp; omega
     have i4 : (k : Int) < (cs.length : Int) := by omega
     have hR := (HS.out k hlt (by omega)).below HW.out
     have HR := Lib.hid hR
     obtain ⟨A, c, hv, _⟩ := hR
     have c1 := lots_cell (lots_below HI.out HW.out) hlt
     rw [hv] at c1 HR
     have HT := Lib.hid (flat_take (ls := ls) (k := k) (by omega))
     have HM := Lib.hid (show (ls.take k).flatten.length + (ls[k]'(by omega)).length ≤ 100000 from (Nat.le_trans (Nat.le_of_eq (tot_next (ls := ls) (k := k) (by omega)).symm) (Nat.le_trans (HL.out (k + 1)) (by omega))))
     have hbs := HW.out.size
     go_wp2_with (at_builtin; refine wpList_append_recs (enc := encI) (sz := 2) 23 29 Tryz.underlying23 info30 rfl encI_len (by omega) encI_one (by omega) rfl (.tmp 31) (.tmp 32) rfl wr w.heap.size _ _ (ls.take k).flatten (ls[k]'(by omega)) rfl rfl HO.out HR.out HM.out hbs ?_; intro v' w' hO' hB'; have HO' := Lib.hid hO'; have HB' := Lib.hid (HW.out.trans hB'); clear hO' hB')
     go_roundw
     case rel => exact ⟨k + 1, by omega, by go_num, by rw [HT.out]; exact HO', HB'⟩
     case measure => simp [intOf]; omega
    ·have hd : decide ((k : Int) < (cs.length : Int)) = false := by simp; omega
     have HF := Lib.hid (show (ls.take k).flatten = ls.flatten by rw [List.take_of_length_le (by omega)])
     go_wp2_with fail
     go_ret
     exact ⟨_, rfl, by rw [← HF.out]; exact HO.out, HW.out⟩
set_option maxHeartbeats 1000000 in
theorem growM_any (n : Nat) (w : World) (hn : n ≤ 100000) :
  Calls Tryz.prog 146 #[.slice none 0 0, .int .i64 n] w fun e w' => ∃ V, e = .returned V ∧ OwnsR encM 4 31 w' w.heap.size V [] ∧ Below w.heap.size w w' := by
 have h1 : decide ((n : Int) < 0) = false := by simp
 by_cases hp : 0 < n
 ·obtain ⟨i0, hi, hz0, hz1, hz2⟩ := info_parts info32
  have hr : ∀ T, (Builtin.append_ #[22, 3] T #[.slice none 0 0, .int .i64 n]).run Tryz.prog w = .ok (.slice (some ⟨w.heap.size, 0, none⟩) n (grownCap w n 0 31)) (w.drew.alloc (.cells (Builtin.zeroCells (Value.agg #[.int .i64 0, .int .i64 0, .int .u8 0, .int .i64 0]).cells n ++ Builtin.zeroCells (Value.agg #[.int .i64 0, .int .i64 0, .int .u8 0, .int .i64 0]).cells (grownCap w n 0 31 - n)) 31)) := fun T =>
   Lib.run_append_nil_zeros w 22 3 T 31 i0 _ .i64 .i64 Tryz.underlying22 Tryz.underlying3 hi hz0 n hp (by omega) (by omega) (by rw [hz2]; omega)
  have hc1 : n ≤ grownCap w n 0 31 := grownCap_ge w _ _ _
  have hc2 : grownCap w n 0 31 ≤ maxLen := grownCap_le_maxLen w n 0 31 (by unfold maxLen; omega)
  have HO : Hid (OwnsR encM 4 31 (w.drew.alloc (.cells (Builtin.zeroCells (Value.agg #[.int .i64 0, .int .i64 0, .int .u8 0, .int .i64 0]).cells n ++ Builtin.zeroCells (Value.agg #[.int .i64 0, .int .i64 0, .int .u8 0, .int .i64 0]).cells (grownCap w n 0 31 - n)) 31)) w.heap.size (.slice (some ⟨w.heap.size, 0, none⟩) 0 (grownCap w n 0 31)) []) := Lib.hid (World.ownsRow_made w.drew _ _ (Nat.le_refl _) hc2 (by simp [Builtin.zeroCells, Value.cells]; omega))
  have HB : Hid (Below w.heap.size w (w.drew.alloc (.cells (Builtin.zeroCells (Value.agg #[.int .i64 0, .int .i64 0, .int .u8 0, .int .i64 0]).cells n ++ Builtin.zeroCells (Value.agg #[.int .i64 0, .int .i64 0, .int .u8 0, .int .i64 0]).cells (grownCap w n 0 31 - n)) 31))) := Lib.hid ((Below.drew (Below.refl _ w)).alloc (Nat.le_refl _) _)
  generalize grownCap w n 0 31 = G at *
  generalize Builtin.zeroCells (Value.agg #[.int .i64 0, .int .i64 0, .int .u8 0, .int .i64 0]).cells n ++ Builtin.zeroCells (Value.agg #[.int .i64 0, .int .i64 0, .int .u8 0, .int .i64 0]).cells (G - n) = R at *
  have h2 : decide ((n : Int) > 0) = true := by simpa using hp
  have h2' : decide (0 < (n : Int)) = true := by simpa using hp
  have hw : IntKind.i64.wrap (n : Int) = n := IntWalk.i64_in _ ⟨by omega, by omega⟩
  clear hi hz0 hz1 hz2 hc2
  go_enter Tryz.func146, Tryz.ntmps146
  go_wp2_with (at_builtin; refine Lib.wpList_append_run _ rfl _ _ _ _ rfl _ _ rfl rfl _ _ (hr _) ?_)
  go_ret
  exact ⟨_, rfl, HO.out, HB.out⟩
 ·obtain rfl : n = 0 := by omega
  have HO : Hid (OwnsR encM 4 31 w w.heap.size (.slice none 0 0) []) := Lib.hid (OwnsR.nil _ _ _)
  go_enter Tryz.func146, Tryz.ntmps146
  go_wp2_with fail
  go_ret
  exact ⟨_, rfl, HO.out, Below.refl _ _⟩
set_option maxHeartbeats 4000000 in
theorem concatM_any (g : Nat) (cs : List Value) (ls : List (List Mm)) (w : World) {tt : Nat} (h : Lots w g tt cs) (hcl : cs.length = ls.length) (hs : ∀ (k : Nat) (hk : k < cs.length) (hk' : k < ls.length), Rcs encM 4 w cs[k] ls[k]) (hn : cs.length ≤ 10) (hl : ls.flatten.length ≤ 50000) :
  Calls Tryz.prog 106 #[.slice (some ⟨g, 0, none⟩) cs.length cs.length] w fun e w' => ∃ V, e = .returned V ∧ OwnsR encM 4 31 w' w.heap.size V ls.flatten ∧ Below w.heap.size w w' := by
 have HI := Lib.hid h
 have HS := Lib.hid hs
 have HL : Hid (∀ k, tot ls k ≤ 50000) := Lib.hid (fun k => Nat.le_trans (flat_len_le ls k) hl)
 clear h hs
 go_enter Tryz.func106, Tryz.ntmps106
 go_wp2_with fail
 go_loop [3, 11] (fun s3 s11 => ∃ k : Nat, k ≤ cs.length ∧ s11 = .int .i64 k ∧ s3 = .int .i64 (tot ls k)) (fun _ s11 => cs.length - (intOf s11).toNat)
 case atStart => exact ⟨0, by omega, rfl, by simp [tot]⟩
 case round =>
  obtain ⟨k, hkl, rfl, rfl⟩ := hrel
  have i3 : (0 : Int) ≤ (k : Int) := by omega
  by_cases hlt : k < cs.length
  ·have hd : decide ((k : Int) < (cs.length : Int)) = true := by simp; omega
   have i4 : (k : Int) < (cs.length : Int) := by omega
   obtain ⟨A, c, hv, hz⟩ := HS.out k hlt (by omega)
   have c1 := lots_cell HI.out hlt
   rw [hv] at c1
   clear hz hv
   have hm := HL.out (k + 1)
   have hT := tot_next (ls := ls) (k := k) (by omega)
   rw [hT] at hm
   have HT := Lib.hid hT
   clear hT
   generalize (ls[k]'(by omega)).length = q at *
   generalize tot ls k = p at *
   have hw : IntKind.i64.wrap ((p : Int) + (q : Int)) = (p : Int) + (q : Int) := IntWalk.i64_in _ ⟨by omega, by omega⟩
   have hd2 : decide ((p : Int) + (q : Int) < 0) = false := by simp; omega
   go_wp2_with fail
   go_round
   case rel => exact ⟨k + 1, by omega, by go_num, by rw [HT.out, Int.natCast_add]⟩
   case measure => simp [intOf]; omega
  ·have hd : decide ((k : Int) < (cs.length : Int)) = false := by simp; omega
   have hm := HL.out k
   generalize tot ls k = p at *
   go_wp2_with fail
   refine (growM_any _ _ (by omega)).mono ?_
   rintro e w1 ⟨V0, rfl, hO, hb⟩
   have HB := Lib.hid hb
   have HO := Lib.hid hO
   have HI1 := Lib.hid (lots_below HI.out hb)
   have HS1 := Lib.hid fun k hk hk' => (HS.out k hk hk').below hb
   clear hb hO hd
   go_wp2_with fail
   go_loopw [6, 27] (fun s6 s27 wr => ∃ k : Nat, k ≤ cs.length ∧ s27 = .int .i64 k ∧ Hid (OwnsR encM 4 31 wr w.heap.size s6 (ls.take k).flatten) ∧ Hid (Below w.heap.size w wr)) (fun _ s27 _ => cs.length - (intOf s27).toNat)
   case atStart => exact ⟨0, by omega, rfl, Lib.hid (by simpa using HO.out), HB⟩
   case round =>
    obtain ⟨k, hkl, rfl, HO, HW⟩ := hrel
    have i3 : (0 : Int) ≤ (k : Int) := by omega
    by_cases hlt : k < cs.length
    ·have hd : decide ((k : Int) < (cs.length : Int)) = true := by simp; omega
     have i4 : (k : Int) < (cs.length : Int) := by omega
     have hR := (HS.out k hlt (by omega)).below HW.out
     have HR := Lib.hid hR
     obtain ⟨A, c, hv, _⟩ := hR
     have c1 := lots_cell (lots_below HI.out HW.out) hlt
     rw [hv] at c1 HR
     have HT := Lib.hid (flat_take (ls := ls) (k := k) (by omega))
     have HM := Lib.hid (show (ls.take k).flatten.length + (ls[k]'(by omega)).length ≤ 100000 from (Nat.le_trans (Nat.le_of_eq (tot_next (ls := ls) (k := k) (by omega)).symm) (Nat.le_trans (HL.out (k + 1)) (by omega))))
     have hbs := HW.out.size
     go_wp2_with (at_builtin; refine wpList_append_recs (enc := encM) (sz := 4) 22 31 Tryz.underlying22 info32 rfl encM_len (by omega) encM_one (by omega) rfl (.tmp 31) (.tmp 32) rfl wr w.heap.size _ _ (ls.take k).flatten (ls[k]'(by omega)) rfl rfl HO.out HR.out HM.out hbs ?_; intro v' w' hO' hB'; have HO' := Lib.hid hO'; have HB' := Lib.hid (HW.out.trans hB'); clear hO' hB')
     go_roundw
     case rel => exact ⟨k + 1, by omega, by go_num, by rw [HT.out]; exact HO', HB'⟩
     case measure => simp [intOf]; omega
    ·have hd : decide ((k : Int) < (cs.length : Int)) = false := by simp; omega
     have HF := Lib.hid (show (ls.take k).flatten = ls.flatten by rw [List.take_of_length_le (by omega)])
     go_wp2_with fail
     go_ret
     exact ⟨_, rfl, by rw [← HF.out]; exact HO.out, HW.out⟩
end Go.Proofs.YtjlnnmjhbccdoaaGreat
namespace Go.Proofs.YtjlnnmjhbccdoaaGreat
open Go Go.RowKit Ros
theorem max_two (a b : Int) (w : World) : (Builtin.max_ #[3, 3] 3 #[.int .i64 a, .int .i64 b]).run Tryz.prog w = .ok (.int .i64 (max a b)) w := by
 have h2 : ∀ x y : Int, Builtin.max2 (.int .i64 x) (.int .i64 y) = pure (.int .i64 (max x y)) := by
  intro x y
  show pure (Value.int .i64 (if x < y then y else x)) = _
  by_cases h : x < y
  ·rw [if_pos h, show max x y = y by omega]
  ·rw [if_neg h, show max x y = x by omega]
 simp [Builtin.max_, h2, List.foldlM, Sem.run_pure]
theorem max_two8 (a b : Int) (w : World) : (Builtin.max_ #[5, 5] 5 #[.int .u8 a, .int .u8 b]).run Tryz.prog w = .ok (.int .u8 (max a b)) w := by
 have h2 : ∀ x y : Int, Builtin.max2 (.int .u8 x) (.int .u8 y) = pure (.int .u8 (max x y)) := by
  intro x y
  show pure (Value.int .u8 (if x < y then y else x)) = _
  by_cases h : x < y
  ·rw [if_pos h, show max x y = y by omega]
  ·rw [if_neg h, show max x y = x by omega]
 simp [Builtin.max_, h2, List.foldlM, Sem.run_pure]
theorem min_two (a b : Int) (w : World) : (Builtin.min_ #[3, 3] 3 #[.int .i64 a, .int .i64 b]).run Tryz.prog w = .ok (.int .i64 (min a b)) w := by
 have h2 : ∀ x y : Int, Builtin.min2 (.int .i64 x) (.int .i64 y) = pure (.int .i64 (min x y)) := by
  intro x y
  show pure (Value.int .i64 (if y < x then y else x)) = _
  by_cases h : y < x
  ·rw [if_pos h, show min x y = y by omega]
  ·rw [if_neg h, show min x y = x by omega]
 simp [Builtin.min_, h2, List.foldlM, Sem.run_pure]
theorem elder_any (a b : Int) (w : World) :
  Calls Tryz.prog 149 #[.int .i64 a, .int .i64 b] w fun e w' => e = .returned (.int .i64 (elder a b)) ∧ w = w' := by
 have hm := max_two b 0 w
 have hn := min_two a b w
 by_cases h1 : a ≤ 0
 ·have HE := Lib.hid (show elder a b = max b 0 by unfold elder; rw [if_pos h1])
  go_enter Tryz.func149, Tryz.ntmps149
  go_wp2_with fail
  go_ret
  exact ⟨ret_int HE.out.symm, rfl⟩
 ·by_cases h2 : b ≤ 0
  ·have HE := Lib.hid (show elder a b = a by unfold elder; rw [if_neg h1, if_pos h2])
   go_enter Tryz.func149, Tryz.ntmps149
   go_wp2_with fail
   go_ret
   exact ⟨ret_int HE.out.symm, rfl⟩
  ·have HE := Lib.hid (show elder a b = min a b by unfold elder; rw [if_neg h1, if_neg h2])
   go_enter Tryz.func149, Tryz.ntmps149
   go_wp2_with fail
   go_ret
   exact ⟨ret_int HE.out.symm, rfl⟩
theorem grown_drew {a w : World} {r : Option Nat} (h : a.grownBy w r) : a.grownBy w.drew r := ⟨h.os, h.tape, h.output, h.size, h.block⟩
theorem arr_at (L : Nat → Int) (j : Nat) (hj : j < (List.map L (List.range 13)).toArray.size) : (List.map L (List.range 13)).toArray[j] = L j := by simp
theorem lives_set {w : World} {g k : Nat} {L : Nat → Int} (h : Lives w g L) (hk : k < 13) (i : Int) : Lives (w.setCell ⟨g, k, none⟩ (.int .i64 (max (L k) i))) g (raise L ((k : Int), i)) := by
 refine ⟨by rw [World.size_setCell]; exact h.1, fun j hj => ?_⟩
 have := rowAtR_set (enc := fun x : Int => [.int .i64 x]) (sz := 1) (fun _ => rfl) (w := w) (g := g) (d := (List.map L (List.range 13)).toArray) ⟨h.1, fun q hq m u hu => by
  have hq' : q < 13 := by simpa using hq
  have hm : m = 0 := by
   have := (List.getElem?_eq_some_iff.1 hu).1
   simpa using this
  subst hm
  have e : (List.map L (List.range 13)).toArray[q]! = L q := by
   rw [getElem!_pos _ q hq]
   simp
  rw [e] at hu
  rw [← Option.some.inj hu, Nat.mul_one, Nat.add_zero]
  exact h.2 q hq'⟩ (i := k) (by simpa using hk) (max (L k) i)
 have h2 := this.2 j (by simpa using hj) 0 (.int .i64 (raise L ((k : Int), i) j)) (by
  have e : ((List.map L (List.range 13)).toArray.setIfInBounds k (max (L k) i))[j]! = raise L ((k : Int), i) j := by
   rw [getElem!_pos _ j (by simpa using hj)]
   by_cases e : j = k
   ·subst e
    rw [Array.getElem_setIfInBounds_self, raise_yes (x := ((j : Int), i)) rfl]
   ·rw [Array.getElem_setIfInBounds_ne (by simpa using hj) (fun h => e h.symm), raise_no (x := ((k : Int), i)) (by show ¬ (k : Int) = (j : Int); omega)]
    exact arr_at L j _
  rw [e]
  rfl)
 rw [Nat.mul_one, Nat.mul_one, Nat.add_zero] at h2
 exact h2
set_option maxHeartbeats 4000000 in
theorem raise_any (g k : Nat) (L : Nat → Int) (i : Int) (w : World) (h : Lives w g L) (hk : k < 13) :
  Calls Tryz.prog 148 #[.pointer (some ⟨g, 0, none⟩), .agg #[.int .i64 k, .int .i64 i]] w fun e w' => e = .returned (.tuple #[]) ∧ Lives w' g (raise L ((k : Int), i)) ∧ w.grownBy w' (some g) := by
 have HB := Lib.hid (below_one w (.cells #[.int .i64 k, .int .i64 i] 29))
 have HX := Lib.hid (box_new w k i)
 have HL := Lib.hid (lives_below h HB.out)
 have HS := Lib.hid (fun W (hW : Lives W g L) => lives_set hW hk i)
 have HG := Lib.hid (grown_below (World.grownBy.refl w (some g)) HB.out)
 have hm := fun W => max_two (L k) i W
 obtain ⟨c1, f1⟩ := HL.out.2 k hk
 obtain ⟨c2, c3⟩ := box_cells HX.out
 have p1 : (0 : Int) ≤ (k : Int) := by omega
 have p2 : (k : Int) < 13 := by omega
 generalize L k = z at *
 clear h
 go_enter Tryz.func148, Tryz.ntmps148
 go_wp2_with fail
 go_region
 all_goals
  go_wp2_with fail
  go_end0
  refine ⟨rfl, ?_, ?_⟩
  ·exact HS.out _ HL.out
  ·exact grown_drew (grown_setCells HG.out k [_])
set_option maxHeartbeats 1000000 in
theorem gone_anyROS (g k : Nat) (L : Nat → Int) (i : Int) (w : World) (h : Lives w g L) (hk : k < 13) :
  Calls Tryz.prog 113 #[.pointer (some ⟨g, 0, none⟩), .agg #[.int .i64 k, .int .i64 i]] w fun e w' => e = .returned (.bool (decide (i ≤ L k))) ∧ Below w.heap.size w w' := by
 have HB := Lib.hid (below_one w (.cells #[.int .i64 k, .int .i64 i] 29))
 have HX := Lib.hid (box_new w k i)
 have HL := Lib.hid (lives_below h HB.out)
 obtain ⟨c1, f1⟩ := HL.out.2 k hk
 obtain ⟨c2, c3⟩ := box_cells HX.out
 have p1 : (0 : Int) ≤ (k : Int) := by omega
 have p2 : (k : Int) < 13 := by omega
 generalize L k = z at *
 clear h
 go_enter Tryz.func113, Tryz.ntmps113
 go_wp2_with fail
 go_quiet (fail)
 go_wp2_with fail
 go_ret
 exact ⟨rfl, below_drewN HB.out⟩
theorem gone_asks (X g : Nat) (L : Nat → Int) : AsksM 112 #[.pointer (some ⟨X, 0, none⟩)] (goneM L) (fun W => One W X 109 (.pointer (some ⟨g, 0, none⟩)) ∧ Lives W g L) (fun x => 0 ≤ x.1.1 ∧ x.1.1 < 13) where
 enters := fun args W => enters_fn Tryz.func112 (by kernel_rfl) rfl args W
 kept _ _ h hb := ⟨one_below h.1 hb, lives_below h.2 hb⟩
 call a i s n W hc hS := by
  have hc1 : 0 ≤ a := hc.1
  have hc2 : a < 13 := hc.2
  obtain ⟨k, rfl⟩ : ∃ k : Nat, a = (k : Int) := ⟨a.toNat, by omega⟩
  have HB := Lib.hid (below_one W (.cells #[.int .i64 k, .int .i64 i, .int .u8 s, .int .i64 n] 31))
  have HO := Lib.hid (one_below hS.1 HB.out)
  have HL := Lib.hid (lives_below hS.2 HB.out)
  have HM := Lib.hid (mbox_new W k i s n)
  have HR := Lib.hid (show goneM L (((k : Int), i), s, n) = decide (i ≤ L k) by unfold goneM; simp)
  have hk : k < 13 := by omega
  clear hS hc
  have c0 := one_cell HO.out
  obtain ⟨c1, c2, c3, c4⟩ := mbox_cells HM.out
  go_enter Tryz.func112, Tryz.ntmps112
  go_wp2_with fail
  refine (gone_anyROS g k L i _ HL.out hk).mono ?_
  rintro e w1 ⟨rfl, hb⟩
  have H1 := Lib.hid (below_after HB.out hb (Nat.le_refl _))
  clear hb
  go_wp2_with fail
  go_ret
  exact ⟨ret_bool HR.out.symm, H1.out⟩
end Go.Proofs.YtjlnnmjhbccdoaaGreat
