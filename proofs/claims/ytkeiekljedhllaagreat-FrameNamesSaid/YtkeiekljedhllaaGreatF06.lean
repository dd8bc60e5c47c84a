/-
  Carried over and put together: contracts of this program's functions, and plain facts. No statement is proved in this text.
-/
import Derived.Lib.SlKept
import Derived.BigRegion
import Derived.Test.YtkeiekljedhllaaGreatRows
import Derived.WalkKit
import Derived.WalkSpells
import Derived.WalkLawsBesides
import Derived.OwnWalk
import Derived.Deep.AppendLies
import Derived.Outline
import Derived.IntWalk
import Derived.Deep.LoopGhost
import Derived.Handy
import Derived.Lib.Hide
import Derived.Deep.RegionWith
import Derived.Deep.RegionHeld3
import Derived.BigQuiet
import Derived.Deep.QuietTactic
import Derived.Laws.IdiomCopy
import Derived.Laws.NewBlocks
import Derived.Below
import Derived.Laws.AppendOwnNone
import Derived.Deep.Slices
import Derived.Deep.DeepCutAuto
import Derived.Lib.AppendZerosOnto
import Derived.Lib.AppendZeros
import Derived.Deep.RegionLaw
import Derived.StillTailTactics
import Derived.Test.YtkeiekljedhllaaGreatF00
import Derived.Test.YtkeiekljedhllaaGreatF01
import Derived.Test.YtkeiekljedhllaaGreatF04
import Derived.Test.YtkeiekljedhllaaGreatF05
set_option maxRecDepth 20000
namespace Go.Proofs.YtkeiekljedhllaaGreat
open Go Go.RowKit Sets RowSets
theorem zero23 (W : World) : (zeroValue 24).run Tryz.prog W = .ok (.agg #[.int .i64 0, .int .i64 0]) W := by kernel_rfl
theorem zero26 (W : World) : (zeroValue 37).run Tryz.prog W = .ok (.agg #[.int .i64 0, .int .i64 0, .int .i64 0, .slice none 0 0]) W := by kernel_rfl
theorem kept_front {α : Type} [Inhabited α] {kp : Nat → Bool} {d dk : Array α} {k : Nat} (h : Go.Lib.KeptInv kp d d.size k dk) : (dk.extract 0 k).toList = Go.Lib.keptUpTo kp d d.size := by
  have hk := h.lt
  have hs := h.size
  apply List.ext_getElem?
  intro j
  by_cases c : j < k
  · rw [h.low j c]
    have h1 : j < (dk.extract 0 k).size := by simp; omega
    rw [Array.getElem?_toList, Array.getElem?_eq_getElem h1, getElem!_pos dk j (by omega)]
    simp
  · rw [List.getElem?_eq_none (by simp; omega), List.getElem?_eq_none (by rw [h.len]; omega)]
/-- What a search answers, as the kept ones see it. -/
theorem found_none {α : Type} [Inhabited α] {d : Array α} {pp : α → Bool} (h : ∀ x ∈ d.toList, pp x = false) (j : Nat) (hj : j < d.size) : pp d[j]! = false := by
  rw [getElem!_pos d j hj]
  exact h _ (by simp)
theorem found_take {α : Type} [Inhabited α] {d : Array α} {pp : α → Bool} {k : Nat} (hk : k ≤ d.size) (h : ∀ x ∈ d.toList.take k, pp x = false) (j : Nat) (hj : j < k) : pp d[j]! = false := by
  rw [getElem!_pos d j (by omega)]
  refine h _ ?_
  have : d[j]'(by omega) = (d.toList.take k)[j]'(by simp; omega) := by simp
  rw [this]
  exact List.getElem_mem _
set_option maxHeartbeats 4000000 in
/-- slices.DeleteFunc over IDs. -/
theorem deleteI_any {K : Nat} {caps : Array Value} {p : Id2 → Bool} {S : World → Prop} (hP : AsksI K caps p S) (g c : Nat) (hSg : ∀ W W', S W → W.grownBy W' (some g) → S W') (d : Array Id2) (w : World) (h : RowAtR encI 2 w g d) (hS : S w) (hc : d.size ≤ c) (hl : d.size ≤ 100000) :
    Calls Tryz.prog 58 #[.slice (some ⟨g, 0, none⟩) d.size c, .func (.func K) #[] caps] w fun e w' => ∃ d' : Array Id2, e = .returned (.slice (some ⟨g, 0, none⟩) d'.size c) ∧ (d'.toList = d.toList.filter fun t => !p t) ∧ d'.size ≤ d.size ∧ RowAtR encI 2 w' g d' ∧ w.grownBy w' (some g) := by
  have HP := Lib.hid hP
  have HSG := Lib.hid hSg
  have HS0 := Lib.hid hS
  have HR := Lib.hid h
  have HI := Lib.hid (show Ids w (.slice (some ⟨g, 0, none⟩) d.size c) d.toList from ids_rcs (rowAtR_rcs h hc))
  have HA : Hid (Go.Lib.keptUpTo (fun j => !p d[j]!) d d.size = d.toList.filter fun t => !p t) := Lib.hid (Go.Lib.keptUpTo_filter (fun t : Id2 => !p t) d)
  have hK := hP.enters
  clear h hP hSg hS
  go_enter Tryz.func58, Tryz.ntmps58
  go_wp2_with fail
  (with_reducible refine (indexI_any HP.out _ _ _ HI.out HS0.out (by simpa using hl)).mono ?_)
  rintro e w1 ⟨⟨r, rfl, hf⟩, hb⟩
  have HB := Lib.hid hb
  have R1 := Lib.hid (rowAtR_kept HR.out hb)
  have S1 := Lib.hid (HP.out.kept _ _ HS0.out hb)
  clear hb
  rcases hf with ⟨rfl, hall⟩ | ⟨k0, hk0, rfl, hz, hbef⟩
  · have HF := Lib.hid (show d.toList = d.toList.filter fun t => !p t by
      rw [← HA.out, Go.Lib.keptUpTo_all (fun j => !p d[j]!) d d.size (fun j hj => by rw [found_none (pp := fun t => p t) hall j hj]; rfl), Go.Lib.range_map_get])
    clear hall
    go_wp2_with fail
    go_ret
    exact ⟨d, rfl, HF.out, Nat.le_refl _, R1.out, grown_below (World.grownBy.refl _ _) HB.out⟩
  · have hk0 : k0 < d.size := by simpa using hk0
    have hne1 : ((k0 : Int) == -1) = false := beq_eq_false_iff_ne.2 (by omega)
    have HS := Lib.hid (Go.Lib.KeptInv.start (kp := fun j => !p d[j]!) (d := d) (k0 := k0) (fun j hj => by show (!p d[j]!) = true; rw [found_take (pp := fun t => p t) (by omega) hbef j hj]; rfl) (by show (!p d[k0]!) = false; rw [show p d[k0]! = true by rw [getElem!_pos d k0 hk0]; simpa using hz]; rfl))
    have HG := Lib.hid (show w.grownBy w1 (some g) from grown_below (World.grownBy.refl _ _) HB.out)
    have i0 : IntKind.i64.wrap ((k0 : Int) + 1) = (k0 : Int) + 1 := IntWalk.i64_in _ ⟨by omega, by omega⟩
    clear hbef hz
    go_wp2_with fail
    go_loopw [5, 6] (fun s5 s6 wr => ∃ (i j : Nat) (dk : Array Id2), s5 = .int .i64 i ∧ s6 = .int .i64 j ∧ j ≤ d.size ∧ Hid (Go.Lib.KeptInv (fun j => !p d[j]!) d j i dk) ∧ Hid (RowAtR encI 2 wr g dk) ∧ Hid (w.grownBy wr (some g)) ∧ Hid (S wr)) (fun _ s6 _ => d.size - (intOf s6).toNat)
    case atStart => exact ⟨k0, k0 + 1, d, rfl, by go_num, by omega, HS, R1, HG, S1⟩
    case round =>
      obtain ⟨i, j, dk, rfl, rfl, hjd, HK, H2, H3, H4⟩ := hrel
      have hij := HK.out.lt
      have hds := HK.out.size
      have p1 : (0 : Int) ≤ (j : Int) := by omega
      have p2 : (0 : Int) ≤ (i : Int) := by omega
      by_cases hlt : j < d.size
      · have hd : decide ((j : Int) < (d.size : Int)) = true := by simp; omega
        have p3 : (j : Int) < (d.size : Int) := by omega
        have p4 : (i : Int) < (d.size : Int) := by omega
        have hT := (H2.out.id (show j < dk.size by omega)).1
        rw [HK.out.high j (by omega)] at hT
        rcases hn : p d[j]! with _ | _
        · have HKK := Lib.hid (HK.out.keep hlt (by show (!p d[j]!) = true; rw [hn]; rfl))
          have HC : Hid (∀ W, S W → Calls Tryz.prog K (#[.agg #[.int .i64 d[j]!.1, .int .i64 d[j]!.2]] ++ caps) W fun e w' => e = .returned (.bool false) ∧ Below W.heap.size W w') := Lib.hid fun W hs => by
            have := HP.out.call d[j]!.1 d[j]!.2 W hs
            rw [show p (d[j]!.1, d[j]!.2) = false from hn] at this
            exact this
          have HE := Lib.hid (show d[j]! = (d[j]!.1, d[j]!.2) from rfl)
          rw [HE.out] at HKK
          clear hn HE
          have HX := Lib.hid (box_new wr d[j]!.1 d[j]!.2)
          have BX := Lib.hid (below_one wr (.cells #[.int .i64 d[j]!.1, .int .i64 d[j]!.2] 24))
          have SX := Lib.hid (HP.out.kept _ _ H4.out BX.out)
          generalize d[j]!.1 = a at *
          generalize d[j]!.2 = b at *
          obtain ⟨c1, c2⟩ := hT
          go_wp2_with fail
          (with_reducible refine (HC.out _ SX.out).mono ?_)
          rintro e w2 ⟨rfl, hb⟩
          have B2 := Lib.hid (below_after BX.out hb (Nat.le_refl _))
          have R2 := Lib.hid (rowAtR_kept H2.out B2.out)
          have G2 := Lib.hid (grown_below H3.out B2.out)
          have S2 := Lib.hid (HP.out.kept _ _ SX.out hb)
          have X2 := Lib.hid (box_below HX.out hb)
          clear hb c1 c2
          obtain ⟨x1, x2⟩ := box_cells X2.out
          obtain ⟨⟨c1, c2⟩, f1, f2⟩ := H2.out.id (show i < dk.size by omega)
          clear c1 c2 f1 f2
          obtain ⟨⟨c1, c2⟩, f1, f2⟩ := R2.out.id (show i < dk.size by omega)
          have R3 := Lib.hid (rowI_set R2.out (show i < dk.size by omega) a b)
          have G3 := Lib.hid (grown_setI G2.out i (.int .i64 a) (.int .i64 b))
          have S3 := Lib.hid (HSG.out _ _ S2.out (grown_setI (World.grownBy.refl w2 (some g)) i (.int .i64 a) (.int .i64 b)))
          go_wp2_with fail
          go_roundw
          case rel => exact ⟨i + 1, j + 1, _, by go_num, by go_num, by omega, HKK, R3, G3, S3⟩
          case measure => simp [intOf]; omega
        · have HKK := Lib.hid (HK.out.skip (by show (!p d[j]!) = false; rw [hn]; rfl))
          have HC : Hid (∀ W, S W → Calls Tryz.prog K (#[.agg #[.int .i64 d[j]!.1, .int .i64 d[j]!.2]] ++ caps) W fun e w' => e = .returned (.bool true) ∧ Below W.heap.size W w') := Lib.hid fun W hs => by
            have := HP.out.call d[j]!.1 d[j]!.2 W hs
            rw [show p (d[j]!.1, d[j]!.2) = true from hn] at this
            exact this
          clear hn
          have BX := Lib.hid (below_one wr (.cells #[.int .i64 d[j]!.1, .int .i64 d[j]!.2] 24))
          have HX := Lib.hid (box_new wr d[j]!.1 d[j]!.2)
          have SX := Lib.hid (HP.out.kept _ _ H4.out BX.out)
          generalize d[j]!.1 = a at *
          generalize d[j]!.2 = b at *
          obtain ⟨c1, c2⟩ := hT
          go_wp2_with fail
          (with_reducible refine (HC.out _ SX.out).mono ?_)
          rintro e w2 ⟨rfl, hb⟩
          have B2 := Lib.hid (below_after BX.out hb (Nat.le_refl _))
          have R2 := Lib.hid (rowAtR_kept H2.out B2.out)
          have G2 := Lib.hid (grown_below H3.out B2.out)
          have S2 := Lib.hid (HP.out.kept _ _ SX.out hb)
          clear hb c1 c2
          go_wp2_with fail
          go_roundw
          case rel => exact ⟨i, j + 1, dk, rfl, by go_num, by omega, HKK, R2, G2, S2⟩
          case measure => simp [intOf]; omega
      · obtain rfl : j = d.size := by omega
        have hd : decide ((d.size : Int) < (d.size : Int)) = false := by simp
        obtain ⟨vs, hcl⟩ := run_clear_recs (P := Tryz.prog) (enc := encI) (sz := 2) encI_len (by omega) Tryz.underlying29 zero23 rfl (by intro u hu; simp [Value.cells] at hu; rcases hu with rfl | rfl <;> rfl) H2.out (show i < dk.size by omega) (c - i) 0
        have R3 := Lib.hid (rowAtR_front encI_len H2.out (show i ≤ dk.size by omega) vs)
        have G3 := Lib.hid (grown_setCells H3.out (i * 2) vs)
        have HF := Lib.hid (kept_front HK.out)
        have hci : ¬ c = i := by omega
        have p5 : (i : Int) ≤ (d.size : Int) := by omega
        rw [hds] at hcl
        go_wp2_with fail
        go_ret
        exact ⟨dk.extract 0 i, by simp; omega, HF.out.trans HA.out, by simp; omega, R3.out, G3.out⟩
set_option maxHeartbeats 4000000 in
/-- slices.DeleteFunc over rows. -/
theorem deleteW_any {K : Nat} {caps : Array Value} {p : Id2 → Bool} {S : World → Prop} (hP : AsksW K caps p S) (g c : Nat) (hSg : ∀ W W', S W → W.grownBy W' (some g) → S W') (d : Array Raw) (w : World) (h : RowAtR encW 4 w g d) (hS : S w) (hc : d.size ≤ c) (hl : d.size ≤ 100000) :
    Calls Tryz.prog 55 #[.slice (some ⟨g, 0, none⟩) d.size c, .func (.func K) #[] caps] w fun e w' => ∃ d' : Array Raw, e = .returned (.slice (some ⟨g, 0, none⟩) d'.size c) ∧ (d'.toList = d.toList.filter fun t => !p t.1) ∧ d'.size ≤ d.size ∧ RowAtR encW 4 w' g d' ∧ w.grownBy w' (some g) := by
  have HP := Lib.hid hP
  have HSG := Lib.hid hSg
  have HS0 := Lib.hid hS
  have HR := Lib.hid h
  have HI := Lib.hid (rowAtR_rcs h hc)
  have HA : Hid (Go.Lib.keptUpTo (fun j => !p d[j]!.1) d d.size = d.toList.filter fun t => !p t.1) := Lib.hid (Go.Lib.keptUpTo_filter (fun t : Raw => !p t.1) d)
  have hK := hP.enters
  clear h hP hSg hS
  go_enter Tryz.func55, Tryz.ntmps55
  go_wp2_with fail
  (with_reducible refine (indexW_any HP.out _ _ _ HI.out HS0.out (by simpa using hl)).mono ?_)
  rintro e w1 ⟨⟨r, rfl, hf⟩, hb⟩
  have HB := Lib.hid hb
  have R1 := Lib.hid (rowAtR_kept HR.out hb)
  have S1 := Lib.hid (HP.out.kept _ _ HS0.out hb)
  clear hb
  rcases hf with ⟨rfl, hall⟩ | ⟨k0, hk0, rfl, hz, hbef⟩
  · have HF := Lib.hid (show d.toList = d.toList.filter fun t => !p t.1 by
      rw [← HA.out, Go.Lib.keptUpTo_all (fun j => !p d[j]!.1) d d.size (fun j hj => by rw [found_none (pp := fun t : Raw => p t.1) (fun x hx => hall _ (List.mem_map_of_mem hx)) j hj]; rfl), Go.Lib.range_map_get])
    clear hall
    go_wp2_with fail
    go_ret
    exact ⟨d, rfl, HF.out, Nat.le_refl _, R1.out, grown_below (World.grownBy.refl _ _) HB.out⟩
  · have hk0 : k0 < d.size := by simpa using hk0
    have hne1 : ((k0 : Int) == -1) = false := beq_eq_false_iff_ne.2 (by omega)
    have HS := Lib.hid (Go.Lib.KeptInv.start (kp := fun j => !p d[j]!.1) (d := d) (k0 := k0) (fun j hj => by show (!p d[j]!.1) = true; rw [found_take (pp := fun t : Raw => p t.1) (by omega) (fun x hx => hbef _ (by rw [← List.map_take]; exact List.mem_map_of_mem hx)) j hj]; rfl) (by show (!p d[k0]!.1) = false; rw [show p d[k0]!.1 = true by rw [getElem!_pos d k0 hk0]; simpa using hz]; rfl))
    have HG := Lib.hid (show w.grownBy w1 (some g) from grown_below (World.grownBy.refl _ _) HB.out)
    have i0 : IntKind.i64.wrap ((k0 : Int) + 1) = (k0 : Int) + 1 := IntWalk.i64_in _ ⟨by omega, by omega⟩
    clear hbef hz
    go_wp2_with fail
    go_loopw [5, 6] (fun s5 s6 wr => ∃ (i j : Nat) (dk : Array Raw), s5 = .int .i64 i ∧ s6 = .int .i64 j ∧ j ≤ d.size ∧ Hid (Go.Lib.KeptInv (fun j => !p d[j]!.1) d j i dk) ∧ Hid (RowAtR encW 4 wr g dk) ∧ Hid (w.grownBy wr (some g)) ∧ Hid (S wr)) (fun _ s6 _ => d.size - (intOf s6).toNat)
    case atStart => exact ⟨k0, k0 + 1, d, rfl, by go_num, by omega, HS, R1, HG, S1⟩
    case round =>
      obtain ⟨i, j, dk, rfl, rfl, hjd, HK, H2, H3, H4⟩ := hrel
      have hij := HK.out.lt
      have hds := HK.out.size
      have p1 : (0 : Int) ≤ (j : Int) := by omega
      have p2 : (0 : Int) ≤ (i : Int) := by omega
      by_cases hlt : j < d.size
      · have hd : decide ((j : Int) < (d.size : Int)) = true := by simp; omega
        have p3 : (j : Int) < (d.size : Int) := by omega
        have p4 : (i : Int) < (d.size : Int) := by omega
        have hT := (H2.out.row (show j < dk.size by omega)).1
        rw [HK.out.high j (by omega)] at hT
        rcases hn : p d[j]!.1 with _ | _
        · have HKK := Lib.hid (HK.out.keep hlt (by show (!p d[j]!.1) = true; rw [hn]; rfl))
          have HC : Hid (∀ W, S W → Calls Tryz.prog K (#[.agg #[.int .i64 d[j]!.1.1, .int .i64 d[j]!.1.2, .int .i64 d[j]!.2.1, .slice d[j]!.2.2.1 d[j]!.2.2.2.1 d[j]!.2.2.2.2]] ++ caps) W fun e w' => e = .returned (.bool false) ∧ Below W.heap.size W w') := Lib.hid fun W hs => by
            have := HP.out.call d[j]!.1.1 d[j]!.1.2 d[j]!.2.1 d[j]!.2.2.1 d[j]!.2.2.2.1 d[j]!.2.2.2.2 W hs
            rw [show p (d[j]!.1.1, d[j]!.1.2) = false from hn] at this
            exact this
          have HE := Lib.hid (show d[j]! = ((d[j]!.1.1, d[j]!.1.2), d[j]!.2.1, d[j]!.2.2.1, d[j]!.2.2.2.1, d[j]!.2.2.2.2) from rfl)
          rw [HE.out] at HKK
          clear hn HE
          have HX := Lib.hid (wbox_new wr d[j]!.1.1 d[j]!.1.2 d[j]!.2.1 (.slice d[j]!.2.2.1 d[j]!.2.2.2.1 d[j]!.2.2.2.2))
          have BX := Lib.hid (below_one wr (.cells #[.int .i64 d[j]!.1.1, .int .i64 d[j]!.1.2, .int .i64 d[j]!.2.1, .slice d[j]!.2.2.1 d[j]!.2.2.2.1 d[j]!.2.2.2.2] 37))
          have SX := Lib.hid (HP.out.kept _ _ H4.out BX.out)
          generalize d[j]!.1.1 = a at *
          generalize d[j]!.1.2 = b at *
          generalize d[j]!.2.1 = n at *
          generalize d[j]!.2.2.1 = A at *
          generalize d[j]!.2.2.2.1 = m at *
          generalize d[j]!.2.2.2.2 = k at *
          obtain ⟨c1, c2, c3, c4⟩ := hT
          go_wp2_with fail
          (with_reducible refine (HC.out _ SX.out).mono ?_)
          rintro e w2 ⟨rfl, hb⟩
          have B2 := Lib.hid (below_after BX.out hb (Nat.le_refl _))
          have R2 := Lib.hid (rowAtR_kept H2.out B2.out)
          have G2 := Lib.hid (grown_below H3.out B2.out)
          have S2 := Lib.hid (HP.out.kept _ _ SX.out hb)
          have X2 := Lib.hid (wbox_below HX.out hb)
          clear hb c1 c2 c3 c4
          obtain ⟨x1, x2, x3, x4⟩ := wbox_cells X2.out
          obtain ⟨⟨c1, c2, c3, c4⟩, f1, f2, f3, f4⟩ := H2.out.row (show i < dk.size by omega)
          clear c1 c2 c3 c4 f1 f2 f3 f4
          obtain ⟨⟨c1, c2, c3, c4⟩, f1, f2, f3, f4⟩ := R2.out.row (show i < dk.size by omega)
          have R3 := Lib.hid (rowW_set R2.out (show i < dk.size by omega) a b n A m k)
          have G3 := Lib.hid (grown_setW G2.out i (.int .i64 a) (.int .i64 b) (.int .i64 n) (.slice A m k))
          have S3 := Lib.hid (HSG.out _ _ S2.out (grown_setW (World.grownBy.refl w2 (some g)) i (.int .i64 a) (.int .i64 b) (.int .i64 n) (.slice A m k)))
          go_wp2_with fail
          go_roundw
          case rel => exact ⟨i + 1, j + 1, _, by go_num, by go_num, by omega, HKK, R3, G3, S3⟩
          case measure => simp [intOf]; omega
        · have HKK := Lib.hid (HK.out.skip (by show (!p d[j]!.1) = false; rw [hn]; rfl))
          have HC : Hid (∀ W, S W → Calls Tryz.prog K (#[.agg #[.int .i64 d[j]!.1.1, .int .i64 d[j]!.1.2, .int .i64 d[j]!.2.1, .slice d[j]!.2.2.1 d[j]!.2.2.2.1 d[j]!.2.2.2.2]] ++ caps) W fun e w' => e = .returned (.bool true) ∧ Below W.heap.size W w') := Lib.hid fun W hs => by
            have := HP.out.call d[j]!.1.1 d[j]!.1.2 d[j]!.2.1 d[j]!.2.2.1 d[j]!.2.2.2.1 d[j]!.2.2.2.2 W hs
            rw [show p (d[j]!.1.1, d[j]!.1.2) = true from hn] at this
            exact this
          clear hn
          have BX := Lib.hid (below_one wr (.cells #[.int .i64 d[j]!.1.1, .int .i64 d[j]!.1.2, .int .i64 d[j]!.2.1, .slice d[j]!.2.2.1 d[j]!.2.2.2.1 d[j]!.2.2.2.2] 37))
          have HX := Lib.hid (wbox_new wr d[j]!.1.1 d[j]!.1.2 d[j]!.2.1 (.slice d[j]!.2.2.1 d[j]!.2.2.2.1 d[j]!.2.2.2.2))
          have SX := Lib.hid (HP.out.kept _ _ H4.out BX.out)
          generalize d[j]!.1.1 = a at *
          generalize d[j]!.1.2 = b at *
          generalize d[j]!.2.1 = n at *
          generalize d[j]!.2.2.1 = A at *
          generalize d[j]!.2.2.2.1 = m at *
          generalize d[j]!.2.2.2.2 = k at *
          obtain ⟨c1, c2, c3, c4⟩ := hT
          go_wp2_with fail
          (with_reducible refine (HC.out _ SX.out).mono ?_)
          rintro e w2 ⟨rfl, hb⟩
          have B2 := Lib.hid (below_after BX.out hb (Nat.le_refl _))
          have R2 := Lib.hid (rowAtR_kept H2.out B2.out)
          have G2 := Lib.hid (grown_below H3.out B2.out)
          have S2 := Lib.hid (HP.out.kept _ _ SX.out hb)
          clear hb c1 c2 c3 c4
          go_wp2_with fail
          go_roundw
          case rel => exact ⟨i, j + 1, dk, rfl, by go_num, by omega, HKK, R2, G2, S2⟩
          case measure => simp [intOf]; omega
      · obtain rfl : j = d.size := by omega
        have hd : decide ((d.size : Int) < (d.size : Int)) = false := by simp
        obtain ⟨vs, hcl⟩ := run_clear_recs (P := Tryz.prog) (enc := encW) (sz := 4) encW_len (by omega) Tryz.underlying31 zero26 rfl (by intro u hu; simp [Value.cells] at hu; rcases hu with rfl | rfl <;> rfl) H2.out (show i < dk.size by omega) (c - i) 0
        have R3 := Lib.hid (rowAtR_front encW_len H2.out (show i ≤ dk.size by omega) vs)
        have G3 := Lib.hid (grown_setCells H3.out (i * 4) vs)
        have HF := Lib.hid (kept_front HK.out)
        have hci : ¬ c = i := by omega
        have p5 : (i : Int) ≤ (d.size : Int) := by omega
        rw [hds] at hcl
        go_wp2_with fail
        go_ret
        exact ⟨dk.extract 0 i, by simp; omega, HF.out.trans HA.out, by simp; omega, R3.out, G3.out⟩
end Go.Proofs.YtkeiekljedhllaaGreat
namespace Go.Proofs.YtkeiekljedhllaaGreat
namespace Ros
/-- An ID: address, life. -/
abbrev Id2 := Int × Int
/-- A member: its ID, its status, its number. -/
abbrev Mm := Id2 × Int × Int
/-- Of two numbers the lesser one above 0. -/
def elder (a b : Int) : Int := if a ≤ 0 then max b 0 else if b ≤ 0 then a else min a b
/-- What is known of an address: its floor, its newest life, that one's status and number. -/
structure St where
  f : Int
  n : Int
  s : Int
  p : Int
deriving DecidableEq
def St.zero : St := ⟨0, 0, 0, 0⟩
/-- Two together. -/
def St.or (x y : St) : St :=
  ⟨max (max x.f y.f) (if x.n = y.n then 0 else min x.n y.n), max x.n y.n, if x.n = y.n then max x.s y.s else if x.n < y.n then y.s else x.s, if x.n = y.n then elder x.p y.p else if x.n < y.n then y.p else x.p⟩
/-- Nothing is below 0; where there is no life there is no status. -/
structure Good (x : St) : Prop where
  f0 : 0 ≤ x.f
  n0 : 0 ≤ x.n
  s0 : 0 ≤ x.s
  p0 : 0 ≤ x.p
  zs : x.n = 0 → x.s = 0
  zp : x.n = 0 → x.p = 0
/-- Many together. -/
def big (l : List St) : St := l.foldr St.or St.zero
end Ros
end Go.Proofs.YtkeiekljedhllaaGreat
namespace Go.Proofs.YtkeiekljedhllaaGreat
namespace Ros
/-- May an ID be? -/
def vid (a i : Int) : Bool := decide (1 ≤ a ∧ a ≤ 12 ∧ 1 ≤ i ∧ i ≤ 1048576)
def vidP (x : Id2) : Bool := vid x.1 x.2
/-- Does an entry count? -/
def cnt (x : Mm) : Bool := vid x.1.1 x.1.2 && decide (1 ≤ x.2.1 ∧ x.2.1 ≤ 7)
abbrev Ls := List Mm × List Id2
def em (x : Mm) : St := ⟨if x.2.1 = 7 then x.1.2 else 0, x.1.2, x.2.1, max x.2.2 0⟩
def eg (g : Id2) : St := ⟨g.2, 0, 0, 0⟩
/-- The members of address k, together. -/
def bigM (k : Nat) (ms : List Mm) : St := big ((ms.filter fun x => decide (x.1.1 = (k : Int))).map em)
def bigG (k : Nat) (gs : List Id2) : St := big ((gs.filter fun x => decide (x.1 = (k : Int))).map eg)
/-- What two lists say of address k. -/
def raw (L : Ls) (k : Nat) : St := (bigM k (L.1.filter cnt)).or (bigG k (L.2.filter vidP))
def outM (S : Nat → St) : List Mm := (List.range 13).filterMap fun k => if (S k).n = 0 then none else some (((k : Int), (S k).n), (S k).s, (S k).p)
def outF (S : Nat → St) : List Id2 := (List.range 13).filterMap fun k => if (S k).f ≤ 0 then none else some ((k : Int), (S k).f)
def out (S : Nat → St) : Ls := (outM S, outF S)
end Ros
end Go.Proofs.YtkeiekljedhllaaGreat
namespace Go.Proofs.YtkeiekljedhllaaGreat
namespace Ros
def raise (L : Nat → Int) (x : Id2) : Nat → Int := fun k => if (k : Int) = x.1 then max (L k) x.2 else L k
def newest (ms : List Mm) : Nat → Int := ms.foldl (fun L x => raise L x.1) fun _ => 0
/-- Is an entry Removed, or not the newest life of its address? -/
def isOld (nw : Nat → Int) (x : Mm) : Bool := decide (x.2.1 = 7) || decide (x.1.2 < nw x.1.1.toNat)
def raiseIf (nw : Nat → Int) (L : Nat → Int) (x : Mm) : Nat → Int := if isOld nw x = true then raise L x.1 else L
def floors (ms : List Mm) (gs : List Id2) : Nat → Int := ms.foldl (raiseIf (newest ms)) (gs.foldl raise fun _ => 0)
end Ros
end Go.Proofs.YtkeiekljedhllaaGreat
namespace Go.Proofs.YtkeiekljedhllaaGreat
open Go.RowKit Ros
theorem may_anyROS (a i : Int) (w : World) :
    Calls Tryz.prog 16 #[.agg #[.int .i64 a, .int .i64 i]] w fun e w' => e = .returned (.bool (vid a i)) ∧ Below w.heap.size w w' := by
  by_cases h1 : 1 ≤ a
  · by_cases h2 : a ≤ 12
    · by_cases h3 : 1 ≤ i
      · by_cases h4 : i ≤ 1048576
        · have h5 := Lib.hid (show vid a i = true by simp [vid]; omega)
          go_enter Tryz.func16, Tryz.ntmps16
          go_wp2_with fail
          go_ret
          exact ⟨by rw [h5.out]; rfl, (Below.refl _ _).alloc (Nat.le_refl _) _⟩
        · have h5 := Lib.hid (show vid a i = false by simp [vid]; omega)
          go_enter Tryz.func16, Tryz.ntmps16
          go_wp2_with fail
          go_ret
          exact ⟨by rw [h5.out]; rfl, (Below.refl _ _).alloc (Nat.le_refl _) _⟩
      · have h5 := Lib.hid (show vid a i = false by simp [vid]; omega)
        go_enter Tryz.func16, Tryz.ntmps16
        go_wp2_with fail
        go_ret
        exact ⟨by rw [h5.out]; rfl, (Below.refl _ _).alloc (Nat.le_refl _) _⟩
    · have h5 := Lib.hid (show vid a i = false by simp [vid]; omega)
      go_enter Tryz.func16, Tryz.ntmps16
      go_wp2_with fail
      go_ret
      exact ⟨by rw [h5.out]; rfl, (Below.refl _ _).alloc (Nat.le_refl _) _⟩
  · have h5 := Lib.hid (show vid a i = false by simp [vid]; omega)
    go_enter Tryz.func16, Tryz.ntmps16
    go_wp2_with fail
    go_ret
    exact ⟨by rw [h5.out]; rfl, (Below.refl _ _).alloc (Nat.le_refl _) _⟩
end Go.Proofs.YtkeiekljedhllaaGreat
namespace Go.Proofs.YtkeiekljedhllaaGreat
open Go Go.RowKit Ros
/-- A member's cells. -/
def encM (x : Mm) : List Value := [.int .i64 x.1.1, .int .i64 x.1.2, .int .u8 x.2.1, .int .i64 x.2.2]
theorem encM_len (x : Mm) : (encM x).length = 4 := rfl
theorem encM_one (x : Mm) : ∀ u ∈ encM x, u.oneCell' = true := by
  intro u hu
  simp [encM] at hu
  rcases hu with rfl | rfl | rfl | rfl <;> rfl
/-- The slice v reads as the list l of members. -/
abbrev Ms (w : World) (v : Value) (l : List Mm) : Prop := Rcs encM 4 w v l
/-- An element's cells. -/
theorem Ms.at_ {w w' : World} {A : Option Addr} {n c : Nat} {l : List Mm} (h : Ms w (.slice A n c) l) (hw : Below w.heap.size w w') {k : Nat} (hk : k < l.length) :
    ∃ ad, A = some ad ∧ w'.cell? (ad.add (k * 4)) = some (.int .i64 l[k].1.1) ∧ w'.cell? ⟨(ad.add (k * 4)).block, (ad.add (k * 4)).off + 1, none⟩ = some (.int .i64 l[k].1.2) ∧ w'.cell? ⟨(ad.add (k * 4)).block, (ad.add (k * 4)).off + 2, none⟩ = some (.int .u8 l[k].2.1) ∧ w'.cell? ⟨(ad.add (k * 4)).block, (ad.add (k * 4)).off + 3, none⟩ = some (.int .i64 l[k].2.2) := by
  obtain ⟨ad, rfl⟩ := h.addr (by omega)
  exact ⟨ad, rfl, h.first hw hk rfl, h.cell hw hk 1 (by omega) rfl, h.cell hw hk 2 (by omega) rfl, h.cell hw hk 3 (by omega) rfl⟩
theorem info32 : (Tryz.prog.info? 35).map (fun i => (i.zero, i.size, i.bytes)) = some (some (.agg #[.int .i64 0, .int .i64 0, .int .u8 0, .int .i64 0]), 4, 0x20) := by kernel_rfl
section
variable {α : Type} [Inhabited α] {enc : α → List Value} {sz : Nat}
end
end Go.Proofs.YtkeiekljedhllaaGreat
namespace Go.Proofs.YtkeiekljedhllaaGreat
open Go.RowKit Ros
/-- Block g holds a member. -/
def MBox (w : World) (g : Nat) (a i s n : Int) : Prop := w.heap[g]? = some (.cells #[.int .i64 a, .int .i64 i, .int .u8 s, .int .i64 n] 35 (0, 0))
theorem mbox_cells {w : World} {g : Nat} {a i s n : Int} (h : MBox w g a i s n) : w.cell? ⟨g, 0, none⟩ = some (.int .i64 a) ∧ w.cell? ⟨g, 1, none⟩ = some (.int .i64 i) ∧ w.cell? ⟨g, 2, none⟩ = some (.int .u8 s) ∧ w.cell? ⟨g, 3, none⟩ = some (.int .i64 n) := by
  unfold MBox at h
  exact ⟨by rw [cell_of_row _ _ 0 _ _ _ h]; rfl, by rw [cell_of_row _ _ 1 _ _ _ h]; rfl, by rw [cell_of_row _ _ 2 _ _ _ h]; rfl, by rw [cell_of_row _ _ 3 _ _ _ h]; rfl⟩
theorem mbox_free {w : World} {g : Nat} {a i s n : Int} (h : MBox w g a i s n) : w.frozen? ⟨g, 0, none⟩ = false ∧ w.frozen? ⟨g, 1, none⟩ = false ∧ w.frozen? ⟨g, 2, none⟩ = false ∧ w.frozen? ⟨g, 3, none⟩ = false := by
  unfold MBox at h
  exact ⟨by simp [World.frozen?, h], by simp [World.frozen?, h], by simp [World.frozen?, h], by simp [World.frozen?, h]⟩
theorem mbox_new (w : World) (a i s n : Int) : MBox (w.alloc (.cells #[.int .i64 a, .int .i64 i, .int .u8 s, .int .i64 n] 35)) w.heap.size a i s n := heap_alloc_new w _
theorem mbox_lt {w : World} {g : Nat} {a i s n : Int} (h : MBox w g a i s n) : g < w.heap.size := row_lt h
theorem mbox_below {w w' : World} {g : Nat} {a i s n : Int} (h : MBox w g a i s n) (hb : Below w.heap.size w w') : MBox w' g a i s n := (hb.block _ (mbox_lt h)).trans h
end Go.Proofs.YtkeiekljedhllaaGreat
namespace Go.Proofs.YtkeiekljedhllaaGreat
open Go Go.RowKit Ros
theorem max_two (a b : Int) (w : World) : (Builtin.max_ #[3, 3] 3 #[.int .i64 a, .int .i64 b]).run Tryz.prog w = .ok (.int .i64 (max a b)) w := by
  have h2 : ∀ x y : Int, Builtin.max2 (.int .i64 x) (.int .i64 y) = pure (.int .i64 (max x y)) := by
    intro x y
    show pure (Value.int .i64 (if x < y then y else x)) = _
    by_cases h : x < y
    · rw [if_pos h, show max x y = y by omega]
    · rw [if_neg h, show max x y = x by omega]
  simp [Builtin.max_, h2, List.foldlM, Sem.run_pure]
end Go.Proofs.YtkeiekljedhllaaGreat
namespace Go.Proofs.YtkeiekljedhllaaGreat
open Go Go.RowKit Ros
/-- Nil, or a list in new memory, free to be written. -/
def OwnM (b0 : Nat) (w : World) (V : Value) (l : List Mm) : Prop := (V = .slice none 0 0 ∧ l = []) ∨ ∃ (d : Array Mm) (g c : Nat), V = .slice (some ⟨g, 0, none⟩) d.size c ∧ d.size ≤ c ∧ b0 ≤ g ∧ RowAtR encM 4 w g d ∧ d.toList = l
def OwnI (b0 : Nat) (w : World) (V : Value) (l : List Id2) : Prop := (V = .slice none 0 0 ∧ l = []) ∨ ∃ (d : Array Id2) (g c : Nat), V = .slice (some ⟨g, 0, none⟩) d.size c ∧ d.size ≤ c ∧ b0 ≤ g ∧ RowAtR encI 2 w g d ∧ d.toList = l
theorem OwnM.reads {b0 : Nat} {w : World} {V : Value} {l : List Mm} (h : OwnM b0 w V l) : Ms w V l := by
  rcases h with ⟨rfl, rfl⟩ | ⟨d, g, c, rfl, hc, _, hr, rfl⟩
  · exact Rcs.nil w
  · exact rowAtR_rcs hr hc
theorem OwnI.reads {b0 : Nat} {w : World} {V : Value} {l : List Id2} (h : OwnI b0 w V l) : Ids w V l := by
  rcases h with ⟨rfl, rfl⟩ | ⟨d, g, c, rfl, hc, _, hr, rfl⟩
  · exact Ids.nil w
  · exact ids_rcs (rowAtR_rcs hr hc)
theorem OwnM.below {b0 : Nat} {w w' : World} {V : Value} {l : List Mm} (h : OwnM b0 w V l) (hb : Below w.heap.size w w') : OwnM b0 w' V l := by
  rcases h with h | ⟨d, g, c, hv, hc, hg, hr, hl⟩
  · exact .inl h
  · exact .inr ⟨d, g, c, hv, hc, hg, rowAtR_kept hr hb, hl⟩
theorem OwnI.below {b0 : Nat} {w w' : World} {V : Value} {l : List Id2} (h : OwnI b0 w V l) (hb : Below w.heap.size w w') : OwnI b0 w' V l := by
  rcases h with h | ⟨d, g, c, hv, hc, hg, hr, hl⟩
  · exact .inl h
  · exact .inr ⟨d, g, c, hv, hc, hg, rowAtR_kept hr hb, hl⟩
theorem OwnM.mono {b0 b1 : Nat} {w : World} {V : Value} {l : List Mm} (h : OwnM b0 w V l) (hb : b1 ≤ b0) : OwnM b1 w V l := by
  rcases h with h | ⟨d, g, c, hv, hc, hg, hr, hl⟩
  · exact .inl h
  · exact .inr ⟨d, g, c, hv, hc, by omega, hr, hl⟩
end Go.Proofs.YtkeiekljedhllaaGreat
namespace Go.Proofs.YtkeiekljedhllaaGreat
open Go Go.RowKit Ros
theorem same_next {α : Type} {l m : List α} {k : Nat} (h : k < l.length) (h' : k < m.length) (ht : l.take k = m.take k) (he : l[k] = m[k]) : l.take (k + 1) = m.take (k + 1) := by
  rw [List.take_succ_eq_append_getElem h, List.take_succ_eq_append_getElem h', ht, he]
theorem same_not {α : Type} {l m : List α} {k : Nat} (h : k < l.length) (h' : k < m.length) (he : l[k] ≠ m[k]) : l ≠ m := fun e => by
  subst e
  exact he rfl
set_option maxHeartbeats 4000000 in
theorem sameI_any (v u : Value) (l m : List Id2) (w : World) (h : Ids w v l) (h2 : Ids w u m) (hl : l.length ≤ 100000) (hm : m.length ≤ 100000) :
    Calls Tryz.prog 63 #[v, u] w fun e w' => e = .returned (.bool (decide (l = m))) ∧ Below w.heap.size w w' := by
  have HI := Lib.hid h
  have HJ := Lib.hid h2
  obtain ⟨A, c, rfl, hz⟩ := h
  obtain ⟨B, d, rfl, hy⟩ := h2
  clear hz hy
  by_cases hlm : l.length = m.length
  · have hne : ((m.length : Int) != (m.length : Int)) = false := by simp
    rw [hlm]
    rw [hlm] at HI
    go_enter Tryz.func63, Tryz.ntmps63
    go_wp2_with fail
    go_loopw [5] (fun s5 wr => ∃ k : Nat, k ≤ m.length ∧ s5 = .int .i64 k ∧ Hid (l.take k = m.take k) ∧ Hid (Below w.heap.size w wr)) (fun s5 _ => m.length - (intOf s5).toNat)
    case atStart => exact ⟨0, by omega, rfl, Lib.hid rfl, Lib.hid (Below.refl _ _)⟩
    case round =>
      obtain ⟨k, hkl, rfl, HT, HW⟩ := hrel
      have i3 : (0 : Int) ≤ (k : Int) := by omega
      by_cases hlt : k < m.length
      · have hlt2 : k < l.length := by omega
        have hd : decide ((k : Int) < (m.length : Int)) = true := by simp; omega
        have i4 : (k : Int) < (m.length : Int) := by omega
        obtain ⟨ad, rfl, c1, c2⟩ := HI.out.at_ HW.out hlt2
        obtain ⟨ae, rfl, d1, d2⟩ := HJ.out.at_ HW.out hlt
        have HN := Lib.hid fun h : l[k] = m[k] => same_next hlt2 hlt HT.out h
        have HX := Lib.hid fun h : l[k] ≠ m[k] => same_not hlt2 hlt h
        by_cases e0 : l[k].1 = m[k].1
        · by_cases e1 : l[k].2 = m[k].2
          · have HF := Lib.hid (HN.out (Prod.ext e0 e1))
            rw [e0] at c1
            rw [e1] at c2
            clear e0 e1 HN HX
            generalize m[k].1 = p at *
            generalize m[k].2 = q at *
            go_wp2_with fail
            go_quiet (fail)
            go_wp2_with fail
            go_roundw
            case rel => exact ⟨k + 1, by omega, by go_num, HF, Lib.hid (below_drewN HW.out)⟩
            case measure => simp [intOf]; omega
          · have HF := Lib.hid (decide_eq_false (HX.out fun h => e1 (by rw [h])))
            rw [e0] at c1
            have b1 : (l[k].2 == m[k].2) = false := beq_eq_false_iff_ne.2 e1
            clear e0 e1 HN HX
            generalize m[k].1 = p at *
            generalize m[k].2 = q at *
            generalize l[k].2 = q2 at *
            go_wp2_with fail
            go_quiet (fail)
            go_wp2_with fail
            go_ret
            exact ⟨ret_bool HF.out.symm, below_drewN HW.out⟩
        · have HF := Lib.hid (decide_eq_false (HX.out fun h => e0 (by rw [h])))
          have b0 : (l[k].1 == m[k].1) = false := beq_eq_false_iff_ne.2 e0
          clear e0 HN HX
          generalize m[k].1 = p at *
          generalize l[k].1 = p2 at *
          generalize m[k].2 = q at *
          generalize l[k].2 = q2 at *
          go_wp2_with fail
          go_quiet (fail)
          go_wp2_with fail
          go_ret
          exact ⟨ret_bool HF.out.symm, below_drewN HW.out⟩
      · have hd : decide ((k : Int) < (m.length : Int)) = false := by simp; omega
        have HF := Lib.hid (show decide (l = m) = true by
          have := HT.out
          rw [List.take_of_length_le (by omega), List.take_of_length_le (by omega)] at this
          exact decide_eq_true this)
        go_wp2_with fail
        go_ret
        exact ⟨ret_bool HF.out.symm, HW.out⟩
  · have hne : ((l.length : Int) != (m.length : Int)) = true := by simp; omega
    have HF := Lib.hid (show decide (l = m) = false by
      apply decide_eq_false
      rintro rfl
      exact hlm rfl)
    go_enter Tryz.func63, Tryz.ntmps63
    go_wp2_with fail
    go_ret
    exact ⟨ret_bool HF.out.symm, Below.refl _ _⟩
set_option maxHeartbeats 4000000 in
theorem sameM_any (v u : Value) (l m : List Mm) (w : World) (h : Ms w v l) (h2 : Ms w u m) (hl : l.length ≤ 100000) (hm : m.length ≤ 100000) :
    Calls Tryz.prog 62 #[v, u] w fun e w' => e = .returned (.bool (decide (l = m))) ∧ Below w.heap.size w w' := by
  have HI := Lib.hid h
  have HJ := Lib.hid h2
  obtain ⟨A, c, rfl, hz⟩ := h
  obtain ⟨B, d, rfl, hy⟩ := h2
  clear hz hy
  by_cases hlm : l.length = m.length
  · have hne : ((m.length : Int) != (m.length : Int)) = false := by simp
    rw [hlm]
    rw [hlm] at HI
    go_enter Tryz.func62, Tryz.ntmps62
    go_wp2_with fail
    go_loopw [5] (fun s5 wr => ∃ k : Nat, k ≤ m.length ∧ s5 = .int .i64 k ∧ Hid (l.take k = m.take k) ∧ Hid (Below w.heap.size w wr)) (fun s5 _ => m.length - (intOf s5).toNat)
    case atStart => exact ⟨0, by omega, rfl, Lib.hid rfl, Lib.hid (Below.refl _ _)⟩
    case round =>
      obtain ⟨k, hkl, rfl, HT, HW⟩ := hrel
      have i3 : (0 : Int) ≤ (k : Int) := by omega
      by_cases hlt : k < m.length
      · have hlt2 : k < l.length := by omega
        have hd : decide ((k : Int) < (m.length : Int)) = true := by simp; omega
        have i4 : (k : Int) < (m.length : Int) := by omega
        obtain ⟨ad, rfl, c1, c2, c3, c4⟩ := Ms.at_ HI.out HW.out hlt2
        obtain ⟨ae, rfl, d1, d2, d3, d4⟩ := Ms.at_ HJ.out HW.out hlt
        have HN := Lib.hid fun h : l[k] = m[k] => same_next hlt2 hlt HT.out h
        have HX := Lib.hid fun h : l[k] ≠ m[k] => same_not hlt2 hlt h
        by_cases e0 : l[k].1.1 = m[k].1.1
        · by_cases e1 : l[k].1.2 = m[k].1.2
          · by_cases e2 : l[k].2.1 = m[k].2.1
            · by_cases e3 : l[k].2.2 = m[k].2.2
              · have HF := Lib.hid (HN.out (Prod.ext (Prod.ext e0 e1) (Prod.ext e2 e3)))
                rw [e0] at c1
                rw [e1] at c2
                rw [e2] at c3
                rw [e3] at c4
                clear e0 e1 e2 e3 HN HX
                generalize m[k].1.1 = p at *
                generalize m[k].1.2 = q at *
                generalize m[k].2.1 = r at *
                generalize m[k].2.2 = s at *
                go_wp2_with fail
                go_quiet (fail)
                go_wp2_with fail
                go_roundw
                case rel => exact ⟨k + 1, by omega, by go_num, HF, Lib.hid (below_drewN HW.out)⟩
                case measure => simp [intOf]; omega
              · have HF := Lib.hid (decide_eq_false (HX.out fun h => e3 (by rw [h])))
                rw [e0] at c1
                rw [e1] at c2
                rw [e2] at c3
                have b3 : (l[k].2.2 == m[k].2.2) = false := beq_eq_false_iff_ne.2 e3
                clear e0 e1 e2 e3 HN HX
                generalize m[k].1.1 = p at *
                generalize m[k].1.2 = q at *
                generalize m[k].2.1 = r at *
                generalize m[k].2.2 = s at *
                generalize l[k].2.2 = s2 at *
                go_wp2_with fail
                go_quiet (fail)
                go_wp2_with fail
                go_ret
                exact ⟨ret_bool HF.out.symm, below_drewN HW.out⟩
            · have HF := Lib.hid (decide_eq_false (HX.out fun h => e2 (by rw [h])))
              rw [e0] at c1
              rw [e1] at c2
              have b2 : (l[k].2.1 == m[k].2.1) = false := beq_eq_false_iff_ne.2 e2
              clear e0 e1 e2 HN HX
              generalize m[k].1.1 = p at *
              generalize m[k].1.2 = q at *
              generalize m[k].2.1 = r at *
              generalize l[k].2.1 = r2 at *
              generalize m[k].2.2 = s at *
              generalize l[k].2.2 = s2 at *
              go_wp2_with fail
              go_quiet (fail)
              go_wp2_with fail
              go_ret
              exact ⟨ret_bool HF.out.symm, below_drewN HW.out⟩
          · have HF := Lib.hid (decide_eq_false (HX.out fun h => e1 (by rw [h])))
            rw [e0] at c1
            have b1 : (l[k].1.2 == m[k].1.2) = false := beq_eq_false_iff_ne.2 e1
            clear e0 e1 HN HX
            generalize m[k].1.1 = p at *
            generalize m[k].1.2 = q at *
            generalize l[k].1.2 = q2 at *
            generalize m[k].2.1 = r at *
            generalize l[k].2.1 = r2 at *
            generalize m[k].2.2 = s at *
            generalize l[k].2.2 = s2 at *
            go_wp2_with fail
            go_quiet (fail)
            go_wp2_with fail
            go_ret
            exact ⟨ret_bool HF.out.symm, below_drewN HW.out⟩
        · have HF := Lib.hid (decide_eq_false (HX.out fun h => e0 (by rw [h])))
          have b0 : (l[k].1.1 == m[k].1.1) = false := beq_eq_false_iff_ne.2 e0
          clear e0 HN HX
          generalize m[k].1.1 = p at *
          generalize l[k].1.1 = p2 at *
          generalize m[k].1.2 = q at *
          generalize l[k].1.2 = q2 at *
          generalize m[k].2.1 = r at *
          generalize l[k].2.1 = r2 at *
          generalize m[k].2.2 = s at *
          generalize l[k].2.2 = s2 at *
          go_wp2_with fail
          go_quiet (fail)
          go_wp2_with fail
          go_ret
          exact ⟨ret_bool HF.out.symm, below_drewN HW.out⟩
      · have hd : decide ((k : Int) < (m.length : Int)) = false := by simp; omega
        have HF := Lib.hid (show decide (l = m) = true by
          have := HT.out
          rw [List.take_of_length_le (by omega), List.take_of_length_le (by omega)] at this
          exact decide_eq_true this)
        go_wp2_with fail
        go_ret
        exact ⟨ret_bool HF.out.symm, HW.out⟩
  · have hne : ((l.length : Int) != (m.length : Int)) = true := by simp; omega
    have HF := Lib.hid (show decide (l = m) = false by
      apply decide_eq_false
      rintro rfl
      exact hlm rfl)
    go_enter Tryz.func62, Tryz.ntmps62
    go_wp2_with fail
    go_ret
    exact ⟨ret_bool HF.out.symm, Below.refl _ _⟩
end Go.Proofs.YtkeiekljedhllaaGreat
namespace Go.Proofs.YtkeiekljedhllaaGreat.Clocks
open Go.Proofs.YtkeiekljedhllaaGreat.Sets
abbrev Tick := Id2 × Int
/-- What a list says of an ID: the greatest count, 0 at least. -/
def says : List Tick → Id2 → Int
  | [], _ => 0
  | t :: c, x => if t.1 = x then max t.2 (says c x) else says c x
/-- The clock that says of these IDs what f says. -/
def clk (f : Id2 → Int) (ids : List Id2) : List Tick := ((setOf ids).filter fun x => decide (0 < f x)).map fun x => (x, f x)
/-- Does a say more than b of some ID? -/
def more (a b : List Tick) : Bool := a.any fun t => decide (says b t.1 < says a t.1)
/-- Not behind, nor apart. -/
def above (a b : List Tick) : Bool := !more b a
/-- One more of an ID. -/
def up (c : List Tick) (y : Id2) : List Tick := clk (fun x => if x = y then says c x + 1 else says c x) (y :: c.map (·.1))
end Go.Proofs.YtkeiekljedhllaaGreat.Clocks
namespace Go.Proofs.YtkeiekljedhllaaGreat
open Sets Clocks
/-- What a list says, in order. -/
def nrm (c : List Tick) : List Tick := clk (says c) (c.map (·.1))
/-- One ID of two lists, and what both say of it. -/
abbrev Visit := Id2 × Int × Int
/-- The first ID of two lists. -/
def fstI : List Tick → List Tick → Id2
  | [], [] => (0, 0)
  | s :: _, [] => s.1
  | [], t :: _ => t.1
  | s :: _, t :: _ => if lt s.1 t.1 then s.1 else t.1
/-- What a list begins with, if it is this ID. -/
def tkN (x : Id2) : List Tick → Int
  | [] => 0
  | t :: _ => if t.1 = x then t.2 else 0
/-- What is behind it. -/
def tkL (x : Id2) : List Tick → List Tick
  | [] => []
  | t :: l => if t.1 = x then l else t :: l
/-- Two lists gone through together. -/
def mg : Nat → List Tick → List Tick → List Visit
  | 0, _, _ => []
  | n + 1, a, b => if a = [] ∧ b = [] then [] else (fstI a b, tkN (fstI a b) a, tkN (fstI a b) b) :: mg n (tkL (fstI a b) a) (tkL (fstI a b) b)
/-- All that two lists say. -/
def both (a b : List Tick) : List Visit := mg ((nrm a).length + (nrm b).length) (nrm a) (nrm b)
end Go.Proofs.YtkeiekljedhllaaGreat
