/-
  Walks over the library's way to strike elements out of a list, in place, by a closure. No statement is proved in this text; it holds for every input that its premises let by.
-/
import Derived.Test.YtciolhpkhblnbaaFind
namespace Go.Proofs.Ytciolhpkhblnbaa
open Go Go.RowKit Ros
theorem zero30 (W : World) : (zeroValue 30).run Try.prog W = .ok (.agg #[.int .i64 0, .int .i64 0]) W := by kernel_rfl
theorem zero32 (W : World) : (zeroValue 32).run Try.prog W = .ok (.agg #[.int .i64 0, .int .i64 0, .int .u8 0, .int .i64 0]) W := by kernel_rfl
theorem kept_front {α : Type} [Inhabited α] {kp : Nat → Bool} {d dk : Array α} {k : Nat} (h : Go.Lib.KeptInv kp d d.size k dk) : (dk.extract 0 k).toList = Go.Lib.keptUpTo kp d d.size := by
  have hk := h.lt
  have hs := h.size
  apply List.ext_getElem?
  intro j
  by_cases c : j < k
  · rw [h.low j c]
    have h1 : j < (dk.extract 0 k).size := by simp; omega
    rw [Array.getElem?_toList, Array.getElem?_eq_getElem h1, getElem!_pos dk j (by omega)]
    simp
  · rw [List.getElem?_eq_none (by simp; omega), List.getElem?_eq_none (by rw [h.len]; omega)]
/-- What a search answers, as the kept ones see it. -/
theorem found_none {α : Type} [Inhabited α] {d : Array α} {pp : α → Bool} (h : ∀ x ∈ d.toList, pp x = false) (j : Nat) (hj : j < d.size) : pp d[j]! = false := by
  rw [getElem!_pos d j hj]
  exact h _ (by simp)
theorem found_take {α : Type} [Inhabited α] {d : Array α} {pp : α → Bool} {k : Nat} (hk : k ≤ d.size) (h : ∀ x ∈ d.toList.take k, pp x = false) (j : Nat) (hj : j < k) : pp d[j]! = false := by
  rw [getElem!_pos d j (by omega)]
  refine h _ ?_
  have : d[j]'(by omega) = (d.toList.take k)[j]'(by simp; omega) := by simp
  rw [this]
  exact List.getElem_mem _
set_option maxHeartbeats 4000000 in
/-- slices.DeleteFunc over IDs. -/
theorem deleteI_any {K : Nat} {caps : Array Value} {p : Id2 → Bool} {S : World → Prop} (hP : AsksI K caps p S) (g c : Nat) (hSg : ∀ W W', S W → W.grownBy W' (some g) → S W') (d : Array Id2) (w : World) (h : RowAtR encI 2 w g d) (hS : S w) (hc : d.size ≤ c) (hl : d.size ≤ 100000) :
    Calls Try.prog 44 #[.slice (some ⟨g, 0, none⟩) d.size c, .func (.func K) #[] caps] w fun e w' => ∃ d' : Array Id2, e = .returned (.slice (some ⟨g, 0, none⟩) d'.size c) ∧ (d'.toList = d.toList.filter fun t => !p t) ∧ d'.size ≤ d.size ∧ RowAtR encI 2 w' g d' ∧ w.grownBy w' (some g) := by
  have HP := Lib.hid hP
  have HSG := Lib.hid hSg
  have HS0 := Lib.hid hS
  have HR := Lib.hid h
  have HI := Lib.hid (show Ids w (.slice (some ⟨g, 0, none⟩) d.size c) d.toList from ids_rcs (rowAtR_rcs h hc))
  have HA : Hid (Go.Lib.keptUpTo (fun j => !p d[j]!) d d.size = d.toList.filter fun t => !p t) := Lib.hid (Go.Lib.keptUpTo_filter (fun t : Id2 => !p t) d)
  have hK := hP.enters
  clear h hP hSg hS
  go_enter Try.func44, Try.ntmps44
  go_wp2_with fail
  (with_reducible refine (indexI_any HP.out _ _ _ HI.out HS0.out (by simpa using hl)).mono ?_)
  rintro e w1 ⟨⟨r, rfl, hf⟩, hb⟩
  have HB := Lib.hid hb
  have R1 := Lib.hid (rowAtR_kept HR.out hb)
  have S1 := Lib.hid (HP.out.kept _ _ HS0.out hb)
  clear hb
  rcases hf with ⟨rfl, hall⟩ | ⟨k0, hk0, rfl, hz, hbef⟩
  · have HF := Lib.hid (show d.toList = d.toList.filter fun t => !p t by
      rw [← HA.out, Go.Lib.keptUpTo_all (fun j => !p d[j]!) d d.size (fun j hj => by rw [found_none (pp := fun t => p t) hall j hj]; rfl), Go.Lib.range_map_get])
    clear hall
    go_wp2_with fail
    go_ret
    exact ⟨d, rfl, HF.out, Nat.le_refl _, R1.out, grown_below (World.grownBy.refl _ _) HB.out⟩
  · have hk0 : k0 < d.size := by simpa using hk0
    have hne1 : ((k0 : Int) == -1) = false := beq_eq_false_iff_ne.2 (by omega)
    have HS := Lib.hid (Go.Lib.KeptInv.start (kp := fun j => !p d[j]!) (d := d) (k0 := k0) (fun j hj => by show (!p d[j]!) = true; rw [found_take (pp := fun t => p t) (by omega) hbef j hj]; rfl) (by show (!p d[k0]!) = false; rw [show p d[k0]! = true by rw [getElem!_pos d k0 hk0]; simpa using hz]; rfl))
    have HG := Lib.hid (show w.grownBy w1 (some g) from grown_below (World.grownBy.refl _ _) HB.out)
    have i0 : IntKind.i64.wrap ((k0 : Int) + 1) = (k0 : Int) + 1 := IntWalk.i64_in _ ⟨by omega, by omega⟩
    clear hbef hz
    go_wp2_with fail
    go_loopw [5, 6] (fun s5 s6 wr => ∃ (i j : Nat) (dk : Array Id2), s5 = .int .i64 i ∧ s6 = .int .i64 j ∧ j ≤ d.size ∧ Hid (Go.Lib.KeptInv (fun j => !p d[j]!) d j i dk) ∧ Hid (RowAtR encI 2 wr g dk) ∧ Hid (w.grownBy wr (some g)) ∧ Hid (S wr)) (fun _ s6 _ => d.size - (intOf s6).toNat)
    case atStart => exact ⟨k0, k0 + 1, d, rfl, by go_num, by omega, HS, R1, HG, S1⟩
    case round =>
      obtain ⟨i, j, dk, rfl, rfl, hjd, HK, H2, H3, H4⟩ := hrel
      have hij := HK.out.lt
      have hds := HK.out.size
      have p1 : (0 : Int) ≤ (j : Int) := by omega
      have p2 : (0 : Int) ≤ (i : Int) := by omega
      by_cases hlt : j < d.size
      · have hd : decide ((j : Int) < (d.size : Int)) = true := by simp; omega
        have p3 : (j : Int) < (d.size : Int) := by omega
        have p4 : (i : Int) < (d.size : Int) := by omega
        have hT := (H2.out.id (show j < dk.size by omega)).1
        rw [HK.out.high j (by omega)] at hT
        rcases hn : p d[j]! with _ | _
        · have HKK := Lib.hid (HK.out.keep hlt (by show (!p d[j]!) = true; rw [hn]; rfl))
          have HC : Hid (∀ W, S W → Calls Try.prog K (#[.agg #[.int .i64 d[j]!.1, .int .i64 d[j]!.2]] ++ caps) W fun e w' => e = .returned (.bool false) ∧ Below W.heap.size W w') := Lib.hid fun W hs => by
            have := HP.out.call d[j]!.1 d[j]!.2 W hs
            rw [show p (d[j]!.1, d[j]!.2) = false from hn] at this
            exact this
          have HE := Lib.hid (show d[j]! = (d[j]!.1, d[j]!.2) from rfl)
          rw [HE.out] at HKK
          clear hn HE
          have HX := Lib.hid (box_new wr d[j]!.1 d[j]!.2)
          have BX := Lib.hid (below_one wr (.cells #[.int .i64 d[j]!.1, .int .i64 d[j]!.2] 30))
          have SX := Lib.hid (HP.out.kept _ _ H4.out BX.out)
          generalize d[j]!.1 = a at *
          generalize d[j]!.2 = b at *
          obtain ⟨c1, c2⟩ := hT
          go_wp2_with fail
          (with_reducible refine (HC.out _ SX.out).mono ?_)
          rintro e w2 ⟨rfl, hb⟩
          have B2 := Lib.hid (below_after BX.out hb (Nat.le_refl _))
          have R2 := Lib.hid (rowAtR_kept H2.out B2.out)
          have G2 := Lib.hid (grown_below H3.out B2.out)
          have S2 := Lib.hid (HP.out.kept _ _ SX.out hb)
          have X2 := Lib.hid (box_below HX.out hb)
          clear hb c1 c2
          obtain ⟨x1, x2⟩ := box_cells X2.out
          obtain ⟨⟨c1, c2⟩, f1, f2⟩ := H2.out.id (show i < dk.size by omega)
          clear c1 c2 f1 f2
          obtain ⟨⟨c1, c2⟩, f1, f2⟩ := R2.out.id (show i < dk.size by omega)
          have R3 := Lib.hid (rowI_set R2.out (show i < dk.size by omega) a b)
          have G3 := Lib.hid (grown_setI G2.out i (.int .i64 a) (.int .i64 b))
          have S3 := Lib.hid (HSG.out _ _ S2.out (grown_setI (World.grownBy.refl w2 (some g)) i (.int .i64 a) (.int .i64 b)))
          go_wp2_with fail
          go_roundw
          case rel => exact ⟨i + 1, j + 1, _, by go_num, by go_num, by omega, HKK, R3, G3, S3⟩
          case measure => simp [intOf]; omega
        · have HKK := Lib.hid (HK.out.skip (by show (!p d[j]!) = false; rw [hn]; rfl))
          have HC : Hid (∀ W, S W → Calls Try.prog K (#[.agg #[.int .i64 d[j]!.1, .int .i64 d[j]!.2]] ++ caps) W fun e w' => e = .returned (.bool true) ∧ Below W.heap.size W w') := Lib.hid fun W hs => by
            have := HP.out.call d[j]!.1 d[j]!.2 W hs
            rw [show p (d[j]!.1, d[j]!.2) = true from hn] at this
            exact this
          clear hn
          have BX := Lib.hid (below_one wr (.cells #[.int .i64 d[j]!.1, .int .i64 d[j]!.2] 30))
          have HX := Lib.hid (box_new wr d[j]!.1 d[j]!.2)
          have SX := Lib.hid (HP.out.kept _ _ H4.out BX.out)
          generalize d[j]!.1 = a at *
          generalize d[j]!.2 = b at *
          obtain ⟨c1, c2⟩ := hT
          go_wp2_with fail
          (with_reducible refine (HC.out _ SX.out).mono ?_)
          rintro e w2 ⟨rfl, hb⟩
          have B2 := Lib.hid (below_after BX.out hb (Nat.le_refl _))
          have R2 := Lib.hid (rowAtR_kept H2.out B2.out)
          have G2 := Lib.hid (grown_below H3.out B2.out)
          have S2 := Lib.hid (HP.out.kept _ _ SX.out hb)
          clear hb c1 c2
          go_wp2_with fail
          go_roundw
          case rel => exact ⟨i, j + 1, dk, rfl, by go_num, by omega, HKK, R2, G2, S2⟩
          case measure => simp [intOf]; omega
      · obtain rfl : j = d.size := by omega
        have hd : decide ((d.size : Int) < (d.size : Int)) = false := by simp
        obtain ⟨vs, hcl⟩ := run_clear_recs (P := Try.prog) (enc := encI) (sz := 2) encI_len (by omega) Try.underlying25 zero30 rfl (by intro u hu; simp [Value.cells] at hu; rcases hu with rfl | rfl <;> rfl) H2.out (show i < dk.size by omega) (c - i) 0
        have R3 := Lib.hid (rowAtR_front encI_len H2.out (show i ≤ dk.size by omega) vs)
        have G3 := Lib.hid (grown_setCells H3.out (i * 2) vs)
        have HF := Lib.hid (kept_front HK.out)
        have hci : ¬ c = i := by omega
        have p5 : (i : Int) ≤ (d.size : Int) := by omega
        rw [hds] at hcl
        go_wp2_with fail
        go_ret
        exact ⟨dk.extract 0 i, by simp; omega, HF.out.trans HA.out, by simp; omega, R3.out, G3.out⟩
set_option maxHeartbeats 4000000 in
/-- slices.DeleteFunc over members. -/
theorem deleteM_any {K : Nat} {caps : Array Value} {p : Mm → Bool} {S : World → Prop} {D : Mm → Prop} (hP : AsksM K caps p S D) (g c : Nat) (hSg : ∀ W W', S W → W.grownBy W' (some g) → S W') (d : Array Mm) (w : World) (h : RowAtR encM 4 w g d) (hS : S w) (hc : d.size ≤ c) (hl : d.size ≤ 100000) (hD : ∀ x ∈ d.toList, D x) :
    Calls Try.prog 40 #[.slice (some ⟨g, 0, none⟩) d.size c, .func (.func K) #[] caps] w fun e w' => ∃ d' : Array Mm, e = .returned (.slice (some ⟨g, 0, none⟩) d'.size c) ∧ (d'.toList = d.toList.filter fun t => !p t) ∧ d'.size ≤ d.size ∧ RowAtR encM 4 w' g d' ∧ w.grownBy w' (some g) := by
  have HP := Lib.hid hP
  have HSG := Lib.hid hSg
  have HS0 := Lib.hid hS
  have HDl := Lib.hid hD
  have HD : Hid (∀ j, j < d.size → D ((d[j]!.1.1, d[j]!.1.2), d[j]!.2.1, d[j]!.2.2)) := Lib.hid fun j hj => (show D d[j]! from hD _ (by rw [getElem!_pos d j hj]; simp))
  have HR := Lib.hid h
  have HI := Lib.hid (show Ms w (.slice (some ⟨g, 0, none⟩) d.size c) d.toList from rowAtR_rcs h hc)
  have HA : Hid (Go.Lib.keptUpTo (fun j => !p d[j]!) d d.size = d.toList.filter fun t => !p t) := Lib.hid (Go.Lib.keptUpTo_filter (fun t : Mm => !p t) d)
  have hK := hP.enters
  clear h hP hSg hS hD
  go_enter Try.func40, Try.ntmps40
  go_wp2_with fail
  (with_reducible refine (indexM_any HP.out _ _ _ HI.out HS0.out (by simpa using hl) HDl.out).mono ?_)
  rintro e w1 ⟨⟨r, rfl, hf⟩, hb⟩
  have HB := Lib.hid hb
  have R1 := Lib.hid (rowAtR_kept HR.out hb)
  have S1 := Lib.hid (HP.out.kept _ _ HS0.out hb)
  clear hb
  rcases hf with ⟨rfl, hall⟩ | ⟨k0, hk0, rfl, hz, hbef⟩
  · have HF := Lib.hid (show d.toList = d.toList.filter fun t => !p t by
      rw [← HA.out, Go.Lib.keptUpTo_all (fun j => !p d[j]!) d d.size (fun j hj => by rw [found_none (pp := fun t => p t) hall j hj]; rfl), Go.Lib.range_map_get])
    clear hall
    go_wp2_with fail
    go_ret
    exact ⟨d, rfl, HF.out, Nat.le_refl _, R1.out, grown_below (World.grownBy.refl _ _) HB.out⟩
  · have hk0 : k0 < d.size := by simpa using hk0
    have hne1 : ((k0 : Int) == -1) = false := beq_eq_false_iff_ne.2 (by omega)
    have HS := Lib.hid (Go.Lib.KeptInv.start (kp := fun j => !p d[j]!) (d := d) (k0 := k0) (fun j hj => by show (!p d[j]!) = true; rw [found_take (pp := fun t => p t) (by omega) hbef j hj]; rfl) (by show (!p d[k0]!) = false; rw [show p d[k0]! = true by rw [getElem!_pos d k0 hk0]; simpa using hz]; rfl))
    have HG := Lib.hid (show w.grownBy w1 (some g) from grown_below (World.grownBy.refl _ _) HB.out)
    have i0 : IntKind.i64.wrap ((k0 : Int) + 1) = (k0 : Int) + 1 := IntWalk.i64_in _ ⟨by omega, by omega⟩
    clear hbef hz
    go_wp2_with fail
    go_loopw [5, 6] (fun s5 s6 wr => ∃ (i j : Nat) (dk : Array Mm), s5 = .int .i64 i ∧ s6 = .int .i64 j ∧ j ≤ d.size ∧ Hid (Go.Lib.KeptInv (fun j => !p d[j]!) d j i dk) ∧ Hid (RowAtR encM 4 wr g dk) ∧ Hid (w.grownBy wr (some g)) ∧ Hid (S wr)) (fun _ s6 _ => d.size - (intOf s6).toNat)
    case atStart => exact ⟨k0, k0 + 1, d, rfl, by go_num, by omega, HS, R1, HG, S1⟩
    case round =>
      obtain ⟨i, j, dk, rfl, rfl, hjd, HK, H2, H3, H4⟩ := hrel
      have hij := HK.out.lt
      have hds := HK.out.size
      have p1 : (0 : Int) ≤ (j : Int) := by omega
      have p2 : (0 : Int) ≤ (i : Int) := by omega
      by_cases hlt : j < d.size
      · have hd : decide ((j : Int) < (d.size : Int)) = true := by simp; omega
        have p3 : (j : Int) < (d.size : Int) := by omega
        have p4 : (i : Int) < (d.size : Int) := by omega
        have hT := (H2.out.mem (show j < dk.size by omega)).1
        rw [HK.out.high j (by omega)] at hT
        rcases hn : p d[j]! with _ | _
        · have HKK := Lib.hid (HK.out.keep hlt (by show (!p d[j]!) = true; rw [hn]; rfl))
          have HC : Hid (∀ W, S W → Calls Try.prog K (#[.agg #[.int .i64 d[j]!.1.1, .int .i64 d[j]!.1.2, .int .u8 d[j]!.2.1, .int .i64 d[j]!.2.2]] ++ caps) W fun e w' => e = .returned (.bool false) ∧ Below W.heap.size W w') := Lib.hid fun W hs => by
            have := HP.out.call d[j]!.1.1 d[j]!.1.2 d[j]!.2.1 d[j]!.2.2 W (HD.out j hlt) hs
            rw [show p ((d[j]!.1.1, d[j]!.1.2), d[j]!.2.1, d[j]!.2.2) = false from hn] at this
            exact this
          have HE := Lib.hid (show d[j]! = ((d[j]!.1.1, d[j]!.1.2), d[j]!.2.1, d[j]!.2.2) from rfl)
          rw [HE.out] at HKK
          clear hn HE
          have HX := Lib.hid (mbox_new wr d[j]!.1.1 d[j]!.1.2 d[j]!.2.1 d[j]!.2.2)
          have BX := Lib.hid (below_one wr (.cells #[.int .i64 d[j]!.1.1, .int .i64 d[j]!.1.2, .int .u8 d[j]!.2.1, .int .i64 d[j]!.2.2] 32))
          have SX := Lib.hid (HP.out.kept _ _ H4.out BX.out)
          generalize d[j]!.1.1 = a at *
          generalize d[j]!.1.2 = b at *
          generalize d[j]!.2.1 = m at *
          generalize d[j]!.2.2 = n at *
          obtain ⟨c1, c2, c3, c4⟩ := hT
          go_wp2_with fail
          (with_reducible refine (HC.out _ SX.out).mono ?_)
          rintro e w2 ⟨rfl, hb⟩
          have B2 := Lib.hid (below_after BX.out hb (Nat.le_refl _))
          have R2 := Lib.hid (rowAtR_kept H2.out B2.out)
          have G2 := Lib.hid (grown_below H3.out B2.out)
          have S2 := Lib.hid (HP.out.kept _ _ SX.out hb)
          have X2 := Lib.hid (mbox_below HX.out hb)
          clear hb c1 c2 c3 c4
          obtain ⟨x1, x2, x3, x4⟩ := mbox_cells X2.out
          obtain ⟨⟨c1, c2, c3, c4⟩, f1, f2, f3, f4⟩ := H2.out.mem (show i < dk.size by omega)
          clear c1 c2 c3 c4 f1 f2 f3 f4
          obtain ⟨⟨c1, c2, c3, c4⟩, f1, f2, f3, f4⟩ := R2.out.mem (show i < dk.size by omega)
          have R3 := Lib.hid (rowM_set R2.out (show i < dk.size by omega) a b m n)
          have G3 := Lib.hid (grown_setM G2.out i (.int .i64 a) (.int .i64 b) (.int .u8 m) (.int .i64 n))
          have S3 := Lib.hid (HSG.out _ _ S2.out (grown_setM (World.grownBy.refl w2 (some g)) i (.int .i64 a) (.int .i64 b) (.int .u8 m) (.int .i64 n)))
          go_wp2_with fail
          go_roundw
          case rel => exact ⟨i + 1, j + 1, _, by go_num, by go_num, by omega, HKK, R3, G3, S3⟩
          case measure => simp [intOf]; omega
        · have HKK := Lib.hid (HK.out.skip (by show (!p d[j]!) = false; rw [hn]; rfl))
          have HC : Hid (∀ W, S W → Calls Try.prog K (#[.agg #[.int .i64 d[j]!.1.1, .int .i64 d[j]!.1.2, .int .u8 d[j]!.2.1, .int .i64 d[j]!.2.2]] ++ caps) W fun e w' => e = .returned (.bool true) ∧ Below W.heap.size W w') := Lib.hid fun W hs => by
            have := HP.out.call d[j]!.1.1 d[j]!.1.2 d[j]!.2.1 d[j]!.2.2 W (HD.out j hlt) hs
            rw [show p ((d[j]!.1.1, d[j]!.1.2), d[j]!.2.1, d[j]!.2.2) = true from hn] at this
            exact this
          clear hn
          have BX := Lib.hid (below_one wr (.cells #[.int .i64 d[j]!.1.1, .int .i64 d[j]!.1.2, .int .u8 d[j]!.2.1, .int .i64 d[j]!.2.2] 32))
          have HX := Lib.hid (mbox_new wr d[j]!.1.1 d[j]!.1.2 d[j]!.2.1 d[j]!.2.2)
          have SX := Lib.hid (HP.out.kept _ _ H4.out BX.out)
          generalize d[j]!.1.1 = a at *
          generalize d[j]!.1.2 = b at *
          generalize d[j]!.2.1 = m at *
          generalize d[j]!.2.2 = n at *
          obtain ⟨c1, c2, c3, c4⟩ := hT
          go_wp2_with fail
          (with_reducible refine (HC.out _ SX.out).mono ?_)
          rintro e w2 ⟨rfl, hb⟩
          have B2 := Lib.hid (below_after BX.out hb (Nat.le_refl _))
          have R2 := Lib.hid (rowAtR_kept H2.out B2.out)
          have G2 := Lib.hid (grown_below H3.out B2.out)
          have S2 := Lib.hid (HP.out.kept _ _ SX.out hb)
          clear hb c1 c2 c3 c4
          go_wp2_with fail
          go_roundw
          case rel => exact ⟨i, j + 1, dk, rfl, by go_num, by omega, HKK, R2, G2, S2⟩
          case measure => simp [intOf]; omega
      · obtain rfl : j = d.size := by omega
        have hd : decide ((d.size : Int) < (d.size : Int)) = false := by simp
        obtain ⟨vs, hcl⟩ := run_clear_recs (P := Try.prog) (enc := encM) (sz := 4) encM_len (by omega) Try.underlying24 zero32 rfl (by intro u hu; simp [Value.cells] at hu; rcases hu with rfl | rfl | rfl <;> rfl) H2.out (show i < dk.size by omega) (c - i) 0
        have R3 := Lib.hid (rowAtR_front encM_len H2.out (show i ≤ dk.size by omega) vs)
        have G3 := Lib.hid (grown_setCells H3.out (i * 4) vs)
        have HF := Lib.hid (kept_front HK.out)
        have hci : ¬ c = i := by omega
        have p5 : (i : Int) ≤ (d.size : Int) := by omega
        rw [hds] at hcl
        go_wp2_with fail
        go_ret
        exact ⟨dk.extract 0 i, by simp; omega, HF.out.trans HA.out, by simp; omega, R3.out, G3.out⟩
end Go.Proofs.Ytciolhpkhblnbaa
