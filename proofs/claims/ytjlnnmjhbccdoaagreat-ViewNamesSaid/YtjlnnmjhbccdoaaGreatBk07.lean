/-
  Carried over and put together: contracts of this program's functions, and plain facts. No statement is proved in this text.
-/
import Derived.Lib.SliceRun
import Derived.Lib.SlKept
import Derived.BigRegion
import Derived.Lib.AppendZerosOnto
import Derived.Lib.AppendZeros
import Derived.Test.YtjlnnmjhbccdoaaGreatBk05
import Derived.Test.YtjlnnmjhbccdoaaGreatBk06
set_option maxRecDepth 20000
namespace Go.Proofs.YtjlnnmjhbccdoaaGreat
open Go Go.RowKit Ros
/-- What a search answers: the first place, or -1. -/
def FoundPROS {α : Type} (p : α → Bool) (l : List α) (r : Int) : Prop := (r = -1 ∧ ∀ x ∈ l, p x = false) ∨ ∃ k : Nat, ∃ h : k < l.length, r = k ∧ p l[k] = true ∧ ∀ x ∈ l.take k, p x = false
theorem foundP_nextROS {α : Type} {p : α → Bool} {l : List α} {k : Nat} (hk : k < l.length) (h : ∀ x ∈ l.take k, p x = false) (hn : p l[k] = false) : ∀ x ∈ l.take (k + 1), p x = false := by
  intro x hx
  rw [List.take_succ_eq_append_getElem hk] at hx
  rcases List.mem_append.1 hx with h1 | h1
  · exact h x h1
  · rw [List.mem_singleton.1 h1]
    exact hn
theorem foundP_noneROS {α : Type} {p : α → Bool} {l : List α} {k : Nat} (hk : l.length ≤ k) (h : ∀ x ∈ l.take k, p x = false) : FoundPROS p l (-1) := .inl ⟨rfl, by rwa [List.take_of_length_le hk] at h⟩
set_option maxHeartbeats 1000000 in
/-- slices.IndexFunc over IDs. -/
theorem indexI_anyROS {K : Nat} {caps : Array Value} {p : Id2 → Bool} {S : World → Prop} (hP : AsksI K caps p S) (v : Value) (l : List Id2) (w : World) (h : Ids w v l) (hS : S w) (hl : l.length ≤ 100000) :
    Calls Tryz.prog 144 #[v, .func (.func K) #[] caps] w fun e w' => (∃ r, e = .returned (.int .i64 r) ∧ FoundPROS p l r) ∧ Below w.heap.size w w' := by
  have HP := Lib.hid hP
  have HI := Lib.hid h
  have HS0 := Lib.hid hS
  have hK := hP.enters
  obtain ⟨A, c, rfl, hz⟩ := h
  clear hz hP hS
  go_enter Tryz.func144, Tryz.ntmps144
  go_wp2_with fail
  go_loopw [8] (fun s3 wr => ∃ k : Nat, k ≤ l.length ∧ s3 = .int .i64 k ∧ Hid (∀ x ∈ l.take k, p x = false) ∧ Hid (S wr) ∧ Hid (Below w.heap.size w wr)) (fun s3 _ => l.length - (intOf s3).toNat)
  case atStart => exact ⟨0, by omega, rfl, Lib.hid (fun x hx => by simp at hx), HS0, Lib.hid (Below.refl _ _)⟩
  case round =>
    obtain ⟨k, hkl, rfl, HT, HS, HW⟩ := hrel
    have i3 : (0 : Int) ≤ (k : Int) := by omega
    by_cases hlt : k < l.length
    · have hd : decide ((k : Int) < (l.length : Int)) = true := by simp; omega
      have i4 : (k : Int) < (l.length : Int) := by omega
      obtain ⟨ad, rfl, c1, c2⟩ := HI.out.at_ HW.out hlt
      have HM : Hid (l[k] = (l[k].1, l[k].2)) := Lib.hid rfl
      have HC := Lib.hid fun W hs => HP.out.call l[k].1 l[k].2 W hs
      have H0 := Lib.hid fun h => foundP_nextROS (p := p) hlt HT.out h
      have H1 := Lib.hid fun h => (show FoundPROS p l k from .inr ⟨k, hlt, rfl, h, HT.out⟩)
      rw [HM.out] at H0 H1
      clear HM
      generalize l[k].1 = a at *
      generalize l[k].2 = i at *
      cases hp : p (a, i)
      · rw [hp] at HC
        have HF := Lib.hid (H0.out hp)
        clear hp H0 H1
        go_wp2_with fail
        (with_reducible refine (HC.out _ HS.out).mono ?_)
        rintro e w1 ⟨rfl, hb⟩
        have HB := Lib.hid (below_after HW.out hb (Nat.le_refl _))
        have HS1 := Lib.hid (HP.out.kept _ _ HS.out hb)
        clear hb
        go_wp2_with fail
        go_roundw
        case rel => exact ⟨k + 1, by omega, by go_num, HF, HS1, HB⟩
        case measure => simp [intOf]; omega
      · rw [hp] at HC
        have HF := Lib.hid (H1.out hp)
        clear hp H0 H1
        go_wp2_with fail
        (with_reducible refine (HC.out _ HS.out).mono ?_)
        rintro e w1 ⟨rfl, hb⟩
        have HB := Lib.hid (below_after HW.out hb (Nat.le_refl _))
        clear hb
        go_wp2_with fail
        go_ret
        exact ⟨⟨_, rfl, HF.out⟩, HB.out⟩
    · have hd : decide ((k : Int) < (l.length : Int)) = false := by simp; omega
      have HF := Lib.hid (foundP_noneROS (by omega) HT.out)
      go_wp2_with fail
      go_ret
      exact ⟨⟨_, rfl, HF.out⟩, HW.out⟩
set_option maxHeartbeats 1000000 in
/-- slices.IndexFunc over members. -/
theorem indexM_any {K : Nat} {caps : Array Value} {p : Mm → Bool} {S : World → Prop} {D : Mm → Prop} (hP : AsksM K caps p S D) (v : Value) (l : List Mm) (w : World) (h : Ms w v l) (hS : S w) (hl : l.length ≤ 100000) (hD : ∀ x ∈ l, D x) :
    Calls Tryz.prog 79 #[v, .func (.func K) #[] caps] w fun e w' => (∃ r, e = .returned (.int .i64 r) ∧ FoundPROS p l r) ∧ Below w.heap.size w w' := by
  have HP := Lib.hid hP
  have HI := Lib.hid h
  have HS0 := Lib.hid hS
  have HD := Lib.hid hD
  have hK := hP.enters
  obtain ⟨A, c, rfl, hz⟩ := h
  clear hz hP hS hD
  go_enter Tryz.func79, Tryz.ntmps79
  go_wp2_with fail
  go_loopw [8] (fun s3 wr => ∃ k : Nat, k ≤ l.length ∧ s3 = .int .i64 k ∧ Hid (∀ x ∈ l.take k, p x = false) ∧ Hid (S wr) ∧ Hid (Below w.heap.size w wr)) (fun s3 _ => l.length - (intOf s3).toNat)
  case atStart => exact ⟨0, by omega, rfl, Lib.hid (fun x hx => by simp at hx), HS0, Lib.hid (Below.refl _ _)⟩
  case round =>
    obtain ⟨k, hkl, rfl, HT, HS, HW⟩ := hrel
    have i3 : (0 : Int) ≤ (k : Int) := by omega
    by_cases hlt : k < l.length
    · have hd : decide ((k : Int) < (l.length : Int)) = true := by simp; omega
      have i4 : (k : Int) < (l.length : Int) := by omega
      obtain ⟨ad, rfl, c1, c2, c3, c4⟩ := Ms.at_ HI.out HW.out hlt
      have HM : Hid (l[k] = ((l[k].1.1, l[k].1.2), l[k].2.1, l[k].2.2)) := Lib.hid rfl
      have HC := Lib.hid fun W hs => HP.out.call l[k].1.1 l[k].1.2 l[k].2.1 l[k].2.2 W (HD.out _ (List.getElem_mem hlt)) hs
      have H0 := Lib.hid fun h => foundP_nextROS (p := p) hlt HT.out h
      have H1 := Lib.hid fun h => (show FoundPROS p l k from .inr ⟨k, hlt, rfl, h, HT.out⟩)
      rw [HM.out] at H0 H1
      clear HM
      generalize l[k].1.1 = a at *
      generalize l[k].1.2 = i at *
      generalize l[k].2.1 = s at *
      generalize l[k].2.2 = n at *
      cases hp : p ((a, i), s, n)
      · rw [hp] at HC
        have HF := Lib.hid (H0.out hp)
        clear hp H0 H1
        go_wp2_with fail
        (with_reducible refine (HC.out _ HS.out).mono ?_)
        rintro e w1 ⟨rfl, hb⟩
        have HB := Lib.hid (below_after HW.out hb (Nat.le_refl _))
        have HS1 := Lib.hid (HP.out.kept _ _ HS.out hb)
        clear hb
        go_wp2_with fail
        go_roundw
        case rel => exact ⟨k + 1, by omega, by go_num, HF, HS1, HB⟩
        case measure => simp [intOf]; omega
      · rw [hp] at HC
        have HF := Lib.hid (H1.out hp)
        clear hp H0 H1
        go_wp2_with fail
        (with_reducible refine (HC.out _ HS.out).mono ?_)
        rintro e w1 ⟨rfl, hb⟩
        have HB := Lib.hid (below_after HW.out hb (Nat.le_refl _))
        clear hb
        go_wp2_with fail
        go_ret
        exact ⟨⟨_, rfl, HF.out⟩, HB.out⟩
    · have hd : decide ((k : Int) < (l.length : Int)) = false := by simp; omega
      have HF := Lib.hid (foundP_noneROS (by omega) HT.out)
      go_wp2_with fail
      go_ret
      exact ⟨⟨_, rfl, HF.out⟩, HW.out⟩
end Go.Proofs.YtjlnnmjhbccdoaaGreat
namespace Go.Proofs.YtjlnnmjhbccdoaaGreat
open Go Go.RowKit Ros
theorem zero30 (W : World) : (zeroValue 29).run Tryz.prog W = .ok (.agg #[.int .i64 0, .int .i64 0]) W := by kernel_rfl
theorem zero32 (W : World) : (zeroValue 31).run Tryz.prog W = .ok (.agg #[.int .i64 0, .int .i64 0, .int .u8 0, .int .i64 0]) W := by kernel_rfl
set_option maxHeartbeats 4000000 in
/-- slices.DeleteFunc over IDs. -/
theorem deleteI_anyROS {K : Nat} {caps : Array Value} {p : Id2 → Bool} {S : World → Prop} (hP : AsksI K caps p S) (g c : Nat) (hSg : ∀ W W', S W → W.grownBy W' (some g) → S W') (d : Array Id2) (w : World) (h : RowAtR encI 2 w g d) (hS : S w) (hc : d.size ≤ c) (hl : d.size ≤ 100000) :
    Calls Tryz.prog 97 #[.slice (some ⟨g, 0, none⟩) d.size c, .func (.func K) #[] caps] w fun e w' => ∃ d' : Array Id2, e = .returned (.slice (some ⟨g, 0, none⟩) d'.size c) ∧ (d'.toList = d.toList.filter fun t => !p t) ∧ d'.size ≤ d.size ∧ RowAtR encI 2 w' g d' ∧ w.grownBy w' (some g) := by
  have HP := Lib.hid hP
  have HSG := Lib.hid hSg
  have HS0 := Lib.hid hS
  have HR := Lib.hid h
  have HI := Lib.hid (show Ids w (.slice (some ⟨g, 0, none⟩) d.size c) d.toList from ids_rcs (rowAtR_rcs h hc))
  have HA : Hid (Go.Lib.keptUpTo (fun j => !p d[j]!) d d.size = d.toList.filter fun t => !p t) := Lib.hid (Go.Lib.keptUpTo_filter (fun t : Id2 => !p t) d)
  have hK := hP.enters
  clear h hP hSg hS
  go_enter Tryz.func97, Tryz.ntmps97
  go_wp2_with fail
  (with_reducible refine (indexI_anyROS HP.out _ _ _ HI.out HS0.out (by simpa using hl)).mono ?_)
  rintro e w1 ⟨⟨r, rfl, hf⟩, hb⟩
  have HB := Lib.hid hb
  have R1 := Lib.hid (rowAtR_kept HR.out hb)
  have S1 := Lib.hid (HP.out.kept _ _ HS0.out hb)
  clear hb
  rcases hf with ⟨rfl, hall⟩ | ⟨k0, hk0, rfl, hz, hbef⟩
  · have HF := Lib.hid (show d.toList = d.toList.filter fun t => !p t by
      rw [← HA.out, Go.Lib.keptUpTo_all (fun j => !p d[j]!) d d.size (fun j hj => by rw [found_none (pp := fun t => p t) hall j hj]; rfl), Go.Lib.range_map_get])
    clear hall
    go_wp2_with fail
    go_ret
    exact ⟨d, rfl, HF.out, Nat.le_refl _, R1.out, grown_below (World.grownBy.refl _ _) HB.out⟩
  · have hk0 : k0 < d.size := by simpa using hk0
    have hne1 : ((k0 : Int) == -1) = false := beq_eq_false_iff_ne.2 (by omega)
    have HS := Lib.hid (Go.Lib.KeptInv.start (kp := fun j => !p d[j]!) (d := d) (k0 := k0) (fun j hj => by show (!p d[j]!) = true; rw [found_take (pp := fun t => p t) (by omega) hbef j hj]; rfl) (by show (!p d[k0]!) = false; rw [show p d[k0]! = true by rw [getElem!_pos d k0 hk0]; simpa using hz]; rfl))
    have HG := Lib.hid (show w.grownBy w1 (some g) from grown_below (World.grownBy.refl _ _) HB.out)
    have i0 : IntKind.i64.wrap ((k0 : Int) + 1) = (k0 : Int) + 1 := IntWalk.i64_in _ ⟨by omega, by omega⟩
    clear hbef hz
    go_wp2_with fail
    go_loopw [5, 6] (fun s5 s6 wr => ∃ (i j : Nat) (dk : Array Id2), s5 = .int .i64 i ∧ s6 = .int .i64 j ∧ j ≤ d.size ∧ Hid (Go.Lib.KeptInv (fun j => !p d[j]!) d j i dk) ∧ Hid (RowAtR encI 2 wr g dk) ∧ Hid (w.grownBy wr (some g)) ∧ Hid (S wr)) (fun _ s6 _ => d.size - (intOf s6).toNat)
    case atStart => exact ⟨k0, k0 + 1, d, rfl, by go_num, by omega, HS, R1, HG, S1⟩
    case round =>
      obtain ⟨i, j, dk, rfl, rfl, hjd, HK, H2, H3, H4⟩ := hrel
      have hij := HK.out.lt
      have hds := HK.out.size
      have p1 : (0 : Int) ≤ (j : Int) := by omega
      have p2 : (0 : Int) ≤ (i : Int) := by omega
      by_cases hlt : j < d.size
      · have hd : decide ((j : Int) < (d.size : Int)) = true := by simp; omega
        have p3 : (j : Int) < (d.size : Int) := by omega
        have p4 : (i : Int) < (d.size : Int) := by omega
        have hT := (H2.out.id (show j < dk.size by omega)).1
        rw [HK.out.high j (by omega)] at hT
        rcases hn : p d[j]! with _ | _
        · have HKK := Lib.hid (HK.out.keep hlt (by show (!p d[j]!) = true; rw [hn]; rfl))
          have HC : Hid (∀ W, S W → Calls Tryz.prog K (#[.agg #[.int .i64 d[j]!.1, .int .i64 d[j]!.2]] ++ caps) W fun e w' => e = .returned (.bool false) ∧ Below W.heap.size W w') := Lib.hid fun W hs => by
            have := HP.out.call d[j]!.1 d[j]!.2 W hs
            rw [show p (d[j]!.1, d[j]!.2) = false from hn] at this
            exact this
          have HE := Lib.hid (show d[j]! = (d[j]!.1, d[j]!.2) from rfl)
          rw [HE.out] at HKK
          clear hn HE
          have HX := Lib.hid (box_new wr d[j]!.1 d[j]!.2)
          have BX := Lib.hid (below_one wr (.cells #[.int .i64 d[j]!.1, .int .i64 d[j]!.2] 29))
          have SX := Lib.hid (HP.out.kept _ _ H4.out BX.out)
          generalize d[j]!.1 = a at *
          generalize d[j]!.2 = b at *
          obtain ⟨c1, c2⟩ := hT
          go_wp2_with fail
          (with_reducible refine (HC.out _ SX.out).mono ?_)
          rintro e w2 ⟨rfl, hb⟩
          have B2 := Lib.hid (below_after BX.out hb (Nat.le_refl _))
          have R2 := Lib.hid (rowAtR_kept H2.out B2.out)
          have G2 := Lib.hid (grown_below H3.out B2.out)
          have S2 := Lib.hid (HP.out.kept _ _ SX.out hb)
          have X2 := Lib.hid (box_below HX.out hb)
          clear hb c1 c2
          obtain ⟨x1, x2⟩ := box_cells X2.out
          obtain ⟨⟨c1, c2⟩, f1, f2⟩ := H2.out.id (show i < dk.size by omega)
          clear c1 c2 f1 f2
          obtain ⟨⟨c1, c2⟩, f1, f2⟩ := R2.out.id (show i < dk.size by omega)
          have R3 := Lib.hid (rowI_set R2.out (show i < dk.size by omega) a b)
          have G3 := Lib.hid (grown_setI G2.out i (.int .i64 a) (.int .i64 b))
          have S3 := Lib.hid (HSG.out _ _ S2.out (grown_setI (World.grownBy.refl w2 (some g)) i (.int .i64 a) (.int .i64 b)))
          go_wp2_with fail
          go_roundw
          case rel => exact ⟨i + 1, j + 1, _, by go_num, by go_num, by omega, HKK, R3, G3, S3⟩
          case measure => simp [intOf]; omega
        · have HKK := Lib.hid (HK.out.skip (by show (!p d[j]!) = false; rw [hn]; rfl))
          have HC : Hid (∀ W, S W → Calls Tryz.prog K (#[.agg #[.int .i64 d[j]!.1, .int .i64 d[j]!.2]] ++ caps) W fun e w' => e = .returned (.bool true) ∧ Below W.heap.size W w') := Lib.hid fun W hs => by
            have := HP.out.call d[j]!.1 d[j]!.2 W hs
            rw [show p (d[j]!.1, d[j]!.2) = true from hn] at this
            exact this
          clear hn
          have BX := Lib.hid (below_one wr (.cells #[.int .i64 d[j]!.1, .int .i64 d[j]!.2] 29))
          have HX := Lib.hid (box_new wr d[j]!.1 d[j]!.2)
          have SX := Lib.hid (HP.out.kept _ _ H4.out BX.out)
          generalize d[j]!.1 = a at *
          generalize d[j]!.2 = b at *
          obtain ⟨c1, c2⟩ := hT
          go_wp2_with fail
          (with_reducible refine (HC.out _ SX.out).mono ?_)
          rintro e w2 ⟨rfl, hb⟩
          have B2 := Lib.hid (below_after BX.out hb (Nat.le_refl _))
          have R2 := Lib.hid (rowAtR_kept H2.out B2.out)
          have G2 := Lib.hid (grown_below H3.out B2.out)
          have S2 := Lib.hid (HP.out.kept _ _ SX.out hb)
          clear hb c1 c2
          go_wp2_with fail
          go_roundw
          case rel => exact ⟨i, j + 1, dk, rfl, by go_num, by omega, HKK, R2, G2, S2⟩
          case measure => simp [intOf]; omega
      · obtain rfl : j = d.size := by omega
        have hd : decide ((d.size : Int) < (d.size : Int)) = false := by simp
        obtain ⟨vs, hcl⟩ := run_clear_recs (P := Tryz.prog) (enc := encI) (sz := 2) encI_len (by omega) Tryz.underlying23 zero30 rfl (by intro u hu; simp [Value.cells] at hu; rcases hu with rfl | rfl <;> rfl) H2.out (show i < dk.size by omega) (c - i) 0
        have R3 := Lib.hid (rowAtR_front encI_len H2.out (show i ≤ dk.size by omega) vs)
        have G3 := Lib.hid (grown_setCells H3.out (i * 2) vs)
        have HF := Lib.hid (kept_front HK.out)
        have hci : ¬ c = i := by omega
        have p5 : (i : Int) ≤ (d.size : Int) := by omega
        rw [hds] at hcl
        go_wp2_with fail
        go_ret
        exact ⟨dk.extract 0 i, by simp; omega, HF.out.trans HA.out, by simp; omega, R3.out, G3.out⟩
set_option maxHeartbeats 4000000 in
/-- slices.DeleteFunc over members. -/
theorem deleteM_any {K : Nat} {caps : Array Value} {p : Mm → Bool} {S : World → Prop} {D : Mm → Prop} (hP : AsksM K caps p S D) (g c : Nat) (hSg : ∀ W W', S W → W.grownBy W' (some g) → S W') (d : Array Mm) (w : World) (h : RowAtR encM 4 w g d) (hS : S w) (hc : d.size ≤ c) (hl : d.size ≤ 100000) (hD : ∀ x ∈ d.toList, D x) :
    Calls Tryz.prog 105 #[.slice (some ⟨g, 0, none⟩) d.size c, .func (.func K) #[] caps] w fun e w' => ∃ d' : Array Mm, e = .returned (.slice (some ⟨g, 0, none⟩) d'.size c) ∧ (d'.toList = d.toList.filter fun t => !p t) ∧ d'.size ≤ d.size ∧ RowAtR encM 4 w' g d' ∧ w.grownBy w' (some g) := by
  have HP := Lib.hid hP
  have HSG := Lib.hid hSg
  have HS0 := Lib.hid hS
  have HDl := Lib.hid hD
  have HD : Hid (∀ j, j < d.size → D ((d[j]!.1.1, d[j]!.1.2), d[j]!.2.1, d[j]!.2.2)) := Lib.hid fun j hj => (show D d[j]! from hD _ (by rw [getElem!_pos d j hj]; simp))
  have HR := Lib.hid h
  have HI := Lib.hid (show Ms w (.slice (some ⟨g, 0, none⟩) d.size c) d.toList from rowAtR_rcs h hc)
  have HA : Hid (Go.Lib.keptUpTo (fun j => !p d[j]!) d d.size = d.toList.filter fun t => !p t) := Lib.hid (Go.Lib.keptUpTo_filter (fun t : Mm => !p t) d)
  have hK := hP.enters
  clear h hP hSg hS hD
  go_enter Tryz.func105, Tryz.ntmps105
  go_wp2_with fail
  (with_reducible refine (indexM_any HP.out _ _ _ HI.out HS0.out (by simpa using hl) HDl.out).mono ?_)
  rintro e w1 ⟨⟨r, rfl, hf⟩, hb⟩
  have HB := Lib.hid hb
  have R1 := Lib.hid (rowAtR_kept HR.out hb)
  have S1 := Lib.hid (HP.out.kept _ _ HS0.out hb)
  clear hb
  rcases hf with ⟨rfl, hall⟩ | ⟨k0, hk0, rfl, hz, hbef⟩
  · have HF := Lib.hid (show d.toList = d.toList.filter fun t => !p t by
      rw [← HA.out, Go.Lib.keptUpTo_all (fun j => !p d[j]!) d d.size (fun j hj => by rw [found_none (pp := fun t => p t) hall j hj]; rfl), Go.Lib.range_map_get])
    clear hall
    go_wp2_with fail
    go_ret
    exact ⟨d, rfl, HF.out, Nat.le_refl _, R1.out, grown_below (World.grownBy.refl _ _) HB.out⟩
  · have hk0 : k0 < d.size := by simpa using hk0
    have hne1 : ((k0 : Int) == -1) = false := beq_eq_false_iff_ne.2 (by omega)
    have HS := Lib.hid (Go.Lib.KeptInv.start (kp := fun j => !p d[j]!) (d := d) (k0 := k0) (fun j hj => by show (!p d[j]!) = true; rw [found_take (pp := fun t => p t) (by omega) hbef j hj]; rfl) (by show (!p d[k0]!) = false; rw [show p d[k0]! = true by rw [getElem!_pos d k0 hk0]; simpa using hz]; rfl))
    have HG := Lib.hid (show w.grownBy w1 (some g) from grown_below (World.grownBy.refl _ _) HB.out)
    have i0 : IntKind.i64.wrap ((k0 : Int) + 1) = (k0 : Int) + 1 := IntWalk.i64_in _ ⟨by omega, by omega⟩
    clear hbef hz
    go_wp2_with fail
    go_loopw [5, 6] (fun s5 s6 wr => ∃ (i j : Nat) (dk : Array Mm), s5 = .int .i64 i ∧ s6 = .int .i64 j ∧ j ≤ d.size ∧ Hid (Go.Lib.KeptInv (fun j => !p d[j]!) d j i dk) ∧ Hid (RowAtR encM 4 wr g dk) ∧ Hid (w.grownBy wr (some g)) ∧ Hid (S wr)) (fun _ s6 _ => d.size - (intOf s6).toNat)
    case atStart => exact ⟨k0, k0 + 1, d, rfl, by go_num, by omega, HS, R1, HG, S1⟩
    case round =>
      obtain ⟨i, j, dk, rfl, rfl, hjd, HK, H2, H3, H4⟩ := hrel
      have hij := HK.out.lt
      have hds := HK.out.size
      have p1 : (0 : Int) ≤ (j : Int) := by omega
      have p2 : (0 : Int) ≤ (i : Int) := by omega
      by_cases hlt : j < d.size
      · have hd : decide ((j : Int) < (d.size : Int)) = true := by simp; omega
        have p3 : (j : Int) < (d.size : Int) := by omega
        have p4 : (i : Int) < (d.size : Int) := by omega
        have hT := (H2.out.mem (show j < dk.size by omega)).1
        rw [HK.out.high j (by omega)] at hT
        rcases hn : p d[j]! with _ | _
        · have HKK := Lib.hid (HK.out.keep hlt (by show (!p d[j]!) = true; rw [hn]; rfl))
          have HC : Hid (∀ W, S W → Calls Tryz.prog K (#[.agg #[.int .i64 d[j]!.1.1, .int .i64 d[j]!.1.2, .int .u8 d[j]!.2.1, .int .i64 d[j]!.2.2]] ++ caps) W fun e w' => e = .returned (.bool false) ∧ Below W.heap.size W w') := Lib.hid fun W hs => by
            have := HP.out.call d[j]!.1.1 d[j]!.1.2 d[j]!.2.1 d[j]!.2.2 W (HD.out j hlt) hs
            rw [show p ((d[j]!.1.1, d[j]!.1.2), d[j]!.2.1, d[j]!.2.2) = false from hn] at this
            exact this
          have HE := Lib.hid (show d[j]! = ((d[j]!.1.1, d[j]!.1.2), d[j]!.2.1, d[j]!.2.2) from rfl)
          rw [HE.out] at HKK
          clear hn HE
          have HX := Lib.hid (mbox_new wr d[j]!.1.1 d[j]!.1.2 d[j]!.2.1 d[j]!.2.2)
          have BX := Lib.hid (below_one wr (.cells #[.int .i64 d[j]!.1.1, .int .i64 d[j]!.1.2, .int .u8 d[j]!.2.1, .int .i64 d[j]!.2.2] 31))
          have SX := Lib.hid (HP.out.kept _ _ H4.out BX.out)
          generalize d[j]!.1.1 = a at *
          generalize d[j]!.1.2 = b at *
          generalize d[j]!.2.1 = m at *
          generalize d[j]!.2.2 = n at *
          obtain ⟨c1, c2, c3, c4⟩ := hT
          go_wp2_with fail
          (with_reducible refine (HC.out _ SX.out).mono ?_)
          rintro e w2 ⟨rfl, hb⟩
          have B2 := Lib.hid (below_after BX.out hb (Nat.le_refl _))
          have R2 := Lib.hid (rowAtR_kept H2.out B2.out)
          have G2 := Lib.hid (grown_below H3.out B2.out)
          have S2 := Lib.hid (HP.out.kept _ _ SX.out hb)
          have X2 := Lib.hid (mbox_below HX.out hb)
          clear hb c1 c2 c3 c4
          obtain ⟨x1, x2, x3, x4⟩ := mbox_cells X2.out
          obtain ⟨⟨c1, c2, c3, c4⟩, f1, f2, f3, f4⟩ := H2.out.mem (show i < dk.size by omega)
          clear c1 c2 c3 c4 f1 f2 f3 f4
          obtain ⟨⟨c1, c2, c3, c4⟩, f1, f2, f3, f4⟩ := R2.out.mem (show i < dk.size by omega)
          have R3 := Lib.hid (rowM_set R2.out (show i < dk.size by omega) a b m n)
          have G3 := Lib.hid (grown_setM G2.out i (.int .i64 a) (.int .i64 b) (.int .u8 m) (.int .i64 n))
          have S3 := Lib.hid (HSG.out _ _ S2.out (grown_setM (World.grownBy.refl w2 (some g)) i (.int .i64 a) (.int .i64 b) (.int .u8 m) (.int .i64 n)))
          go_wp2_with fail
          go_roundw
          case rel => exact ⟨i + 1, j + 1, _, by go_num, by go_num, by omega, HKK, R3, G3, S3⟩
          case measure => simp [intOf]; omega
        · have HKK := Lib.hid (HK.out.skip (by show (!p d[j]!) = false; rw [hn]; rfl))
          have HC : Hid (∀ W, S W → Calls Tryz.prog K (#[.agg #[.int .i64 d[j]!.1.1, .int .i64 d[j]!.1.2, .int .u8 d[j]!.2.1, .int .i64 d[j]!.2.2]] ++ caps) W fun e w' => e = .returned (.bool true) ∧ Below W.heap.size W w') := Lib.hid fun W hs => by
            have := HP.out.call d[j]!.1.1 d[j]!.1.2 d[j]!.2.1 d[j]!.2.2 W (HD.out j hlt) hs
            rw [show p ((d[j]!.1.1, d[j]!.1.2), d[j]!.2.1, d[j]!.2.2) = true from hn] at this
            exact this
          clear hn
          have BX := Lib.hid (below_one wr (.cells #[.int .i64 d[j]!.1.1, .int .i64 d[j]!.1.2, .int .u8 d[j]!.2.1, .int .i64 d[j]!.2.2] 31))
          have HX := Lib.hid (mbox_new wr d[j]!.1.1 d[j]!.1.2 d[j]!.2.1 d[j]!.2.2)
          have SX := Lib.hid (HP.out.kept _ _ H4.out BX.out)
          generalize d[j]!.1.1 = a at *
          generalize d[j]!.1.2 = b at *
          generalize d[j]!.2.1 = m at *
          generalize d[j]!.2.2 = n at *
          obtain ⟨c1, c2, c3, c4⟩ := hT
          go_wp2_with fail
          (with_reducible refine (HC.out _ SX.out).mono ?_)
          rintro e w2 ⟨rfl, hb⟩
          have B2 := Lib.hid (below_after BX.out hb (Nat.le_refl _))
          have R2 := Lib.hid (rowAtR_kept H2.out B2.out)
          have G2 := Lib.hid (grown_below H3.out B2.out)
          have S2 := Lib.hid (HP.out.kept _ _ SX.out hb)
          clear hb c1 c2 c3 c4
          go_wp2_with fail
          go_roundw
          case rel => exact ⟨i, j + 1, dk, rfl, by go_num, by omega, HKK, R2, G2, S2⟩
          case measure => simp [intOf]; omega
      · obtain rfl : j = d.size := by omega
        have hd : decide ((d.size : Int) < (d.size : Int)) = false := by simp
        obtain ⟨vs, hcl⟩ := run_clear_recs (P := Tryz.prog) (enc := encM) (sz := 4) encM_len (by omega) Tryz.underlying22 zero32 rfl (by intro u hu; simp [Value.cells] at hu; rcases hu with rfl | rfl | rfl <;> rfl) H2.out (show i < dk.size by omega) (c - i) 0
        have R3 := Lib.hid (rowAtR_front encM_len H2.out (show i ≤ dk.size by omega) vs)
        have G3 := Lib.hid (grown_setCells H3.out (i * 4) vs)
        have HF := Lib.hid (kept_front HK.out)
        have hci : ¬ c = i := by omega
        have p5 : (i : Int) ≤ (d.size : Int) := by omega
        rw [hds] at hcl
        go_wp2_with fail
        go_ret
        exact ⟨dk.extract 0 i, by simp; omega, HF.out.trans HA.out, by simp; omega, R3.out, G3.out⟩
end Go.Proofs.YtjlnnmjhbccdoaaGreat
namespace Go.Proofs.YtjlnnmjhbccdoaaGreat
open Go Go.RowKit Ros
/-- Block g holds these slices. -/
def Lots (w : World) (g t : Nat) (cs : List Value) : Prop := w.heap[g]? = some (.cells cs.toArray t (0, 0))
theorem lots_cell {w : World} {g t : Nat} {cs : List Value} (h : Lots w g t cs) {k : Nat} (hk : k < cs.length) : w.cell? ⟨g, k, none⟩ = some cs[k] := by
  unfold Lots at h
  rw [cell_of_row _ _ k _ _ _ h]
  simp [hk]
theorem lots_below {w w' : World} {g t : Nat} {cs : List Value} (h : Lots w g t cs) (hb : Below w.heap.size w w') : Lots w' g t cs := (hb.block _ (row_lt h)).trans h
theorem flat_take {α : Type} {ls : List (List α)} {k : Nat} (hk : k < ls.length) : (ls.take (k + 1)).flatten = (ls.take k).flatten ++ ls[k] := by
  rw [List.take_succ_eq_append_getElem hk, List.flatten_append]
  simp
/-- How many there are in the first k lists. -/
def tot {α : Type} (ls : List (List α)) (k : Nat) : Nat := (ls.take k).flatten.length
theorem tot_next {α : Type} {ls : List (List α)} {k : Nat} (hk : k < ls.length) : tot ls (k + 1) = tot ls k + ls[k].length := by
  unfold tot
  rw [flat_take hk, List.length_append]
theorem flat_len_le {α : Type} (ls : List (List α)) (k : Nat) : (ls.take k).flatten.length ≤ ls.flatten.length := by
  have : ls.flatten = (ls.take k).flatten ++ (ls.drop k).flatten := by rw [← List.flatten_append, List.take_append_drop]
  rw [this, List.length_append]
  omega
set_option maxHeartbeats 1000000 in
/-- slices.Grow of nil. -/
theorem growI_any (n : Nat) (w : World) (hn : n ≤ 100000) :
    Calls Tryz.prog 147 #[.slice none 0 0, .int .i64 n] w fun e w' => ∃ V, e = .returned V ∧ OwnsR encI 2 29 w' w.heap.size V [] ∧ Below w.heap.size w w' := by
  have h1 : decide ((n : Int) < 0) = false := by simp
  by_cases hp : 0 < n
  · obtain ⟨i0, hi, hz0, hz1, hz2⟩ := info_parts info30
    have hr : ∀ T, (Builtin.append_ #[23, 3] T #[.slice none 0 0, .int .i64 n]).run Tryz.prog w = .ok (.slice (some ⟨w.heap.size, 0, none⟩) n (grownCap w n 0 29)) (w.drew.alloc (.cells (Builtin.zeroCells (Value.agg #[.int .i64 0, .int .i64 0]).cells n ++ Builtin.zeroCells (Value.agg #[.int .i64 0, .int .i64 0]).cells (grownCap w n 0 29 - n)) 29)) := fun T =>
      Lib.run_append_nil_zeros w 23 3 T 29 i0 _ .i64 .i64 Tryz.underlying23 Tryz.underlying3 hi hz0 n hp (by omega) (by omega) (by rw [hz2]; omega)
    have hc1 : n ≤ grownCap w n 0 29 := grownCap_ge w _ _ _
    have hc2 : grownCap w n 0 29 ≤ maxLen := grownCap_le_maxLen w n 0 29 (by unfold maxLen; omega)
    have HO : Hid (OwnsR encI 2 29 (w.drew.alloc (.cells (Builtin.zeroCells (Value.agg #[.int .i64 0, .int .i64 0]).cells n ++ Builtin.zeroCells (Value.agg #[.int .i64 0, .int .i64 0]).cells (grownCap w n 0 29 - n)) 29)) w.heap.size (.slice (some ⟨w.heap.size, 0, none⟩) 0 (grownCap w n 0 29)) []) := Lib.hid (World.ownsRow_made w.drew _ _ (Nat.le_refl _) hc2 (by simp [Builtin.zeroCells, Value.cells]; omega))
    have HB : Hid (Below w.heap.size w (w.drew.alloc (.cells (Builtin.zeroCells (Value.agg #[.int .i64 0, .int .i64 0]).cells n ++ Builtin.zeroCells (Value.agg #[.int .i64 0, .int .i64 0]).cells (grownCap w n 0 29 - n)) 29))) := Lib.hid ((Below.drew (Below.refl _ w)).alloc (Nat.le_refl _) _)
    generalize grownCap w n 0 29 = G at *
    generalize Builtin.zeroCells (Value.agg #[.int .i64 0, .int .i64 0]).cells n ++ Builtin.zeroCells (Value.agg #[.int .i64 0, .int .i64 0]).cells (G - n) = R at *
    have h2 : decide ((n : Int) > 0) = true := by simpa using hp
    have h2' : decide (0 < (n : Int)) = true := by simpa using hp
    have hw : IntKind.i64.wrap (n : Int) = n := IntWalk.i64_in _ ⟨by omega, by omega⟩
    clear hi hz0 hz1 hz2 hc2
    go_enter Tryz.func147, Tryz.ntmps147
    go_wp2_with (at_builtin; refine Lib.wpList_append_run _ rfl _ _ _ _ rfl _ _ rfl rfl _ _ (hr _) ?_)
    go_ret
    exact ⟨_, rfl, HO.out, HB.out⟩
  · obtain rfl : n = 0 := by omega
    have HO : Hid (OwnsR encI 2 29 w w.heap.size (.slice none 0 0) []) := Lib.hid (OwnsR.nil _ _ _)
    go_enter Tryz.func147, Tryz.ntmps147
    go_wp2_with fail
    go_ret
    exact ⟨_, rfl, HO.out, Below.refl _ _⟩
set_option maxHeartbeats 4000000 in
/-- slices.Concat. -/
theorem concatI_any (g : Nat) (cs : List Value) (ls : List (List Id2)) (w : World) {tt : Nat} (h : Lots w g tt cs) (hcl : cs.length = ls.length) (hs : ∀ (k : Nat) (hk : k < cs.length) (hk' : k < ls.length), Rcs encI 2 w cs[k] ls[k]) (hn : cs.length ≤ 10) (hl : ls.flatten.length ≤ 50000) :
    Calls Tryz.prog 109 #[.slice (some ⟨g, 0, none⟩) cs.length cs.length] w fun e w' => ∃ V, e = .returned V ∧ OwnsR encI 2 29 w' w.heap.size V ls.flatten ∧ Below w.heap.size w w' := by
  have HI := Lib.hid h
  have HS := Lib.hid hs
  have HL : Hid (∀ k, tot ls k ≤ 50000) := Lib.hid (fun k => Nat.le_trans (flat_len_le ls k) hl)
  clear h hs
  go_enter Tryz.func109, Tryz.ntmps109
  go_wp2_with fail
  go_loop [3, 11] (fun s3 s11 => ∃ k : Nat, k ≤ cs.length ∧ s11 = .int .i64 k ∧ s3 = .int .i64 (tot ls k)) (fun _ s11 => cs.length - (intOf s11).toNat)
  case atStart => exact ⟨0, by omega, rfl, by simp [tot]⟩
  case round =>
    obtain ⟨k, hkl, rfl, rfl⟩ := hrel
    have i3 : (0 : Int) ≤ (k : Int) := by omega
    by_cases hlt : k < cs.length
    · have hd : decide ((k : Int) < (cs.length : Int)) = true := by simp; omega
      have i4 : (k : Int) < (cs.length : Int) := by omega
      obtain ⟨A, c, hv, hz⟩ := HS.out k hlt (by omega)
      have c1 := lots_cell HI.out hlt
      rw [hv] at c1
      clear hz hv
      have hm := HL.out (k + 1)
      have hT := tot_next (ls := ls) (k := k) (by omega)
      rw [hT] at hm
      have HT := Lib.hid hT
      clear hT
      generalize (ls[k]'(by omega)).length = q at *
      generalize tot ls k = p at *
      have hw : IntKind.i64.wrap ((p : Int) + (q : Int)) = (p : Int) + (q : Int) := IntWalk.i64_in _ ⟨by omega, by omega⟩
      have hd2 : decide ((p : Int) + (q : Int) < 0) = false := by simp; omega
      go_wp2_with fail
      go_round
      case rel => exact ⟨k + 1, by omega, by go_num, by rw [HT.out, Int.natCast_add]⟩
      case measure => simp [intOf]; omega
    · have hd : decide ((k : Int) < (cs.length : Int)) = false := by simp; omega
      have hm := HL.out k
      generalize tot ls k = p at *
      go_wp2_with fail
      refine (growI_any _ _ (by omega)).mono ?_
      rintro e w1 ⟨V0, rfl, hO, hb⟩
      have HB := Lib.hid hb
      have HO := Lib.hid hO
      have HI1 := Lib.hid (lots_below HI.out hb)
      have HS1 := Lib.hid fun k hk hk' => (HS.out k hk hk').below hb
      clear hb hO hd
      go_wp2_with fail
      go_loopw [6, 27] (fun s6 s27 wr => ∃ k : Nat, k ≤ cs.length ∧ s27 = .int .i64 k ∧ Hid (OwnsR encI 2 29 wr w.heap.size s6 (ls.take k).flatten) ∧ Hid (Below w.heap.size w wr)) (fun _ s27 _ => cs.length - (intOf s27).toNat)
      case atStart => exact ⟨0, by omega, rfl, Lib.hid (by simpa using HO.out), HB⟩
      case round =>
        obtain ⟨k, hkl, rfl, HO, HW⟩ := hrel
        have i3 : (0 : Int) ≤ (k : Int) := by omega
        by_cases hlt : k < cs.length
        · have hd : decide ((k : Int) < (cs.length : Int)) = true := by simp; omega
          have i4 : (k : Int) < (cs.length : Int) := by omega
          have hR := (HS.out k hlt (by omega)).below HW.out
          have HR := Lib.hid hR
          obtain ⟨A, c, hv, _⟩ := hR
          have c1 := lots_cell (lots_below HI.out HW.out) hlt
          rw [hv] at c1 HR
          have HT := Lib.hid (flat_take (ls := ls) (k := k) (by omega))
          have HM := Lib.hid (show (ls.take k).flatten.length + (ls[k]'(by omega)).length ≤ 100000 from (Nat.le_trans (Nat.le_of_eq (tot_next (ls := ls) (k := k) (by omega)).symm) (Nat.le_trans (HL.out (k + 1)) (by omega))))
          have hbs := HW.out.size
          go_wp2_with (at_builtin; refine wpList_append_recs (enc := encI) (sz := 2) 23 29 Tryz.underlying23 info30 rfl encI_len (by omega) encI_one (by omega) rfl (.tmp 31) (.tmp 32) rfl wr w.heap.size _ _ (ls.take k).flatten (ls[k]'(by omega)) rfl rfl HO.out HR.out HM.out hbs ?_; intro v' w' hO' hB'; have HO' := Lib.hid hO'; have HB' := Lib.hid (HW.out.trans hB'); clear hO' hB')
          go_roundw
          case rel => exact ⟨k + 1, by omega, by go_num, by rw [HT.out]; exact HO', HB'⟩
          case measure => simp [intOf]; omega
        · have hd : decide ((k : Int) < (cs.length : Int)) = false := by simp; omega
          have HF := Lib.hid (show (ls.take k).flatten = ls.flatten by rw [List.take_of_length_le (by omega)])
          go_wp2_with fail
          go_ret
          exact ⟨_, rfl, by rw [← HF.out]; exact HO.out, HW.out⟩
set_option maxHeartbeats 1000000 in
/-- slices.Grow of nil. -/
theorem growM_any (n : Nat) (w : World) (hn : n ≤ 100000) :
    Calls Tryz.prog 146 #[.slice none 0 0, .int .i64 n] w fun e w' => ∃ V, e = .returned V ∧ OwnsR encM 4 31 w' w.heap.size V [] ∧ Below w.heap.size w w' := by
  have h1 : decide ((n : Int) < 0) = false := by simp
  by_cases hp : 0 < n
  · obtain ⟨i0, hi, hz0, hz1, hz2⟩ := info_parts info32
    have hr : ∀ T, (Builtin.append_ #[22, 3] T #[.slice none 0 0, .int .i64 n]).run Tryz.prog w = .ok (.slice (some ⟨w.heap.size, 0, none⟩) n (grownCap w n 0 31)) (w.drew.alloc (.cells (Builtin.zeroCells (Value.agg #[.int .i64 0, .int .i64 0, .int .u8 0, .int .i64 0]).cells n ++ Builtin.zeroCells (Value.agg #[.int .i64 0, .int .i64 0, .int .u8 0, .int .i64 0]).cells (grownCap w n 0 31 - n)) 31)) := fun T =>
      Lib.run_append_nil_zeros w 22 3 T 31 i0 _ .i64 .i64 Tryz.underlying22 Tryz.underlying3 hi hz0 n hp (by omega) (by omega) (by rw [hz2]; omega)
    have hc1 : n ≤ grownCap w n 0 31 := grownCap_ge w _ _ _
    have hc2 : grownCap w n 0 31 ≤ maxLen := grownCap_le_maxLen w n 0 31 (by unfold maxLen; omega)
    have HO : Hid (OwnsR encM 4 31 (w.drew.alloc (.cells (Builtin.zeroCells (Value.agg #[.int .i64 0, .int .i64 0, .int .u8 0, .int .i64 0]).cells n ++ Builtin.zeroCells (Value.agg #[.int .i64 0, .int .i64 0, .int .u8 0, .int .i64 0]).cells (grownCap w n 0 31 - n)) 31)) w.heap.size (.slice (some ⟨w.heap.size, 0, none⟩) 0 (grownCap w n 0 31)) []) := Lib.hid (World.ownsRow_made w.drew _ _ (Nat.le_refl _) hc2 (by simp [Builtin.zeroCells, Value.cells]; omega))
    have HB : Hid (Below w.heap.size w (w.drew.alloc (.cells (Builtin.zeroCells (Value.agg #[.int .i64 0, .int .i64 0, .int .u8 0, .int .i64 0]).cells n ++ Builtin.zeroCells (Value.agg #[.int .i64 0, .int .i64 0, .int .u8 0, .int .i64 0]).cells (grownCap w n 0 31 - n)) 31))) := Lib.hid ((Below.drew (Below.refl _ w)).alloc (Nat.le_refl _) _)
    generalize grownCap w n 0 31 = G at *
    generalize Builtin.zeroCells (Value.agg #[.int .i64 0, .int .i64 0, .int .u8 0, .int .i64 0]).cells n ++ Builtin.zeroCells (Value.agg #[.int .i64 0, .int .i64 0, .int .u8 0, .int .i64 0]).cells (G - n) = R at *
    have h2 : decide ((n : Int) > 0) = true := by simpa using hp
    have h2' : decide (0 < (n : Int)) = true := by simpa using hp
    have hw : IntKind.i64.wrap (n : Int) = n := IntWalk.i64_in _ ⟨by omega, by omega⟩
    clear hi hz0 hz1 hz2 hc2
    go_enter Tryz.func146, Tryz.ntmps146
    go_wp2_with (at_builtin; refine Lib.wpList_append_run _ rfl _ _ _ _ rfl _ _ rfl rfl _ _ (hr _) ?_)
    go_ret
    exact ⟨_, rfl, HO.out, HB.out⟩
  · obtain rfl : n = 0 := by omega
    have HO : Hid (OwnsR encM 4 31 w w.heap.size (.slice none 0 0) []) := Lib.hid (OwnsR.nil _ _ _)
    go_enter Tryz.func146, Tryz.ntmps146
    go_wp2_with fail
    go_ret
    exact ⟨_, rfl, HO.out, Below.refl _ _⟩
set_option maxHeartbeats 4000000 in
/-- slices.Concat. -/
theorem concatM_any (g : Nat) (cs : List Value) (ls : List (List Mm)) (w : World) {tt : Nat} (h : Lots w g tt cs) (hcl : cs.length = ls.length) (hs : ∀ (k : Nat) (hk : k < cs.length) (hk' : k < ls.length), Rcs encM 4 w cs[k] ls[k]) (hn : cs.length ≤ 10) (hl : ls.flatten.length ≤ 50000) :
    Calls Tryz.prog 106 #[.slice (some ⟨g, 0, none⟩) cs.length cs.length] w fun e w' => ∃ V, e = .returned V ∧ OwnsR encM 4 31 w' w.heap.size V ls.flatten ∧ Below w.heap.size w w' := by
  have HI := Lib.hid h
  have HS := Lib.hid hs
  have HL : Hid (∀ k, tot ls k ≤ 50000) := Lib.hid (fun k => Nat.le_trans (flat_len_le ls k) hl)
  clear h hs
  go_enter Tryz.func106, Tryz.ntmps106
  go_wp2_with fail
  go_loop [3, 11] (fun s3 s11 => ∃ k : Nat, k ≤ cs.length ∧ s11 = .int .i64 k ∧ s3 = .int .i64 (tot ls k)) (fun _ s11 => cs.length - (intOf s11).toNat)
  case atStart => exact ⟨0, by omega, rfl, by simp [tot]⟩
  case round =>
    obtain ⟨k, hkl, rfl, rfl⟩ := hrel
    have i3 : (0 : Int) ≤ (k : Int) := by omega
    by_cases hlt : k < cs.length
    · have hd : decide ((k : Int) < (cs.length : Int)) = true := by simp; omega
      have i4 : (k : Int) < (cs.length : Int) := by omega
      obtain ⟨A, c, hv, hz⟩ := HS.out k hlt (by omega)
      have c1 := lots_cell HI.out hlt
      rw [hv] at c1
      clear hz hv
      have hm := HL.out (k + 1)
      have hT := tot_next (ls := ls) (k := k) (by omega)
      rw [hT] at hm
      have HT := Lib.hid hT
      clear hT
      generalize (ls[k]'(by omega)).length = q at *
      generalize tot ls k = p at *
      have hw : IntKind.i64.wrap ((p : Int) + (q : Int)) = (p : Int) + (q : Int) := IntWalk.i64_in _ ⟨by omega, by omega⟩
      have hd2 : decide ((p : Int) + (q : Int) < 0) = false := by simp; omega
      go_wp2_with fail
      go_round
      case rel => exact ⟨k + 1, by omega, by go_num, by rw [HT.out, Int.natCast_add]⟩
      case measure => simp [intOf]; omega
    · have hd : decide ((k : Int) < (cs.length : Int)) = false := by simp; omega
      have hm := HL.out k
      generalize tot ls k = p at *
      go_wp2_with fail
      refine (growM_any _ _ (by omega)).mono ?_
      rintro e w1 ⟨V0, rfl, hO, hb⟩
      have HB := Lib.hid hb
      have HO := Lib.hid hO
      have HI1 := Lib.hid (lots_below HI.out hb)
      have HS1 := Lib.hid fun k hk hk' => (HS.out k hk hk').below hb
      clear hb hO hd
      go_wp2_with fail
      go_loopw [6, 27] (fun s6 s27 wr => ∃ k : Nat, k ≤ cs.length ∧ s27 = .int .i64 k ∧ Hid (OwnsR encM 4 31 wr w.heap.size s6 (ls.take k).flatten) ∧ Hid (Below w.heap.size w wr)) (fun _ s27 _ => cs.length - (intOf s27).toNat)
      case atStart => exact ⟨0, by omega, rfl, Lib.hid (by simpa using HO.out), HB⟩
      case round =>
        obtain ⟨k, hkl, rfl, HO, HW⟩ := hrel
        have i3 : (0 : Int) ≤ (k : Int) := by omega
        by_cases hlt : k < cs.length
        · have hd : decide ((k : Int) < (cs.length : Int)) = true := by simp; omega
          have i4 : (k : Int) < (cs.length : Int) := by omega
          have hR := (HS.out k hlt (by omega)).below HW.out
          have HR := Lib.hid hR
          obtain ⟨A, c, hv, _⟩ := hR
          have c1 := lots_cell (lots_below HI.out HW.out) hlt
          rw [hv] at c1 HR
          have HT := Lib.hid (flat_take (ls := ls) (k := k) (by omega))
          have HM := Lib.hid (show (ls.take k).flatten.length + (ls[k]'(by omega)).length ≤ 100000 from (Nat.le_trans (Nat.le_of_eq (tot_next (ls := ls) (k := k) (by omega)).symm) (Nat.le_trans (HL.out (k + 1)) (by omega))))
          have hbs := HW.out.size
          go_wp2_with (at_builtin; refine wpList_append_recs (enc := encM) (sz := 4) 22 31 Tryz.underlying22 info32 rfl encM_len (by omega) encM_one (by omega) rfl (.tmp 31) (.tmp 32) rfl wr w.heap.size _ _ (ls.take k).flatten (ls[k]'(by omega)) rfl rfl HO.out HR.out HM.out hbs ?_; intro v' w' hO' hB'; have HO' := Lib.hid hO'; have HB' := Lib.hid (HW.out.trans hB'); clear hO' hB')
          go_roundw
          case rel => exact ⟨k + 1, by omega, by go_num, by rw [HT.out]; exact HO', HB'⟩
          case measure => simp [intOf]; omega
        · have hd : decide ((k : Int) < (cs.length : Int)) = false := by simp; omega
          have HF := Lib.hid (show (ls.take k).flatten = ls.flatten by rw [List.take_of_length_le (by omega)])
          go_wp2_with fail
          go_ret
          exact ⟨_, rfl, by rw [← HF.out]; exact HO.out, HW.out⟩
end Go.Proofs.YtjlnnmjhbccdoaaGreat
