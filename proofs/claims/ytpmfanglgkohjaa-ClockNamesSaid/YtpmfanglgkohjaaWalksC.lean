/-
  A walk over the library's way to strike ticks out of a list, in place. No statement is proved in this text; it holds for every input that its premises let by.
-/
import Derived.Test.YtpmfanglgkohjaaWalksB
import Derived.Lib.SlKept
import Derived.BigRegion
namespace Go.Proofs.Ytpmfanglgkohjaa
open Go.RowKit Sets Clocks
/-- The cells of a row in a world that has come of another one by new memory alone. -/
theorem RowAt.at_ {w w' : World} {g : Nat} {d : Array Tick} (h : RowAt w g d) (hb : Below w.heap.size w w') {k : Nat} (hk : k < d.size) :
    (w'.cell? ⟨g, k * 3, none⟩ = some (.int .i64 d[k]!.1.1) ∧ w'.cell? ⟨g, k * 3 + 1, none⟩ = some (.int .i64 d[k]!.1.2) ∧ w'.cell? ⟨g, k * 3 + 2, none⟩ = some (.int .i64 d[k]!.2)) ∧
    (w'.frozen? ⟨g, k * 3, none⟩ = false ∧ w'.frozen? ⟨g, k * 3 + 1, none⟩ = false ∧ w'.frozen? ⟨g, k * 3 + 2, none⟩ = false) := (rowAt_kept h hb).2 k hk
/-- Is the j-th one kept? -/
def keepN (d : Array Tick) (j : Nat) : Bool := !decide (d[j]!.2 ≤ 0)
theorem keepN_all (d : Array Tick) : Go.Lib.keptUpTo (keepN d) d d.size = d.toList.filter fun t => !decide (t.2 ≤ 0) := Go.Lib.keptUpTo_filter (fun t : Tick => !decide (t.2 ≤ 0)) d
theorem kept_front {kp : Nat → Bool} {d dk : Array Tick} {k : Nat} (h : Go.Lib.KeptInv kp d d.size k dk) : (dk.extract 0 k).toList = Go.Lib.keptUpTo kp d d.size := by
  have hk := h.lt
  have hs := h.size
  apply List.ext_getElem?
  intro j
  by_cases c : j < k
  · rw [h.low j c]
    have h1 : j < (dk.extract 0 k).size := by simp; omega
    rw [Array.getElem?_toList, Array.getElem?_eq_getElem h1, getElem!_pos dk j (by omega)]
    simp
  · rw [List.getElem?_eq_none (by simp; omega), List.getElem?_eq_none (by rw [h.len]; omega)]
set_option maxHeartbeats 4000000 in
/-- slices.DeleteFunc with said's first closure. -/
theorem delete_any (g c : Nat) (d : Array Tick) (w : World) (h : RowAt w g d) (hc : d.size ≤ c) (hl : d.size ≤ 100000) (h0 : 0 < d.size) :
    Calls Try.prog 26 #[.slice (some ⟨g, 0, none⟩) d.size c, .func (.func 28) #[] #[]] w fun e w' => ∃ d' : Array Tick, e = .returned (.slice (some ⟨g, 0, none⟩) d'.size c) ∧ (d'.toList = d.toList.filter fun t => !decide (t.2 ≤ 0)) ∧ RowAt w' g d' ∧ w.grownBy w' (some g) := by
  have HR := Lib.hid h
  have HI := Lib.hid (rowAt_rcs h hc)
  have HA := Lib.hid (keepN_all d)
  clear h
  go_enter Try.func26, Try.ntmps26
  go_wp2_with fail
  (with_reducible refine (index_any _ d _ HI.out hl).mono ?_)
  rintro e w1 ⟨⟨r, rfl, hf⟩, hb⟩
  have HB := Lib.hid hb
  have R1 := Lib.hid (rowAt_kept HR.out hb)
  clear hb
  rcases hf with ⟨rfl, hall⟩ | ⟨k0, rfl, hk0, hz, hbef⟩
  · have HF := Lib.hid (show d.toList = d.toList.filter fun t => !decide (t.2 ≤ 0) by
      rw [← HA.out, Go.Lib.keptUpTo_all (keepN d) d d.size (fun j hj => by have := hall j hj; simp [keepN]; omega), Go.Lib.range_map_get])
    clear hall
    go_wp2_with fail
    go_ret
    exact ⟨d, rfl, HF.out, R1.out, grown_below (World.grownBy.refl _ _) HB.out⟩
  · have hne1 : ((k0 : Int) == -1) = false := beq_eq_false_iff_ne.2 (by omega)
    have HS := Lib.hid (Go.Lib.KeptInv.start (kp := keepN d) (d := d) (k0 := k0) (fun j hj => by have := hbef j hj; simp [keepN]; omega) (by simp [keepN]; omega))
    have HG := Lib.hid (show w.grownBy w1 (some g) from grown_below (World.grownBy.refl _ _) HB.out)
    have i0 : IntKind.i64.wrap ((k0 : Int) + 1) = (k0 : Int) + 1 := IntWalk.i64_in _ ⟨by omega, by omega⟩
    clear hbef hz
    go_wp2_with fail
    go_loopw [5, 6] (fun s5 s6 wr => ∃ (i j : Nat) (dk : Array Tick), s5 = .int .i64 i ∧ s6 = .int .i64 j ∧ j ≤ d.size ∧ Hid (Go.Lib.KeptInv (keepN d) d j i dk) ∧ Hid (RowAt wr g dk) ∧ Hid (w.grownBy wr (some g))) (fun _ s6 _ => d.size - (intOf s6).toNat)
    case atStart => exact ⟨k0, k0 + 1, d, rfl, by go_num, by omega, HS, R1, HG⟩
    case round =>
      obtain ⟨i, j, dk, rfl, rfl, hjd, HK, H2, H3⟩ := hrel
      have hij := HK.out.lt
      have hds := HK.out.size
      have p1 : (0 : Int) ≤ (j : Int) := by omega
      have p2 : (0 : Int) ≤ (i : Int) := by omega
      by_cases hlt : j < d.size
      · have hd : decide ((j : Int) < (d.size : Int)) = true := by simp; omega
        have p3 : (j : Int) < (d.size : Int) := by omega
        have p4 : (i : Int) < (d.size : Int) := by omega
        have hT := (H2.out.at_ (Below.refl _ _) (show j < dk.size by omega)).1
        rw [HK.out.high j (by omega)] at hT
        have HC := Lib.hid fun W => zeroN_any d[j]!.1.1 d[j]!.1.2 d[j]!.2 W
        by_cases hn : d[j]!.2 ≤ 0
        · have HKK := Lib.hid (HK.out.skip (by simp [keepN, hn]))
          have hv : decide (d[j]!.2 ≤ 0) = true := decide_eq_true hn
          rw [hv] at HC
          clear hv hn
          generalize d[j]!.1.1 = a at *
          generalize d[j]!.1.2 = b at *
          generalize d[j]!.2 = n at *
          obtain ⟨c1, c2, c3⟩ := hT
          go_wp2_with fail
          (with_reducible refine (HC.out _).mono ?_)
          rintro e w2 ⟨rfl, hb⟩
          have B2 := Lib.hid (below_boxed (Below.refl _ _) hb (Nat.le_refl _))
          have R2 := Lib.hid (rowAt_kept H2.out B2.out)
          have G2 := Lib.hid (grown_below H3.out B2.out)
          clear hb c1 c2 c3
          go_wp2_with fail
          go_roundw
          case rel => exact ⟨i, j + 1, dk, rfl, by go_num, by omega, HKK, R2, G2⟩
          case measure => simp [intOf]; omega
        · have HKK := Lib.hid (HK.out.keep hlt (by simp [keepN]; omega))
          have hv : decide (d[j]!.2 ≤ 0) = false := decide_eq_false hn
          rw [hv] at HC
          have HE := Lib.hid (show d[j]! = ((d[j]!.1.1, d[j]!.1.2), d[j]!.2) from rfl)
          rw [HE.out] at HKK
          clear hv hn
          have HX := Lib.hid (tbox_new wr d[j]!.1.1 d[j]!.1.2 d[j]!.2)
          generalize d[j]!.1.1 = a at *
          generalize d[j]!.1.2 = b at *
          generalize d[j]!.2 = n at *
          obtain ⟨c1, c2, c3⟩ := hT
          go_wp2_with fail
          (with_reducible refine (HC.out _).mono ?_)
          rintro e w2 ⟨rfl, hb⟩
          have B2 := Lib.hid (below_boxed (Below.refl _ _) hb (Nat.le_refl _))
          have R2 := Lib.hid (rowAt_kept H2.out B2.out)
          have G2 := Lib.hid (grown_below H3.out B2.out)
          have X2 := Lib.hid (tbox_below HX.out hb)
          clear hb c1 c2 c3
          obtain ⟨x1, x2, x3⟩ := tbox_cells X2.out
          obtain ⟨⟨c1, c2, c3⟩, f1, f2, f3⟩ := R2.out.2 i (by omega)
          have R3 := Lib.hid (rowAt_set R2.out (show i < dk.size by omega) ((a, b), n))
          have G3 := Lib.hid (grown_three G2.out (i * 3) (i * 3 + 1) (i * 3 + 2) (.int .i64 a) (.int .i64 b) (.int .i64 n))
          go_wp2_with fail
          go_roundw
          case rel => exact ⟨i + 1, j + 1, _, by go_num, by go_num, by omega, HKK, R3, G3⟩
          case measure => simp [intOf]; omega
      · obtain rfl : j = d.size := by omega
        have hd : decide ((d.size : Int) < (d.size : Int)) = false := by simp
        obtain ⟨vs, hcl⟩ := run_clear_rows H2.out (show i < dk.size by omega) (c - i) 0
        have R3 := Lib.hid (rowAt_front H2.out (show i ≤ dk.size by omega) vs)
        have G3 := Lib.hid (grown_setCells H3.out (i * 3) vs)
        have HF := Lib.hid (kept_front HK.out)
        have hci : ¬ c = i := by omega
        have p5 : (i : Int) ≤ (d.size : Int) := by omega
        rw [hds] at hcl
        go_wp2_with fail
        go_ret
        exact ⟨dk.extract 0 i, by simp; omega, HF.out.trans HA.out, R3.out, G3.out⟩
end Go.Proofs.Ytpmfanglgkohjaa
