/-
  A walk over the library's way to keep one tick of each ID in a list that is in order, in place. No statement is proved in this text; it holds for every input that its premises let by.
-/
import Derived.Test.YtpmfanglgkohjaaWalksC
namespace Go.Proofs.Ytpmfanglgkohjaa
open Go.RowKit Sets Clocks
/-- Is the j-th one the first of its ID? -/
def keepI (d : Array Tick) : Nat → Bool
  | 0 => true
  | j + 1 => !decide (d[j + 1]!.1 = d[j]!.1)
/-- The last ID of a list. -/
def lastI : Option Id2 → List Tick → Option Id2
  | p, [] => p
  | _, s :: l => lastI (some s.1) l
theorem lastI_snoc (t : Tick) : ∀ (l : List Tick) (p : Option Id2), lastI p (l ++ [t]) = some t.1
  | [], _ => rfl
  | s :: l, p => lastI_snoc t l (some s.1)
theorem cpt_snoc (t : Tick) : ∀ (l : List Tick) (p : Option Id2), cpt p (l ++ [t]) = cpt p l ++ (if lastI p l = some t.1 then [] else [t])
  | [], p => by
    by_cases e : p = some t.1 <;> simp [cpt, lastI, e]
  | s :: l, p => by
    rw [List.cons_append, cpt, cpt, lastI]
    by_cases e : p = some s.1
    · rw [if_pos e, if_pos e, cpt_snoc t l p, e]
    · rw [if_neg e, if_neg e, cpt_snoc t l (some s.1), List.cons_append]
theorem keepI_upTo (d : Array Tick) : ∀ m, m ≤ d.size → Go.Lib.keptUpTo (keepI d) d m = cpt none (d.toList.take m)
  | 0, _ => by simp [Go.Lib.keptUpTo, cpt]
  | m + 1, h => by
    have hm : m < d.toList.length := by simp; omega
    have hg : d.toList[m] = d[m]! := by rw [getElem!_pos d m (by omega)]; simp
    rw [Go.Lib.keptUpTo_succ, keepI_upTo d m (by omega), List.take_succ_eq_append_getElem hm, cpt_snoc, hg]
    congr 1
    cases m with
    | zero => simp [keepI, lastI]
    | succ j =>
      have hj : j < d.toList.length := by omega
      have hgj : d.toList[j] = d[j]! := by rw [getElem!_pos d j (by omega)]; simp
      rw [List.take_succ_eq_append_getElem hj, lastI_snoc, hgj, keepI]
      by_cases e : d[j + 1]!.1 = d[j]!.1
      · simp [e]
      · have e2 : ¬ d[j]!.1 = d[j + 1]!.1 := fun h => e h.symm
        simp [e, e2]
theorem keepI_all (d : Array Tick) : Go.Lib.keptUpTo (keepI d) d d.size = cpt none d.toList := by
  rw [keepI_upTo d d.size (Nat.le_refl _), List.take_of_length_le (by simp)]
theorem cpt_short {d : Array Tick} (h : d.size < 2) : cpt none d.toList = d.toList := by
  rw [← keepI_all, Go.Lib.keptUpTo_all (keepI d) d d.size (fun j hj => by
    obtain rfl : j = 0 := by omega
    rfl), Go.Lib.range_map_get]
set_option maxHeartbeats 4000000 in
/-- slices.CompactFunc with said's third closure. -/
theorem compact_any (g c : Nat) (d : Array Tick) (w : World) (h : RowAt w g d) (hc : d.size ≤ c) (hl : d.size ≤ 100000) :
    Calls Try.prog 34 #[.slice (some ⟨g, 0, none⟩) d.size c, .func (.func 35) #[] #[]] w fun e w' => ∃ d' : Array Tick, e = .returned (.slice (some ⟨g, 0, none⟩) d'.size c) ∧ d'.toList = cpt none d.toList ∧ RowAt w' g d' ∧ w.grownBy w' (some g) := by
  have HR := Lib.hid h
  have HA := Lib.hid (keepI_all d)
  clear h
  by_cases h2 : d.size < 2
  · have hd : decide ((d.size : Int) < 2) = true := by simp; omega
    have HF := Lib.hid (cpt_short h2)
    go_enter Try.func34, Try.ntmps34
    go_wp2_with fail
    go_ret
    exact ⟨d, rfl, HF.out.symm, HR.out, World.grownBy.refl _ _⟩
  · have hd0 : decide ((d.size : Int) < 2) = false := by simp; omega
    go_enter Try.func34, Try.ntmps34
    go_wp2_with fail
    go_loopw [5] (fun s5 wr => ∃ k : Nat, s5 = .int .i64 k ∧ 1 ≤ k ∧ k ≤ d.size ∧ Hid (∀ j, j < k → keepI d j = true) ∧ Hid (Below w.heap.size w wr)) (fun s5 _ => d.size - (intOf s5).toNat)
    case atStart => exact ⟨1, rfl, by omega, by omega, Lib.hid fun j hj => by obtain rfl : j = 0 := (by omega); rfl, Lib.hid (Below.refl _ _)⟩
    case round =>
      obtain ⟨k, rfl, hk1, hkl, HT, HW⟩ := hrel
      obtain ⟨q, rfl⟩ : ∃ q, k = q + 1 := ⟨k - 1, by omega⟩
      by_cases hlt : q + 1 < d.size
      · have hd : decide (((q : Int) + 1) < (d.size : Int)) = true := by simp; omega
        have i1 : IntKind.i64.wrap ((q : Int) + 1 - 1) = (q : Int) := by rw [IntWalk.i64_in _ ⟨by omega, by omega⟩]; omega
        have i2 : IntKind.i64.wrap (q : Int) = (q : Int) := IntWalk.i64_in _ ⟨by omega, by omega⟩
        have i3 : (0 : Int) ≤ (q : Int) := by omega
        have i4 : (q : Int) < (d.size : Int) := by omega
        have i5 : (0 : Int) ≤ (q : Int) + 1 := by omega
        have i6 : (q : Int) + 1 < (d.size : Int) := by omega
        have i7 : ((q : Int) + 1).toNat = q + 1 := by omega
        have HS := Lib.hid fun w' (hb : Below w.heap.size w w') => And.intro (HR.out.at_ hb hlt).1 (And.intro (HR.out.at_ hb (show q < d.size by omega)).1 (Lib.hid hb))
        have HC := Lib.hid fun W => sameI_any d[q + 1]!.1.1 d[q + 1]!.1.2 d[q + 1]!.2 d[q]!.1.1 d[q]!.1.2 d[q]!.2 W
        by_cases he : d[q + 1]!.1 = d[q]!.1
        · have hv : decide ((d[q + 1]!.1.1, d[q + 1]!.1.2) = (d[q]!.1.1, d[q]!.1.2)) = true := decide_eq_true he
          rw [hv] at HC
          have HK0 := Lib.hid (Go.Lib.KeptInv.start (kp := keepI d) (d := d) (k0 := q + 1) HT.out (by simp [keepI, he]))
          clear hv he
          generalize d[q + 1]!.1.1 = a1 at *
          generalize d[q + 1]!.1.2 = b1 at *
          generalize d[q + 1]!.2 = n1 at *
          generalize d[q]!.1.1 = a0 at *
          generalize d[q]!.1.2 = b0 at *
          generalize d[q]!.2 = n0 at *
          have hck : ¬ c = q + 1 := by omega
          have hle : ((q : Int) + 1) ≤ (d.size : Int) := by omega
          go_wp2_with fail
          go_region_held3 (fun w' => (w'.cell? ⟨g, (q + 1) * 3, none⟩ = some (.int .i64 a1) ∧ w'.cell? ⟨g, (q + 1) * 3 + 1, none⟩ = some (.int .i64 b1) ∧ w'.cell? ⟨g, (q + 1) * 3 + 2, none⟩ = some (.int .i64 n1)) ∧ (w'.cell? ⟨g, q * 3, none⟩ = some (.int .i64 a0) ∧ w'.cell? ⟨g, q * 3 + 1, none⟩ = some (.int .i64 b0) ∧ w'.cell? ⟨g, q * 3 + 2, none⟩ = some (.int .i64 n0)) ∧ Hid (Below w.heap.size w w'))
            (first | exact HS.out _ HW.out.drew | exact HS.out _ HK.out)
            (first | (go_at_call 35; (with_reducible refine (HC.out _).mono ?_); rintro e w' ⟨rfl, hb⟩; have HK := Lib.hid (below_after (Hid.out (by go_split_ands; assumption)) hb (Nat.le_refl _)); clear hb))
          go_wp2_with fail
          have HB := Lib.hid (Hid.out (by assumption : Hid (Below w.heap.size w w')))
          have R1 := Lib.hid (rowAt_kept HR.out HB.out)
          have G1 := Lib.hid (grown_below (World.grownBy.refl w (some g)) HB.out)
          clear HK HS HC HW HT
          obtain ⟨N, hN⟩ : ∃ N, d.size - (q + 1) = N := ⟨_, rfl⟩
          obtain ⟨O, hO⟩ : ∃ O, (q + 1) * 3 = O := ⟨_, rfl⟩
          rw [hN, hO]
          go_loopw [5, 7] (fun s5 s7 wr => ∃ (k r : Nat) (dk : Array Tick), s5 = .int .i64 k ∧ s7 = .int .i64 ((r : Int) + 1) ∧ r + 1 ≤ N ∧ Hid (Go.Lib.KeptInv (keepI d) d (q + 1 + (r + 1)) k dk) ∧ Hid (RowAt wr g dk) ∧ Hid (w.grownBy wr (some g))) (fun _ s7 _ => N - (intOf s7).toNat)
          case atStart => exact ⟨q + 1, 0, d, by go_num, rfl, by omega, HK0, R1, G1⟩
          case round =>
            obtain ⟨k, r, dk, rfl, rfl, hrN, HK, H2, H3⟩ := hrel
            have hij := HK.out.lt
            have hds := HK.out.size
            have p1 : (0 : Int) ≤ (k : Int) := by omega
            have j1 : IntKind.i64.wrap ((r : Int) + 1 - 1) = (r : Int) := by rw [IntWalk.i64_in _ ⟨by omega, by omega⟩]; omega
            have j2 : IntKind.i64.wrap (r : Int) = (r : Int) := IntWalk.i64_in _ ⟨by omega, by omega⟩
            have j3 : (0 : Int) ≤ (r : Int) := by omega
            have j4 : (r : Int) < (N : Int) := by omega
            have j5 : (0 : Int) ≤ (r : Int) + 1 := by omega
            have j7 : ((r : Int) + 1).toNat = r + 1 := by omega
            by_cases hlr : r + 1 < N
            · have hdr : decide (((r : Int) + 1) < (N : Int)) = true := by simp; omega
              have j6 : (r : Int) + 1 < (N : Int) := by omega
              have e1 : (q + 1 + (r + 1)) * 3 = O + (r + 1) * 3 := by omega
              have e0 : (q + 1 + r) * 3 = O + r * 3 := by omega
              have HS := Lib.hid fun w' (hb : Below wr.heap.size wr w') => And.intro (H2.out.at_ hb (show q + 1 + (r + 1) < dk.size by omega)).1 (And.intro (H2.out.at_ hb (show q + 1 + r < dk.size by omega)).1 (Lib.hid hb))
              rw [HK.out.high (q + 1 + (r + 1)) (by omega), HK.out.high (q + 1 + r) (by omega), e1, e0] at HS
              have HC := Lib.hid fun W => sameI_any d[q + 1 + (r + 1)]!.1.1 d[q + 1 + (r + 1)]!.1.2 d[q + 1 + (r + 1)]!.2 d[q + 1 + r]!.1.1 d[q + 1 + r]!.1.2 d[q + 1 + r]!.2 W
              by_cases he : d[q + 1 + (r + 1)]!.1 = d[q + 1 + r]!.1
              · have hv : decide ((d[q + 1 + (r + 1)]!.1.1, d[q + 1 + (r + 1)]!.1.2) = (d[q + 1 + r]!.1.1, d[q + 1 + r]!.1.2)) = true := decide_eq_true he
                rw [hv] at HC
                have HKK := Lib.hid (HK.out.skip (show (!decide (d[q + 1 + (r + 1)]!.1 = d[q + 1 + r]!.1)) = false by rw [decide_eq_true he]; rfl))
                clear hv he
                generalize d[q + 1 + (r + 1)]!.1.1 = a3 at *
                generalize d[q + 1 + (r + 1)]!.1.2 = b3 at *
                generalize d[q + 1 + (r + 1)]!.2 = n3 at *
                generalize d[q + 1 + r]!.1.1 = a2 at *
                generalize d[q + 1 + r]!.1.2 = b2 at *
                generalize d[q + 1 + r]!.2 = n2 at *
                clear e1 e0
                go_wp2_with fail
                go_region_held3 (fun w' => (w'.cell? ⟨g, O + (r + 1) * 3, none⟩ = some (.int .i64 a3) ∧ w'.cell? ⟨g, O + (r + 1) * 3 + 1, none⟩ = some (.int .i64 b3) ∧ w'.cell? ⟨g, O + (r + 1) * 3 + 2, none⟩ = some (.int .i64 n3)) ∧ (w'.cell? ⟨g, O + r * 3, none⟩ = some (.int .i64 a2) ∧ w'.cell? ⟨g, O + r * 3 + 1, none⟩ = some (.int .i64 b2) ∧ w'.cell? ⟨g, O + r * 3 + 2, none⟩ = some (.int .i64 n2)) ∧ Hid (Below wr.heap.size wr w'))
                  (first | exact HS.out _ (Below.refl _ _).drew | exact HS.out _ HJ.out)
                  (first | (go_at_call 35; (with_reducible refine (HC.out _).mono ?_); rintro e w' ⟨rfl, hb⟩; have HJ := Lib.hid (below_after (Hid.out (by go_split_ands; assumption)) hb (Nat.le_refl _)); clear hb))
                have R2 := Lib.hid (rowAt_kept H2.out HJ.out)
                have G2 := Lib.hid (grown_below H3.out HJ.out)
                go_wp2_with fail
                go_roundw
                case rel => exact ⟨k, r + 1, dk, rfl, by go_num, by omega, HKK, R2, G2⟩
                case measure => simp [intOf]; omega
              · have hv : decide ((d[q + 1 + (r + 1)]!.1.1, d[q + 1 + (r + 1)]!.1.2) = (d[q + 1 + r]!.1.1, d[q + 1 + r]!.1.2)) = false := decide_eq_false he
                rw [hv] at HC
                have HKK := Lib.hid (HK.out.keep (show q + 1 + (r + 1) < d.size by omega) (show (!decide (d[q + 1 + (r + 1)]!.1 = d[q + 1 + r]!.1)) = true by rw [decide_eq_false he]; rfl))
                have HE := Lib.hid (show d[q + 1 + (r + 1)]! = ((d[q + 1 + (r + 1)]!.1.1, d[q + 1 + (r + 1)]!.1.2), d[q + 1 + (r + 1)]!.2) from rfl)
                rw [HE.out] at HKK
                clear hv he
                generalize d[q + 1 + (r + 1)]!.1.1 = a3 at *
                generalize d[q + 1 + (r + 1)]!.1.2 = b3 at *
                generalize d[q + 1 + (r + 1)]!.2 = n3 at *
                generalize d[q + 1 + r]!.1.1 = a2 at *
                generalize d[q + 1 + r]!.1.2 = b2 at *
                generalize d[q + 1 + r]!.2 = n2 at *
                clear e1 e0
                have p4 : (k : Int) < (d.size : Int) := by omega
                go_wp2_with fail
                go_region_held3 (fun w' => (w'.cell? ⟨g, O + (r + 1) * 3, none⟩ = some (.int .i64 a3) ∧ w'.cell? ⟨g, O + (r + 1) * 3 + 1, none⟩ = some (.int .i64 b3) ∧ w'.cell? ⟨g, O + (r + 1) * 3 + 2, none⟩ = some (.int .i64 n3)) ∧ (w'.cell? ⟨g, O + r * 3, none⟩ = some (.int .i64 a2) ∧ w'.cell? ⟨g, O + r * 3 + 1, none⟩ = some (.int .i64 b2) ∧ w'.cell? ⟨g, O + r * 3 + 2, none⟩ = some (.int .i64 n2)) ∧ Hid (Below wr.heap.size wr w'))
                  (first | exact HS.out _ (Below.refl _ _).drew | exact HS.out _ HJ.out)
                  (first | (go_at_call 35; (with_reducible refine (HC.out _).mono ?_); rintro e w' ⟨rfl, hb⟩; have HJ := Lib.hid (below_after (Hid.out (by go_split_ands; assumption)) hb (Nat.le_refl _)); clear hb))
                have R2 := Lib.hid (rowAt_kept H2.out HJ.out)
                have G2 := Lib.hid (grown_below H3.out HJ.out)
                obtain ⟨⟨c1, c2, c3⟩, f1, f2, f3⟩ := R2.out.2 k (by omega)
                have R3 := Lib.hid (rowAt_set R2.out (show k < dk.size by omega) ((a3, b3), n3))
                have G3 := Lib.hid (grown_three G2.out (k * 3) (k * 3 + 1) (k * 3 + 2) (.int .i64 a3) (.int .i64 b3) (.int .i64 n3))
                obtain ⟨x1, x2, x3⟩ := (HS.out _ HJ.out).1
                go_wp2_with fail
                go_roundw
                case rel => exact ⟨k + 1, r + 1, _, by go_num, by go_num, by omega, HKK, R3, G3⟩
                case measure => simp [intOf]; omega
            · have hdr : decide (((r : Int) + 1) < (N : Int)) = false := by simp; omega
              have hm : q + 1 + (r + 1) = d.size := by omega
              rw [hm] at HK hij
              obtain ⟨vs, hcl⟩ := run_clear_rows H2.out (show k < dk.size by omega) (c - k) 0
              have R3 := Lib.hid (rowAt_front H2.out (show k ≤ dk.size by omega) vs)
              have G3 := Lib.hid (grown_setCells H3.out (k * 3) vs)
              have HF := Lib.hid (kept_front HK.out)
              have hci : ¬ c = k := by omega
              have p5 : (k : Int) ≤ (d.size : Int) := by omega
              rw [hds] at hcl
              go_wp2_with fail
              go_ret
              exact ⟨dk.extract 0 k, by simp; omega, HF.out.trans HA.out, R3.out, G3.out⟩
        · have hv : decide ((d[q + 1]!.1.1, d[q + 1]!.1.2) = (d[q]!.1.1, d[q]!.1.2)) = false := decide_eq_false he
          rw [hv] at HC
          have HF := Lib.hid (show ∀ j, j < q + 1 + 1 → keepI d j = true from fun j hj => by
            by_cases e : j = q + 1
            · subst e
              simp [keepI, he]
            · exact HT.out j (by omega))
          clear hv he
          generalize d[q + 1]!.1.1 = a1 at *
          generalize d[q + 1]!.1.2 = b1 at *
          generalize d[q + 1]!.2 = n1 at *
          generalize d[q]!.1.1 = a0 at *
          generalize d[q]!.1.2 = b0 at *
          generalize d[q]!.2 = n0 at *
          go_wp2_with fail
          go_region_held3 (fun w' => (w'.cell? ⟨g, (q + 1) * 3, none⟩ = some (.int .i64 a1) ∧ w'.cell? ⟨g, (q + 1) * 3 + 1, none⟩ = some (.int .i64 b1) ∧ w'.cell? ⟨g, (q + 1) * 3 + 2, none⟩ = some (.int .i64 n1)) ∧ (w'.cell? ⟨g, q * 3, none⟩ = some (.int .i64 a0) ∧ w'.cell? ⟨g, q * 3 + 1, none⟩ = some (.int .i64 b0) ∧ w'.cell? ⟨g, q * 3 + 2, none⟩ = some (.int .i64 n0)) ∧ Hid (Below w.heap.size w w'))
            (first | exact HS.out _ HW.out.drew | exact HS.out _ HK.out)
            (first | (go_at_call 35; (with_reducible refine (HC.out _).mono ?_); rintro e w' ⟨rfl, hb⟩; have HK := Lib.hid (below_after (Hid.out (by go_split_ands; assumption)) hb (Nat.le_refl _)); clear hb))
          go_wp2_with fail
          go_roundw
          case rel => exact ⟨q + 1 + 1, by go_num, by omega, by omega, HF, Hid.out (by assumption)⟩
          case measure => simp [intOf]; omega
      · have hd : decide (((q : Int) + 1) < (d.size : Int)) = false := by simp; omega
        have HF := Lib.hid (show d.toList = cpt none d.toList by
          rw [← HA.out, Go.Lib.keptUpTo_all (keepI d) d d.size (fun j hj => HT.out j (by omega)), Go.Lib.range_map_get])
        go_wp2_with fail
        go_ret
        exact ⟨d, rfl, HF.out, rowAt_kept HR.out HW.out, grown_below (World.grownBy.refl _ _) HW.out⟩
end Go.Proofs.Ytpmfanglgkohjaa
