/-
  Contracts and plain facts.
-/
import Derived.Test.YthkkipbmlafdiaaGreatOy
import Derived.Lib.SlKept
import Derived.BigRegion
import Derived.Test.YthkkipbmlafdiaaGreatB02
import Derived.Test.YthkkipbmlafdiaaGreatB13
import Derived.Test.YthkkipbmlafdiaaGreatB21
set_option maxRecDepth 20000
namespace Go.Proofs.YthkkipbmlafdiaaGreat
section
open Go.RowKit Sets Clocks
theorem RowAt.at_ {w w' : World} {g : Nat} {d : Array Tick} (h : RowAt w g d) (hb : Below w.heap.size w w') {k : Nat} (hk : k < d.size) :
  (w'.cell? ⟨g, k * 3, none⟩ = some (.int .i64 d[k]!.1.1) ∧ w'.cell? ⟨g, k * 3 + 1, none⟩ = some (.int .i64 d[k]!.1.2) ∧ w'.cell? ⟨g, k * 3 + 2, none⟩ = some (.int .i64 d[k]!.2)) ∧
  (w'.frozen? ⟨g, k * 3, none⟩ = false ∧ w'.frozen? ⟨g, k * 3 + 1, none⟩ = false ∧ w'.frozen? ⟨g, k * 3 + 2, none⟩ = false) := (rowAt_kept h hb).2 k hk
def keepNCLK (d : Array Tick) (j : Nat) : Bool := !decide (d[j]!.2 ≤ 0)
theorem keepN_all (d : Array Tick) : Go.Lib.keptUpTo (keepNCLK d) d d.size = d.toList.filter fun t => !decide (t.2 ≤ 0) := Go.Lib.keptUpTo_filter (fun t : Tick => !decide (t.2 ≤ 0)) d
theorem kept_frontCLK {kp : Nat → Bool} {d dk : Array Tick} {k : Nat} (h : Go.Lib.KeptInv kp d d.size k dk) : (dk.extract 0 k).toList = Go.Lib.keptUpTo kp d d.size := by
 have hk := h.lt;have hs := h.size;apply List.ext_getElem?
 intro j;by_cases c : j < k
 ·rw [h.low j c]
  have h1 : j < (dk.extract 0 k).size := by simp; omega
  rw [Array.getElem?_toList, Array.getElem?_eq_getElem h1, getElem!_pos dk j (by omega)]
  simp
 ·rw [List.getElem?_eq_none (by simp; omega), List.getElem?_eq_none (by rw [h.len]; omega)]
set_option maxHeartbeats 4000000 in
theorem delete_any (g c : Nat) (d : Array Tick) (w : World) (h : RowAt w g d) (hc : d.size ≤ c) (hl : d.size ≤ 100000) (h0 : 0 < d.size) :
  Calls Tryz.prog 176 #[.slice (some ⟨g, 0, none⟩) d.size c, .func (.func 178) #[] #[]] w fun e w' => ∃ d' : Array Tick, e = .returned (.slice (some ⟨g, 0, none⟩) d'.size c) ∧ (d'.toList = d.toList.filter fun t => !decide (t.2 ≤ 0)) ∧ RowAt w' g d' ∧ w.grownBy w' (some g) := by
 have HR := hd_ h;have HI := hd_ (rowAt_rcs h hc);have HA := hd_ (keepN_all d);clear h;go_enter Tryz.func176, Tryz.ntmps176
 go_wp2_with fail;(with_reducible refine (index_anyCLK _ d _ HI.out hl).mono ?_)
 rintro e w1 ⟨⟨r, rfl, hf⟩, hb⟩;have HB := hd_ hb;have R1 := hd_ (rowAt_kept HR.out hb);clear hb;rcases hf with ⟨rfl, hall⟩ | ⟨k0, rfl, hk0, hz, hbef⟩
 ·have HF := hd_ (show d.toList = d.toList.filter fun t => !decide (t.2 ≤ 0) by
   rw [← HA.out, Go.Lib.keptUpTo_all (keepNCLK d) d d.size (fun j hj => by have := hall j hj; simp [keepNCLK]; omega), Go.Lib.range_map_get])
  clear hall;go_wp2_with fail;go_ret;exact ⟨d, rfl, HF.out, R1.out, am_ (World.grownBy.refl _ _) HB.out⟩
 ·have hne1 : ((k0 : Int) == -1) = false := beq_eq_false_iff_ne.2 (by omega)
  have HS := hd_ (Go.Lib.KeptInv.start (kp := keepNCLK d) (d := d) (k0 := k0) (fun j hj => by have := hbef j hj; simp [keepNCLK]; omega) (by simp [keepNCLK]; omega))
  have HG := hd_ (show w.grownBy w1 (some g) from am_ (World.grownBy.refl _ _) HB.out)
  have i0 : IntKind.i64.wrap ((k0 : Int) + 1) = (k0 : Int) + 1 := IntWalk.i64_in _ ⟨by omega, by omega⟩
  clear hbef hz;go_wp2_with fail;go_loopw [5, 6] (fun s5 s6 wr => ∃ (i j : Nat) (dk : Array Tick), s5 = .int .i64 i ∧ s6 = .int .i64 j ∧ j ≤ d.size ∧ Hid (Go.Lib.KeptInv (keepNCLK d) d j i dk) ∧ Hid (RowAt wr g dk) ∧ Hid (w.grownBy wr (some g))) (fun _ s6 _ => d.size - (intOf s6).toNat)
  case atStart => exact ⟨k0, k0 + 1, d, rfl, by go_num, by omega, HS, R1, HG⟩
  case round =>
   obtain ⟨i, j, dk, rfl, rfl, hjd, HK, H2, H3⟩ := hrel;have hij := HK.out.lt;have hds := HK.out.size;have p1 : (0 : Int) ≤ (j : Int) := by omega
   have p2 : (0 : Int) ≤ (i : Int) := by omega
   by_cases hlt : j < d.size
   ·have hd : decide ((j : Int) < (d.size : Int)) = true := by simp; omega
    have p3 : (j : Int) < (d.size : Int) := by omega
    have p4 : (i : Int) < (d.size : Int) := by omega
    have hT := (H2.out.at_ (Below.refl _ _) (show j < dk.size by omega)).1
    rw [HK.out.high j (by omega)] at hT
    have HC := hd_ fun W => zeroN_any d[j]!.1.1 d[j]!.1.2 d[j]!.2 W
    by_cases hn : d[j]!.2 ≤ 0
    ·have HKK := hd_ (HK.out.skip (by simp [keepNCLK, hn]))
     have hv : decide (d[j]!.2 ≤ 0) = true := decide_eq_true hn
     rw [hv] at HC;clear hv hn;generalize d[j]!.1.1 = a at *;generalize d[j]!.1.2 = b at *;generalize d[j]!.2 = n at *;obtain ⟨c1, c2, c3⟩ := hT;go_wp2_with fail;(with_reducible refine (HC.out _).mono ?_)
     rintro e w2 ⟨rfl, hb⟩;have B2 := hd_ (below_boxed (Below.refl _ _) hb (Nat.le_refl _));have R2 := hd_ (rowAt_kept H2.out B2.out);have G2 := hd_ (am_ H3.out B2.out);clear hb c1 c2 c3;go_wp2_with fail;go_roundw
     case rel => exact ⟨i, j + 1, dk, rfl, by go_num, by omega, HKK, R2, G2⟩
     case measure => simp [intOf]; omega
    ·have HKK := hd_ (HK.out.keep hlt (by simp [keepNCLK]; omega))
     have hv : decide (d[j]!.2 ≤ 0) = false := decide_eq_false hn
     rw [hv] at HC;have HE := hd_ (show d[j]! = ((d[j]!.1.1, d[j]!.1.2), d[j]!.2) from rfl)
     rw [HE.out] at HKK;clear hv hn;have HX := hd_ (tbox_new wr d[j]!.1.1 d[j]!.1.2 d[j]!.2);generalize d[j]!.1.1 = a at *;generalize d[j]!.1.2 = b at *;generalize d[j]!.2 = n at *;obtain ⟨c1, c2, c3⟩ := hT;go_wp2_with fail;(with_reducible refine (HC.out _).mono ?_)
     rintro e w2 ⟨rfl, hb⟩;have B2 := hd_ (below_boxed (Below.refl _ _) hb (Nat.le_refl _));have R2 := hd_ (rowAt_kept H2.out B2.out);have G2 := hd_ (am_ H3.out B2.out);have X2 := hd_ (tbox_below HX.out hb);clear hb c1 c2 c3;obtain ⟨x1, x2, x3⟩ := tbox_cells X2.out;obtain ⟨⟨c1, c2, c3⟩, f1, f2, f3⟩ := R2.out.2 i (by omega)
     have R3 := hd_ (rowAt_set R2.out (show i < dk.size by omega) ((a, b), n))
     have G3 := hd_ (grown_three G2.out (i * 3) (i * 3 + 1) (i * 3 + 2) (.int .i64 a) (.int .i64 b) (.int .i64 n));go_wp2_with fail;go_roundw
     case rel => exact ⟨i + 1, j + 1, _, by go_num, by go_num, by omega, HKK, R3, G3⟩
     case measure => simp [intOf]; omega
   ·obtain rfl : j = d.size := by omega
    have hd : decide ((d.size : Int) < (d.size : Int)) = false := by simp
    obtain ⟨vs, hcl⟩ := run_clear_rows H2.out (show i < dk.size by omega) (c - i) 0
    have R3 := hd_ (rowAt_front H2.out (show i ≤ dk.size by omega) vs)
    have G3 := hd_ (grown_setCells H3.out (i * 3) vs);have HF := hd_ (kept_frontCLK HK.out);have hci : ¬ c = i := by omega
    have p5 : (i : Int) ≤ (d.size : Int) := by omega
    rw [hds] at hcl;go_wp2_with fail;go_ret;exact ⟨dk.extract 0 i, by simp; omega, HF.out.trans HA.out, R3.out, G3.out⟩
end
section
open Go.RowKit Sets Clocks
def keepI (d : Array Tick) : Nat → Bool
 | 0 => true
 | j + 1 => !decide (d[j + 1]!.1 = d[j]!.1)
def lastI : Option Id2 → List Tick → Option Id2
 | p, [] => p
 | _, s :: l => lastI (some s.1) l
theorem lastI_snoc (t : Tick) : ∀ (l : List Tick) (p : Option Id2), lastI p (l ++ [t]) = some t.1
 | [], _ => rfl
 | s :: l, _ => lastI_snoc t l (some s.1)
theorem cpt_snoc (t : Tick) : ∀ (l : List Tick) (p : Option Id2), cpt p (l ++ [t]) = cpt p l ++ (if lastI p l = some t.1 then [] else [t])
 | [], p => by
  by_cases e : p = some t.1 <;> simp [cpt, lastI, e]
 | s :: l, p => by
  rw [List.cons_append, cpt, cpt, lastI];by_cases e : p = some s.1
  ·rw [if_pos e, if_pos e, cpt_snoc t l p, e]
  ·rw [if_neg e, if_neg e, cpt_snoc t l (some s.1), List.cons_append]
theorem keepI_upTo (d : Array Tick) : ∀ m, m ≤ d.size → Go.Lib.keptUpTo (keepI d) d m = cpt none (d.toList.take m)
 | 0, _ => by simp [Go.Lib.keptUpTo, cpt]
 | m + 1, h => by
  have hm : m < d.toList.length := by simp; omega
  have hg : d.toList[m] = d[m]! := by rw [getElem!_pos d m (by omega)]; simp
  rw [Go.Lib.keptUpTo_succ, keepI_upTo d m (by omega), List.take_succ_eq_append_getElem hm, cpt_snoc, hg]
  congr 1
  cases m with
  | zero => simp [keepI, lastI]
  | succ j =>
   have hj : j < d.toList.length := by omega
   have hgj : d.toList[j] = d[j]! := by rw [getElem!_pos d j (by omega)]; simp
   rw [List.take_succ_eq_append_getElem hj, lastI_snoc, hgj, keepI];by_cases e : d[j + 1]!.1 = d[j]!.1
   ·simp [e]
   ·have e2 : ¬ d[j]!.1 = d[j + 1]!.1 := fun h => e h.symm
    simp [e, e2]
theorem keepI_all (d : Array Tick) : Go.Lib.keptUpTo (keepI d) d d.size = cpt none d.toList := by
 rw [keepI_upTo d d.size (Nat.le_refl _), List.take_of_length_le (by simp)]
theorem cpt_short {d : Array Tick} (h : d.size < 2) : cpt none d.toList = d.toList := by
 rw [← keepI_all, Go.Lib.keptUpTo_all (keepI d) d d.size (fun j hj => by
  obtain rfl : j = 0 := by omega
  rfl), Go.Lib.range_map_get]
set_option maxHeartbeats 4000000 in
theorem compact_any (g c : Nat) (d : Array Tick) (w : World) (h : RowAt w g d) (hc : d.size ≤ c) (hl : d.size ≤ 100000) :
  Calls Tryz.prog 183 #[.slice (some ⟨g, 0, none⟩) d.size c, .func (.func 184) #[] #[]] w fun e w' => ∃ d' : Array Tick, e = .returned (.slice (some ⟨g, 0, none⟩) d'.size c) ∧ d'.toList = cpt none d.toList ∧ RowAt w' g d' ∧ w.grownBy w' (some g) := by
 have HR := hd_ h;have HA := hd_ (keepI_all d);clear h;by_cases h2 : d.size < 2
 ·have hd : decide ((d.size : Int) < 2) = true := by simp; omega
  have HF := hd_ (cpt_short h2);go_enter Tryz.func183, Tryz.ntmps183
  go_wp2_with fail;go_ret;exact ⟨d, rfl, HF.out.symm, HR.out, World.grownBy.refl _ _⟩
 ·have hd0 : decide ((d.size : Int) < 2) = false := by simp; omega
  go_enter Tryz.func183, Tryz.ntmps183
  go_wp2_with fail;go_loopw [5] (fun s5 wr => ∃ k : Nat, s5 = .int .i64 k ∧ 1 ≤ k ∧ k ≤ d.size ∧ Hid (∀ j, j < k → keepI d j = true) ∧ Hid (Below w.heap.size w wr)) (fun s5 _ => d.size - (intOf s5).toNat)
  case atStart => exact ⟨1, rfl, by omega, by omega, hd_ fun j hj => by obtain rfl : j = 0 := (by omega); rfl, hd_ (Below.refl _ _)⟩
  case round =>
   obtain ⟨k, rfl, hk1, hkl, HT, HW⟩ := hrel;obtain ⟨q, rfl⟩ : ∃ q, k = q + 1 := ⟨k - 1, by omega⟩
   by_cases hlt : q + 1 < d.size
   ·have hd : decide (((q : Int) + 1) < (d.size : Int)) = true := by simp; omega
    have i1 : IntKind.i64.wrap ((q : Int) + 1 - 1) = (q : Int) := by rw [IntWalk.i64_in _ ⟨by omega, by omega⟩]; omega
    have i2 : IntKind.i64.wrap (q : Int) = (q : Int) := IntWalk.i64_in _ ⟨by omega, by omega⟩
    have i3 : (0 : Int) ≤ (q : Int) := by omega
    have i4 : (q : Int) < (d.size : Int) := by omega
    have i5 : (0 : Int) ≤ (q : Int) + 1 := by omega
    have i6 : (q : Int) + 1 < (d.size : Int) := by omega
    have i7 : ((q : Int) + 1).toNat = q + 1 := by omega
    have HS := hd_ fun w' (hb : Below w.heap.size w w') => And.intro (HR.out.at_ hb hlt).1 (And.intro (HR.out.at_ hb (show q < d.size by omega)).1 (hd_ hb))
    have HC := hd_ fun W => sameI_anyCLK d[q + 1]!.1.1 d[q + 1]!.1.2 d[q + 1]!.2 d[q]!.1.1 d[q]!.1.2 d[q]!.2 W
    by_cases he : d[q + 1]!.1 = d[q]!.1
    ·have hv : decide ((d[q + 1]!.1.1, d[q + 1]!.1.2) = (d[q]!.1.1, d[q]!.1.2)) = true := decide_eq_true he
     rw [hv] at HC;have HK0 := hd_ (Go.Lib.KeptInv.start (kp := keepI d) (d := d) (k0 := q + 1) HT.out (by simp [keepI, he]))
     clear hv he;generalize d[q + 1]!.1.1 = a1 at *;generalize d[q + 1]!.1.2 = b1 at *;generalize d[q + 1]!.2 = n1 at *;generalize d[q]!.1.1 = a0 at *;generalize d[q]!.1.2 = b0 at *;generalize d[q]!.2 = n0 at *;have hck : ¬ c = q + 1 := by omega
     have hle : ((q : Int) + 1) ≤ (d.size : Int) := by omega
     go_wp2_with fail
     go_region_held3 (fun w' => (w'.cell? ⟨g, (q + 1) * 3, none⟩ = some (.int .i64 a1) ∧ w'.cell? ⟨g, (q + 1) * 3 + 1, none⟩ = some (.int .i64 b1) ∧ w'.cell? ⟨g, (q + 1) * 3 + 2, none⟩ = some (.int .i64 n1)) ∧ (w'.cell? ⟨g, q * 3, none⟩ = some (.int .i64 a0) ∧ w'.cell? ⟨g, q * 3 + 1, none⟩ = some (.int .i64 b0) ∧ w'.cell? ⟨g, q * 3 + 2, none⟩ = some (.int .i64 n0)) ∧ Hid (Below w.heap.size w w'))
      (first | exact HS.out _ HW.out.drew | exact HS.out _ HK.out)
      (first | (go_at_call 184; (with_reducible refine (HC.out _).mono ?_); rintro e w' ⟨rfl, hb⟩; have HK := hd_ (ah_ (Hid.out (by go_split_ands; assumption)) hb (Nat.le_refl _)); clear hb))
     go_wp2_with fail;have HB := hd_ (Hid.out (by assumption : Hid (Below w.heap.size w w')))
     have R1 := hd_ (rowAt_kept HR.out HB.out);have G1 := hd_ (am_ (World.grownBy.refl w (some g)) HB.out);clear HK HS HC HW HT;obtain ⟨N, hN⟩ : ∃ N, d.size - (q + 1) = N := ⟨_, rfl⟩;obtain ⟨O, hO⟩ : ∃ O, (q + 1) * 3 = O := ⟨_, rfl⟩;rw [hN, hO];go_loopw [5, 7] (fun s5 s7 wr => ∃ (k r : Nat) (dk : Array Tick), s5 = .int .i64 k ∧ s7 = .int .i64 ((r : Int) + 1) ∧ r + 1 ≤ N ∧ Hid (Go.Lib.KeptInv (keepI d) d (q + 1 + (r + 1)) k dk) ∧ Hid (RowAt wr g dk) ∧ Hid (w.grownBy wr (some g))) (fun _ s7 _ => N - (intOf s7).toNat)
     case atStart => exact ⟨q + 1, 0, d, by go_num, rfl, by omega, HK0, R1, G1⟩
     case round =>
      obtain ⟨k, r, dk, rfl, rfl, hrN, HK, H2, H3⟩ := hrel;have hij := HK.out.lt;have hds := HK.out.size;have p1 : (0 : Int) ≤ (k : Int) := by omega
      have j1 : IntKind.i64.wrap ((r : Int) + 1 - 1) = (r : Int) := by rw [IntWalk.i64_in _ ⟨by omega, by omega⟩]; omega
      have j2 : IntKind.i64.wrap (r : Int) = (r : Int) := IntWalk.i64_in _ ⟨by omega, by omega⟩
      have j3 : (0 : Int) ≤ (r : Int) := by omega
      have j4 : (r : Int) < (N : Int) := by omega
      have j5 : (0 : Int) ≤ (r : Int) + 1 := by omega
      have j7 : ((r : Int) + 1).toNat = r + 1 := by omega
      by_cases hlr : r + 1 < N
      ·have hdr : decide (((r : Int) + 1) < (N : Int)) = true := by simp; omega
       have j6 : (r : Int) + 1 < (N : Int) := by omega
       have e1 : (q + 1 + (r + 1)) * 3 = O + (r + 1) * 3 := by omega
       have e0 : (q + 1 + r) * 3 = O + r * 3 := by omega
       have HS := hd_ fun w' (hb : Below wr.heap.size wr w') => And.intro (H2.out.at_ hb (show q + 1 + (r + 1) < dk.size by omega)).1 (And.intro (H2.out.at_ hb (show q + 1 + r < dk.size by omega)).1 (hd_ hb))
       rw [HK.out.high (q + 1 + (r + 1)) (by omega), HK.out.high (q + 1 + r) (by omega), e1, e0] at HS
       have HC := hd_ fun W => sameI_anyCLK d[q + 1 + (r + 1)]!.1.1 d[q + 1 + (r + 1)]!.1.2 d[q + 1 + (r + 1)]!.2 d[q + 1 + r]!.1.1 d[q + 1 + r]!.1.2 d[q + 1 + r]!.2 W
       by_cases he : d[q + 1 + (r + 1)]!.1 = d[q + 1 + r]!.1
       ·have hv : decide ((d[q + 1 + (r + 1)]!.1.1, d[q + 1 + (r + 1)]!.1.2) = (d[q + 1 + r]!.1.1, d[q + 1 + r]!.1.2)) = true := decide_eq_true he
        rw [hv] at HC;have HKK := hd_ (HK.out.skip (show (!decide (d[q + 1 + (r + 1)]!.1 = d[q + 1 + r]!.1)) = false by rw [decide_eq_true he]; rfl))
        clear hv he;generalize d[q + 1 + (r + 1)]!.1.1 = a3 at *;generalize d[q + 1 + (r + 1)]!.1.2 = b3 at *;generalize d[q + 1 + (r + 1)]!.2 = n3 at *;generalize d[q + 1 + r]!.1.1 = a2 at *;generalize d[q + 1 + r]!.1.2 = b2 at *;generalize d[q + 1 + r]!.2 = n2 at *;clear e1 e0;go_wp2_with fail
        go_region_held3 (fun w' => (w'.cell? ⟨g, O + (r + 1) * 3, none⟩ = some (.int .i64 a3) ∧ w'.cell? ⟨g, O + (r + 1) * 3 + 1, none⟩ = some (.int .i64 b3) ∧ w'.cell? ⟨g, O + (r + 1) * 3 + 2, none⟩ = some (.int .i64 n3)) ∧ (w'.cell? ⟨g, O + r * 3, none⟩ = some (.int .i64 a2) ∧ w'.cell? ⟨g, O + r * 3 + 1, none⟩ = some (.int .i64 b2) ∧ w'.cell? ⟨g, O + r * 3 + 2, none⟩ = some (.int .i64 n2)) ∧ Hid (Below wr.heap.size wr w'))
         (first | exact HS.out _ (Below.refl _ _).drew | exact HS.out _ HJ.out)
         (first | (go_at_call 184; (with_reducible refine (HC.out _).mono ?_); rintro e w' ⟨rfl, hb⟩; have HJ := hd_ (ah_ (Hid.out (by go_split_ands; assumption)) hb (Nat.le_refl _)); clear hb))
        have R2 := hd_ (rowAt_kept H2.out HJ.out);have G2 := hd_ (am_ H3.out HJ.out);go_wp2_with fail;go_roundw
        case rel => exact ⟨k, r + 1, dk, rfl, by go_num, by omega, HKK, R2, G2⟩
        case measure => simp [intOf]; omega
       ·have hv : decide ((d[q + 1 + (r + 1)]!.1.1, d[q + 1 + (r + 1)]!.1.2) = (d[q + 1 + r]!.1.1, d[q + 1 + r]!.1.2)) = false := decide_eq_false he
        rw [hv] at HC;have HKK := hd_ (HK.out.keep (show q + 1 + (r + 1) < d.size by omega) (show (!decide (d[q + 1 + (r + 1)]!.1 = d[q + 1 + r]!.1)) = true by rw [decide_eq_false he]; rfl))
        have HE := hd_ (show d[q + 1 + (r + 1)]! = ((d[q + 1 + (r + 1)]!.1.1, d[q + 1 + (r + 1)]!.1.2), d[q + 1 + (r + 1)]!.2) from rfl)
        rw [HE.out] at HKK;clear hv he;generalize d[q + 1 + (r + 1)]!.1.1 = a3 at *;generalize d[q + 1 + (r + 1)]!.1.2 = b3 at *;generalize d[q + 1 + (r + 1)]!.2 = n3 at *;generalize d[q + 1 + r]!.1.1 = a2 at *;generalize d[q + 1 + r]!.1.2 = b2 at *;generalize d[q + 1 + r]!.2 = n2 at *;clear e1 e0;have p4 : (k : Int) < (d.size : Int) := by omega
        go_wp2_with fail
        go_region_held3 (fun w' => (w'.cell? ⟨g, O + (r + 1) * 3, none⟩ = some (.int .i64 a3) ∧ w'.cell? ⟨g, O + (r + 1) * 3 + 1, none⟩ = some (.int .i64 b3) ∧ w'.cell? ⟨g, O + (r + 1) * 3 + 2, none⟩ = some (.int .i64 n3)) ∧ (w'.cell? ⟨g, O + r * 3, none⟩ = some (.int .i64 a2) ∧ w'.cell? ⟨g, O + r * 3 + 1, none⟩ = some (.int .i64 b2) ∧ w'.cell? ⟨g, O + r * 3 + 2, none⟩ = some (.int .i64 n2)) ∧ Hid (Below wr.heap.size wr w'))
         (first | exact HS.out _ (Below.refl _ _).drew | exact HS.out _ HJ.out)
         (first | (go_at_call 184; (with_reducible refine (HC.out _).mono ?_); rintro e w' ⟨rfl, hb⟩; have HJ := hd_ (ah_ (Hid.out (by go_split_ands; assumption)) hb (Nat.le_refl _)); clear hb))
        have R2 := hd_ (rowAt_kept H2.out HJ.out);have G2 := hd_ (am_ H3.out HJ.out);obtain ⟨⟨c1, c2, c3⟩, f1, f2, f3⟩ := R2.out.2 k (by omega)
        have R3 := hd_ (rowAt_set R2.out (show k < dk.size by omega) ((a3, b3), n3))
        have G3 := hd_ (grown_three G2.out (k * 3) (k * 3 + 1) (k * 3 + 2) (.int .i64 a3) (.int .i64 b3) (.int .i64 n3));obtain ⟨x1, x2, x3⟩ := (HS.out _ HJ.out).1;go_wp2_with fail;go_roundw
        case rel => exact ⟨k + 1, r + 1, _, by go_num, by go_num, by omega, HKK, R3, G3⟩
        case measure => simp [intOf]; omega
      ·have hdr : decide (((r : Int) + 1) < (N : Int)) = false := by simp; omega
       have hm : q + 1 + (r + 1) = d.size := by omega
       rw [hm] at HK hij;obtain ⟨vs, hcl⟩ := run_clear_rows H2.out (show k < dk.size by omega) (c - k) 0
       have R3 := hd_ (rowAt_front H2.out (show k ≤ dk.size by omega) vs)
       have G3 := hd_ (grown_setCells H3.out (k * 3) vs);have HF := hd_ (kept_frontCLK HK.out);have hci : ¬ c = k := by omega
       have p5 : (k : Int) ≤ (d.size : Int) := by omega
       rw [hds] at hcl;go_wp2_with fail;go_ret;exact ⟨dk.extract 0 k, by simp; omega, HF.out.trans HA.out, R3.out, G3.out⟩
    ·have hv : decide ((d[q + 1]!.1.1, d[q + 1]!.1.2) = (d[q]!.1.1, d[q]!.1.2)) = false := decide_eq_false he
     rw [hv] at HC
     have HF := hd_ (show ∀ j, j < q + 1 + 1 → keepI d j = true from fun j hj => by
      by_cases e : j = q + 1
      ·subst e
       simp [keepI, he]
      ·exact HT.out j (by omega))
     clear hv he;generalize d[q + 1]!.1.1 = a1 at *;generalize d[q + 1]!.1.2 = b1 at *;generalize d[q + 1]!.2 = n1 at *;generalize d[q]!.1.1 = a0 at *;generalize d[q]!.1.2 = b0 at *;generalize d[q]!.2 = n0 at *;go_wp2_with fail
     go_region_held3 (fun w' => (w'.cell? ⟨g, (q + 1) * 3, none⟩ = some (.int .i64 a1) ∧ w'.cell? ⟨g, (q + 1) * 3 + 1, none⟩ = some (.int .i64 b1) ∧ w'.cell? ⟨g, (q + 1) * 3 + 2, none⟩ = some (.int .i64 n1)) ∧ (w'.cell? ⟨g, q * 3, none⟩ = some (.int .i64 a0) ∧ w'.cell? ⟨g, q * 3 + 1, none⟩ = some (.int .i64 b0) ∧ w'.cell? ⟨g, q * 3 + 2, none⟩ = some (.int .i64 n0)) ∧ Hid (Below w.heap.size w w'))
      (first | exact HS.out _ HW.out.drew | exact HS.out _ HK.out)
      (first | (go_at_call 184; (with_reducible refine (HC.out _).mono ?_); rintro e w' ⟨rfl, hb⟩; have HK := hd_ (ah_ (Hid.out (by go_split_ands; assumption)) hb (Nat.le_refl _)); clear hb))
     go_wp2_with fail;go_roundw
     case rel => exact ⟨q + 1 + 1, by go_num, by omega, by omega, HF, Hid.out (by assumption)⟩
     case measure => simp [intOf]; omega
   ·have hd : decide (((q : Int) + 1) < (d.size : Int)) = false := by simp; omega
    have HF := hd_ (show d.toList = cpt none d.toList by
     rw [← HA.out, Go.Lib.keptUpTo_all (keepI d) d d.size (fun j hj => HT.out j (by omega)), Go.Lib.range_map_get])
    go_wp2_with fail;go_ret;exact ⟨d, rfl, HF.out, rowAt_kept HR.out HW.out, am_ (World.grownBy.refl _ _) HW.out⟩
end
section
open Go.RowKit Go.Shelf Sets Clocks
theorem delete_empty (A : Option Addr) (c : Nat) (w : World) (hA : A = none → c = 0) : Calls Tryz.prog 176 #[.slice A 0 c, .func (.func 178) #[] #[]] w fun e w' => e = .returned (.slice A 0 c) ∧ Below w.heap.size w w' := by
 have HI := hd_ (show Rcs encT 3 w (.slice A 0 c) (#[] : Array Tick).toList from ⟨A, c, rfl, hA, Nat.zero_le _, fun k hk => absurd hk (by simp)⟩)
 go_enter Tryz.func176, Tryz.ntmps176
 go_wp2_with fail;(with_reducible refine (index_anyCLK _ #[] _ HI.out (by simp)).mono ?_)
 rintro e w1 ⟨⟨r, rfl, hf⟩, hb⟩;rcases hf with ⟨rfl, _⟩ | ⟨k, rfl, hk, _⟩
 ·go_wp2_with fail
  go_ret;exact ⟨rfl, hb⟩
 ·exact absurd hk (by simp)
theorem sort_empty (A : Option Addr) (c : Nat) (w : World) : Calls Tryz.prog 179 #[.slice A 0 c, .func (.func 180) #[] #[]] w fun e w' => e = .returned (.tuple #[]) ∧ w' = w :=
 AnyF.slices_SortFunc_none sortT A c _ w
theorem compact_empty (A : Option Addr) (c : Nat) (w : World) : Calls Tryz.prog 183 #[.slice A 0 c, .func (.func 184) #[] #[]] w fun e w' => e = .returned (.slice A 0 c) ∧ w' = w := by
 go_enter Tryz.func183, Tryz.ntmps183
 go_wp2_with fail;go_ret;exact ⟨rfl, rfl⟩
def Fresh (B : Nat) (v : Value) : Prop := ∀ ad n c, v = .slice (some ad) n c → B ≤ ad.block
theorem nrm_nil : nrm [] = [] := rfl
set_option maxHeartbeats 1000000 in
theorem said_any (v : Value) (l : List Tick) (w : World) (h : Rcs encT 3 w v l) (hl : l.length ≤ 100000) :
  Calls Tryz.prog 147 #[v] w fun e w' => ∃ v', e = .returned v' ∧ Rcs encT 3 w' v' (nrm l) ∧ Fresh w.heap.size v' ∧ Below w.heap.size w w' := by
 have HI := hd_ h;clear h;go_enter Tryz.func147, Tryz.ntmps147
 go_wp2_with fail;(with_reducible refine (clone_any v l _ HI.out hl).mono ?_)
 rintro e w1 ⟨v1, rfl, ho, hb⟩;have B1 := hd_ hb;have O1 := hd_ ho;clear hb;by_cases hn : l.length = 0
 ·obtain rfl := List.eq_nil_of_length_eq_zero hn
  obtain ⟨A, c, rfl, hA, hF⟩ : ∃ A c, v1 = .slice A 0 c ∧ (A = none → c = 0) ∧ Hid (Fresh w.heap.size (.slice A 0 c)) := by
   rcases id ho.2 with ⟨rfl, _⟩ | ⟨g, cap, cur, rfl, hg, _⟩
   ·exact ⟨none, 0, rfl, fun _ => rfl, hd_ fun ad n c e => by cases e⟩
   ·exact ⟨some ⟨g, 0, none⟩, cap, rfl, (fun h => by cases h), hd_ fun ad n c e => by injection e with e; injection e with e; subst e; exact hg⟩
  clear ho;go_wp2_with fail;(with_reducible refine (delete_empty A c _ hA).mono ?_)
  rintro e w2 ⟨rfl, hb⟩;have B2 := hd_ (ba_ B1.out hb);clear hb;go_wp2_with (first | (go_at_call 179; refine (sort_empty A c _).mono ?_; rintro e w' ⟨rfl, rfl⟩) | (go_at_call 183; refine (compact_empty A c _).mono ?_; rintro e w' ⟨rfl, rfl⟩))
  go_ret;refine ⟨_, rfl, ⟨A, c, rfl, hA, Nat.zero_le _, fun k hk => absurd hk (by rw [nrm_nil]; simp)⟩, hF.out, B2.out⟩
 ·obtain ⟨g, c, rfl, hgB, hc⟩ : ∃ g c, v1 = .slice (some ⟨g, 0, none⟩) l.toArray.size c ∧ w.heap.size ≤ g ∧ l.toArray.size ≤ c := by
   rcases id ho.2 with ⟨rfl, h0⟩ | ⟨g, cap, cur, rfl, hg, _, hc, _⟩
   ·exact absurd h0 hn
   ·exact ⟨g, cap, by simp, hg, by simpa using hc⟩
  have R1 : RowAt w1 g l.toArray := rowAt_owns (c := c) (by simpa using ho)
  have HR1 := hd_ R1;clear ho R1;have hs0 : 0 < l.toArray.size := by simp; omega
  have hs1 : l.toArray.size ≤ 100000 := by simpa using hl
  have HL := hd_ (show l.toArray.toList = l by simp)
  generalize l.toArray = d0 at *;go_wp2_with fail;(with_reducible refine (delete_any g c d0 _ HR1.out hc hs1 hs0).mono ?_)
  rintro e w2 ⟨d1, rfl, hd1, hr, hg⟩;have HD1 := hd_ hd1;have HR2 := hd_ hr;have HG2 := hd_ hg
  have hs2 : d1.size ≤ d0.size := by
   have := List.length_filter_le (fun t : Tick => !decide (t.2 ≤ 0)) d0.toList
   rw [← hd1] at this;simpa using this
  clear hd1 hr hg;go_wp2_with fail;(with_reducible refine (sort_any g c d1 _ HR2.out (by omega)).mono ?_)
  rintro e w3 ⟨rfl, d2, hsz, hp, hso, hr, hg⟩;have HP := hd_ hp;have HS := hd_ hso;have HR3 := hd_ hr;have HG3 := hd_ (grown_trans HG2.out hg);clear hp hso hr hg;have hcc := compact_any g c d2 w3 HR3.out (by omega) (by omega)
  rw [hsz] at hcc;have HCC := hd_ hcc;clear hcc;go_wp2_with fail;(with_reducible refine HCC.out.mono ?_)
  rintro e w4 ⟨d3, rfl, hd3, hr, hg⟩;have HG4 := hd_ (grown_trans HG3.out hg)
  have HN := hd_ (show d3.toList = nrm l by
   rw [hd3];refine said_is ?_ HS.out
   rw [← HL.out, ← HD1.out];exact HP.out)
  have HR4 := hd_ hr
  have hs3 : d3.size ≤ c := by
   have h1 := nrm_len l;rw [← HN.out, ← HL.out] at h1;simp at h1
   omega
  clear hd3 hr hg;go_wp2_with fail;go_ret;refine ⟨_, rfl, ?_, fun ad n c e => ?_, B1.out.grown HG4.out B1.out.size (fun k hk => by cases hk; exact hgB)⟩
  ·have := rowAt_rcs HR4.out hs3
   rwa [HN.out] at this
  ·injection e with e
   injection e with e
   subst e;exact hgB
end
section
open Go.RowKit Sets Clocks
theorem elem24CLK : Tryz.prog.elem 25 = 53 := by kernel_rfl
theorem size35 (W : World) : (sizeOf 53).run Tryz.prog W = .ok 3 W := by kernel_rfl
theorem under24CLK : Tryz.prog.underlying 25 = some (.slice (Tryz.prog.elem 25)) := by rw [elem24CLK]; exact Tryz.underlying25
def LiesCLK (lo hi : Nat) (w : World) (v : Value) (l : List Tick) : Prop := Rcs encT 3 w v l ∧ ∀ ad n c, v = .slice (some ad) n c → 0 < l.length → lo ≤ ad.block ∧ ad.block < hi
theorem LiesCLK.mid {lo hi : Nat} {w w' : World} {v : Value} {l : List Tick} (h : LiesCLK lo hi w v l) (hm : Mid lo hi w w') : LiesCLK lo hi w' v l := by
 obtain ⟨⟨A, c, rfl, h0, hc, hk⟩, hb⟩ := h;refine ⟨⟨A, c, rfl, h0, hc, fun k hlt => ?_⟩, hb⟩
 obtain ⟨ad, rfl, h1, h2⟩ := hk k hlt;obtain ⟨b1, b2⟩ := hb ad _ _ rfl (by omega)
 refine ⟨ad, rfl, Nat.lt_of_lt_of_le h1 hm.1, fun j u hu => ?_⟩
 rw [World.cell?_of_block (w := w) (by rw [addr_block]; exact hm.2 _ b1 b2)]
 exact h2 j u hu
theorem lies_of {lo hi : Nat} {w : World} {v : Value} {l : List Tick} (h : Rcs encT 3 w v l) (hf : Fresh lo v) (hh : w.heap.size ≤ hi) : LiesCLK lo hi w v l := by
 refine ⟨h, fun ad n c e hl => ⟨hf ad n c e, ?_⟩⟩
 subst e;obtain ⟨A, c', hv, _, _, hk⟩ := h;injection hv with e1 e2 e3
 subst e1;obtain ⟨ad', e, h1, _⟩ := hk 0 hl;injection e with e
 subst e;omega
theorem Rcs.head {w : World} {v : Value} {t : Tick} {l : List Tick} (h : Rcs encT 3 w v (t :: l)) :
  ∃ ad c, v = .slice (some ad) (l.length + 1) c ∧ ∀ w', Below w.heap.size w w' → w'.cell? ad = some (.int .i64 t.1.1) ∧ w'.cell? ⟨ad.block, ad.off + 1, none⟩ = some (.int .i64 t.1.2) ∧ w'.cell? ⟨ad.block, ad.off + 2, none⟩ = some (.int .i64 t.2) := by
 obtain ⟨A, c, rfl, _⟩ := id h;obtain ⟨ad, rfl⟩ := h.addr (by simp)
 refine ⟨ad, c, rfl, fun w' hb => ?_⟩
 obtain ⟨ad', e, c1, c2, c3⟩ := h.tick hb (k := 0) (by simp)
 injection e with e
 subst e;rw [Nat.zero_mul, add_zero'] at c1 c2 c3;exact ⟨c1, c2, c3⟩
theorem run_tailCLK {lo hi : Nat} {w : World} {v : Value} {t : Tick} {l : List Tick} (h : LiesCLK lo hi w v (t :: l)) :
  ∃ V, (∀ W, (Instr.slice 25 v (some (.int .i64 1)) none none).run Tryz.prog W = .ok V W) ∧ LiesCLK lo hi w V l := by
 obtain ⟨hr, hb⟩ := h;obtain ⟨A, c, rfl, h0, hc, hx⟩ := id hr;obtain ⟨ad, rfl⟩ := hr.addr (by simp)
 have hb2 := hb ad _ _ rfl (by simp)
 refine ⟨sliced (some ad) 1 (t :: l).length c 3, fun W => ?_, ?_⟩
 ·rw [run_slice_l (w := W) (P := Tryz.prog) 25 (some ad) (t :: l).length c under24CLK .i64 1 (by omega) (by simp; omega)]
  rw [elem24CLK, size35];rfl
 ·unfold Go.sliced
  have hl : (t :: l).length - 1 = l.length := by simp
  split
  ·rename_i e
   subst e;have : l = [] := List.eq_nil_of_length_eq_zero (by simp only [List.length_cons] at hc; omega)
   subst this;exact ⟨⟨some ad, 0, rfl, (fun h => by cases h), by simp, fun k hk => absurd hk (by simp)⟩, fun ad n c e hl => absurd hl (by simp)⟩
  ·have hd := Rcs.drop (k := 1) (by omega) hr (by simp) (by omega)
   refine ⟨hd, fun ad' n c' e _ => ?_⟩
   injection e with e
   injection e with e
   subst e;rw [addr_block];exact hb2
set_option maxHeartbeats 1000000 in
theorem take_anyCLK (lo hi : Nat) (v : Value) (l : List Tick) (x y : Int) (w : World) (h : LiesCLK lo hi w v l) (hl : l.length ≤ 100000) :
  Calls Tryz.prog 149 #[v, .agg #[.int .i64 x, .int .i64 y]] w fun e w' => ∃ V, e = .returned (.tuple #[.int .i64 (tkN (x, y) l), V]) ∧ LiesCLK lo hi w V (tkL (x, y) l) ∧ Below w.heap.size w w' := by
 have HB := hd_ (show Below w.heap.size w (w.alloc (.cells #[.int .i64 x, .int .i64 y] 29)) from (Below.refl _ _).alloc (Nat.le_refl _) _)
 cases l with
 | nil =>
  obtain ⟨⟨A, c, rfl, h0, hc, hx⟩, hb⟩ := id h;have HH := hd_ h;clear hx hb h;go_enter Tryz.func149, Tryz.ntmps149
  go_wp2_with fail;go_quiet (fail)
  go_wp2_with fail;refine bodyPost_ret (v := .tuple #[.int .i64 0, .slice A 0 c]) (by simp [results, Tryz.results149, go_sem]) rfl ?_
  exact ⟨_, rfl, HH.out, below_drewN HB.out⟩
 | cons t l =>
  obtain ⟨ad, c, rfl, hc⟩ := h.1.head;obtain ⟨V, hV, hL⟩ := run_tailCLK h;have HH := hd_ h;have HL := hd_ hL;have HC := hd_ hc;have hlz : ((l.length : Int) + 1 == 0) = false := by simp; omega
  have i3 : (0 : Int) < (l.length : Int) + 1 := by omega
  obtain ⟨x1, x2⟩ := ae_ (ao_ w x y);clear h hL hc;by_cases he : t.1 = (x, y)
  ·have HN := hd_ (show tkN (x, y) (t :: l) = t.2 by rw [tkN, if_pos he])
   have HT := hd_ (show tkL (x, y) (t :: l) = l by rw [tkL, if_pos he])
   have e1 : t.1.1 = x := by rw [he]
   have e2 : t.1.2 = y := by rw [he]
   rw [e1, e2] at HC;rw [HN.out, HT.out];clear he e1 e2;obtain ⟨c1, c2, c3⟩ := HC.out _ HB.out;go_enter Tryz.func149, Tryz.ntmps149
   go_wp2_with fail;go_quiet (fail)
   go_wp2_with fail;go_quiet (fail)
   go_wp2_with fail;refine bodyPost_ret (v := .tuple #[.int .i64 t.2, V]) (by simp [results, Tryz.results149, go_sem]) rfl ?_
   exact ⟨_, rfl, HL.out, below_drewN (below_drewN HB.out)⟩
  ·have HN := hd_ (show tkN (x, y) (t :: l) = 0 by rw [tkN, if_neg he])
   have HT := hd_ (show tkL (x, y) (t :: l) = t :: l by rw [tkL, if_neg he])
   rw [HN.out, HT.out];obtain ⟨c1, c2, c3⟩ := HC.out _ HB.out;by_cases h1 : t.1.1 = x
   ·have h2 : (t.1.2 == y) = false := by
     simp only [beq_eq_false_iff_ne];exact fun e => he (by rw [← h1, ← e])
    have h3 : (t.1.2 != y) = true := by simpa using h2
    have h4 : (t.1.1 == x) = true := by simpa using h1
    rw [h1] at c1 h4;clear he h1;go_enter Tryz.func149, Tryz.ntmps149
    go_wp2_with fail;go_quiet (fail)
    go_wp2_with fail;refine bodyPost_ret (v := .tuple #[.int .i64 0, .slice (some ad) (l.length + 1) c]) (by simp [results, Tryz.results149, go_sem]) rfl ?_
    exact ⟨_, rfl, HH.out, below_drewN HB.out⟩
   ·have h2 : (t.1.1 == x) = false := by simpa using h1
    have h3 : (t.1.1 != x) = true := by simpa using h1
    clear he;go_enter Tryz.func149, Tryz.ntmps149
    go_wp2_with fail;go_quiet (fail)
    go_wp2_with fail;refine bodyPost_ret (v := .tuple #[.int .i64 0, .slice (some ad) (l.length + 1) c]) (by simp [results, Tryz.results149, go_sem]) rfl ?_
    exact ⟨_, rfl, HH.out, below_drewN HB.out⟩
end
end Go.Proofs.YthkkipbmlafdiaaGreat
