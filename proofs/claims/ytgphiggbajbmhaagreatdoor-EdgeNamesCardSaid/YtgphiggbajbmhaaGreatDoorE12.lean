/-
  Carried over and put together: contracts of this program's functions, and plain facts. No statement is proved in this text.
-/
import Derived.Lib.SliceRun
import Derived.Deep.QuietTactic
import Derived.Test.YtgphiggbajbmhaaGreatDoorE02
import Derived.Test.YtgphiggbajbmhaaGreatDoorE03
import Derived.Test.YtgphiggbajbmhaaGreatDoorE08
import Derived.Test.YtgphiggbajbmhaaGreatDoorE09
import Derived.Test.YtgphiggbajbmhaaGreatDoorE11
set_option maxRecDepth 20000
namespace Go.Proofs.YtgphiggbajbmhaaGreatDoor
open Go.RowKit Sets Clocks
theorem info35 : (Tryz.prog.info? 68).map (fun i => (i.zero, i.size, i.bytes)) = some (some (.agg #[.int .i64 0, .int .i64 0, .int .i64 0]), 3, 0x18) := by kernel_rfl
theorem Rcs.tick {w w' : World} {A : Option Addr} {n c : Nat} {l : List Tick} (h : Rcs encT 3 w (.slice A n c) l) (hw : Below w.heap.size w w') {k : Nat} (hk : k < l.length) :
  ∃ ad, A = some ad ∧ w'.cell? (ad.add (k * 3)) = some (.int .i64 l[k].1.1) ∧ w'.cell? ⟨(ad.add (k * 3)).block, (ad.add (k * 3)).off + 1, none⟩ = some (.int .i64 l[k].1.2) ∧ w'.cell? ⟨(ad.add (k * 3)).block, (ad.add (k * 3)).off + 2, none⟩ = some (.int .i64 l[k].2) := by
 obtain ⟨ad, rfl⟩ := h.addr (by omega)
 exact ⟨ad, rfl, h.first hw hk rfl, h.cell hw hk 1 (by omega) rfl, h.cell hw hk 2 (by omega) rfl⟩
theorem clone_any (v : Value) (l : List Tick) (w : World) (h : Rcs encT 3 w v l) (hl : l.length ≤ 100000) :
  Calls Tryz.prog 187 #[v] w fun e w' => ∃ v', e = .returned v' ∧ OwnsR encT 3 68 w' w.heap.size v' l ∧ Below w.heap.size w w' := by
 have q24 : ∀ (w : World) (a : Option Addr) (n c n' c' : Nat), (binOp .eql 25 (.slice a n c) (.slice none n' c')).run Tryz.prog w = .ok (.bool a.isNone) w := fun w a n c n' c' => Lib.run_eql_slice_nil w _ _ a n c n' c' Tryz.underlying25
 rcases h.shape with ⟨rfl, rfl⟩ | ⟨ad, c, rfl, hc⟩
 ·go_enter Tryz.func187, Tryz.ntmps187
  go_wp2
  go_ret
  exact ⟨_, rfl, OwnsR.nil _ _ _, Below.refl _ _⟩
 ·have HI := Lib.hid h
  clear h
  go_enter Tryz.func187, Tryz.ntmps187
  go_wp2_with (at_builtin; refine wpList_append_recs 25 68 Tryz.underlying25 info35 rfl encT_len (by omega) encT_one (by omega) rfl (.tmp 5) (.tmp 6) rfl _ w.heap.size _ _ [] l rfl rfl (World.ownsRow_made w #[] 0 (Nat.le_refl _) (Nat.zero_le _) (by simp)) (HI.out.below ((Below.refl _ _).alloc (Nat.le_refl _) _)) (by simpa using hl) (by simp) ?_; intro v' w' h1 h2)
  go_wp2
  go_ret
  exact ⟨_, rfl, h1, ((Below.refl _ _).alloc (Nat.le_refl _) _).trans h2⟩
def FoundCLK (d : Array Tick) (r : Int) : Prop := (r = -1 ∧ ∀ j, j < d.size → 0 < d[j]!.2) ∨ ∃ k : Nat, r = k ∧ k < d.size ∧ d[k]!.2 ≤ 0 ∧ ∀ j, j < k → 0 < d[j]!.2
set_option maxHeartbeats 1000000 in
theorem index_any (v : Value) (d : Array Tick) (w : World) (h : Rcs encT 3 w v d.toList) (hl : d.size ≤ 100000) :
  Calls Tryz.prog 199 #[v, .func (.func 188) #[] #[]] w fun e w' => (∃ r, e = .returned (.int .i64 r) ∧ FoundCLK d r) ∧ Below w.heap.size w w' := by
 have HI := Lib.hid h
 obtain ⟨A, c, rfl, hz⟩ := h
 clear hz
 have hlen : d.toList.length = d.size := by simp
 rw [hlen] at HI ⊢
 go_enter Tryz.func199, Tryz.ntmps199
 go_wp2_with fail
 go_loopw [8] (fun s3 wr => ∃ k : Nat, k ≤ d.size ∧ s3 = .int .i64 k ∧ (∀ j, j < k → 0 < d[j]!.2) ∧ Below w.heap.size w wr) (fun s3 _ => d.size - (intOf s3).toNat)
 case atStart => exact ⟨0, by omega, rfl, fun j hj => absurd hj (by omega), Below.refl _ _⟩
 case round =>
  obtain ⟨k, hkl, rfl, ht, hw⟩ := hrel
  have HT := Lib.hid ht
  have HW := Lib.hid hw
  clear ht hw
  have i3 : (0 : Int) ≤ (k : Int) := by omega
  by_cases hlt : k < d.size
  ·have hd : decide ((k : Int) < (d.size : Int)) = true := by simp; omega
   have i4 : (k : Int) < (d.size : Int) := by omega
   obtain ⟨ad, rfl, c1, c2, c3⟩ := HI.out.tick HW.out (k := k) (by simpa using hlt)
   have HE := Lib.hid (show d.toList[k]'(by simpa using hlt) = d[k]! by rw [getElem!_pos d k hlt]; simp)
   rw [HE.out] at c1 c2 c3
   have HC := Lib.hid fun W => zeroN_any d[k]!.1.1 d[k]!.1.2 d[k]!.2 W
   by_cases hn : d[k]!.2 ≤ 0
   ·have hv : decide (d[k]!.2 ≤ 0) = true := decide_eq_true hn
    rw [hv] at HC
    have HF : Hid (FoundCLK d k) := Lib.hid (.inr ⟨k, rfl, hlt, hn, HT.out⟩)
    clear hv hn
    generalize d[k]!.1.1 = a at *
    generalize d[k]!.1.2 = i at *
    generalize d[k]!.2 = n at *
    go_wp2_with (go_at_call 188; refine (HC.out _).mono ?_; rintro e w1 ⟨rfl, hb⟩; have HB := Lib.hid (below_after HW.out hb (Nat.le_refl _)); clear hb)
    go_ret
    exact ⟨⟨_, rfl, HF.out⟩, HB.out⟩
   ·have hv : decide (d[k]!.2 ≤ 0) = false := decide_eq_false hn
    rw [hv] at HC
    have HF := Lib.hid (show ∀ j, j < k + 1 → 0 < d[j]!.2 from fun j hj => by
     by_cases e : j = k
     ·rw [e]; omega
     ·exact HT.out j (by omega))
    clear hv hn
    generalize d[k]!.1.1 = a at *
    generalize d[k]!.1.2 = i at *
    generalize d[k]!.2 = n at *
    go_wp2_with (go_at_call 188; refine (HC.out _).mono ?_; rintro e w1 ⟨rfl, hb⟩; have HB := Lib.hid (below_after HW.out hb (Nat.le_refl _)); clear hb)
    go_roundw
    case rel => exact ⟨k + 1, by omega, by go_num, HF.out, HB.out⟩
    case measure => simp [intOf]; omega
  ·have hd : decide ((k : Int) < (d.size : Int)) = false := by simp; omega
   have HF : Hid (FoundCLK d (-1)) := Lib.hid (.inl ⟨rfl, fun j hj => HT.out j (by omega)⟩)
   go_wp2_with fail
   go_ret
   exact ⟨⟨_, rfl, HF.out⟩, HW.out⟩
end Go.Proofs.YtgphiggbajbmhaaGreatDoor
namespace Go.Proofs.YtgphiggbajbmhaaGreatDoor
open Go Go.RowKit
theorem ticks_at {w w' : World} {A : Option Addr} {n c : Nat} {l : List Clocks.Tick} (h : Rcs encT 3 w (.slice A n c) l) (hw : Below w.heap.size w w') {k : Nat} (hk : k < l.length) :
  ∃ ad, A = some ad ∧ w'.cell? (ad.add (k * 3)) = some (.int .i64 l[k].1.1) ∧ w'.cell? ⟨(ad.add (k * 3)).block, (ad.add (k * 3)).off + 1, none⟩ = some (.int .i64 l[k].1.2) ∧ w'.cell? ⟨(ad.add (k * 3)).block, (ad.add (k * 3)).off + 2, none⟩ = some (.int .i64 l[k].2) := by
 obtain ⟨ad, rfl⟩ := h.addr (by omega)
 exact ⟨ad, rfl, h.first hw hk rfl, h.cell hw hk 1 (by omega) rfl, h.cell hw hk 2 (by omega) rfl⟩
theorem all_same {α : Type} {l m : List α} {k : Nat} (hl : l.length = m.length) (hk : l.length ≤ k) (ht : l.take k = m.take k) : l = m := by
 rwa [List.take_of_length_le hk, List.take_of_length_le (by omega)] at ht
set_option maxHeartbeats 4000000 in
theorem equalM_any (v u : Value) (l m : List Ros.Mm) (w : World) (h : Ms w v l) (h2 : Ms w u m) (hl : l.length ≤ 100000) :
  Calls Tryz.prog 150 #[v, u] w fun e w' => e = .returned (.bool (decide (l = m))) ∧ Below w.heap.size w w' := by
 have HI := Lib.hid h
 have HJ := Lib.hid h2
 obtain ⟨A, c, rfl, hz⟩ := h
 obtain ⟨B, d, rfl, hy⟩ := h2
 clear hz hy
 by_cases hlm : l.length = m.length
 ·have hne : ((l.length : Int) != (m.length : Int)) = false := by simp; omega
  have HL := Lib.hid hlm
  clear hlm
  go_enter Tryz.func150, Tryz.ntmps150
  go_wp2_with fail
  clear hne
  go_loopw [13] (fun s5 wr => ∃ k : Nat, k ≤ l.length ∧ s5 = .int .i64 k ∧ Hid (l.take k = m.take k) ∧ Hid (Below w.heap.size w wr)) (fun s5 _ => l.length - (intOf s5).toNat)
  case atStart => exact ⟨0, by omega, rfl, Lib.hid rfl, Lib.hid (Below.refl _ _)⟩
  case round =>
   obtain ⟨k, hkl, rfl, HT, HW⟩ := hrel
   have i3 : (0 : Int) ≤ (k : Int) := by omega
   by_cases hlt : k < l.length
   ·have hd : decide ((k : Int) < (l.length : Int)) = true := by simp; omega
    have hlt2 : k < m.length := by have := HL.out; omega
    have i4 : (k : Int) < (l.length : Int) := by omega
    have i5 : (k : Int) < (m.length : Int) := by omega
    obtain ⟨ad, rfl, c0, c1, c2, c3⟩ := Ms.at_ HI.out HW.out hlt
    obtain ⟨ae, rfl, d0, d1, d2, d3⟩ := Ms.at_ HJ.out HW.out hlt2
    have HS : Hid (l[k].1.1 = m[k].1.1 → l[k].1.2 = m[k].1.2 → l[k].2.1 = m[k].2.1 → l[k].2.2 = m[k].2.2 → l.take (k + 1) = m.take (k + 1)) := Lib.hid fun e0 e1 e2 e3 => same_next hlt hlt2 HT.out (by exact Prod.ext (Prod.ext e0 e1) (Prod.ext e2 e3))
    have HN0 : Hid (l[k].1.1 ≠ m[k].1.1 → l ≠ m) := Lib.hid fun e => same_not hlt hlt2 fun h => e (by rw [h])
    have HN1 : Hid (l[k].1.2 ≠ m[k].1.2 → l ≠ m) := Lib.hid fun e => same_not hlt hlt2 fun h => e (by rw [h])
    have HN2 : Hid (l[k].2.1 ≠ m[k].2.1 → l ≠ m) := Lib.hid fun e => same_not hlt hlt2 fun h => e (by rw [h])
    have HN3 : Hid (l[k].2.2 ≠ m[k].2.2 → l ≠ m) := Lib.hid fun e => same_not hlt hlt2 fun h => e (by rw [h])
    generalize l[k].1.1 = x0 at *
    generalize m[k].1.1 = y0 at *
    generalize l[k].1.2 = x1 at *
    generalize m[k].1.2 = y1 at *
    generalize l[k].2.1 = x2 at *
    generalize m[k].2.1 = y2 at *
    generalize l[k].2.2 = x3 at *
    generalize m[k].2.2 = y3 at *
    by_cases h0 : x0 = y0
    ·subst h0
     by_cases h1 : x1 = y1
     ·subst h1
      by_cases h2 : x2 = y2
      ·subst h2
       by_cases h3 : x3 = y3
       ·subst h3
        have HF := Lib.hid (HS.out rfl rfl rfl rfl)
        clear HS HN0 HN1 HN2 HN3
        go_wp2_with fail
        go_quiet (fail)
        go_wp2_with fail
        go_roundw
        case rel => exact ⟨k + 1, by omega, by go_num, HF, Lib.hid (below_drewN HW.out)⟩
        case measure => simp [intOf]; omega
       ·have b3 : (x3 == y3) = false := by simpa using h3
        have HF := Lib.hid (HN3.out h3)
        clear HS HN0 HN1 HN2 HN3 h3
        go_wp2_with fail
        go_quiet (fail)
        go_wp2_with fail
        go_ret
        exact ⟨ret_bool (decide_eq_false HF.out).symm, below_drewN HW.out⟩
      ·have b2 : (x2 == y2) = false := by simpa using h2
       have HF := Lib.hid (HN2.out h2)
       clear HS HN0 HN1 HN2 HN3 h2
       go_wp2_with fail
       go_quiet (fail)
       go_wp2_with fail
       go_ret
       exact ⟨ret_bool (decide_eq_false HF.out).symm, below_drewN HW.out⟩
     ·have b1 : (x1 == y1) = false := by simpa using h1
      have HF := Lib.hid (HN1.out h1)
      clear HS HN0 HN1 HN2 HN3 h1
      go_wp2_with fail
      go_quiet (fail)
      go_wp2_with fail
      go_ret
      exact ⟨ret_bool (decide_eq_false HF.out).symm, below_drewN HW.out⟩
    ·have b0 : (x0 == y0) = false := by simpa using h0
     have HF := Lib.hid (HN0.out h0)
     clear HS HN0 HN1 HN2 HN3 h0
     go_wp2_with fail
     go_quiet (fail)
     go_wp2_with fail
     go_ret
     exact ⟨ret_bool (decide_eq_false HF.out).symm, below_drewN HW.out⟩
   ·have hd : decide ((k : Int) < (l.length : Int)) = false := by simp; omega
    have HS := Lib.hid (all_same HL.out (by omega) HT.out)
    go_wp2_with fail
    go_ret
    exact ⟨ret_bool (decide_eq_true HS.out).symm, HW.out⟩
 ·have hd : ((l.length : Int) != (m.length : Int)) = true := by simp; omega
  have HS := Lib.hid (show l ≠ m from fun e => hlm (by rw [e]))
  clear hlm
  go_enter Tryz.func150, Tryz.ntmps150
  go_wp2_with fail
  go_ret
  exact ⟨ret_bool (decide_eq_false HS.out).symm, Below.refl _ _⟩
set_option maxHeartbeats 4000000 in
theorem equalT_any (v u : Value) (l m : List Clocks.Tick) (w : World) (h : Rcs encT 3 w v l) (h2 : Rcs encT 3 w u m) (hl : l.length ≤ 100000) :
  Calls Tryz.prog 111 #[v, u] w fun e w' => e = .returned (.bool (decide (l = m))) ∧ Below w.heap.size w w' := by
 have HI := Lib.hid h
 have HJ := Lib.hid h2
 obtain ⟨A, c, rfl, hz⟩ := h
 obtain ⟨B, d, rfl, hy⟩ := h2
 clear hz hy
 by_cases hlm : l.length = m.length
 ·have hne : ((l.length : Int) != (m.length : Int)) = false := by simp; omega
  have HL := Lib.hid hlm
  clear hlm
  go_enter Tryz.func111, Tryz.ntmps111
  go_wp2_with fail
  clear hne
  go_loopw [13] (fun s5 wr => ∃ k : Nat, k ≤ l.length ∧ s5 = .int .i64 k ∧ Hid (l.take k = m.take k) ∧ Hid (Below w.heap.size w wr)) (fun s5 _ => l.length - (intOf s5).toNat)
  case atStart => exact ⟨0, by omega, rfl, Lib.hid rfl, Lib.hid (Below.refl _ _)⟩
  case round =>
   obtain ⟨k, hkl, rfl, HT, HW⟩ := hrel
   have i3 : (0 : Int) ≤ (k : Int) := by omega
   by_cases hlt : k < l.length
   ·have hd : decide ((k : Int) < (l.length : Int)) = true := by simp; omega
    have hlt2 : k < m.length := by have := HL.out; omega
    have i4 : (k : Int) < (l.length : Int) := by omega
    have i5 : (k : Int) < (m.length : Int) := by omega
    obtain ⟨ad, rfl, c0, c1, c2⟩ := ticks_at HI.out HW.out hlt
    obtain ⟨ae, rfl, d0, d1, d2⟩ := ticks_at HJ.out HW.out hlt2
    have HS : Hid (l[k].1.1 = m[k].1.1 → l[k].1.2 = m[k].1.2 → l[k].2 = m[k].2 → l.take (k + 1) = m.take (k + 1)) := Lib.hid fun e0 e1 e2 => same_next hlt hlt2 HT.out (by exact Prod.ext (Prod.ext e0 e1) e2)
    have HN0 : Hid (l[k].1.1 ≠ m[k].1.1 → l ≠ m) := Lib.hid fun e => same_not hlt hlt2 fun h => e (by rw [h])
    have HN1 : Hid (l[k].1.2 ≠ m[k].1.2 → l ≠ m) := Lib.hid fun e => same_not hlt hlt2 fun h => e (by rw [h])
    have HN2 : Hid (l[k].2 ≠ m[k].2 → l ≠ m) := Lib.hid fun e => same_not hlt hlt2 fun h => e (by rw [h])
    generalize l[k].1.1 = x0 at *
    generalize m[k].1.1 = y0 at *
    generalize l[k].1.2 = x1 at *
    generalize m[k].1.2 = y1 at *
    generalize l[k].2 = x2 at *
    generalize m[k].2 = y2 at *
    by_cases h0 : x0 = y0
    ·subst h0
     by_cases h1 : x1 = y1
     ·subst h1
      by_cases h2 : x2 = y2
      ·subst h2
       have HF := Lib.hid (HS.out rfl rfl rfl)
       clear HS HN0 HN1 HN2
       go_wp2_with fail
       go_quiet (fail)
       go_wp2_with fail
       go_roundw
       case rel => exact ⟨k + 1, by omega, by go_num, HF, Lib.hid (below_drewN HW.out)⟩
       case measure => simp [intOf]; omega
      ·have b2 : (x2 == y2) = false := by simpa using h2
       have HF := Lib.hid (HN2.out h2)
       clear HS HN0 HN1 HN2 h2
       go_wp2_with fail
       go_quiet (fail)
       go_wp2_with fail
       go_ret
       exact ⟨ret_bool (decide_eq_false HF.out).symm, below_drewN HW.out⟩
     ·have b1 : (x1 == y1) = false := by simpa using h1
      have HF := Lib.hid (HN1.out h1)
      clear HS HN0 HN1 HN2 h1
      go_wp2_with fail
      go_quiet (fail)
      go_wp2_with fail
      go_ret
      exact ⟨ret_bool (decide_eq_false HF.out).symm, below_drewN HW.out⟩
    ·have b0 : (x0 == y0) = false := by simpa using h0
     have HF := Lib.hid (HN0.out h0)
     clear HS HN0 HN1 HN2 h0
     go_wp2_with fail
     go_quiet (fail)
     go_wp2_with fail
     go_ret
     exact ⟨ret_bool (decide_eq_false HF.out).symm, below_drewN HW.out⟩
   ·have hd : decide ((k : Int) < (l.length : Int)) = false := by simp; omega
    have HS := Lib.hid (all_same HL.out (by omega) HT.out)
    go_wp2_with fail
    go_ret
    exact ⟨ret_bool (decide_eq_true HS.out).symm, HW.out⟩
 ·have hd : ((l.length : Int) != (m.length : Int)) = true := by simp; omega
  have HS := Lib.hid (show l ≠ m from fun e => hlm (by rw [e]))
  clear hlm
  go_enter Tryz.func111, Tryz.ntmps111
  go_wp2_with fail
  go_ret
  exact ⟨ret_bool (decide_eq_false HS.out).symm, Below.refl _ _⟩
theorem sameM_is (v u : Value) (l m : List Ros.Mm) (w : World) (h : Ms w v l) (h2 : Ms w u m) (hl : l.length ≤ 100000) :
  Calls Tryz.prog 109 #[v, u] w fun e w' => e = .returned (.bool (decide (l = m))) ∧ Below w.heap.size w w' := by
 have HI := Lib.hid h
 have HJ := Lib.hid h2
 clear h h2
 go_enter Tryz.func109, Tryz.ntmps109
 go_wp2_with fail
 (with_reducible refine (equalM_any v u l m _ HI.out HJ.out hl).mono ?_)
 rintro e w1 ⟨rfl, hb⟩
 have HB := Lib.hid hb
 have HE : Hid (decide (l = m) = decide (l = m)) := Lib.hid rfl
 clear hb
 generalize hz : decide (l = m) = z at *
 rw [← hz] at HE
 have HZ := Lib.hid hz
 clear hz HE
 go_wp2_with fail
 go_ret
 exact ⟨ret_bool HZ.out.symm, HB.out⟩
def sameW (r s : RowSets.Row) : Bool := decide (r.1.1 = s.1.1) && (decide (r.1.2 = s.1.2) && (decide (r.2.1 = s.2.1) && sameB (Sets.setOf r.2.2) (Sets.setOf s.2.2)))
set_option maxHeartbeats 4000000 in
theorem rowSame_any (a i n b j p : Int) (A : Option Addr) (x c : Nat) (B : Option Addr) (y d : Nat) (l m : List Sets.Id2) (w : World) (h : Ids w (.slice A x c) l) (k : Ids w (.slice B y d) m) (hl : l.length ≤ 40000) (hm : m.length ≤ 40000) :
  Calls Tryz.prog 152 #[.agg #[.int .i64 a, .int .i64 i, .int .i64 n, .slice A x c], .agg #[.int .i64 b, .int .i64 j, .int .i64 p, .slice B y d]] w fun e w' => e = .returned (.bool (sameW ((a, i), n, l) ((b, j), p, m))) ∧ Below w.heap.size w w' := by
 have BB := Lib.hid (below_two w (.cells #[.int .i64 a, .int .i64 i, .int .i64 n, .slice A x c] 65) (.cells #[.int .i64 b, .int .i64 j, .int .i64 p, .slice B y d] 65))
 have X1 := Lib.hid (wbox_below (wbox_new w a i n (.slice A x c)) (below_one _ (.cells #[.int .i64 b, .int .i64 j, .int .i64 p, .slice B y d] 65)))
 have X2 : Hid (WBox ((w.alloc (.cells #[.int .i64 a, .int .i64 i, .int .i64 n, .slice A x c] 65)).alloc (.cells #[.int .i64 b, .int .i64 j, .int .i64 p, .slice B y d] 65)) (w.heap.size + 1) b j p (.slice B y d)) := Lib.hid (by simpa using wbox_new (w.alloc (.cells #[.int .i64 a, .int .i64 i, .int .i64 n, .slice A x c] 65)) b j p (.slice B y d))
 have HI := Lib.hid (h.below BB.out)
 have HJ := Lib.hid (k.below BB.out)
 have HE : Hid (sameW ((a, i), n, l) ((b, j), p, m) = (decide (a = b) && (decide (i = j) && (decide (n = p) && sameB (Sets.setOf l) (Sets.setOf m))))) := Lib.hid rfl
 clear h k
 obtain ⟨a1, a2, a3, a4⟩ := wbox_cells X1.out
 obtain ⟨b1, b2, b3, b4⟩ := wbox_cells X2.out
 generalize sameW ((a, i), n, l) ((b, j), p, m) = z0 at *
 by_cases h1 : a = b
 ·subst h1
  by_cases h2 : i = j
  ·subst h2
   by_cases h3 : n = p
   ·subst h3
    rw [decide_eq_true rfl, decide_eq_true rfl, decide_eq_true rfl, Bool.true_and, Bool.true_and, Bool.true_and] at HE
    go_enter Tryz.func152, Tryz.ntmps152
    go_wp2_with fail
    (with_reducible refine (same_any _ _ l m _ HI.out HJ.out hl hm).mono ?_)
    rintro e w1 ⟨rfl, hb⟩
    have HB := Lib.hid (below_after BB.out hb (Nat.le_refl _))
    clear hb a1 a2 a3 a4 b1 b2 b3 b4
    generalize sameB (Sets.setOf l) (Sets.setOf m) = z at *
    go_wp2_with fail
    go_ret
    exact ⟨ret_bool HE.out.symm, HB.out⟩
   ·have h4 : (n == p) = false := by simpa using h3
    rw [decide_eq_true rfl, decide_eq_true rfl, decide_eq_false h3, Bool.true_and, Bool.true_and, Bool.false_and] at HE
    clear h3
    go_enter Tryz.func152, Tryz.ntmps152
    go_wp2_with fail
    go_ret
    exact ⟨ret_bool HE.out.symm, BB.out⟩
  ·have h4 : (i == j) = false := by simpa using h2
   rw [decide_eq_true rfl, decide_eq_false h2, Bool.true_and, Bool.false_and] at HE
   clear h2
   go_enter Tryz.func152, Tryz.ntmps152
   go_wp2_with fail
   go_ret
   exact ⟨ret_bool HE.out.symm, BB.out⟩
 ·have h4 : (a == b) = false := by simpa using h1
  rw [decide_eq_false h1, Bool.false_and] at HE
  clear h1
  go_enter Tryz.func152, Tryz.ntmps152
  go_wp2_with fail
  go_ret
  exact ⟨ret_bool HE.out.symm, BB.out⟩
def sameR : List RowSets.Row → List RowSets.Row → Bool
 | [], [] => true
 | r :: l, s :: m => sameW r s && sameR l m
 | _, _ => false
theorem sameR_len : ∀ {l m : List RowSets.Row}, l.length ≠ m.length → sameR l m = false
 | [], [], h => absurd rfl h
 | [], _ :: _, _ => rfl
 | _ :: _, [], _ => rfl
 | r :: l, s :: m, h => by rw [sameR, sameR_len (fun e => h (by simp [e])), Bool.and_false]
theorem sameR_at : ∀ {l m : List RowSets.Row} {k : Nat} (h : k < l.length) (h2 : k < m.length), sameW l[k] m[k] = false → sameR l m = false
 | r :: l, s :: m, 0, _, _, e => by
  have e : sameW r s = false := e
  rw [sameR, e, Bool.false_and]
 | r :: l, s :: m, k + 1, h, h2, e => by
  rw [sameR, sameR_at (l := l) (m := m) (k := k) (by simpa using h) (by simpa using h2) (by simpa using e), Bool.and_false]
theorem sameR_all : ∀ {l m : List RowSets.Row}, l.length = m.length → (∀ (k : Nat) (h : k < l.length) (h2 : k < m.length), sameW l[k] m[k] = true) → sameR l m = true
 | [], [], _, _ => rfl
 | [], _ :: _, h, _ => by simp at h
 | _ :: _, [], h, _ => by simp at h
 | r :: l, s :: m, h, e => by
  have e0 : sameW r s = true := e 0 (by simp) (by simp)
  rw [sameR, e0, Bool.true_and]
  exact sameR_all (by simpa using h) fun k h1 h2 => by
   have := e (k + 1) (by simpa using h1) (by simpa using h2)
   simpa using this
theorem rows_cells {w : World} {A : Option Addr} {n c : Nat} {l : List RowSets.Row} (h : RowsAt w (.slice A n c) l) {k : Nat} (hk : k < l.length) :
  ∃ ad B x d, A = some ad ∧ Ids w (.slice B x d) l[k].2.2 ∧ ∀ W, Below w.heap.size w W → W.cell? (ad.add (k * 4)) = some (.int .i64 l[k].1.1) ∧ W.cell? ⟨(ad.add (k * 4)).block, (ad.add (k * 4)).off + 1, none⟩ = some (.int .i64 l[k].1.2) ∧
   W.cell? ⟨(ad.add (k * 4)).block, (ad.add (k * 4)).off + 2, none⟩ = some (.int .i64 l[k].2.1) ∧ W.cell? ⟨(ad.add (k * 4)).block, (ad.add (k * 4)).off + 3, none⟩ = some (.slice B x d) := by
 obtain ⟨qs, h1, h2⟩ := h
 have hl := h2.len
 have hq : k < qs.length := by omega
 obtain ⟨r1, r2, r3⟩ := h2.at_ k hq hk
 obtain ⟨ad, rfl⟩ := h1.addr (by omega)
 refine ⟨ad, qs[k].2.2.1, qs[k].2.2.2.1, qs[k].2.2.2.2, rfl, r3, fun W hb => ?_⟩
 rw [← r1, ← r2]
 exact ⟨h1.first hb hq rfl, h1.cell hb hq 1 (by omega) rfl, h1.cell hb hq 2 (by omega) rfl, h1.cell hb hq 3 (by omega) rfl⟩
set_option maxHeartbeats 4000000 in
theorem equalW_any (v u : Value) (l m : List RowSets.Row) (w : World) (h : RowsAt w v l) (h2 : RowsAt w u m) (hl : l.length ≤ 100000) (sl : ∀ r ∈ l, r.2.2.length ≤ 40000) (sm : ∀ r ∈ m, r.2.2.length ≤ 40000) :
  Calls Tryz.prog 151 #[v, u, .func (.func 152) #[] #[]] w fun e w' => e = .returned (.bool (sameR l m)) ∧ Below w.heap.size w w' := by
 have HI := Lib.hid h
 have HJ := Lib.hid h2
 obtain ⟨A, c, rfl, hz⟩ := h.shape
 obtain ⟨B, d, rfl, hy⟩ := h2.shape
 clear hz hy h h2
 have SL := Lib.hid sl
 have SM := Lib.hid sm
 clear sl sm
 have hK : ∀ args W, (callFunc 152 args).run Tryz.prog W = .ok (.enter 152 args) W := fun args W => enters_fn Tryz.func152 (by kernel_rfl) rfl args W
 by_cases hlm : l.length = m.length
 ·have hne : ((l.length : Int) != (m.length : Int)) = false := by simp; omega
  have HL := Lib.hid hlm
  clear hlm
  go_enter Tryz.func151, Tryz.ntmps151
  go_wp2_with fail
  clear hne
  go_loopw [17] (fun s5 wr => ∃ k : Nat, k ≤ l.length ∧ s5 = .int .i64 k ∧ Hid (∀ (j : Nat) (h : j < l.length) (h2 : j < m.length), j < k → sameW l[j] m[j] = true) ∧ Hid (Below w.heap.size w wr)) (fun s5 _ => l.length - (intOf s5).toNat)
  case atStart => exact ⟨0, by omega, rfl, Lib.hid (fun j _ _ h => by omega), Lib.hid (Below.refl _ _)⟩
  case round =>
   obtain ⟨k, hkl, rfl, HT, HW⟩ := hrel
   have i3 : (0 : Int) ≤ (k : Int) := by omega
   by_cases hlt : k < l.length
   ·have hd : decide ((k : Int) < (l.length : Int)) = true := by simp; omega
    have hlt2 : k < m.length := by have := HL.out; omega
    have i4 : (k : Int) < (l.length : Int) := by omega
    have i5 : (k : Int) < (m.length : Int) := by omega
    obtain ⟨ad, A', nx, c', rfl, hs, hc⟩ := rows_cells HI.out hlt
    obtain ⟨ae, B', ny, d', rfl, ht, hd2⟩ := rows_cells HJ.out hlt2
    obtain ⟨c1, c2, c3, c4⟩ := hc _ HW.out
    have HD := Lib.hid fun (W : World) (hb : Below wr.heap.size wr W) => hd2 W (below_after HW.out hb (Nat.le_refl _))
    clear hc hd2
    have HS := Lib.hid hs
    have HU := Lib.hid ht
    have HY : Hid (sameW l[k] m[k] = true → ∀ (j : Nat) (h : j < l.length) (h2 : j < m.length), j < k + 1 → sameW l[j] m[j] = true) := Lib.hid fun e j h h2 hj => by
     by_cases e2 : j = k
     ·subst e2; exact e
     ·exact HT.out j h h2 (by omega)
    have HN := Lib.hid (sameR_at (l := l) (m := m) (k := k) hlt hlt2)
    have H1 := Lib.hid (SL.out _ (List.getElem_mem hlt))
    have H2 := Lib.hid (SM.out _ (List.getElem_mem hlt2))
    have HC := Lib.hid fun (W : World) (hb : Below wr.heap.size wr W) => rowSame_any l[k].1.1 l[k].1.2 l[k].2.1 m[k].1.1 m[k].1.2 m[k].2.1 A' nx c' B' ny d' l[k].2.2 m[k].2.2 W ((HS.out.below HW.out).below hb) ((HU.out.below HW.out).below hb) H1.out H2.out
    clear hs ht
    clear HS HU H1 H2
    generalize sameW l[k] m[k] = z at *
    generalize l[k].1.1 = x1 at *
    generalize l[k].1.2 = x2 at *
    generalize l[k].2.1 = x3 at *
    generalize l[k].2.2 = x4 at *
    generalize m[k].1.1 = y1 at *
    generalize m[k].1.2 = y2 at *
    generalize m[k].2.1 = y3 at *
    generalize m[k].2.2 = y4 at *
    have BB := Lib.hid (below_two wr (.cells #[.int .i64 x1, .int .i64 x2, .int .i64 x3, .slice A' nx c'] 65) (.cells #[.int .i64 y1, .int .i64 y2, .int .i64 y3, .slice B' ny d'] 65))
    have X0 := Lib.hid (wbox_new wr x1 x2 x3 (.slice A' nx c'))
    have X1 := Lib.hid (wbox_below X0.out (below_one _ (.cells #[.int .i64 y1, .int .i64 y2, .int .i64 y3, .slice B' ny d'] 65)))
    have X2 : Hid (WBox ((wr.alloc (.cells #[.int .i64 x1, .int .i64 x2, .int .i64 x3, .slice A' nx c'] 65)).alloc (.cells #[.int .i64 y1, .int .i64 y2, .int .i64 y3, .slice B' ny d'] 65)) (wr.heap.size + 1) y1 y2 y3 (.slice B' ny d')) := Lib.hid (by simpa using wbox_new (wr.alloc (.cells #[.int .i64 x1, .int .i64 x2, .int .i64 x3, .slice A' nx c'] 65)) y1 y2 y3 (.slice B' ny d'))
    obtain ⟨k1, k2, k3, k4⟩ := wbox_cells (wbox_new wr 0 0 0 (.slice none 0 0))
    obtain ⟨f1, f2, f3, f4⟩ := wbox_free (wbox_new wr 0 0 0 (.slice none 0 0))
    have z2 := wbox_new (wr.alloc (.cells #[.int .i64 x1, .int .i64 x2, .int .i64 x3, .slice A' nx c'] 65)) 0 0 0 (.slice none 0 0)
    simp only [World.size_alloc] at z2
    obtain ⟨l1, l2, l3, l4⟩ := wbox_cells z2
    obtain ⟨g1, g2, g3, g4⟩ := wbox_free z2
    clear z2
    obtain ⟨p1, p2, p3, p4⟩ := wbox_cells X1.out
    obtain ⟨q1, q2, q3, q4⟩ := wbox_cells X2.out
    obtain ⟨d1', d2', d3', d4'⟩ : (wr.alloc (.cells #[.int .i64 x1, .int .i64 x2, .int .i64 x3, .slice A' nx c'] 65)).cell? (ae.add (k * 4)) = some (.int .i64 y1) ∧ (wr.alloc (.cells #[.int .i64 x1, .int .i64 x2, .int .i64 x3, .slice A' nx c'] 65)).cell? ⟨(ae.add (k * 4)).block, (ae.add (k * 4)).off + 1, none⟩ = some (.int .i64 y2) ∧ (wr.alloc (.cells #[.int .i64 x1, .int .i64 x2, .int .i64 x3, .slice A' nx c'] 65)).cell? ⟨(ae.add (k * 4)).block, (ae.add (k * 4)).off + 2, none⟩ = some (.int .i64 y3) ∧ (wr.alloc (.cells #[.int .i64 x1, .int .i64 x2, .int .i64 x3, .slice A' nx c'] 65)).cell? ⟨(ae.add (k * 4)).block, (ae.add (k * 4)).off + 3, none⟩ = some (.slice B' ny d') := HD.out _ (below_one _ _)
    cases z
    ·have HF := Lib.hid (HN.out rfl)
     clear HY HN
     go_wp2_with fail
     (with_reducible refine (HC.out _ BB.out).mono ?_)
     rintro e w1 ⟨rfl, hb⟩
     have B1 := Lib.hid (below_after (below_after HW.out BB.out (Nat.le_refl _)) hb (Nat.le_refl _))
     clear hb
     go_wp2_with fail
     go_ret
     exact ⟨ret_bool HF.out.symm, B1.out⟩
    ·have HF := Lib.hid (HY.out rfl)
     clear HY HN
     go_wp2_with fail
     (with_reducible refine (HC.out _ BB.out).mono ?_)
     rintro e w1 ⟨rfl, hb⟩
     have B1 := Lib.hid (below_after (below_after HW.out BB.out (Nat.le_refl _)) hb (Nat.le_refl _))
     clear hb
     go_wp2_with fail
     go_roundw
     case rel => exact ⟨k + 1, by omega, by go_num, HF, B1⟩
     case measure => simp [intOf]; omega
   ·have hd : decide ((k : Int) < (l.length : Int)) = false := by simp; omega
    have HS := Lib.hid (sameR_all HL.out fun j h h2 => HT.out j h h2 (by omega))
    go_wp2_with fail
    go_ret
    exact ⟨ret_bool HS.out.symm, HW.out⟩
 ·have hd : ((l.length : Int) != (m.length : Int)) = true := by simp; omega
  have HS := Lib.hid (sameR_len hlm)
  clear hlm
  go_enter Tryz.func151, Tryz.ntmps151
  go_wp2_with fail
  go_ret
  exact ⟨ret_bool HS.out.symm, Below.refl _ _⟩
end Go.Proofs.YtgphiggbajbmhaaGreatDoor
namespace Go.Proofs.YtgphiggbajbmhaaGreatDoor
open Go Go.RowKit Ros
theorem ms_lit (W : World) (l : List Mm) : Ms (W.alloc (.cells (flatR encM l).toArray 34)) (.slice (some ⟨W.heap.size, 0, none⟩) l.length l.length) l := rcs_lit encM_len W l _ 34 (by simp)
def WkG (w : World) (X : Nat) (W : World) : Prop := MBox W X 1 1 3 2 ∧ Below w.heap.size w W
theorem WkG.step {w : World} {X : Nat} {W W' : World} (h : WkG w X W) (hb : Below W.heap.size W W') : WkG w X W' := ⟨mbox_below h.1 hb, below_after h.2 hb (Nat.le_refl _)⟩
end Go.Proofs.YtgphiggbajbmhaaGreatDoor
namespace Go.Proofs.YtgphiggbajbmhaaGreatDoor
open Go Go.RowKit Ros
theorem act_eta (a : Act) (n : Nat) (h : a.tmps.size = n) : a = ⟨((List.range n).map fun k => a.tmps.getD k undef).toArray, a.defers⟩ := by
 obtain ⟨t, d⟩ := a
 congr 1
 apply Array.ext_getElem?
 intro i
 by_cases hi : i < n
 ·have h2 : i < t.size := by rw [show t.size = n from h]; exact hi
  rw [Array.getElem?_eq_getElem h2, Array.getElem?_eq_getElem (by simpa using hi)]
  simp [Array.getD, h2]
 ·have h2 : ¬ i < t.size := by rw [show t.size = n from h]; exact hi
  rw [Array.getElem?_eq_none (by omega), Array.getElem?_eq_none (by simpa using hi)]
end Go.Proofs.YtgphiggbajbmhaaGreatDoor
namespace Go.Proofs.YtgphiggbajbmhaaGreatDoor
open Go Go.RowKit Sets RowSets
theorem joinR_cases {a b : List Row} {r : Row} (h : r ∈ joinR a b) : r ∈ a ∨ r ∈ b ∨ ∃ s t, (r.1, r.2.1, s) ∈ a ∧ (r.1, r.2.1, t) ∈ b ∧ r.2.2 = join s t := by
 have h := get_of_mem (up_joinR a b) h
 rw [get_joinR] at h
 rcases h1 : get a r.1 with _ | s
 ·rw [h1] at h
  exact .inr (.inl (get_mem (show get b r.1 = some r.2 from h)))
 ·rcases h2 : get b r.1 with _ | t
  ·rw [h1, h2, two_none] at h
   exact .inl (by have := get_mem h1; rw [Option.some.inj h] at this; exact this)
  ·rw [h1, h2] at h
   simp only [two] at h
   split at h
   ·exact .inl (by have := get_mem h1; rw [Option.some.inj h] at this; exact this)
   ·split at h
    ·exact .inr (.inl (by have := get_mem h2; rw [Option.some.inj h] at this; exact this))
    ·have e := Option.some.inj h
     have e1 : r.2.1 = s.1 := by rw [← e]
     have e2 : r.2.2 = join s.2 t.2 := by rw [← e]
     have e3 : t.1 = s.1 := by omega
     refine .inr (.inr ⟨s.2, t.2, ?_, ?_, e2⟩)
     ·rw [e1]; exact get_mem h1
     ·rw [e1, ← e3]; exact get_mem h2
theorem join_lenROW (s t : List Id2) : (join s t).length ≤ s.length + t.length := by
 unfold join
 exact Nat.le_trans (setOf_len _) (by simp)
theorem nots_joinR {a b : List Row} {n m : Nat} (ha : ∀ r ∈ a, r.2.2.length ≤ n) (hb : ∀ r ∈ b, r.2.2.length ≤ m) : ∀ r ∈ joinR a b, r.2.2.length ≤ n + m := by
 intro r hr
 rcases joinR_cases hr with h | h | ⟨s, t, h1, h2, e⟩
 ·have := ha r h; omega
 ·have := hb r h; omega
 ·have h3 := ha _ h1
  have h4 := hb _ h2
  have h5 := join_lenROW s t
  rw [e]
  dsimp only at h3 h4
  omega
def Lens (n m : Nat) (l : List Row) : Prop := l.length ≤ n ∧ ∀ r ∈ l, r.2.2.length ≤ m
theorem Lens.joinR {a b : List Row} {n m n' m' : Nat} (ha : Lens n m a) (hb : Lens n' m' b) : Lens (n + n') (m + m') (joinR a b) := ⟨Nat.le_trans (joinR_len a b) (by have := ha.1; have := hb.1; omega), nots_joinR ha.2 hb.2⟩
theorem Lens.small {l : List Row} {n m : Nat} (h : Lens n m l) (hn : n ≤ 1000) (hm : m ≤ 20000) : Small l := ⟨Nat.le_trans h.1 hn, fun r hr => Nat.le_trans (h.2 r hr) hm⟩
theorem Lens.nots {l : List Row} {n m : Nat} (h : Lens n m l) {k : Nat} (hm : m ≤ k) : ∀ r ∈ l, r.2.2.length ≤ k := fun r hr => Nat.le_trans (h.2 r hr) hm
end Go.Proofs.YtgphiggbajbmhaaGreatDoor
namespace Go.Proofs.YtgphiggbajbmhaaGreatDoor
open Go Go.RowKit Sets RowSets
def Sorted (qs : List Raw) : Prop := Rises (qs.map (·.1))
theorem sorted_cmp {qs : List Raw} (h : Sorted qs) {i j : Nat} (hij : i < j) (hj : j < qs.length) : cmpZ qs[j].1.1 qs[j].1.2 (qs[i]'(by omega)).1.1 (qs[i]'(by omega)).1.2 = 1 := by
 have hl : lt (qs[i]'(by omega)).1 qs[j].1 := by
  have := List.pairwise_iff_getElem.1 h i j (by simpa using (by omega : i < qs.length)) (by simpa using hj) hij
  simpa using this
 rw [cmpZ_eq, if_neg (lt_asymm hl), if_pos hl]
set_option maxHeartbeats 2000000 in
theorem insertion_any (v : Value) (qs : List Raw) (a b : Nat) (w : World) (h : Rcs encW 4 w v qs) (hs : Sorted qs) (hl : qs.length ≤ 100000) (hab : a ≤ b) (hb : b ≤ qs.length) :
  Calls Tryz.prog 205 #[v, .int .i64 a, .int .i64 b, .func (.func 183) #[] #[]] w fun e w' => e = .returned (.tuple #[]) ∧ Below w.heap.size w w' := by
 have HI := Lib.hid h
 have HO := Lib.hid hs
 obtain ⟨A, c, rfl, hz⟩ := h
 clear hz hs
 have j0 : IntKind.i64.wrap ((a : Int) + 1) = (a : Int) + 1 := IntWalk.i64_in _ ⟨by omega, by omega⟩
 go_enter Tryz.func205, Tryz.ntmps205
 go_wp2_with fail
 clear j0
 go_loopw [8] (fun s8 wr => ∃ k : Nat, a < k ∧ k ≤ b + 1 ∧ s8 = .int .i64 k ∧ Hid (Below w.heap.size w wr)) (fun s8 _ => b + 1 - (intOf s8).toNat)
 case atStart => exact ⟨a + 1, by omega, by omega, by go_num, Lib.hid (Below.refl _ _)⟩
 case round =>
  obtain ⟨k, hak, hkb, rfl, HW⟩ := hrel
  obtain ⟨j, rfl⟩ : ∃ j, k = j + 1 := ⟨k - 1, by omega⟩
  by_cases hlt : j + 1 < b
  ·have hd : decide (((j : Int) + 1) < (b : Int)) = true := decide_eq_true (by omega)
   have hd2 : decide ((a : Int) < ((j : Int) + 1)) = true := decide_eq_true (by omega)
   have hk1 : j + 1 < qs.length := by omega
   have hk2 : j < qs.length := by omega
   have HC := Lib.hid (sorted_cmp HO.out (show j < j + 1 by omega) hk1)
   have i1 : IntKind.i64.wrap ((j : Int) + 1 - 1) = (j : Int) := by rw [IntWalk.i64_in _ ⟨by omega, by omega⟩]; omega
   have i2 : IntKind.i64.wrap (j : Int) = (j : Int) := IntWalk.i64_in _ ⟨by omega, by omega⟩
   have i3 : (0 : Int) ≤ (j : Int) := by omega
   have i4 : (j : Int) < (qs.length : Int) := by omega
   have i5 : (0 : Int) ≤ (j : Int) + 1 := by omega
   have i6 : (j : Int) + 1 < (qs.length : Int) := by omega
   have i7 : ((j : Int) + 1).toNat = j + 1 := by omega
   obtain ⟨ad, rfl⟩ := HI.out.addr (by omega)
   have HS := Lib.hid fun w' (hb : Below w.heap.size w w') => And.intro (HI.out.raw hb (k := j + 1) hk1) (And.intro (HI.out.raw hb (k := j) hk2) hb)
   generalize qs[j + 1].1.1 = a1 at *
   generalize qs[j + 1].1.2 = i1 at *
   generalize qs[j + 1].2.1 = n1 at *
   generalize qs[j + 1].2.2.1 = B1 at *
   generalize qs[j + 1].2.2.2.1 = m1 at *
   generalize qs[j + 1].2.2.2.2 = d1 at *
   generalize qs[j].1.1 = a2 at *
   generalize qs[j].1.2 = i2 at *
   generalize qs[j].2.1 = n2 at *
   generalize qs[j].2.2.1 = B2 at *
   generalize qs[j].2.2.2.1 = m2 at *
   generalize qs[j].2.2.2.2 = d2 at *
   have HQ := Lib.hid fun w' (hb : Below w.heap.size w w') => (show (w'.cell? (ad.add ((j + 1) * 4)) = some (.int .i64 a1) ∧ w'.cell? ⟨(ad.add ((j + 1) * 4)).block, (ad.add ((j + 1) * 4)).off + 1, none⟩ = some (.int .i64 i1) ∧ w'.cell? ⟨(ad.add ((j + 1) * 4)).block, (ad.add ((j + 1) * 4)).off + 2, none⟩ = some (.int .i64 n1) ∧ w'.cell? ⟨(ad.add ((j + 1) * 4)).block, (ad.add ((j + 1) * 4)).off + 3, none⟩ = some (.slice B1 m1 d1)) ∧ (w'.cell? (ad.add (j * 4)) = some (.int .i64 a2) ∧ w'.cell? ⟨(ad.add (j * 4)).block, (ad.add (j * 4)).off + 1, none⟩ = some (.int .i64 i2) ∧ w'.cell? ⟨(ad.add (j * 4)).block, (ad.add (j * 4)).off + 2, none⟩ = some (.int .i64 n2) ∧ w'.cell? ⟨(ad.add (j * 4)).block, (ad.add (j * 4)).off + 3, none⟩ = some (.slice B2 m2 d2)) ∧ Hid (Below w.heap.size w w') from by
    obtain ⟨⟨x, e, x1⟩, ⟨y, e2, y1⟩, hb⟩ := HS.out w' hb
    injection e with e
    injection e2 with e2
    subst e e2
    exact ⟨x1, y1, Lib.hid hb⟩)
   clear HS
   go_wp2_with fail
   refine wp_loop_rounds 1 ?_
   rw [rounds_succ]
   go_wp2_with fail
   go_region_held3 (fun w' => (w'.cell? (ad.add ((j + 1) * 4)) = some (.int .i64 a1) ∧ w'.cell? ⟨(ad.add ((j + 1) * 4)).block, (ad.add ((j + 1) * 4)).off + 1, none⟩ = some (.int .i64 i1) ∧ w'.cell? ⟨(ad.add ((j + 1) * 4)).block, (ad.add ((j + 1) * 4)).off + 2, none⟩ = some (.int .i64 n1) ∧ w'.cell? ⟨(ad.add ((j + 1) * 4)).block, (ad.add ((j + 1) * 4)).off + 3, none⟩ = some (.slice B1 m1 d1)) ∧ (w'.cell? (ad.add (j * 4)) = some (.int .i64 a2) ∧ w'.cell? ⟨(ad.add (j * 4)).block, (ad.add (j * 4)).off + 1, none⟩ = some (.int .i64 i2) ∧ w'.cell? ⟨(ad.add (j * 4)).block, (ad.add (j * 4)).off + 2, none⟩ = some (.int .i64 n2) ∧ w'.cell? ⟨(ad.add (j * 4)).block, (ad.add (j * 4)).off + 3, none⟩ = some (.slice B2 m2 d2)) ∧ Hid (Below w.heap.size w w'))
    (first | exact HQ.out _ HW.out.drew | exact HQ.out _ HK.out)
    (first | (go_at_call 183; (with_reducible refine (cmpW_any _ _ _ _ _ _ _ _ _ _ _ _ _).mono ?_); rw [HC.out]; rintro e w' ⟨rfl, hb⟩; have HK := Lib.hid (below_after HW.out.drew hb (Nat.le_refl _)); clear hb))
   go_wp2_with fail
   go_roundw
   case rel => exact ⟨j + 2, by omega, by omega, by go_num, Hid.out (by assumption)⟩
   case measure => simp [intOf]; omega
  ·have hd : decide (((j : Int) + 1) < (b : Int)) = false := decide_eq_false (by omega)
   go_wp2_with fail
   go_end0
   exact ⟨rfl, HW.out⟩
end Go.Proofs.YtgphiggbajbmhaaGreatDoor
