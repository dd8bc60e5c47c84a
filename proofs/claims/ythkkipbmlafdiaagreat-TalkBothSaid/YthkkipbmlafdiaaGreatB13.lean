/-
  Contracts and plain facts.
-/
import Derived.Test.YthkkipbmlafdiaaGreatOy
import Derived.Lib.SliceRun
import Derived.Deep.QuietTactic
import Derived.Test.YthkkipbmlafdiaaGreatB03
import Derived.Test.YthkkipbmlafdiaaGreatB04
import Derived.Test.YthkkipbmlafdiaaGreatB07
import Derived.Test.YthkkipbmlafdiaaGreatB10
import Derived.Test.YthkkipbmlafdiaaGreatB12
set_option maxRecDepth 20000
namespace Go.Proofs.YthkkipbmlafdiaaGreat
section
open Go.RowKit Go.Shelf Go.Sort Sets Clocks
theorem swo_cmpT : Go.Sort.SWO (ltOf cmpT) where
 irrefl x := by rw [ltOf_cmpT]; exact decide_eq_false (tlt_irrefl x)
 trans x y z h k := by
  rw [ltOf_cmpT] at *;exact decide_eq_true (tlt_trans (of_decide_eq_true h) (of_decide_eq_true k))
 ntrans x y z h k := by
  rw [ltOf_cmpT] at *;exact decide_eq_false (tlt_ntrans (of_decide_eq_false h) (of_decide_eq_false k))
theorem holdsK_row {w : World} {g : Nat} {d : Array Tick} (h : RowAt w g d) : HoldsK encT 3 w g 0 d := by
 intro j hj;rw [size_flatK] at hj;rw [get_flatK _ _ _ _ hj];have h1 : j / 3 < d.size := by omega
 have h2 : j % 3 < 3 := Nat.mod_lt _ (by omega)
 obtain ⟨⟨c1, c2, c3⟩, f1, f2, f3⟩ := h.2 (j / 3) h1;have e : 0 + j = j / 3 * 3 + j % 3 := by omega
 rw [e];generalize j % 3 = r at *;generalize j / 3 = q at *;match r, h2 with
 | 0, _ => exact ⟨c1, f1⟩
 | 1, _ => exact ⟨c2, f2⟩
 | 2, _ => exact ⟨c3, f3⟩
theorem row_holdsK {w : World} {g : Nat} {d : Array Tick} (hg : g < w.heap.size) (h : HoldsK encT 3 w g 0 d) : RowAt w g d := by
 refine ⟨hg, fun k hk => ?_⟩
 have h0 := h.cell hk (c := 0) (by omega)
 have h1 := h.cell hk (c := 1) (by omega)
 have h2 := h.cell hk (c := 2) (by omega)
 rw [Nat.zero_add] at h0 h1 h2;exact ⟨⟨h0.1, h1.1, h2.1⟩, h0.2, h1.2, h2.2⟩
theorem grown_sorted {w : World} {g n : Nat} {os : Array Obj} (d : Array Tick) : w.grownBy (sortWorldK encT 3 w g 0 n d os) (some g) := by
 refine ⟨rfl, rfl, rfl, by simp [sortWorldK, Go.Sort.putRowK, Go.Sort.putRow, Go.Sort.mapBlock, Go.Sort.grow, Go.Sort.ahead], fun k hk hne => ?_⟩
 unfold sortWorldK;rw [Go.Sort.heap_grow_old _ _ (by simpa [Go.Sort.putRowK, Go.Sort.putRow, Go.Sort.mapBlock, Go.Sort.ahead] using hk)]
 have : g ≠ k := fun e => hne (by rw [e])
 simp [Go.Sort.putRowK, Go.Sort.putRow, Go.Sort.mapBlock, Go.Sort.ahead, Array.getElem?_modify, this]
theorem perm_all {d d' : Array Tick} (h : Go.Sort.PermIn 0 d.size d d') : d'.size = d.size ∧ d'.toList.Perm d.toList := by
 obtain ⟨h1, _, h3⟩ := h;refine ⟨h1, ?_⟩
 have e1 : d'.extract 0 d.size = d' := by rw [← h1]; simp
 have e2 : d.extract 0 d.size = d := by simp
 rwa [e1, e2] at h3
theorem sorted_all {d : Array Tick} (h : Go.Sort.SortedIn (ltOf cmpT) 0 d.size d) : d.toList.Pairwise fun s t => ¬ tlt t s := by
 rw [List.pairwise_iff_getElem];intro i j hi hj hij;have hi2 : i < d.size := by simpa using hi
 have hj2 : j < d.size := by simpa using hj
 have := h i j (Nat.zero_le _) hij hj2
 rw [ltOf_cmpT, getElem!_pos d i hi2, getElem!_pos d j hj2] at this;simpa using of_decide_eq_false this
theorem sort_any (g cap : Nat) (d : Array Tick) (w : World) (h : RowAt w g d) (hn : d.size ≤ 100000) :
  Calls Tryz.prog 179 #[.slice (some ⟨g, 0, none⟩) d.size cap, .func (.func 180) #[] #[]] w fun e w' => e = .returned (.tuple #[]) ∧ ∃ d', d'.size = d.size ∧ d'.toList.Perm d.toList ∧ (d'.toList.Pairwise fun s t => ¬ tlt t s) ∧ RowAt w' g d' ∧ w.grownBy w' (some g) := by
 have eg : ∀ args w, (callFunc 180 args).run Tryz.prog w = .ok (.enter 180 args) w := enters_of Tryz.func180 (by kernel_rfl) rfl
 have hcmp : CmpLays Tryz.prog 180 #[] encT 3 cmpT g 0 d.size w := fun m os dk _ x y => ordT_any x.1.1 x.1.2 x.2 y.1.1 y.1.2 y.2 _
 have hH := holdsK_row h;have hcon := AnyQ.slices_SortFunc sortT 3 Tryz.isAgg53 Tryz.sizeOf53 encT encT_len encT_one cmpT swo_cmpT 180 #[] g 0 cap d w eg hcmp hH h.1 (by omega)
 refine hcon.mono ?_
 rintro e w' ⟨he, d', n, os, hp, hs, rfl⟩;obtain ⟨p1, p2⟩ := perm_all hp;refine ⟨he, d', p1, p2, sorted_all (by rw [p1]; exact hs), ?_, grown_sorted d'⟩
 exact row_holdsK (lt_sortWorldK encT 3 w g 0 n d' os h.1) (holdsK_sortWorldK encT 3 w g 0 n d d' os h.1 hH p1)
end
section
open Go.RowKit Sets Clocks
theorem info35 : (Tryz.prog.info? 53).map (fun i => (i.zero, i.size, i.bytes)) = some (some (.agg #[.int .i64 0, .int .i64 0, .int .i64 0]), 3, 0x18) := by kernel_rfl
theorem Rcs.tick {w w' : World} {A : Option Addr} {n c : Nat} {l : List Tick} (h : Rcs encT 3 w (.slice A n c) l) (hw : Below w.heap.size w w') {k : Nat} (hk : k < l.length) :
  ∃ ad, A = some ad ∧ w'.cell? (ad.add (k * 3)) = some (.int .i64 l[k].1.1) ∧ w'.cell? ⟨(ad.add (k * 3)).block, (ad.add (k * 3)).off + 1, none⟩ = some (.int .i64 l[k].1.2) ∧ w'.cell? ⟨(ad.add (k * 3)).block, (ad.add (k * 3)).off + 2, none⟩ = some (.int .i64 l[k].2) := by
 obtain ⟨ad, rfl⟩ := h.addr (by omega)
 exact ⟨ad, rfl, h.first hw hk rfl, h.cell hw hk 1 (by omega) rfl, h.cell hw hk 2 (by omega) rfl⟩
theorem clone_any (v : Value) (l : List Tick) (w : World) (h : Rcs encT 3 w v l) (hl : l.length ≤ 100000) :
  Calls Tryz.prog 177 #[v] w fun e w' => ∃ v', e = .returned v' ∧ OwnsR encT 3 53 w' w.heap.size v' l ∧ Below w.heap.size w w' := by
 have q24 : ∀ (w : World) (a : Option Addr) (n c n' c' : Nat), (binOp .eql 25 (.slice a n c) (.slice none n' c')).run Tryz.prog w = .ok (.bool a.isNone) w := fun w a n c n' c' => Lib.run_eql_slice_nil w _ _ a n c n' c' Tryz.underlying25
 rcases h.shape with ⟨rfl, rfl⟩ | ⟨ad, c, rfl, hc⟩
 ·go_enter Tryz.func177, Tryz.ntmps177
  go_wp2
  go_ret;exact ⟨_, rfl, OwnsR.nil _ _ _, Below.refl _ _⟩
 ·have HI := hd_ h
  clear h;go_enter Tryz.func177, Tryz.ntmps177
  go_wp2_with (at_builtin; refine wpList_append_recs 25 53 Tryz.underlying25 info35 rfl encT_len (by omega) encT_one (by omega) rfl (.tmp 5) (.tmp 6) rfl _ w.heap.size _ _ [] l rfl rfl (World.ownsRow_made w #[] 0 (Nat.le_refl _) (Nat.zero_le _) (by simp)) (HI.out.below ((Below.refl _ _).alloc (Nat.le_refl _) _)) (by simpa using hl) (by simp) ?_; intro v' w' h1 h2)
  go_wp2
  go_ret;exact ⟨_, rfl, h1, ((Below.refl _ _).alloc (Nat.le_refl _) _).trans h2⟩
def FoundCLK (d : Array Tick) (r : Int) : Prop := (r = -1 ∧ ∀ j, j < d.size → 0 < d[j]!.2) ∨ ∃ k : Nat, r = k ∧ k < d.size ∧ d[k]!.2 ≤ 0 ∧ ∀ j, j < k → 0 < d[j]!.2
set_option maxHeartbeats 1000000 in
theorem index_anyCLK (v : Value) (d : Array Tick) (w : World) (h : Rcs encT 3 w v d.toList) (hl : d.size ≤ 100000) :
  Calls Tryz.prog 196 #[v, .func (.func 178) #[] #[]] w fun e w' => (∃ r, e = .returned (.int .i64 r) ∧ FoundCLK d r) ∧ Below w.heap.size w w' := by
 have HI := hd_ h;obtain ⟨A, c, rfl, hz⟩ := h;clear hz;have hlen : d.toList.length = d.size := by simp
 rw [hlen] at HI ⊢;go_enter Tryz.func196, Tryz.ntmps196
 go_wp2_with fail;go_loopw [8] (fun s3 wr => ∃ k : Nat, k ≤ d.size ∧ s3 = .int .i64 k ∧ (∀ j, j < k → 0 < d[j]!.2) ∧ Below w.heap.size w wr) (fun s3 _ => d.size - (intOf s3).toNat)
 case atStart => exact ⟨0, by omega, rfl, fun j hj => absurd hj (by omega), Below.refl _ _⟩
 case round =>
  obtain ⟨k, hkl, rfl, ht, hw⟩ := hrel;have HT := hd_ ht;have HW := hd_ hw;clear ht hw;have i3 : (0 : Int) ≤ (k : Int) := by omega
  by_cases hlt : k < d.size
  ·have hd : decide ((k : Int) < (d.size : Int)) = true := by simp; omega
   have i4 : (k : Int) < (d.size : Int) := by omega
   obtain ⟨ad, rfl, c1, c2, c3⟩ := HI.out.tick HW.out (k := k) (by simpa using hlt)
   have HE := hd_ (show d.toList[k]'(by simpa using hlt) = d[k]! by rw [getElem!_pos d k hlt]; simp)
   rw [HE.out] at c1 c2 c3;have HC := hd_ fun W => zeroN_any d[k]!.1.1 d[k]!.1.2 d[k]!.2 W
   by_cases hn : d[k]!.2 ≤ 0
   ·have hv : decide (d[k]!.2 ≤ 0) = true := decide_eq_true hn
    rw [hv] at HC;have HF : Hid (FoundCLK d k) := hd_ (.inr ⟨k, rfl, hlt, hn, HT.out⟩)
    clear hv hn;generalize d[k]!.1.1 = a at *;generalize d[k]!.1.2 = i at *;generalize d[k]!.2 = n at *;go_wp2_with (go_at_call 178; refine (HC.out _).mono ?_; rintro e w1 ⟨rfl, hb⟩; have HB := hd_ (ba_ HW.out hb); clear hb)
    go_ret;exact ⟨⟨_, rfl, HF.out⟩, HB.out⟩
   ·have hv : decide (d[k]!.2 ≤ 0) = false := decide_eq_false hn
    rw [hv] at HC
    have HF := hd_ (show ∀ j, j < k + 1 → 0 < d[j]!.2 from fun j hj => by
     by_cases e : j = k
     ·rw [e]; omega
     ·exact HT.out j (by omega))
    clear hv hn;generalize d[k]!.1.1 = a at *;generalize d[k]!.1.2 = i at *;generalize d[k]!.2 = n at *;go_wp2_with (go_at_call 178; refine (HC.out _).mono ?_; rintro e w1 ⟨rfl, hb⟩; have HB := hd_ (ba_ HW.out hb); clear hb)
    go_roundw
    case rel => exact ⟨k + 1, by omega, by go_num, HF.out, HB.out⟩
    case measure => simp [intOf]; omega
  ·have hd : decide ((k : Int) < (d.size : Int)) = false := by simp; omega
   have HF : Hid (FoundCLK d (-1)) := hd_ (.inl ⟨rfl, fun j hj => HT.out j (by omega)⟩)
   go_wp2_with fail;go_ret;exact ⟨⟨_, rfl, HF.out⟩, HW.out⟩
end
section
open Go Go.RowKit
theorem ticks_at {w w' : World} {A : Option Addr} {n c : Nat} {l : List Clocks.Tick} (h : Rcs encT 3 w (.slice A n c) l) (hw : Below w.heap.size w w') {k : Nat} (hk : k < l.length) :
  ∃ ad, A = some ad ∧ w'.cell? (ad.add (k * 3)) = some (.int .i64 l[k].1.1) ∧ w'.cell? ⟨(ad.add (k * 3)).block, (ad.add (k * 3)).off + 1, none⟩ = some (.int .i64 l[k].1.2) ∧ w'.cell? ⟨(ad.add (k * 3)).block, (ad.add (k * 3)).off + 2, none⟩ = some (.int .i64 l[k].2) := by
 obtain ⟨ad, rfl⟩ := h.addr (by omega)
 exact ⟨ad, rfl, h.first hw hk rfl, h.cell hw hk 1 (by omega) rfl, h.cell hw hk 2 (by omega) rfl⟩
theorem all_same {α : Type} {l m : List α} {k : Nat} (hl : l.length = m.length) (hk : l.length ≤ k) (ht : l.take k = m.take k) : l = m := by
 rwa [List.take_of_length_le hk, List.take_of_length_le (by omega)] at ht
set_option maxHeartbeats 4000000 in
theorem equalM_any (v u : Value) (l m : List Ros.Mm) (w : World) (h : Ms w v l) (h2 : Ms w u m) (hl : l.length ≤ 100000) :
  Calls Tryz.prog 144 #[v, u] w fun e w' => e = .returned (.bool (decide (l = m))) ∧ Below w.heap.size w w' := by
 have HI := hd_ h;have HJ := hd_ h2;obtain ⟨A, c, rfl, hz⟩ := h;obtain ⟨B, d, rfl, hy⟩ := h2;clear hz hy;by_cases hlm : l.length = m.length
 ·have hne : ((l.length : Int) != (m.length : Int)) = false := by simp; omega
  have HL := hd_ hlm;clear hlm;go_enter Tryz.func144, Tryz.ntmps144
  go_wp2_with fail;clear hne;go_loopw [13] (fun s5 wr => ∃ k : Nat, k ≤ l.length ∧ s5 = .int .i64 k ∧ Hid (l.take k = m.take k) ∧ Hid (Below w.heap.size w wr)) (fun s5 _ => l.length - (intOf s5).toNat)
  case atStart => exact ⟨0, by omega, rfl, hd_ rfl, hd_ (Below.refl _ _)⟩
  case round =>
   obtain ⟨k, hkl, rfl, HT, HW⟩ := hrel;have i3 : (0 : Int) ≤ (k : Int) := by omega
   by_cases hlt : k < l.length
   ·have hd : decide ((k : Int) < (l.length : Int)) = true := by simp; omega
    have hlt2 : k < m.length := by have := HL.out; omega
    have i4 : (k : Int) < (l.length : Int) := by omega
    have i5 : (k : Int) < (m.length : Int) := by omega
    obtain ⟨ad, rfl, c0, c1, c2, c3⟩ := Ms.at_ HI.out HW.out hlt;obtain ⟨ae, rfl, d0, d1, d2, d3⟩ := Ms.at_ HJ.out HW.out hlt2;have HS : Hid (l[k].1.1 = m[k].1.1 → l[k].1.2 = m[k].1.2 → l[k].2.1 = m[k].2.1 → l[k].2.2 = m[k].2.2 → l.take (k + 1) = m.take (k + 1)) := hd_ fun e0 e1 e2 e3 => same_next hlt hlt2 HT.out (by exact Prod.ext (Prod.ext e0 e1) (Prod.ext e2 e3))
    have HN0 : Hid (l[k].1.1 ≠ m[k].1.1 → l ≠ m) := hd_ fun e => same_not hlt hlt2 fun h => e (by rw [h])
    have HN1 : Hid (l[k].1.2 ≠ m[k].1.2 → l ≠ m) := hd_ fun e => same_not hlt hlt2 fun h => e (by rw [h])
    have HN2 : Hid (l[k].2.1 ≠ m[k].2.1 → l ≠ m) := hd_ fun e => same_not hlt hlt2 fun h => e (by rw [h])
    have HN3 : Hid (l[k].2.2 ≠ m[k].2.2 → l ≠ m) := hd_ fun e => same_not hlt hlt2 fun h => e (by rw [h])
    generalize l[k].1.1 = x0 at *;generalize m[k].1.1 = y0 at *;generalize l[k].1.2 = x1 at *;generalize m[k].1.2 = y1 at *;generalize l[k].2.1 = x2 at *;generalize m[k].2.1 = y2 at *;generalize l[k].2.2 = x3 at *;generalize m[k].2.2 = y3 at *;by_cases h0 : x0 = y0
    ·subst h0
     by_cases h1 : x1 = y1
     ·subst h1
      by_cases h2 : x2 = y2
      ·subst h2
       by_cases h3 : x3 = y3
       ·subst h3
        have HF := hd_ (HS.out rfl rfl rfl rfl);clear HS HN0 HN1 HN2 HN3;go_wp2_with fail;go_quiet (fail)
        go_wp2_with fail;go_roundw
        case rel => exact ⟨k + 1, by omega, by go_num, HF, hd_ (below_drewN HW.out)⟩
        case measure => simp [intOf]; omega
       ·have b3 : (x3 == y3) = false := by simpa using h3
        have HF := hd_ (HN3.out h3);clear HS HN0 HN1 HN2 HN3 h3;go_wp2_with fail;go_quiet (fail)
        go_wp2_with fail;go_ret;exact ⟨af_ (decide_eq_false HF.out).symm, below_drewN HW.out⟩
      ·have b2 : (x2 == y2) = false := by simpa using h2
       have HF := hd_ (HN2.out h2);clear HS HN0 HN1 HN2 HN3 h2;go_wp2_with fail;go_quiet (fail)
       go_wp2_with fail;go_ret;exact ⟨af_ (decide_eq_false HF.out).symm, below_drewN HW.out⟩
     ·have b1 : (x1 == y1) = false := by simpa using h1
      have HF := hd_ (HN1.out h1);clear HS HN0 HN1 HN2 HN3 h1;go_wp2_with fail;go_quiet (fail)
      go_wp2_with fail;go_ret;exact ⟨af_ (decide_eq_false HF.out).symm, below_drewN HW.out⟩
    ·have b0 : (x0 == y0) = false := by simpa using h0
     have HF := hd_ (HN0.out h0);clear HS HN0 HN1 HN2 HN3 h0;go_wp2_with fail;go_quiet (fail)
     go_wp2_with fail;go_ret;exact ⟨af_ (decide_eq_false HF.out).symm, below_drewN HW.out⟩
   ·have hd : decide ((k : Int) < (l.length : Int)) = false := by simp; omega
    have HS := hd_ (all_same HL.out (by omega) HT.out)
    go_wp2_with fail;go_ret;exact ⟨af_ (decide_eq_true HS.out).symm, HW.out⟩
 ·have hd : ((l.length : Int) != (m.length : Int)) = true := by simp; omega
  have HS := hd_ (show l ≠ m from fun e => hlm (by rw [e]))
  clear hlm;go_enter Tryz.func144, Tryz.ntmps144
  go_wp2_with fail;go_ret;exact ⟨af_ (decide_eq_false HS.out).symm, Below.refl _ _⟩
set_option maxHeartbeats 4000000 in
theorem equalT_any (v u : Value) (l m : List Clocks.Tick) (w : World) (h : Rcs encT 3 w v l) (h2 : Rcs encT 3 w u m) (hl : l.length ≤ 100000) :
  Calls Tryz.prog 85 #[v, u] w fun e w' => e = .returned (.bool (decide (l = m))) ∧ Below w.heap.size w w' := by
 have HI := hd_ h;have HJ := hd_ h2;obtain ⟨A, c, rfl, hz⟩ := h;obtain ⟨B, d, rfl, hy⟩ := h2;clear hz hy;by_cases hlm : l.length = m.length
 ·have hne : ((l.length : Int) != (m.length : Int)) = false := by simp; omega
  have HL := hd_ hlm;clear hlm;go_enter Tryz.func85, Tryz.ntmps85
  go_wp2_with fail;clear hne;go_loopw [13] (fun s5 wr => ∃ k : Nat, k ≤ l.length ∧ s5 = .int .i64 k ∧ Hid (l.take k = m.take k) ∧ Hid (Below w.heap.size w wr)) (fun s5 _ => l.length - (intOf s5).toNat)
  case atStart => exact ⟨0, by omega, rfl, hd_ rfl, hd_ (Below.refl _ _)⟩
  case round =>
   obtain ⟨k, hkl, rfl, HT, HW⟩ := hrel;have i3 : (0 : Int) ≤ (k : Int) := by omega
   by_cases hlt : k < l.length
   ·have hd : decide ((k : Int) < (l.length : Int)) = true := by simp; omega
    have hlt2 : k < m.length := by have := HL.out; omega
    have i4 : (k : Int) < (l.length : Int) := by omega
    have i5 : (k : Int) < (m.length : Int) := by omega
    obtain ⟨ad, rfl, c0, c1, c2⟩ := ticks_at HI.out HW.out hlt;obtain ⟨ae, rfl, d0, d1, d2⟩ := ticks_at HJ.out HW.out hlt2;have HS : Hid (l[k].1.1 = m[k].1.1 → l[k].1.2 = m[k].1.2 → l[k].2 = m[k].2 → l.take (k + 1) = m.take (k + 1)) := hd_ fun e0 e1 e2 => same_next hlt hlt2 HT.out (by exact Prod.ext (Prod.ext e0 e1) e2)
    have HN0 : Hid (l[k].1.1 ≠ m[k].1.1 → l ≠ m) := hd_ fun e => same_not hlt hlt2 fun h => e (by rw [h])
    have HN1 : Hid (l[k].1.2 ≠ m[k].1.2 → l ≠ m) := hd_ fun e => same_not hlt hlt2 fun h => e (by rw [h])
    have HN2 : Hid (l[k].2 ≠ m[k].2 → l ≠ m) := hd_ fun e => same_not hlt hlt2 fun h => e (by rw [h])
    generalize l[k].1.1 = x0 at *;generalize m[k].1.1 = y0 at *;generalize l[k].1.2 = x1 at *;generalize m[k].1.2 = y1 at *;generalize l[k].2 = x2 at *;generalize m[k].2 = y2 at *;by_cases h0 : x0 = y0
    ·subst h0
     by_cases h1 : x1 = y1
     ·subst h1
      by_cases h2 : x2 = y2
      ·subst h2
       have HF := hd_ (HS.out rfl rfl rfl);clear HS HN0 HN1 HN2;go_wp2_with fail;go_quiet (fail)
       go_wp2_with fail;go_roundw
       case rel => exact ⟨k + 1, by omega, by go_num, HF, hd_ (below_drewN HW.out)⟩
       case measure => simp [intOf]; omega
      ·have b2 : (x2 == y2) = false := by simpa using h2
       have HF := hd_ (HN2.out h2);clear HS HN0 HN1 HN2 h2;go_wp2_with fail;go_quiet (fail)
       go_wp2_with fail;go_ret;exact ⟨af_ (decide_eq_false HF.out).symm, below_drewN HW.out⟩
     ·have b1 : (x1 == y1) = false := by simpa using h1
      have HF := hd_ (HN1.out h1);clear HS HN0 HN1 HN2 h1;go_wp2_with fail;go_quiet (fail)
      go_wp2_with fail;go_ret;exact ⟨af_ (decide_eq_false HF.out).symm, below_drewN HW.out⟩
    ·have b0 : (x0 == y0) = false := by simpa using h0
     have HF := hd_ (HN0.out h0);clear HS HN0 HN1 HN2 h0;go_wp2_with fail;go_quiet (fail)
     go_wp2_with fail;go_ret;exact ⟨af_ (decide_eq_false HF.out).symm, below_drewN HW.out⟩
   ·have hd : decide ((k : Int) < (l.length : Int)) = false := by simp; omega
    have HS := hd_ (all_same HL.out (by omega) HT.out)
    go_wp2_with fail;go_ret;exact ⟨af_ (decide_eq_true HS.out).symm, HW.out⟩
 ·have hd : ((l.length : Int) != (m.length : Int)) = true := by simp; omega
  have HS := hd_ (show l ≠ m from fun e => hlm (by rw [e]))
  clear hlm;go_enter Tryz.func85, Tryz.ntmps85
  go_wp2_with fail;go_ret;exact ⟨af_ (decide_eq_false HS.out).symm, Below.refl _ _⟩
theorem sameM_is (v u : Value) (l m : List Ros.Mm) (w : World) (h : Ms w v l) (h2 : Ms w u m) (hl : l.length ≤ 100000) :
  Calls Tryz.prog 84 #[v, u] w fun e w' => e = .returned (.bool (decide (l = m))) ∧ Below w.heap.size w w' := by
 have HI := hd_ h;have HJ := hd_ h2;clear h h2;go_enter Tryz.func84, Tryz.ntmps84
 go_wp2_with fail;(with_reducible refine (equalM_any v u l m _ HI.out HJ.out hl).mono ?_)
 rintro e w1 ⟨rfl, hb⟩;have HB := hd_ hb;have HE : Hid (decide (l = m) = decide (l = m)) := hd_ rfl
 clear hb;generalize hz : decide (l = m) = z at *;rw [← hz] at HE;have HZ := hd_ hz;clear hz HE;go_wp2_with fail;go_ret;exact ⟨af_ HZ.out.symm, HB.out⟩
def sameW (r s : RowSets.Row) : Bool := decide (r.1.1 = s.1.1) && (decide (r.1.2 = s.1.2) && (decide (r.2.1 = s.2.1) && sameB (Sets.setOf r.2.2) (Sets.setOf s.2.2)))
set_option maxHeartbeats 4000000 in
theorem rowSame_any (a i n b j p : Int) (A : Option Addr) (x c : Nat) (B : Option Addr) (y d : Nat) (l m : List Sets.Id2) (w : World) (h : Ids w (.slice A x c) l) (k : Ids w (.slice B y d) m) (hl : l.length ≤ 40000) (hm : m.length ≤ 40000) :
  Calls Tryz.prog 99 #[.agg #[.int .i64 a, .int .i64 i, .int .i64 n, .slice A x c], .agg #[.int .i64 b, .int .i64 j, .int .i64 p, .slice B y d]] w fun e w' => e = .returned (.bool (sameW ((a, i), n, l) ((b, j), p, m))) ∧ Below w.heap.size w w' := by
 have BB := hd_ (below_two w (.cells #[.int .i64 a, .int .i64 i, .int .i64 n, .slice A x c] 68) (.cells #[.int .i64 b, .int .i64 j, .int .i64 p, .slice B y d] 68));have X1 := hd_ (ay_ (av_ w a i n (.slice A x c)) (ad_ _ (.cells #[.int .i64 b, .int .i64 j, .int .i64 p, .slice B y d] 68)));have X2 : Hid (WBox ((w.alloc (.cells #[.int .i64 a, .int .i64 i, .int .i64 n, .slice A x c] 68)).alloc (.cells #[.int .i64 b, .int .i64 j, .int .i64 p, .slice B y d] 68)) (w.heap.size + 1) b j p (.slice B y d)) := hd_ (by simpa using av_ (w.alloc (.cells #[.int .i64 a, .int .i64 i, .int .i64 n, .slice A x c] 68)) b j p (.slice B y d))
 have HI := hd_ (h.below BB.out);have HJ := hd_ (k.below BB.out);have HE : Hid (sameW ((a, i), n, l) ((b, j), p, m) = (decide (a = b) && (decide (i = j) && (decide (n = p) && sameB (Sets.setOf l) (Sets.setOf m))))) := hd_ rfl
 clear h k;obtain ⟨a1, a2, a3, a4⟩ := ai_ X1.out;obtain ⟨b1, b2, b3, b4⟩ := ai_ X2.out;generalize sameW ((a, i), n, l) ((b, j), p, m) = z0 at *;by_cases h1 : a = b
 ·subst h1
  by_cases h2 : i = j
  ·subst h2
   by_cases h3 : n = p
   ·subst h3
    rw [decide_eq_true rfl, decide_eq_true rfl, decide_eq_true rfl, Bool.true_and, Bool.true_and, Bool.true_and] at HE;go_enter Tryz.func99, Tryz.ntmps99
    go_wp2_with fail;(with_reducible refine (same_any _ _ l m _ HI.out HJ.out hl hm).mono ?_)
    rintro e w1 ⟨rfl, hb⟩;have HB := hd_ (ba_ BB.out hb);clear hb a1 a2 a3 a4 b1 b2 b3 b4;generalize sameB (Sets.setOf l) (Sets.setOf m) = z at *;go_wp2_with fail;go_ret;exact ⟨af_ HE.out.symm, HB.out⟩
   ·have h4 : (n == p) = false := by simpa using h3
    rw [decide_eq_true rfl, decide_eq_true rfl, decide_eq_false h3, Bool.true_and, Bool.true_and, Bool.false_and] at HE;clear h3;go_enter Tryz.func99, Tryz.ntmps99
    go_wp2_with fail;go_ret;exact ⟨af_ HE.out.symm, BB.out⟩
  ·have h4 : (i == j) = false := by simpa using h2
   rw [decide_eq_true rfl, decide_eq_false h2, Bool.true_and, Bool.false_and] at HE;clear h2;go_enter Tryz.func99, Tryz.ntmps99
   go_wp2_with fail;go_ret;exact ⟨af_ HE.out.symm, BB.out⟩
 ·have h4 : (a == b) = false := by simpa using h1
  rw [decide_eq_false h1, Bool.false_and] at HE;clear h1;go_enter Tryz.func99, Tryz.ntmps99
  go_wp2_with fail;go_ret;exact ⟨af_ HE.out.symm, BB.out⟩
def sameR : List RowSets.Row → List RowSets.Row → Bool
 | [], [] => true
 | r :: l, s :: m => sameW r s && sameR l m
 | _, _ => false
theorem sameR_len : ∀ {l m : List RowSets.Row}, l.length ≠ m.length → sameR l m = false
 | [], [], h => absurd rfl h
 | [], _ :: _, _ => rfl
 | _ :: _, [], _ => rfl
 | r :: l, s :: m, h => by rw [sameR, sameR_len (fun e => h (by simp [e])), Bool.and_false]
theorem sameR_at : ∀ {l m : List RowSets.Row} {k : Nat} (h : k < l.length) (h2 : k < m.length), sameW l[k] m[k] = false → sameR l m = false
 | r :: l, s :: m, 0, _, _, e => by
  have e : sameW r s = false := e
  rw [sameR, e, Bool.false_and]
 | r :: l, s :: m, k + 1, h, h2, e => by
  rw [sameR, sameR_at (l := l) (m := m) (k := k) (by simpa using h) (by simpa using h2) (by simpa using e), Bool.and_false]
theorem sameR_all : ∀ {l m : List RowSets.Row}, l.length = m.length → (∀ (k : Nat) (h : k < l.length) (h2 : k < m.length), sameW l[k] m[k] = true) → sameR l m = true
 | [], [], _, _ => rfl
 | [], _ :: _, h, _ => by simp at h
 | _ :: _, [], h, _ => by simp at h
 | r :: l, s :: m, h, e => by
  have e0 : sameW r s = true := e 0 (by simp) (by simp)
  rw [sameR, e0, Bool.true_and]
  exact sameR_all (by simpa using h) fun k h1 h2 => by
   have := e (k + 1) (by simpa using h1) (by simpa using h2)
   simpa using this
theorem rows_cells {w : World} {A : Option Addr} {n c : Nat} {l : List RowSets.Row} (h : RowsAt w (.slice A n c) l) {k : Nat} (hk : k < l.length) :
  ∃ ad B x d, A = some ad ∧ Ids w (.slice B x d) l[k].2.2 ∧ ∀ W, Below w.heap.size w W → W.cell? (ad.add (k * 4)) = some (.int .i64 l[k].1.1) ∧ W.cell? ⟨(ad.add (k * 4)).block, (ad.add (k * 4)).off + 1, none⟩ = some (.int .i64 l[k].1.2) ∧
   W.cell? ⟨(ad.add (k * 4)).block, (ad.add (k * 4)).off + 2, none⟩ = some (.int .i64 l[k].2.1) ∧ W.cell? ⟨(ad.add (k * 4)).block, (ad.add (k * 4)).off + 3, none⟩ = some (.slice B x d) := by
 obtain ⟨qs, h1, h2⟩ := h;have hl := h2.len;have hq : k < qs.length := by omega
 obtain ⟨r1, r2, r3⟩ := h2.at_ k hq hk;obtain ⟨ad, rfl⟩ := h1.addr (by omega)
 refine ⟨ad, qs[k].2.2.1, qs[k].2.2.2.1, qs[k].2.2.2.2, rfl, r3, fun W hb => ?_⟩
 rw [← r1, ← r2];exact ⟨h1.first hb hq rfl, h1.cell hb hq 1 (by omega) rfl, h1.cell hb hq 2 (by omega) rfl, h1.cell hb hq 3 (by omega) rfl⟩
set_option maxHeartbeats 4000000 in
theorem equalW_any (v u : Value) (l m : List RowSets.Row) (w : World) (h : RowsAt w v l) (h2 : RowsAt w u m) (hl : l.length ≤ 100000) (sl : ∀ r ∈ l, r.2.2.length ≤ 40000) (sm : ∀ r ∈ m, r.2.2.length ≤ 40000) :
  Calls Tryz.prog 98 #[v, u, .func (.func 99) #[] #[]] w fun e w' => e = .returned (.bool (sameR l m)) ∧ Below w.heap.size w w' := by
 have HI := hd_ h;have HJ := hd_ h2;obtain ⟨A, c, rfl, hz⟩ := h.shape;obtain ⟨B, d, rfl, hy⟩ := h2.shape;clear hz hy h h2;have SL := hd_ sl;have SM := hd_ sm;clear sl sm;have hK : ∀ args W, (callFunc 99 args).run Tryz.prog W = .ok (.enter 99 args) W := fun args W => enters_fn Tryz.func99 (by kernel_rfl) rfl args W
 by_cases hlm : l.length = m.length
 ·have hne : ((l.length : Int) != (m.length : Int)) = false := by simp; omega
  have HL := hd_ hlm;clear hlm;go_enter Tryz.func98, Tryz.ntmps98
  go_wp2_with fail;clear hne;go_loopw [17] (fun s5 wr => ∃ k : Nat, k ≤ l.length ∧ s5 = .int .i64 k ∧ Hid (∀ (j : Nat) (h : j < l.length) (h2 : j < m.length), j < k → sameW l[j] m[j] = true) ∧ Hid (Below w.heap.size w wr)) (fun s5 _ => l.length - (intOf s5).toNat)
  case atStart => exact ⟨0, by omega, rfl, hd_ (fun j _ _ h => by omega), hd_ (Below.refl _ _)⟩
  case round =>
   obtain ⟨k, hkl, rfl, HT, HW⟩ := hrel;have i3 : (0 : Int) ≤ (k : Int) := by omega
   by_cases hlt : k < l.length
   ·have hd : decide ((k : Int) < (l.length : Int)) = true := by simp; omega
    have hlt2 : k < m.length := by have := HL.out; omega
    have i4 : (k : Int) < (l.length : Int) := by omega
    have i5 : (k : Int) < (m.length : Int) := by omega
    obtain ⟨ad, A', nx, c', rfl, hs, hc⟩ := rows_cells HI.out hlt;obtain ⟨ae, B', ny, d', rfl, ht, hd2⟩ := rows_cells HJ.out hlt2;obtain ⟨c1, c2, c3, c4⟩ := hc _ HW.out;have HD := hd_ fun (W : World) (hb : Below wr.heap.size wr W) => hd2 W (ba_ HW.out hb)
    clear hc hd2;have HS := hd_ hs;have HU := hd_ ht
    have HY : Hid (sameW l[k] m[k] = true → ∀ (j : Nat) (h : j < l.length) (h2 : j < m.length), j < k + 1 → sameW l[j] m[j] = true) := hd_ fun e j h h2 hj => by
     by_cases e2 : j = k
     ·subst e2; exact e
     ·exact HT.out j h h2 (by omega)
    have HN := hd_ (sameR_at (l := l) (m := m) (k := k) hlt hlt2);have H1 := hd_ (SL.out _ (List.getElem_mem hlt));have H2 := hd_ (SM.out _ (List.getElem_mem hlt2));have HC := hd_ fun (W : World) (hb : Below wr.heap.size wr W) => rowSame_any l[k].1.1 l[k].1.2 l[k].2.1 m[k].1.1 m[k].1.2 m[k].2.1 A' nx c' B' ny d' l[k].2.2 m[k].2.2 W ((HS.out.below HW.out).below hb) ((HU.out.below HW.out).below hb) H1.out H2.out
    clear hs ht;clear HS HU H1 H2;generalize sameW l[k] m[k] = z at *;generalize l[k].1.1 = x1 at *;generalize l[k].1.2 = x2 at *;generalize l[k].2.1 = x3 at *;generalize l[k].2.2 = x4 at *;generalize m[k].1.1 = y1 at *;generalize m[k].1.2 = y2 at *;generalize m[k].2.1 = y3 at *;generalize m[k].2.2 = y4 at *;have BB := hd_ (below_two wr (.cells #[.int .i64 x1, .int .i64 x2, .int .i64 x3, .slice A' nx c'] 68) (.cells #[.int .i64 y1, .int .i64 y2, .int .i64 y3, .slice B' ny d'] 68));have X0 := hd_ (av_ wr x1 x2 x3 (.slice A' nx c'));have X1 := hd_ (ay_ X0.out (ad_ _ (.cells #[.int .i64 y1, .int .i64 y2, .int .i64 y3, .slice B' ny d'] 68)));have X2 : Hid (WBox ((wr.alloc (.cells #[.int .i64 x1, .int .i64 x2, .int .i64 x3, .slice A' nx c'] 68)).alloc (.cells #[.int .i64 y1, .int .i64 y2, .int .i64 y3, .slice B' ny d'] 68)) (wr.heap.size + 1) y1 y2 y3 (.slice B' ny d')) := hd_ (by simpa using av_ (wr.alloc (.cells #[.int .i64 x1, .int .i64 x2, .int .i64 x3, .slice A' nx c'] 68)) y1 y2 y3 (.slice B' ny d'))
    obtain ⟨k1, k2, k3, k4⟩ := ai_ (av_ wr 0 0 0 (.slice none 0 0));obtain ⟨f1, f2, f3, f4⟩ := wbox_free (av_ wr 0 0 0 (.slice none 0 0));have z2 := av_ (wr.alloc (.cells #[.int .i64 x1, .int .i64 x2, .int .i64 x3, .slice A' nx c'] 68)) 0 0 0 (.slice none 0 0);simp only [World.size_alloc] at z2;obtain ⟨l1, l2, l3, l4⟩ := ai_ z2;obtain ⟨g1, g2, g3, g4⟩ := wbox_free z2;clear z2;obtain ⟨p1, p2, p3, p4⟩ := ai_ X1.out;obtain ⟨q1, q2, q3, q4⟩ := ai_ X2.out;obtain ⟨d1', d2', d3', d4'⟩ : (wr.alloc (.cells #[.int .i64 x1, .int .i64 x2, .int .i64 x3, .slice A' nx c'] 68)).cell? (ae.add (k * 4)) = some (.int .i64 y1) ∧ (wr.alloc (.cells #[.int .i64 x1, .int .i64 x2, .int .i64 x3, .slice A' nx c'] 68)).cell? ⟨(ae.add (k * 4)).block, (ae.add (k * 4)).off + 1, none⟩ = some (.int .i64 y2) ∧ (wr.alloc (.cells #[.int .i64 x1, .int .i64 x2, .int .i64 x3, .slice A' nx c'] 68)).cell? ⟨(ae.add (k * 4)).block, (ae.add (k * 4)).off + 2, none⟩ = some (.int .i64 y3) ∧ (wr.alloc (.cells #[.int .i64 x1, .int .i64 x2, .int .i64 x3, .slice A' nx c'] 68)).cell? ⟨(ae.add (k * 4)).block, (ae.add (k * 4)).off + 3, none⟩ = some (.slice B' ny d') := HD.out _ (ad_ _ _);cases z
    ·have HF := hd_ (HN.out rfl)
     clear HY HN;go_wp2_with fail;(with_reducible refine (HC.out _ BB.out).mono ?_)
     rintro e w1 ⟨rfl, hb⟩;have B1 := hd_ (ah_ (ba_ HW.out BB.out) hb (Nat.le_refl _));clear hb;go_wp2_with fail;go_ret;exact ⟨af_ HF.out.symm, B1.out⟩
    ·have HF := hd_ (HY.out rfl)
     clear HY HN;go_wp2_with fail;(with_reducible refine (HC.out _ BB.out).mono ?_)
     rintro e w1 ⟨rfl, hb⟩;have B1 := hd_ (ah_ (ba_ HW.out BB.out) hb (Nat.le_refl _));clear hb;go_wp2_with fail;go_roundw
     case rel => exact ⟨k + 1, by omega, by go_num, HF, B1⟩
     case measure => simp [intOf]; omega
   ·have hd : decide ((k : Int) < (l.length : Int)) = false := by simp; omega
    have HS := hd_ (sameR_all HL.out fun j h h2 => HT.out j h h2 (by omega))
    go_wp2_with fail;go_ret;exact ⟨af_ HS.out.symm, HW.out⟩
 ·have hd : ((l.length : Int) != (m.length : Int)) = true := by simp; omega
  have HS := hd_ (sameR_len hlm);clear hlm;go_enter Tryz.func98, Tryz.ntmps98
  go_wp2_with fail;go_ret;exact ⟨af_ HS.out.symm, Below.refl _ _⟩
end
section
open Go Go.RowKit Ros
theorem mbox_set {w : World} {g : Nat} {a i s n : Int} (h : MBox w g a i s n) (a' i' s' n' : Int) : MBox ((((w.setCell ⟨g, 0, none⟩ (.int .i64 a')).setCell ⟨g, 1, none⟩ (.int .i64 i')).setCell ⟨g, 2, none⟩ (.int .u8 s')).setCell ⟨g, 3, none⟩ (.int .i64 n')) g a' i' s' n' := by
 unfold MBox at *;simp [World.setCell, Array.getElem?_modify, h]
theorem below_box {b0 : Nat} {a w : World} (h : Below b0 a w) (o : Obj) (hb : b0 ≤ a.heap.size) : Below b0 a (w.alloc o) := h.alloc (Nat.le_trans hb h.size) o
end
section
namespace Ros
def floorZ (f : List Id2) (a : Int) : Int := f.foldl (fun c x => if x.1 = a then max c x.2 else c) 0
theorem floorZ_next {f : List Id2} {a : Int} {k : Nat} (hk : k < f.length) : floorZ (f.take (k + 1)) a = if f[k].1 = a then max (floorZ (f.take k) a) f[k].2 else floorZ (f.take k) a := by
 unfold floorZ;rw [List.take_succ_eq_append_getElem hk, List.foldl_append];rfl
def goneB (f : List Id2) (x : Id2) : Bool := decide (x.2 ≤ floorZ f x.1)
def mayNum (s n : Int) : Bool := if s = 1 ∨ s = 2 then decide (n = 0) else if s = 3 ∨ s = 4 then decide (1 ≤ n ∧ n ≤ 1099511627776) else if s = 5 ∨ s = 6 then decide (0 ≤ n ∧ n ≤ 1099511627776) else false
def okF (f : List Id2) (k : Nat) : Bool := vid f[k]!.1 f[k]!.2 && (decide (k = 0) || decide (f[k - 1]!.1 < f[k]!.1))
def mayF (f : List Id2) : Bool := (List.range f.length).all (okF f)
theorem mayF_no {f : List Id2} {k : Nat} (hk : k < f.length) (h : okF f k = false) : mayF f = false := by
 unfold mayF;rw [List.all_eq_false];exact ⟨k, List.mem_range.2 hk, by rw [h]; simp⟩
theorem mayF_yes {f : List Id2} (h : ∀ k, k < f.length → okF f k = true) : mayF f = true := by
 unfold mayF;rw [List.all_eq_true];exact fun k hk => h k (List.mem_range.1 hk)
theorem okF_is {f : List Id2} {k : Nat} (hk : k < f.length) : okF f k = (vid f[k].1 f[k].2 && (decide (k = 0) || decide (f[k - 1].1 < f[k].1))) := by
 unfold okF;rw [getElem!_pos f k hk, getElem!_pos f (k - 1) (by omega)]
def okM (m : List Mm) (f : List Id2) (k : Nat) : Bool := vid m[k]!.1.1 m[k]!.1.2 && mayNum m[k]!.2.1 m[k]!.2.2 && !goneB f m[k]!.1 && (decide (k = 0) || decide (m[k - 1]!.1.1 < m[k]!.1.1))
def mayB (m : List Mm) (f : List Id2) : Bool := mayF f && (List.range m.length).all (okM m f)
theorem mayB_no {m : List Mm} {f : List Id2} {k : Nat} (hk : k < m.length) (h : okM m f k = false) : mayB m f = false := by
 unfold mayB
 have : (List.range m.length).all (okM m f) = false := by
  rw [List.all_eq_false];exact ⟨k, List.mem_range.2 hk, by rw [h]; simp⟩
 rw [this, Bool.and_false]
theorem mayB_yes {m : List Mm} {f : List Id2} (hf : mayF f = true) (h : ∀ k, k < m.length → okM m f k = true) : mayB m f = true := by
 unfold mayB;rw [hf, Bool.true_and, List.all_eq_true];exact fun k hk => h k (List.mem_range.1 hk)
theorem okM_is {m : List Mm} {f : List Id2} {k : Nat} (hk : k < m.length) : okM m f k = (vid m[k].1.1 m[k].1.2 && mayNum m[k].2.1 m[k].2.2 && !goneB f m[k].1 && (decide (k = 0) || decide (m[k - 1].1.1 < m[k].1.1))) := by
 unfold okM;rw [getElem!_pos m k hk, getElem!_pos m (k - 1) (by omega)]
end Ros
end
end Go.Proofs.YthkkipbmlafdiaaGreat
