/-
  Carried over and put together: contracts of this program's functions, and plain facts. No statement is proved in this text.
-/
import Derived.Deep.DeepCutAuto
import Derived.Test.YthkkipbmlafdiaaGreatN01
set_option maxRecDepth 20000
namespace Go.Proofs.YthkkipbmlafdiaaGreat
open Go.RowKit
def sameB (l m : List (Int × Int)) : Bool := decide (l = m)
theorem sameB_len {l m : List (Int × Int)} (h : l.length ≠ m.length) : sameB l m = false := by
 unfold sameB
 exact decide_eq_false fun e => h (by rw [e])
theorem sameB_at {l m : List (Int × Int)} {k : Nat} (h : k < l.length) (h2 : k < m.length) (hn : ¬ (l[k].1 = m[k].1 ∧ l[k].2 = m[k].2)) : sameB l m = false := by
 unfold sameB
 refine decide_eq_false fun e => hn ?_
 subst e
 exact ⟨rfl, rfl⟩
theorem take_same {l m : List (Int × Int)} {k : Nat} (h : k < l.length) (h2 : k < m.length) (ht : l.take k = m.take k) (e1 : l[k].1 = m[k].1) (e2 : l[k].2 = m[k].2) : l.take (k + 1) = m.take (k + 1) := by
 rw [List.take_succ_eq_append_getElem h, List.take_succ_eq_append_getElem h2, ht, Prod.ext e1 e2]
theorem sameB_all {l m : List (Int × Int)} {k : Nat} (hl : l.length = m.length) (hk : l.length ≤ k) (ht : l.take k = m.take k) : sameB l m = true := by
 rw [List.take_of_length_le hk, List.take_of_length_le (by omega)] at ht
 unfold sameB
 exact decide_eq_true ht
set_option maxHeartbeats 1000000 in
theorem equal_any (v u : Value) (l m : List (Int × Int)) (w : World) (h : Ids w v l) (k : Ids w u m) (hl : l.length ≤ 100000) :
  Calls Tryz.prog 83 #[v, u] w fun e w' => e = .returned (.bool (sameB l m)) ∧ Below w.heap.size w w' := by
 obtain ⟨A, c, rfl, hz⟩ := id h
 obtain ⟨B, d, rfl, hz2⟩ := id k
 clear hz hz2
 have HI := Lib.hid h
 have HJ := Lib.hid k
 clear h k
 by_cases hlm : l.length = m.length
 ·have hd : ((l.length : Int) != (m.length : Int)) = false := by simp; omega
  have HL := Lib.hid hlm
  go_enter Tryz.func83, Tryz.ntmps83
  clear hlm
  go_wp2_with fail
  clear hd
  go_loopw [13] (fun s5 wr => ∃ k : Nat, k ≤ l.length ∧ s5 = .int .i64 k ∧ l.take k = m.take k ∧ Below w.heap.size w wr) (fun s5 _ => l.length - (intOf s5).toNat)
  case atStart => exact ⟨0, by omega, rfl, rfl, Below.refl _ _⟩
  case round =>
   obtain ⟨k, hkl, rfl, ht, hw⟩ := hrel
   have HW := Lib.hid hw
   have HT := Lib.hid ht
   clear hw ht
   by_cases hlt : k < l.length
   ·have hd : decide ((k : Int) < (l.length : Int)) = true := by simp; omega
    have hlt2 : k < m.length := by have := HL.out; omega
    have i3 : (0 : Int) ≤ (k : Int) := by omega
    have i4 : (k : Int) < (l.length : Int) := by omega
    have i5 : (k : Int) < (m.length : Int) := by omega
    obtain ⟨ad, rfl, c1, c2⟩ := HI.out.at_ HW.out hlt
    obtain ⟨ae, rfl, c3, c4⟩ := HJ.out.at_ HW.out hlt2
    have HN := Lib.hid fun hn => sameB_at hlt hlt2 hn
    have HS := Lib.hid fun e1 e2 => take_same hlt hlt2 HT.out e1 e2
    generalize l[k].1 = a at *
    generalize l[k].2 = i at *
    generalize m[k].1 = b at *
    generalize m[k].2 = j at *
    by_cases hab : a = b
    ·subst hab
     by_cases hij : i = j
     ·subst hij
      go_wp2_with fail
      go_quiet (fail)
      go_wp2_with fail
      go_roundw
      case rel => exact ⟨k + 1, by omega, by go_num, by first | exact HS.out rfl rfl | exact HS.out trivial trivial, below_drewN HW.out⟩
      case measure => simp [intOf]; omega
     ·have h2 : (i == j) = false := by simpa using hij
      go_wp2_with fail
      go_quiet (fail)
      go_wp2_with fail
      go_ret
      exact ⟨ret_bool (HN.out fun h => hij h.2).symm, below_drewN HW.out⟩
    ·have h2 : (a == b) = false := by simpa using hab
     go_wp2_with fail
     go_quiet (fail)
     go_wp2_with fail
     go_ret
     exact ⟨ret_bool (HN.out fun h => hab h.1).symm, below_drewN HW.out⟩
   ·have hd : decide ((k : Int) < (l.length : Int)) = false := by simp; omega
    have HS := Lib.hid (sameB_all HL.out (by omega) HT.out)
    go_wp2_with fail
    go_ret
    exact ⟨ret_bool HS.out.symm, HW.out⟩
 ·have hd : ((l.length : Int) != (m.length : Int)) = true := by simp; omega
  have HS := Lib.hid (sameB_len hlm)
  clear hlm
  go_enter Tryz.func83, Tryz.ntmps83
  go_wp2_with fail
  go_ret
  exact ⟨ret_bool HS.out.symm, Below.refl _ _⟩
end Go.Proofs.YthkkipbmlafdiaaGreat
namespace Go.Proofs.YthkkipbmlafdiaaGreat
open Go.RowKit
def hasB (x : Int × Int) (l : List (Int × Int)) : Bool := decide (x ∈ l)
theorem hasB_yes {a i : Int} {l : List (Int × Int)} {k : Nat} (h : k < l.length) (e1 : l[k].1 = a) (e2 : l[k].2 = i) : hasB (a, i) l = true := by
 unfold hasB
 refine decide_eq_true ?_
 have : l[k] = (a, i) := Prod.ext e1 e2
 rw [← this]
 exact List.getElem_mem h
theorem hasB_next {a i : Int} {l : List (Int × Int)} {k : Nat} (h : k < l.length) (hn : hasB (a, i) (l.take k) = false) (hne : ¬ (l[k].1 = a ∧ l[k].2 = i)) : hasB (a, i) (l.take (k + 1)) = false := by
 unfold hasB at *
 have hn := of_decide_eq_false hn
 refine decide_eq_false fun hm => ?_
 rw [List.take_succ_eq_append_getElem h] at hm
 rcases List.mem_append.1 hm with e | e
 ·exact hn e
 ·have : (a, i) = l[k] := by simpa using e
  exact hne ⟨by rw [← this], by rw [← this]⟩
theorem hasB_none (x : Int × Int) (l : List (Int × Int)) : hasB x (l.take 0) = false := by simp [hasB]
theorem hasB_all {x : Int × Int} {l : List (Int × Int)} {k : Nat} (h : l.length ≤ k) (hn : hasB x (l.take k) = false) : hasB x l = false := by
 rwa [List.take_of_length_le h] at hn
theorem box_drewN {w : World} {g n : Nat} {a i : Int} (h : Box w g a i) : Box (w.drewN n) g a i := h
def Found (x : Int × Int) (l : List (Int × Int)) (w : World) (e : Ending) (w' : World) : Prop := ∃ z : Int, e = .returned (.int .i64 z) ∧ decide (0 ≤ z) = hasB x l ∧ Below w.heap.size w w'
theorem found {x : Int × Int} {l : List (Int × Int)} {w w' : World} {z : Int} (h : decide (0 ≤ z) = hasB x l) (hb : Below w.heap.size w w') : Found x l w (.returned (.int .i64 z)) w' := ⟨z, rfl, h, hb⟩
set_option maxHeartbeats 1000000 in
theorem index_any (v : Value) (l : List (Int × Int)) (a i : Int) (w : World) (h : Ids w v l) (hl : l.length ≤ 100000) :
  Calls Tryz.prog 146 #[v, .agg #[.int .i64 a, .int .i64 i]] w (Found (a, i) l w) := by
 obtain ⟨A, c, rfl, hz⟩ := id h
 clear hz
 have HI := Lib.hid h
 have HX := Lib.hid (box_new w a i)
 have HB := Lib.hid ((Below.refl w.heap.size w).alloc (Nat.le_refl _) (.cells #[.int .i64 a, .int .i64 i] 29))
 clear h
 go_enter Tryz.func146, Tryz.ntmps146
 go_wp2_with fail
 go_loopw [8] (fun s5 wr => ∃ k : Nat, k ≤ l.length ∧ s5 = .int .i64 k ∧ hasB (a, i) (l.take k) = false ∧ Box wr w.heap.size a i ∧ Below w.heap.size w wr) (fun s5 _ => l.length - (intOf s5).toNat)
 case atStart => exact ⟨0, by omega, rfl, hasB_none _ _, HX.out, HB.out⟩
 case round =>
  obtain ⟨k, hkl, rfl, ht, hx, hw⟩ := hrel
  have HW := Lib.hid hw
  have HT := Lib.hid ht
  have HY := Lib.hid hx
  clear hw ht hx
  by_cases hlt : k < l.length
  ·have hd : decide ((k : Int) < (l.length : Int)) = true := by simp; omega
   have i3 : (0 : Int) ≤ (k : Int) := by omega
   have i4 : (k : Int) < (l.length : Int) := by omega
   obtain ⟨ad, rfl, c1, c2⟩ := HI.out.at_ HW.out hlt
   obtain ⟨c3, c4⟩ := box_cells HY.out
   have HN := Lib.hid fun e1 e2 => hasB_yes (a := a) (i := i) hlt e1 e2
   have HS := Lib.hid fun hn => hasB_next hlt HT.out hn
   generalize l[k].1 = b at *
   generalize l[k].2 = j at *
   by_cases hab : a = b
   ·subst hab
    by_cases hij : i = j
    ·subst hij
     have HF := Lib.hid (show decide ((0 : Int) ≤ (k : Int)) = hasB (a, i) l by rw [HN.out rfl rfl]; simp)
     clear HN HS
     go_wp2_with fail
     go_quiet (fail)
     go_wp2_with fail
     go_ret
     exact found HF.out (below_drewN HW.out)
    ·have h2 : (i == j) = false := by simpa using hij
     have HF := Lib.hid (HS.out fun h => hij h.2.symm)
     clear HN HS
     go_wp2_with fail
     go_quiet (fail)
     go_wp2_with fail
     go_roundw
     case rel => exact ⟨k + 1, by omega, by go_num, HF.out, box_drewN HY.out, below_drewN HW.out⟩
     case measure => simp [intOf]; omega
   ·have h2 : (a == b) = false := by simpa using hab
    have HF := Lib.hid (HS.out fun h => hab h.1.symm)
    clear HN HS
    go_wp2_with fail
    go_quiet (fail)
    go_wp2_with fail
    go_roundw
    case rel => exact ⟨k + 1, by omega, by go_num, HF.out, box_drewN HY.out, below_drewN HW.out⟩
    case measure => simp [intOf]; omega
  ·have hd : decide ((k : Int) < (l.length : Int)) = false := by simp; omega
   have HS := Lib.hid (hasB_all (by omega) HT.out)
   go_wp2_with fail
   go_ret
   exact found (by rw [HS.out]; rfl) HW.out
theorem contains_any (v : Value) (l : List (Int × Int)) (a i : Int) (w : World) (h : Ids w v l) (hl : l.length ≤ 100000) :
  Calls Tryz.prog 89 #[v, .agg #[.int .i64 a, .int .i64 i]] w fun e w' => e = .returned (.bool (hasB (a, i) l)) ∧ Below w.heap.size w w' := by
 have HX := Lib.hid (box_new w a i)
 have HB := Lib.hid ((Below.refl w.heap.size w).alloc (Nat.le_refl _) (.cells #[.int .i64 a, .int .i64 i] 29))
 have HI := Lib.hid (h.below HB.out)
 clear h
 go_enter Tryz.func89, Tryz.ntmps89
 go_wp2_with fail
 refine (index_any v l a i _ HI.out hl).mono ?_
 rintro e w1 ⟨z, rfl, hz, hb⟩
 have HZ := Lib.hid hz
 have H1 := Lib.hid (below_after HB.out hb (Nat.le_refl _))
 clear hz hb
 by_cases h0 : 0 ≤ z
 ·have hd := decide_eq_true h0
  have HR := Lib.hid (show true = hasB (a, i) l by rw [← HZ.out, hd])
  clear h0
  go_wp2_with fail
  go_ret
  exact ⟨ret_bool HR.out, H1.out⟩
 ·have hd := decide_eq_false h0
  have HR := Lib.hid (show false = hasB (a, i) l by rw [← HZ.out, hd])
  clear h0
  go_wp2_with fail
  go_ret
  exact ⟨ret_bool HR.out, H1.out⟩
theorem has_any (v : Value) (l : List (Int × Int)) (a i : Int) (w : World) (h : Ids w v l) (hl : l.length ≤ 100000) :
  Calls Tryz.prog 40 #[v, .agg #[.int .i64 a, .int .i64 i]] w fun e w' => e = .returned (.bool (hasB (a, i) l)) ∧ Below w.heap.size w w' := by
 have HB := Lib.hid ((Below.refl w.heap.size w).alloc (Nat.le_refl _) (.cells #[.int .i64 a, .int .i64 i] 29))
 have HI := Lib.hid (h.below HB.out)
 clear h
 go_enter Tryz.func40, Tryz.ntmps40
 go_wp2_with fail
 refine (contains_any v l a i _ HI.out hl).mono ?_
 rintro e w1 ⟨rfl, hb⟩
 have H1 := Lib.hid (below_after HB.out hb (Nat.le_refl _))
 clear hb
 go_wp2_with fail
 go_ret
 exact ⟨rfl, H1.out⟩
theorem rising_any (v : Value) (l : List (Int × Int)) (w : World) (h : Ids w v l) (hl : l.length ≤ 100000) :
  Calls Tryz.prog 107 #[v] w fun e w' => e = .returned (.bool (risesB l)) ∧ Below w.heap.size w w' := by
 have HI := Lib.hid h
 clear h
 go_enter Tryz.func107, Tryz.ntmps107
 go_wp2_with fail
 refine (rising_gen v l _ HI.out hl).mono ?_
 rintro e w1 ⟨rfl, hb⟩
 have H1 := Lib.hid hb
 clear hb
 go_wp2_with fail
 go_ret
 exact ⟨rfl, H1.out⟩
end Go.Proofs.YthkkipbmlafdiaaGreat
namespace Go.Proofs.YthkkipbmlafdiaaGreat
open Go.RowKit
theorem elem24 : Tryz.prog.elem 23 = 29 := by kernel_rfl
theorem size23 (W : World) : (sizeOf 29).run Tryz.prog W = .ok 2 W := by kernel_rfl
theorem under24 : Tryz.prog.underlying 23 = some (.slice (Tryz.prog.elem 23)) := by rw [elem24]; exact Tryz.underlying23
theorem add_zero' (a : Addr) : a.add 0 = a := by unfold Addr.add; rw [if_pos rfl]
theorem Ids.sliced {w : World} {A : Option Addr} {c k h : Nat} {l : List (Int × Int)} (hi : Ids w (.slice A l.length c) l) (h1 : k ≤ h) (h2 : h ≤ l.length) : Ids w (sliced A k h c 2) ((l.take h).drop k) := by
 have ht := hi.take h2
 obtain ⟨A', c', hv, h0, hc, _⟩ := id hi
 injection hv with e1 e2 e3
 subst e1 e3
 unfold Go.sliced
 have hl : (l.take h).length = h := by rw [List.length_take, Nat.min_eq_left h2]
 split
 ·rename_i e
  have hk : h - k = 0 := by omega
  rw [hk]
  exact Ids.none_left _ (by omega) _ fun hn => by rw [e]; omega
 ·rename_i e
  cases A with
  | none => exact absurd (h0 rfl) (by omega)
  | some ad =>
   rcases Nat.eq_zero_or_pos k with rfl | hk
   ·simp only [Option.map, Nat.zero_mul, Nat.sub_zero, List.drop_zero, add_zero']
    exact ht
   ·have := Ids.drop ht (k := k) (by omega) (by omega) hk
    exact this
theorem run_from {w : World} {v : Value} {l : List (Int × Int)} (h : Ids w v l) (k : Nat) (hk : k ≤ l.length) :
  ∃ V, (∀ W, (Instr.slice 23 v (some (.int .i64 (k : Int))) none none).run Tryz.prog W = .ok V W) ∧ Ids w V (l.drop k) := by
 obtain ⟨A, c, rfl, h0, hc, hx⟩ := id h
 refine ⟨sliced A k l.length c 2, fun W => ?_, ?_⟩
 ·rw [run_slice_l (w := W) (P := Tryz.prog) 23 A l.length c under24 .i64 (k : Int) (by omega) (by omega)]
  rw [elem24, size23]
  rfl
 ·have := h.sliced hk (Nat.le_refl _)
  rwa [List.take_length] at this
theorem run_to {w : World} {v : Value} {l : List (Int × Int)} (h : Ids w v l) (k : Nat) (hk : k ≤ l.length) :
  ∃ V, (∀ W, (Instr.slice 23 v none (some (.int .i64 (k : Int))) none).run Tryz.prog W = .ok V W) ∧ Ids w V (l.take k) := by
 obtain ⟨A, c, rfl, h0, hc, hx⟩ := id h
 refine ⟨sliced A 0 k c 2, fun W => ?_, ?_⟩
 ·rw [run_slice_h (w := W) (P := Tryz.prog) 23 A l.length c under24 .i64 (k : Int) (by omega) (by omega)]
  rw [elem24, size23]
  rfl
 ·exact h.sliced (Nat.zero_le _) hk
theorem run_tail {w : World} {v : Value} {x : Int × Int} {l : List (Int × Int)} (h : Ids w v (x :: l)) :
  ∃ V, (∀ W, (Instr.slice 23 v (some (.int .i64 1)) none none).run Tryz.prog W = .ok V W) ∧ Ids w V l := run_from h 1 (by simp)
theorem Ids.head {w : World} {v : Value} {x : Int × Int} {l : List (Int × Int)} (h : Ids w v (x :: l)) :
  ∃ ad c, v = .slice (some ad) (l.length + 1) c ∧ ∀ w', Below w.heap.size w w' → w'.cell? ad = some (.int .i64 x.1) ∧ w'.cell? ⟨ad.block, ad.off + 1, none⟩ = some (.int .i64 x.2) := by
 obtain ⟨A, c, rfl, h0, hc, hx⟩ := id h
 obtain ⟨ad, rfl, _⟩ := hx 0 (by simp)
 refine ⟨ad, c, rfl, fun w' hb => ?_⟩
 have h1 := cell1 h hb (k := 0) (by simp)
 have h2 := cell2 h hb (k := 0) (by simp)
 rw [Nat.zero_mul, add_zero'] at h1 h2
 exact ⟨h1, h2⟩
set_option maxHeartbeats 1000000 in
theorem first_any (v u : Value) (l m : List (Int × Int)) (w : World) (h : Ids w v l) (k : Ids w u m) (hl : l.length ≤ 100000) (hm : m.length ≤ 100000) :
  Calls Tryz.prog 200 #[v, u, .func (.func 102) #[] #[]] w fun e w' => e = .returned (.int .i64 (headZ l m)) ∧ Below w.heap.size w w' := by
 cases m with
 | nil =>
  obtain ⟨B, d, rfl, hz⟩ := id k
  clear hz k h
  have h5 := Lib.hid (show headZ l [] = -1 by cases l <;> rfl)
  go_enter Tryz.func200, Tryz.ntmps200
  go_wp2_with fail
  go_ret
  exact ⟨ret_int h5.out.symm, Below.refl _ _⟩
 | cons y m =>
  obtain ⟨ae, d, rfl, hm2⟩ := k.head
  have HM := Lib.hid hm2
  clear hm2
  have hd1 : ((m.length : Int) + 1 == 0) = false := by simp; omega
  cases l with
  | nil =>
   obtain ⟨A, c, rfl, hz⟩ := id h
   clear hz k h
   go_enter Tryz.func200, Tryz.ntmps200
   go_wp2_with fail
   go_ret
   exact ⟨rfl, Below.refl _ _⟩
  | cons x l =>
   obtain ⟨ad, c, rfl, hl2⟩ := h.head
   have HL := Lib.hid hl2
   clear hl2 h k
   have hd2 : ((l.length : Int) + 1 == 0) = false := by simp; omega
   have HS := Lib.hid fun w' (hb : Below w.heap.size w w') => And.intro (HL.out w' hb) (And.intro (HM.out w' hb) (Lib.hid hb))
   have HR := Lib.hid (show headZ (x :: l) (y :: m) = cmpZ x.1 x.2 y.1 y.2 from rfl)
   have i3 : (0 : Int) < (l.length : Int) + 1 := by omega
   have i4 : (0 : Int) < (m.length : Int) + 1 := by omega
   go_enter Tryz.func200, Tryz.ntmps200
   go_wp2_with fail
   go_region_held3 (fun w' => (w'.cell? ad = some (.int .i64 x.1) ∧ w'.cell? ⟨ad.block, ad.off + 1, none⟩ = some (.int .i64 x.2)) ∧ (w'.cell? ae = some (.int .i64 y.1) ∧ w'.cell? ⟨ae.block, ae.off + 1, none⟩ = some (.int .i64 y.2)) ∧ Hid (Below w.heap.size w w'))
     (first | exact HS.out _ (Below.refl _ _).drew | exact HS.out _ (Below.refl _ _) | exact HS.out _ HK.out)
     (first | (go_at_call 102; (with_reducible refine (compare_any _ _ _ _ _).mono ?_); rintro e w' ⟨rfl, hb⟩; have HK := Lib.hid (below_after (Hid.out (by go_split_ands; assumption)) hb (Nat.le_refl _)); clear hb))
   go_wp2_with fail
   go_ret
   exact ⟨ret_int HR.out.symm, Hid.out (by assumption)⟩
end Go.Proofs.YthkkipbmlafdiaaGreat
namespace Go.Proofs.YthkkipbmlafdiaaGreat
open Go.RowKit
theorem box_free {w : World} {g : Nat} {a i : Int} (h : Box w g a i) : w.frozen? ⟨g, 0, none⟩ = false ∧ w.frozen? ⟨g, 1, none⟩ = false := by
 unfold Box at h
 exact ⟨by simp [World.frozen?, h], by simp [World.frozen?, h]⟩
theorem box_set {w : World} {g : Nat} {a i : Int} (h : Box w g a i) (p q : Int) : Box ((w.setCell ⟨g, 0, none⟩ (.int .i64 p)).setCell ⟨g, 1, none⟩ (.int .i64 q)) g p q := by
 unfold Box at *
 simp [World.setCell, Array.getElem?_modify, h]
def lenOf : Value → Nat
 | .slice _ n _ => n
 | _ => 0
theorem lenOf_slice (A : Option Addr) (n c : Nat) : lenOf (.slice A n c) = n := rfl
theorem Ids.len {w : World} {v : Value} {l : List (Int × Int)} (h : Ids w v l) : lenOf v = l.length := by
 obtain ⟨A, c, rfl, _⟩ := h
 rfl
theorem Owns.drewN {w : World} {base n : Nat} {v : Value} {l : List (Int × Int)} (h : Owns w base v l) : Owns (w.drewN n) base v l := h.below (below_drewN (Below.refl _ _))
theorem owns_apart {w : World} {base : Nat} {v : Value} {l : List (Int × Int)} (h : Owns w base v l) : v.ownBlock ≠ some w.heap.size := by
 intro e
 exact absurd (World.ownsRow.lt h _ e).2 (by omega)
theorem owns_set {w : World} {base g : Nat} {v : Value} {l : List (Int × Int)} (h : Owns w base v l) (hg : v.ownBlock ≠ some g) (p q : Int) : Owns ((w.setCell ⟨g, 0, none⟩ (.int .i64 p)).setCell ⟨g, 1, none⟩ (.int .i64 q)).drew base v l :=
 World.ownsRow.kept h (row := some g) ⟨rfl, rfl, rfl, by simp [World.setCell], fun k _ hne => by
  have hk : k ≠ g := fun e => hne (by rw [e])
  exact (Below.heap_setCell (w.setCell ⟨g, 0, none⟩ (.int .i64 p)) ⟨g, 1, none⟩ (.int .i64 q) k hk).trans (Below.heap_setCell w ⟨g, 0, none⟩ (.int .i64 p) k hk)⟩ (.inr hg)
theorem heads (l m : List (Int × Int)) (h : ¬ (l = [] ∧ m = [])) :
  (∃ x l', l = x :: l' ∧ headZ l m = -1) ∨ (∃ x l' y m', l = x :: l' ∧ m = y :: m' ∧ headZ l m = 0) ∨ (∃ x l' y m', l = x :: l' ∧ m = y :: m' ∧ headZ l m = 1) ∨ (∃ y m', l = [] ∧ m = y :: m' ∧ headZ l m = 1) := by
 cases l with
 | nil =>
  cases m with
  | nil => exact absurd ⟨rfl, rfl⟩ h
  | cons y m => exact .inr (.inr (.inr ⟨y, m, rfl, rfl, rfl⟩))
 | cons x l =>
  cases m with
  | nil => exact .inl ⟨x, l, rfl, rfl⟩
  | cons y m =>
   have hz : headZ (x :: l) (y :: m) = cmpZ x.1 x.2 y.1 y.2 := rfl
   rw [cmpZ_eq] at hz
   split at hz
   ·exact .inl ⟨x, l, rfl, hz⟩
   ·split at hz
    ·exact .inr (.inr (.inl ⟨x, l, y, m, rfl, rfl, hz⟩))
    ·exact .inr (.inl ⟨x, l, y, m, rfl, rfl, hz⟩)
theorem enters_fn {f : FuncId} {fn : Func} {c : Code} (hf : Tryz.prog.funcs[f]? = some fn) (hname : (fn.name == "runtime.NumGoroutine") = false) (hb : fn.body = some c) (args : Array Value) (w : World) : (callFunc f args).run Tryz.prog w = .ok (.enter f args) w := by
 have h1 : fn.name ≠ "runtime.NumGoroutine" := by simpa using hname
 simp [callFunc, hf, h1, hb, mark, go_sem]
theorem keeps_enter {K : Nat} {k : Bool → Bool → Bool} (h : Keeps K k) (args : Array Value) (w : World) : (callFunc K args).run Tryz.prog w = .ok (.enter K args) w := by
 rcases h with ⟨rfl, _⟩ | ⟨rfl, _⟩ | ⟨rfl, _⟩
 ·exact enters_fn Tryz.func186 (by kernel_rfl) rfl args w
 ·exact enters_fn Tryz.func167 (by kernel_rfl) rfl args w
 ·exact enters_fn Tryz.func193 (by kernel_rfl) rfl args w
set_option maxHeartbeats 2000000 in
theorem merged_any (K : Nat) (k : Bool → Bool → Bool) (hK : Keeps K k) (v u : Value) (l m : List (Int × Int)) (w : World) (h : Ids w v l) (h2 : Ids w u m) (hl : l.length ≤ 40000) (hm : m.length ≤ 40000) :
  Calls Tryz.prog 185 #[v, u, .func (.func 102) #[] #[], .func (.func K) #[] #[]] w fun e w' => ∃ v', e = .returned v' ∧ Owns w' w.heap.size v' (mrg k l m) ∧ Below w.heap.size w w' := by
 obtain ⟨A, c, rfl, hz⟩ := id h
 obtain ⟨B, d, rfl, hz2⟩ := id h2
 clear hz hz2
 have HI := Lib.hid h
 have HJ := Lib.hid h2
 have HK := Lib.hid hK
 clear h h2 hK
 go_enter Tryz.func185, Tryz.ntmps185
 go_wp2_with (at_make; refine wpList_make_room _ rfl (.tmp 18) rfl _ rfl (by omega) (by omega) ?_; intro v1 w1 h1 h2)
 have HO := Lib.hid h1
 have HW := Lib.hid h2
 clear h1 h2
 go_loopw [0, 1, 9] (fun s0 s1 s9 wr => ∃ lk mk d, Ids w s0 lk ∧ Ids w s1 mk ∧ Owns wr w.heap.size s9 d ∧ d ++ mrg k lk mk = mrg k l m ∧ lk.length + mk.length + d.length ≤ l.length + m.length ∧ Below w.heap.size w wr) (fun s0 s1 _ _ => lenOf s0 + lenOf s1)
 case atStart => exact ⟨l, m, [], HI.out, HJ.out, HO.out, rfl, by simp, HW.out⟩
 case round =>
  obtain ⟨lk, mk, d, h0, h1, ho, he, hd, hw⟩ := hrel
  have H0 := Lib.hid h0
  have H1 := Lib.hid h1
  have H9 := Lib.hid ho
  have HE := Lib.hid he
  have HB := Lib.hid hw
  clear ho he hw
  by_cases hn : lk = [] ∧ mk = []
  ·obtain ⟨rfl, rfl⟩ := hn
   obtain ⟨A0, c0, rfl, _⟩ := h0
   obtain ⟨A1, c1, rfl, _⟩ := h1
   go_wp2_with fail
   go_ret
   exact ⟨_, rfl, by have := HE.out; rw [mrg_none, List.append_nil] at this; rw [← this]; exact H9.out, HB.out⟩
  ·have hh := heads lk mk hn
   have HF := Lib.hid fun W (hb : Below w.heap.size w W) => first_any u0 u1 lk mk W (H0.out.below hb) (H1.out.below hb) (by omega) (by omega)
   rcases hh with ⟨x, l', rfl, e⟩ | ⟨x, l', y, m', rfl, rfl, e⟩ | ⟨x, l', y, m', rfl, rfl, e⟩ | ⟨y, m', rfl, rfl, e⟩
   ·rw [e] at HF
    obtain ⟨ad, c0, rfl, hc⟩ := h0.head
    have HC := Lib.hid hc
    obtain ⟨V, ht, hv⟩ := run_tail H0.out
    have HT := Lib.hid hv
    have HN := Lib.hid hv.len
    obtain ⟨A1, c1, rfl, hx1⟩ := id h1
    clear hc hv hx1
    have HM := Lib.hid (mrg_left (k := k) e)
    have hK := keeps_enter HK.out
    clear h0 h1 e hn
    go_wp2_with fail
    (with_reducible refine (HF.out _ HB.out).mono ?_)
    rintro e w2 ⟨rfl, hb⟩
    have B2 := Lib.hid (below_after HB.out hb (Nat.le_refl _))
    have O2 := Lib.hid (H9.out.below hb)
    clear hb
    go_wp2_with fail
    have X3 := Lib.hid (box_new w2 0 0)
    have B3 := Lib.hid (B2.out.alloc B2.out.size (.cells #[.int .i64 0, .int .i64 0] 29))
    have O3 := Lib.hid (O2.out.below ((Below.refl w2.heap.size w2).alloc (Nat.le_refl _) (.cells #[.int .i64 0, .int .i64 0] 29)))
    have G3 := Lib.hid B2.out.size
    have Q3 := Lib.hid (owns_apart O2.out)
    generalize w2.alloc (.cells #[.int .i64 0, .int .i64 0] 29) = w3 at *
    generalize w2.heap.size = g at *
    obtain ⟨p1, p2⟩ := HC.out w3 B3.out
    obtain ⟨p3, p4⟩ := box_cells X3.out
    obtain ⟨p5, p6⟩ := box_free X3.out
    go_region
    clear p1 p2 p3 p4 p5 p6
    have X4 := Lib.hid (show Box ((w3.setCell ⟨g, 0, none⟩ (.int .i64 x.1)).setCell ⟨g, 1, none⟩ (.int .i64 x.2)).drew g x.1 x.2 from box_set X3.out x.1 x.2)
    have B4 := Lib.hid (show Below w.heap.size w ((w3.setCell ⟨g, 0, none⟩ (.int .i64 x.1)).setCell ⟨g, 1, none⟩ (.int .i64 x.2)).drew from ((B3.out.setCell G3.out _).setCell G3.out _).drew)
    have O4 := Lib.hid (show Owns ((w3.setCell ⟨g, 0, none⟩ (.int .i64 x.1)).setCell ⟨g, 1, none⟩ (.int .i64 x.2)).drew w.heap.size u9 d from owns_set O3.out Q3.out x.1 x.2)
    generalize ((w3.setCell ⟨g, 0, none⟩ (.int .i64 x.1)).setCell ⟨g, 1, none⟩ (.int .i64 x.2)).drew = w4 at *
    go_wp2_with fail
    (with_reducible refine (keeps_any HK.out _ _ _).mono ?_)
    rintro e w9 ⟨rfl, rfl⟩
    obtain ⟨p1, p2⟩ := box_cells X4.out
    cases hkk : k true false
    ·have HKK := Lib.hid (show d ++ mrg k l' mk = mrg k l m by rw [← HE.out, HM.out, hkk]; rfl)
     clear hkk hK
     go_wp2_with fail
     clear p1 p2
     go_roundw
     case rel => exact ⟨l', mk, d, HT.out, H1.out, O4.out, HKK.out, by simp at hd ⊢; omega, B4.out⟩
     case measure => simp [HN.out, lenOf_slice]; try omega
    ·have HKK := Lib.hid (show (d ++ [(x.1, x.2)]) ++ mrg k l' mk = mrg k l m by rw [← HE.out, HM.out, hkk, List.append_assoc]; rfl)
     clear hkk hK
     go_wp2_with (at_builtin; refine wpList_append_one rfl (.tmp 52) (.tmp 54) rfl w4 w.heap.size u9 d x.1 x.2 rfl rfl O4.out (by simp at hd; omega) B4.out.size ?_; intro v8 w8 h8 h9)
     have O8 := Lib.hid h8
     have B8 := Lib.hid (B4.out.trans h9)
     clear h8 h9 p1 p2
     go_wp2_with fail
     go_roundw
     case rel => exact ⟨l', mk, d ++ [(x.1, x.2)], HT.out, H1.out, O8.out, HKK.out, by simp at hd ⊢; omega, B8.out⟩
     case measure => simp [HN.out, lenOf_slice]; try omega
   ·rw [e] at HF
    obtain ⟨ad, c0, rfl, hc⟩ := h0.head
    have HC := Lib.hid hc
    obtain ⟨V, ht, hv⟩ := run_tail H0.out
    have HT := Lib.hid hv
    have HN := Lib.hid hv.len
    obtain ⟨ae, c1, rfl, hc2⟩ := h1.head
    have HD := Lib.hid hc2
    obtain ⟨U, ht2, hv2⟩ := run_tail H1.out
    have HU := Lib.hid hv2
    have HV := Lib.hid hv2.len
    clear hc hv hc2 hv2
    have HM := Lib.hid (mrg_same (k := k) e)
    have hK := keeps_enter HK.out
    clear h0 h1 e hn
    go_wp2_with fail
    (with_reducible refine (HF.out _ HB.out).mono ?_)
    rintro e w2 ⟨rfl, hb⟩
    have B2 := Lib.hid (below_after HB.out hb (Nat.le_refl _))
    have O2 := Lib.hid (H9.out.below hb)
    clear hb
    go_wp2_with fail
    have X3 := Lib.hid (box_new w2 0 0)
    have B3 := Lib.hid (B2.out.alloc B2.out.size (.cells #[.int .i64 0, .int .i64 0] 29))
    have O3 := Lib.hid (O2.out.below ((Below.refl w2.heap.size w2).alloc (Nat.le_refl _) (.cells #[.int .i64 0, .int .i64 0] 29)))
    have G3 := Lib.hid B2.out.size
    have Q3 := Lib.hid (owns_apart O2.out)
    generalize w2.alloc (.cells #[.int .i64 0, .int .i64 0] 29) = w3 at *
    generalize w2.heap.size = g at *
    obtain ⟨p1, p2⟩ := HC.out w3 B3.out
    obtain ⟨p3, p4⟩ := box_cells X3.out
    obtain ⟨p5, p6⟩ := box_free X3.out
    go_region
    clear p1 p2 p3 p4 p5 p6
    have X4 := Lib.hid (show Box ((w3.setCell ⟨g, 0, none⟩ (.int .i64 x.1)).setCell ⟨g, 1, none⟩ (.int .i64 x.2)).drew g x.1 x.2 from box_set X3.out x.1 x.2)
    have B4 := Lib.hid (show Below w.heap.size w ((w3.setCell ⟨g, 0, none⟩ (.int .i64 x.1)).setCell ⟨g, 1, none⟩ (.int .i64 x.2)).drew from ((B3.out.setCell G3.out _).setCell G3.out _).drew)
    have O4 := Lib.hid (show Owns ((w3.setCell ⟨g, 0, none⟩ (.int .i64 x.1)).setCell ⟨g, 1, none⟩ (.int .i64 x.2)).drew w.heap.size u9 d from owns_set O3.out Q3.out x.1 x.2)
    generalize ((w3.setCell ⟨g, 0, none⟩ (.int .i64 x.1)).setCell ⟨g, 1, none⟩ (.int .i64 x.2)).drew = w4 at *
    go_wp2_with fail
    obtain ⟨p1, p2⟩ := HD.out w4 B4.out
    obtain ⟨p3, p4⟩ := box_cells X4.out
    obtain ⟨p5, p6⟩ := box_free X4.out
    go_region
    clear p1 p2 p3 p4 p5 p6
    have X5 := Lib.hid (show Box ((w4.setCell ⟨g, 0, none⟩ (.int .i64 y.1)).setCell ⟨g, 1, none⟩ (.int .i64 y.2)).drew g y.1 y.2 from box_set X4.out y.1 y.2)
    have B5 := Lib.hid (show Below w.heap.size w ((w4.setCell ⟨g, 0, none⟩ (.int .i64 y.1)).setCell ⟨g, 1, none⟩ (.int .i64 y.2)).drew from ((B4.out.setCell G3.out _).setCell G3.out _).drew)
    have O5 := Lib.hid (show Owns ((w4.setCell ⟨g, 0, none⟩ (.int .i64 y.1)).setCell ⟨g, 1, none⟩ (.int .i64 y.2)).drew w.heap.size u9 d from owns_set O4.out Q3.out y.1 y.2)
    generalize ((w4.setCell ⟨g, 0, none⟩ (.int .i64 y.1)).setCell ⟨g, 1, none⟩ (.int .i64 y.2)).drew = w5 at *
    go_wp2_with fail
    (with_reducible refine (keeps_any HK.out _ _ _).mono ?_)
    rintro e w9 ⟨rfl, rfl⟩
    obtain ⟨p1, p2⟩ := box_cells X5.out
    cases hkk : k true true
    ·have HKK := Lib.hid (show d ++ mrg k l' m' = mrg k l m by rw [← HE.out, HM.out, hkk]; rfl)
     clear hkk hK
     go_wp2_with fail
     clear p1 p2
     go_roundw
     case rel => exact ⟨l', m', d, HT.out, HU.out, O5.out, HKK.out, by simp at hd ⊢; omega, B5.out⟩
     case measure => simp [HN.out, HV.out, lenOf_slice]; try omega
    ·have HKK := Lib.hid (show (d ++ [(y.1, y.2)]) ++ mrg k l' m' = mrg k l m by rw [← HE.out, HM.out, hkk, List.append_assoc]; rfl)
     clear hkk hK
     go_wp2_with (at_builtin; refine wpList_append_one rfl (.tmp 52) (.tmp 54) rfl w5 w.heap.size u9 d y.1 y.2 rfl rfl O5.out (by simp at hd; omega) B5.out.size ?_; intro v8 w8 h8 h9)
     have O8 := Lib.hid h8
     have B8 := Lib.hid (B5.out.trans h9)
     clear h8 h9 p1 p2
     go_wp2_with fail
     go_roundw
     case rel => exact ⟨l', m', d ++ [(y.1, y.2)], HT.out, HU.out, O8.out, HKK.out, by simp at hd ⊢; omega, B8.out⟩
     case measure => simp [HN.out, HV.out, lenOf_slice]; try omega
   ·rw [e] at HF
    obtain ⟨ae, c1, rfl, hc2⟩ := h1.head
    have HD := Lib.hid hc2
    obtain ⟨U, ht2, hv2⟩ := run_tail H1.out
    have HU := Lib.hid hv2
    have HV := Lib.hid hv2.len
    obtain ⟨ad, c0, rfl, hc⟩ := h0.head
    clear hc hc2 hv2
    have HM := Lib.hid (mrg_right (k := k) e)
    have hK := keeps_enter HK.out
    clear h0 h1 e hn
    go_wp2_with fail
    (with_reducible refine (HF.out _ HB.out).mono ?_)
    rintro e w2 ⟨rfl, hb⟩
    have B2 := Lib.hid (below_after HB.out hb (Nat.le_refl _))
    have O2 := Lib.hid (H9.out.below hb)
    clear hb
    go_wp2_with fail
    have X3 := Lib.hid (box_new w2 0 0)
    have B3 := Lib.hid (B2.out.alloc B2.out.size (.cells #[.int .i64 0, .int .i64 0] 29))
    have O3 := Lib.hid (O2.out.below ((Below.refl w2.heap.size w2).alloc (Nat.le_refl _) (.cells #[.int .i64 0, .int .i64 0] 29)))
    have G3 := Lib.hid B2.out.size
    have Q3 := Lib.hid (owns_apart O2.out)
    generalize w2.alloc (.cells #[.int .i64 0, .int .i64 0] 29) = w3 at *
    generalize w2.heap.size = g at *
    obtain ⟨p1, p2⟩ := HD.out w3 B3.out
    obtain ⟨p3, p4⟩ := box_cells X3.out
    obtain ⟨p5, p6⟩ := box_free X3.out
    go_region
    clear p1 p2 p3 p4 p5 p6
    have X4 := Lib.hid (show Box ((w3.setCell ⟨g, 0, none⟩ (.int .i64 y.1)).setCell ⟨g, 1, none⟩ (.int .i64 y.2)).drew g y.1 y.2 from box_set X3.out y.1 y.2)
    have B4 := Lib.hid (show Below w.heap.size w ((w3.setCell ⟨g, 0, none⟩ (.int .i64 y.1)).setCell ⟨g, 1, none⟩ (.int .i64 y.2)).drew from ((B3.out.setCell G3.out _).setCell G3.out _).drew)
    have O4 := Lib.hid (show Owns ((w3.setCell ⟨g, 0, none⟩ (.int .i64 y.1)).setCell ⟨g, 1, none⟩ (.int .i64 y.2)).drew w.heap.size u9 d from owns_set O3.out Q3.out y.1 y.2)
    generalize ((w3.setCell ⟨g, 0, none⟩ (.int .i64 y.1)).setCell ⟨g, 1, none⟩ (.int .i64 y.2)).drew = w4 at *
    go_wp2_with fail
    (with_reducible refine (keeps_any HK.out _ _ _).mono ?_)
    rintro e w9 ⟨rfl, rfl⟩
    obtain ⟨p1, p2⟩ := box_cells X4.out
    cases hkk : k false true
    ·have HKK := Lib.hid (show d ++ mrg k (x :: l') m' = mrg k l m by rw [← HE.out, HM.out, hkk]; rfl)
     clear hkk hK
     go_wp2_with fail
     clear p1 p2
     go_roundw
     case rel => exact ⟨(x :: l'), m', d, H0.out, HU.out, O4.out, HKK.out, by simp at hd ⊢; omega, B4.out⟩
     case measure => simp [HV.out, lenOf_slice]; try omega
    ·have HKK := Lib.hid (show (d ++ [(y.1, y.2)]) ++ mrg k (x :: l') m' = mrg k l m by rw [← HE.out, HM.out, hkk, List.append_assoc]; rfl)
     clear hkk hK
     go_wp2_with (at_builtin; refine wpList_append_one rfl (.tmp 52) (.tmp 54) rfl w4 w.heap.size u9 d y.1 y.2 rfl rfl O4.out (by simp at hd; omega) B4.out.size ?_; intro v8 w8 h8 h9)
     have O8 := Lib.hid h8
     have B8 := Lib.hid (B4.out.trans h9)
     clear h8 h9 p1 p2
     go_wp2_with fail
     go_roundw
     case rel => exact ⟨(x :: l'), m', d ++ [(y.1, y.2)], H0.out, HU.out, O8.out, HKK.out, by simp at hd ⊢; omega, B8.out⟩
     case measure => simp [HV.out, lenOf_slice]; try omega
   ·rw [e] at HF
    obtain ⟨ae, c1, rfl, hc2⟩ := h1.head
    have HD := Lib.hid hc2
    obtain ⟨U, ht2, hv2⟩ := run_tail H1.out
    have HU := Lib.hid hv2
    have HV := Lib.hid hv2.len
    obtain ⟨A0, c0, hv0, hx0⟩ := id h0
    obtain rfl : u0 = .slice A0 0 c0 := hv0
    clear hc2 hv2 hx0
    have HM := Lib.hid (mrg_right (k := k) e)
    have hK := keeps_enter HK.out
    clear h0 h1 e hn
    go_wp2_with fail
    (with_reducible refine (HF.out _ HB.out).mono ?_)
    rintro e w2 ⟨rfl, hb⟩
    have B2 := Lib.hid (below_after HB.out hb (Nat.le_refl _))
    have O2 := Lib.hid (H9.out.below hb)
    clear hb
    go_wp2_with fail
    have X3 := Lib.hid (box_new w2 0 0)
    have B3 := Lib.hid (B2.out.alloc B2.out.size (.cells #[.int .i64 0, .int .i64 0] 29))
    have O3 := Lib.hid (O2.out.below ((Below.refl w2.heap.size w2).alloc (Nat.le_refl _) (.cells #[.int .i64 0, .int .i64 0] 29)))
    have G3 := Lib.hid B2.out.size
    have Q3 := Lib.hid (owns_apart O2.out)
    generalize w2.alloc (.cells #[.int .i64 0, .int .i64 0] 29) = w3 at *
    generalize w2.heap.size = g at *
    obtain ⟨p1, p2⟩ := HD.out w3 B3.out
    obtain ⟨p3, p4⟩ := box_cells X3.out
    obtain ⟨p5, p6⟩ := box_free X3.out
    go_region
    clear p1 p2 p3 p4 p5 p6
    have X4 := Lib.hid (show Box ((w3.setCell ⟨g, 0, none⟩ (.int .i64 y.1)).setCell ⟨g, 1, none⟩ (.int .i64 y.2)).drew g y.1 y.2 from box_set X3.out y.1 y.2)
    have B4 := Lib.hid (show Below w.heap.size w ((w3.setCell ⟨g, 0, none⟩ (.int .i64 y.1)).setCell ⟨g, 1, none⟩ (.int .i64 y.2)).drew from ((B3.out.setCell G3.out _).setCell G3.out _).drew)
    have O4 := Lib.hid (show Owns ((w3.setCell ⟨g, 0, none⟩ (.int .i64 y.1)).setCell ⟨g, 1, none⟩ (.int .i64 y.2)).drew w.heap.size u9 d from owns_set O3.out Q3.out y.1 y.2)
    generalize ((w3.setCell ⟨g, 0, none⟩ (.int .i64 y.1)).setCell ⟨g, 1, none⟩ (.int .i64 y.2)).drew = w4 at *
    go_wp2_with fail
    (with_reducible refine (keeps_any HK.out _ _ _).mono ?_)
    rintro e w9 ⟨rfl, rfl⟩
    obtain ⟨p1, p2⟩ := box_cells X4.out
    cases hkk : k false true
    ·have HKK := Lib.hid (show d ++ mrg k [] m' = mrg k l m by rw [← HE.out, HM.out, hkk]; rfl)
     clear hkk hK
     go_wp2_with fail
     clear p1 p2
     go_roundw
     case rel => exact ⟨[], m', d, H0.out, HU.out, O4.out, HKK.out, by simp at hd ⊢; omega, B4.out⟩
     case measure => simp [HV.out, lenOf_slice]; try omega
    ·have HKK := Lib.hid (show (d ++ [(y.1, y.2)]) ++ mrg k [] m' = mrg k l m by rw [← HE.out, HM.out, hkk, List.append_assoc]; rfl)
     clear hkk hK
     go_wp2_with (at_builtin; refine wpList_append_one rfl (.tmp 52) (.tmp 54) rfl w4 w.heap.size u9 d y.1 y.2 rfl rfl O4.out (by simp at hd; omega) B4.out.size ?_; intro v8 w8 h8 h9)
     have O8 := Lib.hid h8
     have B8 := Lib.hid (B4.out.trans h9)
     clear h8 h9 p1 p2
     go_wp2_with fail
     go_roundw
     case rel => exact ⟨[], m', d ++ [(y.1, y.2)], H0.out, HU.out, O8.out, HKK.out, by simp at hd ⊢; omega, B8.out⟩
     case measure => simp [HV.out, lenOf_slice]; try omega
end Go.Proofs.YthkkipbmlafdiaaGreat
