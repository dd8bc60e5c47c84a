/-
  Carried over and put together: contracts of this program's functions, and plain facts. No statement is proved in this text.
-/
import Derived.Test.YtgphiggbajbmhaaGreatDoorE06
import Derived.Test.YtgphiggbajbmhaaGreatDoorE21
set_option maxRecDepth 20000
namespace Go.Proofs.YtgphiggbajbmhaaGreatDoor
open Go Go.RowKit Ros
abbrev Tn := Mm × Mm
def encU (x : Tn) : List Value := [.int .i64 x.1.1.1, .int .i64 x.1.1.2, .int .u8 x.1.2.1, .int .i64 x.1.2.2, .int .i64 x.2.1.1, .int .i64 x.2.1.2, .int .u8 x.2.2.1, .int .i64 x.2.2.2]
theorem encU_len (x : Tn) : (encU x).length = 8 := rfl
theorem encU_one (x : Tn) : ∀ u ∈ encU x, u.oneCell' = true := by
 intro u hu
 simp [encU] at hu
 rcases hu with rfl | rfl | rfl | rfl | rfl | rfl | rfl | rfl <;> rfl
abbrev Us (w : World) (v : Value) (l : List Tn) : Prop := Rcs encU 8 w v l
theorem Us.at_ {w w' : World} {A : Option Addr} {n c : Nat} {l : List Tn} (h : Us w (.slice A n c) l) (hw : Below w.heap.size w w') {k : Nat} (hk : k < l.length) :
  ∃ ad, A = some ad ∧ w'.cell? (ad.add (k * 8)) = some (.int .i64 l[k].1.1.1) ∧ w'.cell? ⟨(ad.add (k * 8)).block, (ad.add (k * 8)).off + 1, none⟩ = some (.int .i64 l[k].1.1.2) ∧ w'.cell? ⟨(ad.add (k * 8)).block, (ad.add (k * 8)).off + 2, none⟩ = some (.int .u8 l[k].1.2.1) ∧ w'.cell? ⟨(ad.add (k * 8)).block, (ad.add (k * 8)).off + 3, none⟩ = some (.int .i64 l[k].1.2.2) ∧ w'.cell? ⟨(ad.add (k * 8)).block, (ad.add (k * 8)).off + 4, none⟩ = some (.int .i64 l[k].2.1.1) ∧ w'.cell? ⟨(ad.add (k * 8)).block, (ad.add (k * 8)).off + 5, none⟩ = some (.int .i64 l[k].2.1.2) ∧ w'.cell? ⟨(ad.add (k * 8)).block, (ad.add (k * 8)).off + 6, none⟩ = some (.int .u8 l[k].2.2.1) ∧ w'.cell? ⟨(ad.add (k * 8)).block, (ad.add (k * 8)).off + 7, none⟩ = some (.int .i64 l[k].2.2.2) := by
 obtain ⟨ad, rfl⟩ := h.addr (by omega)
 exact ⟨ad, rfl, h.first hw hk rfl, h.cell hw hk 1 (by omega) rfl, h.cell hw hk 2 (by omega) rfl, h.cell hw hk 3 (by omega) rfl, h.cell hw hk 4 (by omega) rfl, h.cell hw hk 5 (by omega) rfl, h.cell hw hk 6 (by omega) rfl, h.cell hw hk 7 (by omega) rfl⟩
def UBox (w : World) (g : Nat) (a i s n b j t m : Int) : Prop := w.heap[g]? = some (.cells #[.int .i64 a, .int .i64 i, .int .u8 s, .int .i64 n, .int .i64 b, .int .i64 j, .int .u8 t, .int .i64 m] 53 (0, 0))
theorem ubox_cells {w : World} {g : Nat} {a i s n b j t m : Int} (h : UBox w g a i s n b j t m) : w.cell? ⟨g, 0, none⟩ = some (.int .i64 a) ∧ w.cell? ⟨g, 1, none⟩ = some (.int .i64 i) ∧ w.cell? ⟨g, 2, none⟩ = some (.int .u8 s) ∧ w.cell? ⟨g, 3, none⟩ = some (.int .i64 n) ∧ w.cell? ⟨g, 4, none⟩ = some (.int .i64 b) ∧ w.cell? ⟨g, 5, none⟩ = some (.int .i64 j) ∧ w.cell? ⟨g, 6, none⟩ = some (.int .u8 t) ∧ w.cell? ⟨g, 7, none⟩ = some (.int .i64 m) := by
 unfold UBox at h
 exact ⟨by rw [cell_of_row _ _ 0 _ _ _ h]; rfl, by rw [cell_of_row _ _ 1 _ _ _ h]; rfl, by rw [cell_of_row _ _ 2 _ _ _ h]; rfl, by rw [cell_of_row _ _ 3 _ _ _ h]; rfl, by rw [cell_of_row _ _ 4 _ _ _ h]; rfl, by rw [cell_of_row _ _ 5 _ _ _ h]; rfl, by rw [cell_of_row _ _ 6 _ _ _ h]; rfl, by rw [cell_of_row _ _ 7 _ _ _ h]; rfl⟩
theorem ubox_new (w : World) (a i s n b j t m : Int) : UBox (w.alloc (.cells #[.int .i64 a, .int .i64 i, .int .u8 s, .int .i64 n, .int .i64 b, .int .i64 j, .int .u8 t, .int .i64 m] 53)) w.heap.size a i s n b j t m := heap_alloc_new w _
theorem ubox_below {w w' : World} {g : Nat} {a i s n b j t m : Int} (h : UBox w g a i s n b j t m) (hb : Below w.heap.size w w') : UBox w' g a i s n b j t m := (hb.block _ (row_lt h)).trans h
structure AsksTn (K : Nat) (caps : Array Value) (p : Tn → Bool) (S : World → Prop) (D : Tn → Prop) : Prop where
 enters : ∀ args W, (callFunc K args).run Tryz.prog W = .ok (.enter K args) W
 kept : ∀ W W', S W → Below W.heap.size W W' → S W'
 call : ∀ a i s n b j t m W, D (((a, i), s, n), (b, j), t, m) → S W → Calls Tryz.prog K (#[.agg #[.int .i64 a, .int .i64 i, .int .u8 s, .int .i64 n, .int .i64 b, .int .i64 j, .int .u8 t, .int .i64 m]] ++ caps) W fun e w' => e = .returned (.bool (p (((a, i), s, n), (b, j), t, m))) ∧ Below W.heap.size W w'
set_option maxHeartbeats 1000000 in
theorem indexU_any {K : Nat} {caps : Array Value} {p : Tn → Bool} {S : World → Prop} {D : Tn → Prop} (hP : AsksTn K caps p S D) (v : Value) (l : List Tn) (w : World) (h : Us w v l) (hS : S w) (hl : l.length ≤ 100000) (hD : ∀ x ∈ l, D x) :
  Calls Tryz.prog 83 #[v, .func (.func K) #[] caps] w fun e w' => (∃ r, e = .returned (.int .i64 r) ∧ FoundPROS p l r) ∧ Below w.heap.size w w' := by
 have HP := Lib.hid hP
 have HI := Lib.hid h
 have HS0 := Lib.hid hS
 have HD := Lib.hid hD
 have hK := hP.enters
 obtain ⟨A, c, rfl, hz⟩ := h
 clear hz hP hS hD
 go_enter Tryz.func83, Tryz.ntmps83
 go_wp2_with fail
 go_loopw [8] (fun s3 wr => ∃ k : Nat, k ≤ l.length ∧ s3 = .int .i64 k ∧ Hid (∀ x ∈ l.take k, p x = false) ∧ Hid (S wr) ∧ Hid (Below w.heap.size w wr)) (fun s3 _ => l.length - (intOf s3).toNat)
 case atStart => exact ⟨0, by omega, rfl, Lib.hid (fun x hx => by simp at hx), HS0, Lib.hid (Below.refl _ _)⟩
 case round =>
  obtain ⟨k, hkl, rfl, HT, HS, HW⟩ := hrel
  have i3 : (0 : Int) ≤ (k : Int) := by omega
  by_cases hlt : k < l.length
  ·have hd : decide ((k : Int) < (l.length : Int)) = true := by simp; omega
   have i4 : (k : Int) < (l.length : Int) := by omega
   obtain ⟨ad, rfl, c1, c2, c3, c4, c5, c6, c7, c8⟩ := Us.at_ HI.out HW.out hlt
   have HM : Hid (l[k] = (((l[k].1.1.1, l[k].1.1.2), l[k].1.2.1, l[k].1.2.2), (l[k].2.1.1, l[k].2.1.2), l[k].2.2.1, l[k].2.2.2)) := Lib.hid rfl
   have HC := Lib.hid fun W hs => HP.out.call l[k].1.1.1 l[k].1.1.2 l[k].1.2.1 l[k].1.2.2 l[k].2.1.1 l[k].2.1.2 l[k].2.2.1 l[k].2.2.2 W (HD.out _ (List.getElem_mem hlt)) hs
   have H0 := Lib.hid fun h => foundP_nextROS (p := p) hlt HT.out h
   have H1 := Lib.hid fun h => (show FoundPROS p l k from .inr ⟨k, hlt, rfl, h, HT.out⟩)
   rw [HM.out] at H0 H1
   clear HM
   generalize l[k].1.1.1 = a at *
   generalize l[k].1.1.2 = i at *
   generalize l[k].1.2.1 = s at *
   generalize l[k].1.2.2 = n at *
   generalize l[k].2.1.1 = b at *
   generalize l[k].2.1.2 = j at *
   generalize l[k].2.2.1 = t at *
   generalize l[k].2.2.2 = m at *
   cases hp : p (((a, i), s, n), (b, j), t, m)
   ·rw [hp] at HC
    have HF := Lib.hid (H0.out hp)
    clear hp H0 H1
    go_wp2_with fail
    (with_reducible refine (HC.out _ HS.out).mono ?_)
    rintro e w1 ⟨rfl, hb⟩
    have HB := Lib.hid (below_after HW.out hb (Nat.le_refl _))
    have HS1 := Lib.hid (HP.out.kept _ _ HS.out hb)
    clear hb
    go_wp2_with fail
    go_roundw
    case rel => exact ⟨k + 1, by omega, by go_num, HF, HS1, HB⟩
    case measure => simp [intOf]; omega
   ·rw [hp] at HC
    have HF := Lib.hid (H1.out hp)
    clear hp H0 H1
    go_wp2_with fail
    (with_reducible refine (HC.out _ HS.out).mono ?_)
    rintro e w1 ⟨rfl, hb⟩
    have HB := Lib.hid (below_after HW.out hb (Nat.le_refl _))
    clear hb
    go_wp2_with fail
    go_ret
    exact ⟨⟨_, rfl, HF.out⟩, HB.out⟩
  ·have hd : decide ((k : Int) < (l.length : Int)) = false := by simp; omega
   have HF := Lib.hid (foundP_noneROS (by omega) HT.out)
   go_wp2_with fail
   go_ret
   exact ⟨⟨_, rfl, HF.out⟩, HW.out⟩
theorem containsU_any {K : Nat} {caps : Array Value} {p : Tn → Bool} {S : World → Prop} {D : Tn → Prop} (hP : AsksTn K caps p S D) (v : Value) (l : List Tn) (w : World) (h : Us w v l) (hS : S w) (hl : l.length ≤ 100000) (hD : ∀ x ∈ l, D x) :
  Calls Tryz.prog 93 #[v, .func (.func K) #[] caps] w fun e w' => e = .returned (.bool (l.any p)) ∧ Below w.heap.size w w' := by
 have HC := Lib.hid fun W hw hs => indexU_any hP v l W hw hs hl hD
 have HI := Lib.hid h
 have HS := Lib.hid hS
 clear h hS hD
 go_enter Tryz.func93, Tryz.ntmps93
 go_wp2_with fail
 refine (HC.out _ HI.out HS.out).mono ?_
 rintro e w1 ⟨⟨r, rfl, hr⟩, hb⟩
 have HB := Lib.hid hb
 clear hb
 rcases hr with ⟨rfl, hx⟩ | ⟨k, hk, rfl, hx, -⟩
 ·have HA : Hid (l.any p = false) := Lib.hid (by simpa using hx)
  clear hx
  go_wp2_with fail
  go_ret
  exact ⟨by rw [HA.out]; first | rfl | simp, HB.out⟩
 ·have HA : Hid (l.any p = true) := Lib.hid (List.any_eq_true.2 ⟨_, List.getElem_mem hk, hx⟩)
  clear hx
  have hd : decide ((0 : Int) ≤ (k : Int)) = true := by simp
  go_wp2_with fail
  go_ret
  exact ⟨by rw [HA.out]; first | rfl | simp, HB.out⟩
end Go.Proofs.YtgphiggbajbmhaaGreatDoor
namespace Go.Proofs.YtgphiggbajbmhaaGreatDoor
open Go Go.RowKit Ros
def edgL : List Nat := [0, 1, 0, 4, 0, 0, 0, 0, 0, 0, 2, 2, 0, 4, 8, 1, 0, 0, 0, 2, 0, 4, 8, 1, 0, 0, 0, 0, 4, 0, 8, 1, 0, 0, 0, 0, 0, 2, 8, 1, 0, 0, 0, 0, 0, 0, 8, 3, 0, 0, 0, 0, 0, 0, 0, 3, 0, 0, 0, 0, 0, 0, 0, 0]
theorem edgL_len : edgL.length = 64 := rfl
def edg (a b : Nat) : Nat := if a < 8 ∧ b < 8 then edgL.getD (8 * a + b) 0 else 0
theorem edg_out {a b : Nat} (h : ¬ (a < 8 ∧ b < 8)) : edg a b = 0 := by
 unfold edg
 rw [if_neg h]
def TabE (w : World) : Prop := (∀ k, k < 64 → w.cell? ⟨1, k, none⟩ = some (.int .u8 (edgL.getD k 0 : Nat))) ∧ 1 < w.heap.size
theorem TabE.below {w w' : World} (h : TabE w) (hb : Below w.heap.size w w') : TabE w' := ⟨fun k hk => (hb.cell h.2).trans (h.1 k hk), Nat.lt_of_lt_of_le h.2 hb.size⟩
theorem tab_edge {w : World} (h : TabE w) {a b : Nat} (ha : a < 8) (hb : b < 8) : w.cell? ⟨1, a * 8 + b, none⟩ = some (.int .u8 (edg a b)) := by
 rw [h.1 _ (by omega)]
 unfold edg
 rw [if_pos ⟨ha, hb⟩, Nat.mul_comm 8 a]
theorem edge_any (a b : Nat) (w : World) (ht : TabE w) : Calls Tryz.prog 88 #[.int .u8 a, .int .u8 b] w fun e w' => e = .returned (.int .u8 (edg a b)) ∧ w = w' := by
 have HT := Lib.hid ht
 clear ht
 by_cases h1 : 7 < a
 ·have d1 : decide ((7 : Int) < (a : Int)) = true := by simp; omega
  have h := Lib.hid (edg_out (a := a) (b := b) (by omega))
  go_enter Tryz.func88, Tryz.ntmps88
  go_wp2_with fail
  go_ret
  exact ⟨by rw [h.out]; rfl, rfl⟩
 ·have d1 : decide ((7 : Int) < (a : Int)) = false := by simp; omega
  by_cases h2 : 7 < b
  ·have d2 : decide ((7 : Int) < (b : Int)) = true := by simp; omega
   have h := Lib.hid (edg_out (a := a) (b := b) (by omega))
   go_enter Tryz.func88, Tryz.ntmps88
   go_wp2_with fail
   go_ret
   exact ⟨by rw [h.out]; rfl, rfl⟩
  ·have d2 : decide ((7 : Int) < (b : Int)) = false := by simp; omega
   have c := tab_edge HT.out (a := a) (b := b) (by omega) (by omega)
   have i1 : (a : Int) < 8 := by omega
   have i2 : (b : Int) < 8 := by omega
   generalize edg a b = z at *
   go_enter Tryz.func88, Tryz.ntmps88
   go_wp2_with fail
   go_ret
   exact ⟨rfl, rfl⟩
theorem edge_below (a b : Nat) (w : World) (ht : TabE w) : Calls Tryz.prog 88 #[.int .u8 a, .int .u8 b] w fun e w' => e = .returned (.int .u8 (edg a b)) ∧ Below w.heap.size w w' := by
 refine (edge_any a b w ht).mono ?_
 rintro e w' ⟨rfl, rfl⟩
 exact ⟨rfl, Below.refl _ _⟩
def keptB (x : Tn) : Bool := x.2.2.2 == x.1.2.2
theorem keptT_asks : AsksTn 62 #[] keptB (fun _ => True) (fun _ => True) where
 enters := fun args W => enters_fn Tryz.func62 (by kernel_rfl) rfl args W
 kept _ _ _ _ := trivial
 call a i s n b j t m W _ _ := by
  have HB := Lib.hid (below_one W (.cells #[.int .i64 a, .int .i64 i, .int .u8 s, .int .i64 n, .int .i64 b, .int .i64 j, .int .u8 t, .int .i64 m] 53))
  have HM := Lib.hid (ubox_new W a i s n b j t m)
  have HR : Hid (keptB (((a, i), s, n), (b, j), t, m) = (m == n)) := Lib.hid rfl
  generalize keptB (((a, i), s, n), (b, j), t, m) = y at *
  obtain ⟨c1, c2, c3, c4, c5, c6, c7, c8⟩ := ubox_cells HM.out
  have HE := Lib.hid HR.out.symm
  clear HR
  go_enter Tryz.func62, Tryz.ntmps62
  go_wp2_with fail
  go_ret
  exact ⟨ret_bool HE.out, HB.out⟩
def byB (x : Nat) (t : Tn) : Bool := bits .and .u8 (edg t.1.2.1.toNat t.2.2.1.toNat : Nat) (x : Nat) != 0
theorem byT_asks (X x : Nat) : AsksTn 87 #[.pointer (some ⟨X, 0, none⟩)] (byB x) (fun W => One W X 5 (.int .u8 x) ∧ TabE W) (fun t => 0 ≤ t.1.2.1 ∧ 0 ≤ t.2.2.1) where
 enters := fun args W => enters_fn Tryz.func87 (by kernel_rfl) rfl args W
 kept _ _ h hb := ⟨one_below h.1 hb, h.2.below hb⟩
 call a i s n b j t m W hD hS := by
  have HB := Lib.hid (below_one W (.cells #[.int .i64 a, .int .i64 i, .int .u8 s, .int .i64 n, .int .i64 b, .int .i64 j, .int .u8 t, .int .i64 m] 53))
  have HM := Lib.hid (ubox_new W a i s n b j t m)
  have HX := Lib.hid (one_below hS.1 HB.out)
  have HT := Lib.hid (hS.2.below HB.out)
  obtain ⟨p, rfl⟩ := Int.eq_ofNat_of_zero_le hD.1
  obtain ⟨q, rfl⟩ := Int.eq_ofNat_of_zero_le hD.2
  have HR : Hid (byB x (((a, i), (p : Int), n), (b, j), (q : Int), m) = (bits .and .u8 (edg p q : Nat) (x : Nat) != 0)) := Lib.hid rfl
  generalize byB x (((a, i), (p : Int), n), (b, j), (q : Int), m) = y at *
  obtain ⟨c1, c2, c3, c4, c5, c6, c7, c8⟩ := ubox_cells HM.out
  have HC := Lib.hid fun W h => edge_below p q W h
  generalize edg p q = z at *
  clear hS hD
  have HQ := Lib.hid fun w' (hb : Below (W.alloc (.cells #[.int .i64 a, .int .i64 i, .int .u8 (p : Int), .int .i64 n, .int .i64 b, .int .i64 j, .int .u8 (q : Int), .int .i64 m] 53)).heap.size (W.alloc (.cells #[.int .i64 a, .int .i64 i, .int .u8 (p : Int), .int .i64 n, .int .i64 b, .int .i64 j, .int .u8 (q : Int), .int .i64 m] 53)) w') => And.intro (show w'.cell? ⟨W.heap.size, 2, none⟩ = some (.int .u8 (p : Int)) ∧ w'.cell? ⟨W.heap.size, 6, none⟩ = some (.int .u8 (q : Int)) from ⟨(ubox_cells (ubox_below HM.out hb)).2.2.1, (ubox_cells (ubox_below HM.out hb)).2.2.2.2.2.2.1⟩) (And.intro (one_cell (one_below HX.out hb)) (Lib.hid (HT.out.below hb)))
  clear c1 c2 c3 c4 c5 c6 c7 c8
  go_enter Tryz.func87, Tryz.ntmps87
  go_wp2_with fail
  go_region_held3 (fun w' => (w'.cell? ⟨W.heap.size, 2, none⟩ = some (.int .u8 (p : Int)) ∧ w'.cell? ⟨W.heap.size, 6, none⟩ = some (.int .u8 (q : Int))) ∧ w'.cell? ⟨X, 0, none⟩ = some (.int .u8 (x : Int)) ∧ Hid (TabE w') ∧ Hid (Below (W.alloc (.cells #[.int .i64 a, .int .i64 i, .int .u8 (p : Int), .int .i64 n, .int .i64 b, .int .i64 j, .int .u8 (q : Int), .int .i64 m] 53)).heap.size (W.alloc (.cells #[.int .i64 a, .int .i64 i, .int .u8 (p : Int), .int .i64 n, .int .i64 b, .int .i64 j, .int .u8 (q : Int), .int .i64 m] 53)) w'))
   (first | exact ⟨(HQ.out _ (Below.refl _ _).drew).1, (HQ.out _ (Below.refl _ _).drew).2.1, (HQ.out _ (Below.refl _ _).drew).2.2, Lib.hid (Below.refl _ _).drew⟩ | exact ⟨(HQ.out _ HJ.out).1, (HQ.out _ HJ.out).2.1, (HQ.out _ HJ.out).2.2, HJ⟩)
   (first | (go_at_call 88; (with_reducible refine (HC.out _ (Hid.out (by go_split_ands; assumption))).mono ?_); rintro e w' ⟨rfl, hb⟩; have HJ : Hid (Below (W.alloc (.cells #[.int .i64 a, .int .i64 i, .int .u8 (p : Int), .int .i64 n, .int .i64 b, .int .i64 j, .int .u8 (q : Int), .int .i64 m] 53)).heap.size (W.alloc (.cells #[.int .i64 a, .int .i64 i, .int .u8 (p : Int), .int .i64 n, .int .i64 b, .int .i64 j, .int .u8 (q : Int), .int .i64 m] 53)) w') := Lib.hid (below_after (Hid.out (by go_split_ands; assumption)) hb (Nat.le_refl _)); clear hb))
  have H1 := Lib.hid (below_after HB.out HJ.out (Nat.le_refl _))
  go_wp2_with fail
  go_ret
  exact ⟨ret_bool HR.out.symm, H1.out⟩
theorem by_any (x : Nat) (w : World) : Calls Tryz.prog 57 #[.int .u8 x] w fun e w' => (∃ X, e = .returned (.func (.func 87) #[] #[.pointer (some ⟨X, 0, none⟩)]) ∧ One w' X 5 (.int .u8 x) ∧ w.heap.size ≤ X) ∧ Below w.heap.size w w' := by
 have HB := Lib.hid (below_one w (.cells #[.int .u8 x] 5))
 have HO := Lib.hid (one_new w 5 (.int .u8 x))
 go_enter Tryz.func57, Tryz.ntmps57
 go_wp2_with fail
 go_ret
 exact ⟨⟨_, rfl, HO.out, Nat.le_refl _⟩, HB.out⟩
theorem allT_asks {K : Nat} {caps : Array Value} {p : Tn → Bool} {S : World → Prop} {D : Tn → Prop} (hP : AsksTn K caps p S D) (X : Nat) : AsksTn 94 #[.pointer (some ⟨X, 0, none⟩)] (fun t => !p t) (fun W => One W X 89 (.func (.func K) #[] caps) ∧ S W) D where
 enters := fun args W => enters_fn Tryz.func94 (by kernel_rfl) rfl args W
 kept _ _ h hb := ⟨one_below h.1 hb, hP.kept _ _ h.2 hb⟩
 call a i s n b j t m W hD hS := by
  have HB := Lib.hid (below_one W (.cells #[.int .i64 a, .int .i64 i, .int .u8 s, .int .i64 n, .int .i64 b, .int .i64 j, .int .u8 t, .int .i64 m] 53))
  have HM := Lib.hid (ubox_new W a i s n b j t m)
  have HX := Lib.hid (one_below hS.1 HB.out)
  have HS := Lib.hid (hP.kept _ _ hS.2 HB.out)
  have HC := Lib.hid fun W h => hP.call a i s n b j t m W hD h
  have hK := hP.enters
  obtain ⟨c1, c2, c3, c4, c5, c6, c7, c8⟩ := ubox_cells HM.out
  have f := one_cell HX.out
  have HN : Hid ((fun t => !p t) (((a, i), s, n), (b, j), t, m) = !p (((a, i), s, n), (b, j), t, m)) := Lib.hid rfl
  generalize (fun t => !p t) (((a, i), s, n), (b, j), t, m) = y at *
  generalize p (((a, i), s, n), (b, j), t, m) = z at *
  have HE := Lib.hid HN.out.symm
  clear HN hS hD hP
  go_enter Tryz.func94, Tryz.ntmps94
  go_wp2_with fail
  (with_reducible refine (HC.out _ HS.out).mono ?_)
  rintro e w1 ⟨rfl, hb⟩
  have H1 := Lib.hid (below_after HB.out hb (Nat.le_refl _))
  clear hb
  go_wp2_with fail
  go_ret
  exact ⟨rfl, H1.out⟩
end Go.Proofs.YtgphiggbajbmhaaGreatDoor
namespace Go.Proofs.YtgphiggbajbmhaaGreatDoor
open Go Go.RowKit
def CBox (w : World) (g : Nat) (p q : Int) (a b c d e a' b' c' d' e' : SL) (P : Option Addr) (t : SL) : Prop := w.heap[g]? = some (.cells #[.int .i64 p, .int .i64 q, .slice a.1 a.2.1 a.2.2, .slice b.1 b.2.1 b.2.2, .slice c.1 c.2.1 c.2.2, .slice d.1 d.2.1 d.2.2, .slice e.1 e.2.1 e.2.2, .slice a'.1 a'.2.1 a'.2.2, .slice b'.1 b'.2.1 b'.2.2, .slice c'.1 c'.2.1 c'.2.2, .slice d'.1 d'.2.1 d'.2.2, .slice e'.1 e'.2.1 e'.2.2, .pointer P, .slice t.1 t.2.1 t.2.2] 56 (0, 0))
theorem cbox_cells {w : World} {g : Nat} {p q : Int} {a b c d e a' b' c' d' e' : SL} {P : Option Addr} {t : SL} (h : CBox w g p q a b c d e a' b' c' d' e' P t) : w.cell? ⟨g, 0, none⟩ = some (.int .i64 p) ∧ w.cell? ⟨g, 1, none⟩ = some (.int .i64 q) ∧ w.cell? ⟨g, 2, none⟩ = some (.slice a.1 a.2.1 a.2.2) ∧ w.cell? ⟨g, 3, none⟩ = some (.slice b.1 b.2.1 b.2.2) ∧ w.cell? ⟨g, 4, none⟩ = some (.slice c.1 c.2.1 c.2.2) ∧ w.cell? ⟨g, 5, none⟩ = some (.slice d.1 d.2.1 d.2.2) ∧ w.cell? ⟨g, 6, none⟩ = some (.slice e.1 e.2.1 e.2.2) ∧ w.cell? ⟨g, 7, none⟩ = some (.slice a'.1 a'.2.1 a'.2.2) ∧ w.cell? ⟨g, 8, none⟩ = some (.slice b'.1 b'.2.1 b'.2.2) ∧ w.cell? ⟨g, 9, none⟩ = some (.slice c'.1 c'.2.1 c'.2.2) ∧ w.cell? ⟨g, 10, none⟩ = some (.slice d'.1 d'.2.1 d'.2.2) ∧ w.cell? ⟨g, 11, none⟩ = some (.slice e'.1 e'.2.1 e'.2.2) ∧ w.cell? ⟨g, 12, none⟩ = some (.pointer P) ∧ w.cell? ⟨g, 13, none⟩ = some (.slice t.1 t.2.1 t.2.2) := by
 unfold CBox at h
 exact ⟨by rw [cell_of_row _ _ 0 _ _ _ h]; rfl, by rw [cell_of_row _ _ 1 _ _ _ h]; rfl, by rw [cell_of_row _ _ 2 _ _ _ h]; rfl, by rw [cell_of_row _ _ 3 _ _ _ h]; rfl, by rw [cell_of_row _ _ 4 _ _ _ h]; rfl, by rw [cell_of_row _ _ 5 _ _ _ h]; rfl, by rw [cell_of_row _ _ 6 _ _ _ h]; rfl, by rw [cell_of_row _ _ 7 _ _ _ h]; rfl, by rw [cell_of_row _ _ 8 _ _ _ h]; rfl, by rw [cell_of_row _ _ 9 _ _ _ h]; rfl, by rw [cell_of_row _ _ 10 _ _ _ h]; rfl, by rw [cell_of_row _ _ 11 _ _ _ h]; rfl, by rw [cell_of_row _ _ 12 _ _ _ h]; rfl, by rw [cell_of_row _ _ 13 _ _ _ h]; rfl⟩
theorem cbox_new (w : World) (p q : Int) (a b c d e a' b' c' d' e' : SL) (P : Option Addr) (t : SL) : CBox (w.alloc (.cells #[.int .i64 p, .int .i64 q, .slice a.1 a.2.1 a.2.2, .slice b.1 b.2.1 b.2.2, .slice c.1 c.2.1 c.2.2, .slice d.1 d.2.1 d.2.2, .slice e.1 e.2.1 e.2.2, .slice a'.1 a'.2.1 a'.2.2, .slice b'.1 b'.2.1 b'.2.2, .slice c'.1 c'.2.1 c'.2.2, .slice d'.1 d'.2.1 d'.2.2, .slice e'.1 e'.2.1 e'.2.2, .pointer P, .slice t.1 t.2.1 t.2.2] 56)) w.heap.size p q a b c d e a' b' c' d' e' P t := heap_alloc_new w _
theorem cbox_lt {w : World} {g : Nat} {p q : Int} {a b c d e a' b' c' d' e' : SL} {P : Option Addr} {t : SL} (h : CBox w g p q a b c d e a' b' c' d' e' P t) : g < w.heap.size := row_lt h
theorem cbox_below {w w' : World} {g : Nat} {p q : Int} {a b c d e a' b' c' d' e' : SL} {P : Option Addr} {t : SL} (h : CBox w g p q a b c d e a' b' c' d' e' P t) (hb : Below w.heap.size w w') : CBox w' g p q a b c d e a' b' c' d' e' P t := (hb.block _ (cbox_lt h)).trans h
theorem notAny_all {α : Type} (p : α → Bool) (l : List α) : (!l.any fun x => !p x) = l.all p := by
 induction l with
 | nil => rfl
 | cons x l ih => rw [List.any_cons, List.all_cons, ← ih]; cases p x <;> simp
set_option maxHeartbeats 4000000 in
theorem allC_any {K : Nat} {caps : Array Value} {f : Tn → Bool} {S : World → Prop} {D : Tn → Prop} (hP : AsksTn K caps f S D) (p q : Int) (a b c d e a' b' c' d' e' : SL) (P : Option Addr) (t : SL) (l : List Tn) (w : World) (ht : Us w (.slice t.1 t.2.1 t.2.2) l) (hS : S w) (hl : l.length ≤ 100000) (hD : ∀ x ∈ l, D x) :
  Calls Tryz.prog 59 #[.agg #[.int .i64 p, .int .i64 q, .slice a.1 a.2.1 a.2.2, .slice b.1 b.2.1 b.2.2, .slice c.1 c.2.1 c.2.2, .slice d.1 d.2.1 d.2.2, .slice e.1 e.2.1 e.2.2, .slice a'.1 a'.2.1 a'.2.2, .slice b'.1 b'.2.1 b'.2.2, .slice c'.1 c'.2.1 c'.2.2, .slice d'.1 d'.2.1 d'.2.2, .slice e'.1 e'.2.1 e'.2.2, .pointer P, .slice t.1 t.2.1 t.2.2], .func (.func K) #[] caps] w fun e w' => e = .returned (.bool (l.all f)) ∧ Below w.heap.size w w' := by
 have q1 := below_one w (.cells #[.int .i64 p, .int .i64 q, .slice a.1 a.2.1 a.2.2, .slice b.1 b.2.1 b.2.2, .slice c.1 c.2.1 c.2.2, .slice d.1 d.2.1 d.2.2, .slice e.1 e.2.1 e.2.2, .slice a'.1 a'.2.1 a'.2.2, .slice b'.1 b'.2.1 b'.2.2, .slice c'.1 c'.2.1 c'.2.2, .slice d'.1 d'.2.1 d'.2.2, .slice e'.1 e'.2.1 e'.2.2, .pointer P, .slice t.1 t.2.1 t.2.2] 56)
 have q2 := below_one (w.alloc (.cells #[.int .i64 p, .int .i64 q, .slice a.1 a.2.1 a.2.2, .slice b.1 b.2.1 b.2.2, .slice c.1 c.2.1 c.2.2, .slice d.1 d.2.1 d.2.2, .slice e.1 e.2.1 e.2.2, .slice a'.1 a'.2.1 a'.2.2, .slice b'.1 b'.2.1 b'.2.2, .slice c'.1 c'.2.1 c'.2.2, .slice d'.1 d'.2.1 d'.2.2, .slice e'.1 e'.2.1 e'.2.2, .pointer P, .slice t.1 t.2.1 t.2.2] 56)) (.cells #[.func (.func K) #[] caps] 89)
 have BB := Lib.hid (below_after q1 q2 (Nat.le_refl _))
 have X1 := Lib.hid (cbox_below (cbox_new w p q a b c d e a' b' c' d' e' P t) q2)
 have O2 : Hid (One ((w.alloc (.cells #[.int .i64 p, .int .i64 q, .slice a.1 a.2.1 a.2.2, .slice b.1 b.2.1 b.2.2, .slice c.1 c.2.1 c.2.2, .slice d.1 d.2.1 d.2.2, .slice e.1 e.2.1 e.2.2, .slice a'.1 a'.2.1 a'.2.2, .slice b'.1 b'.2.1 b'.2.2, .slice c'.1 c'.2.1 c'.2.2, .slice d'.1 d'.2.1 d'.2.2, .slice e'.1 e'.2.1 e'.2.2, .pointer P, .slice t.1 t.2.1 t.2.2] 56)).alloc (.cells #[.func (.func K) #[] caps] 89)) (w.heap.size + 1) 89 (.func (.func K) #[] caps)) := Lib.hid (by have h := one_new (w.alloc (.cells #[.int .i64 p, .int .i64 q, .slice a.1 a.2.1 a.2.2, .slice b.1 b.2.1 b.2.2, .slice c.1 c.2.1 c.2.2, .slice d.1 d.2.1 d.2.2, .slice e.1 e.2.1 e.2.2, .slice a'.1 a'.2.1 a'.2.2, .slice b'.1 b'.2.1 b'.2.2, .slice c'.1 c'.2.1 c'.2.2, .slice d'.1 d'.2.1 d'.2.2, .slice e'.1 e'.2.1 e'.2.2, .pointer P, .slice t.1 t.2.1 t.2.2] 56)) 89 (.func (.func K) #[] caps); simp only [World.size_alloc] at h; exact h)
 have HS := Lib.hid (hP.kept _ _ hS BB.out)
 have HT := Lib.hid (ht.below BB.out)
 have HC := Lib.hid (containsU_any (allT_asks hP (w.heap.size + 1)) _ l _ HT.out ⟨O2.out, HS.out⟩ hl hD)
 have HN := Lib.hid (notAny_all f l)
 generalize (l.any fun x => !f x) = y at *
 have c13 := (cbox_cells X1.out).2.2.2.2.2.2.2.2.2.2.2.2.2
 clear q1 q2 ht hS hD
 go_enter Tryz.func59, Tryz.ntmps59
 go_wp2_with fail
 (with_reducible refine HC.out.mono ?_)
 rintro e1 w1 ⟨rfl, hb⟩
 have B1 := Lib.hid (below_after BB.out hb (Nat.le_refl _))
 clear hb
 go_wp2_with fail
 go_ret
 exact ⟨ret_bool HN.out, B1.out⟩
end Go.Proofs.YtgphiggbajbmhaaGreatDoor
namespace Go.Proofs.YtgphiggbajbmhaaGreatDoor
open Go Go.RowKit
def sameV (V U : Vw) : Bool := coreB V U && sameB V.s U.s
set_option maxHeartbeats 4000000 in
theorem sameV_any (v u : Value) (V U : Vw) (w : World) (h : VAt w v V) (k : VAt w u U) (hV : FitVIE 1000 V) (hU : FitVIE 1000 U) :
  Calls Tryz.prog 46 #[v, u] w fun e w' => e = .returned (.bool (sameV V U)) ∧ Below w.heap.size w w' := by
 have HQ := Lib.hid fun W h k => core_any v u V U W h k hV hU
 have V0 := Lib.hid h
 have U0 := Lib.hid k
 obtain ⟨a, b, c, d, e, rfl, hr⟩ := h
 obtain ⟨a', b', c', d', e', rfl, kr⟩ := k
 have X1 := Lib.hid (vbox_below (vbox_new w a b c d e) (below_one _ (.cells #[.slice a'.1 a'.2.1 a'.2.2, .slice b'.1 b'.2.1 b'.2.2, .slice c'.1 c'.2.1 c'.2.2, .slice d'.1 d'.2.1 d'.2.2, .slice e'.1 e'.2.1 e'.2.2] 27)))
 have X2 : Hid (VBox ((w.alloc (.cells #[.slice a.1 a.2.1 a.2.2, .slice b.1 b.2.1 b.2.2, .slice c.1 c.2.1 c.2.2, .slice d.1 d.2.1 d.2.2, .slice e.1 e.2.1 e.2.2] 27)).alloc (.cells #[.slice a'.1 a'.2.1 a'.2.2, .slice b'.1 b'.2.1 b'.2.2, .slice c'.1 c'.2.1 c'.2.2, .slice d'.1 d'.2.1 d'.2.2, .slice e'.1 e'.2.1 e'.2.2] 27)) (w.heap.size + 1) a' b' c' d' e') := Lib.hid (by simpa using vbox_new (w.alloc (.cells #[.slice a.1 a.2.1 a.2.2, .slice b.1 b.2.1 b.2.2, .slice c.1 c.2.1 c.2.2, .slice d.1 d.2.1 d.2.2, .slice e.1 e.2.1 e.2.2] 27)) a' b' c' d' e')
 have BB := Lib.hid (below_two w (.cells #[.slice a.1 a.2.1 a.2.2, .slice b.1 b.2.1 b.2.2, .slice c.1 c.2.1 c.2.2, .slice d.1 d.2.1 d.2.2, .slice e.1 e.2.1 e.2.2] 27) (.cells #[.slice a'.1 a'.2.1 a'.2.2, .slice b'.1 b'.2.1 b'.2.2, .slice c'.1 c'.2.1 c'.2.2, .slice d'.1 d'.2.1 d'.2.2, .slice e'.1 e'.2.1 e'.2.2] 27))
 have RA := Lib.hid (hr.below BB.out)
 have RB := Lib.hid (kr.below BB.out)
 have HC := Lib.hid (HQ.out _ (V0.out.below BB.out) (U0.out.below BB.out))
 have HL := Lib.hid (Nat.le_trans hV.s (show 1000 ≤ 100000 by decide))
 clear hr kr HQ V0 U0 hV hU
 obtain ⟨p0, p1, p2, p3, p4⟩ := vbox_cells X1.out
 obtain ⟨q0, q1, q2, q3, q4⟩ := vbox_cells X2.out
 have HE : Hid (sameV V U = (coreB V U && sameB V.s U.s)) := Lib.hid rfl
 go_enter Tryz.func46, Tryz.ntmps46
 go_wp2_with fail
 (with_reducible refine HC.out.mono ?_)
 rintro e1 w1 ⟨rfl, hb⟩
 have B1 := Lib.hid (below_after BB.out hb (Nat.le_refl _))
 have P1 := Lib.hid (vbox_below X1.out hb)
 have Q1 := Lib.hid (vbox_below X2.out hb)
 have R1 := Lib.hid (RA.out.below hb)
 have S1 := Lib.hid (RB.out.below hb)
 clear hb p0 p1 p2 p3 p4 q0 q1 q2 q3 q4 BB X1 X2 RA RB HC
 obtain ⟨p0, p1, p2, p3, p4⟩ := vbox_cells P1.out
 obtain ⟨q0, q1, q2, q3, q4⟩ := vbox_cells Q1.out
 generalize coreB V U = y1 at *
 cases y1
 ·go_wp2_with fail
  go_ret
  exact ⟨ret_bool (by rw [HE.out]; rfl), B1.out⟩
 ·go_wp2_with fail
  (with_reducible refine (equal_any _ _ V.s U.s _ R1.out.s S1.out.s HL.out).mono ?_)
  rintro e2 w2 ⟨rfl, hb⟩
  have B2 := Lib.hid (below_after B1.out hb (Nat.le_refl _))
  clear hb p0 p1 p2 p3 p4 q0 q1 q2 q3 q4 B1 P1 Q1 R1 S1
  generalize sameB V.s U.s = y2 at *
  go_wp2_with fail
  go_ret
  exact ⟨ret_bool (by rw [HE.out]; rfl), B2.out⟩
set_option maxHeartbeats 8000000 in
theorem makes_any (p q : Int) (a b c d e a' b' c' d' e' : SL) (P : Option Addr) (t : SL) (z0 z1 z2 z3 z4 : SL) (n : Int) (U Z : Vw) (w : World) (hu : RV w a' b' c' d' e' U) (hz : RV w z0 z1 z2 z3 z4 Z) (fU : FitVIE 1000 U) (fZ : FitVIE 1000 Z) :
  Calls Tryz.prog 48 #[.agg #[.int .i64 p, .int .i64 q, .slice a.1 a.2.1 a.2.2, .slice b.1 b.2.1 b.2.2, .slice c.1 c.2.1 c.2.2, .slice d.1 d.2.1 d.2.2, .slice e.1 e.2.1 e.2.2, .slice a'.1 a'.2.1 a'.2.2, .slice b'.1 b'.2.1 b'.2.2, .slice c'.1 c'.2.1 c'.2.2, .slice d'.1 d'.2.1 d'.2.2, .slice e'.1 e'.2.1 e'.2.2, .pointer P, .slice t.1 t.2.1 t.2.2], .agg #[.slice z0.1 z0.2.1 z0.2.2, .slice z1.1 z1.2.1 z1.2.2, .slice z2.1 z2.2.1 z2.2.2, .slice z3.1 z3.2.1 z3.2.2, .slice z4.1 z4.2.1 z4.2.2], .int .i64 n] w fun e w' => e = .returned (.bool ((n == 0) && sameV Z U)) ∧ Below w.heap.size w w' := by
 have q1 := below_one w (.cells #[.int .i64 p, .int .i64 q, .slice a.1 a.2.1 a.2.2, .slice b.1 b.2.1 b.2.2, .slice c.1 c.2.1 c.2.2, .slice d.1 d.2.1 d.2.2, .slice e.1 e.2.1 e.2.2, .slice a'.1 a'.2.1 a'.2.2, .slice b'.1 b'.2.1 b'.2.2, .slice c'.1 c'.2.1 c'.2.2, .slice d'.1 d'.2.1 d'.2.2, .slice e'.1 e'.2.1 e'.2.2, .pointer P, .slice t.1 t.2.1 t.2.2] 56)
 have q2 := below_one (w.alloc (.cells #[.int .i64 p, .int .i64 q, .slice a.1 a.2.1 a.2.2, .slice b.1 b.2.1 b.2.2, .slice c.1 c.2.1 c.2.2, .slice d.1 d.2.1 d.2.2, .slice e.1 e.2.1 e.2.2, .slice a'.1 a'.2.1 a'.2.2, .slice b'.1 b'.2.1 b'.2.2, .slice c'.1 c'.2.1 c'.2.2, .slice d'.1 d'.2.1 d'.2.2, .slice e'.1 e'.2.1 e'.2.2, .pointer P, .slice t.1 t.2.1 t.2.2] 56)) (.cells #[.slice z0.1 z0.2.1 z0.2.2, .slice z1.1 z1.2.1 z1.2.2, .slice z2.1 z2.2.1 z2.2.2, .slice z3.1 z3.2.1 z3.2.2, .slice z4.1 z4.2.1 z4.2.2] 27)
 have BB := Lib.hid (below_after q1 q2 (Nat.le_refl _))
 have X1 := Lib.hid (cbox_below (cbox_new w p q a b c d e a' b' c' d' e' P t) q2)
 have X2 : Hid (VBox ((w.alloc (.cells #[.int .i64 p, .int .i64 q, .slice a.1 a.2.1 a.2.2, .slice b.1 b.2.1 b.2.2, .slice c.1 c.2.1 c.2.2, .slice d.1 d.2.1 d.2.2, .slice e.1 e.2.1 e.2.2, .slice a'.1 a'.2.1 a'.2.2, .slice b'.1 b'.2.1 b'.2.2, .slice c'.1 c'.2.1 c'.2.2, .slice d'.1 d'.2.1 d'.2.2, .slice e'.1 e'.2.1 e'.2.2, .pointer P, .slice t.1 t.2.1 t.2.2] 56)).alloc (.cells #[.slice z0.1 z0.2.1 z0.2.2, .slice z1.1 z1.2.1 z1.2.2, .slice z2.1 z2.2.1 z2.2.2, .slice z3.1 z3.2.1 z3.2.2, .slice z4.1 z4.2.1 z4.2.2] 27)) (w.heap.size + 1) z0 z1 z2 z3 z4) := Lib.hid (by have h := vbox_new (w.alloc (.cells #[.int .i64 p, .int .i64 q, .slice a.1 a.2.1 a.2.2, .slice b.1 b.2.1 b.2.2, .slice c.1 c.2.1 c.2.2, .slice d.1 d.2.1 d.2.2, .slice e.1 e.2.1 e.2.2, .slice a'.1 a'.2.1 a'.2.2, .slice b'.1 b'.2.1 b'.2.2, .slice c'.1 c'.2.1 c'.2.2, .slice d'.1 d'.2.1 d'.2.2, .slice e'.1 e'.2.1 e'.2.2, .pointer P, .slice t.1 t.2.1 t.2.2] 56)) z0 z1 z2 z3 z4; simp only [World.size_alloc] at h; exact h)
 have HC := Lib.hid (sameV_any _ _ Z U _ (hz.below BB.out).at_ (hu.below BB.out).at_ fZ fU)
 obtain ⟨p0, p1, p2, p3, p4⟩ := vbox_cells X2.out
 obtain ⟨c0, c1, c2, c3, c4, c5, c6, c7, c8, c9, c10, c11, c12, c13⟩ := cbox_cells X1.out
 clear q1 q2 hu hz fU fZ
 by_cases hn : n = 0
 ·subst hn
  go_enter Tryz.func48, Tryz.ntmps48
  go_wp2_with fail
  (with_reducible refine HC.out.mono ?_)
  rintro e1 w1 ⟨rfl, hb⟩
  have B1 := Lib.hid (below_after BB.out hb (Nat.le_refl _))
  clear hb
  go_wp2_with fail
  go_ret
  exact ⟨ret_bool (by simp), B1.out⟩
 ·have hd : (n == 0) = false := by simpa using hn
  have HD := Lib.hid hd
  go_enter Tryz.func48, Tryz.ntmps48
  go_wp2_with fail
  go_ret
  exact ⟨ret_bool (by rw [HD.out]; rfl), BB.out⟩
end Go.Proofs.YtgphiggbajbmhaaGreatDoor
