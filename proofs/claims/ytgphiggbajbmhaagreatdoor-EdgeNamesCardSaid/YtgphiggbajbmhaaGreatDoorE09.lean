/-
  Carried over and put together: contracts of this program's functions, and plain facts. No statement is proved in this text.
-/
import Derived.Test.YtgphiggbajbmhaaGreatDoorRows
import Derived.ProofKit
import Derived.SizedLaws
import Derived.Below
import Derived.Carry
import Derived.Test.YtgphiggbajbmhaaGreatDoorE04
import Derived.Test.YtgphiggbajbmhaaGreatDoorE08
set_option maxRecDepth 20000
namespace Go.Proofs.YtgphiggbajbmhaaGreatDoor
namespace Ros
theorem len_outM (S : Nat → St) : (outM S).length ≤ 13 := by
 unfold outM
 have := List.length_filterMap_le (fun k : Nat => if (S k).n = 0 then none else some (((k : Int), (S k).n), (S k).s, (S k).p)) (List.range 13)
 simpa using this
theorem len_outF (S : Nat → St) : (outF S).length ≤ 13 := by
 unfold outF
 have := List.length_filterMap_le (fun k : Nat => if (S k).f ≤ 0 then none else some ((k : Int), (S k).f)) (List.range 13)
 simpa using this
def LenOk (L : Ls) : Prop := L.1.length ≤ 100 ∧ L.2.length ≤ 100
theorem lenJ (a b : Ls) : LenOk (joinL a b) := by
 constructor
 ·exact Nat.le_trans (len_outM fun k => kill ((raw a k).or (raw b k))) (by decide)
 ·exact Nat.le_trans (len_outF fun k => kill ((raw a k).or (raw b k))) (by decide)
theorem LenOk.wide {L : Ls} (h : LenOk L) : L.1.length ≤ 100000 ∧ L.2.length ≤ 100000 := ⟨by have := h.1; omega, by have := h.2; omega⟩
def Ups {α : Type} (key : α → Int) (l : List α) : Prop := l.Pairwise fun x y => key x < key y
structure Valid (m : List Mm) (f : List Id2) : Prop where
 fv : ∀ x ∈ f, vid x.1 x.2 = true
 fu : Ups (fun x : Id2 => x.1) f
 mv : ∀ x ∈ m, vid x.1.1 x.1.2 = true ∧ mayNum x.2.1 x.2.2 = true ∧ goneB f x.1 = false
 mu : Ups (fun x : Mm => x.1.1) m
theorem mayNum_cases {s n : Int} (h : mayNum s n = true) : 1 ≤ s ∧ s ≤ 6 ∧ 0 ≤ n ∧ n ≤ 1099511627776 ∧ ((s = 1 ∨ s = 2) → n = 0) ∧ ((s = 3 ∨ s = 4) → 1 ≤ n) := by
 unfold mayNum at h
 split at h
 ·have := of_decide_eq_true h; omega
 ·split at h
  ·have := of_decide_eq_true h; omega
  ·split at h
   ·have := of_decide_eq_true h; omega
   ·cases h
theorem Valid.cnt {m : List Mm} {f : List Id2} (h : Valid m f) : AllC m := fun x hx => by
 obtain ⟨h1, h2, _⟩ := h.mv x hx
 have := mayNum_cases h2
 exact cnt_iff.2 ⟨vid_iff.1 h1, this.1, by omega⟩
end Ros
end Go.Proofs.YtgphiggbajbmhaaGreatDoor
namespace Go.Proofs.YtgphiggbajbmhaaGreatDoor
namespace Ros
def ofId (y : Id2) (x : Mm) : Bool := decide (x.1 = y)
def getO (m : List Mm) (y : Id2) : Option Mm := m.find? (ofId y)
def foreO (p : Mm → Bool) (q : Mm → Mm → Bool) (l : List Mm) : Option Mm := l.foldl (fun b x => if p x && (match b with | none => true | some y => q x y) then some x else b) none
theorem foreO_next {p : Mm → Bool} {q : Mm → Mm → Bool} {l : List Mm} {k : Nat} (hk : k < l.length) : foreO p q (l.take (k + 1)) = if p l[k] && (match foreO p q (l.take k) with | none => true | some y => q l[k] y) then some l[k] else foreO p q (l.take k) := by
 unfold foreO
 rw [List.take_succ_eq_append_getElem hk, List.foldl_append]
 rfl
end Ros
end Go.Proofs.YtgphiggbajbmhaaGreatDoor
namespace Go.Proofs.YtgphiggbajbmhaaGreatDoor
namespace Ros
def newerB (x y : Mm) : Bool := decide (y.1.2 < x.1.2)
def isAt (y : Int) (x : Mm) : Bool := decide (x.1.1 = y)
end Ros
end Go.Proofs.YtgphiggbajbmhaaGreatDoor
namespace Go.Proofs.YtgphiggbajbmhaaGreatDoor
open Go Go.RowKit Ros
def getO (m : List Mm) (y : Id2) : Option Mm := m.find? (isM y)
def mval (x : Mm) : Value := .agg #[.int .i64 x.1.1, .int .i64 x.1.2, .int .u8 x.2.1, .int .i64 x.2.2]
def noneM : Mm := ((0, 0), 0, 0)
def gotV (o : Option Mm) : Value := .tuple #[mval (o.getD noneM), .bool o.isSome]
theorem found_find {l : List Mm} {p : Mm → Bool} {r : Int} (h : FoundPROS p l r) : (r = -1 ∧ l.find? p = none) ∨ ∃ k : Nat, ∃ hk : k < l.length, r = k ∧ l.find? p = some l[k] := by
 rcases h with ⟨rfl, h⟩ | ⟨k, hk, rfl, h1, h2⟩
 ·exact .inl ⟨rfl, List.find?_eq_none.2 fun x hx => by rw [h x hx]; simp⟩
 ·refine .inr ⟨k, hk, rfl, ?_⟩
  have e : l = l.take k ++ l[k] :: l.drop (k + 1) := by rw [← List.drop_eq_getElem_cons hk, List.take_append_drop]
  have h3 : (l.take k).find? p = none := List.find?_eq_none.2 fun x hx => by rw [h2 x hx]; simp
  generalize l[k] = z at *
  rw [e, List.find?_append, h3, List.find?_cons_of_pos h1]
  rfl
set_option maxHeartbeats 4000000 in
theorem get_anyROS (v : Value) (l : List Mm) (a i : Int) (w : World) (h : Ms w v l) (hl : l.length ≤ 100000) :
  Calls Tryz.prog 50 #[v, .agg #[.int .i64 a, .int .i64 i]] w fun e w' => e = .returned (gotV (getO l (a, i))) ∧ Below w.heap.size w w' := by
 have BB := Lib.hid (below_two w (.cells #[.int .i64 a, .int .i64 i] 32) (.cells #[.int .i64 0, .int .i64 0, .int .u8 0, .int .i64 0] 34))
 have HI := Lib.hid (h.below BB.out)
 have XB := Lib.hid (box_below (box_new w a i) (below_one _ (.cells #[.int .i64 0, .int .i64 0, .int .u8 0, .int .i64 0] 34)))
 have XR : Hid (MBox ((w.alloc (.cells #[.int .i64 a, .int .i64 i] 32)).alloc (.cells #[.int .i64 0, .int .i64 0, .int .u8 0, .int .i64 0] 34)) (w.heap.size + 1) 0 0 0 0) := Lib.hid (by simpa using mbox_new (w.alloc (.cells #[.int .i64 a, .int .i64 i] 32)) 0 0 0 0)
 have HE : Hid (getO l (a, i) = l.find? (isM (a, i))) := Lib.hid rfl
 obtain ⟨A, c, rfl, hz⟩ := h
 clear hz
 go_enter Tryz.func50, Tryz.ntmps50
 go_wp2_with fail
 (with_reducible refine (indexM_any (isM_asks w.heap.size a i) _ l _ HI.out XB.out hl (fun _ _ => trivial)).mono ?_)
 rintro e w1 ⟨⟨r, rfl, hf⟩, hb⟩
 have B1 := Lib.hid (below_after BB.out hb (Nat.le_refl _))
 have R1 := Lib.hid (mbox_below XR.out hb)
 have I1 := Lib.hid (HI.out.below hb)
 clear hb
 obtain ⟨z1, z2, z3, z4⟩ := mbox_cells R1.out
 obtain ⟨f1, f2, f3, f4⟩ := mbox_free R1.out
 rcases found_find hf with ⟨rfl, hn⟩ | ⟨k, hk, rfl, hn⟩
 ·have HF := Lib.hid (HE.out.trans hn)
  clear hf hn
  go_wp2_with fail
  have R2 := mbox_set R1.out 0 0 0 0
  obtain ⟨q0, q1, q2, q3⟩ := mbox_cells R2
  refine bodyPost_ret (v := gotV none) (by simp [results, Tryz.results50, go_sem, q0, q1, q2, q3, gotV, mval, noneM]) rfl ?_
  exact ⟨by rw [HF.out], below_setCells B1.out (by omega) 0 [_, _, _, _]⟩
 ·have HF := Lib.hid (HE.out.trans hn)
  have i3 : (0 : Int) ≤ (k : Int) := by omega
  have i4 : (k : Int) < (l.length : Int) := by omega
  have hd : decide ((k : Int) < 0) = false := by simp
  obtain ⟨ad, rfl, c1, c2, c3, c4⟩ := Ms.at_ I1.out (Below.refl _ _) hk
  have HM : Hid (l[k] = ((l[k].1.1, l[k].1.2), l[k].2.1, l[k].2.2)) := Lib.hid rfl
  rw [HM.out] at HF
  clear hf hn HM
  generalize l[k].1.1 = x1 at *
  generalize l[k].1.2 = x2 at *
  generalize l[k].2.1 = x3 at *
  generalize l[k].2.2 = x4 at *
  go_wp2_with fail
  have R2 := mbox_set R1.out x1 x2 x3 x4
  obtain ⟨q0, q1, q2, q3⟩ := mbox_cells R2
  refine bodyPost_ret (v := gotV (some ((x1, x2), x3, x4))) (by simp [results, Tryz.results50, go_sem, q0, q1, q2, q3, gotV, mval]) rfl ?_
  exact ⟨by rw [HF.out], below_setCells B1.out (by omega) 0 [_, _, _, _]⟩
structure AsksA (K : Nat) (q : Mm → Mm → Bool) : Prop where
 enters : ∀ args W, (callFunc K args).run Tryz.prog W = .ok (.enter K args) W
 call : ∀ a i s n b j t m W, Calls Tryz.prog K #[.agg #[.int .i64 a, .int .i64 i, .int .u8 s, .int .i64 n], .agg #[.int .i64 b, .int .i64 j, .int .u8 t, .int .i64 m]] W fun e w' => e = .returned (.bool (q ((a, i), s, n) ((b, j), t, m))) ∧ Below W.heap.size W w'
theorem newer_asks : AsksA 86 newerB where
 enters := fun args W => enters_fn Tryz.func86 (by kernel_rfl) rfl args W
 call a i s n b j t m W := by
  have HB := Lib.hid (below_two W (.cells #[.int .i64 a, .int .i64 i, .int .u8 s, .int .i64 n] 34) (.cells #[.int .i64 b, .int .i64 j, .int .u8 t, .int .i64 m] 34))
  have HR : Hid (newerB ((a, i), s, n) ((b, j), t, m) = decide (j < i)) := Lib.hid rfl
  go_enter Tryz.func86, Tryz.ntmps86
  go_wp2_with fail
  go_ret
  exact ⟨ret_bool (by rw [HR.out]), HB.out⟩
theorem isAt_asks (X : Nat) (p : Int) : AsksM 85 #[.pointer (some ⟨X, 0, none⟩)] (isAt p) (fun W => One W X 3 (.int .i64 p)) (fun _ => True) where
 enters := fun args W => enters_fn Tryz.func85 (by kernel_rfl) rfl args W
 kept _ _ h hb := one_below h hb
 call a i s n W _ hS := by
  have HB := Lib.hid (below_one W (.cells #[.int .i64 a, .int .i64 i, .int .u8 s, .int .i64 n] 34))
  have HX := Lib.hid (one_below hS HB.out)
  have HR : Hid (isAt p ((a, i), s, n) = decide (a = p)) := Lib.hid rfl
  clear hS
  have c1 := one_cell HX.out
  by_cases h1 : a = p
  ·subst h1
   go_enter Tryz.func85, Tryz.ntmps85
   go_wp2_with fail
   go_ret
   exact ⟨ret_bool (by rw [HR.out]; simp), HB.out⟩
  ·have h3 : (a == p) = false := by simpa using h1
   go_enter Tryz.func85, Tryz.ntmps85
   go_wp2_with fail
   go_ret
   exact ⟨ret_bool (by rw [HR.out]; simp [h1]), HB.out⟩
set_option maxHeartbeats 8000000 in
theorem foremost_any {K : Nat} {caps : Array Value} {p : Mm → Bool} {S : World → Prop} (hP : AsksM K caps p S (fun _ => True)) {K2 : Nat} {q : Mm → Mm → Bool} (hQ : AsksA K2 q) (v : Value) (l : List Mm) (w : World) (h : Ms w v l) (hl : l.length ≤ 100000) (hS : S w) (hSg : ∀ g W W', w.heap.size ≤ g → S W → W.grownBy W' (some g) → S W') :
  Calls Tryz.prog 84 #[v, .func (.func K) #[] caps, .func (.func K2) #[] #[]] w fun e w' => e = .returned (gotV (foreO p q l)) ∧ Below w.heap.size w w' := by
 have HP := Lib.hid hP
 have HQ := Lib.hid hQ
 have hK := hP.enters
 have hK2 := hQ.enters
 have HG := Lib.hid hSg
 have BB := Lib.hid (below_two w (.cells #[.int .i64 0, .int .i64 0, .int .u8 0, .int .i64 0] 34) (.cells #[.int .i64 0, .int .i64 0, .int .u8 0, .int .i64 0] 34))
 have HI := Lib.hid h
 have S0 := Lib.hid (hP.kept _ _ hS BB.out)
 have XR := Lib.hid (mbox_below (mbox_new w 0 0 0 0) (below_one _ (.cells #[.int .i64 0, .int .i64 0, .int .u8 0, .int .i64 0] 34)))
 have XB : Hid (MBox ((w.alloc (.cells #[.int .i64 0, .int .i64 0, .int .u8 0, .int .i64 0] 34)).alloc (.cells #[.int .i64 0, .int .i64 0, .int .u8 0, .int .i64 0] 34)) (w.heap.size + 1) 0 0 0 0) := Lib.hid (by simpa using mbox_new (w.alloc (.cells #[.int .i64 0, .int .i64 0, .int .u8 0, .int .i64 0] 34)) 0 0 0 0)
 obtain ⟨A, c, rfl, hz⟩ := h
 clear hz hP hQ hS hSg
 go_enter Tryz.func84, Tryz.ntmps84
 go_wp2_with fail
 go_loopw [9, 14] (fun s9 s14 wr => ∃ (k : Nat) (o : Option Mm), k ≤ l.length ∧ s14 = .int .i64 k ∧ s9 = .bool o.isSome ∧ Hid (foreO p q (l.take k) = o) ∧ Hid (MBox wr (w.heap.size + 1) (o.getD noneM).1.1 (o.getD noneM).1.2 (o.getD noneM).2.1 (o.getD noneM).2.2) ∧ Hid (MBox wr w.heap.size 0 0 0 0) ∧ Hid (S wr) ∧ Hid (Below w.heap.size w wr)) (fun _ s14 _ => l.length - (intOf s14).toNat)
 case atStart => exact ⟨0, none, by omega, rfl, rfl, Lib.hid rfl, XB, XR, S0, BB⟩
 case round =>
  obtain ⟨k, o, hkl, rfl, rfl, HT, HB, HR, HS, HW⟩ := hrel
  have i3 : (0 : Int) ≤ (k : Int) := by omega
  by_cases hlt : k < l.length
  ·have hd : decide ((k : Int) < (l.length : Int)) = true := by simp; omega
   have i4 : (k : Int) < (l.length : Int) := by omega
   obtain ⟨ad, rfl, c1, c2, c3, c4⟩ := Ms.at_ HI.out HW.out hlt
   have HN := Lib.hid (foreO_next (p := p) (q := q) hlt)
   rw [HT.out] at HN
   have HM : Hid (l[k] = ((l[k].1.1, l[k].1.2), l[k].2.1, l[k].2.2)) := Lib.hid rfl
   rw [HM.out] at HN
   clear HM
   generalize l[k].1.1 = x1 at *
   generalize l[k].1.2 = x2 at *
   generalize l[k].2.1 = x3 at *
   generalize l[k].2.2 = x4 at *
   have q1 := below_one wr (.cells #[.int .i64 x1, .int .i64 x2, .int .u8 x3, .int .i64 x4] 34)
   have MX := Lib.hid (mbox_new wr x1 x2 x3 x4)
   have MB := Lib.hid (mbox_below HB.out q1)
   have MR := Lib.hid (mbox_below HR.out q1)
   have SX := Lib.hid (HP.out.kept _ _ HS.out q1)
   have BX := Lib.hid (HW.out.trans (q1.mono HW.out.size))
   have HC := Lib.hid fun W hs => HP.out.call x1 x2 x3 x4 W trivial hs
   clear q1
   obtain ⟨y1, y2, y3, y4⟩ := mbox_cells MX.out
   cases hp : p ((x1, x2), x3, x4)
   ·rw [hp] at HC HN
    have HF : Hid (foreO p q (l.take (k + 1)) = o) := Lib.hid HN.out
    obtain ⟨z, hz⟩ : ∃ z, Hid (o.isSome = z) := ⟨_, Lib.hid rfl⟩
    rw [hz.out]
    clear hp HN
    go_wp2_with fail
    (with_reducible refine (HC.out _ SX.out).mono ?_)
    rintro e w1 ⟨rfl, hb⟩
    have N1 := Lib.hid (mbox_below MB.out hb)
    have N2 := Lib.hid (mbox_below MR.out hb)
    have N3 := Lib.hid (HP.out.kept _ _ SX.out hb)
    have N4 := Lib.hid (below_after BX.out hb (Nat.le_refl _))
    clear hb y1 y2 y3 y4
    go_wp2_with fail
    go_roundw
    case rel => exact ⟨k + 1, o, by omega, by go_num, by rw [hz.out], HF, N1, N2, N3, N4⟩
    case measure => simp [intOf]; omega
   ·rw [hp] at HC HN
    clear hp
    rcases o with _ | ⟨⟨b1, b2⟩, b3, b4⟩
    ·have HF : Hid (foreO p q (l.take (k + 1)) = some ((x1, x2), x3, x4)) := Lib.hid HN.out
     clear HN
     go_wp2_with fail
     (with_reducible refine (HC.out _ SX.out).mono ?_)
     rintro e w1 ⟨rfl, hb⟩
     have N0 := Lib.hid (mbox_below MX.out hb)
     have N1 := Lib.hid (mbox_below MB.out hb)
     have N2 := Lib.hid (mbox_below MR.out hb)
     have N3 := Lib.hid (HP.out.kept _ _ SX.out hb)
     have N4 := Lib.hid (below_after BX.out hb (Nat.le_refl _))
     clear hb y1 y2 y3 y4
     obtain ⟨y1, y2, y3, y4⟩ := mbox_cells N0.out
     obtain ⟨z1, z2, z3, z4⟩ := mbox_cells N1.out
     obtain ⟨f1, f2, f3, f4⟩ := mbox_free N1.out
     have G := grown_setCells (World.grownBy.refl w1 (some (w.heap.size + 1))) 0 [.int .i64 x1, .int .i64 x2, .int .u8 x3, .int .i64 x4]
     have P1 := Lib.hid (mbox_set N1.out x1 x2 x3 x4)
     have P2 := Lib.hid ((G.block w.heap.size (mbox_lt N2.out) (by simp)).trans N2.out)
     have P3 := Lib.hid (HG.out _ _ _ (by omega) N3.out G)
     have P4 := Lib.hid (below_setCells N4.out (show w.heap.size ≤ w.heap.size + 1 by omega) 0 [.int .i64 x1, .int .i64 x2, .int .u8 x3, .int .i64 x4])
     clear G
     go_wp2_with fail
     go_roundw
     case rel => exact ⟨k + 1, some ((x1, x2), x3, x4), by omega, by go_num, rfl, HF, P1, P2, P3, P4⟩
     case measure => simp [intOf]; omega
    ·have HN : Hid (foreO p q (l.take (k + 1)) = if (true && q ((x1, x2), x3, x4) ((b1, b2), b3, b4)) = true then some ((x1, x2), x3, x4) else some ((b1, b2), b3, b4)) := Lib.hid HN.out
     have HC2 := Lib.hid fun W => HQ.out.call x1 x2 x3 x4 b1 b2 b3 b4 W
     cases hq : q ((x1, x2), x3, x4) ((b1, b2), b3, b4)
     ·rw [hq] at HC2 HN
      have HF : Hid (foreO p q (l.take (k + 1)) = some ((b1, b2), b3, b4)) := Lib.hid HN.out
      clear hq HN
      go_wp2_with fail
      (with_reducible refine (HC.out _ SX.out).mono ?_)
      rintro e w1 ⟨rfl, hb⟩
      have N0 := Lib.hid (mbox_below MX.out hb)
      have N1 := Lib.hid (mbox_below MB.out hb)
      have N2 := Lib.hid (mbox_below MR.out hb)
      have N3 := Lib.hid (HP.out.kept _ _ SX.out hb)
      have N4 := Lib.hid (below_after BX.out hb (Nat.le_refl _))
      clear hb y1 y2 y3 y4
      obtain ⟨y1, y2, y3, y4⟩ := mbox_cells N0.out
      obtain ⟨z1, z2, z3, z4⟩ := mbox_cells N1.out
      go_wp2_with fail
      (with_reducible refine (HC2.out _).mono ?_)
      rintro e w2 ⟨rfl, hb⟩
      have P0 := Lib.hid (mbox_below N0.out hb)
      have P1 := Lib.hid (mbox_below N1.out hb)
      have P2 := Lib.hid (mbox_below N2.out hb)
      have P3 := Lib.hid (HP.out.kept _ _ N3.out hb)
      have P4 := Lib.hid (below_after N4.out hb (Nat.le_refl _))
      clear hb y1 y2 y3 y4 z1 z2 z3 z4
      go_wp2_with fail
      go_roundw
      case rel => exact ⟨k + 1, some ((b1, b2), b3, b4), by omega, by go_num, rfl, HF, P1, P2, P3, P4⟩
      case measure => simp [intOf]; omega
     ·rw [hq] at HC2 HN
      have HF : Hid (foreO p q (l.take (k + 1)) = some ((x1, x2), x3, x4)) := Lib.hid HN.out
      clear hq HN
      go_wp2_with fail
      (with_reducible refine (HC.out _ SX.out).mono ?_)
      rintro e w1 ⟨rfl, hb⟩
      have N0 := Lib.hid (mbox_below MX.out hb)
      have N1 := Lib.hid (mbox_below MB.out hb)
      have N2 := Lib.hid (mbox_below MR.out hb)
      have N3 := Lib.hid (HP.out.kept _ _ SX.out hb)
      have N4 := Lib.hid (below_after BX.out hb (Nat.le_refl _))
      clear hb y1 y2 y3 y4
      obtain ⟨y1, y2, y3, y4⟩ := mbox_cells N0.out
      obtain ⟨z1, z2, z3, z4⟩ := mbox_cells N1.out
      go_wp2_with fail
      (with_reducible refine (HC2.out _).mono ?_)
      rintro e w2 ⟨rfl, hb⟩
      have P0 := Lib.hid (mbox_below N0.out hb)
      have P1 := Lib.hid (mbox_below N1.out hb)
      have P2 := Lib.hid (mbox_below N2.out hb)
      have P3 := Lib.hid (HP.out.kept _ _ N3.out hb)
      have P4 := Lib.hid (below_after N4.out hb (Nat.le_refl _))
      clear hb y1 y2 y3 y4 z1 z2 z3 z4
      clear N0 N1 N2 N3 N4
      have N0 := P0
      have N1 := P1
      have N2 := P2
      have N3 := P3
      have N4 := P4
      clear P0 P1 P2 P3 P4
      obtain ⟨y1, y2, y3, y4⟩ := mbox_cells N0.out
      obtain ⟨z1, z2, z3, z4⟩ := mbox_cells N1.out
      obtain ⟨f1, f2, f3, f4⟩ := mbox_free N1.out
      have G := grown_setCells (World.grownBy.refl w2 (some (w.heap.size + 1))) 0 [.int .i64 x1, .int .i64 x2, .int .u8 x3, .int .i64 x4]
      have P1 := Lib.hid (mbox_set N1.out x1 x2 x3 x4)
      have P2 := Lib.hid ((G.block w.heap.size (mbox_lt N2.out) (by simp)).trans N2.out)
      have P3 := Lib.hid (HG.out _ _ _ (by omega) N3.out G)
      have P4 := Lib.hid (below_setCells N4.out (show w.heap.size ≤ w.heap.size + 1 by omega) 0 [.int .i64 x1, .int .i64 x2, .int .u8 x3, .int .i64 x4])
      clear G
      go_wp2_with fail
      go_roundw
      case rel => exact ⟨k + 1, some ((x1, x2), x3, x4), by omega, by go_num, rfl, HF, P1, P2, P3, P4⟩
      case measure => simp [intOf]; omega
  ·have hd : decide ((k : Int) < (l.length : Int)) = false := by simp; omega
   have HF : Hid (foreO p q l = o) := Lib.hid (by have := HT.out; rwa [List.take_of_length_le (by omega)] at this)
   obtain ⟨z, hz⟩ : ∃ z, Hid (o.isSome = z) := ⟨_, Lib.hid rfl⟩
   rw [hz.out]
   have HV : Hid (gotV o = .tuple #[mval (o.getD noneM), .bool z]) := Lib.hid (by rw [← hz.out]; rfl)
   generalize o.getD noneM = r at *
   obtain ⟨⟨r1, r2⟩, r3, r4⟩ := r
   obtain ⟨y1, y2, y3, y4⟩ := mbox_cells HB.out
   obtain ⟨z1, z2, z3, z4⟩ := mbox_cells HR.out
   obtain ⟨f1, f2, f3, f4⟩ := mbox_free HR.out
   go_wp2_with fail
   obtain ⟨q0, q1, q2, q3⟩ := mbox_cells (mbox_set HR.out r1 r2 r3 r4)
   refine bodyPost_ret (v := .tuple #[mval ((r1, r2), r3, r4), .bool z]) (by simp [results, Tryz.results84, go_sem, q0, q1, q2, q3, mval]) rfl ?_
   exact ⟨by rw [HF.out, HV.out], below_setCells HW.out (Nat.le_refl _) 0 [_, _, _, _]⟩
set_option maxHeartbeats 2000000 in
theorem at_any (v : Value) (l : List Mm) (a : Int) (w : World) (h : Ms w v l) (hl : l.length ≤ 100000) :
  Calls Tryz.prog 54 #[v, .int .i64 a] w fun e w' => e = .returned (gotV (foreO (isAt a) newerB l)) ∧ Below w.heap.size w w' := by
 have BB := Lib.hid (below_two w (.cells #[.int .i64 a] 3) (.cells #[.int .i64 0, .int .i64 0, .int .u8 0, .int .i64 0] 34))
 have HI := Lib.hid (h.below BB.out)
 have XO := Lib.hid (one_below (one_new w 3 (.int .i64 a)) (below_one _ (.cells #[.int .i64 0, .int .i64 0, .int .u8 0, .int .i64 0] 34)))
 have XR : Hid (MBox ((w.alloc (.cells #[.int .i64 a] 3)).alloc (.cells #[.int .i64 0, .int .i64 0, .int .u8 0, .int .i64 0] 34)) (w.heap.size + 1) 0 0 0 0) := Lib.hid (by simpa using mbox_new (w.alloc (.cells #[.int .i64 a] 3)) 0 0 0 0)
 have HL : Hid (l.length ≤ 100000) := Lib.hid hl
 have HV := Lib.hid (show gotV (foreO (isAt a) newerB l) = .tuple #[mval ((foreO (isAt a) newerB l).getD noneM), .bool (foreO (isAt a) newerB l).isSome] from rfl)
 clear h
 go_enter Tryz.func54, Tryz.ntmps54
 go_wp2_with fail
 (with_reducible refine (foremost_any (isAt_asks w.heap.size a) newer_asks v l _ HI.out HL.out XO.out (fun g W W' hg hS hb => one_grown hS hb (fun e => by have : w.heap.size + 1 + 1 ≤ g := (by simpa using hg); omega))).mono ?_)
 rintro e w1 ⟨rfl, hb⟩
 have B1 := Lib.hid (below_after BB.out hb (Nat.le_refl _))
 have R1 := Lib.hid (mbox_below XR.out hb)
 clear hb
 rw [HV.out]
 generalize (foreO (isAt a) newerB l).isSome = z at *
 generalize (foreO (isAt a) newerB l).getD noneM = r at *
 obtain ⟨⟨r1, r2⟩, r3, r4⟩ := r
 obtain ⟨z1, z2, z3, z4⟩ := mbox_cells R1.out
 obtain ⟨f1, f2, f3, f4⟩ := mbox_free R1.out
 rw [show mval ((r1, r2), r3, r4) = .agg #[.int .i64 r1, .int .i64 r2, .int .u8 r3, .int .i64 r4] from rfl]
 go_wp2_with fail
 obtain ⟨q0, q1, q2, q3⟩ := mbox_cells (mbox_set R1.out r1 r2 r3 r4)
 refine bodyPost_ret (v := .tuple #[.agg #[.int .i64 r1, .int .i64 r2, .int .u8 r3, .int .i64 r4], .bool z]) (by simp [results, Tryz.results54, go_sem, q0, q1, q2, q3]) rfl ?_
 exact ⟨by rw [HV.out]; rfl, below_setCells B1.out (by omega) 0 [_, _, _, _]⟩
end Go.Proofs.YtgphiggbajbmhaaGreatDoor
namespace Go.Proofs.YtgphiggbajbmhaaGreatDoor
open Go Go.RowKit Sets RowSets
set_option maxHeartbeats 2000000 in
theorem owners_any (v : Value) (qs : List Raw) (w : World) (h : Rcs encW 4 w v qs) (hl : qs.length ≤ 1000) :
  Calls Tryz.prog 172 #[v] w (Lists (qs.map (·.1)) w) := by
 have HI := Lib.hid h
 obtain ⟨A, c, rfl, hz⟩ := h
 clear hz
 go_enter Tryz.func172, Tryz.ntmps172
 go_wp2_with (at_make; refine wpList_make_all (enc := encI) 23 32 (0, 0) Tryz.underlying23 infoI encI_len (by omega) rfl (by omega) w rfl (.tmp 7) rfl qs.length rfl (by omega) ?_; intro w1 k1 k2 k3; have R1 := Lib.hid k1; have S1 := Lib.hid k2; have B1 := Lib.hid k3; clear k1 k2 k3)
 have hsz0 : (Array.replicate qs.length ((0, 0) : Id2)).size = qs.length := by simp
 obtain ⟨g, hg⟩ : ∃ g, w.heap.size = g := ⟨_, rfl⟩
 have HG := Lib.hid hg
 rw [hg] at R1 S1
 simp only [hg]
 clear hg
 go_loopw [11] (fun s11 wr => ∃ k : Nat, ∃ dk : Array Id2, k ≤ qs.length ∧ s11 = .int .i64 k ∧ dk.size = qs.length ∧ Hid (RowAtR encI 2 wr g dk) ∧ Hid (dk.toList.take k = (qs.take k).map (·.1)) ∧ Hid (Below w.heap.size w wr)) (fun s11 _ => qs.length - (intOf s11).toNat)
 case atStart => exact ⟨0, _, by omega, rfl, hsz0, R1, Lib.hid rfl, B1⟩
 case round =>
  obtain ⟨k, dk, hkl, rfl, hds, HR, HT, HW⟩ := hrel
  have i3 : (0 : Int) ≤ (k : Int) := by omega
  by_cases hlt : k < qs.length
  ·have hd : decide ((k : Int) < (qs.length : Int)) = true := by simp; omega
   have i4 : (k : Int) < (qs.length : Int) := by omega
   obtain ⟨ad, rfl, c1, c2, c3, c4⟩ := HI.out.raw HW.out hlt
   have HX := Lib.hid (wbox_new wr qs[k].1.1 qs[k].1.2 qs[k].2.1 (.slice qs[k].2.2.1 qs[k].2.2.2.1 qs[k].2.2.2.2))
   have HB := Lib.hid (below_one wr (.cells #[.int .i64 qs[k].1.1, .int .i64 qs[k].1.2, .int .i64 qs[k].2.1, .slice qs[k].2.2.1 qs[k].2.2.2.1 qs[k].2.2.2.2] 65))
   have R2 := Lib.hid (rowAtR_kept HR.out HB.out)
   have W2 := Lib.hid (HW.out.trans (HB.out.mono HW.out.size))
   have HS := Lib.hid (take_set_snoc (show k < dk.size by omega) ((qs[k].1.1, qs[k].1.2) : Id2))
   have HT2 := Lib.hid (show (qs.take (k + 1)).map (·.1) = (qs.take k).map (·.1) ++ [(qs[k].1.1, qs[k].1.2)] by rw [take_snoc hlt, List.map_append]; rfl)
   generalize qs[k].1.1 = a at *
   generalize qs[k].1.2 = i at *
   generalize qs[k].2.1 = n at *
   generalize qs[k].2.2.1 = B at *
   generalize qs[k].2.2.2.1 = m at *
   generalize qs[k].2.2.2.2 = d at *
   obtain ⟨x1, x2, x3, x4⟩ := wbox_cells HX.out
   obtain ⟨⟨y1, y2⟩, f1, f2⟩ := R2.out.id (k := k) (by omega)
   have R3 := Lib.hid (rowI_set R2.out (show k < dk.size by omega) a i)
   have W3 := Lib.hid (below_setI (g := g) W2.out (by rw [HG.out]; exact Nat.le_refl g) k (.int .i64 a) (.int .i64 i))
   have HF := Lib.hid (show (dk.setIfInBounds k (a, i)).toList.take (k + 1) = (qs.take (k + 1)).map (·.1) by rw [HS.out, HT2.out, HT.out])
   go_wp2_with fail
   go_roundw
   case rel => exact ⟨k + 1, _, by omega, by go_num, by simpa using hds, R3, HF, W3⟩
   case measure => simp [intOf]; omega
  ·obtain rfl : k = qs.length := by omega
   have hd : decide ((qs.length : Int) < (qs.length : Int)) = false := by simp
   have HF := Lib.hid (show dk.toList = qs.map (·.1) by
    have := HT.out
    rwa [List.take_of_length_le (by simp; omega), List.take_of_length_le (Nat.le_refl _)] at this)
   have HQ := Lib.hid (rowAtR_rcs HR.out (show dk.size ≤ qs.length by omega))
   rw [hds] at HQ
   go_wp2_with fail
   go_ret
   exact ⟨_, rfl, by rw [← HF.out]; exact ids_rcs HQ.out, HW.out⟩
theorem EachReads.owners {w : World} : ∀ {qs : List Raw} {l : List Row}, EachReads w qs l → qs.map (·.1) = ids l
 | [], [], _ => rfl
 | q :: qs, r :: l, h => by
  rw [List.map_cons, h.2.owners, h.1.1]
  rfl
 | [], _ :: _, h => h.elim
 | _ :: _, [], h => h.elim
theorem get_first {x : Id2} : ∀ {l : List Row} {k : Nat} (h : k < l.length), l[k].1 = x → (∀ y ∈ (ids l).take k, y ≠ x) → get l x = some l[k].2
 | r :: l, 0, _, e, _ => by
  have e2 : r.1 = x := e
  rw [RowSets.get, if_pos e2]
  rfl
 | r :: l, k + 1, h, e, hn => by
  have h1 : r.1 ≠ x := hn r.1 (by simp [ids])
  rw [RowSets.get, if_neg h1]
  exact get_first (by simpa using h) e fun y hy => hn y (by
   show y ∈ (r.1 :: ids l).take (k + 1)
   rw [List.take_succ_cons]
   exact List.mem_cons_of_mem _ hy)
theorem found_get {w : World} {qs : List Raw} {l : List Row} (h : EachReads w qs l) {x : Id2} {r : Int} (hr : FoundP (fun u => isI u x) (qs.map (·.1)) r) :
  (r = -1 ∧ get l x = none) ∨ ∃ k : Nat, ∃ _ : k < qs.length, ∃ h2 : k < l.length, r = k ∧ get l x = some l[k].2 ∧ l[k].1 = x ∧ ∀ y ∈ (ids l).take k, y ≠ x := by
 rw [h.owners] at hr
 have hlen := h.len
 rcases hr with ⟨e, hn⟩ | ⟨k, hk, e, h1, hn⟩
 ·refine .inl ⟨e, get_none.2 fun hx => ?_⟩
  have := hn x hx
  simp [isI] at this
 ·have hk2 : k < l.length := by simpa [ids] using hk
  have he : l[k].1 = x := by simpa [ids, isI] using h1
  have hn2 : ∀ y ∈ (ids l).take k, y ≠ x := fun y hy => by have := hn y hy; simpa [isI] using this
  exact .inr ⟨k, by omega, hk2, e, get_first hk2 he hn2, he, hn2⟩
def ofI (o : Option Says) (x : Id2) : Id2 := if o.isSome then x else (0, 0)
set_option maxHeartbeats 1000000 in
theorem get_any (v : Value) (l : List Row) (x y : Int) (w : World) (h : RowsAt w v l) (hl : l.length ≤ 1000) (hn : ∀ r ∈ l, r.2.2.length ≤ 100000) :
  Calls Tryz.prog 47 #[v, .agg #[.int .i64 x, .int .i64 y]] w fun e w' => ∃ B m c, e = .returned (.tuple #[.agg #[.int .i64 (ofI (get l (x, y)) (x, y)).1, .int .i64 (ofI (get l (x, y)) (x, y)).2, .int .i64 (vers (get l (x, y))), .slice B m c], .bool (get l (x, y)).isSome]) ∧ Ids w' (.slice B m c) (nots (get l (x, y))) ∧ Below w.heap.size w w' := by
 obtain ⟨qs, h1, h2⟩ := h
 have hlen := h2.len.symm
 have B0 := Lib.hid (below_two w (.cells #[.int .i64 x, .int .i64 y] 32) (.cells #[.int .i64 0, .int .i64 0, .int .i64 0, .slice none 0 0] 65))
 have HI := Lib.hid (h1.below B0.out)
 have HE := Lib.hid (h2.below B0.out)
 have HN := Lib.hid hn
 have X0 := Lib.hid (show Box ((w.alloc (.cells #[.int .i64 x, .int .i64 y] 32)).alloc (.cells #[.int .i64 0, .int .i64 0, .int .i64 0, .slice none 0 0] 65)) w.heap.size x y from (Below.heap_alloc _ _ _ (by simp)).trans (box_new w x y))
 have Y0 := Lib.hid (show WBox ((w.alloc (.cells #[.int .i64 x, .int .i64 y] 32)).alloc (.cells #[.int .i64 0, .int .i64 0, .int .i64 0, .slice none 0 0] 65)) (w.heap.size + 1) 0 0 0 (.slice none 0 0) from by have := wbox_new (w.alloc (.cells #[.int .i64 x, .int .i64 y] 32)) 0 0 0 (.slice none 0 0); simpa using this)
 obtain ⟨A, c, rfl, hz⟩ := h1
 clear hz h2 hn
 obtain ⟨x1, x2⟩ := box_cells X0.out
 go_enter Tryz.func47, Tryz.ntmps47
 go_wp2_with fail
 refine (find_any _ qs x y _ HI.out (by omega)).mono ?_
 rintro e w1 ⟨⟨r, rfl, hr⟩, hb⟩
 have B1 := Lib.hid (below_after B0.out hb (Nat.le_refl _))
 have Y1 := Lib.hid (wbox_below Y0.out hb)
 have I1 := Lib.hid (HI.out.below hb)
 have E1 := Lib.hid (HE.out.below hb)
 have hr := found_get HE.out hr
 clear hb x1 x2
 obtain ⟨y1, y2, y3, y4⟩ := wbox_cells Y1.out
 obtain ⟨f1, f2, f3, f4⟩ := wbox_free Y1.out
 rcases hr with ⟨rfl, hg⟩ | ⟨k, hk, hk2, rfl, hg, he, hbef⟩
 ·have HG1 := Lib.hid (show (ofI (get l (x, y)) (x, y)) = (0, 0) by rw [hg]; rfl)
  have HG2 := Lib.hid (show vers (get l (x, y)) = 0 by rw [hg]; rfl)
  have HG3 := Lib.hid (show nots (get l (x, y)) = [] by rw [hg]; rfl)
  have HG4 := Lib.hid (show (get l (x, y)).isSome = false by rw [hg]; rfl)
  have Y2 := Lib.hid (wbox_set Y1.out 0 0 0 (.slice none 0 0))
  have B2 := Lib.hid (below_set4 (g := w.heap.size + 1) B1.out (by omega) (.int .i64 0) (.int .i64 0) (.int .i64 0) (.slice none 0 0))
  clear hg
  go_wp2_with fail
  obtain ⟨q0, q1, q2, q3⟩ := wbox_cells Y2.out
  refine bodyPost_ret (v := .tuple #[.agg #[.int .i64 0, .int .i64 0, .int .i64 0, .slice none 0 0], .bool false]) (by simp [results, Tryz.results47, go_sem, q0, q1, q2, q3]) rfl ?_
  rw [HG1.out, HG2.out, HG3.out, HG4.out]
  exact ⟨none, 0, 0, rfl, Ids.nil _, B2.out⟩
 ·have HG1 := Lib.hid (show (ofI (get l (x, y)) (x, y)) = (x, y) by rw [hg]; rfl)
  have HG2 := Lib.hid (show vers (get l (x, y)) = l[k].2.1 by rw [hg]; rfl)
  have HG3 := Lib.hid (show nots (get l (x, y)) = l[k].2.2 by rw [hg]; rfl)
  have HG4 := Lib.hid (show (get l (x, y)).isSome = true by rw [hg]; rfl)
  obtain ⟨ad, rfl, c1, c2, c3, c4⟩ := I1.out.raw (Below.refl _ _) hk
  have HR := E1.out.at_ k hk hk2
  have HJ := Lib.hid (show Ids w1 (.slice qs[k].2.2.1 qs[k].2.2.2.1 qs[k].2.2.2.2) l[k].2.2 from HR.2.2)
  have HL := Lib.hid (HN.out l[k] (List.getElem_mem hk2))
  have r1 : qs[k].1.1 = x := by rw [HR.1, he]
  have r2 : qs[k].1.2 = y := by rw [HR.1, he]
  have r3 : qs[k].2.1 = l[k].2.1 := HR.2.1
  rw [r1] at c1
  rw [r2] at c2
  rw [r3] at c3
  have i3 : (0 : Int) ≤ (k : Int) := by omega
  have i4 : (k : Int) < (qs.length : Int) := by omega
  clear hg he hbef r1 r2 r3 HR
  have hdk : decide ((k : Int) < 0) = false := by simp
  generalize l[k].2.1 = n at *
  generalize qs[k].2.2.1 = B at *
  generalize qs[k].2.2.2.1 = m at *
  generalize qs[k].2.2.2.2 = d at *
  clear y1 y2 y3 y4 f1 f2 f3 f4
  go_wp2_with fail
  refine (copied_any x y n B m d l[k].2.2 _ HJ.out HL.out).mono ?_
  rintro e w2 ⟨C, m', c', rfl, ho, hb⟩
  have B2 := Lib.hid (below_after B1.out hb (Nat.le_refl _))
  have Y2 := Lib.hid (wbox_below Y1.out hb)
  have O2 := Lib.hid ho
  have S2 := Lib.hid (show w.heap.size + 1 < w1.heap.size from wbox_lt Y1.out)
  clear ho hb c1 c2 c3 c4
  obtain ⟨y1, y2, y3, y4⟩ := wbox_cells Y2.out
  obtain ⟨f1, f2, f3, f4⟩ := wbox_free Y2.out
  have Y3 := Lib.hid (wbox_set Y2.out x y n (.slice C m' c'))
  have B3 := Lib.hid (below_set4 (g := w.heap.size + 1) B2.out (by omega) (.int .i64 x) (.int .i64 y) (.int .i64 n) (.slice C m' c'))
  have O3 := Lib.hid (O2.out.grown (grown_set4 (World.grownBy.refl _ (some (w.heap.size + 1))) (.int .i64 x) (.int .i64 y) (.int .i64 n) (.slice C m' c')) (ownsR_ne O2.out S2.out))
  go_wp2_with fail
  obtain ⟨q0, q1, q2, q3⟩ := wbox_cells Y3.out
  refine bodyPost_ret (v := .tuple #[.agg #[.int .i64 x, .int .i64 y, .int .i64 n, .slice C m' c'], .bool true]) (by simp [results, Tryz.results47, go_sem, q0, q1, q2, q3]) rfl ?_
  rw [HG1.out, HG2.out, HG3.out, HG4.out]
  exact ⟨C, m', c', rfl, ownsI_ids O3.out, B3.out⟩
end Go.Proofs.YtgphiggbajbmhaaGreatDoor
namespace Go.Proofs.YtgphiggbajbmhaaGreatDoor
open Go Go.RowKit Sets RowSets
def Small (l : List Row) : Prop := l.length ≤ 1000 ∧ ∀ r ∈ l, r.2.2.length ≤ 20000
end Go.Proofs.YtgphiggbajbmhaaGreatDoor
namespace Go.Proofs.YtgphiggbajbmhaaGreatDoor
open Go.RowKit Go.WideShapes Go.ChangeShapes Go.ChangeAt
theorem Tryz.own : ownKnob Tryz.prog.godebug = none := by kernel_rfl
theorem Tryz.laidOut : laidOutB Tryz.prog = true := by kernel_rfl
section
variable {H : Type} {enc : TypeId × Value → H}
def Legible (ts : List TypeId) : Prop := (ts.all fun t => Tryz.prog.readableRec t && decide (t < Tryz.prog.types.size)) = true
theorem read_again {W W' : World} (hb : Below W.heap.size W W') (ts : List TypeId) (hts : Legible ts) : ∀ (vs : List Value) (ds : List (DataW H)) (ps : List MemPlace),
  DataW.TrodAll enc Tryz.prog W 0 (fun _ => true) true ts vs ds ps → (∀ x ∈ ps, x.block < W.heap.size) →
  DataW.TrodAll enc Tryz.prog W' 0 (fun b => decide (b < W.heap.size)) true ts vs ds ps := by
 induction ts with
 | nil =>
  intro vs ds ps h _
  obtain ⟨rfl, rfl, rfl⟩ := trodAll_nil h
  rfl
 | cons t ts ih =>
  intro vs ds ps h hlt
  obtain ⟨v, vs', d, ds', p, q, rfl, rfl, rfl, h1, h2⟩ := trodAll_cons h
  simp only [Legible, List.all_cons, Bool.and_eq_true, decide_eq_true_eq] at hts
  exact ⟨p, q, Below.trod Tryz.laidOut hts.1.1 hts.1.2 h1 hb (fun x hx => hlt x (List.mem_append_left _ hx)),
   ih (by simpa [Legible] using hts.2) vs' ds' q h2 (fun x hx => hlt x (List.mem_append_right _ hx)), rfl⟩
theorem law_post {f : Func} {s : ChangeSpec} {W W' : World} {args : Array Value} {ds gs : List (DataW H)} {before : List MemPlace} {t : TypeId}
  (hW : DataW.Whole enc Tryz.prog f.params.toList s.vars false W args.toList ds gs before) (hvars : s.vars = []) (hres : f.resultTypes = #[t]) (ht : Tryz.prog.underlying t = some .bool)
  (hspec : s.fn H (ds ++ gs) = { results := [.lit (.bool true)], args := ds }) (hts : Legible f.params.toList) (hb : Below W.heap.size W W') :
  s.post enc Tryz.prog f false true false false W args (.bool true) W' := by
 have hlt := hW.lt
 obtain ⟨p, q, hA, hV, rfl, hz, hn⟩ := hW
 refine ⟨ds, gs, p ++ q, [], p, [], ⟨p, q, hA, hV, rfl, hz, hn⟩, ?_, ?_, ?_, hb.frame _, fun h => by cases h⟩
 ·rw [hspec, hres]
  exact trodAll_mk1 (shut_bool ht true)
 ·rw [hspec]
  exact read_again hb _ hts _ _ _ hA fun x hx => hlt x (List.mem_append_left _ hx)
 ·rw [hspec, hvars]
  rfl
end
end Go.Proofs.YtgphiggbajbmhaaGreatDoor
