/-
  Carried over and put together: contracts of this program's functions, and plain facts. No statement is proved in this text.
-/
import Derived.Test.YtgphiggbajbmhaaGreatDoorOz
import Derived.Test.YtgphiggbajbmhaaGreatDoorE08
import Derived.Test.YtgphiggbajbmhaaGreatDoorE09
import Derived.Test.YtgphiggbajbmhaaGreatDoorE28
import Derived.Test.YtgphiggbajbmhaaGreatDoorE31
set_option maxRecDepth 20000
namespace Go.Proofs.YtgphiggbajbmhaaGreatDoor
open Go Go.RowKit
structure ChI (p q : Int) (a b c d e a' b' c' d' e' : SL) (P : Option Addr) (t : SL) (B U : Vw) (Tl : Option Vw) (l : List Tn) (w : World) : Prop where
 rv : RV w a b c d e B
 ru : RV w a' b' c' d' e' U
 ts : Us w (.slice t.1 t.2.1 t.2.2) l
 told : (P = none ∧ Tl = none) ∨ ∃ g Z, P = some ⟨g, 0, none⟩ ∧ Tl = some Z ∧ HoldsV w g Z ∧ FitVIE 100 Z ∧ Z.r = []
 fB : FitVIE 100 B
 fU : FitVIE 100 U
 rB : B.r = []
 rU : U.r = []
 few : l.length ≤ 1
 tab : TabE w
 rk : Tabs w
 lB : B.m.length < 20
 dom : ∀ x ∈ l, 0 ≤ x.1.2.1 ∧ 0 ≤ x.2.2.1
theorem ChI.on {p q : Int} {a b c d e a' b' c' d' e' : SL} {P : Option Addr} {t : SL} {B U : Vw} {Tl : Option Vw} {l : List Tn} {w w' : World} (h : ChI p q a b c d e a' b' c' d' e' P t B U Tl l w) (hb : Below w.heap.size w w') : ChI p q a b c d e a' b' c' d' e' P t B U Tl l w' :=
 ⟨h.rv.below hb, h.ru.below hb, h.ts.below hb, by
  rcases h.told with e | ⟨g, Z, h1, h2, h3, h4⟩
  ·exact .inl e
  ·exact .inr ⟨g, Z, h1, h2, h3.below hb, h4⟩, h.fB, h.fU, h.rB, h.rU, h.few, h.tab.below hb, h.rk.below hb, h.lB, h.dom⟩
set_option maxHeartbeats 8000000 in
theorem ch_still (p q : Int) (a b c d e a' b' c' d' e' : SL) (P : Option Addr) (t : SL) (B U : Vw) (Tl : Option Vw) (l : List Tn) (w : World) (h : ChI p q a b c d e a' b' c' d' e' P t B U Tl l w) :
  Calls Tryz.prog 18 #[.agg #[.int .i64 p, .int .i64 q, .slice a.1 a.2.1 a.2.2, .slice b.1 b.2.1 b.2.2, .slice c.1 c.2.1 c.2.2, .slice d.1 d.2.1 d.2.2, .slice e.1 e.2.1 e.2.2, .slice a'.1 a'.2.1 a'.2.2, .slice b'.1 b'.2.1 b'.2.2, .slice c'.1 c'.2.1 c'.2.2, .slice d'.1 d'.2.1 d'.2.2, .slice e'.1 e'.2.1 e'.2.2, .pointer P, .slice t.1 t.2.1 t.2.2]] w fun e w' => e = .returned (.bool (sameV B U)) ∧ Below w.heap.size w w' := by
 have q1 := below_one w (.cells #[.int .i64 p, .int .i64 q, .slice a.1 a.2.1 a.2.2, .slice b.1 b.2.1 b.2.2, .slice c.1 c.2.1 c.2.2, .slice d.1 d.2.1 d.2.2, .slice e.1 e.2.1 e.2.2, .slice a'.1 a'.2.1 a'.2.2, .slice b'.1 b'.2.1 b'.2.2, .slice c'.1 c'.2.1 c'.2.2, .slice d'.1 d'.2.1 d'.2.2, .slice e'.1 e'.2.1 e'.2.2, .pointer P, .slice t.1 t.2.1 t.2.2] 56)
 have X0 := Lib.hid (cbox_new w p q a b c d e a' b' c' d' e' P t)
 have HI := Lib.hid (h.on q1)
 have BB := Lib.hid q1
 clear q1 h
 obtain ⟨c0, c1, c2, c3, c4, c5, c6, c7, c8, c9, c10, c11, c12, c13⟩ := cbox_cells X0.out
 have HC := Lib.hid (sameV_any _ _ B U _ HI.out.rv.at_ HI.out.ru.at_ (HI.out.fB.mono (by decide)) (HI.out.fU.mono (by decide)))
 go_enter Tryz.func18, Tryz.ntmps18
 go_wp2_with fail
 (with_reducible refine HC.out.mono ?_)
 rintro e1 w1 ⟨rfl, hb⟩
 have B1 := Lib.hid (below_after BB.out hb (Nat.le_refl _))
 clear hb
 go_wp2_with fail
 go_ret
 exact ⟨rfl, B1.out⟩
structure HrI (s g : Nat) (p q : Int) (a b c d e a' b' c' d' e' : SL) (P : Option Addr) (t : SL) (B U : Vw) (l : List Tn) (z0 z1 z2 z3 z4 : SL) (Z : Vw) (w W : World) : Prop where
 cb : CBox W s p q a b c d e a' b' c' d' e' P t
 rv : RV W a b c d e B
 ru : RV W a' b' c' d' e' U
 vb : VBox W g z0 z1 z2 z3 z4
 rz : RV W z0 z1 z2 z3 z4 Z
 below : Below w.heap.size w W
theorem HrI.on {s g : Nat} {p q : Int} {a b c d e a' b' c' d' e' : SL} {P : Option Addr} {t : SL} {B U : Vw} {l : List Tn} {z0 z1 z2 z3 z4 : SL} {Z : Vw} {w W W' : World} (h : HrI s g p q a b c d e a' b' c' d' e' P t B U l z0 z1 z2 z3 z4 Z w W) (hb : Below W.heap.size W W') : HrI s g p q a b c d e a' b' c' d' e' P t B U l z0 z1 z2 z3 z4 Z w W' :=
 ⟨cbox_below h.cb hb, h.rv.below hb, h.ru.below hb, vbox_below h.vb hb, h.rz.below hb, below_after h.below hb (Nat.le_refl _)⟩
def heardB (B U : Vw) (Tl : Option Vw) (z : Sets.Id2) : Bool := match Tl with | none => false | some Z => sameV (tellP B Z z.1 z.2) U
set_option maxHeartbeats 8000000 in
theorem ch_heard (p q : Int) (a b c d e a' b' c' d' e' : SL) (P : Option Addr) (t : SL) (B U : Vw) (Tl : Option Vw) (l : List Tn) (w : World) (h : ChI p q a b c d e a' b' c' d' e' P t B U Tl l w) (fT : ∀ Z, Tl = some Z → FitVIE 1000 (tellP B Z p q)) :
  Calls Tryz.prog 19 #[.agg #[.int .i64 p, .int .i64 q, .slice a.1 a.2.1 a.2.2, .slice b.1 b.2.1 b.2.2, .slice c.1 c.2.1 c.2.2, .slice d.1 d.2.1 d.2.2, .slice e.1 e.2.1 e.2.2, .slice a'.1 a'.2.1 a'.2.2, .slice b'.1 b'.2.1 b'.2.2, .slice c'.1 c'.2.1 c'.2.2, .slice d'.1 d'.2.1 d'.2.2, .slice e'.1 e'.2.1 e'.2.2, .pointer P, .slice t.1 t.2.1 t.2.2]] w fun e w' => e = .returned (.bool (heardB B U Tl (p, q))) ∧ Below w.heap.size w w' := by
 have q1 := below_one w (.cells #[.int .i64 p, .int .i64 q, .slice a.1 a.2.1 a.2.2, .slice b.1 b.2.1 b.2.2, .slice c.1 c.2.1 c.2.2, .slice d.1 d.2.1 d.2.2, .slice e.1 e.2.1 e.2.2, .slice a'.1 a'.2.1 a'.2.2, .slice b'.1 b'.2.1 b'.2.2, .slice c'.1 c'.2.1 c'.2.2, .slice d'.1 d'.2.1 d'.2.2, .slice e'.1 e'.2.1 e'.2.2, .pointer P, .slice t.1 t.2.1 t.2.2] 56)
 have X0 := Lib.hid (cbox_new w p q a b c d e a' b' c' d' e' P t)
 have HI := Lib.hid (h.on q1)
 have BB := Lib.hid q1
 clear q1 h
 obtain ⟨c0, c1, c2, c3, c4, c5, c6, c7, c8, c9, c10, c11, c12, c13⟩ := cbox_cells X0.out
 rcases HI.out.told with ⟨e1, e2⟩ | ⟨g, Z, e1, e2, hz, fz, rz⟩
 ·subst e1 e2
  go_enter Tryz.func19, Tryz.ntmps19
  go_wp2_with fail
  go_quiet (fail)
  go_wp2_with fail
  go_ret
  exact ⟨rfl, below_drewN BB.out⟩
 ·subst e1 e2
  obtain ⟨z0, z1, z2, z3, z4, hzb, hzr⟩ := hz
  have FT := Lib.hid (fT Z rfl)
  have FZ := Lib.hid fz
  have RZ := Lib.hid rz
  have H0 : Hid (HrI w.heap.size g p q a b c d e a' b' c' d' e' (some ⟨g, 0, none⟩) t B U l z0 z1 z2 z3 z4 Z w (w.alloc (.cells #[.int .i64 p, .int .i64 q, .slice a.1 a.2.1 a.2.2, .slice b.1 b.2.1 b.2.2, .slice c.1 c.2.1 c.2.2, .slice d.1 d.2.1 d.2.2, .slice e.1 e.2.1 e.2.2, .slice a'.1 a'.2.1 a'.2.2, .slice b'.1 b'.2.1 b'.2.2, .slice c'.1 c'.2.1 c'.2.2, .slice d'.1 d'.2.1 d'.2.2, .slice e'.1 e'.2.1 e'.2.2, .pointer (some ⟨g, 0, none⟩), .slice t.1 t.2.1 t.2.2] 56))) := Lib.hid ⟨X0.out, HI.out.rv, HI.out.ru, hzb, hzr, BB.out⟩
  have HT := Lib.hid fun W (h : HrI w.heap.size g p q a b c d e a' b' c' d' e' (some ⟨g, 0, none⟩) t B U l z0 z1 z2 z3 z4 Z w W) => tell_any _ _ B Z p q W h.rv.at_ h.rz.at_ (HI.out.fB.mono (by decide)) (FZ.out.mono (by decide)) (by rw [HI.out.rB]; exact List.Pairwise.nil) (by rw [RZ.out]; exact List.Pairwise.nil)
  have FU := Lib.hid (HI.out.fU.mono (show 100 ≤ 1000 by decide))
  have HQ := Lib.hid fun W (h : HrI w.heap.size g p q a b c d e a' b' c' d' e' (some ⟨g, 0, none⟩) t B U l z0 z1 z2 z3 z4 Z w W) => And.intro (cbox_cells h.cb) (vbox_cells h.vb)
  clear c0 c1 c2 c3 c4 c5 c6 c7 c8 c9 c10 c11 c12 c13 hzb hzr fz rz fT HI X0 BB
  obtain ⟨⟨c0, c1, c2, c3, c4, c5, c6, c7, c8, c9, c10, c11, c12, c13⟩, y0, y1, y2, y3, y4⟩ := HQ.out _ H0.out
  generalize hT : tellP B Z p q = T at *
  have HE := Lib.hid (show heardB B U (some Z) (p, q) = sameV T U by rw [← hT]; rfl)
  clear hT
  go_enter Tryz.func19, Tryz.ntmps19
  go_wp2_with fail
  go_region_held3 (fun w' => (w'.cell? ⟨w.heap.size, 0, none⟩ = some (.int .i64 p) ∧ w'.cell? ⟨w.heap.size, 1, none⟩ = some (.int .i64 q) ∧ w'.cell? ⟨w.heap.size, 2, none⟩ = some (.slice a.1 a.2.1 a.2.2) ∧ w'.cell? ⟨w.heap.size, 3, none⟩ = some (.slice b.1 b.2.1 b.2.2) ∧ w'.cell? ⟨w.heap.size, 4, none⟩ = some (.slice c.1 c.2.1 c.2.2) ∧ w'.cell? ⟨w.heap.size, 5, none⟩ = some (.slice d.1 d.2.1 d.2.2) ∧ w'.cell? ⟨w.heap.size, 6, none⟩ = some (.slice e.1 e.2.1 e.2.2) ∧ w'.cell? ⟨w.heap.size, 7, none⟩ = some (.slice a'.1 a'.2.1 a'.2.2) ∧ w'.cell? ⟨w.heap.size, 8, none⟩ = some (.slice b'.1 b'.2.1 b'.2.2) ∧ w'.cell? ⟨w.heap.size, 9, none⟩ = some (.slice c'.1 c'.2.1 c'.2.2) ∧ w'.cell? ⟨w.heap.size, 10, none⟩ = some (.slice d'.1 d'.2.1 d'.2.2) ∧ w'.cell? ⟨w.heap.size, 11, none⟩ = some (.slice e'.1 e'.2.1 e'.2.2) ∧ w'.cell? ⟨w.heap.size, 12, none⟩ = some (.pointer (some ⟨g, 0, none⟩)) ∧ w'.cell? ⟨w.heap.size, 13, none⟩ = some (.slice t.1 t.2.1 t.2.2)) ∧ (w'.cell? ⟨g, 0, none⟩ = some (.slice z0.1 z0.2.1 z0.2.2) ∧ w'.cell? ⟨g, 1, none⟩ = some (.slice z1.1 z1.2.1 z1.2.2) ∧ w'.cell? ⟨g, 2, none⟩ = some (.slice z2.1 z2.2.1 z2.2.2) ∧ w'.cell? ⟨g, 3, none⟩ = some (.slice z3.1 z3.2.1 z3.2.2) ∧ w'.cell? ⟨g, 4, none⟩ = some (.slice z4.1 z4.2.1 z4.2.2)) ∧ Hid (HrI w.heap.size g p q a b c d e a' b' c' d' e' (some ⟨g, 0, none⟩) t B U l z0 z1 z2 z3 z4 Z w w'))
   (first | exact ⟨(HQ.out _ (H0.out.on (Below.refl _ _).drew)).1, (HQ.out _ (H0.out.on (Below.refl _ _).drew)).2, Lib.hid (H0.out.on (Below.refl _ _).drew)⟩ | exact ⟨(HQ.out _ HJ.out).1, (HQ.out _ HJ.out).2, HJ⟩)
   (first | (go_at_call 27; (with_reducible refine (HT.out _ (Hid.out (by go_split_ands; assumption))).mono ?_); rintro e1 w' ⟨X, rfl, ⟨x0, x1, x2, x3, x4, rfl, hx⟩, hb⟩; have HX := Lib.hid hx; have HJ : Hid (HrI w.heap.size g p q a b c d e a' b' c' d' e' (some ⟨g, 0, none⟩) t B U l z0 z1 z2 z3 z4 Z w w') := Lib.hid (HrI.on (Hid.out (by go_split_ands; assumption)) hb); clear hb hx) | (go_at_call 46; (with_reducible refine (sameV_any _ _ T U _ HX.out.at_ HJ.out.ru.at_ FT.out FU.out).mono ?_); rintro e2 w' ⟨rfl, hb⟩; have HJ := Lib.hid (HJ.out.on hb); clear hb))
  go_wp2_with fail
  go_ret
  exact ⟨ret_bool HE.out.symm, HJ.out.below⟩
set_option maxHeartbeats 8000000 in
theorem ch_said (p q : Int) (a b c d e a' b' c' d' e' : SL) (P : Option Addr) (t : SL) (B U : Vw) (Tl : Option Vw) (l : List Tn) (w : World) (h : ChI p q a b c d e a' b' c' d' e' P t B U Tl l w) :
  Calls Tryz.prog 20 #[.agg #[.int .i64 p, .int .i64 q, .slice a.1 a.2.1 a.2.2, .slice b.1 b.2.1 b.2.2, .slice c.1 c.2.1 c.2.2, .slice d.1 d.2.1 d.2.2, .slice e.1 e.2.1 e.2.2, .slice a'.1 a'.2.1 a'.2.2, .slice b'.1 b'.2.1 b'.2.2, .slice c'.1 c'.2.1 c'.2.2, .slice d'.1 d'.2.1 d'.2.2, .slice e'.1 e'.2.1 e'.2.2, .pointer P, .slice t.1 t.2.1 t.2.2]] w fun e w' => e = .returned (.bool (false)) ∧ Below w.heap.size w w' := by
 have q1 := below_one w (.cells #[.int .i64 p, .int .i64 q, .slice a.1 a.2.1 a.2.2, .slice b.1 b.2.1 b.2.2, .slice c.1 c.2.1 c.2.2, .slice d.1 d.2.1 d.2.2, .slice e.1 e.2.1 e.2.2, .slice a'.1 a'.2.1 a'.2.2, .slice b'.1 b'.2.1 b'.2.2, .slice c'.1 c'.2.1 c'.2.2, .slice d'.1 d'.2.1 d'.2.2, .slice e'.1 e'.2.1 e'.2.2, .pointer P, .slice t.1 t.2.1 t.2.2] 56)
 have X0 := Lib.hid (cbox_new w p q a b c d e a' b' c' d' e' P t)
 have HI := Lib.hid (h.on q1)
 have BB := Lib.hid q1
 clear q1 h
 obtain ⟨c0, c1, c2, c3, c4, c5, c6, c7, c8, c9, c10, c11, c12, c13⟩ := cbox_cells X0.out
 have HG := Lib.hid fun W (h : ChI p q a b c d e a' b' c' d' e' P t B U Tl l W) => get_any _ U.r p q W h.ru.r (Nat.le_trans h.fU.r (by decide)) (fun r hr => Nat.le_trans (h.fU.n r hr) (by decide))
 rw [HI.out.rU] at HG
 rw [show RowSets.get [] (p, q) = none from rfl] at HG
 have HG1 := Lib.hid (HG.out _ HI.out)
 go_enter Tryz.func20, Tryz.ntmps20
 go_wp2_with fail
 (with_reducible refine HG1.out.mono ?_)
 rintro e1 w1 ⟨B1, m1, k1, rfl, hid, hb⟩
 have XB := Lib.hid (cbox_below X0.out hb)
 have B2 := Lib.hid (below_after BB.out hb (Nat.le_refl _))
 clear hb hid c0 c1 c2 c3 c4 c5 c6 c7 c8 c9 c10 c11 c12 c13
 go_wp2_with fail
 go_quiet (fail)
 go_wp2_with fail
 go_ret
 exact ⟨rfl, below_drewN (below_after B2.out (below_one _ _) (Nat.le_refl _))⟩
theorem us_lit (W : World) (l : List Tn) : Us (W.alloc (.cells (flatR encU l).toArray 53)) (.slice (some ⟨W.heap.size, 0, none⟩) l.length l.length) l := rcs_lit encU_len W l _ 53 (by simp)
theorem by_num (x : Nat) (y : Int) (h : (x : Int) = y) (w : World) : Calls Tryz.prog 57 #[.int .u8 y] w fun e w' => (∃ X, e = .returned (.func (.func 87) #[] #[.pointer (some ⟨X, 0, none⟩)]) ∧ One w' X 5 (.int .u8 x) ∧ w.heap.size ≤ X) ∧ Below w.heap.size w w' := by
 subst h
 exact by_any x w
theorem putsB_nil (B U : Vw) (z : Sets.Id2) : putsB B U z [] = sameV B U := by simp [putsB, doesV]
theorem add_none (ad : Addr) : ad.add 0 = ad := by unfold Addr.add; simp
set_option maxHeartbeats 8000000 in
theorem ch_left (p q : Int) (a b c d e a' b' c' d' e' : SL) (P : Option Addr) (t : SL) (B U : Vw) (Tl : Option Vw) (l : List Tn) (w : World) (h : ChI p q a b c d e a' b' c' d' e' P t B U Tl l w) (hl : ∀ x ∈ l, x.2.1 ≠ (p, q)) :
  Calls Tryz.prog 23 #[.agg #[.int .i64 p, .int .i64 q, .slice a.1 a.2.1 a.2.2, .slice b.1 b.2.1 b.2.2, .slice c.1 c.2.1 c.2.2, .slice d.1 d.2.1 d.2.2, .slice e.1 e.2.1 e.2.2, .slice a'.1 a'.2.1 a'.2.2, .slice b'.1 b'.2.1 b'.2.2, .slice c'.1 c'.2.1 c'.2.2, .slice d'.1 d'.2.1 d'.2.2, .slice e'.1 e'.2.1 e'.2.2, .pointer P, .slice t.1 t.2.1 t.2.2]] w fun e w' => e = .returned (.bool (false)) ∧ Below w.heap.size w w' := by
 have q1 := below_one w (.cells #[.int .i64 p, .int .i64 q, .slice a.1 a.2.1 a.2.2, .slice b.1 b.2.1 b.2.2, .slice c.1 c.2.1 c.2.2, .slice d.1 d.2.1 d.2.2, .slice e.1 e.2.1 e.2.2, .slice a'.1 a'.2.1 a'.2.2, .slice b'.1 b'.2.1 b'.2.2, .slice c'.1 c'.2.1 c'.2.2, .slice d'.1 d'.2.1 d'.2.2, .slice e'.1 e'.2.1 e'.2.2, .pointer P, .slice t.1 t.2.1 t.2.2] 56)
 have X0 := Lib.hid (cbox_new w p q a b c d e a' b' c' d' e' P t)
 have HI := Lib.hid (h.on q1)
 have BB := Lib.hid q1
 clear q1 h
 obtain ⟨c0, c1, c2, c3, c4, c5, c6, c7, c8, c9, c10, c11, c12, c13⟩ := cbox_cells X0.out
 have hn : t.2.1 = l.length := rcs_len HI.out.ts
 rcases hl2 : l with _ | ⟨x, l2⟩
 ·subst hl2
  have hd : ((t.2.1 : Int) != 1) = true := by rw [hn]; rfl
  clear hn hl
  go_enter Tryz.func23, Tryz.ntmps23
  go_wp2_with fail
  go_ret
  exact ⟨rfl, BB.out⟩
 ·subst hl2
  have hx := hl x (List.mem_cons_self ..)
  have h2 : l2 = [] := by have h := HI.out.few; simp at h; exact h
  subst h2
  have hd : ((t.2.1 : Int) != 1) = false := by rw [hn]; rfl
  obtain ⟨⟨⟨ma, mi⟩, ms, mn⟩, ⟨nb, nj⟩, nt, nm⟩ := x
  obtain ⟨ad, e1, y1, y2, y3, y4, y5, y6, y7, y8⟩ := Us.at_ HI.out.ts (Below.refl _ _) (k := 0) (by simp)
  simp only [Nat.zero_mul, add_none, List.getElem_cons_zero] at y1 y2 y3 y4 y5 y6 y7 y8
  obtain ⟨ta, tn, tc⟩ := t
  dsimp only at hn e1 hd
  have hn1 : tn = 1 := hn
  subst e1 hn1
  clear hn
  have q2 := below_one (w.alloc (.cells #[.int .i64 p, .int .i64 q, .slice a.1 a.2.1 a.2.2, .slice b.1 b.2.1 b.2.2, .slice c.1 c.2.1 c.2.2, .slice d.1 d.2.1 d.2.2, .slice e.1 e.2.1 e.2.2, .slice a'.1 a'.2.1 a'.2.2, .slice b'.1 b'.2.1 b'.2.2, .slice c'.1 c'.2.1 c'.2.2, .slice d'.1 d'.2.1 d'.2.2, .slice e'.1 e'.2.1 e'.2.2, .pointer P, .slice (some ad) 1 tc] 56)) (.cells #[.int .i64 ma, .int .i64 mi, .int .u8 ms, .int .i64 mn, .int .i64 nb, .int .i64 nj, .int .u8 nt, .int .i64 nm] 53)
  have B2 := Lib.hid (below_after BB.out q2 (Nat.le_refl _))
  have X2 := Lib.hid (cbox_below X0.out q2)
  have T2 : Hid (UBox ((w.alloc (.cells #[.int .i64 p, .int .i64 q, .slice a.1 a.2.1 a.2.2, .slice b.1 b.2.1 b.2.2, .slice c.1 c.2.1 c.2.2, .slice d.1 d.2.1 d.2.2, .slice e.1 e.2.1 e.2.2, .slice a'.1 a'.2.1 a'.2.2, .slice b'.1 b'.2.1 b'.2.2, .slice c'.1 c'.2.1 c'.2.2, .slice d'.1 d'.2.1 d'.2.2, .slice e'.1 e'.2.1 e'.2.2, .pointer P, .slice (some ad) 1 tc] 56)).alloc (.cells #[.int .i64 ma, .int .i64 mi, .int .u8 ms, .int .i64 mn, .int .i64 nb, .int .i64 nj, .int .u8 nt, .int .i64 nm] 53)) (w.heap.size + 1) ma mi ms mn nb nj nt nm) := Lib.hid (by have h := ubox_new (w.alloc (.cells #[.int .i64 p, .int .i64 q, .slice a.1 a.2.1 a.2.2, .slice b.1 b.2.1 b.2.2, .slice c.1 c.2.1 c.2.2, .slice d.1 d.2.1 d.2.2, .slice e.1 e.2.1 e.2.2, .slice a'.1 a'.2.1 a'.2.2, .slice b'.1 b'.2.1 b'.2.2, .slice c'.1 c'.2.1 c'.2.2, .slice d'.1 d'.2.1 d'.2.2, .slice e'.1 e'.2.1 e'.2.2, .pointer P, .slice (some ad) 1 tc] 56)) ma mi ms mn nb nj nt nm; simp only [World.size_alloc] at h; exact h)
  clear q2 hl
  go_enter Tryz.func23, Tryz.ntmps23
  go_upto_region 4 with fail
  clear y1 y2 y3 y4 y5 y6 y7 y8 c0 c1 c2 c3 c4 c5 c6 c7 c8 c9 c10 c11 c12 c13
  generalize ((w.alloc (.cells #[.int .i64 p, .int .i64 q, .slice a.1 a.2.1 a.2.2, .slice b.1 b.2.1 b.2.2, .slice c.1 c.2.1 c.2.2, .slice d.1 d.2.1 d.2.2, .slice e.1 e.2.1 e.2.2, .slice a'.1 a'.2.1 a'.2.2, .slice b'.1 b'.2.1 b'.2.2, .slice c'.1 c'.2.1 c'.2.2, .slice d'.1 d'.2.1 d'.2.2, .slice e'.1 e'.2.1 e'.2.2, .pointer P, .slice (some ad) 1 tc] 56)).alloc (.cells #[.int .i64 ma, .int .i64 mi, .int .u8 ms, .int .i64 mn, .int .i64 nb, .int .i64 nj, .int .u8 nt, .int .i64 nm] 53)) = w2 at *
  obtain ⟨c0, c1, c2, c3, c4, c5, c6, c7, c8, c9, c10, c11, c12, c13⟩ := cbox_cells X2.out
  obtain ⟨u0, u1, u2, u3, u4, u5, u6, u7⟩ := ubox_cells T2.out
  by_cases h1 : nb = p
  ·subst h1
   have h3 : (nj == q) = false := by
    have : nj ≠ q := fun h => hx (by rw [h])
    simpa using this
   clear hx
   go_quiet (fail)
   go_wp2_with fail
   go_ret
   exact ⟨rfl, below_drewN B2.out⟩
  ·have h3 : (nb == p) = false := by simpa using h1
   clear hx h1
   go_quiet (fail)
   go_wp2_with fail
   go_ret
   exact ⟨rfl, below_drewN B2.out⟩
structure FeI (p q : Int) (a b c d e a' b' c' d' e' : SL) (P : Option Addr) (t : SL) (B U : Vw) (Tl : Option Vw) (l : List Tn) (w W : World) : Prop where
 cb : CBox W w.heap.size p q a b c d e a' b' c' d' e' P t
 ch : ChI p q a b c d e a' b' c' d' e' P t B U Tl l W
 below : Below w.heap.size w W
theorem FeI.on {p q : Int} {a b c d e a' b' c' d' e' : SL} {P : Option Addr} {t : SL} {B U : Vw} {Tl : Option Vw} {l : List Tn} {w W W' : World} (h : FeI p q a b c d e a' b' c' d' e' P t B U Tl l w W) (hb : Below W.heap.size W W') : FeI p q a b c d e a' b' c' d' e' P t B U Tl l w W' :=
 ⟨cbox_below h.cb hb, h.ch.on hb, below_after h.below hb (Nat.le_refl _)⟩
set_option maxHeartbeats 8000000 in
theorem ch_felled0 (p q : Int) (a b c d e a' b' c' d' e' : SL) (P : Option Addr) (t : SL) (B U : Vw) (Tl : Option Vw) (l : List Tn) (w : World) (h : ChI p q a b c d e a' b' c' d' e' P t B U Tl l w) (hl : l = []) :
  Calls Tryz.prog 25 #[.agg #[.int .i64 p, .int .i64 q, .slice a.1 a.2.1 a.2.2, .slice b.1 b.2.1 b.2.2, .slice c.1 c.2.1 c.2.2, .slice d.1 d.2.1 d.2.2, .slice e.1 e.2.1 e.2.2, .slice a'.1 a'.2.1 a'.2.2, .slice b'.1 b'.2.1 b'.2.2, .slice c'.1 c'.2.1 c'.2.2, .slice d'.1 d'.2.1 d'.2.2, .slice e'.1 e'.2.1 e'.2.2, .pointer P, .slice t.1 t.2.1 t.2.2]] w fun e w' => e = .returned (.bool (sameV B U)) ∧ Below w.heap.size w w' := by
 have q1 := below_one w (.cells #[.int .i64 p, .int .i64 q, .slice a.1 a.2.1 a.2.2, .slice b.1 b.2.1 b.2.2, .slice c.1 c.2.1 c.2.2, .slice d.1 d.2.1 d.2.2, .slice e.1 e.2.1 e.2.2, .slice a'.1 a'.2.1 a'.2.2, .slice b'.1 b'.2.1 b'.2.2, .slice c'.1 c'.2.1 c'.2.2, .slice d'.1 d'.2.1 d'.2.2, .slice e'.1 e'.2.1 e'.2.2, .pointer P, .slice t.1 t.2.1 t.2.2] 56)
 have X0 := Lib.hid (cbox_new w p q a b c d e a' b' c' d' e' P t)
 have HI := Lib.hid (h.on q1)
 have BB := Lib.hid q1
 clear q1 h
 obtain ⟨c0, c1, c2, c3, c4, c5, c6, c7, c8, c9, c10, c11, c12, c13⟩ := cbox_cells X0.out
 have F0 : Hid (FeI p q a b c d e a' b' c' d' e' P t B U Tl l w (w.alloc (.cells #[.int .i64 p, .int .i64 q, .slice a.1 a.2.1 a.2.2, .slice b.1 b.2.1 b.2.2, .slice c.1 c.2.1 c.2.2, .slice d.1 d.2.1 d.2.2, .slice e.1 e.2.1 e.2.2, .slice a'.1 a'.2.1 a'.2.2, .slice b'.1 b'.2.1 b'.2.2, .slice c'.1 c'.2.1 c'.2.2, .slice d'.1 d'.2.1 d'.2.2, .slice e'.1 e'.2.1 e'.2.2, .pointer P, .slice t.1 t.2.1 t.2.2] 56))) := Lib.hid ⟨X0.out, HI.out, BB.out⟩
 have HQ := Lib.hid fun W (h : FeI p q a b c d e a' b' c' d' e' P t B U Tl l w W) => cbox_cells h.cb
 have HPB := Lib.hid (putsB_nil B U (p, q))
 subst hl
 clear HI BB X0
 go_enter Tryz.func25, Tryz.ntmps25
 go_upto_region 1 with fail
 generalize (w.alloc (.cells #[.int .i64 p, .int .i64 q, .slice a.1 a.2.1 a.2.2, .slice b.1 b.2.1 b.2.2, .slice c.1 c.2.1 c.2.2, .slice d.1 d.2.1 d.2.2, .slice e.1 e.2.1 e.2.2, .slice a'.1 a'.2.1 a'.2.2, .slice b'.1 b'.2.1 b'.2.2, .slice c'.1 c'.2.1 c'.2.2, .slice d'.1 d'.2.1 d'.2.2, .slice e'.1 e'.2.1 e'.2.2, .pointer P, .slice t.1 t.2.1 t.2.2] 56)) = w2 at *
 go_region_held3 (fun w' => (w'.cell? ⟨w.heap.size, 0, none⟩ = some (.int .i64 p) ∧ w'.cell? ⟨w.heap.size, 1, none⟩ = some (.int .i64 q) ∧ w'.cell? ⟨w.heap.size, 2, none⟩ = some (.slice a.1 a.2.1 a.2.2) ∧ w'.cell? ⟨w.heap.size, 3, none⟩ = some (.slice b.1 b.2.1 b.2.2) ∧ w'.cell? ⟨w.heap.size, 4, none⟩ = some (.slice c.1 c.2.1 c.2.2) ∧ w'.cell? ⟨w.heap.size, 5, none⟩ = some (.slice d.1 d.2.1 d.2.2) ∧ w'.cell? ⟨w.heap.size, 6, none⟩ = some (.slice e.1 e.2.1 e.2.2) ∧ w'.cell? ⟨w.heap.size, 7, none⟩ = some (.slice a'.1 a'.2.1 a'.2.2) ∧ w'.cell? ⟨w.heap.size, 8, none⟩ = some (.slice b'.1 b'.2.1 b'.2.2) ∧ w'.cell? ⟨w.heap.size, 9, none⟩ = some (.slice c'.1 c'.2.1 c'.2.2) ∧ w'.cell? ⟨w.heap.size, 10, none⟩ = some (.slice d'.1 d'.2.1 d'.2.2) ∧ w'.cell? ⟨w.heap.size, 11, none⟩ = some (.slice e'.1 e'.2.1 e'.2.2) ∧ w'.cell? ⟨w.heap.size, 12, none⟩ = some (.pointer P) ∧ w'.cell? ⟨w.heap.size, 13, none⟩ = some (.slice t.1 t.2.1 t.2.2)) ∧ Hid (FeI p q a b c d e a' b' c' d' e' P t B U Tl [] w w'))
  (first | exact ⟨HQ.out _ (F0.out.on (Below.refl _ _).drew), Lib.hid (F0.out.on (Below.refl _ _).drew)⟩ | exact ⟨HQ.out _ HJ.out, HJ⟩)
  (first | (go_at_call 57; (with_reducible refine (by_num 8 8 rfl _).mono ?_); rintro e1 w' ⟨⟨X, rfl, ho, -⟩, hb⟩; have HO := Lib.hid ho; have HJ : Hid (FeI p q a b c d e a' b' c' d' e' P t B U Tl [] w w') := Lib.hid (FeI.on (Hid.out (by go_split_ands; assumption)) hb); clear hb ho) | (go_at_call 59; (with_reducible refine (allC_any (byT_asks X 8) p q a b c d e a' b' c' d' e' P t [] _ HJ.out.ch.ts ⟨HO.out, HJ.out.ch.tab⟩ (Nat.le_trans HJ.out.ch.few (by decide)) HJ.out.ch.dom).mono ?_); rintro e2 w' ⟨rfl, hb⟩; have HJ := Lib.hid (HJ.out.on hb); clear hb) | (go_at_call 59; (with_reducible refine (allC_any keptT_asks p q a b c d e a' b' c' d' e' P t [] _ HJ.out.ch.ts trivial (Nat.le_trans HJ.out.ch.few (by decide)) (fun _ _ => trivial)).mono ?_); rintro e3 w' ⟨rfl, hb⟩; have HJ := Lib.hid (HJ.out.on hb); clear hb) | (go_at_call 56; (with_reducible refine (puts_any p q a b c d e a' b' c' d' e' P t _ [] B U _ HJ.out.ch.rv HJ.out.ch.ru HJ.out.ch.ts (Nat.le_trans HJ.out.ch.few (by decide)) HJ.out.ch.fB (HJ.out.ch.fU.mono (by decide))).mono ?_); rintro e4 w' ⟨rfl, hb⟩; have HJ := Lib.hid (HJ.out.on hb); clear hb))
 go_wp2_with fail
 go_ret
 exact ⟨ret_bool HPB.out, HJ.out.below⟩
set_option maxHeartbeats 8000000 in
theorem ch_felled1 (p q : Int) (a b c d e a' b' c' d' e' : SL) (P : Option Addr) (t : SL) (B U : Vw) (Tl : Option Vw) (l : List Tn) (w : World) (h : ChI p q a b c d e a' b' c' d' e' P t B U Tl l w) (hl : l.all (byB 8) = false) :
  Calls Tryz.prog 25 #[.agg #[.int .i64 p, .int .i64 q, .slice a.1 a.2.1 a.2.2, .slice b.1 b.2.1 b.2.2, .slice c.1 c.2.1 c.2.2, .slice d.1 d.2.1 d.2.2, .slice e.1 e.2.1 e.2.2, .slice a'.1 a'.2.1 a'.2.2, .slice b'.1 b'.2.1 b'.2.2, .slice c'.1 c'.2.1 c'.2.2, .slice d'.1 d'.2.1 d'.2.2, .slice e'.1 e'.2.1 e'.2.2, .pointer P, .slice t.1 t.2.1 t.2.2]] w fun e w' => e = .returned (.bool (false)) ∧ Below w.heap.size w w' := by
 have q1 := below_one w (.cells #[.int .i64 p, .int .i64 q, .slice a.1 a.2.1 a.2.2, .slice b.1 b.2.1 b.2.2, .slice c.1 c.2.1 c.2.2, .slice d.1 d.2.1 d.2.2, .slice e.1 e.2.1 e.2.2, .slice a'.1 a'.2.1 a'.2.2, .slice b'.1 b'.2.1 b'.2.2, .slice c'.1 c'.2.1 c'.2.2, .slice d'.1 d'.2.1 d'.2.2, .slice e'.1 e'.2.1 e'.2.2, .pointer P, .slice t.1 t.2.1 t.2.2] 56)
 have X0 := Lib.hid (cbox_new w p q a b c d e a' b' c' d' e' P t)
 have HI := Lib.hid (h.on q1)
 have BB := Lib.hid q1
 clear q1 h
 obtain ⟨c0, c1, c2, c3, c4, c5, c6, c7, c8, c9, c10, c11, c12, c13⟩ := cbox_cells X0.out
 have F0 : Hid (FeI p q a b c d e a' b' c' d' e' P t B U Tl l w (w.alloc (.cells #[.int .i64 p, .int .i64 q, .slice a.1 a.2.1 a.2.2, .slice b.1 b.2.1 b.2.2, .slice c.1 c.2.1 c.2.2, .slice d.1 d.2.1 d.2.2, .slice e.1 e.2.1 e.2.2, .slice a'.1 a'.2.1 a'.2.2, .slice b'.1 b'.2.1 b'.2.2, .slice c'.1 c'.2.1 c'.2.2, .slice d'.1 d'.2.1 d'.2.2, .slice e'.1 e'.2.1 e'.2.2, .pointer P, .slice t.1 t.2.1 t.2.2] 56))) := Lib.hid ⟨X0.out, HI.out, BB.out⟩
 have HQ := Lib.hid fun W (h : FeI p q a b c d e a' b' c' d' e' P t B U Tl l w W) => cbox_cells h.cb
 have HPB := Lib.hid (putsB_nil B U (p, q))
 have HAL := Lib.hid hl
 clear HI BB X0 hl
 go_enter Tryz.func25, Tryz.ntmps25
 go_upto_region 1 with fail
 generalize (w.alloc (.cells #[.int .i64 p, .int .i64 q, .slice a.1 a.2.1 a.2.2, .slice b.1 b.2.1 b.2.2, .slice c.1 c.2.1 c.2.2, .slice d.1 d.2.1 d.2.2, .slice e.1 e.2.1 e.2.2, .slice a'.1 a'.2.1 a'.2.2, .slice b'.1 b'.2.1 b'.2.2, .slice c'.1 c'.2.1 c'.2.2, .slice d'.1 d'.2.1 d'.2.2, .slice e'.1 e'.2.1 e'.2.2, .pointer P, .slice t.1 t.2.1 t.2.2] 56)) = w2 at *
 refine wp_region_held_drew (S := (fun w' => (w'.cell? ⟨w.heap.size, 0, none⟩ = some (.int .i64 p) ∧ w'.cell? ⟨w.heap.size, 1, none⟩ = some (.int .i64 q) ∧ w'.cell? ⟨w.heap.size, 2, none⟩ = some (.slice a.1 a.2.1 a.2.2) ∧ w'.cell? ⟨w.heap.size, 3, none⟩ = some (.slice b.1 b.2.1 b.2.2) ∧ w'.cell? ⟨w.heap.size, 4, none⟩ = some (.slice c.1 c.2.1 c.2.2) ∧ w'.cell? ⟨w.heap.size, 5, none⟩ = some (.slice d.1 d.2.1 d.2.2) ∧ w'.cell? ⟨w.heap.size, 6, none⟩ = some (.slice e.1 e.2.1 e.2.2) ∧ w'.cell? ⟨w.heap.size, 7, none⟩ = some (.slice a'.1 a'.2.1 a'.2.2) ∧ w'.cell? ⟨w.heap.size, 8, none⟩ = some (.slice b'.1 b'.2.1 b'.2.2) ∧ w'.cell? ⟨w.heap.size, 9, none⟩ = some (.slice c'.1 c'.2.1 c'.2.2) ∧ w'.cell? ⟨w.heap.size, 10, none⟩ = some (.slice d'.1 d'.2.1 d'.2.2) ∧ w'.cell? ⟨w.heap.size, 11, none⟩ = some (.slice e'.1 e'.2.1 e'.2.2) ∧ w'.cell? ⟨w.heap.size, 12, none⟩ = some (.pointer P) ∧ w'.cell? ⟨w.heap.size, 13, none⟩ = some (.slice t.1 t.2.1 t.2.2)) ∧ Hid (FeI p q a b c d e a' b' c' d' e' P t B U Tl l w w'))) (by kernel_rfl) ?_ (fun hHeld => ?_)
 ·exact ⟨HQ.out _ (F0.out.on (Below.refl _ _).drew), Lib.hid (F0.out.on (Below.refl _ _).drew)⟩
 (refine tk_ (i := 0) (oi := ⟨_, _, _, _, _, _⟩) (v := ?_) rfl (Or.inl ⟨by rfl, ?_⟩) ?_; rotate_left 1; · (intro w hSw; (try dsimp only at hSw); go_simp; all_goals with_reducible rfl))
 try simp only [Act.put, si0, si1, si2]
 refine wpAnyH_ready (rs := [1]) (by kernel_rfl) (by simp) ?_
 refine AllReadyH.cons (o := ⟨_, _, _, _, _, _⟩) rfl (fun Kq hKq => ?_) AllReadyH.nil
 go_simp
 clear hHeld
 ((with_reducible refine (by_num 8 8 rfl _).mono ?_); rintro e1 w' ⟨⟨X, rfl, ho, -⟩, hb⟩; have HO := Lib.hid ho; have HJ : Hid (FeI p q a b c d e a' b' c' d' e' P t B U Tl l w w') := Lib.hid (FeI.on (F0.out.on (Below.refl _ _).drew) hb); clear hb ho)
 refine hKq.out _ _ ?_ (fun hHeld => ?_)
 ·(try dsimp only); exact ⟨HQ.out _ HJ.out, HJ⟩
 clear hKq Kq
 try simp only [Act.put, si0, si1, si2]
 refine wpAnyH_ready (rs := [2]) (by kernel_rfl) (by simp) ?_
 refine AllReadyH.cons (o := ⟨_, _, _, _, _, _⟩) rfl (fun Kq hKq => ?_) AllReadyH.nil
 go_simp
 clear hHeld
 ((with_reducible refine (allC_any (byT_asks X 8) p q a b c d e a' b' c' d' e' P t l _ HJ.out.ch.ts ⟨HO.out, HJ.out.ch.tab⟩ (Nat.le_trans HJ.out.ch.few (by decide)) HJ.out.ch.dom).mono ?_); rw [HAL.out]; rintro e2 w' ⟨rfl, hb⟩; have HJ := Lib.hid (HJ.out.on hb); clear hb)
 refine hKq.out _ _ ?_ (fun hHeld => ?_)
 ·(try dsimp only); exact ⟨HQ.out _ HJ.out, HJ⟩
 clear hKq Kq
 try simp only [Act.put, si0, si1, si2]
 (refine tk_ (i := 3) (oi := ⟨_, _, _, _, _, _⟩) (v := ?_) rfl (Or.inl ⟨by rfl, ?_⟩) ?_; rotate_left 1; · (intro w hSw; (try dsimp only at hSw); go_simp; all_goals with_reducible rfl))
 try simp only [Act.put, si0, si1, si2]
 refine tk_ (i := 4) (oi := ⟨_, _, _, _, _, _⟩) (v := undef) rfl (Or.inr ⟨by kernel_rfl, rfl⟩) ?_
 try simp only [Act.put, si0, si1, si2]
 refine tk_ (i := 5) (oi := ⟨_, _, _, _, _, _⟩) (v := undef) rfl (Or.inr ⟨by kernel_rfl, rfl⟩) ?_
 try simp only [Act.put, si0, si1, si2]
 (refine tk_ (i := 6) (oi := ⟨_, _, _, _, _, _⟩) (v := ?_) rfl (Or.inl ⟨by rfl, ?_⟩) ?_; rotate_left 1; · (intro w hSw; (try dsimp only at hSw); go_simp; all_goals with_reducible rfl))
 try simp only [Act.put, si0, si1, si2]
 (refine tk_ (i := 7) (oi := ⟨_, _, _, _, _, _⟩) (v := ?_) rfl (Or.inl ⟨by rfl, ?_⟩) ?_; rotate_left 1; · (intro w hSw; (try dsimp only at hSw); go_simp; all_goals with_reducible rfl))
 try simp only [Act.put, si0, si1, si2]
 refine tk_ (i := 8) (oi := ⟨_, _, _, _, _, _⟩) (v := undef) rfl (Or.inr ⟨by kernel_rfl, rfl⟩) ?_
 try simp only [Act.put, si0, si1, si2]
 refine tk_ (i := 9) (oi := ⟨_, _, _, _, _, _⟩) (v := undef) rfl (Or.inr ⟨by kernel_rfl, rfl⟩) ?_
 try simp only [Act.put, si0, si1, si2]
 refine tk_ (i := 10) (oi := ⟨_, _, _, _, _, _⟩) (v := undef) rfl (Or.inr ⟨by kernel_rfl, rfl⟩) ?_
 try simp only [Act.put, si0, si1, si2]
 refine tk_ (i := 11) (oi := ⟨_, _, _, _, _, _⟩) (v := undef) rfl (Or.inr ⟨by kernel_rfl, rfl⟩) ?_
 try simp only [Act.put, si0, si1, si2]
 (refine tk_ (i := 12) (oi := ⟨_, _, _, _, _, _⟩) (v := ?_) rfl (Or.inl ⟨by rfl, ?_⟩) ?_; rotate_left 1; · (intro w hSw; (try dsimp only at hSw); go_simp; all_goals with_reducible rfl))
 try simp only [Act.put, si0, si1, si2]
 (refine tk_ (i := 13) (oi := ⟨_, _, _, _, _, _⟩) (v := ?_) rfl (Or.inl ⟨by rfl, ?_⟩) ?_; rotate_left 1; · (intro w hSw; (try dsimp only at hSw); go_simp; all_goals with_reducible rfl))
 try simp only [Act.put, si0, si1, si2]
 refine wpAnyH_done (by kernel_rfl) ?_ _
 go_wp2_with fail
 go_ret
 exact ⟨rfl, HJ.out.below⟩
end Go.Proofs.YtgphiggbajbmhaaGreatDoor
