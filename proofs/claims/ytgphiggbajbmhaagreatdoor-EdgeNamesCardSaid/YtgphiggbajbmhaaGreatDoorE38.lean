/-
  Carried over and put together: contracts of this program's functions, and plain facts. No statement is proved in this text.
-/
import Derived.Test.YtgphiggbajbmhaaGreatDoorOz
import Derived.Test.YtgphiggbajbmhaaGreatDoorE23
import Derived.Test.YtgphiggbajbmhaaGreatDoorE33
import Derived.Test.YtgphiggbajbmhaaGreatDoorE37
set_option maxRecDepth 20000
namespace Go.Proofs.YtgphiggbajbmhaaGreatDoor
open Go Go.RowKit
structure KnI (p q : Int) (a b c d e a' b' c' d' e' : SL) (P : Option Addr) (B U : Vw) (Tl : Option Vw) (w : World) (s : Nat) (W : World) : Prop where
 idb : Box W s p q
 v1 : VBox W (s + 1) a b c d e
 v2 : VBox W (s + 2) a' b' c' d' e'
 rv : RV W a b c d e B
 ru : RV W a' b' c' d' e' U
 told : (P = none ∧ Tl = none) ∨ ∃ g Z, P = some ⟨g, 0, none⟩ ∧ Tl = some Z ∧ HoldsV W g Z ∧ FitVIE 100 Z ∧ Z.r = []
 tab : TabE W
 rk : Tabs W
 below : Below s w W
theorem KnI.on {p q : Int} {a b c d e a' b' c' d' e' : SL} {P : Option Addr} {B U : Vw} {Tl : Option Vw} {w W W' : World} {s : Nat} (h : KnI p q a b c d e a' b' c' d' e' P B U Tl w s W) (hb : Below W.heap.size W W') : KnI p q a b c d e a' b' c' d' e' P B U Tl w s W' :=
 ⟨box_below h.idb hb, vbox_below h.v1 hb, vbox_below h.v2 hb, h.rv.below hb, h.ru.below hb, by
  rcases h.told with e | ⟨g, Z, h1, h2, h3, h4⟩
  ·exact .inl e
  ·exact .inr ⟨g, Z, h1, h2, h3.below hb, h4⟩, h.tab.below hb, h.rk.below hb, h.below.trans (hb.mono (Nat.le_of_lt (box_lt h.idb)))⟩
structure KdI (p q : Int) (a b c d e a' b' c' d' e' : SL) (P : Option Addr) (t : SL) (B U : Vw) (Tl : Option Vw) (l : List Tn) (w : World) (g : Nat) (W : World) : Prop where
 cb : CBox W g p q a b c d e a' b' c' d' e' P t
 ch : ChI p q a b c d e a' b' c' d' e' P t B U Tl l W
 below : Below w.heap.size w W
theorem KdI.on {p q : Int} {a b c d e a' b' c' d' e' : SL} {P : Option Addr} {t : SL} {B U : Vw} {Tl : Option Vw} {l : List Tn} {w W W' : World} {g : Nat} (h : KdI p q a b c d e a' b' c' d' e' P t B U Tl l w g W) (hb : Below W.heap.size W W') : KdI p q a b c d e a' b' c' d' e' P t B U Tl l w g W' := ⟨cbox_below h.cb hb, h.ch.on hb, below_after h.below hb (Nat.le_refl _)⟩
def FBox (w : World) (f : Nat) : Prop := w.heap[f]? = some (.cells #[.nilFunc, .func (.func 18) #[] #[], .func (.func 19) #[] #[], .func (.func 20) #[] #[], .func (.func 21) #[] #[], .func (.func 22) #[] #[], .func (.func 23) #[] #[], .func (.func 24) #[] #[], .func (.func 25) #[] #[]] 58)
theorem fbox_new (w : World) : FBox (w.alloc (.cells #[.nilFunc, .func (.func 18) #[] #[], .func (.func 19) #[] #[], .func (.func 20) #[] #[], .func (.func 21) #[] #[], .func (.func 22) #[] #[], .func (.func 23) #[] #[], .func (.func 24) #[] #[], .func (.func 25) #[] #[]] 58)) w.heap.size := heap_alloc_new w _
theorem fbox_lt {w : World} {f : Nat} (h : FBox w f) : f < w.heap.size := row_lt h
theorem fbox_below {w w' : World} {f : Nat} (h : FBox w f) (hb : Below w.heap.size w w') : FBox w' f := (hb.block _ (fbox_lt h)).trans h
theorem fbox_cell {w : World} {f : Nat} (h : FBox w f) (k : Nat) (h1 : 1 ≤ k) (h8 : k ≤ 8) : w.cell? ⟨f, k, none⟩ = some (.func (.func (17 + k)) #[] #[]) := by
 unfold FBox at h
 match k, h1, h8 with
 | 1, _, _ => simp [World.cell?, h]
 | 2, _, _ => simp [World.cell?, h]
 | 3, _, _ => simp [World.cell?, h]
 | 4, _, _ => simp [World.cell?, h]
 | 5, _, _ => simp [World.cell?, h]
 | 6, _, _ => simp [World.cell?, h]
 | 7, _, _ => simp [World.cell?, h]
 | 8, _, _ => simp [World.cell?, h]
 | k + 9, _, h => exact absurd h (by omega)
theorem kinds_enter (k : Nat) (h1 : 1 ≤ k) (h8 : k ≤ 8) (args : Array Value) (W : World) : (callFunc (17 + k) args).run Tryz.prog W = .ok (.enter (17 + k) args) W := by
 match k, h1, h8 with
 | 1, _, _ => exact enters_fn Tryz.func18 (by kernel_rfl) rfl args W
 | 2, _, _ => exact enters_fn Tryz.func19 (by kernel_rfl) rfl args W
 | 3, _, _ => exact enters_fn Tryz.func20 (by kernel_rfl) rfl args W
 | 4, _, _ => exact enters_fn Tryz.func21 (by kernel_rfl) rfl args W
 | 5, _, _ => exact enters_fn Tryz.func22 (by kernel_rfl) rfl args W
 | 6, _, _ => exact enters_fn Tryz.func23 (by kernel_rfl) rfl args W
 | 7, _, _ => exact enters_fn Tryz.func24 (by kernel_rfl) rfl args W
 | 8, _, _ => exact enters_fn Tryz.func25 (by kernel_rfl) rfl args W
 | k + 9, _, h => exact absurd h (by omega)
set_option maxHeartbeats 16000000 in
theorem kind_any (p q : Int) (a b c d e a' b' c' d' e' : SL) (P : Option Addr) (B U : Vw) (Tl : Option Vw) (w : World) (hrv : RV w a b c d e B) (hru : RV w a' b' c' d' e' U) (htold : (P = none ∧ Tl = none) ∨ ∃ g Z, P = some ⟨g, 0, none⟩ ∧ Tl = some Z ∧ HoldsV w g Z ∧ FitVIE 100 Z ∧ Z.r = []) (htab : TabE w) (hrk : Tabs w) (fB : FitVIE 100 B) (fU : FitVIE 100 U) (rB : B.r = []) (rU : U.r = []) (lB : B.m.length < 20) (iB : ∀ x ∈ B.m, In2 x.1) (iU : ∀ x ∈ U.m, In2 x.1) (few : (turnsP B U).length ≤ 1) (dom : ∀ x ∈ turnsP B U, 0 ≤ x.1.2.1 ∧ 0 ≤ x.2.2.1)
  (bs : Nat → Bool) (r : Nat) (KC : ∀ i, i ≤ r → i < 8 → ∀ (t : SL) (W : World), ChI p q a b c d e a' b' c' d' e' P t B U Tl (turnsP B U) W → Calls Tryz.prog (18 + i) #[.agg #[.int .i64 p, .int .i64 q, .slice a.1 a.2.1 a.2.2, .slice b.1 b.2.1 b.2.2, .slice c.1 c.2.1 c.2.2, .slice d.1 d.2.1 d.2.2, .slice e.1 e.2.1 e.2.2, .slice a'.1 a'.2.1 a'.2.2, .slice b'.1 b'.2.1 b'.2.2, .slice c'.1 c'.2.1 c'.2.2, .slice d'.1 d'.2.1 d'.2.2, .slice e'.1 e'.2.1 e'.2.2, .pointer P, .slice t.1 t.2.1 t.2.2]] W fun e w' => e = .returned (.bool (bs i)) ∧ Below W.heap.size W w') (hr : r ≤ 8) (h0 : ∀ i, i < r → bs i = false) (h1 : r < 8 → bs r = true) :
  Calls Tryz.prog 7 #[.agg #[.int .i64 p, .int .i64 q], .agg #[.slice a.1 a.2.1 a.2.2, .slice b.1 b.2.1 b.2.2, .slice c.1 c.2.1 c.2.2, .slice d.1 d.2.1 d.2.2, .slice e.1 e.2.1 e.2.2], .agg #[.slice a'.1 a'.2.1 a'.2.2, .slice b'.1 b'.2.1 b'.2.2, .slice c'.1 c'.2.1 c'.2.2, .slice d'.1 d'.2.1 d'.2.2, .slice e'.1 e'.2.1 e'.2.2], .pointer P] w fun e w' => e = .returned (.int .u8 (if r < 8 then (r : Int) + 1 else 0)) ∧ Below w.heap.size w w' := by
 have q1 := below_one w (.cells #[.int .i64 p, .int .i64 q] 32)
 have q2 := below_one (w.alloc (.cells #[.int .i64 p, .int .i64 q] 32)) (.cells #[.slice a.1 a.2.1 a.2.2, .slice b.1 b.2.1 b.2.2, .slice c.1 c.2.1 c.2.2, .slice d.1 d.2.1 d.2.2, .slice e.1 e.2.1 e.2.2] 27)
 have q3 := below_one ((w.alloc (.cells #[.int .i64 p, .int .i64 q] 32)).alloc (.cells #[.slice a.1 a.2.1 a.2.2, .slice b.1 b.2.1 b.2.2, .slice c.1 c.2.1 c.2.2, .slice d.1 d.2.1 d.2.2, .slice e.1 e.2.1 e.2.2] 27)) (.cells #[.slice a'.1 a'.2.1 a'.2.2, .slice b'.1 b'.2.1 b'.2.2, .slice c'.1 c'.2.1 c'.2.2, .slice d'.1 d'.2.1 d'.2.2, .slice e'.1 e'.2.1 e'.2.2] 27)
 have QQ := below_after (below_after q1 q2 (Nat.le_refl _)) q3 (Nat.le_refl _)
 have b2 : VBox (((w.alloc (.cells #[.int .i64 p, .int .i64 q] 32)).alloc (.cells #[.slice a.1 a.2.1 a.2.2, .slice b.1 b.2.1 b.2.2, .slice c.1 c.2.1 c.2.2, .slice d.1 d.2.1 d.2.2, .slice e.1 e.2.1 e.2.2] 27)).alloc (.cells #[.slice a'.1 a'.2.1 a'.2.2, .slice b'.1 b'.2.1 b'.2.2, .slice c'.1 c'.2.1 c'.2.2, .slice d'.1 d'.2.1 d'.2.2, .slice e'.1 e'.2.1 e'.2.2] 27)) (w.heap.size + 1) a b c d e := by have h := vbox_below (vbox_new (w.alloc (.cells #[.int .i64 p, .int .i64 q] 32)) a b c d e) q3; simp only [World.size_alloc] at h; exact h
 have b3 : VBox (((w.alloc (.cells #[.int .i64 p, .int .i64 q] 32)).alloc (.cells #[.slice a.1 a.2.1 a.2.2, .slice b.1 b.2.1 b.2.2, .slice c.1 c.2.1 c.2.2, .slice d.1 d.2.1 d.2.2, .slice e.1 e.2.1 e.2.2] 27)).alloc (.cells #[.slice a'.1 a'.2.1 a'.2.2, .slice b'.1 b'.2.1 b'.2.2, .slice c'.1 c'.2.1 c'.2.2, .slice d'.1 d'.2.1 d'.2.2, .slice e'.1 e'.2.1 e'.2.2] 27)) (w.heap.size + 2) a' b' c' d' e' := by have h := vbox_new ((w.alloc (.cells #[.int .i64 p, .int .i64 q] 32)).alloc (.cells #[.slice a.1 a.2.1 a.2.2, .slice b.1 b.2.1 b.2.2, .slice c.1 c.2.1 c.2.2, .slice d.1 d.2.1 d.2.2, .slice e.1 e.2.1 e.2.2] 27)) a' b' c' d' e'; simp only [World.size_alloc] at h; exact h
 have D : Hid (KnI p q a b c d e a' b' c' d' e' P B U Tl w w.heap.size (((w.alloc (.cells #[.int .i64 p, .int .i64 q] 32)).alloc (.cells #[.slice a.1 a.2.1 a.2.2, .slice b.1 b.2.1 b.2.2, .slice c.1 c.2.1 c.2.2, .slice d.1 d.2.1 d.2.2, .slice e.1 e.2.1 e.2.2] 27)).alloc (.cells #[.slice a'.1 a'.2.1 a'.2.2, .slice b'.1 b'.2.1 b'.2.2, .slice c'.1 c'.2.1 c'.2.2, .slice d'.1 d'.2.1 d'.2.2, .slice e'.1 e'.2.1 e'.2.2] 27))) := Lib.hid ⟨box_below (box_below (box_new w p q) q2) q3, b2, b3, hrv.below QQ, hru.below QQ, by
  rcases htold with e | ⟨g, Z, h1, h2, h3, h4⟩
  ·exact .inl e
  ·exact .inr ⟨g, Z, h1, h2, h3.below QQ, h4⟩, htab.below QQ, hrk.below QQ, QQ⟩
 have HCH : Hid (∀ (W : World) (t : SL), KnI p q a b c d e a' b' c' d' e' P B U Tl w w.heap.size W → Us W (.slice t.1 t.2.1 t.2.2) (turnsP B U) → ChI p q a b c d e a' b' c' d' e' P t B U Tl (turnsP B U) W) := Lib.hid fun W t h k => ⟨h.rv, h.ru, k, h.told, fB, fU, rB, rU, few, h.tab, h.rk, lB, dom⟩
 have HT := Lib.hid fun W (h : KnI p q a b c d e a' b' c' d' e' P B U Tl w w.heap.size W) => turns_any a b c d e a' b' c' d' e' B U W h.rv h.ru iB iU (Nat.le_trans fB.m (by decide)) (Nat.le_trans fU.m (by decide)) (Nat.le_trans fU.f (by decide))
 have HQ := Lib.hid fun W (h : KnI p q a b c d e a' b' c' d' e' P B U Tl w w.heap.size W) => And.intro (box_cells h.idb) (And.intro (vbox_cells h.v1) (vbox_cells h.v2))
 have HKC := Lib.hid KC
 have HH0 := Lib.hid h0
 have HH1 := Lib.hid h1
 clear KC h0 h1
 clear q1 q2 q3 QQ b2 b3 hrv hru htold htab hrk fB fU rB rU lB iB iU few dom
 go_enter Tryz.func7, Tryz.ntmps7
 go_upto_region 1 with fail
 generalize (((w.alloc (.cells #[.int .i64 p, .int .i64 q] 32)).alloc (.cells #[.slice a.1 a.2.1 a.2.2, .slice b.1 b.2.1 b.2.2, .slice c.1 c.2.1 c.2.2, .slice d.1 d.2.1 d.2.2, .slice e.1 e.2.1 e.2.2] 27)).alloc (.cells #[.slice a'.1 a'.2.1 a'.2.2, .slice b'.1 b'.2.1 b'.2.2, .slice c'.1 c'.2.1 c'.2.2, .slice d'.1 d'.2.1 d'.2.2, .slice e'.1 e'.2.1 e'.2.2] 27)) = w1 at *
 generalize turnsP B U = l at *
 go_cut [9] (fun s9 wx => ∃ g t, s9 = .pointer (some ⟨g, 0, none⟩) ∧ Hid (KdI p q a b c d e a' b' c' d' e' P t B U Tl l w g wx))
 case first =>
  have P0 := Lib.hid (show Below w1.heap.size w1 w1.drew from (Below.refl _ _).drew)
  refine wp_region_held_drew (S := (fun w' => (w'.cell? ⟨w.heap.size, 0, none⟩ = some (.int .i64 p) ∧ w'.cell? ⟨w.heap.size, 1, none⟩ = some (.int .i64 q)) ∧ (w'.cell? ⟨w.heap.size + 1, 0, none⟩ = some (.slice a.1 a.2.1 a.2.2) ∧ w'.cell? ⟨w.heap.size + 1, 1, none⟩ = some (.slice b.1 b.2.1 b.2.2) ∧ w'.cell? ⟨w.heap.size + 1, 2, none⟩ = some (.slice c.1 c.2.1 c.2.2) ∧ w'.cell? ⟨w.heap.size + 1, 3, none⟩ = some (.slice d.1 d.2.1 d.2.2) ∧ w'.cell? ⟨w.heap.size + 1, 4, none⟩ = some (.slice e.1 e.2.1 e.2.2)) ∧ (w'.cell? ⟨w.heap.size + 2, 0, none⟩ = some (.slice a'.1 a'.2.1 a'.2.2) ∧ w'.cell? ⟨w.heap.size + 2, 1, none⟩ = some (.slice b'.1 b'.2.1 b'.2.2) ∧ w'.cell? ⟨w.heap.size + 2, 2, none⟩ = some (.slice c'.1 c'.2.1 c'.2.2) ∧ w'.cell? ⟨w.heap.size + 2, 3, none⟩ = some (.slice d'.1 d'.2.1 d'.2.2) ∧ w'.cell? ⟨w.heap.size + 2, 4, none⟩ = some (.slice e'.1 e'.2.1 e'.2.2)))) (by kernel_rfl) ?_ (fun hHeld => ?_)
  ·exact HQ.out _ (D.out.on P0.out)
  generalize World.drew w1 = x0 at *
  (refine tk_ (i := 0) (oi := ⟨_, _, _, _, _, _⟩) (v := ?_) rfl (Or.inl ⟨by rfl, ?_⟩) ?_; rotate_left 1; · (intro w hSw; (try dsimp only at hSw); go_simp; all_goals with_reducible rfl))
  try simp only [Act.put, si0, si1, si2]
  (refine tk_ (i := 1) (oi := ⟨_, _, _, _, _, _⟩) (v := ?_) rfl (Or.inl ⟨by rfl, ?_⟩) ?_; rotate_left 1; · (intro w hSw; (try dsimp only at hSw); go_simp; all_goals with_reducible rfl))
  try simp only [Act.put, si0, si1, si2]
  (refine tk_ (i := 2) (oi := ⟨_, _, _, _, _, _⟩) (v := ?_) rfl (Or.inl ⟨by rfl, ?_⟩) ?_; rotate_left 1; · (intro w hSw; (try dsimp only at hSw); go_simp; all_goals with_reducible rfl))
  try simp only [Act.put, si0, si1, si2]
  (refine tk_ (i := 3) (oi := ⟨_, _, _, _, _, _⟩) (v := ?_) rfl (Or.inl ⟨by rfl, ?_⟩) ?_; rotate_left 1; · (intro w hSw; (try dsimp only at hSw); go_simp; all_goals with_reducible rfl))
  try simp only [Act.put, si0, si1, si2]
  (refine tk_ (i := 4) (oi := ⟨_, _, _, _, _, _⟩) (v := ?_) rfl (Or.inl ⟨by rfl, ?_⟩) ?_; rotate_left 1; · (intro w hSw; (try dsimp only at hSw); go_simp; all_goals with_reducible rfl))
  try simp only [Act.put, si0, si1, si2]
  (refine tk_ (i := 5) (oi := ⟨_, _, _, _, _, _⟩) (v := ?_) rfl (Or.inl ⟨by rfl, ?_⟩) ?_; rotate_left 1; · (intro w hSw; (try dsimp only at hSw); go_simp; all_goals with_reducible rfl))
  try simp only [Act.put, si0, si1, si2]
  refine wpAnyH_ready (rs := [6, 8]) (by kernel_rfl) (by simp) ?_
  refine AllReadyH.cons (o := ⟨_, _, _, _, _, _⟩) rfl (fun Kq hKq => ?_) (AllReadyH.cons (o := ⟨_, _, _, _, _, _⟩) rfl (fun Kq hKq => ?_) (AllReadyH.nil))
  ·go_simp
   clear hHeld
   go_at_call 6; (with_reducible refine (HT.out _ (D.out.on P0.out)).mono ?_); rintro e1 x1 ⟨vt, rfl, ho, hb⟩
   have P1 := Lib.hid (below_after P0.out hb (Nat.le_refl _))
   obtain ⟨tA, tc, rfl, -⟩ := rcs_owns encU_len ho
   have OT := Lib.hid ho
   clear ho hb
   refine hKq.out _ _ ?_ (fun hHeld => ?_)
   ·(try dsimp only); exact HQ.out _ (D.out.on P1.out)
   clear hKq Kq
   try simp only [Act.put, si0, si1, si2]
   (refine tk_ (i := 7) (oi := ⟨_, _, _, _, _, _⟩) (v := ?_) rfl (Or.inl ⟨by rfl, ?_⟩) ?_; rotate_left 1; · (intro w hSw; (try dsimp only at hSw); go_simp; all_goals with_reducible rfl))
   try simp only [Act.put, si0, si1, si2]
   refine wpAnyH_ready (rs := [8]) (by kernel_rfl) (by simp) ?_
   refine AllReadyH.cons (o := ⟨_, _, _, _, _, _⟩) rfl (fun Kq hKq => ?_) (AllReadyH.nil)
   clear hHeld
   refine step_calloc (by rfl) (by rfl) _ ?_; intro g8 x2 k1 k2 k3
   have P2 := Lib.hid (below_after P1.out k2 (Nat.le_refl _))
   have LO := Lib.hid (Nat.le_trans P1.out.size k3)
   have CB := Lib.hid k1
   have NE : Hid ((Value.slice tA l.length tc).ownBlock ≠ some g8) := Lib.hid (fun hx => by have := (World.ownsRow.lt OT.out g8 hx).2; omega)
   have OT := Lib.hid (OwnsR.below OT.out k2)
   clear k1 k2 k3
   refine hKq.out _ _ ?_ (fun hHeld => ?_)
   ·(try dsimp only); exact HQ.out _ (D.out.on P2.out)
   clear hKq Kq
   try simp only [Act.put, si0, si1, si2]
   refine wpAnyH_ready (rs := [9]) (by kernel_rfl) (by simp) ?_
   refine AllReadyH.cons (o := ⟨_, _, _, _, _, _⟩) rfl (fun Kq hKq => ?_) (AllReadyH.nil)
   clear hHeld
   refine step_cstore (by rfl) (.tmp 9) (.tmp 19) (by rfl) _ g8 p q a b c d e a' b' c' d' e' P (tA, l.length, tc) (by rfl) (by rfl) CB.out ?_; intro x3 k1 k2
   have P3 := Lib.hid (P2.out.trans (below_grown k2 LO.out P2.out.size))
   have Q9 : Hid (KdI p q a b c d e a' b' c' d' e' P (tA, l.length, tc) B U Tl l w g8 x3) := Lib.hid ⟨k1, HCH.out _ (tA, l.length, tc) (D.out.on P3.out) (rcs_owns encU_len (OwnsR.grown OT.out k2 NE.out)), below_after D.out.below P3.out (Nat.le_refl _)⟩
   clear k1 k2
   refine hKq.out _ _ ?_ (fun hHeld => ?_)
   ·(try dsimp only); exact HQ.out _ (D.out.on P3.out)
   clear hKq Kq
   try simp only [Act.put]
   refine wpAnyH_done (by kernel_rfl) ?_ _
   go_wp2_with fail
   go_meet
   exact ⟨_, (tA, l.length, tc), rfl, Q9⟩
  ·clear hHeld
   refine step_calloc (by rfl) (by rfl) _ ?_; intro g8 x1 k1 k2 k3
   have P1 := Lib.hid (below_after P0.out k2 (Nat.le_refl _))
   have LO := Lib.hid (Nat.le_trans P0.out.size k3)
   have CB := Lib.hid k1
   clear k1 k2 k3
   refine hKq.out _ _ ?_ (fun hHeld => ?_)
   ·(try dsimp only); exact HQ.out _ (D.out.on P1.out)
   clear hKq Kq
   try simp only [Act.put, si0, si1, si2]
   refine wpAnyH_ready (rs := [6]) (by kernel_rfl) (by simp) ?_
   refine AllReadyH.cons (o := ⟨_, _, _, _, _, _⟩) rfl (fun Kq hKq => ?_) (AllReadyH.nil)
   go_simp
   clear hHeld
   go_at_call 6; (with_reducible refine (HT.out _ (D.out.on P1.out)).mono ?_); rintro e1 x2 ⟨vt, rfl, ho, hb⟩
   have P2 := Lib.hid (below_after P1.out hb (Nat.le_refl _))
   obtain ⟨tA, tc, rfl, -⟩ := rcs_owns encU_len ho
   have OT := Lib.hid ho
   have NE := Lib.hid (ownsR_ne ho (cbox_lt CB.out))
   have CB := Lib.hid (cbox_below CB.out hb)
   clear ho hb
   refine hKq.out _ _ ?_ (fun hHeld => ?_)
   ·(try dsimp only); exact HQ.out _ (D.out.on P2.out)
   clear hKq Kq
   try simp only [Act.put, si0, si1, si2]
   (refine tk_ (i := 7) (oi := ⟨_, _, _, _, _, _⟩) (v := ?_) rfl (Or.inl ⟨by rfl, ?_⟩) ?_; rotate_left 1; · (intro w hSw; (try dsimp only at hSw); go_simp; all_goals with_reducible rfl))
   try simp only [Act.put, si0, si1, si2]
   refine wpAnyH_ready (rs := [9]) (by kernel_rfl) (by simp) ?_
   refine AllReadyH.cons (o := ⟨_, _, _, _, _, _⟩) rfl (fun Kq hKq => ?_) (AllReadyH.nil)
   clear hHeld
   refine step_cstore (by rfl) (.tmp 9) (.tmp 19) (by rfl) _ g8 p q a b c d e a' b' c' d' e' P (tA, l.length, tc) (by rfl) (by rfl) CB.out ?_; intro x3 k1 k2
   have P3 := Lib.hid (P2.out.trans (below_grown k2 LO.out P2.out.size))
   have Q9 : Hid (KdI p q a b c d e a' b' c' d' e' P (tA, l.length, tc) B U Tl l w g8 x3) := Lib.hid ⟨k1, HCH.out _ (tA, l.length, tc) (D.out.on P3.out) (rcs_owns encU_len (OwnsR.grown OT.out k2 NE.out)), below_after D.out.below P3.out (Nat.le_refl _)⟩
   clear k1 k2
   refine hKq.out _ _ ?_ (fun hHeld => ?_)
   ·(try dsimp only); exact HQ.out _ (D.out.on P3.out)
   clear hKq Kq
   try simp only [Act.put]
   refine wpAnyH_done (by kernel_rfl) ?_ _
   go_wp2_with fail
   go_meet
   exact ⟨_, (tA, l.length, tc), rfl, Q9⟩
 case rest =>
  obtain ⟨g, t, rfl, KD⟩ := hcut
  rename World => w2
  clear D HQ HT HCH
  generalize hz : w.heap.size = zz at *
  go_wp2_with fail
  have qf := below_one w2 (.cells #[.nilFunc, .func (.func 18) #[] #[], .func (.func 19) #[] #[], .func (.func 20) #[] #[], .func (.func 21) #[] #[], .func (.func 22) #[] #[], .func (.func 23) #[] #[], .func (.func 24) #[] #[], .func (.func 25) #[] #[]] 58)
  have FB := Lib.hid (fbox_new w2)
  have KD := Lib.hid (KD.out.on qf)
  clear qf
  generalize (w2.alloc (.cells #[.nilFunc, .func (.func 18) #[] #[], .func (.func 19) #[] #[], .func (.func 20) #[] #[], .func (.func 21) #[] #[], .func (.func 22) #[] #[], .func (.func 23) #[] #[], .func (.func 24) #[] #[], .func (.func 25) #[] #[]] 58)) = w3 at *
  generalize w2.heap.size = fb at *
  go_loopw [11] (fun s11 wr => ∃ k : Nat, 1 ≤ k ∧ k ≤ 9 ∧ k ≤ r + 1 ∧ s11 = .int .u8 k ∧ Hid (KdI p q a b c d e a' b' c' d' e' P t B U Tl l w g wr) ∧ Hid (FBox wr fb)) (fun s11 _ => 9 - (intOf s11).toNat)
  case atStart => exact ⟨1, Nat.le_refl _, by decide, by omega, rfl, KD, FB⟩
  case round =>
   obtain ⟨k, k1, k9, kr, rfl, KD, FB⟩ := hrel
   by_cases h8 : k ≤ 8
   ·have i8 : (k : Int) ≤ 8 := by omega
    have i9 : (k : Int) < 9 := by omega
    have i0 : ¬ (k : Int) < 0 := by omega
    have hK := kinds_enter k k1 h8
    have HC := Lib.hid (HKC.out (k - 1) (by omega) (by omega))
    rw [show 18 + (k - 1) = 17 + k by omega] at HC
    generalize hKd : 17 + k = K at *
    rename World => wr
    have KDd := Lib.hid (KD.out.on (Below.refl _ _).drew)
    have FBd := Lib.hid (fbox_below FB.out (Below.refl _ _).drew)
    by_cases hb : bs (k - 1) = true
    ·rw [hb] at HC
     have hr1 : k - 1 = r := by
      have := HH0.out (k - 1)
      rcases Nat.lt_or_ge (k - 1) r with h | h
      ·rw [this h] at hb; cases hb
      ·omega
     go_upto_region 6 with fail
     refine wp_region_held_drew (S := (fun w' => w'.cell? ⟨fb, k, none⟩ = some (.func (.func K) #[] #[]) ∧ w'.cell? ⟨g, 0, none⟩ = some (.int .i64 p) ∧ w'.cell? ⟨g, 1, none⟩ = some (.int .i64 q) ∧ w'.cell? ⟨g, 2, none⟩ = some (.slice a.1 a.2.1 a.2.2) ∧ w'.cell? ⟨g, 3, none⟩ = some (.slice b.1 b.2.1 b.2.2) ∧ w'.cell? ⟨g, 4, none⟩ = some (.slice c.1 c.2.1 c.2.2) ∧ w'.cell? ⟨g, 5, none⟩ = some (.slice d.1 d.2.1 d.2.2) ∧ w'.cell? ⟨g, 6, none⟩ = some (.slice e.1 e.2.1 e.2.2) ∧ w'.cell? ⟨g, 7, none⟩ = some (.slice a'.1 a'.2.1 a'.2.2) ∧ w'.cell? ⟨g, 8, none⟩ = some (.slice b'.1 b'.2.1 b'.2.2) ∧ w'.cell? ⟨g, 9, none⟩ = some (.slice c'.1 c'.2.1 c'.2.2) ∧ w'.cell? ⟨g, 10, none⟩ = some (.slice d'.1 d'.2.1 d'.2.2) ∧ w'.cell? ⟨g, 11, none⟩ = some (.slice e'.1 e'.2.1 e'.2.2) ∧ w'.cell? ⟨g, 12, none⟩ = some (.pointer P) ∧ w'.cell? ⟨g, 13, none⟩ = some (.slice t.1 t.2.1 t.2.2))) (by kernel_rfl) ?_ (fun hHeld => ?_)
     ·exact ⟨hKd ▸ fbox_cell FB.out k k1 h8, cbox_cells KD.out.cb⟩
     (refine tk_ (i := 0) (oi := ⟨_, _, _, _, _, _⟩) (v := ?_) rfl (Or.inl ⟨by rfl, ?_⟩) ?_; rotate_left 1; · (intro w hSw; (try dsimp only at hSw); go_simp; all_goals with_reducible rfl))
     try simp only [Act.put, si0, si1, si2]
     (refine tk_ (i := 1) (oi := ⟨_, _, _, _, _, _⟩) (v := ?_) rfl (Or.inl ⟨by rfl, ?_⟩) ?_; rotate_left 1; · (intro w hSw; (try dsimp only at hSw); go_simp; all_goals with_reducible rfl))
     try simp only [Act.put, si0, si1, si2]
     (refine tk_ (i := 2) (oi := ⟨_, _, _, _, _, _⟩) (v := ?_) rfl (Or.inl ⟨by rfl, ?_⟩) ?_; rotate_left 1; · (intro w hSw; (try dsimp only at hSw); go_simp; all_goals with_reducible rfl))
     try simp only [Act.put, si0, si1, si2]
     (refine tk_ (i := 3) (oi := ⟨_, _, _, _, _, _⟩) (v := ?_) rfl (Or.inl ⟨by rfl, ?_⟩) ?_; rotate_left 1; · (intro w hSw; (try dsimp only at hSw); go_simp; all_goals with_reducible rfl))
     try simp only [Act.put, si0, si1, si2]
     refine wpAnyH_ready (rs := [4]) (by kernel_rfl) (by simp) ?_
     refine AllReadyH.cons (o := ⟨_, _, _, _, _, _⟩) rfl (fun Kq hKq => ?_) AllReadyH.nil
     go_simp
     clear hHeld
     (with_reducible refine (HC.out _ _ (KDd.out.ch)).mono ?_); rintro e1 x1 ⟨rfl, hb⟩
     have D1 := Lib.hid (KDd.out.on hb)
     have F1 := Lib.hid (fbox_below FBd.out hb)
     clear hb
     refine hKq.out _ _ ?_ (fun hHeld => ?_)
     ·(try dsimp only); exact ⟨(hKd ▸ fbox_cell F1.out k k1 h8) , cbox_cells D1.out.cb⟩
     clear hKq Kq
     try simp only [Act.put, si0, si1, si2]
     refine wpAnyH_done (by kernel_rfl) ?_ _
     go_wp2_with fail
     go_ret
     have hk : k = r + 1 := by omega
     have e : (k : Int) = (r : Int) + 1 := by omega
     exact ⟨congrArg (fun z => Ending.returned (.int .u8 z)) e, hz ▸ D1.out.below⟩
    ·have hb : bs (k - 1) = false := by simpa using hb
     rw [hb] at HC
     have hr1 : k ≤ r := by
      rcases Nat.lt_or_ge r k with h | h
      ·have e : k - 1 = r := by omega
       rw [e, HH1.out (by omega)] at hb
       cases hb
      ·exact h
     have i10 : (k : Int) + 1 < 256 := by omega
     go_upto_region 6 with fail
     refine wp_region_held_drew (S := (fun w' => w'.cell? ⟨fb, k, none⟩ = some (.func (.func K) #[] #[]) ∧ w'.cell? ⟨g, 0, none⟩ = some (.int .i64 p) ∧ w'.cell? ⟨g, 1, none⟩ = some (.int .i64 q) ∧ w'.cell? ⟨g, 2, none⟩ = some (.slice a.1 a.2.1 a.2.2) ∧ w'.cell? ⟨g, 3, none⟩ = some (.slice b.1 b.2.1 b.2.2) ∧ w'.cell? ⟨g, 4, none⟩ = some (.slice c.1 c.2.1 c.2.2) ∧ w'.cell? ⟨g, 5, none⟩ = some (.slice d.1 d.2.1 d.2.2) ∧ w'.cell? ⟨g, 6, none⟩ = some (.slice e.1 e.2.1 e.2.2) ∧ w'.cell? ⟨g, 7, none⟩ = some (.slice a'.1 a'.2.1 a'.2.2) ∧ w'.cell? ⟨g, 8, none⟩ = some (.slice b'.1 b'.2.1 b'.2.2) ∧ w'.cell? ⟨g, 9, none⟩ = some (.slice c'.1 c'.2.1 c'.2.2) ∧ w'.cell? ⟨g, 10, none⟩ = some (.slice d'.1 d'.2.1 d'.2.2) ∧ w'.cell? ⟨g, 11, none⟩ = some (.slice e'.1 e'.2.1 e'.2.2) ∧ w'.cell? ⟨g, 12, none⟩ = some (.pointer P) ∧ w'.cell? ⟨g, 13, none⟩ = some (.slice t.1 t.2.1 t.2.2))) (by kernel_rfl) ?_ (fun hHeld => ?_)
     ·exact ⟨hKd ▸ fbox_cell FB.out k k1 h8, cbox_cells KD.out.cb⟩
     (refine tk_ (i := 0) (oi := ⟨_, _, _, _, _, _⟩) (v := ?_) rfl (Or.inl ⟨by rfl, ?_⟩) ?_; rotate_left 1; · (intro w hSw; (try dsimp only at hSw); go_simp; all_goals with_reducible rfl))
     try simp only [Act.put, si0, si1, si2]
     (refine tk_ (i := 1) (oi := ⟨_, _, _, _, _, _⟩) (v := ?_) rfl (Or.inl ⟨by rfl, ?_⟩) ?_; rotate_left 1; · (intro w hSw; (try dsimp only at hSw); go_simp; all_goals with_reducible rfl))
     try simp only [Act.put, si0, si1, si2]
     (refine tk_ (i := 2) (oi := ⟨_, _, _, _, _, _⟩) (v := ?_) rfl (Or.inl ⟨by rfl, ?_⟩) ?_; rotate_left 1; · (intro w hSw; (try dsimp only at hSw); go_simp; all_goals with_reducible rfl))
     try simp only [Act.put, si0, si1, si2]
     (refine tk_ (i := 3) (oi := ⟨_, _, _, _, _, _⟩) (v := ?_) rfl (Or.inl ⟨by rfl, ?_⟩) ?_; rotate_left 1; · (intro w hSw; (try dsimp only at hSw); go_simp; all_goals with_reducible rfl))
     try simp only [Act.put, si0, si1, si2]
     refine wpAnyH_ready (rs := [4]) (by kernel_rfl) (by simp) ?_
     refine AllReadyH.cons (o := ⟨_, _, _, _, _, _⟩) rfl (fun Kq hKq => ?_) AllReadyH.nil
     go_simp
     clear hHeld
     (with_reducible refine (HC.out _ _ (KDd.out.ch)).mono ?_); rintro e1 x1 ⟨rfl, hb⟩
     have D1 := Lib.hid (KDd.out.on hb)
     have F1 := Lib.hid (fbox_below FBd.out hb)
     clear hb
     refine hKq.out _ _ ?_ (fun hHeld => ?_)
     ·(try dsimp only); exact ⟨(hKd ▸ fbox_cell F1.out k k1 h8) , cbox_cells D1.out.cb⟩
     clear hKq Kq
     try simp only [Act.put, si0, si1, si2]
     refine wpAnyH_done (by kernel_rfl) ?_ _
     go_wp2_with fail
     go_roundw
     case rel => exact ⟨k + 1, by omega, by omega, by omega, by simp, D1, F1⟩
     case measure => simp [intOf]; omega
   ·have h9 : k = 9 := by omega
    subst h9
    go_wp2_with fail
    go_ret
    exact ⟨rfl, hz ▸ KD.out.below⟩
end Go.Proofs.YtgphiggbajbmhaaGreatDoor
set_option maxRecDepth 100000
namespace Go.Proofs.YtgphiggbajbmhaaGreatDoor
open Go Go.RowKit
def z1 : Sets.Id2 := (1, 1)
def z2 : Sets.Id2 := (2, 1)
def exOne : Vw := (putR emV z1 (z1, 3, 1)).1
def exTwo : Vw := (putR exOne z1 (z2, 1, 0)).1
def exUp : Vw := (putR exTwo z1 (z2, 3, 2)).1
def exFar : Vw := (putR exTwo z1 (z2, 3, 3)).1
def exSeen : Vw := tellP exTwo exTwo 2 1
theorem ex_errs : (putR emV z1 (z1, 3, 1)).2 = 0 ∧ (putR exOne z1 (z2, 1, 0)).2 = 0 ∧ (putR exTwo z1 (z2, 3, 2)).2 = 0 ∧ (putR exTwo z1 (z2, 3, 3)).2 = 0 := ⟨by kernel_rfl, by kernel_rfl, by kernel_rfl, by kernel_rfl⟩
theorem ex_one : exOne = ⟨[(z1, 3, 1)], [], [], [(z1, 1)], [z1]⟩ := by kernel_rfl
theorem ex_two : exTwo = ⟨[(z1, 3, 1), (z2, 1, 0)], [], [], [(z1, 2)], [z1]⟩ := by kernel_rfl
theorem ex_up : exUp = ⟨[(z1, 3, 1), (z2, 3, 2)], [], [], [(z1, 3)], [z1]⟩ := by kernel_rfl
theorem ex_far : exFar = ⟨[(z1, 3, 1), (z2, 3, 3)], [], [], [(z1, 3)], [z1]⟩ := by kernel_rfl
theorem ex_seen : exSeen = ⟨[(z1, 3, 1), (z2, 1, 0)], [], [], [(z1, 2)], [z1, z2]⟩ := by kernel_rfl
theorem turns_one : turnsP emV exOne = [(noneM, (z1, 3, 1))] := by kernel_rfl
theorem turns_two : turnsP exOne exTwo = [(noneM, (z2, 1, 0))] := by kernel_rfl
theorem turns_seen : turnsP exTwo exSeen = [] := by kernel_rfl
theorem turns_up : turnsP exTwo exUp = [((z2, 1, 0), (z2, 3, 2))] := by kernel_rfl
theorem turns_far : turnsP exTwo exFar = [((z2, 1, 0), (z2, 3, 3))] := by kernel_rfl
theorem turns_em : turnsP emV emV = [] := by kernel_rfl
theorem same_ex : sameV emV exOne = false ∧ sameV exOne exTwo = false ∧ sameV exTwo exSeen = false ∧ sameV exTwo exUp = false ∧ sameV exTwo exFar = false ∧ sameV emV emV = true := ⟨by kernel_rfl, by kernel_rfl, by kernel_rfl, by kernel_rfl, by kernel_rfl, by kernel_rfl⟩
theorem heard_ex : heardB exTwo exSeen (some exTwo) z2 = true := by kernel_rfl
theorem puts_two : putsB exOne exTwo z1 [(noneM, (z2, 1, 0))] = true := by kernel_rfl
theorem puts_up : putsB exTwo exUp z1 [((z2, 1, 0), (z2, 3, 2))] = true := by kernel_rfl
theorem lead_ex : Agr.leadO exTwo.m exTwo.r = some z1 ∧ Agr.allB exTwo.m exTwo.r exTwo.s = true ∧ Ros.nextZ exTwo.m = 2 := ⟨by kernel_rfl, by kernel_rfl, by kernel_rfl⟩
theorem host_ex : (hostV emV z1).2.1 = 0 ∧ (hostV exOne z1).2.1 = 3 ∧ (hostV exTwo z2).2.1 = 1 ∧ (hostV exTwo z1).2.1 = 3 := ⟨by kernel_rfl, by kernel_rfl, by kernel_rfl, by kernel_rfl⟩
end Go.Proofs.YtgphiggbajbmhaaGreatDoor
