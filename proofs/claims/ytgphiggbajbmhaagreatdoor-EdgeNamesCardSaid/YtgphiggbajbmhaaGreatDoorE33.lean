/-
  Carried over and put together: contracts of this program's functions, and plain facts. No statement is proved in this text.
-/
import Derived.Test.YtgphiggbajbmhaaGreatDoorE32
set_option maxRecDepth 20000
namespace Go.Proofs.YtgphiggbajbmhaaGreatDoor
open Go Go.RowKit
structure Once (K : Nat) (caps : Array Value) (ma mi ms mn nb nj nt nm : Int) (bb : Bool) (S R : World → Prop) : Prop where
 enters : ∀ args W, (callFunc K args).run Tryz.prog W = .ok (.enter K args) W
 kept : ∀ W W', S W → Below W.heap.size W W' → S W'
 call : ∀ W, S W → Calls Tryz.prog K (#[.agg #[.int .i64 ma, .int .i64 mi, .int .u8 ms, .int .i64 mn, .int .i64 nb, .int .i64 nj, .int .u8 nt, .int .i64 nm]] ++ caps) W fun e w' => e = .returned (.bool bb) ∧ R w'
variable {K : Nat} {caps : Array Value} {ma mi ms mn nb nj nt nm : Int} {bb : Bool} {S R : World → Prop}
set_option maxHeartbeats 2000000 in
theorem index1_any (hP : Once K caps ma mi ms mn nb nj nt nm bb S R) (v : Value) (w : World) (h : Us w v [(((ma, mi), ms, mn), (nb, nj), nt, nm)]) (hS : S w) :
  Calls Tryz.prog 83 #[v, .func (.func K) #[] caps] w fun e w' => e = .returned (.int .i64 (if bb then 0 else -1)) ∧ R w' := by
 have HC := Lib.hid (hP.call w hS)
 have hK := hP.enters
 obtain ⟨A, c, rfl, hz⟩ := id h
 clear hz
 obtain ⟨ad, e1, y1, y2, y3, y4, y5, y6, y7, y8⟩ := Us.at_ h (Below.refl _ _) (k := 0) (by simp)
 simp only [Nat.zero_mul, add_none, List.getElem_cons_zero] at y1 y2 y3 y4 y5 y6 y7 y8
 subst e1
 clear h hS hP
 go_enter Tryz.func83, Tryz.ntmps83
 go_wp2_with fail
 go_loopw [8] (fun s8 wr => (s8 = .int .i64 0 ∧ wr = w) ∨ (s8 = .int .i64 1 ∧ bb = false ∧ Hid (R wr))) (fun s8 _ => 1 - (intOf s8).toNat)
 case atStart => exact .inl ⟨rfl, rfl⟩
 case round =>
  rcases hrel with ⟨rfl, rfl⟩ | ⟨rfl, rfl, HR⟩
  ·cases bb
   ·go_wp2_with fail
    (with_reducible refine HC.out.mono ?_)
    rintro e w1 ⟨rfl, hr⟩
    have HR := Lib.hid hr
    clear hr
    go_wp2_with fail
    go_roundw
    case rel => exact .inr ⟨rfl, by first | rfl | trivial, HR⟩
    case measure => simp [intOf]
   ·go_wp2_with fail
    (with_reducible refine HC.out.mono ?_)
    rintro e w1 ⟨rfl, hr⟩
    have HR := Lib.hid hr
    clear hr
    go_wp2_with fail
    go_ret
    exact ⟨rfl, HR.out⟩
  ·go_wp2_with fail
   go_ret
   exact ⟨rfl, HR.out⟩
theorem contains1_any (hP : Once K caps ma mi ms mn nb nj nt nm bb S R) (v : Value) (w : World) (h : Us w v [(((ma, mi), ms, mn), (nb, nj), nt, nm)]) (hS : S w) :
  Calls Tryz.prog 93 #[v, .func (.func K) #[] caps] w fun e w' => e = .returned (.bool bb) ∧ R w' := by
 have HC := Lib.hid (index1_any hP v w h hS)
 clear h hS
 go_enter Tryz.func93, Tryz.ntmps93
 go_wp2_with fail
 (with_reducible refine HC.out.mono ?_)
 rintro e w1 ⟨rfl, hr⟩
 have HR := Lib.hid hr
 clear hr
 cases bb
 ·go_wp2_with fail
  go_ret
  exact ⟨rfl, HR.out⟩
 ·go_wp2_with fail
  go_ret
  exact ⟨rfl, HR.out⟩
theorem not_once (hP : Once K caps ma mi ms mn nb nj nt nm bb S R) (X : Nat) : Once 94 #[.pointer (some ⟨X, 0, none⟩)] ma mi ms mn nb nj nt nm (!bb) (fun W => One W X 89 (.func (.func K) #[] caps) ∧ S W) R where
 enters := fun args W => enters_fn Tryz.func94 (by kernel_rfl) rfl args W
 kept _ _ h hb := ⟨one_below h.1 hb, hP.kept _ _ h.2 hb⟩
 call W hS := by
  have HB := below_one W (.cells #[.int .i64 ma, .int .i64 mi, .int .u8 ms, .int .i64 mn, .int .i64 nb, .int .i64 nj, .int .u8 nt, .int .i64 nm] 53)
  have HM := Lib.hid (ubox_new W ma mi ms mn nb nj nt nm)
  have HX := Lib.hid (one_below hS.1 HB)
  have HC := Lib.hid (hP.call _ (hP.kept _ _ hS.2 HB))
  have hK := hP.enters
  obtain ⟨c1, c2, c3, c4, c5, c6, c7, c8⟩ := ubox_cells HM.out
  have f := one_cell HX.out
  clear hS HB hP
  go_enter Tryz.func94, Tryz.ntmps94
  go_wp2_with fail
  (with_reducible refine HC.out.mono ?_)
  rintro e w1 ⟨rfl, hr⟩
  have HR := Lib.hid hr
  clear hr
  go_wp2_with fail
  go_ret
  exact ⟨rfl, HR.out⟩
set_option maxHeartbeats 4000000 in
theorem all1_any (hP : Once K caps ma mi ms mn nb nj nt nm bb S R) (p q : Int) (a b c d e a' b' c' d' e' : SL) (P : Option Addr) (t : SL) (w : World) (ht : Us w (.slice t.1 t.2.1 t.2.2) [(((ma, mi), ms, mn), (nb, nj), nt, nm)]) (hS : S w) :
  Calls Tryz.prog 59 #[.agg #[.int .i64 p, .int .i64 q, .slice a.1 a.2.1 a.2.2, .slice b.1 b.2.1 b.2.2, .slice c.1 c.2.1 c.2.2, .slice d.1 d.2.1 d.2.2, .slice e.1 e.2.1 e.2.2, .slice a'.1 a'.2.1 a'.2.2, .slice b'.1 b'.2.1 b'.2.2, .slice c'.1 c'.2.1 c'.2.2, .slice d'.1 d'.2.1 d'.2.2, .slice e'.1 e'.2.1 e'.2.2, .pointer P, .slice t.1 t.2.1 t.2.2], .func (.func K) #[] caps] w fun e w' => e = .returned (.bool bb) ∧ R w' := by
 have q1 := below_one w (.cells #[.int .i64 p, .int .i64 q, .slice a.1 a.2.1 a.2.2, .slice b.1 b.2.1 b.2.2, .slice c.1 c.2.1 c.2.2, .slice d.1 d.2.1 d.2.2, .slice e.1 e.2.1 e.2.2, .slice a'.1 a'.2.1 a'.2.2, .slice b'.1 b'.2.1 b'.2.2, .slice c'.1 c'.2.1 c'.2.2, .slice d'.1 d'.2.1 d'.2.2, .slice e'.1 e'.2.1 e'.2.2, .pointer P, .slice t.1 t.2.1 t.2.2] 56)
 have q2 := below_one (w.alloc (.cells #[.int .i64 p, .int .i64 q, .slice a.1 a.2.1 a.2.2, .slice b.1 b.2.1 b.2.2, .slice c.1 c.2.1 c.2.2, .slice d.1 d.2.1 d.2.2, .slice e.1 e.2.1 e.2.2, .slice a'.1 a'.2.1 a'.2.2, .slice b'.1 b'.2.1 b'.2.2, .slice c'.1 c'.2.1 c'.2.2, .slice d'.1 d'.2.1 d'.2.2, .slice e'.1 e'.2.1 e'.2.2, .pointer P, .slice t.1 t.2.1 t.2.2] 56)) (.cells #[.func (.func K) #[] caps] 89)
 have BB := below_after q1 q2 (Nat.le_refl _)
 have X1 := Lib.hid (cbox_below (cbox_new w p q a b c d e a' b' c' d' e' P t) q2)
 have O2 : One ((w.alloc (.cells #[.int .i64 p, .int .i64 q, .slice a.1 a.2.1 a.2.2, .slice b.1 b.2.1 b.2.2, .slice c.1 c.2.1 c.2.2, .slice d.1 d.2.1 d.2.2, .slice e.1 e.2.1 e.2.2, .slice a'.1 a'.2.1 a'.2.2, .slice b'.1 b'.2.1 b'.2.2, .slice c'.1 c'.2.1 c'.2.2, .slice d'.1 d'.2.1 d'.2.2, .slice e'.1 e'.2.1 e'.2.2, .pointer P, .slice t.1 t.2.1 t.2.2] 56)).alloc (.cells #[.func (.func K) #[] caps] 89)) (w.heap.size + 1) 89 (.func (.func K) #[] caps) := by have h := one_new (w.alloc (.cells #[.int .i64 p, .int .i64 q, .slice a.1 a.2.1 a.2.2, .slice b.1 b.2.1 b.2.2, .slice c.1 c.2.1 c.2.2, .slice d.1 d.2.1 d.2.2, .slice e.1 e.2.1 e.2.2, .slice a'.1 a'.2.1 a'.2.2, .slice b'.1 b'.2.1 b'.2.2, .slice c'.1 c'.2.1 c'.2.2, .slice d'.1 d'.2.1 d'.2.2, .slice e'.1 e'.2.1 e'.2.2, .pointer P, .slice t.1 t.2.1 t.2.2] 56)) 89 (.func (.func K) #[] caps); simp only [World.size_alloc] at h; exact h
 have HC := Lib.hid (contains1_any (not_once hP (w.heap.size + 1)) _ _ (ht.below BB) ⟨O2, hP.kept _ _ hS BB⟩)
 have c13 := (cbox_cells X1.out).2.2.2.2.2.2.2.2.2.2.2.2.2
 clear q1 q2 ht hS BB O2 hP
 go_enter Tryz.func59, Tryz.ntmps59
 go_wp2_with fail
 (with_reducible refine HC.out.mono ?_)
 rintro e1 w1 ⟨rfl, hr⟩
 have HR := Lib.hid hr
 clear hr
 go_wp2_with fail
 go_ret
 exact ⟨ret_bool (by cases bb <;> rfl), HR.out⟩
theorem numbered_once (b0 X : Nat) (w0 : World) (n : Int) (hn : 0 ≤ n ∧ n ≤ 1000000000) (h3 : nt = 3) (hX : b0 ≤ X) (hb0 : b0 ≤ w0.heap.size) : Once 99 #[.pointer (some ⟨X, 0, none⟩)] ma mi ms mn nb nj nt nm (nm == n) (fun W => One W X 3 (.int .i64 n) ∧ Below b0 w0 W) (fun W => Below b0 w0 W) where
 enters := fun args W => enters_fn Tryz.func99 (by kernel_rfl) rfl args W
 kept _ _ h hb := ⟨one_below h.1 hb, h.2.trans (hb.mono (Nat.le_trans hb0 h.2.size))⟩
 call W hS := by
  subst h3
  have HB := below_one W (.cells #[.int .i64 ma, .int .i64 mi, .int .u8 ms, .int .i64 mn, .int .i64 nb, .int .i64 nj, .int .u8 3, .int .i64 nm] 53)
  have HM := Lib.hid (ubox_new W ma mi ms mn nb nj 3 nm)
  have HX := Lib.hid (one_below hS.1 HB)
  have HW := Lib.hid (hS.2.trans (HB.mono (Nat.le_trans hb0 hS.2.size)))
  have hlt := one_lt hS.1
  have hne : W.heap.size ≠ X := by omega
  obtain ⟨c1, c2, c3, c4, c5, c6, c7, c8⟩ := ubox_cells HM.out
  have f := one_cell HX.out
  have fz := one_free HX.out
  have hw1 : IntKind.i64.wrap (n + 1) = n + 1 := IntWalk.i64_in _ ⟨by omega, by omega⟩
  have hw2 : IntKind.i64.wrap (n + 1 - 1) = n := by rw [show n + 1 - 1 = n by omega]; exact IntWalk.i64_in _ ⟨by omega, by omega⟩
  have f2 := one_cell (one_set HX.out (.int .i64 (n + 1)))
  clear hS HB
  go_enter Tryz.func99, Tryz.ntmps99
  go_upto_region 1 with fail
  generalize W.alloc (.cells #[.int .i64 ma, .int .i64 mi, .int .u8 ms, .int .i64 mn, .int .i64 nb, .int .i64 nj, .int .u8 3, .int .i64 nm] 53) = w2 at *
  generalize W.heap.size = g at *
  go_wp2_with fail
  go_ret
  exact ⟨rfl, below_setCells HW.out hX 0 [.int .i64 (n + 1)]⟩
set_option maxHeartbeats 8000000 in
theorem ch_numbered {ma mi ms mn nb nj nt nm : Int} (p q : Int) (a b c d e a' b' c' d' e' : SL) (P : Option Addr) (t : SL) (B U : Vw) (Tl : Option Vw) (l : List Tn) (w : World) (h : ChI p q a b c d e a' b' c' d' e' P t B U Tl l w) (hl : l = [(((ma, mi), ms, mn), (nb, nj), nt, nm)]) (h3 : nt = 3) (hz : 0 ≤ Ros.nextZ B.m ∧ Ros.nextZ B.m ≤ 1000000000) :
  Calls Tryz.prog 61 #[.agg #[.int .i64 p, .int .i64 q, .slice a.1 a.2.1 a.2.2, .slice b.1 b.2.1 b.2.2, .slice c.1 c.2.1 c.2.2, .slice d.1 d.2.1 d.2.2, .slice e.1 e.2.1 e.2.2, .slice a'.1 a'.2.1 a'.2.2, .slice b'.1 b'.2.1 b'.2.2, .slice c'.1 c'.2.1 c'.2.2, .slice d'.1 d'.2.1 d'.2.2, .slice e'.1 e'.2.1 e'.2.2, .pointer P, .slice t.1 t.2.1 t.2.2]] w fun e w' => e = .returned (.bool (nm == Ros.nextZ B.m)) ∧ Below w.heap.size w w' := by
 have q1 := below_one w (.cells #[.int .i64 p, .int .i64 q, .slice a.1 a.2.1 a.2.2, .slice b.1 b.2.1 b.2.2, .slice c.1 c.2.1 c.2.2, .slice d.1 d.2.1 d.2.2, .slice e.1 e.2.1 e.2.2, .slice a'.1 a'.2.1 a'.2.2, .slice b'.1 b'.2.1 b'.2.2, .slice c'.1 c'.2.1 c'.2.2, .slice d'.1 d'.2.1 d'.2.2, .slice e'.1 e'.2.1 e'.2.2, .pointer P, .slice t.1 t.2.1 t.2.2] 56)
 have X0 := Lib.hid (cbox_new w p q a b c d e a' b' c' d' e' P t)
 have HI := Lib.hid (h.on q1)
 have BB := Lib.hid q1
 clear q1 h
 obtain ⟨c0, c1, c2, c3, c4, c5, c6, c7, c8, c9, c10, c11, c12, c13⟩ := cbox_cells X0.out
 have HN := Lib.hid (next_any _ B.m _ HI.out.rv.m (Nat.le_trans HI.out.fB.m (by decide)))
 subst hl
 generalize hn : Ros.nextZ B.m = n at *
 go_enter Tryz.func61, Tryz.ntmps61
 go_wp2_with fail
 (with_reducible refine HN.out.mono ?_)
 rintro e1 w1 ⟨rfl, hb⟩
 have X1 := Lib.hid (cbox_below (cbox_below X0.out hb) (below_one w1 (.cells #[.int .i64 n] 3)))
 have T1 := Lib.hid ((HI.out.ts.below hb).below (below_one w1 (.cells #[.int .i64 n] 3)))
 have O1 := Lib.hid (one_new w1 3 (.int .i64 n))
 have B1 := Lib.hid (below_after (below_after BB.out hb (Nat.le_refl _)) (below_one w1 (.cells #[.int .i64 n] 3)) (Nat.le_refl _))
 have hs : w.heap.size ≤ w1.heap.size := Nat.le_trans BB.out.size hb.size
 have HC := Lib.hid (all1_any (numbered_once (mi := mi) (ma := ma) (ms := ms) (mn := mn) (nb := nb) (nj := nj) (nm := nm) w.heap.size w1.heap.size w n hz h3 hs (Nat.le_refl _)) p q a b c d e a' b' c' d' e' P t _ T1.out ⟨O1.out, B1.out⟩)
 clear hb c0 c1 c2 c3 c4 c5 c6 c7 c8 c9 c10 c11 c12 c13
 obtain ⟨c0, c1, c2, c3, c4, c5, c6, c7, c8, c9, c10, c11, c12, c13⟩ := cbox_cells X1.out
 go_upto_region 2 with fail
 generalize w1.alloc (.cells #[.int .i64 n] 3) = w2 at *
 generalize w1.heap.size = g at *
 go_wp2_with fail
 (with_reducible refine HC.out.mono ?_)
 rintro e2 w3 ⟨rfl, hb⟩
 have B3 := Lib.hid hb
 clear hb
 go_wp2_with fail
 go_ret
 exact ⟨rfl, B3.out⟩
end Go.Proofs.YtgphiggbajbmhaaGreatDoor
namespace Go.Proofs.YtgphiggbajbmhaaGreatDoor
open Go Go.RowKit
theorem ChI.fitA {p q : Int} {a b c d e a' b' c' d' e' : SL} {P : Option Addr} {t : SL} {B U : Vw} {Tl : Option Vw} {l : List Tn} {w : World} (h : ChI p q a b c d e a' b' c' d' e' P t B U Tl l w) : FitA B :=
 ⟨h.lB, by rw [h.rB]; simp, Nat.le_trans h.fB.s (by decide), by rw [h.rB]; simp⟩
set_option maxHeartbeats 8000000 in
theorem ch_agreed (p q : Int) (a b c d e a' b' c' d' e' : SL) (P : Option Addr) (t : SL) (B U : Vw) (Tl : Option Vw) (l : List Tn) (w : World) (h : ChI p q a b c d e a' b' c' d' e' P t B U Tl l w) (hA : Agr.allB B.m B.r B.s = true) :
  Calls Tryz.prog 60 #[.agg #[.int .i64 p, .int .i64 q, .slice a.1 a.2.1 a.2.2, .slice b.1 b.2.1 b.2.2, .slice c.1 c.2.1 c.2.2, .slice d.1 d.2.1 d.2.2, .slice e.1 e.2.1 e.2.2, .slice a'.1 a'.2.1 a'.2.2, .slice b'.1 b'.2.1 b'.2.2, .slice c'.1 c'.2.1 c'.2.2, .slice d'.1 d'.2.1 d'.2.2, .slice e'.1 e'.2.1 e'.2.2, .pointer P, .slice t.1 t.2.1 t.2.2]] w fun e w' => e = .returned (.bool (true)) ∧ Below w.heap.size w w' := by
 have q1 := below_one w (.cells #[.int .i64 p, .int .i64 q, .slice a.1 a.2.1 a.2.2, .slice b.1 b.2.1 b.2.2, .slice c.1 c.2.1 c.2.2, .slice d.1 d.2.1 d.2.2, .slice e.1 e.2.1 e.2.2, .slice a'.1 a'.2.1 a'.2.2, .slice b'.1 b'.2.1 b'.2.2, .slice c'.1 c'.2.1 c'.2.2, .slice d'.1 d'.2.1 d'.2.2, .slice e'.1 e'.2.1 e'.2.2, .pointer P, .slice t.1 t.2.1 t.2.2] 56)
 have X0 := Lib.hid (cbox_new w p q a b c d e a' b' c' d' e' P t)
 have HI := Lib.hid (h.on q1)
 have BB := Lib.hid q1
 clear q1 h
 obtain ⟨c0, c1, c2, c3, c4, c5, c6, c7, c8, c9, c10, c11, c12, c13⟩ := cbox_cells X0.out
 have HC := Lib.hid (all_any _ B _ HI.out.rv.at_ HI.out.fitA)
 rw [hA] at HC
 go_enter Tryz.func60, Tryz.ntmps60
 go_wp2_with fail
 (with_reducible refine HC.out.mono ?_)
 rintro e1 w1 ⟨rfl, hb⟩
 have B1 := Lib.hid (below_after BB.out hb (Nat.le_refl _))
 clear hb
 go_wp2_with fail
 go_ret
 exact ⟨rfl, B1.out⟩
set_option maxHeartbeats 8000000 in
theorem ch_led0 (p q : Int) (a b c d e a' b' c' d' e' : SL) (P : Option Addr) (t : SL) (B U : Vw) (Tl : Option Vw) (l : List Tn) (w : World) (h : ChI p q a b c d e a' b' c' d' e' P t B U Tl l w) (hL : Agr.leadO B.m B.r ≠ some (p, q)) :
  Calls Tryz.prog 24 #[.agg #[.int .i64 p, .int .i64 q, .slice a.1 a.2.1 a.2.2, .slice b.1 b.2.1 b.2.2, .slice c.1 c.2.1 c.2.2, .slice d.1 d.2.1 d.2.2, .slice e.1 e.2.1 e.2.2, .slice a'.1 a'.2.1 a'.2.2, .slice b'.1 b'.2.1 b'.2.2, .slice c'.1 c'.2.1 c'.2.2, .slice d'.1 d'.2.1 d'.2.2, .slice e'.1 e'.2.1 e'.2.2, .pointer P, .slice t.1 t.2.1 t.2.2]] w fun e w' => e = .returned (.bool (false)) ∧ Below w.heap.size w w' := by
 have q1 := below_one w (.cells #[.int .i64 p, .int .i64 q, .slice a.1 a.2.1 a.2.2, .slice b.1 b.2.1 b.2.2, .slice c.1 c.2.1 c.2.2, .slice d.1 d.2.1 d.2.2, .slice e.1 e.2.1 e.2.2, .slice a'.1 a'.2.1 a'.2.2, .slice b'.1 b'.2.1 b'.2.2, .slice c'.1 c'.2.1 c'.2.2, .slice d'.1 d'.2.1 d'.2.2, .slice e'.1 e'.2.1 e'.2.2, .pointer P, .slice t.1 t.2.1 t.2.2] 56)
 have X0 := Lib.hid (cbox_new w p q a b c d e a' b' c' d' e' P t)
 have HI := Lib.hid (h.on q1)
 have BB := Lib.hid q1
 clear q1 h
 obtain ⟨c0, c1, c2, c3, c4, c5, c6, c7, c8, c9, c10, c11, c12, c13⟩ := cbox_cells X0.out
 have HC := Lib.hid (leader_any _ B _ HI.out.rv.at_ HI.out.fitA HI.out.rk)
 generalize Agr.leadO B.m B.r = o at *
 cases o with
 | none =>
  have hv : leadV none = .tuple #[.agg #[.int .i64 0, .int .i64 0], .bool false] := rfl
  rw [hv] at HC
  clear hL hv
  go_enter Tryz.func24, Tryz.ntmps24
  go_wp2_with fail
  (with_reducible refine HC.out.mono ?_)
  rintro e1 w1 ⟨rfl, hb⟩
  have q3 := below_one w1 (.cells #[.int .i64 0, .int .i64 0] 32)
  have X1 := Lib.hid (cbox_below (cbox_below X0.out hb) q3)
  have B1 := Lib.hid (below_after (below_after BB.out hb (Nat.le_refl _)) q3 (Nat.le_refl _))
  have I1 := Lib.hid ((HI.out.on hb).on q3)
  have J1 := Lib.hid (box_new w1 0 0)
  clear hb q3 c0 c1 c2 c3 c4 c5 c6 c7 c8 c9 c10 c11 c12 c13 HI X0 BB HC
  go_upto_region 2 with fail
  generalize w1.alloc (.cells #[.int .i64 0, .int .i64 0] 32) = w2 at *
  generalize w1.heap.size = g at *
  obtain ⟨c0, c1, c2, c3, c4, c5, c6, c7, c8, c9, c10, c11, c12, c13⟩ := cbox_cells X1.out
  obtain ⟨i1, i2⟩ := box_cells J1.out
  go_quiet (fail)
  go_wp2_with fail
  go_ret
  exact ⟨rfl, below_drewN B1.out⟩
 | some xy =>
  obtain ⟨x, y⟩ := xy
  have hv : leadV (some (x, y)) = .tuple #[.agg #[.int .i64 x, .int .i64 y], .bool true] := rfl
  rw [hv] at HC
  clear hv
  go_enter Tryz.func24, Tryz.ntmps24
  go_wp2_with fail
  (with_reducible refine HC.out.mono ?_)
  rintro e1 w1 ⟨rfl, hb⟩
  have q3 := below_one w1 (.cells #[.int .i64 x, .int .i64 y] 32)
  have X1 := Lib.hid (cbox_below (cbox_below X0.out hb) q3)
  have B1 := Lib.hid (below_after (below_after BB.out hb (Nat.le_refl _)) q3 (Nat.le_refl _))
  have I1 := Lib.hid ((HI.out.on hb).on q3)
  have J1 := Lib.hid (box_new w1 x y)
  clear hb q3 c0 c1 c2 c3 c4 c5 c6 c7 c8 c9 c10 c11 c12 c13 HI X0 BB HC
  go_upto_region 2 with fail
  generalize w1.alloc (.cells #[.int .i64 x, .int .i64 y] 32) = w2 at *
  generalize w1.heap.size = g at *
  obtain ⟨c0, c1, c2, c3, c4, c5, c6, c7, c8, c9, c10, c11, c12, c13⟩ := cbox_cells X1.out
  obtain ⟨i1, i2⟩ := box_cells J1.out
  by_cases h1 : x = p
  ·subst h1
   have h3 : (y == q) = false := by
    have : y ≠ q := fun h => hL (by rw [h])
    simpa using this
   clear hL
   go_quiet (fail)
   go_wp2_with fail
   go_ret
   exact ⟨rfl, below_drewN B1.out⟩
  ·have h3 : (x == p) = false := by simpa using h1
   clear hL h1
   go_quiet (fail)
   go_wp2_with fail
   go_ret
   exact ⟨rfl, below_drewN B1.out⟩
structure LdI (p q : Int) (a b c d e a' b' c' d' e' : SL) (P : Option Addr) (t : SL) (B U : Vw) (Tl : Option Vw) (l : List Tn) (w : World) (g : Nat) (W : World) : Prop where
 cb : CBox W w.heap.size p q a b c d e a' b' c' d' e' P t
 ch : ChI p q a b c d e a' b' c' d' e' P t B U Tl l W
 idb : Box W g p q
 below : Below w.heap.size w W
theorem LdI.on {p q : Int} {a b c d e a' b' c' d' e' : SL} {P : Option Addr} {t : SL} {B U : Vw} {Tl : Option Vw} {l : List Tn} {w W W' : World} {g : Nat} (h : LdI p q a b c d e a' b' c' d' e' P t B U Tl l w g W) (hb : Below W.heap.size W W') : LdI p q a b c d e a' b' c' d' e' P t B U Tl l w g W' :=
 ⟨cbox_below h.cb hb, h.ch.on hb, box_below h.idb hb, below_after h.below hb (Nat.le_refl _)⟩
set_option maxHeartbeats 8000000 in
theorem ch_led1 {ma mi ms mn nb nj nt nm : Int} (p q : Int) (a b c d e a' b' c' d' e' : SL) (P : Option Addr) (t : SL) (B U : Vw) (Tl : Option Vw) (l : List Tn) (w : World) (h : ChI p q a b c d e a' b' c' d' e' P t B U Tl l w) (hL : Agr.leadO B.m B.r = some (p, q)) (hl : l = [(((ma, mi), ms, mn), (nb, nj), nt, nm)]) (h3 : nt = 3) (hy : l.all (byB 2) = true) (hA : Agr.allB B.m B.r B.s = true) (hz : 0 ≤ Ros.nextZ B.m ∧ Ros.nextZ B.m ≤ 1000000000) :
  Calls Tryz.prog 24 #[.agg #[.int .i64 p, .int .i64 q, .slice a.1 a.2.1 a.2.2, .slice b.1 b.2.1 b.2.2, .slice c.1 c.2.1 c.2.2, .slice d.1 d.2.1 d.2.2, .slice e.1 e.2.1 e.2.2, .slice a'.1 a'.2.1 a'.2.2, .slice b'.1 b'.2.1 b'.2.2, .slice c'.1 c'.2.1 c'.2.2, .slice d'.1 d'.2.1 d'.2.2, .slice e'.1 e'.2.1 e'.2.2, .pointer P, .slice t.1 t.2.1 t.2.2]] w fun e w' => e = .returned (.bool ((nm == Ros.nextZ B.m) && putsB B U (p, q) l)) ∧ Below w.heap.size w w' := by
 have q1 := below_one w (.cells #[.int .i64 p, .int .i64 q, .slice a.1 a.2.1 a.2.2, .slice b.1 b.2.1 b.2.2, .slice c.1 c.2.1 c.2.2, .slice d.1 d.2.1 d.2.2, .slice e.1 e.2.1 e.2.2, .slice a'.1 a'.2.1 a'.2.2, .slice b'.1 b'.2.1 b'.2.2, .slice c'.1 c'.2.1 c'.2.2, .slice d'.1 d'.2.1 d'.2.2, .slice e'.1 e'.2.1 e'.2.2, .pointer P, .slice t.1 t.2.1 t.2.2] 56)
 have X0 := Lib.hid (cbox_new w p q a b c d e a' b' c' d' e' P t)
 have HI := Lib.hid (h.on q1)
 have BB := Lib.hid q1
 clear q1 h
 obtain ⟨c0, c1, c2, c3, c4, c5, c6, c7, c8, c9, c10, c11, c12, c13⟩ := cbox_cells X0.out
 have HC := Lib.hid (leader_any _ B _ HI.out.rv.at_ HI.out.fitA HI.out.rk)
 rw [hL, show leadV (some (p, q)) = .tuple #[.agg #[.int .i64 p, .int .i64 q], .bool true] from rfl] at HC
 have HAL := Lib.hid hy
 have HAg := Lib.hid hA
 have HZ := Lib.hid hz
 have HL := Lib.hid hl
 clear hL hy hA hz hl
 go_enter Tryz.func24, Tryz.ntmps24
 go_wp2_with fail
 (with_reducible refine HC.out.mono ?_)
 rintro e1 w1 ⟨rfl, hb⟩
 have q3 := below_one w1 (.cells #[.int .i64 p, .int .i64 q] 32)
 have D0 : Hid (LdI p q a b c d e a' b' c' d' e' P t B U Tl l w w1.heap.size (w1.alloc (.cells #[.int .i64 p, .int .i64 q] 32))) := Lib.hid ⟨cbox_below (cbox_below X0.out hb) q3, (HI.out.on hb).on q3, box_new w1 p q, below_after (below_after BB.out hb (Nat.le_refl _)) q3 (Nat.le_refl _)⟩
 clear hb q3 c0 c1 c2 c3 c4 c5 c6 c7 c8 c9 c10 c11 c12 c13 HI X0 BB HC
 go_upto_region 2 with fail
 generalize w1.alloc (.cells #[.int .i64 p, .int .i64 q] 32) = w2 at *
 generalize w1.heap.size = g at *
 have HQ := Lib.hid fun W (h : LdI p q a b c d e a' b' c' d' e' P t B U Tl l w g W) => And.intro (cbox_cells h.cb) (box_cells h.idb)
 go_region_held3 (fun w' => ((w'.cell? ⟨w.heap.size, 0, none⟩ = some (.int .i64 p) ∧ w'.cell? ⟨w.heap.size, 1, none⟩ = some (.int .i64 q) ∧ w'.cell? ⟨w.heap.size, 2, none⟩ = some (.slice a.1 a.2.1 a.2.2) ∧ w'.cell? ⟨w.heap.size, 3, none⟩ = some (.slice b.1 b.2.1 b.2.2) ∧ w'.cell? ⟨w.heap.size, 4, none⟩ = some (.slice c.1 c.2.1 c.2.2) ∧ w'.cell? ⟨w.heap.size, 5, none⟩ = some (.slice d.1 d.2.1 d.2.2) ∧ w'.cell? ⟨w.heap.size, 6, none⟩ = some (.slice e.1 e.2.1 e.2.2) ∧ w'.cell? ⟨w.heap.size, 7, none⟩ = some (.slice a'.1 a'.2.1 a'.2.2) ∧ w'.cell? ⟨w.heap.size, 8, none⟩ = some (.slice b'.1 b'.2.1 b'.2.2) ∧ w'.cell? ⟨w.heap.size, 9, none⟩ = some (.slice c'.1 c'.2.1 c'.2.2) ∧ w'.cell? ⟨w.heap.size, 10, none⟩ = some (.slice d'.1 d'.2.1 d'.2.2) ∧ w'.cell? ⟨w.heap.size, 11, none⟩ = some (.slice e'.1 e'.2.1 e'.2.2) ∧ w'.cell? ⟨w.heap.size, 12, none⟩ = some (.pointer P) ∧ w'.cell? ⟨w.heap.size, 13, none⟩ = some (.slice t.1 t.2.1 t.2.2)) ∧ (w'.cell? ⟨g, 0, none⟩ = some (.int .i64 p) ∧ w'.cell? ⟨g, 1, none⟩ = some (.int .i64 q))) ∧ Hid (LdI p q a b c d e a' b' c' d' e' P t B U Tl l w g w'))
  (first | exact ⟨HQ.out _ (D0.out.on (Below.refl _ _).drew), Lib.hid (D0.out.on (Below.refl _ _).drew)⟩ | exact ⟨HQ.out _ HJ.out, HJ⟩)
  (first | (go_at_call 57; (with_reducible refine (by_num 2 2 rfl _).mono ?_); rintro e2 w' ⟨⟨X, rfl, ho, -⟩, hb⟩; have HO := Lib.hid ho; have HJ : Hid (LdI p q a b c d e a' b' c' d' e' P t B U Tl l w g w') := Lib.hid (LdI.on (Hid.out (by go_split_ands; assumption)) hb); clear hb ho) | (go_at_call 59; (with_reducible refine (allC_any (byT_asks X 2) p q a b c d e a' b' c' d' e' P t l _ HJ.out.ch.ts ⟨HO.out, HJ.out.ch.tab⟩ (Nat.le_trans HJ.out.ch.few (by decide)) HJ.out.ch.dom).mono ?_); rw [HAL.out]; rintro e3 w' ⟨rfl, hb⟩; have HJ := Lib.hid (HJ.out.on hb); clear hb))
 obtain ⟨c0, c1, c2, c3, c4, c5, c6, c7, c8, c9, c10, c11, c12, c13⟩ := cbox_cells HJ.out.cb
 go_wp2_with fail
 (with_reducible refine (ch_agreed p q a b c d e a' b' c' d' e' P t B U Tl l _ HJ.out.ch HAg.out).mono ?_)
 rintro e4 w4 ⟨rfl, hb⟩
 have HJ := Lib.hid (HJ.out.on hb)
 clear hb c0 c1 c2 c3 c4 c5 c6 c7 c8 c9 c10 c11 c12 c13
 obtain ⟨c0, c1, c2, c3, c4, c5, c6, c7, c8, c9, c10, c11, c12, c13⟩ := cbox_cells HJ.out.cb
 go_wp2_with fail
 (with_reducible refine (ch_numbered p q a b c d e a' b' c' d' e' P t B U Tl l _ HJ.out.ch HL.out h3 HZ.out).mono ?_)
 rintro e5 w5 ⟨rfl, hb⟩
 have HJ := Lib.hid (HJ.out.on hb)
 clear hb c0 c1 c2 c3 c4 c5 c6 c7 c8 c9 c10 c11 c12 c13
 obtain ⟨c0, c1, c2, c3, c4, c5, c6, c7, c8, c9, c10, c11, c12, c13⟩ := cbox_cells HJ.out.cb
 have HP := Lib.hid (puts_any p q a b c d e a' b' c' d' e' P t _ l B U _ HJ.out.ch.rv HJ.out.ch.ru HJ.out.ch.ts (Nat.le_trans HJ.out.ch.few (by decide)) HJ.out.ch.fB (HJ.out.ch.fU.mono (by decide)))
 cases hb5 : (nm == Ros.nextZ B.m)
 ·have HB5 := Lib.hid hb5
  clear hb5
  go_wp2_with fail
  go_ret
  exact ⟨ret_bool (by rw [HB5.out]; rfl), HJ.out.below⟩
 ·have HB5 := Lib.hid hb5
  clear hb5
  go_wp2_with fail
  (with_reducible refine HP.out.mono ?_)
  rintro e6 w6 ⟨rfl, hb⟩
  have HJ := Lib.hid (HJ.out.on hb)
  clear hb
  go_wp2_with fail
  go_ret
  exact ⟨ret_bool (by rw [HB5.out]; rfl), HJ.out.below⟩
end Go.Proofs.YtgphiggbajbmhaaGreatDoor
namespace Go.Proofs.YtgphiggbajbmhaaGreatDoor
open Go Go.RowKit
set_option maxHeartbeats 8000000 in
theorem ch_began (p q : Int) (a b c d e a' b' c' d' e' : SL) (P : Option Addr) (t : SL) (B U : Vw) (Tl : Option Vw) (l : List Tn) (w : World) (h : ChI p q a b c d e a' b' c' d' e' P t B U Tl l w) :
  Calls Tryz.prog 22 #[.agg #[.int .i64 p, .int .i64 q, .slice a.1 a.2.1 a.2.2, .slice b.1 b.2.1 b.2.2, .slice c.1 c.2.1 c.2.2, .slice d.1 d.2.1 d.2.2, .slice e.1 e.2.1 e.2.2, .slice a'.1 a'.2.1 a'.2.2, .slice b'.1 b'.2.1 b'.2.2, .slice c'.1 c'.2.1 c'.2.2, .slice d'.1 d'.2.1 d'.2.2, .slice e'.1 e'.2.1 e'.2.2, .pointer P, .slice t.1 t.2.1 t.2.2]] w fun e w' => e = .returned (.bool ((B.m.length == 0) && ((B.f.length == 0) && putsB B U (p, q) [(noneM, ((p, q), 3, 1))]))) ∧ Below w.heap.size w w' := by
 have q1 := below_one w (.cells #[.int .i64 p, .int .i64 q, .slice a.1 a.2.1 a.2.2, .slice b.1 b.2.1 b.2.2, .slice c.1 c.2.1 c.2.2, .slice d.1 d.2.1 d.2.2, .slice e.1 e.2.1 e.2.2, .slice a'.1 a'.2.1 a'.2.2, .slice b'.1 b'.2.1 b'.2.2, .slice c'.1 c'.2.1 c'.2.2, .slice d'.1 d'.2.1 d'.2.2, .slice e'.1 e'.2.1 e'.2.2, .pointer P, .slice t.1 t.2.1 t.2.2] 56)
 have X0 := Lib.hid (cbox_new w p q a b c d e a' b' c' d' e' P t)
 have HI := Lib.hid (h.on q1)
 have BB := Lib.hid q1
 clear q1 h
 obtain ⟨c0, c1, c2, c3, c4, c5, c6, c7, c8, c9, c10, c11, c12, c13⟩ := cbox_cells X0.out
 have hm : a.2.1 = B.m.length := rcs_len HI.out.rv.m
 have hf : b.2.1 = B.f.length := ids_len HI.out.rv.f
 clear c0 c1 c2 c3 c4 c5 c6 c7 c8 c9 c10 c11 c12 c13
 obtain ⟨aA, an, aC⟩ := a
 obtain ⟨bA, bn, bC⟩ := b
 dsimp only at hm hf BB HI X0
 by_cases hm0 : an = 0
 ·subst hm0
  have HM : Hid ((B.m.length == 0) = true) := Lib.hid (by rw [← hm]; rfl)
  clear hm
  by_cases hf0 : bn = 0
  ·subst hf0
   have HF : Hid ((B.f.length == 0) = true) := Lib.hid (by rw [← hf]; rfl)
   clear hf
   have q2 := below_one (w.alloc (.cells #[.int .i64 p, .int .i64 q, .slice aA 0 aC, .slice bA 0 bC, .slice c.1 c.2.1 c.2.2, .slice d.1 d.2.1 d.2.2, .slice e.1 e.2.1 e.2.2, .slice a'.1 a'.2.1 a'.2.2, .slice b'.1 b'.2.1 b'.2.2, .slice c'.1 c'.2.1 c'.2.2, .slice d'.1 d'.2.1 d'.2.2, .slice e'.1 e'.2.1 e'.2.2, .pointer P, .slice t.1 t.2.1 t.2.2] 56)) (.cells #[.int .i64 0, .int .i64 0, .int .u8 0, .int .i64 0, .int .i64 p, .int .i64 q, .int .u8 3, .int .i64 1] 53)
   have Q2 := Lib.hid (below_after BB.out q2 (Nat.le_refl _))
   have X2 := Lib.hid (cbox_below X0.out q2)
   have T2 : Hid (UBox ((w.alloc (.cells #[.int .i64 p, .int .i64 q, .slice aA 0 aC, .slice bA 0 bC, .slice c.1 c.2.1 c.2.2, .slice d.1 d.2.1 d.2.2, .slice e.1 e.2.1 e.2.2, .slice a'.1 a'.2.1 a'.2.2, .slice b'.1 b'.2.1 b'.2.2, .slice c'.1 c'.2.1 c'.2.2, .slice d'.1 d'.2.1 d'.2.2, .slice e'.1 e'.2.1 e'.2.2, .pointer P, .slice t.1 t.2.1 t.2.2] 56)).alloc (.cells #[.int .i64 0, .int .i64 0, .int .u8 0, .int .i64 0, .int .i64 p, .int .i64 q, .int .u8 3, .int .i64 1] 53)) (w.heap.size + 1) 0 0 0 0 p q 3 1) := Lib.hid (by have h := ubox_new (w.alloc (.cells #[.int .i64 p, .int .i64 q, .slice aA 0 aC, .slice bA 0 bC, .slice c.1 c.2.1 c.2.2, .slice d.1 d.2.1 d.2.2, .slice e.1 e.2.1 e.2.2, .slice a'.1 a'.2.1 a'.2.2, .slice b'.1 b'.2.1 b'.2.2, .slice c'.1 c'.2.1 c'.2.2, .slice d'.1 d'.2.1 d'.2.2, .slice e'.1 e'.2.1 e'.2.2, .pointer P, .slice t.1 t.2.1 t.2.2] 56)) 0 0 0 0 p q 3 1; simp only [World.size_alloc] at h; exact h)
   have I2 := Lib.hid (HI.out.on q2)
   clear q2 HI BB X0
   go_enter Tryz.func22, Tryz.ntmps22
   go_upto_region 2 with fail
   generalize hw : World.alloc _ (Obj.cells _ 53) = w2
   have X2 : Hid (CBox w2 w.heap.size p q (aA, 0, aC) (bA, 0, bC) c d e a' b' c' d' e' P t) := Lib.hid (by rw [← hw]; exact X2.out)
   have T2 : Hid (UBox w2 (w.heap.size + 1) 0 0 0 0 p q 3 1) := Lib.hid (by rw [← hw]; exact T2.out)
   have I2 : Hid (ChI p q (aA, 0, aC) (bA, 0, bC) c d e a' b' c' d' e' P t B U Tl l w2) := Lib.hid (by rw [← hw]; exact I2.out)
   have Q2 : Hid (Below w.heap.size w w2) := Lib.hid (by rw [← hw]; exact Q2.out)
   clear hw
   obtain ⟨c0, c1, c2, c3, c4, c5, c6, c7, c8, c9, c10, c11, c12, c13⟩ := cbox_cells X2.out
   obtain ⟨u0, u1, u2, u3, u4, u5, u6, u7⟩ := ubox_cells T2.out
   dsimp only at c0 c1 c2 c3 c4 c5 c6 c7 c8 c9 c10 c11 c12 c13
   have q3 := below_one w2 (.cells #[.int .i64 0, .int .i64 0, .int .u8 0, .int .i64 0, .int .i64 p, .int .i64 q, .int .u8 3, .int .i64 1] 53)
   have I3 := I2.out.on q3
   have Q3 := Lib.hid (below_after Q2.out q3 (Nat.le_refl _))
   have L3 : Us (w2.alloc (.cells #[.int .i64 0, .int .i64 0, .int .u8 0, .int .i64 0, .int .i64 p, .int .i64 q, .int .u8 3, .int .i64 1] 53)) (.slice (some ⟨w2.heap.size, 0, none⟩) 1 1) [(noneM, ((p, q), 3, 1))] := us_lit w2 [(noneM, ((p, q), 3, 1))]
   have HP := Lib.hid (puts_any p q (aA, 0, aC) (bA, 0, bC) c d e a' b' c' d' e' P t _ [(noneM, ((p, q), 3, 1))] B U _ I3.rv I3.ru L3 (by simp) I3.fB (I3.fU.mono (by decide)))
   clear q3 I3 L3 X2 T2 I2 Q2
   go_wp2_with fail
   (with_reducible refine HP.out.mono ?_)
   rintro e1 w4 ⟨rfl, hb⟩
   have B4 := Lib.hid (below_after Q3.out hb (Nat.le_refl _))
   clear hb
   go_wp2_with fail
   go_ret
   exact ⟨ret_bool (by rw [HM.out, HF.out]; rfl), B4.out⟩
  ·have HF : Hid ((B.f.length == 0) = false) := Lib.hid (by rw [← hf]; simpa using hf0)
   have hd2 : ((bn : Int) == 0) = false := by simpa using hf0
   have hd3 : (bn == 0) = false := by simpa using hf0
   clear hf
   have q2 := below_one (w.alloc (.cells #[.int .i64 p, .int .i64 q, .slice aA 0 aC, .slice bA bn bC, .slice c.1 c.2.1 c.2.2, .slice d.1 d.2.1 d.2.2, .slice e.1 e.2.1 e.2.2, .slice a'.1 a'.2.1 a'.2.2, .slice b'.1 b'.2.1 b'.2.2, .slice c'.1 c'.2.1 c'.2.2, .slice d'.1 d'.2.1 d'.2.2, .slice e'.1 e'.2.1 e'.2.2, .pointer P, .slice t.1 t.2.1 t.2.2] 56)) (.cells #[.int .i64 0, .int .i64 0, .int .u8 0, .int .i64 0, .int .i64 p, .int .i64 q, .int .u8 3, .int .i64 1] 53)
   have Q2 := Lib.hid (below_after BB.out q2 (Nat.le_refl _))
   have X2 := Lib.hid (cbox_below X0.out q2)
   have T2 : Hid (UBox ((w.alloc (.cells #[.int .i64 p, .int .i64 q, .slice aA 0 aC, .slice bA bn bC, .slice c.1 c.2.1 c.2.2, .slice d.1 d.2.1 d.2.2, .slice e.1 e.2.1 e.2.2, .slice a'.1 a'.2.1 a'.2.2, .slice b'.1 b'.2.1 b'.2.2, .slice c'.1 c'.2.1 c'.2.2, .slice d'.1 d'.2.1 d'.2.2, .slice e'.1 e'.2.1 e'.2.2, .pointer P, .slice t.1 t.2.1 t.2.2] 56)).alloc (.cells #[.int .i64 0, .int .i64 0, .int .u8 0, .int .i64 0, .int .i64 p, .int .i64 q, .int .u8 3, .int .i64 1] 53)) (w.heap.size + 1) 0 0 0 0 p q 3 1) := Lib.hid (by have h := ubox_new (w.alloc (.cells #[.int .i64 p, .int .i64 q, .slice aA 0 aC, .slice bA bn bC, .slice c.1 c.2.1 c.2.2, .slice d.1 d.2.1 d.2.2, .slice e.1 e.2.1 e.2.2, .slice a'.1 a'.2.1 a'.2.2, .slice b'.1 b'.2.1 b'.2.2, .slice c'.1 c'.2.1 c'.2.2, .slice d'.1 d'.2.1 d'.2.2, .slice e'.1 e'.2.1 e'.2.2, .pointer P, .slice t.1 t.2.1 t.2.2] 56)) 0 0 0 0 p q 3 1; simp only [World.size_alloc] at h; exact h)
   have I2 := Lib.hid (HI.out.on q2)
   clear q2 HI BB X0
   go_enter Tryz.func22, Tryz.ntmps22
   go_upto_region 2 with fail
   generalize hw : World.alloc _ (Obj.cells _ 53) = w2
   have X2 : Hid (CBox w2 w.heap.size p q (aA, 0, aC) (bA, bn, bC) c d e a' b' c' d' e' P t) := Lib.hid (by rw [← hw]; exact X2.out)
   have T2 : Hid (UBox w2 (w.heap.size + 1) 0 0 0 0 p q 3 1) := Lib.hid (by rw [← hw]; exact T2.out)
   have I2 : Hid (ChI p q (aA, 0, aC) (bA, bn, bC) c d e a' b' c' d' e' P t B U Tl l w2) := Lib.hid (by rw [← hw]; exact I2.out)
   have Q2 : Hid (Below w.heap.size w w2) := Lib.hid (by rw [← hw]; exact Q2.out)
   clear hw
   obtain ⟨c0, c1, c2, c3, c4, c5, c6, c7, c8, c9, c10, c11, c12, c13⟩ := cbox_cells X2.out
   obtain ⟨u0, u1, u2, u3, u4, u5, u6, u7⟩ := ubox_cells T2.out
   dsimp only at c0 c1 c2 c3 c4 c5 c6 c7 c8 c9 c10 c11 c12 c13
   go_wp2_with fail
   go_ret
   exact ⟨ret_bool (by rw [HM.out, HF.out]; rfl), Q2.out⟩
 ·have HM : Hid ((B.m.length == 0) = false) := Lib.hid (by rw [← hm]; simpa using hm0)
  have hd2 : ((an : Int) == 0) = false := by simpa using hm0
  have hd3 : (an == 0) = false := by simpa using hm0
  clear hm hf
  have q2 := below_one (w.alloc (.cells #[.int .i64 p, .int .i64 q, .slice aA an aC, .slice bA bn bC, .slice c.1 c.2.1 c.2.2, .slice d.1 d.2.1 d.2.2, .slice e.1 e.2.1 e.2.2, .slice a'.1 a'.2.1 a'.2.2, .slice b'.1 b'.2.1 b'.2.2, .slice c'.1 c'.2.1 c'.2.2, .slice d'.1 d'.2.1 d'.2.2, .slice e'.1 e'.2.1 e'.2.2, .pointer P, .slice t.1 t.2.1 t.2.2] 56)) (.cells #[.int .i64 0, .int .i64 0, .int .u8 0, .int .i64 0, .int .i64 p, .int .i64 q, .int .u8 3, .int .i64 1] 53)
  have Q2 := Lib.hid (below_after BB.out q2 (Nat.le_refl _))
  have X2 := Lib.hid (cbox_below X0.out q2)
  have T2 : Hid (UBox ((w.alloc (.cells #[.int .i64 p, .int .i64 q, .slice aA an aC, .slice bA bn bC, .slice c.1 c.2.1 c.2.2, .slice d.1 d.2.1 d.2.2, .slice e.1 e.2.1 e.2.2, .slice a'.1 a'.2.1 a'.2.2, .slice b'.1 b'.2.1 b'.2.2, .slice c'.1 c'.2.1 c'.2.2, .slice d'.1 d'.2.1 d'.2.2, .slice e'.1 e'.2.1 e'.2.2, .pointer P, .slice t.1 t.2.1 t.2.2] 56)).alloc (.cells #[.int .i64 0, .int .i64 0, .int .u8 0, .int .i64 0, .int .i64 p, .int .i64 q, .int .u8 3, .int .i64 1] 53)) (w.heap.size + 1) 0 0 0 0 p q 3 1) := Lib.hid (by have h := ubox_new (w.alloc (.cells #[.int .i64 p, .int .i64 q, .slice aA an aC, .slice bA bn bC, .slice c.1 c.2.1 c.2.2, .slice d.1 d.2.1 d.2.2, .slice e.1 e.2.1 e.2.2, .slice a'.1 a'.2.1 a'.2.2, .slice b'.1 b'.2.1 b'.2.2, .slice c'.1 c'.2.1 c'.2.2, .slice d'.1 d'.2.1 d'.2.2, .slice e'.1 e'.2.1 e'.2.2, .pointer P, .slice t.1 t.2.1 t.2.2] 56)) 0 0 0 0 p q 3 1; simp only [World.size_alloc] at h; exact h)
  have I2 := Lib.hid (HI.out.on q2)
  clear q2 HI BB X0
  go_enter Tryz.func22, Tryz.ntmps22
  go_upto_region 2 with fail
  generalize hw : World.alloc _ (Obj.cells _ 53) = w2
  have X2 : Hid (CBox w2 w.heap.size p q (aA, an, aC) (bA, bn, bC) c d e a' b' c' d' e' P t) := Lib.hid (by rw [← hw]; exact X2.out)
  have T2 : Hid (UBox w2 (w.heap.size + 1) 0 0 0 0 p q 3 1) := Lib.hid (by rw [← hw]; exact T2.out)
  have I2 : Hid (ChI p q (aA, an, aC) (bA, bn, bC) c d e a' b' c' d' e' P t B U Tl l w2) := Lib.hid (by rw [← hw]; exact I2.out)
  have Q2 : Hid (Below w.heap.size w w2) := Lib.hid (by rw [← hw]; exact Q2.out)
  clear hw
  obtain ⟨c0, c1, c2, c3, c4, c5, c6, c7, c8, c9, c10, c11, c12, c13⟩ := cbox_cells X2.out
  obtain ⟨u0, u1, u2, u3, u4, u5, u6, u7⟩ := ubox_cells T2.out
  dsimp only at c0 c1 c2 c3 c4 c5 c6 c7 c8 c9 c10 c11 c12 c13
  go_wp2_with fail
  go_ret
  exact ⟨ret_bool (by rw [HM.out]; rfl), Q2.out⟩
end Go.Proofs.YtgphiggbajbmhaaGreatDoor
