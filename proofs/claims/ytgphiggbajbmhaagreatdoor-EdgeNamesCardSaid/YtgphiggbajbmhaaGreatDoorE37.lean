/-
  Carried over and put together: contracts of this program's functions, and plain facts. No statement is proved in this text.
-/
import Derived.Deep.MidRow
import Derived.Test.YtgphiggbajbmhaaGreatDoorE33
import Derived.Test.YtgphiggbajbmhaaGreatDoorE36
set_option maxRecDepth 20000
namespace Go.Proofs.YtgphiggbajbmhaaGreatDoor
open Go Go.RowKit
theorem cloneU_any (v : Value) (l : List Tn) (w : World) (h : Us w v l) (hl : l.length ≤ 100000) :
  Calls Tryz.prog 52 #[v] w fun e w' => ∃ v', e = .returned v' ∧ Us w' v' l ∧ Below w.heap.size w w' := by
 have q24 : ∀ (w : World) (a : Option Addr) (n c n' c' : Nat), (binOp .eql 36 (.slice a n c) (.slice none n' c')).run Tryz.prog w = .ok (.bool a.isNone) w := fun w a n c n' c' => Lib.run_eql_slice_nil w _ _ a n c n' c' Tryz.underlying36
 have HI := Lib.hid h
 obtain ⟨A, c, rfl, h0, hr⟩ := h
 cases A with
 | none =>
  have hn : l = [] := by
   cases l with
   | nil => rfl
   | cons x l => obtain ⟨ad, e, _⟩ := Us.at_ HI.out (Below.refl _ _) (k := 0) (by simp); cases e
  subst hn
  clear h0 hr
  go_enter Tryz.func52, Tryz.ntmps52
  go_wp2
  go_ret
  exact ⟨_, rfl, Rcs.nil _, Below.refl _ _⟩
 | some ad =>
  clear h0 hr
  go_enter Tryz.func52, Tryz.ntmps52
  go_wp2_with (at_builtin; refine wpList_append_recs 36 53 Tryz.underlying36 info53 rfl encU_len (by omega) encU_one (by omega) rfl (.tmp 5) (.tmp 6) rfl _ w.heap.size _ _ [] l rfl rfl (World.ownsRow_made w #[] 0 (Nat.le_refl _) (Nat.zero_le _) (by simp)) (HI.out.below ((Below.refl _ _).alloc (Nat.le_refl _) _)) (by simpa using hl) (by simp) ?_; intro v' w' h1 h2)
  go_wp2
  go_ret
  exact ⟨_, rfl, rcs_owns encU_len h1, ((Below.refl _ _).alloc (Nat.le_refl _) _).trans h2⟩
theorem let_asks (p q : Int) (a b c d e a' b' c' d' e' : SL) (P : Option Addr) (t : SL) (B U : Vw) (Tl : Option Vw) (l0 : List Tn) (X : Nat) : AsksTn 53 #[.pointer (some ⟨X, 0, none⟩)] (fun _ => false) (fun W => CBox W X p q a b c d e a' b' c' d' e' P t ∧ ChI p q a b c d e a' b' c' d' e' P t B U Tl l0 W) (fun x => x.2.2.1 ≠ 7) where
 enters := fun args W => enters_fn Tryz.func53 (by kernel_rfl) rfl args W
 kept _ _ h hb := ⟨cbox_below h.1 hb, h.2.on hb⟩
 call ma mi ms mn nb nj nt nm W hD hS := by
  have HB := Lib.hid (below_one W (.cells #[.int .i64 ma, .int .i64 mi, .int .u8 ms, .int .i64 mn, .int .i64 nb, .int .i64 nj, .int .u8 nt, .int .i64 nm] 53))
  have HM := Lib.hid (ubox_new W ma mi ms mn nb nj nt nm)
  have HX := Lib.hid (cbox_below hS.1 HB.out)
  have HC := Lib.hid (hS.2.on HB.out)
  have HA := Lib.hid (at_any _ U.m nb _ HC.out.ru.m (Nat.le_trans HC.out.fU.m (by decide)))
  have hd : (nt == 7) = false := by simpa using hD
  clear hD hS
  obtain ⟨u0, u1, u2, u3, u4, u5, u6, u7⟩ := ubox_cells HM.out
  obtain ⟨c0, c1, c2, c3, c4, c5, c6, c7, c8, c9, c10, c11, c12, c13⟩ := cbox_cells HX.out
  generalize Ros.foreO (Ros.isAt nb) Ros.newerB U.m = o at *
  unfold gotV mval at HA
  generalize o.getD noneM = y at *
  obtain ⟨⟨y1, y2⟩, y3, y4⟩ := y
  generalize o.isSome = yb at *
  go_enter Tryz.func53, Tryz.ntmps53
  go_wp2_with fail
  (with_reducible refine HA.out.mono ?_)
  rintro e w1 ⟨rfl, hb⟩
  have q3 := below_one w1 (.cells #[.int .i64 y1, .int .i64 y2, .int .u8 y3, .int .i64 y4] 34)
  have M1 := Lib.hid (ubox_below (ubox_below HM.out hb) q3)
  have B1 := Lib.hid (below_after (below_after HB.out hb (Nat.le_refl _)) q3 (Nat.le_refl _))
  clear hb q3 u0 u1 u2 u3 u4 u5 u6 u7 c0 c1 c2 c3 c4 c5 c6 c7 c8 c9 c10 c11 c12 c13
  go_upto_region 2 with fail
  generalize w1.alloc (.cells #[.int .i64 y1, .int .i64 y2, .int .u8 y3, .int .i64 y4] 34) = w2 at *
  obtain ⟨u0, u1, u2, u3, u4, u5, u6, u7⟩ := ubox_cells M1.out
  go_wp2_with fail
  go_ret
  exact ⟨rfl, B1.out⟩
theorem deleteU_any {K : Nat} {caps : Array Value} {S : World → Prop} {D : Tn → Prop} (hP : AsksTn K caps (fun _ => false) S D) (v : Value) (l : List Tn) (w : World) (h : Us w v l) (hS : S w) (hl : l.length ≤ 100000) (hD : ∀ x ∈ l, D x) :
  Calls Tryz.prog 51 #[v, .func (.func K) #[] caps] w fun e w' => e = .returned v ∧ Below w.heap.size w w' := by
 have HC := Lib.hid (indexU_any hP v l w h hS hl hD)
 clear h hS hD
 go_enter Tryz.func51, Tryz.ntmps51
 go_wp2_with fail
 (with_reducible refine HC.out.mono ?_)
 rintro e w1 ⟨⟨r, rfl, hr⟩, hb⟩
 have hr1 : r = -1 := by
  rcases hr with ⟨e, _⟩ | ⟨k, hk, _, h, _⟩
  ·exact e
  ·cases h
 subst hr1
 have B1 := Lib.hid hb
 clear hb hr
 go_wp2_with fail
 go_ret
 exact ⟨rfl, B1.out⟩
def hostV (B : Vw) (z : Sets.Id2) : Ros.Mm := (getO B.m z).getD noneM
set_option maxHeartbeats 8000000 in
theorem ch_let0 (p q : Int) (a b c d e a' b' c' d' e' : SL) (P : Option Addr) (t : SL) (B U : Vw) (Tl : Option Vw) (l : List Tn) (w : World) (h : ChI p q a b c d e a' b' c' d' e' P t B U Tl l w) (h2 : (hostV B (p, q)).2.1 ≠ 2) (h3 : (hostV B (p, q)).2.1 ≠ 3) :
  Calls Tryz.prog 21 #[.agg #[.int .i64 p, .int .i64 q, .slice a.1 a.2.1 a.2.2, .slice b.1 b.2.1 b.2.2, .slice c.1 c.2.1 c.2.2, .slice d.1 d.2.1 d.2.2, .slice e.1 e.2.1 e.2.2, .slice a'.1 a'.2.1 a'.2.2, .slice b'.1 b'.2.1 b'.2.2, .slice c'.1 c'.2.1 c'.2.2, .slice d'.1 d'.2.1 d'.2.2, .slice e'.1 e'.2.1 e'.2.2, .pointer P, .slice t.1 t.2.1 t.2.2]] w fun e w' => e = .returned (.bool (false)) ∧ Below w.heap.size w w' := by
 have q1 := below_one w (.cells #[.int .i64 p, .int .i64 q, .slice a.1 a.2.1 a.2.2, .slice b.1 b.2.1 b.2.2, .slice c.1 c.2.1 c.2.2, .slice d.1 d.2.1 d.2.2, .slice e.1 e.2.1 e.2.2, .slice a'.1 a'.2.1 a'.2.2, .slice b'.1 b'.2.1 b'.2.2, .slice c'.1 c'.2.1 c'.2.2, .slice d'.1 d'.2.1 d'.2.2, .slice e'.1 e'.2.1 e'.2.2, .pointer P, .slice t.1 t.2.1 t.2.2] 56)
 have X0 := Lib.hid (cbox_new w p q a b c d e a' b' c' d' e' P t)
 have HI := Lib.hid (h.on q1)
 have BB := Lib.hid q1
 clear q1 h
 obtain ⟨c0, c1, c2, c3, c4, c5, c6, c7, c8, c9, c10, c11, c12, c13⟩ := cbox_cells X0.out
 have HG := Lib.hid (get_anyROS _ B.m p q _ HI.out.rv.m (Nat.le_trans HI.out.fB.m (by decide)))
 unfold hostV at h2 h3
 unfold gotV mval at HG
 generalize (getO B.m (p, q)).getD noneM = y at *
 obtain ⟨⟨y1, y2⟩, y3, y4⟩ := y
 generalize (getO B.m (p, q)).isSome = yb at *
 have d2 : (y3 == 2) = false := by simpa using h2
 have d3 : (y3 == 3) = false := by simpa using h3
 have e2 : (y3 != 2) = true := by simpa using h2
 have e3 : (y3 != 3) = true := by simpa using h3
 clear h2 h3
 go_enter Tryz.func21, Tryz.ntmps21
 go_wp2_with fail
 (with_reducible refine HG.out.mono ?_)
 rintro e1 w1 ⟨rfl, hb⟩
 have B1 := Lib.hid (below_after (below_after BB.out hb (Nat.le_refl _)) (below_one w1 (.cells #[.int .i64 y1, .int .i64 y2, .int .u8 y3, .int .i64 y4] 34)) (Nat.le_refl _))
 clear hb c0 c1 c2 c3 c4 c5 c6 c7 c8 c9 c10 c11 c12 c13
 go_wp2_with fail
 go_ret
 exact ⟨rfl, B1.out⟩
set_option maxHeartbeats 8000000 in
theorem ch_let2 {ma mi ms mn nb nj nt nm : Int} (p q : Int) (a b c d e a' b' c' d' e' : SL) (P : Option Addr) (t : SL) (B U : Vw) (Tl : Option Vw) (l : List Tn) (w : World) (h : ChI p q a b c d e a' b' c' d' e' P t B U Tl l w) (h2 : (hostV B (p, q)).2.1 = 3) (hl : l = [(((ma, mi), ms, mn), (nb, nj), nt, nm)]) (hn : nt ≠ 7) (hm : ma ≠ 0) :
  Calls Tryz.prog 21 #[.agg #[.int .i64 p, .int .i64 q, .slice a.1 a.2.1 a.2.2, .slice b.1 b.2.1 b.2.2, .slice c.1 c.2.1 c.2.2, .slice d.1 d.2.1 d.2.2, .slice e.1 e.2.1 e.2.2, .slice a'.1 a'.2.1 a'.2.2, .slice b'.1 b'.2.1 b'.2.2, .slice c'.1 c'.2.1 c'.2.2, .slice d'.1 d'.2.1 d'.2.2, .slice e'.1 e'.2.1 e'.2.2, .pointer P, .slice t.1 t.2.1 t.2.2]] w fun e w' => e = .returned (.bool (false)) ∧ Below w.heap.size w w' := by
 have q1 := below_one w (.cells #[.int .i64 p, .int .i64 q, .slice a.1 a.2.1 a.2.2, .slice b.1 b.2.1 b.2.2, .slice c.1 c.2.1 c.2.2, .slice d.1 d.2.1 d.2.2, .slice e.1 e.2.1 e.2.2, .slice a'.1 a'.2.1 a'.2.2, .slice b'.1 b'.2.1 b'.2.2, .slice c'.1 c'.2.1 c'.2.2, .slice d'.1 d'.2.1 d'.2.2, .slice e'.1 e'.2.1 e'.2.2, .pointer P, .slice t.1 t.2.1 t.2.2] 56)
 have X0 := Lib.hid (cbox_new w p q a b c d e a' b' c' d' e' P t)
 have HI := Lib.hid (h.on q1)
 have BB := Lib.hid q1
 clear q1 h
 obtain ⟨c0, c1, c2, c3, c4, c5, c6, c7, c8, c9, c10, c11, c12, c13⟩ := cbox_cells X0.out
 have HG := Lib.hid (get_anyROS _ B.m p q _ HI.out.rv.m (Nat.le_trans HI.out.fB.m (by decide)))
 unfold hostV at h2
 unfold gotV mval at HG
 generalize (getO B.m (p, q)).getD noneM = y at *
 obtain ⟨⟨y1, y2⟩, y3, y4⟩ := y
 generalize (getO B.m (p, q)).isSome = yb at *
 have h2 : y3 = 3 := h2
 subst h2
 have HL := Lib.hid hl
 have HN7 := Lib.hid hn
 clear hl hn
 have hd : (ma == 0) = false := by simpa using hm
 clear hm
 go_enter Tryz.func21, Tryz.ntmps21
 go_wp2_with fail
 (with_reducible refine HG.out.mono ?_)
 rintro e1 w1 ⟨rfl, hb⟩
 have q3 := below_one w1 (.cells #[.int .i64 y1, .int .i64 y2, .int .u8 3, .int .i64 y4] 34)
 have F1 : Hid (FeI p q a b c d e a' b' c' d' e' P t B U Tl l w (w1.alloc (.cells #[.int .i64 y1, .int .i64 y2, .int .u8 3, .int .i64 y4] 34))) := Lib.hid ⟨cbox_below (cbox_below X0.out hb) q3, (HI.out.on hb).on q3, below_after (below_after BB.out hb (Nat.le_refl _)) q3 (Nat.le_refl _)⟩
 clear hb q3 c0 c1 c2 c3 c4 c5 c6 c7 c8 c9 c10 c11 c12 c13 X0 HI BB HG
 obtain ⟨c0, c1, c2, c3, c4, c5, c6, c7, c8, c9, c10, c11, c12, c13⟩ := cbox_cells F1.out.cb
 go_upto_region 4 with fail
 generalize w1.alloc (.cells #[.int .i64 y1, .int .i64 y2, .int .u8 3, .int .i64 y4] 34) = w2 at *
 go_wp2_with fail
 (with_reducible refine (cloneU_any _ l w2 F1.out.ch.ts (Nat.le_trans F1.out.ch.few (by decide))).mono ?_)
 rintro e2 w3 ⟨v3, rfl, hv, hb⟩
 have F3 := Lib.hid (F1.out.on hb)
 have V3 := Lib.hid hv
 clear hb hv F1 c0 c1 c2 c3 c4 c5 c6 c7 c8 c9 c10 c11 c12 c13
 go_wp2_with fail
 (with_reducible refine (deleteU_any (let_asks p q a b c d e a' b' c' d' e' P t B U Tl l w.heap.size) v3 l w3 V3.out ⟨F3.out.cb, F3.out.ch⟩ (Nat.le_trans F3.out.ch.few (by decide)) (by rw [HL.out]; intro x hx; rw [List.mem_singleton.1 hx]; exact HN7.out)).mono ?_)
 rintro e3 w4 ⟨rfl, hb⟩
 have F4 := Lib.hid (F3.out.on hb)
 have V4 := Lib.hid (V3.out.below hb)
 clear hb F3 V3
 have hv4 := V4.out
 rw [HL.out] at hv4
 obtain ⟨A, cp, rfl, hz⟩ := id hv4
 clear hz
 obtain ⟨ad, e1, z1, z2, z3, z4, z5, z6, z7, z8⟩ := Us.at_ hv4 (Below.refl _ _) (k := 0) (by simp)
 simp only [Nat.zero_mul, add_none, List.getElem_cons_zero] at z1 z2 z3 z4 z5 z6 z7 z8
 subst e1
 clear hv4
 have q5 := below_one w4 (.cells #[.int .i64 ma, .int .i64 mi, .int .u8 ms, .int .i64 mn, .int .i64 nb, .int .i64 nj, .int .u8 nt, .int .i64 nm] 53)
 have F5 := Lib.hid (F4.out.on q5)
 have T5 := Lib.hid (ubox_new w4 ma mi ms mn nb nj nt nm)
 clear q5 F4
 go_upto_region 8 with fail
 clear z1 z2 z3 z4 z5 z6 z7 z8
 generalize (w4.alloc (.cells #[.int .i64 ma, .int .i64 mi, .int .u8 ms, .int .i64 mn, .int .i64 nb, .int .i64 nj, .int .u8 nt, .int .i64 nm] 53)) = w5 at *
 generalize w4.heap.size = g5 at *
 obtain ⟨c0, c1, c2, c3, c4, c5, c6, c7, c8, c9, c10, c11, c12, c13⟩ := cbox_cells F5.out.cb
 obtain ⟨u0, u1, u2, u3, u4, u5, u6, u7⟩ := ubox_cells T5.out
 go_wp2_with fail
 go_ret
 exact ⟨rfl, F5.out.below⟩
set_option maxHeartbeats 8000000 in
theorem ch_let1 {nb nj : Int} (p q : Int) (a b c d e a' b' c' d' e' : SL) (P : Option Addr) (t : SL) (B U : Vw) (Tl : Option Vw) (l : List Tn) (w : World) (h : ChI p q a b c d e a' b' c' d' e' P t B U Tl l w) (h2 : (hostV B (p, q)).2.1 = 3) (hl : l = [(((0, 0), 0, 0), (nb, nj), 1, 0)]) (hn : (1 : Int) ≠ 7) :
  Calls Tryz.prog 21 #[.agg #[.int .i64 p, .int .i64 q, .slice a.1 a.2.1 a.2.2, .slice b.1 b.2.1 b.2.2, .slice c.1 c.2.1 c.2.2, .slice d.1 d.2.1 d.2.2, .slice e.1 e.2.1 e.2.2, .slice a'.1 a'.2.1 a'.2.2, .slice b'.1 b'.2.1 b'.2.2, .slice c'.1 c'.2.1 c'.2.2, .slice d'.1 d'.2.1 d'.2.2, .slice e'.1 e'.2.1 e'.2.2, .pointer P, .slice t.1 t.2.1 t.2.2]] w fun e w' => e = .returned (.bool (putsB B U (p, q) l)) ∧ Below w.heap.size w w' := by
 have q1 := below_one w (.cells #[.int .i64 p, .int .i64 q, .slice a.1 a.2.1 a.2.2, .slice b.1 b.2.1 b.2.2, .slice c.1 c.2.1 c.2.2, .slice d.1 d.2.1 d.2.2, .slice e.1 e.2.1 e.2.2, .slice a'.1 a'.2.1 a'.2.2, .slice b'.1 b'.2.1 b'.2.2, .slice c'.1 c'.2.1 c'.2.2, .slice d'.1 d'.2.1 d'.2.2, .slice e'.1 e'.2.1 e'.2.2, .pointer P, .slice t.1 t.2.1 t.2.2] 56)
 have X0 := Lib.hid (cbox_new w p q a b c d e a' b' c' d' e' P t)
 have HI := Lib.hid (h.on q1)
 have BB := Lib.hid q1
 clear q1 h
 obtain ⟨c0, c1, c2, c3, c4, c5, c6, c7, c8, c9, c10, c11, c12, c13⟩ := cbox_cells X0.out
 have HG := Lib.hid (get_anyROS _ B.m p q _ HI.out.rv.m (Nat.le_trans HI.out.fB.m (by decide)))
 unfold hostV at h2
 unfold gotV mval at HG
 generalize (getO B.m (p, q)).getD noneM = y at *
 obtain ⟨⟨y1, y2⟩, y3, y4⟩ := y
 generalize (getO B.m (p, q)).isSome = yb at *
 have h2 : y3 = 3 := h2
 subst h2
 have HL := Lib.hid hl
 have HN7 := Lib.hid hn
 clear hl hn
 go_enter Tryz.func21, Tryz.ntmps21
 go_wp2_with fail
 (with_reducible refine HG.out.mono ?_)
 rintro e1 w1 ⟨rfl, hb⟩
 have q3 := below_one w1 (.cells #[.int .i64 y1, .int .i64 y2, .int .u8 3, .int .i64 y4] 34)
 have F1 : Hid (FeI p q a b c d e a' b' c' d' e' P t B U Tl l w (w1.alloc (.cells #[.int .i64 y1, .int .i64 y2, .int .u8 3, .int .i64 y4] 34))) := Lib.hid ⟨cbox_below (cbox_below X0.out hb) q3, (HI.out.on hb).on q3, below_after (below_after BB.out hb (Nat.le_refl _)) q3 (Nat.le_refl _)⟩
 clear hb q3 c0 c1 c2 c3 c4 c5 c6 c7 c8 c9 c10 c11 c12 c13 X0 HI BB HG
 obtain ⟨c0, c1, c2, c3, c4, c5, c6, c7, c8, c9, c10, c11, c12, c13⟩ := cbox_cells F1.out.cb
 go_upto_region 4 with fail
 generalize w1.alloc (.cells #[.int .i64 y1, .int .i64 y2, .int .u8 3, .int .i64 y4] 34) = w2 at *
 go_wp2_with fail
 (with_reducible refine (cloneU_any _ l w2 F1.out.ch.ts (Nat.le_trans F1.out.ch.few (by decide))).mono ?_)
 rintro e2 w3 ⟨v3, rfl, hv, hb⟩
 have F3 := Lib.hid (F1.out.on hb)
 have V3 := Lib.hid hv
 clear hb hv F1 c0 c1 c2 c3 c4 c5 c6 c7 c8 c9 c10 c11 c12 c13
 go_wp2_with fail
 (with_reducible refine (deleteU_any (let_asks p q a b c d e a' b' c' d' e' P t B U Tl l w.heap.size) v3 l w3 V3.out ⟨F3.out.cb, F3.out.ch⟩ (Nat.le_trans F3.out.ch.few (by decide)) (by rw [HL.out]; intro x hx; rw [List.mem_singleton.1 hx]; exact HN7.out)).mono ?_)
 rintro e3 w4 ⟨rfl, hb⟩
 have F4 := Lib.hid (F3.out.on hb)
 have V4 := Lib.hid (V3.out.below hb)
 clear hb F3 V3
 have hv4 := V4.out
 rw [HL.out] at hv4
 obtain ⟨A, cp, rfl, hz⟩ := id hv4
 clear hz
 obtain ⟨ad, e1, z1, z2, z3, z4, z5, z6, z7, z8⟩ := Us.at_ hv4 (Below.refl _ _) (k := 0) (by simp)
 simp only [Nat.zero_mul, add_none, List.getElem_cons_zero] at z1 z2 z3 z4 z5 z6 z7 z8
 subst e1
 clear hv4
 have q5 := below_one w4 (.cells #[.int .i64 0, .int .i64 0, .int .u8 0, .int .i64 0, .int .i64 nb, .int .i64 nj, .int .u8 1, .int .i64 0] 53)
 have F5 := Lib.hid (F4.out.on q5)
 have T5 := Lib.hid (ubox_new w4 0 0 0 0 nb nj 1 0)
 clear q5 F4
 go_upto_region 8 with fail
 clear z1 z2 z3 z4 z5 z6 z7 z8
 generalize (w4.alloc (.cells #[.int .i64 0, .int .i64 0, .int .u8 0, .int .i64 0, .int .i64 nb, .int .i64 nj, .int .u8 1, .int .i64 0] 53)) = w5 at *
 generalize w4.heap.size = g5 at *
 obtain ⟨c0, c1, c2, c3, c4, c5, c6, c7, c8, c9, c10, c11, c12, c13⟩ := cbox_cells F5.out.cb
 obtain ⟨u0, u1, u2, u3, u4, u5, u6, u7⟩ := ubox_cells T5.out
 have q6 := below_one w5 (.cells #[.int .i64 0, .int .i64 0, .int .u8 0, .int .i64 0, .int .i64 nb, .int .i64 nj, .int .u8 1, .int .i64 0] 53)
 have F6 := F5.out.on q6
 have B6 := Lib.hid F6.below
 have L6 : Us (w5.alloc (.cells #[.int .i64 0, .int .i64 0, .int .u8 0, .int .i64 0, .int .i64 nb, .int .i64 nj, .int .u8 1, .int .i64 0] 53)) (.slice (some ⟨w5.heap.size, 0, none⟩) 1 1) [(((0, 0), 0, 0), (nb, nj), 1, 0)] := us_lit w5 [(((0, 0), 0, 0), (nb, nj), 1, 0)]
 have HP := Lib.hid (puts_any p q a b c d e a' b' c' d' e' P t _ [(((0, 0), 0, 0), (nb, nj), 1, 0)] B U _ F6.ch.rv F6.ch.ru L6 (by simp) F6.ch.fB (F6.ch.fU.mono (by decide)))
 clear q6 F6 L6
 go_wp2_with fail
 (with_reducible refine HP.out.mono ?_)
 rintro e4 w6 ⟨rfl, hb⟩
 have B7 := Lib.hid (below_after B6.out hb (Nat.le_refl _))
 clear hb
 go_wp2_with fail
 go_ret
 exact ⟨ret_bool (by rw [HL.out]), B7.out⟩
end Go.Proofs.YtgphiggbajbmhaaGreatDoor
namespace Go.Proofs.YtgphiggbajbmhaaGreatDoor
open Go Go.RowKit
theorem cbox_set {w : World} {g : Nat} {p q : Int} {a b c d e a' b' c' d' e' : SL} {P : Option Addr} {t : SL} (h : CBox w g 0 0 (none, 0, 0) (none, 0, 0) (none, 0, 0) (none, 0, 0) (none, 0, 0) (none, 0, 0) (none, 0, 0) (none, 0, 0) (none, 0, 0) (none, 0, 0) none (none, 0, 0)) : CBox ((((((((((((((w.setCell ⟨g, 0, none⟩ (.int .i64 p)).setCell ⟨g, 1, none⟩ (.int .i64 q)).setCell ⟨g, 2, none⟩ (.slice a.1 a.2.1 a.2.2)).setCell ⟨g, 3, none⟩ (.slice b.1 b.2.1 b.2.2)).setCell ⟨g, 4, none⟩ (.slice c.1 c.2.1 c.2.2)).setCell ⟨g, 5, none⟩ (.slice d.1 d.2.1 d.2.2)).setCell ⟨g, 6, none⟩ (.slice e.1 e.2.1 e.2.2)).setCell ⟨g, 7, none⟩ (.slice a'.1 a'.2.1 a'.2.2)).setCell ⟨g, 8, none⟩ (.slice b'.1 b'.2.1 b'.2.2)).setCell ⟨g, 9, none⟩ (.slice c'.1 c'.2.1 c'.2.2)).setCell ⟨g, 10, none⟩ (.slice d'.1 d'.2.1 d'.2.2)).setCell ⟨g, 11, none⟩ (.slice e'.1 e'.2.1 e'.2.2)).setCell ⟨g, 12, none⟩ (.pointer P)).setCell ⟨g, 13, none⟩ (.slice t.1 t.2.1 t.2.2)) g p q a b c d e a' b' c' d' e' P t := by
 unfold CBox at *
 simp [World.setCell, Array.getElem?_modify, h]
theorem cbox_there {w : World} {g : Nat} (h : CBox w g 0 0 (none, 0, 0) (none, 0, 0) (none, 0, 0) (none, 0, 0) (none, 0, 0) (none, 0, 0) (none, 0, 0) (none, 0, 0) (none, 0, 0) (none, 0, 0) none (none, 0, 0)) : w.there g 0 14 := by
 unfold CBox at h
 intro j hj
 rw [Nat.zero_add]
 refine ⟨?_, by simp [World.frozen?, h]⟩
 rw [cell_of_row _ _ _ _ _ _ h, Array.getElem?_eq_getElem (by simpa using hj)]
 rfl
theorem step_calloc {ops : Array Oper} {o : Oper} {A : Act} {K : Act → World → Prop} {Q : Exit → Act → World → Prop} {E : Prop} (hgd : o.guard = none) (ho : o.op = .alloc 56) (W : World)
  (h : ∀ g W', CBox W' g 0 0 (none, 0, 0) (none, 0, 0) (none, 0, 0) (none, 0, 0) (none, 0, 0) (none, 0, 0) (none, 0, 0) (none, 0, 0) (none, 0, 0) (none, 0, 0) none (none, 0, 0) → Below W.heap.size W W' → W.heap.size ≤ g → K (A.put o.dst (.pointer (some ⟨g, 0, none⟩))) W') :
  if Region.wanted o (yielded ops A.tmps) = true then Oper.wp Tryz.prog o A W K Q else E := by
 have hw : Region.wanted o (yielded ops A.tmps) = true := by simp [Region.wanted, hgd]
 rw [if_pos hw]
 have hr : (Instr.alloc 56 true (.tuple #[])).run Tryz.prog W = .ok (.pointer (some ⟨W.heap.size, 0, none⟩)) (W.alloc (.cells #[.int .i64 0, .int .i64 0, .slice none 0 0, .slice none 0 0, .slice none 0 0, .slice none 0 0, .slice none 0 0, .slice none 0 0, .slice none 0 0, .slice none 0 0, .slice none 0 0, .slice none 0 0, .pointer none, .slice none 0 0] 56)) := by kernel_rfl
 unfold Oper.wp execOp
 simp only [ho, Sem.run_bind, Sem.run_pure, Result.andThen_ok, hr]
 exact h _ _ (cbox_new W 0 0 (none, 0, 0) (none, 0, 0) (none, 0, 0) (none, 0, 0) (none, 0, 0) (none, 0, 0) (none, 0, 0) (none, 0, 0) (none, 0, 0) (none, 0, 0) none (none, 0, 0)) (below_one W _) (Nat.le_refl _)
theorem step_cstore {ops : Array Oper} {o : Oper} {A : Act} {K : Act → World → Prop} {Q : Exit → Act → World → Prop} {E : Prop} (hgd : o.guard = none) (x y : Operand) (ho : o.op = .store 56 x y) (W : World) (g : Nat) (p q : Int) (a b c d e a' b' c' d' e' : SL) (P : Option Addr) (t : SL)
  (hx : A.eval x = .pointer (some ⟨g, 0, none⟩)) (hy : A.eval y = .agg #[.int .i64 p, .int .i64 q, .slice a.1 a.2.1 a.2.2, .slice b.1 b.2.1 b.2.2, .slice c.1 c.2.1 c.2.2, .slice d.1 d.2.1 d.2.2, .slice e.1 e.2.1 e.2.2, .slice a'.1 a'.2.1 a'.2.2, .slice b'.1 b'.2.1 b'.2.2, .slice c'.1 c'.2.1 c'.2.2, .slice d'.1 d'.2.1 d'.2.2, .slice e'.1 e'.2.1 e'.2.2, .pointer P, .slice t.1 t.2.1 t.2.2]) (hb : CBox W g 0 0 (none, 0, 0) (none, 0, 0) (none, 0, 0) (none, 0, 0) (none, 0, 0) (none, 0, 0) (none, 0, 0) (none, 0, 0) (none, 0, 0) (none, 0, 0) none (none, 0, 0))
  (h : ∀ W', CBox W' g p q a b c d e a' b' c' d' e' P t → W.grownBy W' (some g) → K (A.put o.dst undef) W') :
  if Region.wanted o (yielded ops A.tmps) = true then Oper.wp Tryz.prog o A W K Q else E := by
 have hw : Region.wanted o (yielded ops A.tmps) = true := by simp [Region.wanted, hgd]
 rw [if_pos hw]
 have hr := run_storeAt_mid (P := Tryz.prog) W g 0 56 #[.int .i64 p, .int .i64 q, .slice a.1 a.2.1 a.2.2, .slice b.1 b.2.1 b.2.2, .slice c.1 c.2.1 c.2.2, .slice d.1 d.2.1 d.2.2, .slice e.1 e.2.1 e.2.2, .slice a'.1 a'.2.1 a'.2.2, .slice b'.1 b'.2.1 b'.2.2, .slice c'.1 c'.2.1 c'.2.2, .slice d'.1 d'.2.1 d'.2.2, .slice e'.1 e'.2.1 e'.2.2, .pointer P, .slice t.1 t.2.1 t.2.2] (cbox_there hb) (by kernel_rfl) (by simp [Value.oneCell'])
 unfold Oper.wp execOp
 simp only [ho, hx, hy, Sem.run_bind, Sem.run_pure, Result.andThen_ok, hr]
 exact h _ (cbox_set hb) (grown_setCells (World.grownBy.refl _ _) 0 [.int .i64 p, .int .i64 q, .slice a.1 a.2.1 a.2.2, .slice b.1 b.2.1 b.2.2, .slice c.1 c.2.1 c.2.2, .slice d.1 d.2.1 d.2.2, .slice e.1 e.2.1 e.2.2, .slice a'.1 a'.2.1 a'.2.2, .slice b'.1 b'.2.1 b'.2.2, .slice c'.1 c'.2.1 c'.2.2, .slice d'.1 d'.2.1 d'.2.2, .slice e'.1 e'.2.1 e'.2.2, .pointer P, .slice t.1 t.2.1 t.2.2])
end Go.Proofs.YtgphiggbajbmhaaGreatDoor
