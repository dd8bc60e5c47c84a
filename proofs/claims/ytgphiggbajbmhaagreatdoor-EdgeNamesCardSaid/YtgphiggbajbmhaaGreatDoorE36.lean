/-
  Carried over and put together: contracts of this program's functions, and plain facts. No statement is proved in this text.
-/
import Derived.Test.YtgphiggbajbmhaaGreatDoorE02
import Derived.Test.YtgphiggbajbmhaaGreatDoorE08
import Derived.Test.YtgphiggbajbmhaaGreatDoorE21
import Derived.Test.YtgphiggbajbmhaaGreatDoorE27
import Derived.Test.YtgphiggbajbmhaaGreatDoorE34
import Derived.Test.YtgphiggbajbmhaaGreatDoorE35
set_option maxRecDepth 20000
namespace Go.Proofs.YtgphiggbajbmhaaGreatDoor
open Go Go.RowKit
section
open Go.RowKit
theorem wpList_push_rec {P : Program} {α : Type} {enc : α → List Value} {sz : Nat} {ops : Array Oper} {rest : List Oper} {o : Oper} {a : Act} {Q : Exit → Act → World → Prop} (t e : TypeId) {z : Value} {bytes : Nat} (ht : P.underlying t = some (.slice e))
  (hinfo : (P.info? e).map (fun i => (i.zero, i.size, i.bytes)) = some (some z, sz, bytes)) (hz : z.cells.size = sz) (hs : ∀ a, (enc a).length = sz) (h0 : 0 < sz) (h1 : ∀ a, ∀ u ∈ enc a, u.oneCell' = true) (hby : bytes ≤ 1000)
  (hgd : o.guard = none) (s x : Operand) (ho : o.op = .call { callee := .builtin .append, args := #[s, x], argTypes := #[t, t] })
  (wr : World) (base : Nat) (v : Value) (d : List α) (r : α) (cs : Array Value) (hcs : cs.toList = enc r) (hsv : a.eval s = v) (hx : a.eval x = .slice (some ⟨wr.heap.size, 0, none⟩) 1 1)
  (hown : OwnsR enc sz e wr base v d) (hl : d.length ≤ 99999) (hb : base ≤ wr.heap.size)
  (h : ∀ g cap w', OwnsR enc sz e w' base (.slice (some ⟨g, 0, none⟩) (d.length + 1) cap) (d ++ [r]) → wr.grownBy w' v.ownBlock → wpList P ops Q rest (a.put o.dst (.slice (some ⟨g, 0, none⟩) (d.length + 1) cap)) w') :
  wpList P ops Q (o :: rest) a (wr.alloc (.cells cs e)) := by
 obtain ⟨i0, hi, hz0, hz1, hz2⟩ := info_parts hinfo
 refine wpList_plain hgd fun K' hK' => ?_
 have hown2 : OwnsR enc sz e (wr.alloc (.cells cs e)) base v d := OwnsR.below hown (below_one wr _)
 obtain ⟨g, cap, w', hrun, r1, r2, r3, r4⟩ := run_append_lies (P := P) (wr.alloc (.cells cs e)) t o.type base e i0 z sz bytes ht hi hz0 hz1 hz2 hz h0 v d.length (flatR enc d) hown2
  ⟨wr.heap.size, 0, none⟩ 1 1 (enc r) (by rw [hs]; omega) (by rw [← hcs]; exact World.news_of_block (heap_alloc_new wr (.cells cs e))) (h1 r) (by omega) (by unfold maxLen; omega) (by
   have h5 : (d.length + 1) * bytes ≤ 100000 * 1000 := Nat.mul_le_mul (by omega) hby
   omega) (by simp; omega) _ rfl
 unfold Oper.wp
 simp [execOp, ho, resolve, invoke, builtin, hsv, hx, hrun, Result.andThen]
 refine hK' _ _ (h g cap w' ?_ ?_)
 ·unfold OwnsR
  rw [flatR_append, List.length_append]
  have : flatR enc [r] = enc r := by simp [flatR]
  rw [this]
  exact r1
 ·refine ⟨r2.os, r2.tape, r2.output, Nat.le_trans (by simp) r2.size, fun k hk hne => ?_⟩
  rw [r2.block k (by simp; omega) hne, Below.heap_alloc _ _ _ hk]
end
theorem info53 : (Tryz.prog.info? 53).map (fun i => (i.zero, i.size, i.bytes)) = some (some (.agg #[.int .i64 0, .int .i64 0, .int .u8 0, .int .i64 0, .int .i64 0, .int .i64 0, .int .u8 0, .int .i64 0]), 8, 64) := by kernel_rfl
def turnV (id : Sets.Id2) (was gone is : Bool) (f t : Ros.Mm) : List Tn := if was && gone then [(f, (id, 7, f.2.2))] else if is && decide (f ≠ t) then [(f, t)] else []
def turnOf (B U : Vw) (id : Sets.Id2) : List Tn := turnV id (fst1 B.m id).isSome (Ros.goneB U.f id) (fst1 U.m id).isSome ((fst1 B.m id).getD noneM) ((fst1 U.m id).getD noneM)
def turnsP (B U : Vw) : List Tn := (Sets.setOf (B.m.map (·.1) ++ U.m.map (·.1))).flatMap (turnOf B U)
theorem fst1_key {m : List Ros.Mm} {q : Sets.Id2} : (fst1 m q).isSome = true ↔ q ∈ m.map (·.1) := by
 unfold fst1
 rw [List.find?_isSome]
 simp only [decide_eq_true_eq, List.mem_map]
theorem keys_of {m u : List Ros.Mm} (hm : ∀ x ∈ m, In2 x.1) (hu : ∀ x ∈ u, In2 x.1) {xs ys : List Sets.Id2} (h : KeysI (fst1 m) xs) (k : KeysI (fst1 u) ys) : Sets.join xs ys = Sets.setOf (m.map (·.1) ++ u.map (·.1)) := by
 have one : ∀ {l : List Ros.Mm} {zs : List Sets.Id2}, (∀ x ∈ l, In2 x.1) → KeysI (fst1 l) zs → ∀ q, q ∈ zs ↔ q ∈ l.map (·.1) := by
  intro l zs hl hz q
  constructor
  ·exact fun hq => fst1_key.1 ((hz.2.2 q (hz.2.1 q hq)).1 hq)
  ·intro hq
   obtain ⟨x, hx, rfl⟩ := List.mem_map.1 hq
   exact (hz.2.2 _ (hl x hx)).2 (fst1_key.2 hq)
 exact Sets.setOf_ext fun q => by rw [List.mem_append, List.mem_append, one hm h q, one hu k q]
theorem turns_len (B U : Vw) : ∀ l : List Sets.Id2, (l.flatMap (turnOf B U)).length ≤ l.length
 | [] => Nat.le_refl _
 | x :: l => by
  have h := turns_len B U l
  have h1 : (turnOf B U x).length ≤ 1 := by
   unfold turnOf turnV
   split
   ·exact Nat.le_refl _
   ·split <;> simp
  simp only [List.flatMap_cons, List.length_append, List.length_cons]
  omega
structure TuI (w : World) (s b1 n1 b2 n2 : Nat) (a b c d e a' b' c' d' e' : SL) (B U : Vw) (W : World) : Prop where
 v1 : VBox W s a b c d e
 v2 : VBox W (s + 1) a' b' c' d' e'
 fl : Ids W (.slice b'.1 b'.2.1 b'.2.2) U.f
 m1 : MapI ElM W b1 n1 (fst1 B.m)
 m2 : MapI ElM W b2 n2 (fst1 U.m)
 below : Below s w W
theorem TuI.on {w W W' : World} {s b1 n1 b2 n2 : Nat} {a b c d e a' b' c' d' e' : SL} {B U : Vw} (h : TuI w s b1 n1 b2 n2 a b c d e a' b' c' d' e' B U W) (hb : Below W.heap.size W W') : TuI w s b1 n1 b2 n2 a b c d e a' b' c' d' e' B U W' :=
 ⟨vbox_below h.v1 hb, vbox_below h.v2 hb, h.fl.below hb, h.m1.same (hb.block _ h.m1.lt), h.m2.same (hb.block _ h.m2.lt), h.below.trans (hb.mono (Nat.le_of_lt (vbox_lt h.v1)))⟩
structure TuO (w : World) (s : Nat) (a b c d e a' b' c' d' e' : SL) (B U : Vw) (W : World) : Prop where
 v1 : VBox W s a b c d e
 v2 : VBox W (s + 1) a' b' c' d' e'
 rv : RV W a b c d e B
 ru : RV W a' b' c' d' e' U
 below : Below s w W
theorem TuO.on {w W W' : World} {s : Nat} {a b c d e a' b' c' d' e' : SL} {B U : Vw} (h : TuO w s a b c d e a' b' c' d' e' B U W) (hb : Below W.heap.size W W') : TuO w s a b c d e a' b' c' d' e' B U W' :=
 ⟨vbox_below h.v1 hb, vbox_below h.v2 hb, h.rv.below hb, h.ru.below hb, h.below.trans (hb.mono (Nat.le_of_lt (vbox_lt h.v1)))⟩
set_option maxHeartbeats 16000000 in
theorem turns_any (a b c d e a' b' c' d' e' : SL) (B U : Vw) (w : World) (hr : RV w a b c d e B) (hu : RV w a' b' c' d' e' U) (iB : ∀ x ∈ B.m, In2 x.1) (iU : ∀ x ∈ U.m, In2 x.1) (lB : B.m.length ≤ 1000) (lU : U.m.length ≤ 1000) (lF : U.f.length ≤ 1000) :
  Calls Tryz.prog 6 #[.agg #[.slice a.1 a.2.1 a.2.2, .slice b.1 b.2.1 b.2.2, .slice c.1 c.2.1 c.2.2, .slice d.1 d.2.1 d.2.2, .slice e.1 e.2.1 e.2.2], .agg #[.slice a'.1 a'.2.1 a'.2.2, .slice b'.1 b'.2.1 b'.2.2, .slice c'.1 c'.2.1 c'.2.2, .slice d'.1 d'.2.1 d'.2.2, .slice e'.1 e'.2.1 e'.2.2]] w fun e w' => ∃ v, e = .returned v ∧ OwnsR encU 8 53 w' w.heap.size v (turnsP B U) ∧ Below w.heap.size w w' := by
 have q1 := below_one w (.cells #[.slice a.1 a.2.1 a.2.2, .slice b.1 b.2.1 b.2.2, .slice c.1 c.2.1 c.2.2, .slice d.1 d.2.1 d.2.2, .slice e.1 e.2.1 e.2.2] 27)
 have q2 := below_one (w.alloc (.cells #[.slice a.1 a.2.1 a.2.2, .slice b.1 b.2.1 b.2.2, .slice c.1 c.2.1 c.2.2, .slice d.1 d.2.1 d.2.2, .slice e.1 e.2.1 e.2.2] 27)) (.cells #[.slice a'.1 a'.2.1 a'.2.2, .slice b'.1 b'.2.1 b'.2.2, .slice c'.1 c'.2.1 c'.2.2, .slice d'.1 d'.2.1 d'.2.2, .slice e'.1 e'.2.1 e'.2.2] 27)
 have BB := below_after q1 q2 (Nat.le_refl _)
 have x2 : VBox ((w.alloc (.cells #[.slice a.1 a.2.1 a.2.2, .slice b.1 b.2.1 b.2.2, .slice c.1 c.2.1 c.2.2, .slice d.1 d.2.1 d.2.2, .slice e.1 e.2.1 e.2.2] 27)).alloc (.cells #[.slice a'.1 a'.2.1 a'.2.2, .slice b'.1 b'.2.1 b'.2.2, .slice c'.1 c'.2.1 c'.2.2, .slice d'.1 d'.2.1 d'.2.2, .slice e'.1 e'.2.1 e'.2.2] 27)) (w.heap.size + 1) a' b' c' d' e' := by have h := vbox_new (w.alloc (.cells #[.slice a.1 a.2.1 a.2.2, .slice b.1 b.2.1 b.2.2, .slice c.1 c.2.1 c.2.2, .slice d.1 d.2.1 d.2.2, .slice e.1 e.2.1 e.2.2] 27)) a' b' c' d' e'; simp only [World.size_alloc] at h; exact h
 have O0 : Hid (TuO w w.heap.size a b c d e a' b' c' d' e' B U ((w.alloc (.cells #[.slice a.1 a.2.1 a.2.2, .slice b.1 b.2.1 b.2.2, .slice c.1 c.2.1 c.2.2, .slice d.1 d.2.1 d.2.2, .slice e.1 e.2.1 e.2.2] 27)).alloc (.cells #[.slice a'.1 a'.2.1 a'.2.2, .slice b'.1 b'.2.1 b'.2.2, .slice c'.1 c'.2.1 c'.2.2, .slice d'.1 d'.2.1 d'.2.2, .slice e'.1 e'.2.1 e'.2.2] 27))) := Lib.hid ⟨vbox_below (vbox_new w a b c d e) q2, x2, hr.below BB, hu.below BB, BB⟩
 have IB := Lib.hid iB
 have IU := Lib.hid iU
 have HQ := Lib.hid fun W (h : TuO w w.heap.size a b c d e a' b' c' d' e' B U W) => And.intro (vbox_cells h.v1).1 (vbox_cells h.v2).1
 obtain ⟨c0, d0⟩ := HQ.out _ O0.out
 clear q1 q2 BB x2 hr hu iB iU
 go_enter Tryz.func6, Tryz.ntmps6
 go_upto_region 1 with fail
 generalize ((w.alloc (.cells #[.slice a.1 a.2.1 a.2.2, .slice b.1 b.2.1 b.2.2, .slice c.1 c.2.1 c.2.2, .slice d.1 d.2.1 d.2.2, .slice e.1 e.2.1 e.2.2] 27)).alloc (.cells #[.slice a'.1 a'.2.1 a'.2.2, .slice b'.1 b'.2.1 b'.2.2, .slice c'.1 c'.2.1 c'.2.2, .slice d'.1 d'.2.1 d'.2.2, .slice e'.1 e'.2.1 e'.2.2] 27)) = w1 at *
 go_region_held3 (fun w' => (w'.cell? ⟨w.heap.size, 0, none⟩ = some (.slice a.1 a.2.1 a.2.2) ∧ w'.cell? ⟨w.heap.size + 1, 0, none⟩ = some (.slice a'.1 a'.2.1 a'.2.2)) ∧ Hid (TuO w w.heap.size a b c d e a' b' c' d' e' B U w'))
  (first | exact ⟨HQ.out _ (O0.out.on (Below.refl _ _).drew), Lib.hid (O0.out.on (Below.refl _ _).drew)⟩ | exact ⟨HQ.out _ HJ.out, HJ⟩)
  (first | (go_at_call 13; (with_reducible refine (firstsE_any _ B.m _ (TuO.rv (Hid.out (by go_split_ands; assumption))).m lB IB.out).mono ?_); rintro e1 w' ⟨b1, n1, rfl, -, hn1, hm1, hb⟩; have HM1 := Lib.hid hm1; have HN1 := Lib.hid hn1; have HJ : Hid (TuO w w.heap.size a b c d e a' b' c' d' e' B U w') := Lib.hid (TuO.on (Hid.out (by go_split_ands; assumption)) hb); clear hb hm1 hn1) | (go_at_call 13; (with_reducible refine (firstsE_any _ U.m _ HJ.out.ru.m lU IU.out).mono ?_); rintro e2 w' ⟨b2, n2, rfl, -, hn2, hm2, hb⟩; have HM2 := Lib.hid hm2; have HN2 := Lib.hid hn2; have HM1 := Lib.hid (HM1.out.same (hb.block _ HM1.out.lt)); have HJ := Lib.hid (HJ.out.on hb); clear hb hm2 hn2))
 have I2 : Hid (TuI w w.heap.size b1 n1 b2 n2 a b c d e a' b' c' d' e' B U w') := Lib.hid ⟨HJ.out.v1, HJ.out.v2, HJ.out.ru.f, HM1.out, HM2.out, HJ.out.below⟩
 have hn1 := HN1.out
 have hn2 := HN2.out
 clear HJ HM1 HM2 O0 HQ
 go_wp2_with fail
 (with_reducible refine (keysF_any (some b1) _).mono ?_)
 rintro e3 w3 ⟨rfl, k1, k2⟩
 have I3 := Lib.hid (I2.out.on k2)
 have G3 := Lib.hid (keysI_gives Fence.wide 1 trivial rfl (Nat.le_refl _) _ b1 n1 w3 (one_lt k1) (one_cell k1) I3.out.m1)
 clear k1 k2 I2
 go_wp2_with fail
 (with_reducible refine (collect_gives _ n1 _ w3 (by omega) G3.out).mono ?_)
 rintro e4 w4 ⟨xs, hx, hlx, r, rfl, h1, h2⟩
 have HX := Lib.hid hx
 have LX := Lib.hid hlx
 have I4 := Lib.hid (I3.out.on h2)
 have R4 := Lib.hid h1
 clear hx hlx h1 h2 I3 G3
 go_wp2_with fail
 (with_reducible refine (keysF_any (some b2) _).mono ?_)
 rintro e5 w5 ⟨rfl, k1, k2⟩
 have I5 := Lib.hid (I4.out.on k2)
 have R5 := Lib.hid (R4.out.below k2)
 have G5 := Lib.hid (keysI_gives Fence.wide 1 trivial rfl (Nat.le_refl _) _ b2 n2 w5 (one_lt k1) (one_cell k1) I5.out.m2)
 clear k1 k2 I4 R4
 go_wp2_with fail
 (with_reducible refine (collect_gives _ n2 _ w5 (by omega) G5.out).mono ?_)
 rintro e6 w6 ⟨ys, hy, hly, r2, rfl, h1, h2⟩
 have HY := Lib.hid hy
 have LY := Lib.hid hly
 have I6 := Lib.hid (I5.out.on h2)
 have R6 := Lib.hid (R5.out.below h2)
 have S6 := Lib.hid h1
 clear hy hly h1 h2 I5 R5 G5
 go_wp2_with fail
 (with_reducible refine (join_any r r2 xs ys w6 R6.out S6.out (by have := LX.out; omega) (by have := LY.out; omega)).mono ?_)
 rintro e7 w0 ⟨r3, rfl, h1, h2⟩
 have HJL : Hid ((Sets.join xs ys).length ≤ 2000) := Lib.hid (by have h := Sets.setOf_len (xs ++ ys); have := LX.out; have := LY.out; simp at h; unfold Sets.join; omega)
 have HTP : Hid (turnsP B U = (Sets.join xs ys).flatMap (turnOf B U)) := Lib.hid (by rw [keys_of IB.out IU.out HX.out HY.out]; rfl)
 have HIN : Hid (∀ z ∈ Sets.join xs ys, In2 z) := Lib.hid (fun z hz => by
  rw [keys_of IB.out IU.out HX.out HY.out, Sets.mem_setOf, List.mem_append] at hz
  rcases hz with hz | hz
  ·obtain ⟨q, hq, rfl⟩ := List.mem_map.1 hz
   exact IB.out q hq
  ·obtain ⟨q, hq, rfl⟩ := List.mem_map.1 hz
   exact IU.out q hq)
 have I0 := Lib.hid (I6.out.on h2)
 have HI := Lib.hid h1
 clear h1 h2 I6 R6 S6 HX HY LX LY IB IU
 generalize Sets.join xs ys = J at *
 obtain ⟨A, cp, rfl, hz⟩ := id HI.out
 clear hz
 have hJ := HJL.out
 go_wp2_with fail
 go_loopw [7, 28] (fun s7 s28 wr => ∃ (k : Nat) (v : Value), s28 = .int .i64 k ∧ k ≤ J.length ∧ s7 = v ∧ Hid (OwnsR encU 8 53 wr w0.heap.size v ((J.take k).flatMap (turnOf B U))) ∧ Hid (Below w0.heap.size w0 wr)) (fun _ s28 _ => J.length - (intOf s28).toNat)
 case atStart => exact ⟨0, _, rfl, by omega, rfl, Lib.hid (OwnsR.nil _ _ _), Lib.hid (Below.refl _ _)⟩
 case round =>
  obtain ⟨k, v, rfl, hkl, rfl, HO, HW⟩ := hrel
  have i3 : (0 : Int) ≤ (k : Int) := by omega
  by_cases hlt : k < J.length
  ·have hd : decide ((k : Int) < (J.length : Int)) = true := by simp; omega
   have i4 : (k : Int) < (J.length : Int) := by omega
   obtain ⟨ad, rfl, c1, c2⟩ := HI.out.at_ HW.out hlt
   have hin := HIN.out J[k] (List.getElem_mem hlt)
   have HS : Hid ((J.take (k + 1)).flatMap (turnOf B U) = (J.take k).flatMap (turnOf B U) ++ turnV J[k] (fst1 B.m J[k]).isSome (Ros.goneB U.f J[k]) (fst1 U.m J[k]).isSome ((fst1 B.m J[k]).getD noneM) ((fst1 U.m J[k]).getD noneM)) := Lib.hid (by rw [List.take_succ_eq_append_getElem hlt, List.flatMap_append]; simp [turnOf])
   have HLN : Hid (((J.take k).flatMap (turnOf B U)).length ≤ 99999) := Lib.hid (Nat.le_trans (turns_len B U (J.take k)) (by simp; omega))
   generalize hL2 : (J.take (k + 1)).flatMap (turnOf B U) = L' at *
   have HLE := Lib.hid hL2
   clear hL2
   generalize (J.take k).flatMap (turnOf B U) = L at *
   generalize J[k] = id at *
   obtain ⟨x, y⟩ := id
   have T0 := Lib.hid (I0.out.on HW.out)
   have g1 := below_one wr (.cells #[.int .i64 x, .int .i64 y] 32)
   have T1 := Lib.hid (T0.out.on g1)
   have hk1 := T1.out.m1.look Tryz.underlying43 (zeroMv _) hin
   generalize hfr : (fst1 B.m (x, y)).getD noneM = fr at *
   generalize hwas : (fst1 B.m (x, y)).isSome = was at *
   obtain ⟨⟨f1, f2⟩, f3, f4⟩ := fr
   simp only [mval, idv, ElM] at hk1
   have g2 := below_one (wr.alloc (.cells #[.int .i64 x, .int .i64 y] 32)) (.cells #[.int .i64 f1, .int .i64 f2, .int .u8 f3, .int .i64 f4] 34)
   have T2 := Lib.hid (T1.out.on g2)
   have hk2 := T2.out.m2.look Tryz.underlying43 (zeroMv _) hin
   generalize hto : (fst1 U.m (x, y)).getD noneM = tt at *
   generalize his : (fst1 U.m (x, y)).isSome = is at *
   obtain ⟨⟨t1, t2⟩, t3, t4⟩ := tt
   simp only [mval, idv, ElM] at hk2
   have g3 := below_one ((wr.alloc (.cells #[.int .i64 x, .int .i64 y] 32)).alloc (.cells #[.int .i64 f1, .int .i64 f2, .int .u8 f3, .int .i64 f4] 34)) (.cells #[.int .i64 t1, .int .i64 t2, .int .u8 t3, .int .i64 t4] 34)
   have T3 := Lib.hid (T2.out.on g3)
   have G3 := below_after (below_after g1 g2 (Nat.le_refl _)) g3 (Nat.le_refl _)
   have IDB : Hid (Box (((wr.alloc (.cells #[.int .i64 x, .int .i64 y] 32)).alloc (.cells #[.int .i64 f1, .int .i64 f2, .int .u8 f3, .int .i64 f4] 34)).alloc (.cells #[.int .i64 t1, .int .i64 t2, .int .u8 t3, .int .i64 t4] 34)) wr.heap.size x y) := Lib.hid (box_below (box_below (box_new wr x y) g2) g3)
   have FB : Hid (MBox (((wr.alloc (.cells #[.int .i64 x, .int .i64 y] 32)).alloc (.cells #[.int .i64 f1, .int .i64 f2, .int .u8 f3, .int .i64 f4] 34)).alloc (.cells #[.int .i64 t1, .int .i64 t2, .int .u8 t3, .int .i64 t4] 34)) (wr.heap.size + 1) f1 f2 f3 f4) := Lib.hid (by have h := mbox_below (mbox_new (wr.alloc (.cells #[.int .i64 x, .int .i64 y] 32)) f1 f2 f3 f4) g3; simp only [World.size_alloc] at h; exact h)
   have TB : Hid (MBox (((wr.alloc (.cells #[.int .i64 x, .int .i64 y] 32)).alloc (.cells #[.int .i64 f1, .int .i64 f2, .int .u8 f3, .int .i64 f4] 34)).alloc (.cells #[.int .i64 t1, .int .i64 t2, .int .u8 t3, .int .i64 t4] 34)) (wr.heap.size + 2) t1 t2 t3 t4) := Lib.hid (by have h := mbox_new ((wr.alloc (.cells #[.int .i64 x, .int .i64 y] 32)).alloc (.cells #[.int .i64 f1, .int .i64 f2, .int .u8 f3, .int .i64 f4] 34)) t1 t2 t3 t4; simp only [World.size_alloc] at h; exact h)
   have HO2 := Lib.hid (OwnsR.below HO.out G3)
   have HB2 := Lib.hid (HW.out.trans (G3.mono HW.out.size))
   clear g1 g2 g3 G3 T0 T1 T2 HO
   go_upto_region 8 with fail
   clear hk1 hk2 c1 c2 hfr hwas hto his hin HW
   generalize (((wr.alloc (.cells #[.int .i64 x, .int .i64 y] 32)).alloc (.cells #[.int .i64 f1, .int .i64 f2, .int .u8 f3, .int .i64 f4] 34)).alloc (.cells #[.int .i64 t1, .int .i64 t2, .int .u8 t3, .int .i64 t4] 34)) = wq at *
   generalize wr.heap.size = i at *
   obtain ⟨j1, j2⟩ := box_cells IDB.out
   obtain ⟨m1, m2, m3, m4⟩ := mbox_cells FB.out
   obtain ⟨o1, o2, o3, o4⟩ := mbox_cells TB.out
   have HSZ := Lib.hid HB2.out.size
   cases was
   ·clear T3 IDB FB TB j1 j2
    generalize Ros.goneB U.f (x, y) = gn at *
    cases is
    ·have HST : Hid (L' = L) := Lib.hid (HS.out.trans (by simp [turnV]))
     clear HS
     go_wp2_with fail
     go_roundw
     case rel => exact ⟨k + 1, _, by go_num, by omega, rfl, by rw [HLE.out, HST.out]; exact HO2, HB2⟩
     case measure => simp [intOf]; omega
    ·clear HIN HJL
     by_cases e0 : f1 = t1
     ·subst e0
      by_cases e1 : f2 = t2
      ·subst e1
       by_cases e2 : f3 = t3
       ·subst e2
        by_cases e3 : f4 = t4
        ·subst e3
         have HST : Hid (L' = L) := Lib.hid (HS.out.trans (by simp [turnV]))
         clear HS
         go_wp2_with fail
         go_roundw
         case rel => exact ⟨k + 1, _, by go_num, by omega, rfl, by rw [HLE.out, HST.out]; exact HO2, HB2⟩
         case measure => simp [intOf]; omega
        ·have d3 : (f4 == t4) = false := by simpa using e3
         have HST : Hid (L' = L ++ [(((f1, f2), f3, f4), (f1, f2), f3, t4)]) := Lib.hid (HS.out.trans (by simp [turnV, e3]))
         clear HS
         go_wp2_with (first | (at_builtin; refine wpList_push_rec 36 53 Tryz.underlying36 info53 rfl encU_len (by omega) encU_one (by omega) rfl (.tmp 68) (.tmp 72) rfl wq w0.heap.size _ _ (((f1, f2), f3, f4), (f1, f2), f3, t4) #[.int .i64 f1, .int .i64 f2, .int .u8 f3, .int .i64 f4, .int .i64 f1, .int .i64 f2, .int .u8 f3, .int .i64 t4] rfl rfl rfl HO2.out HLN.out HSZ.out ?_; intro g cap w9 k1 k2; have K1 := Lib.hid k1; have K2 := Lib.hid (HB2.out.grown k2 HSZ.out (fun k hk => World.ownsRow.lt HO2.out k hk |>.1)); clear k1 k2) | fail)
         go_wp2_with fail
         go_roundw
         case rel => exact ⟨k + 1, _, by go_num, by omega, rfl, by rw [HLE.out, HST.out]; exact K1, K2⟩
         case measure => simp [intOf]; omega
       ·have d2 : (f3 == t3) = false := by simpa using e2
        have HST : Hid (L' = L ++ [(((f1, f2), f3, f4), (f1, f2), t3, t4)]) := Lib.hid (HS.out.trans (by simp [turnV, e2]))
        clear HS
        go_wp2_with (first | (at_builtin; refine wpList_push_rec 36 53 Tryz.underlying36 info53 rfl encU_len (by omega) encU_one (by omega) rfl (.tmp 68) (.tmp 72) rfl wq w0.heap.size _ _ (((f1, f2), f3, f4), (f1, f2), t3, t4) #[.int .i64 f1, .int .i64 f2, .int .u8 f3, .int .i64 f4, .int .i64 f1, .int .i64 f2, .int .u8 t3, .int .i64 t4] rfl rfl rfl HO2.out HLN.out HSZ.out ?_; intro g cap w9 k1 k2; have K1 := Lib.hid k1; have K2 := Lib.hid (HB2.out.grown k2 HSZ.out (fun k hk => World.ownsRow.lt HO2.out k hk |>.1)); clear k1 k2) | fail)
        go_wp2_with fail
        go_roundw
        case rel => exact ⟨k + 1, _, by go_num, by omega, rfl, by rw [HLE.out, HST.out]; exact K1, K2⟩
        case measure => simp [intOf]; omega
      ·have d1 : (f2 == t2) = false := by simpa using e1
       have HST : Hid (L' = L ++ [(((f1, f2), f3, f4), (f1, t2), t3, t4)]) := Lib.hid (HS.out.trans (by simp [turnV, e1]))
       clear HS
       go_wp2_with (first | (at_builtin; refine wpList_push_rec 36 53 Tryz.underlying36 info53 rfl encU_len (by omega) encU_one (by omega) rfl (.tmp 68) (.tmp 72) rfl wq w0.heap.size _ _ (((f1, f2), f3, f4), (f1, t2), t3, t4) #[.int .i64 f1, .int .i64 f2, .int .u8 f3, .int .i64 f4, .int .i64 f1, .int .i64 t2, .int .u8 t3, .int .i64 t4] rfl rfl rfl HO2.out HLN.out HSZ.out ?_; intro g cap w9 k1 k2; have K1 := Lib.hid k1; have K2 := Lib.hid (HB2.out.grown k2 HSZ.out (fun k hk => World.ownsRow.lt HO2.out k hk |>.1)); clear k1 k2) | fail)
       go_wp2_with fail
       go_roundw
       case rel => exact ⟨k + 1, _, by go_num, by omega, rfl, by rw [HLE.out, HST.out]; exact K1, K2⟩
       case measure => simp [intOf]; omega
     ·have d0 : (f1 == t1) = false := by simpa using e0
      have HST : Hid (L' = L ++ [(((f1, f2), f3, f4), (t1, t2), t3, t4)]) := Lib.hid (HS.out.trans (by simp [turnV, e0]))
      clear HS
      go_wp2_with (first | (at_builtin; refine wpList_push_rec 36 53 Tryz.underlying36 info53 rfl encU_len (by omega) encU_one (by omega) rfl (.tmp 68) (.tmp 72) rfl wq w0.heap.size _ _ (((f1, f2), f3, f4), (t1, t2), t3, t4) #[.int .i64 f1, .int .i64 f2, .int .u8 f3, .int .i64 f4, .int .i64 t1, .int .i64 t2, .int .u8 t3, .int .i64 t4] rfl rfl rfl HO2.out HLN.out HSZ.out ?_; intro g cap w9 k1 k2; have K1 := Lib.hid k1; have K2 := Lib.hid (HB2.out.grown k2 HSZ.out (fun k hk => World.ownsRow.lt HO2.out k hk |>.1)); clear k1 k2) | fail)
      go_wp2_with fail
      go_roundw
      case rel => exact ⟨k + 1, _, by go_num, by omega, rfl, by rw [HLE.out, HST.out]; exact K1, K2⟩
      case measure => simp [intOf]; omega
   ·obtain ⟨v0, v1, v2, v3, v4⟩ := vbox_cells T3.out.v2
    go_wp2_with fail
    (with_reducible refine (gone_of _ U.f x y _ T3.out.fl (by omega)).mono ?_)
    rintro e9 wq ⟨rfl, hb⟩
    have IDB := Lib.hid (box_below IDB.out hb)
    have FB := Lib.hid (mbox_below FB.out hb)
    have TB := Lib.hid (mbox_below TB.out hb)
    have HO2 := Lib.hid (OwnsR.below HO2.out hb)
    have HB2 := Lib.hid (HB2.out.trans (hb.mono HB2.out.size))
    have HSZ := Lib.hid HB2.out.size
    clear hb v0 v1 v2 v3 v4 j1 j2 m1 m2 m3 m4 o1 o2 o3 o4 T3
    obtain ⟨j1, j2⟩ := box_cells IDB.out
    obtain ⟨m1, m2, m3, m4⟩ := mbox_cells FB.out
    obtain ⟨o1, o2, o3, o4⟩ := mbox_cells TB.out
    generalize Ros.goneB U.f (x, y) = gn at *
    cases gn
    ·cases is
     ·have HST : Hid (L' = L) := Lib.hid (HS.out.trans (by simp [turnV]))
      clear HS
      go_wp2_with fail
      go_roundw
      case rel => exact ⟨k + 1, _, by go_num, by omega, rfl, by rw [HLE.out, HST.out]; exact HO2, HB2⟩
      case measure => simp [intOf]; omega
     ·clear HIN HJL
      by_cases e0 : f1 = t1
      ·subst e0
       by_cases e1 : f2 = t2
       ·subst e1
        by_cases e2 : f3 = t3
        ·subst e2
         by_cases e3 : f4 = t4
         ·subst e3
          have HST : Hid (L' = L) := Lib.hid (HS.out.trans (by simp [turnV]))
          clear HS
          go_wp2_with fail
          go_roundw
          case rel => exact ⟨k + 1, _, by go_num, by omega, rfl, by rw [HLE.out, HST.out]; exact HO2, HB2⟩
          case measure => simp [intOf]; omega
         ·have d3 : (f4 == t4) = false := by simpa using e3
          have HST : Hid (L' = L ++ [(((f1, f2), f3, f4), (f1, f2), f3, t4)]) := Lib.hid (HS.out.trans (by simp [turnV, e3]))
          clear HS
          go_wp2_with (first | (at_builtin; refine wpList_push_rec 36 53 Tryz.underlying36 info53 rfl encU_len (by omega) encU_one (by omega) rfl (.tmp 68) (.tmp 72) rfl wq w0.heap.size _ _ (((f1, f2), f3, f4), (f1, f2), f3, t4) #[.int .i64 f1, .int .i64 f2, .int .u8 f3, .int .i64 f4, .int .i64 f1, .int .i64 f2, .int .u8 f3, .int .i64 t4] rfl rfl rfl HO2.out HLN.out HSZ.out ?_; intro g cap w9 k1 k2; have K1 := Lib.hid k1; have K2 := Lib.hid (HB2.out.grown k2 HSZ.out (fun k hk => World.ownsRow.lt HO2.out k hk |>.1)); clear k1 k2) | fail)
          go_wp2_with fail
          go_roundw
          case rel => exact ⟨k + 1, _, by go_num, by omega, rfl, by rw [HLE.out, HST.out]; exact K1, K2⟩
          case measure => simp [intOf]; omega
        ·have d2 : (f3 == t3) = false := by simpa using e2
         have HST : Hid (L' = L ++ [(((f1, f2), f3, f4), (f1, f2), t3, t4)]) := Lib.hid (HS.out.trans (by simp [turnV, e2]))
         clear HS
         go_wp2_with (first | (at_builtin; refine wpList_push_rec 36 53 Tryz.underlying36 info53 rfl encU_len (by omega) encU_one (by omega) rfl (.tmp 68) (.tmp 72) rfl wq w0.heap.size _ _ (((f1, f2), f3, f4), (f1, f2), t3, t4) #[.int .i64 f1, .int .i64 f2, .int .u8 f3, .int .i64 f4, .int .i64 f1, .int .i64 f2, .int .u8 t3, .int .i64 t4] rfl rfl rfl HO2.out HLN.out HSZ.out ?_; intro g cap w9 k1 k2; have K1 := Lib.hid k1; have K2 := Lib.hid (HB2.out.grown k2 HSZ.out (fun k hk => World.ownsRow.lt HO2.out k hk |>.1)); clear k1 k2) | fail)
         go_wp2_with fail
         go_roundw
         case rel => exact ⟨k + 1, _, by go_num, by omega, rfl, by rw [HLE.out, HST.out]; exact K1, K2⟩
         case measure => simp [intOf]; omega
       ·have d1 : (f2 == t2) = false := by simpa using e1
        have HST : Hid (L' = L ++ [(((f1, f2), f3, f4), (f1, t2), t3, t4)]) := Lib.hid (HS.out.trans (by simp [turnV, e1]))
        clear HS
        go_wp2_with (first | (at_builtin; refine wpList_push_rec 36 53 Tryz.underlying36 info53 rfl encU_len (by omega) encU_one (by omega) rfl (.tmp 68) (.tmp 72) rfl wq w0.heap.size _ _ (((f1, f2), f3, f4), (f1, t2), t3, t4) #[.int .i64 f1, .int .i64 f2, .int .u8 f3, .int .i64 f4, .int .i64 f1, .int .i64 t2, .int .u8 t3, .int .i64 t4] rfl rfl rfl HO2.out HLN.out HSZ.out ?_; intro g cap w9 k1 k2; have K1 := Lib.hid k1; have K2 := Lib.hid (HB2.out.grown k2 HSZ.out (fun k hk => World.ownsRow.lt HO2.out k hk |>.1)); clear k1 k2) | fail)
        go_wp2_with fail
        go_roundw
        case rel => exact ⟨k + 1, _, by go_num, by omega, rfl, by rw [HLE.out, HST.out]; exact K1, K2⟩
        case measure => simp [intOf]; omega
      ·have d0 : (f1 == t1) = false := by simpa using e0
       have HST : Hid (L' = L ++ [(((f1, f2), f3, f4), (t1, t2), t3, t4)]) := Lib.hid (HS.out.trans (by simp [turnV, e0]))
       clear HS
       go_wp2_with (first | (at_builtin; refine wpList_push_rec 36 53 Tryz.underlying36 info53 rfl encU_len (by omega) encU_one (by omega) rfl (.tmp 68) (.tmp 72) rfl wq w0.heap.size _ _ (((f1, f2), f3, f4), (t1, t2), t3, t4) #[.int .i64 f1, .int .i64 f2, .int .u8 f3, .int .i64 f4, .int .i64 t1, .int .i64 t2, .int .u8 t3, .int .i64 t4] rfl rfl rfl HO2.out HLN.out HSZ.out ?_; intro g cap w9 k1 k2; have K1 := Lib.hid k1; have K2 := Lib.hid (HB2.out.grown k2 HSZ.out (fun k hk => World.ownsRow.lt HO2.out k hk |>.1)); clear k1 k2) | fail)
       go_wp2_with fail
       go_roundw
       case rel => exact ⟨k + 1, _, by go_num, by omega, rfl, by rw [HLE.out, HST.out]; exact K1, K2⟩
       case measure => simp [intOf]; omega
    ·have HST : Hid (L' = L ++ [(((f1, f2), f3, f4), (x, y), 7, f4)]) := Lib.hid (HS.out.trans (by simp [turnV]))
     clear HS
     go_wp2_with (first | (at_builtin; refine wpList_push_rec 36 53 Tryz.underlying36 info53 rfl encU_len (by omega) encU_one (by omega) rfl (.tmp 52) (.tmp 59) rfl wq w0.heap.size _ _ (((f1, f2), f3, f4), (x, y), 7, f4) #[.int .i64 f1, .int .i64 f2, .int .u8 f3, .int .i64 f4, .int .i64 x, .int .i64 y, .int .u8 7, .int .i64 f4] rfl rfl rfl HO2.out HLN.out HSZ.out ?_; intro g cap w9 k1 k2; have K1 := Lib.hid k1; have K2 := Lib.hid (HB2.out.grown k2 HSZ.out (fun k hk => World.ownsRow.lt HO2.out k hk |>.1)); clear k1 k2) | fail)
     go_wp2_with fail
     go_roundw
     case rel => exact ⟨k + 1, _, by go_num, by omega, rfl, by rw [HLE.out, HST.out]; exact K1, K2⟩
     case measure => simp [intOf]; omega
  ·have hd : decide ((k : Int) < (J.length : Int)) = false := by simp; omega
   have hOw := HO.out
   rw [List.take_of_length_le (by omega)] at hOw
   have HOw := Lib.hid hOw
   have HB := Lib.hid (I0.out.below.trans (HW.out.mono (Nat.le_of_lt (Nat.lt_of_lt_of_le (vbox_lt I0.out.v1) (Nat.le_refl _)))))
   clear hOw HO
   go_wp2_with fail
   go_ret
   exact ⟨_, rfl, by rw [HTP.out]; exact OwnsR.mono HOw.out I0.out.below.size, HB.out⟩
end Go.Proofs.YtgphiggbajbmhaaGreatDoor
