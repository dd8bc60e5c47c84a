/-
  Contracts and plain facts.
-/
import Derived.Test.YthkkipbmlafdiaaGreatB40
set_option maxRecDepth 20000
namespace Go.Proofs.YthkkipbmlafdiaaGreat
section
open Go Go.RowKit
theorem Ends.more {J : Vw} {p : Nat → Nat} {q : Prop} : ∀ {n : Nat} {V : Nat → Vw} {fr : Nat} {kd : Int} {s : Nat}, Ends J p q n V fr kd s → Ends J p q (n + 1) V fr kd s
 | 0, _, _, _, _, h => ⟨h.1, h.2.1, .inl ⟨h.2.2.1, h.2.2.2⟩⟩
 | n + 1, _, _, _, _, h => ⟨h.1, h.2.1, h.2.2.elim (fun a => .inl a) (fun a => .inr ⟨a.1, a.2.1, Ends.more (n := n) a.2.2⟩)⟩
theorem Ends.upto {J : Vw} {p : Nat → Nat} {q : Prop} {n : Nat} {V : Nat → Vw} {fr : Nat} {kd : Int} {s : Nat} (h : Ends J p q n V fr kd s) : ∀ {m : Nat}, n ≤ m → Ends J p q m V fr kd s := by
 intro m hm;obtain ⟨k, rfl⟩ := Nat.exists_eq_add_of_le hm;clear hm;induction k with
 | zero => exact h
 | succ k ih => exact ih.more
theorem ends_step {J : Vw} {p : Nat → Nat} {q : Prop} {n : Nat} {V : Nat → Vw} {fr : Nat} {kd kd' : Int} {s : Nat} (hf : fr < 2) (g : GoodT 1000 (V fr)) (g' : GoodT 1000 (V (1 - fr))) (hk : kd = 3 ∨ kd = 4) (hs : s < 5) (T : Vw) (hT : recvV kd (V (1 - fr)) (V fr) (p (1 - fr)) = T) (hk' : ansV T (V fr) = kd')
  (next : ∀ W : Nat → Vw, W (1 - fr) = T → W fr = V fr → Ends J p q n W (1 - fr) kd' (s + 1)) : Ends J p q (n + 1) V fr kd s := by
 obtain ⟨a, b⟩ := ends_good hf g g';obtain ⟨n1, n2⟩ := now_pair V fr hf T;refine ⟨a, b, .inr ⟨hk, hs, ?_⟩⟩
 rw [hT, hk'];exact next _ n1 n2
theorem same_told {n : Nat → Nat} {chg : Nat → Nat → Vw} {V U : Vw} (hV : Told n chg V) (hU : Told n chg U) (h : Clocks.cmp V.c U.c = 1) : SameC V U :=
 one_clock hV hU fun k _ => by
  have a := cnt_says V k;have b := cnt_says U k;have c := (Clocks.cmp_same _ _).1 h (nid k);omega
theorem le_told {n : Nat → Nat} {chg : Nat → Nat → Vw} {V U : Vw} (hc : Chgs n chg) (hV : Told n chg V) (hU : Told n chg U) (h : ∀ x, Clocks.says V.c x ≤ Clocks.says U.c x) : Le V U :=
 clock_le hc hV hU fun k _ => by
  have a := cnt_says V k;have b := cnt_says U k;have c := h (nid k);omega
theorem st_other {V U : Vw} {k : Nat} (h : Clocks.cmp V.c U.c ≠ 1) : stV V U k = V := by unfold stV; rw [if_neg h]
theorem ans_ne {V U : Vw} (h : Clocks.cmp V.c U.c = 1) (hs : V.s ≠ U.s) : ansV V U = 3 := by unfold ansV; rw [if_pos h, if_neg hs]
theorem ans_eq {V U : Vw} (h : Clocks.cmp V.c U.c = 1) (hs : V.s = U.s) : ansV V U = 0 := by unfold ansV; rw [if_pos h, if_pos hs]
theorem ans_two {V U : Vw} (h : Clocks.cmp V.c U.c = 2) : ansV V U = 3 := by unfold ansV; rw [if_neg (by omega), if_pos h]
theorem ans_far {V U : Vw} (h : Clocks.cmp V.c U.c ≠ 1) (h2 : Clocks.cmp V.c U.c ≠ 2) : ansV V U = 4 := by unfold ansV; rw [if_neg h, if_neg h2]
theorem cmp_turn2 {V U : Vw} (h : Clocks.cmp V.c U.c = 2) : Clocks.cmp U.c V.c = 3 := by rw [Clocks.cmp_turned, h]; rfl
theorem cmp_turn3 {V U : Vw} (h : Clocks.cmp V.c U.c = 3) : Clocks.cmp U.c V.c = 2 := by rw [Clocks.cmp_turned, h]; rfl
theorem seen2 {V U : Vw} (h : Clocks.cmp V.c U.c = 2) : seenV V U = U.s := by unfold seenV; rw [if_neg (by omega), if_pos h]
set_option maxHeartbeats 1000000 in
theorem ends_all {n : Nat → Nat} {chg : Nat → Nat → Vw} (hc : Chgs n chg) {p : Nat → Nat} (hp : ∀ j, p j < 4) {V : Nat → Vw} (hA : Told n chg (V 0)) (hB : Told n chg (V 1)) (sA : SeenIn (p 0) (V 1) (V 0)) (sB : SeenIn (p 1) (V 0) (V 1)) (gA : GoodT 1000 (V 0)) (gB : GoodT 1000 (V 1))
  {q : Prop} (hq : q → SameC (V 0) (V 1) ∧ (V 0).s = (V 1).s ∧ nid (p 0) ∈ (V 0).s ∧ nid (p 1) ∈ (V 0).s) : Ends (joinV (V 0) (V 1)) p q 5 V 0 3 0 := by
 obtain ⟨J, hJ⟩ : ∃ J, J = joinV (V 0) (V 1) := ⟨_, rfl⟩;rw [← hJ];have hr := Clocks.cmp_range (V 1).c (V 0).c;rcases (show Clocks.cmp (V 1).c (V 0).c = 1 ∨ Clocks.cmp (V 1).c (V 0).c = 2 ∨ Clocks.cmp (V 1).c (V 0).c = 3 ∨ Clocks.cmp (V 1).c (V 0).c = 4 by omega) with e | e | e | e
 ·-- one clock
  have hs : SameC (V 1) (V 0) := same_told hB hA e
  have jA : SameC (V 0) J := by
   rw [hJ];exact (joinV_self gA.1).symm.trans (joinV_same (SameC.refl _) hs.symm)
  obtain ⟨T, hT⟩ : ∃ T, T = stV (V 1) (V 0) (p 1) := ⟨_, rfl⟩;have gT : GoodT 1000 T := by rw [hT]; exact gB.st (hp _) gA
  have sT : SameC T (V 0) := by rw [hT]; exact (st_same _ _ _).trans hs
  have mT : ∀ x, x ∈ T.s ↔ x = nid (p 1) ∨ x ∈ (V 1).s ∨ x ∈ (V 0).s := fun x => by
   rw [hT];unfold stV;rw [if_pos e];show x ∈ Sets.put (Sets.join (V 1).s (V 0).s) (nid (p 1)) ↔ _
   rw [Sets.mem_put, Sets.mem_join]
  by_cases es : T.s = (V 0).s
  ·refine ends_step (kd' := 0) (fr := 0) (by omega) gA gB (.inl rfl) (by omega) T hT.symm (ans_eq (cmp_self_of sT) es) fun W w1 w0 => ?_
   have w1 : W 1 = T := w1
   obtain ⟨a, b⟩ := ends_good (V := W) (fr := 0) (by omega) (by rw [w0]; exact gA) (by show GoodT 1000 (W 1); rw [w1]; exact gT)
   refine ⟨a, b, .inl ⟨rfl, finT_of (fr := 0) (by omega) ?_ ?_ ?_ ?_ (.inr (by omega)) (fun _ => rfl)⟩⟩
   ·rw [w0]; exact jA
   ·show SameC (W 0) (W 1); rw [w0, w1]; exact sT.symm
   ·show (W 0).s = (W 1).s; rw [w0, w1]; exact es.symm
   ·rw [w0, ← es]; exact (mT _).2 (.inl rfl)
  ·have nq : ¬ q := fun h => es (by
    obtain ⟨_, h2, _, h4⟩ := hq h;refine Sets.rises_ext gT.2.sr gA.2.sr fun x => ?_
    rw [mT, ← h2];constructor
    ·rintro (rfl | h | h)
     ·exact h4
     ·exact h
     ·exact h
    ·exact fun h => .inr (.inl h))
   refine ends_step (kd' := 3) (fr := 0) (by omega) gA gB (.inl rfl) (by omega) T hT.symm (ans_ne (cmp_self_of sT) es) fun W w1 w0 => ?_
   have w1 : W 1 = T := w1
   refine (ends_tail hp (V := W) (fr := 1) (by omega) (by rw [w1]; exact gT) (by show GoodT 1000 (W 0); rw [w0]; exact gA) (by rw [w1]; exact sT.trans jA) (by show SameC (W 0) (W 1); rw [w0, w1]; exact sT.symm) ?_ (by rw [w1]; exact (mT _).2 (.inl rfl)) nq (by omega)).upto (by omega)
   show ∀ x ∈ (W 0).s, x ∈ (W 1).s
   rw [w0, w1];exact fun x hx => (mT x).2 (.inr (.inr hx))
 ·-- behind
  have nq : ¬ q := fun h => by have := cmp_self_of (hq h).1.symm; omega
  have hle : Le (V 1) (V 0) := le_told hc hB hA ((Clocks.cmp_behind _ _).1 e).1
  have jA : SameC (V 0) J := by rw [hJ]; exact hle.symm
  have e3 := cmp_turn2 e;refine ends_step (kd' := 3) (fr := 0) (by omega) gA gB (.inl rfl) (by omega) (V 1) (st_other (V := V 1) (U := V 0) (by omega)) (ans_two e) fun W w1 w0 => ?_
  have w1 : W 1 = V 1 := w1
  refine ends_step (kd' := 4) (fr := 1) (by omega) (by rw [w1]; exact gB) (by show GoodT 1000 (W 0); rw [w0]; exact gA) (.inl rfl) (by omega) (V 0) (by show stV (W 0) (W 1) (p 0) = V 0; rw [w0, w1]; exact st_other (by omega)) (by rw [w1]; exact ans_far (by omega) (by omega)) fun X x0 x1 => ?_
  have x0 : X 0 = V 0 := x0
  have x1 : X 1 = V 1 := x1.trans w1
  obtain ⟨T, hT⟩ : ∃ T, T = tellV (V 1) (V 0) (p 1) := ⟨_, rfl⟩;have gT : GoodT 1000 T := by rw [hT]; exact gB.tell (hp _) (by omega) gA
  have sT : SameC T (V 0) := by rw [hT]; exact (tell_same _ _ _).trans ((joinV_comm _ _).trans hle)
  have mT : ∀ x, x ∈ T.s ↔ x = nid (p 1) ∨ x ∈ (V 0).s := fun x => by
   rw [hT];show x ∈ Sets.put (seenV (V 1) (V 0)) (nid (p 1)) ↔ _
   rw [seen2 e, Sets.mem_put]
  have ne : T.s ≠ (V 0).s := fun es => by
   have h1 : nid (p 1) ∈ (V 0).s := by rw [← es]; exact (mT _).2 (.inl rfl)
   obtain ⟨x, hx⟩ := ((Clocks.cmp_behind _ _).1 e).2;have := sB h1 x
   omega
  refine ends_step (kd' := 3) (fr := 0) (by omega) (by rw [x0]; exact gA) (by show GoodT 1000 (X 1); rw [x1]; exact gB) (.inr rfl) (by omega) T (by show tellV (X 1) (X 0) (p 1) = T; rw [x0, x1, hT]) (by rw [x0]; exact ans_ne (cmp_self_of sT) ne) fun Y y1 y0 => ?_
  have y1 : Y 1 = T := y1
  have y0 : Y 0 = V 0 := y0.trans x0
  refine ends_tail hp (V := Y) (fr := 1) (by omega) (by rw [y1]; exact gT) (by show GoodT 1000 (Y 0); rw [y0]; exact gA) (by rw [y1]; exact sT.trans jA) (by show SameC (Y 0) (Y 1); rw [y0, y1]; exact sT.symm) ?_ (by rw [y1]; exact (mT _).2 (.inl rfl)) nq (by omega)
  show ∀ x ∈ (Y 0).s, x ∈ (Y 1).s
  rw [y0, y1];exact fun x hx => (mT x).2 (.inr hx)
 ·-- ahead
  have nq : ¬ q := fun h => by have := cmp_self_of (hq h).1.symm; omega
  have hle : Le (V 0) (V 1) := le_told hc hA hB ((Clocks.cmp_ahead _ _).1 e).1
  have e2 := cmp_turn3 e;refine ends_step (kd' := 4) (fr := 0) (by omega) gA gB (.inl rfl) (by omega) (V 1) (st_other (V := V 1) (U := V 0) (by omega)) (ans_far (by omega) (by omega)) fun W w1 w0 => ?_
  have w1 : W 1 = V 1 := w1
  obtain ⟨T, hT⟩ : ∃ T, T = tellV (V 0) (V 1) (p 0) := ⟨_, rfl⟩;have gT : GoodT 1000 T := by rw [hT]; exact gA.tell (hp _) (by omega) gB
  have tJ : SameC T J := by rw [hT, hJ]; exact tell_same _ _ _
  have sT : SameC T (V 1) := by rw [hT]; exact (tell_same _ _ _).trans ((joinV_comm _ _).trans hle)
  have mT : ∀ x, x ∈ T.s ↔ x = nid (p 0) ∨ x ∈ (V 1).s := fun x => by
   rw [hT];show x ∈ Sets.put (seenV (V 0) (V 1)) (nid (p 0)) ↔ _
   rw [seen2 e2, Sets.mem_put]
  have ne : T.s ≠ (V 1).s := fun es => by
   have h1 : nid (p 0) ∈ (V 1).s := by rw [← es]; exact (mT _).2 (.inl rfl)
   obtain ⟨x, hx⟩ := ((Clocks.cmp_ahead _ _).1 e).2;have := sA h1 x
   omega
  refine ends_step (kd' := 3) (fr := 1) (by omega) (by rw [w1]; exact gB) (by show GoodT 1000 (W 0); rw [w0]; exact gA) (.inr rfl) (by omega) T (by show tellV (W 0) (W 1) (p 0) = T; rw [w0, w1, hT]) (by rw [w1]; exact ans_ne (cmp_self_of sT) ne) fun Y y0 y1 => ?_
  have y0 : Y 0 = T := y0
  have y1 : Y 1 = V 1 := y1.trans w1
  refine (ends_tail hp (V := Y) (fr := 0) (by omega) (by rw [y0]; exact gT) (by show GoodT 1000 (Y 1); rw [y1]; exact gB) (by rw [y0]; exact tJ) (by show SameC (Y 1) (Y 0); rw [y0, y1]; exact sT.symm) ?_ (by rw [y0]; exact (mT _).2 (.inl rfl)) nq (by omega)).upto (by omega)
  show ∀ x ∈ (Y 1).s, x ∈ (Y 0).s
  rw [y0, y1];exact fun x hx => (mT x).2 (.inr hx)
 ·-- apart
  have nq : ¬ q := fun h => by have := cmp_self_of (hq h).1.symm; omega
  refine ends_step (kd' := 4) (fr := 0) (by omega) gA gB (.inl rfl) (by omega) (V 1) (st_other (V := V 1) (U := V 0) (by omega)) (ans_far (by omega) (by omega)) fun W w1 w0 => ?_
  have w1 : W 1 = V 1 := w1
  obtain ⟨T, hT⟩ : ∃ T, T = tellV (V 0) (V 1) (p 0) := ⟨_, rfl⟩;have gT : GoodT 1000 T := by rw [hT]; exact gA.tell (hp _) (by omega) gB
  have tJ : SameC T J := by rw [hT, hJ]; exact tell_same _ _ _
  have cT : ∀ x, Clocks.says T.c x = max (Clocks.says (V 0).c x) (Clocks.says (V 1).c x) := fun x => by rw [hT]; exact says_joinV _ _ x
  have iT : nid (p 0) ∈ T.s := by
   rw [hT];show _ ∈ Sets.put (seenV (V 0) (V 1)) (nid (p 0))
   rw [Sets.mem_put];exact .inl rfl
  have hle : Le (V 1) T := by rw [hT]; exact le_same (le_right gA.1 gB.1) (SameC.refl _) (tell_same _ _ _).symm
  have e3 : Clocks.cmp T.c (V 1).c = 3 := (Clocks.cmp_ahead _ _).2 ⟨fun x => by rw [cT]; omega, by
   obtain ⟨_, x, hx⟩ := (Clocks.cmp_apart _ _).1 e;exact ⟨x, by rw [cT]; omega⟩⟩
  have e2 := cmp_turn3 e3;refine ends_step (kd' := 4) (fr := 1) (by omega) (by rw [w1]; exact gB) (by show GoodT 1000 (W 0); rw [w0]; exact gA) (.inr rfl) (by omega) T (by show tellV (W 0) (W 1) (p 0) = T; rw [w0, w1, hT]) (by rw [w1]; exact ans_far (by omega) (by omega)) fun Y y0 y1 => ?_
  have y0 : Y 0 = T := y0
  have y1 : Y 1 = V 1 := y1.trans w1
  obtain ⟨U, hU⟩ : ∃ U, U = tellV (V 1) T (p 1) := ⟨_, rfl⟩;have gU : GoodT 1000 U := by rw [hU]; exact gB.tell (hp _) (by omega) gT
  have sU : SameC U T := by rw [hU]; exact (tell_same _ _ _).trans ((joinV_comm _ _).trans hle)
  have mU : ∀ x, x ∈ U.s ↔ x = nid (p 1) ∨ x ∈ T.s := fun x => by
   rw [hU];show x ∈ Sets.put (seenV (V 1) T) (nid (p 1)) ↔ _
   rw [seen2 e2, Sets.mem_put]
  by_cases es : U.s = T.s
  ·refine ends_step (kd' := 0) (fr := 0) (by omega) (by rw [y0]; exact gT) (by show GoodT 1000 (Y 1); rw [y1]; exact gB) (.inr rfl) (by omega) U (by show tellV (Y 1) (Y 0) (p 1) = U; rw [y0, y1, hU]) (by rw [y0]; exact ans_eq (cmp_self_of sU) es) fun Z z1 z0 => ?_
   have z1 : Z 1 = U := z1
   have z0 : Z 0 = T := z0.trans y0
   obtain ⟨a, b⟩ := ends_good (V := Z) (fr := 0) (by omega) (by rw [z0]; exact gT) (by show GoodT 1000 (Z 1); rw [z1]; exact gU)
   refine ⟨a, b, .inl ⟨rfl, finT_of (fr := 0) (by omega) ?_ ?_ ?_ ?_ (.inl ?_) (fun h => absurd h nq)⟩⟩
   ·rw [z0]; exact tJ
   ·show SameC (Z 0) (Z 1); rw [z0, z1]; exact sU.symm
   ·show (Z 0).s = (Z 1).s; rw [z0, z1]; exact es.symm
   ·rw [z0, ← es]; exact (mU _).2 (.inl rfl)
   ·rw [z0]; exact iT
  ·refine ends_step (kd' := 3) (fr := 0) (by omega) (by rw [y0]; exact gT) (by show GoodT 1000 (Y 1); rw [y1]; exact gB) (.inr rfl) (by omega) U (by show tellV (Y 1) (Y 0) (p 1) = U; rw [y0, y1, hU]) (by rw [y0]; exact ans_ne (cmp_self_of sU) es) fun Z z1 z0 => ?_
   have z1 : Z 1 = U := z1
   have z0 : Z 0 = T := z0.trans y0
   refine ends_tail hp (V := Z) (fr := 1) (by omega) (by rw [z1]; exact gU) (by show GoodT 1000 (Z 0); rw [z0]; exact gT) (by rw [z1]; exact sU.trans tJ) (by show SameC (Z 0) (Z 1); rw [z0, z1]; exact sU.symm) ?_ (by rw [z1]; exact (mU _).2 (.inl rfl)) nq (by omega)
   show ∀ x ∈ (Z 0).s, x ∈ (Z 1).s
   rw [z0, z1];exact fun x hx => (mU x).2 (.inr hx)
theorem ends_acts {N : Int} {n : Nat → Nat} {chg : Nat → Nat → Vw} {now : Nat → Vw} {had : List Vw} (h : Acts N n chg now had) (hN : N ≤ 1000) {p : Nat → Nat} (hp : ∀ j, p j < 3) {V : Nat → Vw} (h0 : V 0 = now (p 0)) (h1 : V 1 = now (p 1))
  {q : Prop} (hq : q → SameC (V 0) (V 1) ∧ (V 0).s = (V 1).s ∧ nid (p 0) ∈ (V 0).s ∧ nid (p 1) ∈ (V 0).s) : Ends (joinV (V 0) (V 1)) p q 5 V 0 3 0 := by
 have hp4 : ∀ j, p j < 4 := fun j => Nat.lt_trans (hp j) (by omega)
 refine ends_all h.four.chgs hp4 ?_ ?_ ?_ ?_ ?_ ?_ hq
 ·rw [h0]; exact h.four.tnow _ (hp4 _)
 ·rw [h1]; exact h.four.tnow _ (hp4 _)
 ·rw [h0, h1]; exact h.four.seenN _ (hp4 _) _ (hp4 _)
 ·rw [h0, h1]; exact h.four.seenN _ (hp4 _) _ (hp4 _)
 ·rw [h0]; exact ⟨h.ok (hp4 _), (h.few.1 _ (hp4 _)).mono hN⟩
 ·rw [h1]; exact ⟨h.ok (hp4 _), (h.few.1 _ (hp4 _)).mono hN⟩
end
end Go.Proofs.YthkkipbmlafdiaaGreat
