/-
  Contracts and plain facts.
-/
import Derived.Test.YthkkipbmlafdiaaGreatOy
import Derived.Test.YthkkipbmlafdiaaGreatB33
import Derived.Test.YthkkipbmlafdiaaGreatB34
import Derived.Test.YthkkipbmlafdiaaGreatB39
set_option maxRecDepth 20000
namespace Go.Proofs.YthkkipbmlafdiaaGreat
section
open Go Go.RowKit
def stV (V U : Vw) (k : Nat) : Vw := if Clocks.cmp V.c U.c = 1 then { V with s := Sets.put (Sets.join V.s U.s) (nid k) } else V
def ansV (T U : Vw) : Int := if Clocks.cmp T.c U.c = 1 then (if T.s = U.s then 0 else 3) else if Clocks.cmp T.c U.c = 2 then 3 else 4
def recvV (kd : Int) (V U : Vw) (k : Nat) : Vw := if kd = 4 then tellV V U k else stV V U k
theorem recv_three (V U : Vw) (k : Nat) : recvV 3 V U k = stV V U k := rfl
theorem st_same (V U : Vw) (k : Nat) : SameC (stV V U k) V := by
 unfold stV;split
 ·exact ⟨rfl, rfl, rfl, rfl⟩
 ·exact SameC.refl _
def GoodT (N : Int) (V : Vw) : Prop := OkV V ∧ Few N V
theorem GoodT.st {N : Int} {V U : Vw} {k : Nat} (hk : k < 4) (h : GoodT N V) (g : GoodT N U) : GoodT N (stV V U k) := by
 refine ⟨okV_same h.1 (st_same V U k).symm, ?_⟩
 unfold stV;split
 ·refine ⟨h.2.r, h.2.c, Sets.rises_put _ _, fun x hx => ?_⟩
  rcases (Sets.mem_put _ _ _).1 hx with rfl | e
  ·exact nid_inB hk
  ·rcases (Sets.mem_join _ _ _).1 e with e | e
   ·exact h.2.s x e
   ·exact g.2.s x e
 ·exact h.2
theorem GoodT.tell {N : Int} {V U : Vw} {k : Nat} (hk : k < 4) (hN : 0 ≤ N) (h : GoodT N V) (g : GoodT N U) : GoodT N (tellV V U k) :=
 ⟨okV_same (okV_join h.1 g.1) (tell_same V U k).symm, few_tell hk h.2 g.2 hN⟩
theorem GoodT.recv {N : Int} {V U : Vw} {k : Nat} (hk : k < 4) (hN : 0 ≤ N) (h : GoodT N V) (g : GoodT N U) (kd : Int) : GoodT N (recvV kd V U k) := by
 unfold recvV;split
 ·exact h.tell hk hN g
 ·exact h.st hk g
theorem cov_st {N : Int} {V U : Vw} (k : Nat) (h : GoodT N V) : covB (stV V U k) V = true := le_cov (le_same (le_refl h.1) (SameC.refl _) (st_same V U k).symm)
theorem cov_tell {N : Int} {V U : Vw} (k : Nat) (h : GoodT N V) (g : GoodT N U) : covB (tellV V U k) V = true := le_cov (le_same (le_left h.1 g.1) (SameC.refl _) (tell_same _ _ _).symm)
theorem cov_recv {N : Int} {V U : Vw} (k : Nat) (h : GoodT N V) (g : GoodT N U) (kd : Int) : covB (recvV kd V U k) V = true := by
 unfold recvV;split
 ·exact cov_tell k h g
 ·exact cov_st k h
structure FinT (J : Vw) (p : Nat → Nat) (q : Prop) (V : Nat → Vw) (s : Nat) : Prop where
 j0 : SameC (V 0) J
 same : SameC (V 0) (V 1)
 seen : (V 0).s = (V 1).s
 h1 : nid (p 1) ∈ (V 0).s
 h0 : nid (p 0) ∈ (V 0).s ∨ s < 2
 one : q → s = 1
def Ends (J : Vw) (p : Nat → Nat) (q : Prop) : Nat → (Nat → Vw) → Nat → Int → Nat → Prop
 | 0, V, _, kd, s => GoodT 1000 (V 0) ∧ GoodT 1000 (V 1) ∧ kd = 0 ∧ FinT J p q V s
 | n + 1, V, fr, kd, s => GoodT 1000 (V 0) ∧ GoodT 1000 (V 1) ∧ ((kd = 0 ∧ FinT J p q V s) ∨ ((kd = 3 ∨ kd = 4) ∧ s < 5 ∧
   Ends J p q n (now1 V (1 - fr) (recvV kd (V (1 - fr)) (V fr) (p (1 - fr)))) (1 - fr) (ansV (recvV kd (V (1 - fr)) (V fr) (p (1 - fr))) (V fr)) (s + 1)))
theorem Ends.good {J : Vw} {p : Nat → Nat} {q : Prop} {n : Nat} {V : Nat → Vw} {fr : Nat} {kd : Int} {s : Nat} (h : Ends J p q n V fr kd s) : GoodT 1000 (V 0) ∧ GoodT 1000 (V 1) := by
 cases n with
 | zero => exact ⟨h.1, h.2.1⟩
 | succ n => exact ⟨h.1, h.2.1⟩
theorem Ends.goodAt {J : Vw} {p : Nat → Nat} {q : Prop} {n : Nat} {V : Nat → Vw} {fr : Nat} {kd : Int} {s : Nat} (h : Ends J p q n V fr kd s) {j : Nat} (hj : j < 2) : GoodT 1000 (V j) := by
 rcases (show j = 0 ∨ j = 1 by omega) with rfl | rfl
 ·exact h.good.1
 ·exact h.good.2
theorem Ends.fin {J : Vw} {p : Nat → Nat} {q : Prop} {n : Nat} {V : Nat → Vw} {fr s : Nat} (h : Ends J p q n V fr 0 s) : FinT J p q V s := by
 cases n with
 | zero => exact h.2.2.2
 | succ n =>
  rcases h.2.2 with h | h
  ·exact h.2
  ·rcases h.1 with e | e <;> cases e
theorem Ends.next {J : Vw} {p : Nat → Nat} {q : Prop} {n : Nat} {V : Nat → Vw} {fr : Nat} {kd : Int} {s : Nat} (h : Ends J p q n V fr kd s) (h0 : kd ≠ 0) : ∃ m, n = m + 1 ∧ (kd = 3 ∨ kd = 4) ∧ s < 5 ∧ Ends J p q m (now1 V (1 - fr) (recvV kd (V (1 - fr)) (V fr) (p (1 - fr)))) (1 - fr) (ansV (recvV kd (V (1 - fr)) (V fr) (p (1 - fr))) (V fr)) (s + 1) := by
 cases n with
 | zero => exact absurd h.2.2.1 h0
 | succ n =>
  rcases h.2.2 with h | h
  ·exact absurd h.1 h0
  ·exact ⟨n, rfl, h⟩
theorem now_pair (V : Nat → Vw) (fr : Nat) (hf : fr < 2) (T : Vw) : now1 V (1 - fr) T (1 - fr) = T ∧ now1 V (1 - fr) T fr = V fr :=
 ⟨now1_at _ _ _, now1_other (by omega)⟩
theorem finT_of {J : Vw} {p : Nat → Nat} {q : Prop} {V : Nat → Vw} {s fr : Nat} (hf : fr < 2) (hj : SameC (V fr) J) (hs : SameC (V fr) (V (1 - fr))) (he : (V fr).s = (V (1 - fr)).s) (h1 : nid (p 1) ∈ (V fr).s) (h0 : nid (p 0) ∈ (V fr).s ∨ s < 2) (hq : q → s = 1) : FinT J p q V s := by
 rcases (show fr = 0 ∨ fr = 1 by omega) with rfl | rfl
 ·exact ⟨hj, hs, he, h1, h0, hq⟩
 ·refine ⟨hs.symm.trans hj, hs.symm, he.symm, ?_, ?_, hq⟩
  ·rw [← he]; exact h1
  ·rw [← he]; exact h0
theorem cmp_self_of {V U : Vw} (h : SameC V U) : Clocks.cmp V.c U.c = 1 := by rw [h.c]; exact Clocks.cmp_self _
theorem ends_good {V : Nat → Vw} {fr : Nat} (hf : fr < 2) (g : GoodT 1000 (V fr)) (g' : GoodT 1000 (V (1 - fr))) : GoodT 1000 (V 0) ∧ GoodT 1000 (V 1) := by
 rcases (show fr = 0 ∨ fr = 1 by omega) with rfl | rfl
 ·exact ⟨g, g'⟩
 ·exact ⟨g', g⟩
theorem ends_tail {J : Vw} {p : Nat → Nat} {q : Prop} (hp : ∀ j, p j < 4) {V : Nat → Vw} {fr s : Nat} (hf : fr < 2) (g : GoodT 1000 (V fr)) (g' : GoodT 1000 (V (1 - fr))) (hj : SameC (V fr) J) (hs : SameC (V (1 - fr)) (V fr)) (hsub : ∀ x ∈ (V (1 - fr)).s, x ∈ (V fr).s) (hi : nid (p fr) ∈ (V fr).s) (hq : ¬ q) (h5 : s ≤ 3) : Ends J p q 2 V fr 3 s := by
 obtain ⟨a, b⟩ := ends_good hf g g';refine ⟨a, b, .inr ⟨.inl rfl, by omega, ?_⟩⟩
 rw [recv_three];have e1 : Clocks.cmp (V (1 - fr)).c (V fr).c = 1 := cmp_self_of hs
 obtain ⟨T, hT⟩ : ∃ T, T = stV (V (1 - fr)) (V fr) (p (1 - fr)) := ⟨_, rfl⟩;rw [← hT];have gT : GoodT 1000 T := by rw [hT]; exact g'.st (hp _) g
 have sT : SameC T (V fr) := by rw [hT]; exact (st_same _ _ _).trans hs
 have mT : ∀ x, x ∈ T.s ↔ x = nid (p (1 - fr)) ∨ x ∈ (V fr).s := fun x => by
  rw [hT];unfold stV;rw [if_pos e1];show x ∈ Sets.put (Sets.join (V (1 - fr)).s (V fr).s) (nid (p (1 - fr))) ↔ _
  rw [Sets.mem_put, Sets.mem_join];constructor
  ·rintro (h | h | h)
   ·exact .inl h
   ·exact .inr (hsub x h)
   ·exact .inr h
  ·rintro (h | h)
   ·exact .inl h
   ·exact .inr (.inr h)
 clear hT;obtain ⟨n1, n2⟩ := now_pair V fr hf T;obtain ⟨W, hW⟩ : ∃ W, W = now1 V (1 - fr) T := ⟨_, rfl⟩;rw [← hW] at n1 n2 ⊢;clear hW;have f1 : 1 - fr < 2 := by omega
 have f2 : 1 - (1 - fr) = fr := by omega
 have g1 : GoodT 1000 (W (1 - fr)) := by rw [n1]; exact gT
 have g2 : GoodT 1000 (W (1 - (1 - fr))) := by rw [f2, n2]; exact g
 obtain ⟨a, b⟩ := ends_good f1 g1 g2
 have hin : nid (p 0) ∈ T.s ∧ nid (p 1) ∈ T.s := by
  rcases (show fr = 0 ∨ fr = 1 by omega) with rfl | rfl
  ·exact ⟨(mT _).2 (.inr hi), (mT _).2 (.inl rfl)⟩
  ·exact ⟨(mT _).2 (.inl rfl), (mT _).2 (.inr hi)⟩
 have eT : Clocks.cmp T.c (V fr).c = 1 := cmp_self_of sT
 unfold ansV;rw [if_pos eT];split
 ·rename_i es
  refine ⟨a, b, .inl ⟨rfl, finT_of f1 ?_ ?_ ?_ ?_ ?_ (fun h => absurd h hq)⟩⟩
  ·rw [n1]; exact sT.trans hj
  ·rw [n1, f2, n2]; exact sT
  ·rw [n1, f2, n2]; exact es
  ·rw [n1]; exact hin.2
  ·rw [n1]; exact .inl hin.1
 ·refine ⟨a, b, .inr ⟨.inl rfl, by omega, ?_⟩⟩
  rw [recv_three, f2, n1, n2];obtain ⟨Y, hY⟩ : ∃ Y, Y = stV (V fr) T (p fr) := ⟨_, rfl⟩;rw [← hY];have gY : GoodT 1000 Y := by rw [hY]; exact g.st (hp _) gT
  have sY : SameC Y (V fr) := by rw [hY]; exact st_same _ _ _
  have eY : Y.s = T.s := by
   refine Sets.rises_ext gY.2.sr gT.2.sr fun x => ?_
   rw [hY];unfold stV;rw [if_pos (cmp_self_of sT.symm)];show x ∈ Sets.put (Sets.join (V fr).s T.s) (nid (p fr)) ↔ _
   rw [Sets.mem_put, Sets.mem_join];constructor
   ·rintro (rfl | h | h)
    ·exact (mT _).2 (.inr hi)
    ·exact (mT _).2 (.inr h)
    ·exact h
   ·exact fun h => .inr (.inr h)
  clear hY;have e0 : ansV Y T = 0 := by unfold ansV; rw [if_pos (cmp_self_of (sY.trans sT.symm)), if_pos eY]
  rw [e0];have m1 : now1 W fr Y fr = Y := now1_at _ _ _
  have m2 : now1 W fr Y (1 - fr) = T := by rw [now1_other (by omega), n1]
  obtain ⟨Z, hZ⟩ : ∃ Z, Z = now1 W fr Y := ⟨_, rfl⟩;rw [← hZ] at m1 m2 ⊢;obtain ⟨a, b⟩ := ends_good (V := Z) hf (by rw [m1]; exact gY) (by rw [m2]; exact gT)
  refine ⟨a, b, rfl, finT_of hf ?_ ?_ ?_ ?_ ?_ (fun h => absurd h hq)⟩
  ·rw [m1]; exact sY.trans hj
  ·rw [m1, m2]; exact sY.trans sT.symm
  ·rw [m1, m2]; exact eY
  ·rw [m1, eY]; exact hin.2
  ·rw [m1, eY]; exact .inl hin.1
end
section
open Go Go.RowKit
structure ActT where
 who : Int
 kind : Int
 m : Int
 s : Int
 view : Int
def ActsT (w : World) (v : Value) (l : List ActT) : Prop := ∃ A c, v = .slice A l.length c ∧ ∀ k (h : k < l.length), ∃ ad, A = some ad ∧ w.cell? (ad.add (k * 5)) = some (.int .u8 l[k].who) ∧ w.cell? ⟨(ad.add (k * 5)).block, (ad.add (k * 5)).off + 1, none⟩ = some (.int .u8 l[k].kind) ∧
 w.cell? ⟨(ad.add (k * 5)).block, (ad.add (k * 5)).off + 2, none⟩ = some (.int .u8 l[k].m) ∧ w.cell? ⟨(ad.add (k * 5)).block, (ad.add (k * 5)).off + 3, none⟩ = some (.int .u8 l[k].s) ∧ w.cell? ⟨(ad.add (k * 5)).block, (ad.add (k * 5)).off + 4, none⟩ = some (.int .i64 l[k].view) ∧ IsU8 l[k].who ∧ IsU8 l[k].kind ∧ IsU8 l[k].m ∧ IsU8 l[k].s
theorem ActsT.kp {w w' : World} {v : Value} {l : List ActT} (h : ActsT w v l) (hk : Kp w w') : ActsT w' v l := by
 obtain ⟨A, c, hv, hh⟩ := h;refine ⟨A, c, hv, fun k hlt => ?_⟩
 obtain ⟨ad, e, c0, c1, c2, c3, c4, hx⟩ := hh k hlt;have key : ∀ j u, w.cell? ⟨(ad.add (k * 5)).block, (ad.add (k * 5)).off + j, none⟩ = some u → w'.cell? ⟨(ad.add (k * 5)).block, (ad.add (k * 5)).off + j, none⟩ = some u := fun j u hu => hk.2 (ad.add (k * 5)) ⟨(ad.add (k * 5)).block, (ad.add (k * 5)).off + j, none⟩ rfl ⟨_, _, c0⟩ u hu
 exact ⟨ad, e, hk.2 _ _ rfl ⟨_, _, c0⟩ _ c0, key 1 _ c1, key 2 _ c2, key 3 _ c3, key 4 _ c4, hx⟩
theorem ActsT.at_ {w : World} {ad : Addr} {n c : Nat} {l : List ActT} (h : ActsT w (.slice (some ad) n c) l) {k : Nat} (h' : k < l.length) : w.cell? (ad.add (k * 5)) = some (.int .u8 l[k].who) ∧ w.cell? ⟨(ad.add (k * 5)).block, (ad.add (k * 5)).off + 1, none⟩ = some (.int .u8 l[k].kind) ∧
 w.cell? ⟨(ad.add (k * 5)).block, (ad.add (k * 5)).off + 2, none⟩ = some (.int .u8 l[k].m) ∧ w.cell? ⟨(ad.add (k * 5)).block, (ad.add (k * 5)).off + 3, none⟩ = some (.int .u8 l[k].s) ∧ w.cell? ⟨(ad.add (k * 5)).block, (ad.add (k * 5)).off + 4, none⟩ = some (.int .i64 l[k].view) ∧ IsU8 l[k].who ∧ IsU8 l[k].kind ∧ IsU8 l[k].m ∧ IsU8 l[k].s := by
 obtain ⟨A, c', e, hh⟩ := h;injection e with e1 e2 e3
 subst e1;obtain ⟨ad', e, h⟩ := hh k h';injection e with e
 subst e;exact h
def NowN (w : World) (g : Nat) (M : Nat) (now : Nat → Vw) : Prop := ∃ dn : Array V5, dn.size = M ∧ RowAtR encV 5 w g dn ∧ NoInt w g ∧ ∀ k, k < M → RVt w dn[k]! (now k)
theorem NowN.kept {w w' : World} {g : Nat} {M : Nat} {now : Nat → Vw} (h : NowN w g M now) (hk : Kp w w') (hb : w'.heap[g]? = w.heap[g]?) : NowN w' g M now := by
 obtain ⟨dn, h1, h2, h3, h4⟩ := h;exact ⟨dn, h1, rowAtR_block h2 hk.1 hb, h3.block hb, fun k hlt => (h4 k hlt).kp hk⟩
theorem NowN.lt {w : World} {g : Nat} {M : Nat} {now : Nat → Vw} (h : NowN w g M now) : g < w.heap.size := by
 obtain ⟨dn, _, h2, _⟩ := h;exact h2.1
theorem NowN.at_ {w : World} {g : Nat} {M : Nat} {now : Nat → Vw} (h : NowN w g M now) {k : Nat} (hk : k < M) : ∃ a b c d e : SL, RV w a b c d e (now k) ∧
  (w.cell? ⟨g, k * 5, none⟩ = some (.slice a.1 a.2.1 a.2.2) ∧ w.cell? ⟨g, k * 5 + 1, none⟩ = some (.slice b.1 b.2.1 b.2.2) ∧ w.cell? ⟨g, k * 5 + 2, none⟩ = some (.slice c.1 c.2.1 c.2.2) ∧ w.cell? ⟨g, k * 5 + 3, none⟩ = some (.slice d.1 d.2.1 d.2.2) ∧ w.cell? ⟨g, k * 5 + 4, none⟩ = some (.slice e.1 e.2.1 e.2.2)) ∧
  (w.frozen? ⟨g, k * 5, none⟩ = false ∧ w.frozen? ⟨g, k * 5 + 1, none⟩ = false ∧ w.frozen? ⟨g, k * 5 + 2, none⟩ = false ∧ w.frozen? ⟨g, k * 5 + 3, none⟩ = false ∧ w.frozen? ⟨g, k * 5 + 4, none⟩ = false) := by
 obtain ⟨dn, h1, h2, h3, h4⟩ := h;have q := h2.2 k (by omega)
 exact ⟨_, _, _, _, _, h4 k hk, ⟨(q 0 _ rfl).1, (q 1 _ rfl).1, (q 2 _ rfl).1, (q 3 _ rfl).1, (q 4 _ rfl).1⟩, (q 0 _ rfl).2, (q 1 _ rfl).2, (q 2 _ rfl).2, (q 3 _ rfl).2, (q 4 _ rfl).2⟩
theorem NowN.put {w : World} {g : Nat} {M : Nat} {now : Nat → Vw} (h : NowN w g M now) {k : Nat} (hk : k < M) {t : V5} {T : Vw} (ht : RVt w t T) (_hM : M ≤ 1000) : NowN (w.setCells g (k * 5) (encV t)) g M (now1 now k T) ∧ Kp w (w.setCells g (k * 5) (encV t)) := by
 have hat := h.at_ hk;obtain ⟨dn, h1, h2, h3, h4⟩ := h
 have hkp : Kp w (w.setCells g (k * 5) (encV t)) := kp_noInt (grown_setCells (World.grownBy.refl w (some g)) (k * 5) (encV t)) fun g' e => by
  obtain rfl := Option.some.inj e;exact h3
 refine ⟨⟨dn.setIfInBounds k t, by simpa using h1, rowAtR_set encV_len h2 (by omega) t, ?_, fun j hj => ?_⟩, hkp⟩
 ·intro x hx i n hc
  -- a cell of the block is one of the five, or as it was
  obtain ⟨_, _, _, _, _, _, ⟨c0, c1, c2, c3, c4⟩, _⟩ := hat
  have hall : ∀ j, j < (encV t).length → (w.cell? ⟨g, k * 5 + j, none⟩).isSome = true := fun j hj => by
   have hj : j < 5 := hj
   rcases (show j = 0 ∨ j = 1 ∨ j = 2 ∨ j = 3 ∨ j = 4 by omega) with rfl | rfl | rfl | rfl | rfl
   ·rw [show k * 5 + 0 = k * 5 from rfl, c0]; rfl
   ·rw [c1]; rfl
   ·rw [c2]; rfl
   ·rw [c3]; rfl
   ·rw [c4]; rfl
  by_cases hin : x.spot = none ∧ k * 5 ≤ x.off ∧ x.off < k * 5 + 5
  ·obtain ⟨hp, hl, hr⟩ := hin
   have e : x = ⟨g, k * 5 + (x.off - k * 5), none⟩ := by
    obtain ⟨xb, xo, xs⟩ := x;dsimp only at hx hp hl hr ⊢;subst hx hp;congr 1
    omega
   have hlt : x.off - k * 5 < (encV t).length := by rw [encV_len]; omega
   rw [e, World.cell?_setCells_in g (encV t) (k * 5) w hall (x.off - k * 5) hlt] at hc;exact encV_no t _ (List.getElem_mem hlt) i n (Option.some.inj hc)
  ·rw [World.cell?_setCells_out g (encV t) (k * 5) w x (fun _ hp => by
    rw [encV_len];rcases Nat.lt_or_ge x.off (k * 5) with a | a
    ·exact .inl a
    ·rcases Nat.lt_or_ge x.off (k * 5 + 5) with b | b
     ·exact absurd ⟨hp, a, b⟩ hin
     ·exact .inr b)] at hc
   exact h3 x hx i n hc
 ·by_cases e : j = k
  ·subst e
   rw [now1_at, getElem!_pos _ j (by simp; omega), Array.getElem_setIfInBounds_self]
   exact ht.kp hkp
  ·have hjd : j < dn.size := by omega
   have e5 : (dn.setIfInBounds k t)[j]! = dn[j]! := by rw [getElem!_pos _ j (by simpa using hjd), Array.getElem_setIfInBounds_ne _ (fun h => e h.symm), getElem!_pos dn j hjd]
   rw [now1_other e, e5];exact (h4 j hj).kp hkp
structure OneT (w : World) (GN b1 : Nat) (v0 : Value) (l : List ActT) (now : Nat → Vw) (had : List Vw) (vh : Value) (W : World) : Prop where
 acts : ActsT W v0 l
 nb : NowN W GN 3 now
 hb : HadAt W b1 vh had
 lt : GN < b1
 s1 : b1 ≤ W.heap.size
 wl : w.heap.size ≤ GN
 below : Below w.heap.size w W
theorem OneT.step {w : World} {GN b1 : Nat} {v0 : Value} {l : List ActT} {now : Nat → Vw} {had : List Vw} {vh : Value} {W W' : World} (h : OneT w GN b1 v0 l now had vh W) (hb : Below W.heap.size W W') : OneT w GN b1 v0 l now had vh W' :=
 ⟨h.acts.kp (kp_below hb), h.nb.kept (kp_below hb) (hb.block _ h.nb.lt), h.hb.below hb, h.lt, Nat.le_trans h.s1 hb.size, h.wl, ba_ h.below hb⟩
theorem OneT.put {w : World} {GN b1 : Nat} {v0 : Value} {l : List ActT} {now : Nat → Vw} {had : List Vw} {vh : Value} {W : World} (h : OneT w GN b1 v0 l now had vh W) {k : Nat} (hk : k < 3) {t : V5} {T : Vw} (ht : RVt W t T) : OneT w GN b1 v0 l (now1 now k T) had vh (W.setCells GN (k * 5) (encV t)) := by
 obtain ⟨h1, h2⟩ := h.nb.put hk ht (by decide)
 exact ⟨h.acts.kp h2, h1, h.hb.kept h2 (grown_setCells (World.grownBy.refl W (some GN)) (k * 5) (encV t)) (fun g e => by obtain rfl := Option.some.inj e; exact h.lt), h.lt, by rw [size_setCells]; exact h.s1, h.wl, below_setCells h.below h.wl _ _⟩
theorem OneT.push {w : World} {GN b1 : Nat} {v0 : Value} {l : List ActT} {now : Nat → Vw} {had : List Vw} {vh v' : Value} {W W' : World} (h : OneT w GN b1 v0 l now had vh W) {hs : List V5} {t : V5} {T : Vw} (ht : RVt W t T) (h0 : OwnsR encV 5 27 W b1 vh hs) (h00 : ∀ g, vh.ownBlock = some g → NoInt W g) (hl : hs.length = had.length) (hr : ∀ k (h : k < hs.length) (h' : k < had.length), RVt W hs[k] had[k])
  (h1 : OwnsR encV 5 27 W' b1 v' (hs ++ [t])) (h2 : W.grownBy W' vh.ownBlock) (h3 : ∀ g, v'.ownBlock = some g → NoInt W' g) : OneT w GN b1 v0 l now (had ++ [T]) v' W' := by
 have hk : Kp W W' := kp_noInt h2 h00
 have hown := World.ownsRow.lt h0;refine ⟨h.acts.kp hk, h.nb.kept hk (h2.block _ h.nb.lt (fun e => by have := (hown GN e.symm).1; have := h.lt; omega)), ⟨hs ++ [t], h1, h3, by simp [hl], fun k a b => ?_⟩, h.lt, Nat.le_trans h.s1 h2.size, h.wl, h.below.grown h2 h.below.size (fun j hj => by have := (hown j hj).1; have := h.lt; have := h.wl; omega)⟩
 rcases Nat.lt_or_ge k hs.length with e | e
 ·rw [List.getElem_append_left e, List.getElem_append_left (by omega)]
  exact (hr k e (by omega)).kp hk
 ·have e1 : k = hs.length := by simp at a; omega
  subst e1;rw [List.getElem_append_right (by omega), List.getElem_append_right (by omega)]
  simpa [hl] using ht.kp hk
theorem nowN_of {w : World} {g : Nat} {cs : Array Value} {t : TypeId} {M : Nat} {now : Nat → Vw} (dn : Array V5) (hM : dn.size = M) (hb : w.heap[g]? = some (.cells cs t (0, 0))) (hc : cs.toList = flatR encV dn.toList) (hr : ∀ k, k < M → RVt w dn[k]! (now k)) : NowN w g M now := by
 refine ⟨dn, hM, ⟨row_lt hb, fun k hk j u hu => ?_⟩, noInt_cells hb fun u hu => ?_, hr⟩
 ·have hj : j < 5 := (List.getElem?_eq_some_iff.1 hu).1
  refine ⟨?_, by simp [World.frozen?, hb]⟩
  rw [cell_of_row _ _ (k * 5 + j) _ _ _ hb];have e1 : dn.toList[k]'(by simpa using hk) = dn[k]! := by rw [getElem!_pos dn k hk]; simp
  have h := flatR_at encV_len dn.toList k (by simpa using hk) j u (by rw [e1]; exact hu)
  rw [← hc] at h;simpa using h
 ·rw [hc] at hu
  obtain ⟨x, _, hx⟩ := List.mem_flatMap.1 hu;exact encV_no x u hx
theorem nil_V5 (W : World) : RVt W ((none, 0, 0), (none, 0, 0), (none, 0, 0), (none, 0, 0), (none, 0, 0)) noV := ⟨Rcs.nil _, Ids.nil _, RowsAt.nil _, Rcs.nil _, Ids.nil _⟩
end
section
open Go Go.RowKit
def FBx (w : World) (g : Nat) (k f1 f2 t1 t2 n tk b1 b2 : Int) (a b c d e : SL) : Prop := w.heap[g]? = some (.cells #[.int .u8 k, .int .i64 f1, .int .i64 f2, .int .i64 t1, .int .i64 t2, .int .i64 n, .int .i64 tk, .int .i64 b1, .int .i64 b2, .slice a.1 a.2.1 a.2.2, .slice b.1 b.2.1 b.2.2, .slice c.1 c.2.1 c.2.2, .slice d.1 d.2.1 d.2.2, .slice e.1 e.2.1 e.2.2] 48 (0, 0))
theorem fbx_cells {w : World} {g : Nat} {k f1 f2 t1 t2 n tk b1 b2 : Int} {a b c d e : SL} (h : FBx w g k f1 f2 t1 t2 n tk b1 b2 a b c d e) : w.cell? ⟨g, 0, none⟩ = some (.int .u8 k) ∧ w.cell? ⟨g, 1, none⟩ = some (.int .i64 f1) ∧ w.cell? ⟨g, 2, none⟩ = some (.int .i64 f2) ∧ w.cell? ⟨g, 3, none⟩ = some (.int .i64 t1) ∧ w.cell? ⟨g, 4, none⟩ = some (.int .i64 t2) ∧ w.cell? ⟨g, 5, none⟩ = some (.int .i64 n) ∧ w.cell? ⟨g, 6, none⟩ = some (.int .i64 tk) ∧ w.cell? ⟨g, 7, none⟩ = some (.int .i64 b1) ∧ w.cell? ⟨g, 8, none⟩ = some (.int .i64 b2) ∧ w.cell? ⟨g, 9, none⟩ = some (.slice a.1 a.2.1 a.2.2) ∧ w.cell? ⟨g, 10, none⟩ = some (.slice b.1 b.2.1 b.2.2) ∧ w.cell? ⟨g, 11, none⟩ = some (.slice c.1 c.2.1 c.2.2) ∧ w.cell? ⟨g, 12, none⟩ = some (.slice d.1 d.2.1 d.2.2) ∧ w.cell? ⟨g, 13, none⟩ = some (.slice e.1 e.2.1 e.2.2) := by
 unfold FBx at h;exact ⟨by rw [cell_of_row _ _ 0 _ _ _ h]; rfl, by rw [cell_of_row _ _ 1 _ _ _ h]; rfl, by rw [cell_of_row _ _ 2 _ _ _ h]; rfl, by rw [cell_of_row _ _ 3 _ _ _ h]; rfl, by rw [cell_of_row _ _ 4 _ _ _ h]; rfl, by rw [cell_of_row _ _ 5 _ _ _ h]; rfl, by rw [cell_of_row _ _ 6 _ _ _ h]; rfl, by rw [cell_of_row _ _ 7 _ _ _ h]; rfl, by rw [cell_of_row _ _ 8 _ _ _ h]; rfl, by rw [cell_of_row _ _ 9 _ _ _ h]; rfl, by rw [cell_of_row _ _ 10 _ _ _ h]; rfl, by rw [cell_of_row _ _ 11 _ _ _ h]; rfl, by rw [cell_of_row _ _ 12 _ _ _ h]; rfl, by rw [cell_of_row _ _ 13 _ _ _ h]; rfl⟩
theorem fbx_free {w : World} {g : Nat} {k f1 f2 t1 t2 n tk b1 b2 : Int} {a b c d e : SL} (h : FBx w g k f1 f2 t1 t2 n tk b1 b2 a b c d e) : w.frozen? ⟨g, 0, none⟩ = false ∧ w.frozen? ⟨g, 1, none⟩ = false ∧ w.frozen? ⟨g, 2, none⟩ = false ∧ w.frozen? ⟨g, 3, none⟩ = false ∧ w.frozen? ⟨g, 4, none⟩ = false ∧ w.frozen? ⟨g, 5, none⟩ = false ∧ w.frozen? ⟨g, 6, none⟩ = false ∧ w.frozen? ⟨g, 7, none⟩ = false ∧ w.frozen? ⟨g, 8, none⟩ = false ∧ w.frozen? ⟨g, 9, none⟩ = false ∧ w.frozen? ⟨g, 10, none⟩ = false ∧ w.frozen? ⟨g, 11, none⟩ = false ∧ w.frozen? ⟨g, 12, none⟩ = false ∧ w.frozen? ⟨g, 13, none⟩ = false := by
 unfold FBx at h;exact ⟨by simp [World.frozen?, h], by simp [World.frozen?, h], by simp [World.frozen?, h], by simp [World.frozen?, h], by simp [World.frozen?, h], by simp [World.frozen?, h], by simp [World.frozen?, h], by simp [World.frozen?, h], by simp [World.frozen?, h], by simp [World.frozen?, h], by simp [World.frozen?, h], by simp [World.frozen?, h], by simp [World.frozen?, h], by simp [World.frozen?, h]⟩
theorem fbx_new (w : World) (k f1 f2 t1 t2 n tk b1 b2 : Int) (a b c d e : SL) : FBx (w.alloc (.cells #[.int .u8 k, .int .i64 f1, .int .i64 f2, .int .i64 t1, .int .i64 t2, .int .i64 n, .int .i64 tk, .int .i64 b1, .int .i64 b2, .slice a.1 a.2.1 a.2.2, .slice b.1 b.2.1 b.2.2, .slice c.1 c.2.1 c.2.2, .slice d.1 d.2.1 d.2.2, .slice e.1 e.2.1 e.2.2] 48)) w.heap.size k f1 f2 t1 t2 n tk b1 b2 a b c d e := heap_alloc_new w _
theorem fbx_lt {w : World} {g : Nat} {k f1 f2 t1 t2 n tk b1 b2 : Int} {a b c d e : SL} (h : FBx w g k f1 f2 t1 t2 n tk b1 b2 a b c d e) : g < w.heap.size := row_lt h
theorem fbx_below {w w' : World} {g : Nat} {k f1 f2 t1 t2 n tk b1 b2 : Int} {a b c d e : SL} (h : FBx w g k f1 f2 t1 t2 n tk b1 b2 a b c d e) (hb : Below w.heap.size w w') : FBx w' g k f1 f2 t1 t2 n tk b1 b2 a b c d e := (hb.block _ (fbx_lt h)).trans h
theorem at39_any (x : Int) (w : World) : Calls Tryz.prog 39 #[.int .i64 x] w fun e w' => e = .returned (.agg #[.int .i64 x, .int .i64 1]) ∧ Below w.heap.size w w' := by
 have HX := hd_ (ao_ w x 1);have HB := hd_ (ad_ w (.cells #[.int .i64 x, .int .i64 1] 29));obtain ⟨q0, q1⟩ := ae_ (ao_ w x 1);go_enter Tryz.func39, Tryz.ntmps39
 go_wp2_with fail;refine bodyPost_ret (v := .agg #[.int .i64 x, .int .i64 1]) (by simp [results, Tryz.results39, go_sem, q0, q1]) rfl ?_
 exact ⟨rfl, HB.out⟩
def partV (V : Vw) : Vw := ⟨[], [], [], V.c, V.s⟩
theorem fit_part {n : Nat} {V : Vw} (h : FitVIE n V) : FitVIE n (partV V) := ⟨Nat.zero_le _, Nat.zero_le _, Nat.zero_le _, h.c, h.s, fun r hr => by cases hr⟩
theorem part_at {w : World} {a b c d e : SL} {V : Vw} (h : RV w a b c d e V) : RV w (none, 0, 0) (none, 0, 0) (none, 0, 0) d e (partV V) := ⟨Rcs.nil _, Ids.nil _, RowsAt.nil _, h.c, h.s⟩
set_option maxHeartbeats 4000000 in
theorem part_any (v : Value) (V : Vw) (w : World) (h : VAt w v V) (hV : FitVIE 1000 V) :
  Calls Tryz.prog 35 #[v] w fun e w' => ∃ X, e = .returned X ∧ VAt w' X (partV V) ∧ Below w.heap.size w w' := by
 obtain ⟨a, b, c, d, e, rfl, hr⟩ := h;have q1 := ad_ w (.cells #[.slice a.1 a.2.1 a.2.2, .slice b.1 b.2.1 b.2.2, .slice c.1 c.2.1 c.2.2, .slice d.1 d.2.1 d.2.2, .slice e.1 e.2.1 e.2.2] 27);have q2 := ad_ (w.alloc (.cells #[.slice a.1 a.2.1 a.2.2, .slice b.1 b.2.1 b.2.2, .slice c.1 c.2.1 c.2.2, .slice d.1 d.2.1 d.2.2, .slice e.1 e.2.1 e.2.2] 27)) (.cells #[.slice none 0 0, .slice none 0 0, .slice none 0 0, .slice none 0 0, .slice none 0 0] 27);have Q := (ba_ q1 q2);have X1 : Hid (VBox ((w.alloc (.cells #[.slice a.1 a.2.1 a.2.2, .slice b.1 b.2.1 b.2.2, .slice c.1 c.2.1 c.2.2, .slice d.1 d.2.1 d.2.2, .slice e.1 e.2.1 e.2.2] 27)).alloc (.cells #[.slice none 0 0, .slice none 0 0, .slice none 0 0, .slice none 0 0, .slice none 0 0] 27)) (w.heap.size) a b c d e) := hd_ (ab_ (ak_ w a b c d e) q2)
 have X2 : Hid (VBox ((w.alloc (.cells #[.slice a.1 a.2.1 a.2.2, .slice b.1 b.2.1 b.2.2, .slice c.1 c.2.1 c.2.2, .slice d.1 d.2.1 d.2.2, .slice e.1 e.2.1 e.2.2] 27)).alloc (.cells #[.slice none 0 0, .slice none 0 0, .slice none 0 0, .slice none 0 0, .slice none 0 0] 27)) (w.heap.size + 1) (none, 0, 0) (none, 0, 0) (none, 0, 0) (none, 0, 0) (none, 0, 0)) := hd_ (by have h := (ak_ (w.alloc (.cells #[.slice a.1 a.2.1 a.2.2, .slice b.1 b.2.1 b.2.2, .slice c.1 c.2.1 c.2.2, .slice d.1 d.2.1 d.2.2, .slice e.1 e.2.1 e.2.2] 27)) (none, 0, 0) (none, 0, 0) (none, 0, 0) (none, 0, 0) (none, 0, 0)); simp only [World.size_alloc] at h; exact h)
 have RA := hd_ (hr.below Q);have BQ := hd_ Q;clear hr q1 q2 Q;obtain ⟨p0, p1, p2, p3, p4⟩ := aa_ X1.out;go_enter Tryz.func35, Tryz.ntmps35
 go_wp2_with fail;(with_reducible refine (copyV_any _ (partV V) _ (part_at RA.out).at_ (fit_part hV)).mono ?_)
 rintro e1 w3 ⟨X, rfl, hx, hb⟩;obtain ⟨s0, s1, s2, s3, s4, rfl, hj⟩ := hx;have Y2 := hd_ (ab_ X2.out hb);have YR := hd_ hj;have YB := hd_ (ba_ BQ.out hb);clear hb hj X1 X2 RA BQ p0 p1 p2 p3 p4;obtain ⟨z0, z1, z2, z3, z4⟩ := aa_ Y2.out;obtain ⟨h0, h1, h2, h3, h4⟩ := al_ Y2.out;dsimp only at z0 z1 z2 z3 z4;go_wp2_with fail;obtain ⟨c0, c1, c2, c3, c4⟩ := aa_ (a2_ Y2.out s0 s1 s2 s3 s4);refine bodyPost_ret (v := .agg #[.slice s0.1 s0.2.1 s0.2.2, .slice s1.1 s1.2.1 s1.2.2, .slice s2.1 s2.2.1 s2.2.2, .slice s3.1 s3.2.1 s3.2.2, .slice s4.1 s4.2.1 s4.2.2]) (by simp [results, Tryz.results35, go_sem, c0, c1, c2, c3, c4]) rfl ?_
 have hk2 := kp_set Y2.out [.slice s0.1 s0.2.1 s0.2.2, .slice s1.1 s1.2.1 s1.2.2, .slice s2.1 s2.2.1 s2.2.2, .slice s3.1 s3.2.1 s3.2.2, .slice s4.1 s4.2.1 s4.2.2];exact ⟨_, rfl, (YR.out.kp hk2).at_, below_setCells YB.out (by omega) 0 [.slice s0.1 s0.2.1 s0.2.2, .slice s1.1 s1.2.1 s1.2.2, .slice s2.1 s2.2.1 s2.2.2, .slice s3.1 s3.2.1 s3.2.2, .slice s4.1 s4.2.1 s4.2.2]⟩
def ansP (T U : Vw) : Int := if Clocks.cmp T.c U.c = 1 then (if sameB (Sets.setOf T.s) (Sets.setOf U.s) = true then 0 else 3) else if Clocks.cmp T.c U.c = 2 then 3 else 4
set_option maxHeartbeats 4000000 in
theorem answer_any (v u : Value) (V U : Vw) (w : World) (h : VAt w v V) (k : VAt w u U) (hV : FitVIE 1000 V) (hU : FitVIE 1000 U) :
  Calls Tryz.prog 88 #[v, u] w fun e w' => e = .returned (.int .u8 (ansP V U)) ∧ Below w.heap.size w w' := by
 obtain ⟨a, b, c, d, e, rfl, hr⟩ := h;obtain ⟨a', b', c', d', e', rfl, kr⟩ := k;have q1 := ad_ w (.cells #[.slice a.1 a.2.1 a.2.2, .slice b.1 b.2.1 b.2.2, .slice c.1 c.2.1 c.2.2, .slice d.1 d.2.1 d.2.2, .slice e.1 e.2.1 e.2.2] 27);have q2 := ad_ (w.alloc (.cells #[.slice a.1 a.2.1 a.2.2, .slice b.1 b.2.1 b.2.2, .slice c.1 c.2.1 c.2.2, .slice d.1 d.2.1 d.2.2, .slice e.1 e.2.1 e.2.2] 27)) (.cells #[.slice a'.1 a'.2.1 a'.2.2, .slice b'.1 b'.2.1 b'.2.2, .slice c'.1 c'.2.1 c'.2.2, .slice d'.1 d'.2.1 d'.2.2, .slice e'.1 e'.2.1 e'.2.2] 27);have Q := (ba_ q1 q2);have X1 : Hid (VBox ((w.alloc (.cells #[.slice a.1 a.2.1 a.2.2, .slice b.1 b.2.1 b.2.2, .slice c.1 c.2.1 c.2.2, .slice d.1 d.2.1 d.2.2, .slice e.1 e.2.1 e.2.2] 27)).alloc (.cells #[.slice a'.1 a'.2.1 a'.2.2, .slice b'.1 b'.2.1 b'.2.2, .slice c'.1 c'.2.1 c'.2.2, .slice d'.1 d'.2.1 d'.2.2, .slice e'.1 e'.2.1 e'.2.2] 27)) (w.heap.size) a b c d e) := hd_ (ab_ (ak_ w a b c d e) q2)
 have X2 : Hid (VBox ((w.alloc (.cells #[.slice a.1 a.2.1 a.2.2, .slice b.1 b.2.1 b.2.2, .slice c.1 c.2.1 c.2.2, .slice d.1 d.2.1 d.2.2, .slice e.1 e.2.1 e.2.2] 27)).alloc (.cells #[.slice a'.1 a'.2.1 a'.2.2, .slice b'.1 b'.2.1 b'.2.2, .slice c'.1 c'.2.1 c'.2.2, .slice d'.1 d'.2.1 d'.2.2, .slice e'.1 e'.2.1 e'.2.2] 27)) (w.heap.size + 1) a' b' c' d' e') := hd_ (by have h := (ak_ (w.alloc (.cells #[.slice a.1 a.2.1 a.2.2, .slice b.1 b.2.1 b.2.2, .slice c.1 c.2.1 c.2.2, .slice d.1 d.2.1 d.2.2, .slice e.1 e.2.1 e.2.2] 27)) a' b' c' d' e'); simp only [World.size_alloc] at h; exact h)
 have RA := hd_ (hr.below Q);have RB := hd_ (kr.below Q);have BQ := hd_ Q;clear hr kr q1 q2 Q;obtain ⟨p0, p1, p2, p3, p4⟩ := aa_ X1.out;obtain ⟨t0, t1, t2, t3, t4⟩ := aa_ X2.out;go_enter Tryz.func88, Tryz.ntmps88
 go_wp2_with fail;(with_reducible refine (compare_clocks _ _ V.c U.c _ RA.out.c RB.out.c (Nat.le_trans hV.c (by decide)) (Nat.le_trans hU.c (by decide))).mono ?_)
 rintro e1 w3 ⟨rfl, hb⟩;have Y1 := hd_ (ab_ X1.out hb);have Y2 := hd_ (ab_ X2.out hb);have YA := hd_ (RA.out.below hb);have YB := hd_ (RB.out.below hb);have BR := hd_ (ba_ BQ.out hb);clear hb p0 p1 p2 p3 p4 t0 t1 t2 t3 t4 X1 X2 RA RB BQ;obtain ⟨p0, p1, p2, p3, p4⟩ := aa_ Y1.out;obtain ⟨t0, t1, t2, t3, t4⟩ := aa_ Y2.out;have hc := Clocks.cmp_range V.c U.c;have HE : Hid (ansP V U = if Clocks.cmp V.c U.c = 1 then (if sameB (Sets.setOf V.s) (Sets.setOf U.s) = true then 0 else 3) else if Clocks.cmp V.c U.c = 2 then 3 else 4) := hd_ rfl
 generalize Clocks.cmp V.c U.c = m at *;by_cases hm : m = 1
 ·subst hm
  go_wp2_with fail;(with_reducible refine (same_any _ _ V.s U.s _ YA.out.s YB.out.s (Nat.le_trans hV.s (by decide)) (Nat.le_trans hU.s (by decide))).mono ?_)
  rintro e2 w4 ⟨rfl, hb⟩;have BS := hd_ (ba_ BR.out hb);clear hb;generalize sameB (Sets.setOf V.s) (Sets.setOf U.s) = y at *;cases y
  all_goals
   go_wp2_with fail;go_ret;exact ⟨by rw [HE.out]; rfl, BS.out⟩
 ·have d1 : ((m : Int) == 1) = false := by simp; omega
  by_cases hm2 : m = 2
  ·subst hm2
   go_wp2_with fail;go_ret;exact ⟨by rw [HE.out]; rfl, BR.out⟩
  ·have d2 : ((m : Int) == 2) = false := by simp; omega
   go_wp2_with fail;go_ret;exact ⟨by rw [HE.out, if_neg hm, if_neg hm2]; rfl, BR.out⟩
end
end Go.Proofs.YthkkipbmlafdiaaGreat
