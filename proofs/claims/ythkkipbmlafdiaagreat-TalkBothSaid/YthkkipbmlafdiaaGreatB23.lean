/-
  Contracts and plain facts.
-/
import Derived.Test.YthkkipbmlafdiaaGreatOy
import Derived.RangeFuncNested
import Derived.RangeFuncBound
import Derived.RangeFuncCalls
import Derived.RangeFuncLeaves
import Derived.RangeFuncFrom
import Derived.OwnWalkIn
import Derived.Lib.Hide
import Derived.TacticsInMore
import Derived.LoopNIn
import Derived.LoopIn
import Derived.OrdersIn
import Derived.Deep.AppendLies
import Derived.Test.YthkkipbmlafdiaaGreatB21
set_option maxRecDepth 20000
namespace Go.Proofs.YthkkipbmlafdiaaGreat
section
open Go Go.RowKit
def Span (lo hi : Nat) (w w' : World) : Prop := w.heap.size ≤ w'.heap.size ∧ ∀ k, lo ≤ k → k < hi → w'.heap[k]? = w.heap[k]?
theorem Span.refl (lo hi : Nat) (w : World) : Span lo hi w w := ⟨Nat.le_refl _, fun _ _ _ => rfl⟩
theorem Span.trans {lo hi : Nat} {a b c : World} (h : Span lo hi a b) (k : Span lo hi b c) : Span lo hi a c := ⟨Nat.le_trans h.1 k.1, fun i h1 h2 => (k.2 i h1 h2).trans (h.2 i h1 h2)⟩
variable {P : Program} {α : Type}
def EachSeq (P : Program) (gf : Nat) (lb : Array Value) (encs : α → Array Value) (Pr : α → World → Prop) (S : List α → Prop) (N b0 : Nat) (w : World) : Prop :=
 ∀ (l : Nat) (J : Nat → List α → World → Prop) (W : World), Below w.heap.size w W →
  (∀ hi W', W.heap.size ≤ hi → Below W.heap.size W W' → J hi [] W') →
  (∀ hi pre A B, J hi pre A → Below A.heap.size A B → J hi pre B) →
  (∀ hi pre x A, W.heap.size ≤ hi → hi ≤ A.heap.size → J hi pre A → Pr x A → pre.length < N →
   YieldAt Fence.wide 0 P l (encs x) A fun e B => e = .returned (.bool true) ∧ J hi (pre ++ [x]) B ∧ Below b0 A B ∧ Span W.heap.size hi A B) →
  CallsIn Fence.wide 0 P gf (#[.func (.yield l) #[] #[]] ++ lb) W fun e B => (∃ v, e = .returned v) ∧ ∃ hi xs, S xs ∧ J hi xs B ∧ Below b0 W B
def KeepsE (b0 lo hi D : Nat) (A B : World) : Prop := Below b0 A B ∧ Span lo hi A B ∧ B.heap[D]? = A.heap[D]?
def eachPost (b0 lo hi L D : Nat) (I : World → Prop) (C : World) : Exit → Act → World → Prop
 | .normal, _, E => KeepsE b0 lo hi D C E ∧ E.heap[L]? = C.heap[L]? ∧ I E
 | _, _, _ => False
theorem wp_each {g : Operand} {ps : Array Tmp} {assign body : Code} {Q : Exit → Act → World → Prop} {a : Act} {w : World} {gf : Nat} {lb : Array Value} (hg : a.eval g = .func (.func gf) #[] lb)
  (eg : ∀ args w, (callFunc gf args).run P w = .ok (.enter gf args) w) {encs : α → Array Value} {Pr : α → World → Prop} {S : List α → Prop} {N b0 : Nat} (hseq : EachSeq P gf lb encs Pr S N b0 w) (hps : ∀ x, (encs x).size = ps.size) (hb0 : b0 ≤ w.heap.size)
  (I : Nat → List α → World → Prop)
  (h0 : ∀ hi W, w.heap.size + 2 ≤ hi → Below w.heap.size w W → I hi [] W)
  (hI : ∀ hi pre A B, I hi pre A → A.grownBy B (some (w.heap.size + 1)) → I hi pre B)
  (hround : ∀ hi pre x A, w.heap.size + 2 ≤ hi → hi ≤ A.heap.size → I hi pre A → Pr x A → pre.length < N → (∃ r, A.heap[w.heap.size + 1]? = some (.loop r)) →
   assign.wpIn (Fence.wide.inRound (w.heap.size + 1)) 0 P
    (Exit.then (fun a1 B => KeepsE b0 (w.heap.size + 2) hi w.heap.size A B ∧ B.heap[w.heap.size + 1]? = A.heap[w.heap.size + 1]? ∧
      ∀ C, B.grownBy C (some (w.heap.size + 1)) → body.wpIn (Fence.wide.inRound (w.heap.size + 1)) 0 P (eachPost b0 (w.heap.size + 2) hi (w.heap.size + 1) w.heap.size (I hi (pre ++ [x])) C) a1 C)
     (fun _ _ _ => False)) { tmps := (ps.zip (encs x)).foldl (fun t (p, v) => t.setIfInBounds p v) a.tmps, defers := [] } A)
  (hdone : ∀ hi xs W, S xs → I hi xs W → Below b0 w W → W.heap[w.heap.size]? = some (.deferred (some [])) → Q .normal { a with defers := { target := .collected w.heap.size, args := #[] } :: a.defers } W) :
  (Code.rangeFunc g ps assign body).wpIn Fence.wide 0 P Q a w := by
 refine wpIn_rangeFunc ?_
 intro fn _;obtain ⟨r0, hr0⟩ : ∃ r : Loop, r = { state := .ready, pending := none, fn, tmps := a.tmps, params := ps, assign, body, defers := w.heap.size } := ⟨_, rfl⟩;have hend : ({ { r0 with state := .busy } with state := .ready, pending := none } : Loop) = r0 := by rw [hr0]
 obtain ⟨W1, hW1⟩ : ∃ W1, (w.alloc (.deferred (some []))).alloc (.loop r0) = W1 := ⟨_, rfl⟩;have hs1 : W1.heap.size = w.heap.size + 2 := by rw [← hW1]; simp
 have hL1 : W1.heap[w.heap.size + 1]? = some (.loop r0) := by
  rw [← hW1];have := World.alloc_heap_new (w.alloc (.deferred (some []))) (.loop r0)
  rwa [World.size_alloc] at this
 have hD1 : W1.heap[w.heap.size]? = some (.deferred (some [])) := by
  rw [← hW1];exact (Below.heap_alloc _ _ _ (by simp)).trans (World.alloc_heap_new w _)
 have hb1 : Below w.heap.size w W1 := by
  rw [← hW1];exact ((Below.refl _ w).alloc (Nat.le_refl _) _).alloc (by simp) _
 have put : ∀ (A : World) (o : Obj), w.heap.size + 1 < A.heap.size → A.grownBy (A.putObj (w.heap.size + 1) o) (some (w.heap.size + 1)) := fun A o _ => grownBy_putObj' A _ o
 have putK : ∀ (A : World) (o : Obj) (hi : Nat), w.heap.size + 1 < A.heap.size → KeepsE b0 (w.heap.size + 2) hi w.heap.size A (A.putObj (w.heap.size + 1) o) := fun A o hi h => by
  have hp := put A o h;refine ⟨(Below.refl b0 A).grown hp (by omega) (fun k e => by cases e; omega), ⟨hp.size, fun k h1 _ => ?_⟩, World.putObj_heap_other (by omega)⟩
  exact World.putObj_heap_other (by omega)
 refine ⟨w.heap.size + 1, [{ target := .collected w.heap.size, args := #[] }], W1, { target := .fn (.func gf) lb, args := #[.func (.yield (w.heap.size + 1)) #[] #[]] }, W1, gf,
  #[.func (.yield (w.heap.size + 1)) #[] #[]] ++ lb, W1, ?_, ?_, ?_, ?_, (fun h => by simp [Fence.wide] at h), ?_⟩
 ·rw [← hW1, hr0]
  exact run_enterLoop_outer _ _ _ _ _
 ·simp only [resolve, hg]
  simp [go_sem]
 ·exact fun _ _ => trivial
 ·simp [invoke, go_sem, eg]
 ·refine (hseq (w.heap.size + 1) (fun hi pre W => I hi pre W ∧ W.heap[w.heap.size + 1]? = some (.loop r0) ∧ W.heap[w.heap.size]? = some (.deferred (some []))) W1 hb1 ?_ ?_ ?_).mono ?_
  ·intro hi W' hhi hb
   rw [hs1] at hhi;refine ⟨h0 hi W' hhi (hb1.trans (hb.mono (by omega))), ?_, ?_⟩
   ·rw [hb.block _ (by omega)]; exact hL1
   ·rw [hb.block _ (by omega)]; exact hD1
  ·rintro hi pre A B ⟨h1, h2, h3⟩ hb
   have hlt : w.heap.size + 1 < A.heap.size := (Array.getElem?_eq_some_iff.1 h2).1
   refine ⟨hI hi pre A B h1 ⟨hb.os, hb.tape, hb.output, hb.size, fun k hk _ => hb.block k hk⟩, ?_, ?_⟩
   ·rw [hb.block _ hlt]; exact h2
   ·rw [hb.block _ (by omega)]; exact h3
  ·rintro hi pre x A hhi hA ⟨hi1, hl, hd⟩ hp hN
   rw [hs1] at hhi;have hlt : w.heap.size + 1 < A.heap.size := (Array.getElem?_eq_some_iff.1 hl).1
   have hy := run_yield (P := P) (args := encs x) hl (by rw [hr0]; exact hps x)
   refine ⟨r0.fn, _, r0.assign, r0.body, hy, roundIn_of_wpIn trivial ?_⟩
   have hr := hround hi pre x A hhi hA hi1 hp hN ⟨_, hl⟩;rw [show r0.assign = assign by rw [hr0], show r0.body = body by rw [hr0], show r0.params = ps by rw [hr0], show r0.tmps = a.tmps by rw [hr0]]
   refine wpIn_mono hr ?_
   rintro e a1 B hpost;cases e with
   | normal =>
    obtain ⟨⟨kb1, ks1, kd1⟩, hl1, hbody⟩ := hpost;have hlB : B.heap[w.heap.size + 1]? = some (.loop r0) := hl1.trans hl
    have hltB : w.heap.size + 1 < B.heap.size := (Array.getElem?_eq_some_iff.1 hlB).1
    refine ⟨_, run_beginRound hlB (by rw [hr0]), ?_⟩
    refine wpIn_mono (hbody _ (put B _ hltB)) ?_
    obtain ⟨kb2, ks2, kd2⟩ := putK B (.loop { r0 with state := .busy }) hi hltB;rintro e2 a2 E hpost2;cases e2 with
    | normal =>
     obtain ⟨⟨kb3, ks3, kd3⟩, hl3, hiE⟩ := hpost2;have hlE : E.heap[w.heap.size + 1]? = some (.loop { r0 with state := .busy }) := hl3.trans (World.putObj_heap_same hltB)
     have hltE : w.heap.size + 1 < E.heap.size := (Array.getElem?_eq_some_iff.1 hlE).1
     have her := run_endRound (P := P) none hlE;have hrec : ({ { r0 with state := .busy } with state := if (none : Option Code).isNone then .ready else .done, pending := none } : Loop) = r0 := hend
     rw [hrec] at her;obtain ⟨kb4, ks4, kd4⟩ := putK E (.loop r0) hi hltE;refine ⟨_, _, her, rfl, ⟨hI hi _ E _ hiE (put E _ hltE), World.putObj_heap_same hltE, ?_⟩, ((kb1.trans kb2).trans kb3).trans kb4, ?_⟩
     ·rw [kd4, kd3, kd2, kd1]; exact hd
     ·rw [hs1]; exact ((ks1.trans ks2).trans ks3).trans ks4
    | ret => exact hpost2.elim
    | exit id => exact hpost2.elim
    | goto t => exact hpost2.elim
    | panic ch => exact hpost2.elim
    | outgrown => exact hpost2.elim
   | ret => exact hpost.elim
   | exit id => exact hpost.elim
   | goto t => exact hpost.elim
   | panic ch => exact hpost.elim
   | outgrown => exact hpost.elim
  ·rintro e W2 ⟨⟨v, rfl⟩, hi, xs, hS, ⟨hi1, hl, hd⟩, hb⟩
   have hlt : w.heap.size + 1 < W2.heap.size := (Array.getElem?_eq_some_iff.1 hl).1
   have hle := run_endLoop (P := P) hl (by rw [hr0]; simp)
   have hpn : r0.pending = none := by rw [hr0]
   rw [hpn] at hle;refine ⟨none, _, hle, ?_⟩
   obtain ⟨kb, _, kd⟩ := putK W2 (.loop { r0 with state := .exhausted, pending := none }) 0 hlt;exact hdone hi xs _ hS (hI hi xs W2 _ hi1 (put W2 _ hlt)) (((hb1.mono hb0).trans hb).trans kb) (kd.trans hd)
end
section
open Go Go.RowKit Sets RowSets
attribute [local go_sem] Oper.semAt_some
abbrev PairX := (Option Addr × Option Row) × (Option Addr × Option Row)
def encP (x : PairX) : Array Value := #[.pointer x.1.1, .pointer x.2.1]
def PrP (x : PairX) (A : World) : Prop := PRow A x.1.1 x.1.2 ∧ PRow A x.2.1 x.2.2 ∧ (x.1.2 ≠ none ∨ x.2.2 ≠ none) ∧ SmallO x.1.2 ∧ SmallO x.2.2
def optsP (xs : List PairX) : List (Option Row × Option Row) := xs.map fun x => (x.1.2, x.2.2)
set_option maxHeartbeats 4000000 in
theorem pairs_seq (tA tB N : Nat) (vA vB : Value) (qa qb : List Raw) (la lb : List Row) (wb w : World) (hw0 : Below wb.heap.size wb w) (hA : One w tA 24 vA) (hB : One w tB 24 vB)
  (ha : Rcs encW 4 wb vA qa) (hb : Rcs encW 4 wb vB qb) (ra : EachReads wb qa la) (rb : EachReads wb qb lb) (ua : Up la) (ub : Up lb) (sa : Small la) (sb : Small lb) (hN : (join (ids la) (ids lb)).length ≤ N) :
  EachSeq Tryz.prog 162 #[.pointer (some ⟨tA, 0, none⟩), .pointer (some ⟨tB, 0, none⟩)] encP PrP (fun xs => optsP xs = pairsL (join (ids la) (ids lb)) la lb) N wb.heap.size w := by
 intro l J W hW hJ0 hJb hY;have HW0 := hd_ (hw0.trans (hW.mono hw0.size));have HA := hd_ (a0_ hA hW);have HB := hd_ (a0_ hB hW);have oa : Sorted qa := by unfold Sorted; rw [ra.owners]; exact ua
 have ob : Sorted qb := by unfold Sorted; rw [rb.owners]; exact ub
 have hla := ra.len;have hlb := rb.len;have FA := hd_ fun W' (h : Below wb.heap.size wb W') => firsts_any vA qa W' (ha.below h) oa (by have := sa.1; omega)
 have FB := hd_ fun W' (h : Below wb.heap.size wb W') => firsts_any vB qb W' (hb.below h) ob (by have := sb.1; omega)
 have HJ0 := hd_ hJ0;have HJb := hd_ hJb;have HY := hd_ hY;have SZ := hd_ HW0.out.size;have ca := one_cell HA.out;have cb := one_cell HB.out;clear hW hJ0 hJb hY hw0 hA hB;refine callsIn_of_wp Tryz.func162 rfl trivial ?_
 simp only [Tryz.ntmps162, List.size_toArray, List.length_cons, List.length_nil, Nat.reduceAdd, Nat.reduceSub, Array.replicate_succ, Array.replicate_zero, List.push_toArray, List.append_toArray, List.nil_append, List.cons_append];gi_wp2
 refine wpIn_wide.2 ?_
 have HS := hd_ fun w' (hb : Below W.heap.size W w') => (show (w'.cell? ⟨tA, 0, none⟩ = some vA ∧ w'.cell? ⟨tB, 0, none⟩ = some vB) ∧ Hid (Below W.heap.size W w') from ⟨⟨one_cell (a0_ HA.out hb), one_cell (a0_ HB.out hb)⟩, hd_ hb⟩)
 go_region_held3 (fun w' => (w'.cell? ⟨tA, 0, none⟩ = some vA ∧ w'.cell? ⟨tB, 0, none⟩ = some vB) ∧ Hid (Below W.heap.size W w'))
  (first | exact HS.out _ (Below.refl _ _).drew | exact HS.out _ HK.out)
  (first
   | (go_at_call 163; (with_reducible refine (FA.out _ HW0.out.drew).mono ?_); rintro e w1 ⟨v1, rfl, ho, hb⟩; have HK := hd_ (show Below W.heap.size W w1 from (Below.refl _ _).drew.trans hb); have O1 := hd_ ho; have HB1 := hd_ (HW0.out.trans (HK.out.mono HW0.out.size)); clear hb ho)
   | (go_at_call 163; (with_reducible refine (FB.out _ HB1.out).mono ?_); rintro e w2 ⟨v2, rfl, ho, hb⟩; have O1 := hd_ (O1.out.below hb); have O2 := hd_ (ho.mono HK.out.size); have HK := hd_ (HK.out.trans (hb.mono HK.out.size)); clear hb ho))
 have W2 := hd_ (HW0.out.trans (HK.out.mono HW0.out.size));gi_wp2
 refine ⟨trivial, rfl, callsIn_wide.2 ((owners_any v1 qa w2 (rcs_owns encW_len O1.out) (by have := sa.1; omega)).mono ?_)⟩
 rintro e w3 ⟨i1, rfl, hi, hb⟩;have B3 := hd_ (ba_ HK.out hb);have I3 := hd_ hi;have O1 := hd_ (O1.out.below hb);have O2 := hd_ (O2.out.below hb);clear hi hb;gi_wp2
 refine ⟨trivial, rfl, callsIn_wide.2 ((owners_any v2 qb w3 (rcs_owns encW_len O2.out) (by have := sb.1; omega)).mono ?_)⟩
 rintro e w4 ⟨i2, rfl, hi, hb⟩;have B4 := hd_ (ba_ B3.out hb);have I4 := hd_ hi;have I3 := hd_ (I3.out.below hb);have O1 := hd_ (O1.out.below hb);have O2 := hd_ (O2.out.below hb);clear hi hb;gi_wp2
 refine ⟨trivial, rfl, callsIn_wide.2 ((join_new i1 i2 (qa.map (·.1)) (qb.map (·.1)) w4 I3.out I4.out (by have := sa.1; simp; omega) (by have := sb.1; simp; omega)).mono ?_)⟩
 rw [ra.owners, rb.owners];rintro e w5 ⟨vi, rfl, ho, hb⟩;have B5 := hd_ (ba_ B4.out hb);have Q5 := hd_ (liesI_of (hi := w5.heap.size) ((ownsI_of ho).mono B4.out.size) (Nat.le_refl _));have L1 := hd_ (liesW_of (hi := w5.heap.size) (O1.out.below hb) (Nat.le_refl _));have L2 := hd_ (liesW_of (hi := w5.heap.size) (O2.out.below hb) (Nat.le_refl _));have J5 := hd_ (HJ0.out w5.heap.size w5 B5.out.size B5.out);have W5 := hd_ (HW0.out.trans (B5.out.mono HW0.out.size));have Z5 := hd_ B5.out.size
 have hll : (join (ids la) (ids lb)).length ≤ 2000 := by have h1 := len_join (ids la) (ids lb); have h2 : (ids la).length = la.length := by simp [ids]
                                                         have h3 : (ids lb).length = lb.length := by simp [ids]
                                                         have := sa.1; have := sb.1; omega
 have PS := hd_ (pairs_some ua ub);obtain ⟨Av, cv, rfl, _⟩ := Q5.out.1;clear ho hb O1 O2 I3 I4 B3 B4 HK HS HA HB ca cb FA FB W2 HB1;obtain ⟨hi, hhi⟩ : ∃ hi, w5.heap.size = hi := ⟨_, rfl⟩;rw [hhi] at Q5 L1 L2 J5 Z5;have H5 := hd_ (show hi ≤ w5.heap.size by omega)
 clear hhi;generalize hL : join (ids la) (ids lb) = L at *;have HLE := hd_ hL;clear hL;have RA0 := hd_ ra;have RB0 := hd_ rb;clear ra rb;gi_wp2
 gi_loopw [4, 5, 20] (fun s4 s5 s20 wr => ∃ (k : Nat) (qa' qb' : List Raw) (la' lb' : List Row) (pre : List PairX), k ≤ L.length ∧ s20 = .int .i64 k ∧ qa'.length ≤ 1000 ∧ qb'.length ≤ 1000 ∧ Hid (LiesW W.heap.size hi wr s4 qa') ∧ Hid (LiesW W.heap.size hi wr s5 qb') ∧ Hid (EachReads wb qa' la') ∧ Hid (EachReads wb qb' lb') ∧ Hid (optsP pre ++ pairsL (L.drop k) la' lb' = pairsL L la lb) ∧ Hid (pre.length = k) ∧ Hid (J hi pre wr) ∧ Hid (Below wb.heap.size W wr) ∧ Hid (LiesI W.heap.size hi wr (.slice Av L.length cv) L) ∧ Hid (hi ≤ wr.heap.size) ∧ Hid ((∀ r ∈ la', r ∈ la) ∧ ∀ r ∈ lb', r ∈ lb)) (fun _ _ s20 _ => L.length - (intOf s20).toNat)
 case atStart => exact ⟨0, qa, qb, la, lb, [], by omega, rfl, by have := sa.1; omega, by have := sb.1; omega, L1, L2, RA0, RB0, hd_ rfl, hd_ rfl, J5, hd_ (B5.out.mono SZ.out), Q5, H5, hd_ ⟨fun _ h => h, fun _ h => h⟩⟩
 case round =>
  obtain ⟨k, qa', qb', la', lb', pre, hkl, rfl, hq1, hq2, H4, H6, RA, RB, HE, HP, HJ, HW, HQ, HI, HM⟩ := hrel;have i3 : (0 : Int) ≤ (k : Int) := by omega
  by_cases hlt : k < L.length
  ·have hdec : decide ((k : Int) < (L.length : Int)) = true := by simp; omega
   have i4 : (k : Int) < (L.length : Int) := by omega
   obtain ⟨ad, rfl, c1, c2⟩ := HQ.out.1.at_ (Below.refl _ _) hlt;have HD := hd_ (show pairsL (L.drop k) la' lb' = (hd (L[k].1, L[k].2) la', hd (L[k].1, L[k].2) lb') :: pairsL (L.drop (k + 1)) (tl (L[k].1, L[k].2) la') (tl (L[k].1, L[k].2) lb') by rw [List.drop_eq_getElem_cons hlt]; rfl)
   generalize L[k].1 = x at *;generalize L[k].2 = y at *;have X6 := hd_ (ao_ wr x y);have B6 := hd_ (ad_ wr (.cells #[.int .i64 x, .int .i64 y] 29));have hs6 : hi ≤ (wr.alloc (.cells #[.int .i64 x, .int .i64 y] 29)).heap.size := by have := HI.out; simp; omega
   have L4 := hd_ (H4.out.mid (mid_below B6.out HI.out));have L6 := hd_ (H6.out.mid (mid_below B6.out HI.out));have Q6 := hd_ (HQ.out.mid (mid_below B6.out HI.out));obtain ⟨x1, x2⟩ := ae_ X6.out;gi_wp2
   refine ⟨trivial, rfl, callsIn_wide.2 ((take_any W.heap.size hi u4 qa' x y _ L4.out (by omega)).mono ?_)⟩
   rintro e w7 ⟨p1, V1, rfl, hp1, hl1, hb⟩;have B7 := hd_ (below_boxed (Below.refl wr.heap.size wr) hb (Nat.le_refl _));have P1 := hd_ hp1;have M1 := hd_ (hl1.mid (mid_below hb hs6));have L7 := hd_ (L6.out.mid (mid_below hb hs6));have X7 := hd_ (ag_ X6.out hb);have hs7 : hi ≤ w7.heap.size := Nat.le_trans hs6 hb.size
   clear hp1 hl1 hb x1 x2 c1 c2;obtain ⟨x1, x2⟩ := ae_ X7.out;gi_wp2
   refine ⟨trivial, rfl, callsIn_wide.2 ((take_any W.heap.size hi u5 qb' x y _ L7.out (by omega)).mono ?_)⟩
   rintro e w8 ⟨p2, V2, rfl, hp2, hl2, hb⟩;have B8 := hd_ (ba_ B7.out hb);have hw8 : Below wb.heap.size wb w8 := (HW0.out.trans HW.out).trans (B8.out.mono (Nat.le_trans SZ.out HW.out.size))
   have TA := taken_row (w' := w7) (p := p1) RA.out ((HW0.out.trans HW.out).trans (B7.out.mono (Nat.le_trans SZ.out HW.out.size))) P1.out;have TB := taken_row (w' := w8) (p := p2) RB.out hw8 hp2;have M2 := hd_ (hl2.mid (mid_below hb hs7));have M1 := hd_ (M1.out.mid (mid_below hb hs7));have hs8 : hi ≤ w8.heap.size := Nat.le_trans hs7 hb.size
   have Q8 := hd_ (HQ.out.mid (mid_below B8.out HI.out));have NE := PS.out (hd (x, y) la', hd (x, y) lb') (by rw [← HE.out, HD.out]; simp)
   have SA : SmallO (hd (x, y) la') := fun r hr => sa.2 r (HM.out.1 r (by
    cases la' with
    | nil => simp [RowSets.hd] at hr
    | cons r' l' =>
     rw [hd_cons] at hr;split at hr
     ·rw [← Option.some.inj hr]; exact List.mem_cons_self ..
     ·cases hr))
   have SB : SmallO (hd (x, y) lb') := fun r hr => sb.2 r (HM.out.2 r (by
    cases lb' with
    | nil => simp [RowSets.hd] at hr
    | cons r' l' =>
     rw [hd_cons] at hr;split at hr
     ·rw [← Option.some.inj hr]; exact List.mem_cons_self ..
     ·cases hr))
   have ML : (∀ r ∈ tl (x, y) la', r ∈ la) ∧ ∀ r ∈ tl (x, y) lb', r ∈ lb := by
    refine ⟨fun r hr => HM.out.1 r ?_, fun r hr => HM.out.2 r ?_⟩
    ·cases la' with
     | nil => exact hr
     | cons r' l' =>
      rw [tl_cons] at hr;split at hr
      ·exact List.mem_cons_of_mem _ hr
      ·exact hr
    ·cases lb' with
     | nil => exact hr
     | cons r' l' =>
      rw [tl_cons] at hr;split at hr
      ·exact List.mem_cons_of_mem _ hr
      ·exact hr
   have lq1 : (tlQ (x, y) qa').length ≤ 1000 := by
    cases qa' with
    | nil => exact hq1
    | cons r' l' => rw [tlQ_cons]; split <;> simp at hq1 ⊢ <;> omega
   have lq2 : (tlQ (x, y) qb').length ≤ 1000 := by
    cases qb' with
    | nil => exact hq2
    | cons r' l' => rw [tlQ_cons]; split <;> simp at hq2 ⊢ <;> omega
   obtain ⟨fn, tmps, assign, body, hy, hR⟩ := HY.out hi pre ((p1, hd (x, y) la'), (p2, hd (x, y) lb')) w8 Z5.out hs8 (HJb.out hi pre wr w8 HJ.out B8.out) ⟨TA.1.below hb, TB.1, NE, SA, SB⟩ (by have := HP.out; omega)
   have HE2 := hd_ (show optsP (pre ++ [((p1, hd (x, y) la'), (p2, hd (x, y) lb'))]) ++ pairsL (L.drop (k + 1)) (tl (x, y) la') (tl (x, y) lb') = pairsL L la lb by
    rw [← HE.out, HD.out];simp [optsP])
   have HP2 := hd_ (show (pre ++ [((p1, hd (x, y) la'), (p2, hd (x, y) lb'))]).length = k + 1 by rw [List.length_append, HP.out]; rfl)
   have RA2 := hd_ TA.2;have RB2 := hd_ TB.2;have HM2 := hd_ ML;clear TA TB NE SA SB ML hp2 hl2 hb x1 x2 HE HP RA RB HM P1 HD;dsimp only [encP] at hy
   gi_wp2
   refine ⟨rfl, hR.mono ?_⟩
   rintro e w9 ⟨rfl, hj, hbel, hspan⟩;have J9 := hd_ hj;have W9 := hd_ (HW.out.trans (B8.out.mono (Nat.le_trans SZ.out HW.out.size)) |>.trans hbel);have N1 := hd_ (M1.out.mid hspan);have N2 := hd_ (M2.out.mid hspan);have Q9 := hd_ (Q8.out.mid hspan);have hs9 := hd_ (Nat.le_trans hs8 hspan.1);clear hj hbel hspan hy hR;gi_wp2
   go_roundw
   case rel => exact ⟨k + 1, _, _, _, _, _, by omega, by go_num, lq1, lq2, N1, N2, RA2, RB2, HE2, HP2, J9, W9, Q9, hs9, HM2⟩
   case measure => simp [intOf]; omega
  ·have hdec : decide ((k : Int) < (L.length : Int)) = false := by simp; omega
   have HF := hd_ (show optsP pre = pairsL L la lb by
    rw [← HE.out, List.drop_of_length_le (by omega)]
    simp [pairsL])
   gi_wp2
   refine bodyPost_end (results_none rfl _ _ _) rfl ?_
   exact ⟨⟨_, rfl⟩, hi, pre, by rw [HLE.out]; exact HF.out, HJ.out, HW.out⟩
end
section
open Go Go.RowKit
section
variable {P : Program} {ops : Array Oper} {Q : Exit → Act → World → Prop}
theorem oper_inRound {l : Nat} {o : Oper} (hnd : ∀ c, o.op ≠ .defer c) {a : Act} {w : World} {K : Act → World → Prop} (h : o.wp P a w K Q) : o.wpIn (Fence.wide.inRound l) 0 P a w K Q := by
 refine ⟨fun _ _ => trivial, ?_⟩
 rw [Fence.inRound_round, Oper.semAt_some l _ _ hnd];unfold Oper.wp at h;generalize (execOp a.eval o).run P w = r at *;cases r with
 | ok x w' =>
  cases x with
  | value v => exact h
  | skip => exact h
  | defer d => exact h
  | enter f args => exact ⟨fun h0 => by simp [Fence.wide] at h0, CallsIn.inRound l (callsIn_wide.2 h)⟩
  | row r args =>
   refine ⟨fun h0 => by simp [Fence.wide] at h0, fun c cs _ => ?_⟩
   obtain ⟨v, w'', r1, s⟩ := h c cs;exact ⟨v, w'', r1, stepsIn_wide.2 s⟩
  | _ => exact h.elim
 | halt x w' => cases x <;> exact h
theorem wpOp_inRound {l i : Nat} (hno : ¬ LetsOut Q) (hnd : ∀ o, ops[i]? = some o → ∀ c, o.op ≠ .defer c) {a : Act} {w : World} {K : Act → World → Prop} (h : wpOp P ops Q i K a w) : wpOpIn (Fence.wide.inRound l) 0 P ops Q i K a w := by
 unfold wpOp at h;unfold wpOpIn;cases ho : ops[i]? with
 | none =>
  rw [ho] at h;exact h
 | some o =>
  rw [ho] at h;simp only at h ⊢
  by_cases hw : Region.wanted o (yielded ops a.tmps) = true
  ·rw [if_pos hw] at h ⊢
   rcases h with h | h
   ·exact oper_inRound (hnd o ho) h
   ·exact absurd h.2 hno
  ·rw [if_neg hw] at h ⊢
   exact ⟨fun _ _ => trivial, h⟩
theorem wpAny_inRound {l : Nat} {md : Region.Mode} (hno : ¬ LetsOut Q) (hnd : ∀ (i : Nat) (o : Oper), ops[i]? = some o → ∀ c, o.op ≠ .defer c) : ∀ (fuel : Nat) (listed : Array Bool) (a : Act) (w : World), wpAny P md ops Q fuel listed a w → wpAnyIn (Fence.wide.inRound l) 0 P md ops Q fuel listed a w
 | 0, _, _, _, h => h
 | fuel + 1, _, _, _, h => ⟨h.1, fun i hi => wpOpIn_mono (fun a w k => wpAny_inRound hno hnd fuel _ a w k) (wpOp_inRound hno (hnd i) (h.2 i hi))⟩
def isDefer : Op → Bool
 | .defer _ => true
 | _ => false
theorem no_defer {l : List Oper} (h : l.all (fun o => !isDefer o.op) = true) : ∀ (i : Nat) (o : Oper), l.toArray[i]? = some o → ∀ c, o.op ≠ .defer c := fun i o ho c e => by
 have := List.all_eq_true.1 h o (List.mem_of_getElem? (by rw [← List.getElem?_toArray]; exact ho))
 rw [e] at this;simp [isDefer] at this
theorem wpIn_region_of_any {l id : Nat} {a : Act} {w : World} (hm : P.follows .mixedOrders = true) (hno : ¬ LetsOut Q) (hnd : ∀ (i : Nat) (o : Oper), ops[i]? = some o → ∀ c, o.op ≠ .defer c) (h : wpAny P .any ops Q ops.size (Array.replicate ops.size false) a w.drew) :
  (Code.region id ops true).wpIn (Fence.wide.inRound l) 0 P Q a w := wpIn_region_any hm (wpAny_inRound hno hnd _ _ _ _ h)
end
end
section
open Go Go.RowKit Sets RowSets
attribute [local go_sem] Oper.semAt_some
theorem pairs_any (A B : Option Addr) (n m c d : Nat) (w : World) :
  Calls Tryz.prog 125 #[.slice A n c, .slice B m d] w fun e w' => e = .returned (.func (.func 162) #[] #[.pointer (some ⟨w.heap.size, 0, none⟩), .pointer (some ⟨w.heap.size + 1, 0, none⟩)]) ∧ One w' w.heap.size 24 (.slice A n c) ∧ One w' (w.heap.size + 1) 24 (.slice B m d) ∧ Below w.heap.size w w' := by
 have h1 := hd_ (show One ((w.alloc (.cells #[.slice A n c] 24)).alloc (.cells #[.slice B m d] 24)) w.heap.size 24 (.slice A n c) from (Below.heap_alloc _ _ _ (by simp)).trans (one_new w 24 _))
 have h2 := hd_ (show One ((w.alloc (.cells #[.slice A n c] 24)).alloc (.cells #[.slice B m d] 24)) (w.heap.size + 1) 24 (.slice B m d) from by have := one_new (w.alloc (.cells #[.slice A n c] 24)) 24 (.slice B m d); simpa using this)
 have h3 := hd_ (below_two w (.cells #[.slice A n c] 24) (.cells #[.slice B m d] 24));go_enter Tryz.func125, Tryz.ntmps125
 go_wp2_with fail;go_ret;exact ⟨rfl, h1.out, h2.out, h3.out⟩
theorem wpListIn_make_spelled {P : Program} {F : Fence} {k : Nat} {α : Type} {enc : α → List Value} {sz : Nat} {ops : Array Oper} {rest : List Oper} {o : Oper} {a : Act} {Q : Exit → Act → World → Prop} (t e : TypeId) {z : Value} {bytes : Nat} (ht : P.underlying t = some (.slice e))
  (hinfo : (P.info? e).map (fun i => (i.zero, i.size, i.bytes)) = some (some z, sz, bytes)) (hby : bytes ≤ 1000)
  (w : World) (hgd : o.guard = none) (x : Operand) (hop : o.op = .makeSlice t (.const (.int .i64 0)) x) (C : Int) (hx : a.eval x = .int .i64 C) (h0 : 0 ≤ C) (hn : C ≤ 100000)
  (h : ∀ cap w', OwnsR enc sz e w' w.heap.size (.slice (some ⟨w.heap.size, 0, none⟩) 0 cap) [] → Below w.heap.size w w' → wpListIn F k P ops Q rest (a.put o.dst (.slice (some ⟨w.heap.size, 0, none⟩) 0 cap)) w') : wpListIn F k P ops Q (o :: rest) a w := by
 obtain ⟨i0, hi, hz0, hz1, hz2⟩ := info_parts hinfo;obtain ⟨n, rfl⟩ := Int.eq_ofNat_of_zero_le h0;have hnb : n * bytes ≤ 100000 * 1000 := Nat.mul_le_mul (by omega) hby
 exact wpListIn_make_own w hgd _ x t hop w.heap.size e i0 z sz ht hi hz0 hz1 .i64 .i64 n n rfl hx rfl (by rw [hz2]; have := Nat.mul_comm n bytes; omega) (by unfold maxLen; omega) (Nat.le_refl _)
  fun w' h1 h2 => h _ w' h1 ((Below.refl w.heap.size w).grown h2 (Nat.le_refl _) (fun k hk => by cases hk))
def Cells (w w' : World) : Prop := w.heap.size ≤ w'.heap.size ∧ ∀ a v, w.cell? a = some v → w'.cell? a = some v
theorem cells_loop {w w' : World} {l : Nat} {r : Loop} (hl : w.heap[l]? = some (.loop r)) (h : w.grownBy w' (some l)) : Cells w w' := by
 refine ⟨h.size, fun a v hc => ?_⟩
 have hlt := World.block_lt_of_cell? w _ hc;by_cases e : a.block = l
 ·exfalso
  rw [← e] at hl;unfold World.cell? at hc;rw [hl] at hc;simp at hc
 ·rw [World.cell?_of_block (h.block a.block hlt (fun e2 => e (by injection e2)))]
  exact hc
theorem Ids.cells {w w' : World} {v : Value} {l : List Id2} (h : Ids w v l) (hc : Cells w w') : Ids w' v l := by
 obtain ⟨A, c, hv, h0, hn, hk⟩ := h;refine ⟨A, c, hv, h0, hn, fun k h => ?_⟩
 obtain ⟨ad, h1, h2, h3, h4⟩ := hk k h;exact ⟨ad, h1, Nat.lt_of_lt_of_le h2 hc.1, hc.2 _ _ h3, hc.2 _ _ h4⟩
theorem PRow.cells {w w' : World} {p : Option Addr} {o : Option Row} (h : PRow w p o) (hc : Cells w w') : PRow w' p o := by
 cases o with
 | none => exact h
 | some r =>
  obtain ⟨q, ⟨ad, h1, h2, c1, c2, c3, c4⟩, e1, e2, h3⟩ := h;exact ⟨q, ⟨ad, h1, Nat.lt_of_lt_of_le h2 hc.1, hc.2 _ _ c1, hc.2 _ _ c2, hc.2 _ _ c3, hc.2 _ _ c4⟩, e1, e2, h3.cells hc⟩
theorem step_pushW {ops : Array Oper} {o : Oper} {a : Act} {K : Act → World → Prop} {Q : Exit → Act → World → Prop} {E : Prop} (hgd : o.guard = none) (s x : Operand)
  (ho : o.op = .call { callee := .builtin .append, args := #[s, x], argTypes := #[24, 24] })
  (w : World) (base : Nat) (A : Option Addr) (n c gx : Nat) (qs : List Raw) (p i v : Int) (B : Option Addr) (m k : Nat) (hn : qs.length = n) (hs : a.eval s = .slice A n c) (hx : a.eval x = .slice (some ⟨gx, 0, none⟩) 1 1)
  (hown : OwnsW w base (.slice A n c) qs) (hbox : WBox w gx p i v (.slice B m k)) (hl : qs.length ≤ 50000) (hb : base ≤ w.heap.size)
  (h : ∀ g cap w', OwnsW w' base (.slice (some ⟨g, 0, none⟩) (n + 1) cap) (qs ++ [((p, i), v, B, m, k)]) → w.grownBy w' (Value.slice A n c).ownBlock → ((Value.slice A n c).ownBlock = some g ∨ g = w.heap.size) → g < w'.heap.size → K (a.put o.dst (.slice (some ⟨g, 0, none⟩) (n + 1) cap)) w') :
  if Region.wanted o (yielded ops a.tmps) = true then Oper.wp Tryz.prog o a w K Q else E := by
 subst hn;obtain ⟨i0, hi, hz0, hz1, hz2⟩ := info_parts infoW;refine step_append_lies w hgd s x 24 ho base 68 i0 (.agg #[.int .i64 0, .int .i64 0, .int .i64 0, .slice none 0 0]) 4 48 Tryz.underlying24 hi hz0 hz1 hz2 rfl (by decide) (.slice A qs.length c) qs.length (flatR encW qs) hs hown ⟨gx, 0, none⟩ 1 1 (encW ((p, i), v, B, m, k)) hx rfl (World.news_of_block (cs := #[.int .i64 p, .int .i64 i, .int .i64 v, .slice B m k]) hbox) (encW_one _) (by omega) (by unfold maxLen; omega) (by omega) hb w.heap.size rfl fun g cap w' h1 h2 h3 h4 => h g cap w' ?_ h2 h3 h4
 unfold OwnsW OwnsR;rw [flatR_append, List.length_append];have e : flatR encW [((p, i), v, B, m, k)] = encW ((p, i), v, B, m, k) := by simp [flatR]
 rw [e];exact h1
def joinedRows (xs : List PairX) : List Row := xs.map fun x => joinedO x.1.2 x.2.2
def JoinI (X n0 b hi : Nat) (pre : List PairX) (W : World) : Prop :=
 ∃ A n c qs, One W X 24 (.slice A n c) ∧ qs.length = n ∧ OwnsW W b (.slice A n c) qs ∧ EachOwn W (n0 + 2) qs (joinedRows pre) ∧ (∀ g, (Value.slice A n c).ownBlock = some g → g < n0 ∨ hi ≤ g) ∧ (∀ q ∈ qs, ∀ g, (slc q).ownBlock = some g → (Value.slice A n c).ownBlock ≠ some g) ∧ (Value.slice A n c).ownBlock ≠ some X ∧ n0 + 2 ≤ hi
theorem JoinI.loop {X n0 b hi : Nat} {pre : List PairX} {A B : World} (hX : X < n0) (h : JoinI X n0 b hi pre A) (hg : A.grownBy B (some (n0 + 1))) : JoinI X n0 b hi pre B := by
 obtain ⟨ad, n, c, qs, h1, h2, h3, h4, h5, h6, h7, h8⟩ := h;refine ⟨ad, n, c, qs, (hg.block X (one_lt h1) (fun e => by injection e with e; omega)).trans h1, h2, h3.grown hg (fun e => by have := h5 _ e; omega), h4.grown hg (by omega), h5, h6, h7, h8⟩
theorem EachOwn.apart {w w' : World} {lo : Nat} {row : Option Nat} (hg : w.grownBy w' row) : ∀ {qs : List Raw} {l : List Row}, EachOwn w lo qs l → (∀ q ∈ qs, ∀ g, (slc q).ownBlock = some g → row ≠ some g) → EachOwn w' lo qs l
 | [], [], _, _ => trivial
 | q :: qs, _ :: _, h, hn => by
  refine ⟨⟨h.1.1, h.1.2.1, World.ownsRow.kept h.1.2.2 hg ?_⟩, EachOwn.apart hg h.2 fun q' hq => hn q' (List.mem_cons_of_mem _ hq)⟩
  rcases ho : (slc q).ownBlock with _ | g
  ·exact .inl rfl
  ·exact .inr fun e => hn q (List.mem_cons_self ..) g ho e.symm
 | [], _ :: _, h, _ => h.elim
 | _ :: _, [], h, _ => h.elim
theorem one_set {w : World} {g t : Nat} {v : Value} (h : One w g t v) (u : Value) : One (w.setCell ⟨g, 0, none⟩ u) g t u := by
 unfold One at *;simp [World.setCell, Array.getElem?_modify, h]
theorem join_end {X n0 b hi n c g cap' : Nat} {Av : Option Addr} {qs : List Raw} {pre : List PairX} {x : PairX} {C w6 w7 : World} {p i v : Int} {B : Option Addr} {m k : Nat}
  (hbX : b ≤ X) (hX : X < n0) (hhi : n0 + 2 ≤ hi) (hC : hi ≤ C.heap.size)
  (h1 : One C X 24 (.slice Av n c)) (h2 : qs.length = n) (h3 : OwnsW C b (.slice Av n c) qs) (h4 : EachOwn C (n0 + 2) qs (joinedRows pre)) (h5 : ∀ g, (Value.slice Av n c).ownBlock = some g → g < n0 ∨ hi ≤ g)
  (h6 : ∀ q ∈ qs, ∀ g, (slc q).ownBlock = some g → (Value.slice Av n c).ownBlock ≠ some g) (h7 : (Value.slice Av n c).ownBlock ≠ some X)
  (hb : Below C.heap.size C w6) (hr : joinedO x.1.2 x.2.2 = ((p, i), v, (joinedO x.1.2 x.2.2).2.2)) (hq : OwnsI w6 C.heap.size (.slice B m k) (joinedO x.1.2 x.2.2).2.2)
  (p1 : OwnsW w7 b (.slice (some ⟨g, 0, none⟩) (n + 1) cap') (qs ++ [((p, i), v, B, m, k)])) (p2 : w6.grownBy w7 (Value.slice Av n c).ownBlock) (p3 : (Value.slice Av n c).ownBlock = some g ∨ g = w6.heap.size) :
  KeepsE b (n0 + 2) hi n0 C (w7.setCell ⟨X, 0, none⟩ (.slice (some ⟨g, 0, none⟩) (n + 1) cap')) ∧ (w7.setCell ⟨X, 0, none⟩ (.slice (some ⟨g, 0, none⟩) (n + 1) cap')).heap[n0 + 1]? = C.heap[n0 + 1]? ∧ JoinI X n0 b hi (pre ++ [x]) (w7.setCell ⟨X, 0, none⟩ (.slice (some ⟨g, 0, none⟩) (n + 1) cap')) := by
 have hXC : X < C.heap.size := one_lt h1
 have hown := World.ownsRow.lt h3;have hs6 := hb.size;have hs7 := p2.size
 have same : ∀ j, j < C.heap.size → j ≠ X → (Value.slice Av n c).ownBlock ≠ some j → (w7.setCell ⟨X, 0, none⟩ (.slice (some ⟨g, 0, none⟩) (n + 1) cap')).heap[j]? = C.heap[j]? := fun j hj hjX hne => by
  rw [Below.heap_setCell _ _ _ _ hjX, p2.block j (by omega) (fun e => hne e.symm), hb.block j hj]
 have hgX : g ≠ X := by
  rcases p3 with e | e
  ·intro h
   rw [h] at e;exact h7 e
  ·omega
 have X7 : One w7 X 24 (.slice Av n c) := (p2.block X (by omega) (fun e => h7 e.symm)).trans ((hb.block X hXC).trans h1)
 have gE : w7.grownBy (w7.setCell ⟨X, 0, none⟩ (.slice (some ⟨g, 0, none⟩) (n + 1) cap')) (some X) := grown_set1 (World.grownBy.refl _ _) 0 _
 refine ⟨⟨?_, ⟨?_, ?_⟩, ?_⟩, ?_, ?_⟩
 ·exact ((hb.mono (by omega)).grown p2 (by omega) (fun j hj => (hown j hj).1)).setCell (p := ⟨X, 0, none⟩) hbX _
 ·simp only [World.size_setCell]
  omega
 ·intro j hj1 hj2
  exact same j (by omega) (by omega) (fun e => by have := h5 j e; omega)
 ·exact same n0 (by omega) (by omega) (fun e => by have := h5 n0 e; omega)
 ·exact same (n0 + 1) (by omega) (by omega) (fun e => by have := h5 _ e; omega)
 ·have hj : joinedRows (pre ++ [x]) = joinedRows pre ++ [joinedO x.1.2 x.2.2] := by unfold joinedRows; rw [List.map_append]; rfl
  have O7 : OwnsI w7 (n0 + 2) (.slice B m k) (joinedO x.1.2 x.2.2).2.2 := by
   refine World.ownsRow.kept (OwnsR.mono hq (show n0 + 2 ≤ C.heap.size by omega)) p2 ?_
   rcases ho : (Value.slice B m k).ownBlock with _ | g'
   ·exact .inl rfl
   ·refine .inr fun e => ?_
    have a1 := World.ownsRow.lt hq g' ho;have a2 := hown g' e.symm;omega
  refine ⟨_, _, _, _, one_set X7 _, by simp [h2], OwnsR.grown p1 gE (fun e => hgX (by injection e)), ?_, ?_, ?_, (fun e => hgX (by injection e)), hhi⟩
  ·rw [hj]
   refine (EachOwn.append (EachOwn.apart p2 (h4.below hb) h6) ?_).grown gE (by omega)
   exact ⟨⟨by rw [hr], by rw [hr], O7⟩, trivial⟩
  ·intro g' e
   injection e with e
   have e' : g = g' := e
   subst e';rcases p3 with e3 | e3
   ·exact h5 g e3
   ·right; omega
  ·intro q hqm g' ho e
   injection e with e
   have e' : g = g' := e
   subst e';rcases List.mem_append.1 hqm with hqm | hqm
   ·rcases p3 with e3 | e3
    ·exact h6 q hqm g ho e3
    ·have := (h4.lt q hqm g ho).2
     omega
   ·rw [List.mem_singleton.1 hqm] at ho
    have a1 := World.ownsRow.lt hq g ho;rcases p3 with e3 | e3
    ·have a2 := hown g e3
     omega
    ·omega
theorem cells_deferred {w w' : World} {l : Nat} {d : Option (List Deferred)} (hl : w.heap[l]? = some (.deferred d)) (h : w.grownBy w' (some l)) : Cells w w' := by
 refine ⟨h.size, fun a v hc => ?_⟩
 have hlt := World.block_lt_of_cell? w _ hc;by_cases e : a.block = l
 ·exfalso
  rw [← e] at hl;unfold World.cell? at hc;rw [hl] at hc;simp at hc
 ·rw [World.cell?_of_block (h.block a.block hlt (fun e2 => e (by injection e2)))]
  exact hc
theorem RowsAt.cells {w w' : World} {v : Value} {l : List Row} (h : RowsAt w v l) (hc : Cells w w') : RowsAt w' v l := by
 obtain ⟨qs, ⟨A, c, hv, h0, hn, hk⟩, h2⟩ := h;refine ⟨qs, ⟨A, c, hv, h0, hn, fun k h => ?_⟩, ?_⟩
 ·obtain ⟨ad, h1, h2, h3⟩ := hk k h
  exact ⟨ad, h1, Nat.lt_of_lt_of_le h2 hc.1, fun j u hu => hc.2 _ _ (h3 j u hu)⟩
 ·clear hk hn h0 hv
  induction qs generalizing l with
  | nil =>
   cases l with
   | nil => trivial
   | cons r l => exact h2.elim
  | cons q qs ih =>
   cases l with
   | nil => exact h2.elim
   | cons r l => exact ⟨⟨h2.1.1, h2.1.2.1, h2.1.2.2.cells hc⟩, ih h2.2⟩
end
end Go.Proofs.YthkkipbmlafdiaaGreat
