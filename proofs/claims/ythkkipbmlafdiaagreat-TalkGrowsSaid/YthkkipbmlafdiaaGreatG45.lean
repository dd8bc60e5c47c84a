/-
  Contracts and plain facts.
-/
import Derived.Test.YthkkipbmlafdiaaGreatG39
import Derived.Test.YthkkipbmlafdiaaGreatG42
import Derived.Test.YthkkipbmlafdiaaGreatG43
set_option maxRecDepth 20000
namespace Go.Proofs.YthkkipbmlafdiaaGreat
section
open Go Go.RowKit
theorem st_other {V U : Vw} {k : Nat} (h : Clocks.cmp V.c U.c ≠ 1) : stV V U k = V := by unfold stV; rw [if_neg h]
end
section
open Go Go.RowKit
theorem put_join (l : List Sets.Id2) (x : Sets.Id2) : Sets.join l [x] = Sets.put l x := Sets.rises_ext (Sets.rises_join _ _) (Sets.rises_put _ _) fun y => by
 rw [Sets.mem_join, Sets.mem_put, List.mem_singleton]
 exact or_comm
theorem recvP_is (kd : Int) (V U : Vw) (k : Nat) : recvP kd V U ((k : Int) + 1) 1 = recvV kd V U k := by
 unfold recvP recvV
 split
 ·exact tellP_is V U k
 ·unfold stP stV
  split
  ·rw [put_join]
   rfl
  ·rfl
theorem ansP_is {T U : Vw} (hT : Sets.Rises T.s) (hU : Sets.Rises U.s) : ansP T U = ansV T U := by
 have e : (sameB (Sets.setOf T.s) (Sets.setOf U.s) = true) = (T.s = U.s) := by
  rw [Sets.setOf_self hT, Sets.setOf_self hU]
  unfold sameB
  simp
 unfold ansP ansV
 simp only [e]
def fvw (kd : Int) (U : Vw) : Vw := if kd = 4 then U else partV U
theorem recv_fvw {kd : Int} (hk : kd = 3 ∨ kd = 4) (V U : Vw) (k : Nat) : recvV kd V (fvw kd U) k = recvV kd V U k := by
 rcases hk with rfl | rfl <;> rfl
theorem ans_fvw (kd : Int) (T U : Vw) : ansV T (fvw kd U) = ansV T U := by
 unfold fvw
 split <;> rfl
theorem GoodT.may {V : Vw} (h : GoodT 1000 V) : mayV V = true := few_may h.2 h.1 (by omega)
theorem GoodT.fit {V : Vw} (h : GoodT 1000 V) {n : Nat} (hn : 13 ≤ n) : FitVIE n V := (few_fit h.2 h.1).mono hn
theorem GoodT.up {V : Vw} (h : GoodT 1000 V) : RowSets.Up V.r := h.1.nr.1
theorem may_part {V : Vw} (h : mayV V = true) : mayV (partV V) = true := by
 unfold mayV at h
 rw [Bool.and_eq_true, Bool.and_eq_true, Bool.and_eq_true, Bool.and_eq_true] at h
 obtain ⟨_, _, h3, _, h5⟩ := h
 have e : mayV (partV V) = (Ros.mayB [] [] && (mayBROW [] && (mayBCLK V.c && (sameR [] (RowSets.gone [] []) && maySB V.s)))) := rfl
 rw [e, h3, h5]
 exact (by kernel_rfl : (Ros.mayB [] [] && (mayBROW [] && (true && (sameR [] (RowSets.gone [] []) && true)))) = true)
theorem GoodT.part {V : Vw} (h : GoodT 1000 V) : GoodT 1000 (partV V) :=
 ⟨okV_of (may_part h.may), ⟨fun r (e : r ∈ []) => (by cases e), h.2.c, h.2.sr, h.2.s⟩⟩
theorem GoodT.fvw {V : Vw} (h : GoodT 1000 V) (kd : Int) : GoodT 1000 (fvw kd V) := by
 unfold Proofs.YthkkipbmlafdiaaGreat.fvw
 split
 ·exact h
 ·exact h.part
theorem toldP_is {kd : Int} (hk : kd = 3 ∨ kd = 4) {V U : Vw} {k : Nat} (hk4 : k < 4) (hV : GoodT 1000 V) (hU : GoodT 1000 U) : toldP kd V (fvw kd U) ((k : Int) + 1) 1 = (recvV kd V U k, ansV (recvV kd V U k) U, 0) := by
 have hF := hU.fvw kd
 have hR := GoodT.recv hk4 (by omega) hV hF kd
 unfold toldP
 rw [if_pos ⟨hk, hF.may⟩, recvP_is, ansP_is hR.2.sr hF.2.sr, recv_fvw hk, ans_fvw]
theorem toldG_any (v : Value) (V U : Vw) (kd : Int) (k : Nat) (f1 f2 t1 t2 n tk b1 b2 : Int) (a' b' c' d' e' : SL) (w : World) (hk : kd = 3 ∨ kd = 4) (hk4 : k < 4) (h : VAt w v V) (kr : RV w a' b' c' d' e' (fvw kd U)) (hV : GoodT 1000 V) (hU : GoodT 1000 U) :
  Calls Tryz.prog 31 #[v, .agg #[.int .i64 ((k : Int) + 1), .int .i64 1], .agg #[.int .u8 kd, .int .i64 f1, .int .i64 f2, .int .i64 t1, .int .i64 t2, .int .i64 n, .int .i64 tk, .int .i64 b1, .int .i64 b2, .slice a'.1 a'.2.1 a'.2.2, .slice b'.1 b'.2.1 b'.2.2, .slice c'.1 c'.2.1 c'.2.2, .slice d'.1 d'.2.1 d'.2.2, .slice e'.1 e'.2.1 e'.2.2]] w fun e w' => ∃ a b c d e2 : SL, e = .returned (.tuple #[.agg #[.slice a.1 a.2.1 a.2.2, .slice b.1 b.2.1 b.2.2, .slice c.1 c.2.1 c.2.2, .slice d.1 d.2.1 d.2.2, .slice e2.1 e2.2.1 e2.2.2], .int .u8 (ansV (recvV kd V U k) U), .int .i64 0]) ∧ RV w' a b c d e2 (recvV kd V U k) ∧ Below w.heap.size w w' :=
 (told_any v V (fvw kd U) ((k : Int) + 1) 1 kd f1 f2 t1 t2 n tk b1 b2 a' b' c' d' e' w h kr (hV.fit (by decide)) ((hU.fvw kd).fit (by decide)) hV.up).mono fun e w' ⟨X, h1, ⟨a, b, c, d, e2, hX, hr⟩, hb⟩ => by
  rw [toldP_is hk hk4 hV hU] at h1 hr
  exact ⟨a, b, c, d, e2, by rw [h1, hX], hr, hb⟩
theorem ans_range (T U : Vw) : ansV T U = 0 ∨ ansV T U = 3 ∨ ansV T U = 4 := by
 unfold ansV
 split
 ·split
  ·exact .inl rfl
  ·exact .inr (.inl rfl)
 ·split
  ·exact .inr (.inl rfl)
  ·exact .inr (.inr rfl)
theorem sameV_self (V : Vw) : sameV V V = true := by
 unfold sameV sameB
 rw [same_core (SameC.refl V)]
 simp
theorem has_of {x : Sets.Id2} {l : List Sets.Id2} (h : x ∈ l) : hasB x l = true := by
 unfold hasB
 exact decide_eq_true h
theorem has_put {k : Nat} (l : List Sets.Id2) : hasB ((k : Int) + 1, 1) (Sets.put l (nid k)) = true := has_of ((Sets.mem_put _ _ _).2 (.inl rfl))
end
end Go.Proofs.YthkkipbmlafdiaaGreat
