/-
  Carried over and put together: contracts of this program's functions, and plain facts. No statement is proved in this text.
-/
import Derived.Test.YtgphiggbajbmhaaGreatDoorOz
import Derived.Test.YtgphiggbajbmhaaGreatDoorE28
set_option maxRecDepth 20000
namespace Go.Proofs.YtgphiggbajbmhaaGreatDoor
open Go Go.RowKit Ros
structure Upto (w : World) (g : Nat) (P X Q : List Mm) (k : Nat) (W : World) : Prop where
 ex : ∃ M : List Mm, Stab.Sorted kM M ∧ Stab.Same kM (X.take k) M ∧ RowL W g (P ++ M ++ (X.drop k ++ Q))
 grown : w.grownBy W (some g)
structure Goes (w : World) (g : Nat) (P M : List Mm) (x : Mm) (R : List Mm) (j : Nat) (W : World) : Prop where
 ex : ∃ S1 S2 : List Mm, S1 ++ S2 = M ∧ P.length + S1.length = j ∧ (∀ y ∈ S2, Sets.lt x.1 y.1) ∧ RowL W g (P ++ S1 ++ x :: (S2 ++ R))
 grown : w.grownBy W (some g)
theorem Goes.kept {w : World} {g : Nat} {P M : List Mm} {x : Mm} {R : List Mm} {j : Nat} {W W' : World} (h : Goes w g P M x R j W) (hb : Below W.heap.size W W') : Goes w g P M x R j W' := by
 obtain ⟨⟨S1, S2, h1, h2, h3, h4⟩, h5⟩ := h
 exact ⟨⟨S1, S2, h1, h2, h3, rowL_kept h4 hb⟩, grown_below h5 hb⟩
theorem goes_start {w : World} {g : Nat} {P X Q : List Mm} {k : Nat} {W : World} (h : Upto w g P X Q k W) (hk : k < X.length) :
  ∃ M : List Mm, Stab.Sorted kM M ∧ Stab.Same kM (X.take k) M ∧ M.length = k ∧ Goes w g P M X[k]! (X.drop (k + 1) ++ Q) (P.length + k) W := by
 obtain ⟨⟨M, h1, h2, h3⟩, h4⟩ := h
 have e : X.drop k = X[k]! :: X.drop (k + 1) := by rw [getElem!_pos X k hk]; exact List.drop_eq_getElem_cons hk
 have hl : M.length = k := by rw [← h2.1, List.length_take]; omega
 exact ⟨M, h1, h2, hl, ⟨⟨M, [], by simp, by omega, (fun y hy => by cases hy), by rw [e] at h3; simpa using h3⟩, h4⟩⟩
theorem goes_ahead {w : World} {g : Nat} {P M : List Mm} {x : Mm} {R : List Mm} {t : Nat} {W : World} (h : Goes w g P M x R (t + 1) W) (ht : P.length ≤ t) :
  ∃ (S1 S2 : List Mm) (y : Mm), S1 ++ y :: S2 = M ∧ P.length + S1.length = t ∧ (∀ z ∈ S2, Sets.lt x.1 z.1) ∧ RowL W g (P ++ S1 ++ y :: [] ++ x :: (S2 ++ R)) := by
 obtain ⟨⟨S1, S2, h1, h2, h3, h4⟩, -⟩ := h
 rcases List.eq_nil_or_concat S1 with e | ⟨S, y, e⟩
 ·subst e
  simp at h2
  omega
 ·rw [List.concat_eq_append] at e
  subst e
  refine ⟨S, S2, y, by simpa using h1, by simp at h2; omega, h3, by simpa using h4⟩
theorem goes_end {w : World} {g : Nat} {P X Q M : List Mm} {k j : Nat} {W : World} (hk : k < X.length) (h : Goes w g P M X[k]! (X.drop (k + 1) ++ Q) j W) (hM : Stab.Sorted kM M) (hs : Stab.Same kM (X.take k) M)
  (hend : j = P.length ∨ ∃ (S1 S2 : List Mm) (y : Mm), S1 ++ y :: S2 = M ∧ P.length + S1.length + 1 = j ∧ ¬ Sets.lt X[k]!.1 y.1) : Upto w g P X Q (k + 1) W := by
 obtain ⟨⟨S1, S2, h1, h2, h3, h4⟩, hg⟩ := h
 have e : X.take (k + 1) = X.take k ++ [X[k]!] := by rw [getElem!_pos X k hk]; exact List.take_succ_eq_append_getElem hk
 have hb : ∀ z ∈ S1, ¬ Sets.lt X[k]!.1 z.1 := by
  rcases hend with hj | ⟨T1, T2, y, e1, e2, hy⟩
  ·have : S1 = [] := List.eq_nil_of_length_eq_zero (by omega)
   subst this
   intro z hz
   cases hz
  ·have hl : S1.length = (T1 ++ [y]).length := by simp; omega
   have e3 : S1 = T1 ++ [y] := by
    have e4 : S1 ++ S2 = (T1 ++ [y]) ++ T2 := by rw [h1, ← e1]; simp
    exact (List.append_inj e4 hl).1
   subst e3
   rw [← h1] at hM
   exact Stab.below_last (Stab.sorted_app.1 hM).1 hy
 generalize X[k]! = x at *
 rw [← h1] at hM hs
 refine ⟨⟨S1 ++ x :: S2, Stab.insert_sorted hM h3 hb, ?_, ?_⟩, hg⟩
 ·rw [e]
  exact (hs.app (Stab.Same.refl [x])).trans (Stab.insert_same h3)
 ·simpa using h4
theorem upto_start (w : World) (g : Nat) (P X Q : List Mm) (h : RowL w g (P ++ X ++ Q)) : Upto w g P X Q 1 w := by
 refine ⟨⟨X.take 1, ?_, Stab.Same.refl _, ?_⟩, World.grownBy.refl _ _⟩
 ·match X with
  | [] => exact Stab.sorted_nil
  | x :: X => exact Stab.sorted_one x
 ·rw [← List.append_assoc, List.append_assoc P, List.take_append_drop]
  exact h
theorem upto_end {w : World} {g : Nat} {P X Q : List Mm} {k : Nat} {W : World} (h : Upto w g P X Q k W) (hk : X.length ≤ k) : ∃ M : List Mm, Stab.Sorted kM M ∧ Stab.Same kM X M ∧ RowL W g (P ++ M ++ Q) ∧ w.grownBy W (some g) := by
 obtain ⟨⟨M, h1, h2, h3⟩, h4⟩ := h
 rw [List.take_of_length_le hk] at h2
 rw [List.drop_of_length_le hk] at h3
 exact ⟨M, h1, h2, by simpa using h3, h4⟩
def Sorts (w : World) (g : Nat) (P X Q : List Mm) (e : Ending) (w' : World) : Prop := e = .returned (.tuple #[]) ∧ ∃ M : List Mm, Stab.Sorted kM M ∧ Stab.Same kM X M ∧ RowL w' g (P ++ M ++ Q) ∧ w.grownBy w' (some g)
set_option maxHeartbeats 4000000 in
set_option maxRecDepth 100000 in
theorem insertion_anyAGR (g c N a b : Nat) (P X Q : List Mm) (w : World) (h : RowL w g (P ++ X ++ Q)) (hN : P.length + X.length + Q.length = N) (hl : N ≤ 100000) (ha : P.length = a) (hb : P.length + X.length = b) :
  Calls Tryz.prog 196 #[.slice (some ⟨g, 0, none⟩) N c, .int .i64 a, .int .i64 b, .func (.func 167) #[] #[]] w (Sorts w g P X Q) := by
 have H0 := Lib.hid (upto_start w g P X Q h)
 have j0 : IntKind.i64.wrap ((a : Int) + 1) = (a : Int) + 1 := IntWalk.i64_in _ ⟨by omega, by omega⟩
 have hXb : X.length = b - a := by omega
 have hab : a ≤ b := by omega
 have hbN : b ≤ N := by omega
 have HX := Lib.hid hXb
 have HP := Lib.hid ha
 clear h hN ha hb hXb
 go_enter Tryz.func196, Tryz.ntmps196
 go_wp2_with fail
 clear j0
 go_loopw [8] (fun s8 wr => ∃ k : Nat, s8 = .int .i64 k ∧ a < k ∧ k ≤ b + 1 ∧ Hid (Upto w g P X Q (k - a) wr)) (fun s8 _ => b + 1 - (intOf s8).toNat)
 case atStart => exact ⟨a + 1, by go_num, by omega, by omega, by rw [show a + 1 - a = 1 by omega]; exact H0⟩
 case round =>
  obtain ⟨k, rfl, hak, hkb, HU⟩ := hrel
  by_cases hlt : k < b
  ·have hd : decide ((k : Int) < (b : Int)) = true := decide_eq_true (by omega)
   have hkX : k - a < X.length := by have := HX.out; omega
   obtain ⟨M, hM1, hM2, hM3, hG⟩ := goes_start HU.out hkX
   have HKX := Lib.hid hkX
   have HM1 := Lib.hid hM1
   have HM2 := Lib.hid hM2
   have HG : Hid (Goes w g P M X[k - a]! (X.drop (k - a + 1) ++ Q) k wr) := Lib.hid (by rw [show P.length + (k - a) = k by have := HP.out; omega] at hG; exact hG)
   have HEnd := Lib.hid fun (j : Nat) W (h : Goes w g P M X[k - a]! (X.drop (k - a + 1) ++ Q) j W) he => goes_end HKX.out h HM1.out HM2.out he
   obtain ⟨x, hx⟩ : ∃ x, x = X[k - a]! := ⟨_, rfl⟩
   rw [← hx] at HG HEnd
   clear hx hM1 hM2 hM3 hG HU hkX HKX HM1 HM2
   generalize X.drop (k - a + 1) ++ Q = R at *
   have i8 : IntKind.i64.wrap ((k : Int) + 1) = (k : Int) + 1 := IntWalk.i64_in _ ⟨by omega, by omega⟩
   have HN1 : Hid (Upto w g P X Q (k - a + 1) = Upto w g P X Q (k + 1 - a)) := Lib.hid (by rw [show k - a + 1 = k + 1 - a by omega])
   rw [HN1.out] at HEnd
   clear HN1
   go_wp2_with fail
   go_loopw [9] (fun s9 wr => ∃ j : Nat, s9 = .int .i64 j ∧ a ≤ j ∧ j ≤ k ∧ Hid (Goes w g P M x R j wr)) (fun s9 _ => (intOf s9).toNat)
   case atStart => exact ⟨k, rfl, by omega, by omega, HG⟩
   case round =>
    clear HG
    obtain ⟨j, rfl, haj, hjk, HG⟩ := hrel
    by_cases hja : a < j
    ·obtain ⟨t, rfl⟩ : ∃ t, j = t + 1 := ⟨j - 1, by omega⟩
     obtain ⟨S1, S2, y, e1, e2, e3, hr⟩ := goes_ahead HG.out (by have := HP.out; omega)
     have hd2 : decide ((a : Int) < (t : Int) + 1) = true := decide_eq_true (by omega)
     have i1 : IntKind.i64.wrap ((t : Int) + 1 - 1) = (t : Int) := by rw [IntWalk.i64_in _ ⟨by omega, by omega⟩]; omega
     have i2 : IntKind.i64.wrap (t : Int) = (t : Int) := IntWalk.i64_in _ ⟨by omega, by omega⟩
     have i3 : (0 : Int) ≤ (t : Int) := by omega
     have i4 : (t : Int) < (N : Int) := by omega
     have i5 : (0 : Int) ≤ (t : Int) + 1 := by omega
     have i6 : (t : Int) + 1 < (N : Int) := by omega
     have i7 : ((t : Int) + 1).toNat = t + 1 := by omega
     have hp : (P ++ S1).length = t := by rw [List.length_append]; omega
     have hq : (P ++ S1).length + 1 + ([] : List Mm).length = t + 1 := by rw [hp]; rfl
     have HE1 := Lib.hid e1
     have HE2 := Lib.hid e2
     have HE3 := Lib.hid e3
     have Hp := Lib.hid hp
     have Hq := Lib.hid hq
     have HR := Lib.hid hr
     clear e1 e2 e3 hp hq hr
     obtain ⟨⟨x1, x2⟩, x3, x4⟩ := x
     obtain ⟨⟨y1, y2⟩, y3, y4⟩ := y
     obtain ⟨z, hz⟩ : ∃ z, z = cmpZ x1 x2 y1 y2 := ⟨_, rfl⟩
     have HC := Lib.hid fun W => cmpM_any x1 x2 x3 x4 y1 y2 y3 y4 W
     have HQ := Lib.hid fun w' (hb : Below wr.heap.size wr w') => (show (w'.cell? ⟨g, (t + 1) * 4, none⟩ = some (.int .i64 x1) ∧ w'.cell? ⟨g, (t + 1) * 4 + 1, none⟩ = some (.int .i64 x2) ∧ w'.cell? ⟨g, (t + 1) * 4 + 2, none⟩ = some (.int .u8 x3) ∧ w'.cell? ⟨g, (t + 1) * 4 + 3, none⟩ = some (.int .i64 x4)) ∧ (w'.cell? ⟨g, t * 4, none⟩ = some (.int .i64 y1) ∧ w'.cell? ⟨g, t * 4 + 1, none⟩ = some (.int .i64 y2) ∧ w'.cell? ⟨g, t * 4 + 2, none⟩ = some (.int .u8 y3) ∧ w'.cell? ⟨g, t * 4 + 3, none⟩ = some (.int .i64 y4)) ∧ Hid (Below wr.heap.size wr w') from by
      obtain ⟨c1, c2, -, -⟩ := two_cellsL (rowL_kept HR.out hb) Hp.out Hq.out
      exact ⟨c2, c1, Lib.hid hb⟩)
     by_cases hc : Sets.lt (x1, x2) (y1, y2)
     ·have hzd : decide (z < 0) = true := by rw [hz]; exact cmpZ_ltAGR hc
      rw [← hz] at HC
      have HCt := Lib.hid hc
      clear hz hc
      go_wp2_with fail
      go_region_held3 (fun w' => (w'.cell? ⟨g, (t + 1) * 4, none⟩ = some (.int .i64 x1) ∧ w'.cell? ⟨g, (t + 1) * 4 + 1, none⟩ = some (.int .i64 x2) ∧ w'.cell? ⟨g, (t + 1) * 4 + 2, none⟩ = some (.int .u8 x3) ∧ w'.cell? ⟨g, (t + 1) * 4 + 3, none⟩ = some (.int .i64 x4)) ∧ (w'.cell? ⟨g, t * 4, none⟩ = some (.int .i64 y1) ∧ w'.cell? ⟨g, t * 4 + 1, none⟩ = some (.int .i64 y2) ∧ w'.cell? ⟨g, t * 4 + 2, none⟩ = some (.int .u8 y3) ∧ w'.cell? ⟨g, t * 4 + 3, none⟩ = some (.int .i64 y4)) ∧ Hid (Below wr.heap.size wr w'))
       (first | exact HQ.out _ (Below.refl _ _).drew | exact HQ.out _ HK.out)
       (first | (go_at_call 167; (with_reducible refine (HC.out _).mono ?_); rintro e w' ⟨rfl, hb⟩; have HK := Lib.hid (below_after (Below.refl _ _).drew hb (Nat.le_refl _)); clear hb))
      have RR := Lib.hid (rowL_kept HR.out HK.out)
      have R2 := Lib.hid (rowL_kept (swapL_down RR.out Hp.out Hq.out) (below_drewN (n := 1) (Below.refl _ _)))
      rw [show P ++ S1 ++ ((x1, x2), x3, x4) :: [] ++ ((y1, y2), y3, y4) :: (S2 ++ R) = P ++ S1 ++ ((x1, x2), x3, x4) :: (((y1, y2), y3, y4) :: S2 ++ R) by simp] at R2
      have G2 := Lib.hid (grown_below HG.out.grown HK.out)
      have G3 := Lib.hid (grown_below (grown_swap G2.out (t + 1) t (.int .i64 y1) (.int .i64 y2) (.int .u8 y3) (.int .i64 y4) (.int .i64 x1) (.int .i64 x2) (.int .u8 x3) (.int .i64 x4)) (below_drewN (n := 1) (Below.refl _ _)))
      obtain ⟨⟨d1, d2, d3, d4⟩, ⟨c1, c2, c3, c4⟩, ⟨f1, f2, f3, f4⟩, e1, e2, e3, e4⟩ := two_cellsL RR.out Hp.out Hq.out
      have n1 : ¬ t + 1 = t := by omega
      have n2 : ¬ t = t + 1 := by omega
      go_wp2_with fail
      go_region
      go_wp2_with fail
      go_roundw
      case rel => exact ⟨t, rfl, by omega, by omega, Lib.hid ⟨⟨S1, ((y1, y2), y3, y4) :: S2, HE1.out, HE2.out, fun z hz => by
       rcases List.mem_cons.1 hz with rfl | hz
       ·exact HCt.out
       ·exact HE3.out z hz, R2.out⟩, G3.out⟩⟩
      case measure => simp [intOf]
     ·have hzd : decide (z < 0) = false := by rw [hz]; exact cmpZ_geAGR hc
      rw [← hz] at HC
      have HCt := Lib.hid hc
      clear hz hc
      go_wp2_with fail
      go_region_held3 (fun w' => (w'.cell? ⟨g, (t + 1) * 4, none⟩ = some (.int .i64 x1) ∧ w'.cell? ⟨g, (t + 1) * 4 + 1, none⟩ = some (.int .i64 x2) ∧ w'.cell? ⟨g, (t + 1) * 4 + 2, none⟩ = some (.int .u8 x3) ∧ w'.cell? ⟨g, (t + 1) * 4 + 3, none⟩ = some (.int .i64 x4)) ∧ (w'.cell? ⟨g, t * 4, none⟩ = some (.int .i64 y1) ∧ w'.cell? ⟨g, t * 4 + 1, none⟩ = some (.int .i64 y2) ∧ w'.cell? ⟨g, t * 4 + 2, none⟩ = some (.int .u8 y3) ∧ w'.cell? ⟨g, t * 4 + 3, none⟩ = some (.int .i64 y4)) ∧ Hid (Below wr.heap.size wr w'))
       (first | exact HQ.out _ (Below.refl _ _).drew | exact HQ.out _ HK.out)
       (first | (go_at_call 167; (with_reducible refine (HC.out _).mono ?_); rintro e w' ⟨rfl, hb⟩; have HK := Lib.hid (below_after (Below.refl _ _).drew hb (Nat.le_refl _)); clear hb))
      have HF := Lib.hid (HEnd.out (t + 1) _ (HG.out.kept HK.out) (.inr ⟨S1, S2, _, HE1.out, by rw [HE2.out], HCt.out⟩))
      go_wp2_with fail
      go_roundw
      case rel => exact ⟨k + 1, by go_num, by omega, by omega, HF⟩
      case measure => simp [intOf]; omega
    ·obtain rfl : j = a := by omega
     have hd2 : decide ((j : Int) < (j : Int)) = false := decide_eq_false (by omega)
     go_wp2_with fail
     refine wp_region_held_drew (S := fun w' => Hid (Below wr.heap.size wr w')) (by kernel_rfl) ?_ (fun hHeld => ?_)
     ·exact Lib.hid (Below.refl _ _).drew
     (refine tk_ (i := 0) (oi := ⟨_, _, _, _, _, _⟩) (v := ?_) rfl (Or.inl ⟨by rfl, ?_⟩) ?_; rotate_left 1; · (intro w hSw; (try dsimp only at hSw); go_simp; all_goals with_reducible rfl))
     try simp only [Act.put, si0, si1, si2]
     (refine tk_ (i := 1) (oi := ⟨_, _, _, _, _, _⟩) (v := ?_) rfl (Or.inl ⟨by rfl, ?_⟩) ?_; rotate_left 1; · (intro w hSw; (try dsimp only at hSw); go_simp; all_goals with_reducible rfl))
     try simp only [Act.put, si0, si1, si2]
     (refine tk_ (i := 2) (oi := ⟨_, _, _, _, _, _⟩) (v := ?_) rfl (Or.inl ⟨by rfl, ?_⟩) ?_; rotate_left 1; · (intro w hSw; (try dsimp only at hSw); go_simp; all_goals with_reducible rfl))
     try simp only [Act.put, si0, si1, si2]
     (refine tk_ (i := 3) (oi := ⟨_, _, _, _, _, _⟩) (v := ?_) rfl (Or.inl ⟨by rfl, ?_⟩) ?_; rotate_left 1; · (intro w hSw; (try dsimp only at hSw); go_simp; all_goals with_reducible rfl))
     try simp only [Act.put, si0, si1, si2]
     refine tk_ (i := 4) (oi := ⟨_, _, _, _, _, _⟩) (v := undef) rfl (Or.inr ⟨by kernel_rfl, rfl⟩) ?_
     try simp only [Act.put, si0, si1, si2]
     refine tk_ (i := 5) (oi := ⟨_, _, _, _, _, _⟩) (v := undef) rfl (Or.inr ⟨by kernel_rfl, rfl⟩) ?_
     try simp only [Act.put, si0, si1, si2]
     refine tk_ (i := 6) (oi := ⟨_, _, _, _, _, _⟩) (v := undef) rfl (Or.inr ⟨by kernel_rfl, rfl⟩) ?_
     try simp only [Act.put, si0, si1, si2]
     refine tk_ (i := 7) (oi := ⟨_, _, _, _, _, _⟩) (v := undef) rfl (Or.inr ⟨by kernel_rfl, rfl⟩) ?_
     try simp only [Act.put, si0, si1, si2]
     refine tk_ (i := 8) (oi := ⟨_, _, _, _, _, _⟩) (v := undef) rfl (Or.inr ⟨by kernel_rfl, rfl⟩) ?_
     try simp only [Act.put, si0, si1, si2]
     refine tk_ (i := 9) (oi := ⟨_, _, _, _, _, _⟩) (v := undef) rfl (Or.inr ⟨by kernel_rfl, rfl⟩) ?_
     try simp only [Act.put, si0, si1, si2]
     refine tk_ (i := 10) (oi := ⟨_, _, _, _, _, _⟩) (v := undef) rfl (Or.inr ⟨by kernel_rfl, rfl⟩) ?_
     try simp only [Act.put, si0, si1, si2]
     refine tk_ (i := 11) (oi := ⟨_, _, _, _, _, _⟩) (v := undef) rfl (Or.inr ⟨by kernel_rfl, rfl⟩) ?_
     try simp only [Act.put, si0, si1, si2]
     refine tk_ (i := 12) (oi := ⟨_, _, _, _, _, _⟩) (v := undef) rfl (Or.inr ⟨by kernel_rfl, rfl⟩) ?_
     try simp only [Act.put, si0, si1, si2]
     refine tk_ (i := 13) (oi := ⟨_, _, _, _, _, _⟩) (v := undef) rfl (Or.inr ⟨by kernel_rfl, rfl⟩) ?_
     try simp only [Act.put, si0, si1, si2]
     refine tk_ (i := 14) (oi := ⟨_, _, _, _, _, _⟩) (v := undef) rfl (Or.inr ⟨by kernel_rfl, rfl⟩) ?_
     try simp only [Act.put, si0, si1, si2]
     refine tk_ (i := 15) (oi := ⟨_, _, _, _, _, _⟩) (v := undef) rfl (Or.inr ⟨by kernel_rfl, rfl⟩) ?_
     try simp only [Act.put, si0, si1, si2]
     (refine tk_ (i := 16) (oi := ⟨_, _, _, _, _, _⟩) (v := ?_) rfl (Or.inl ⟨by rfl, ?_⟩) ?_; rotate_left 1; · (intro w hSw; (try dsimp only at hSw); go_simp; all_goals with_reducible rfl))
     try simp only [Act.put, si0, si1, si2]
     refine wpAnyH_done (by kernel_rfl) ?_ _
     have HF := Lib.hid (HEnd.out j _ (HG.out.kept (below_drewN (n := 1) (Below.refl _ _))) (.inl HP.out.symm))
     clear hHeld
     go_wp2_with fail
     go_roundw
     case rel => exact ⟨k + 1, by go_num, by omega, by omega, HF⟩
     case measure => simp [intOf]; omega
  ·have hd : decide ((k : Int) < (b : Int)) = false := decide_eq_false (by omega)
   have HS := Lib.hid (upto_end HU.out (by have := HX.out; omega))
   go_wp2_with fail
   go_end0
   exact ⟨rfl, HS.out⟩
end Go.Proofs.YtgphiggbajbmhaaGreatDoor
namespace Go.Proofs.YtgphiggbajbmhaaGreatDoor
open Go Go.RowKit Ros
def SortedIn (w : World) (g : Nat) (l : List Mm) (e : Ending) (w' : World) : Prop := e = .returned (.tuple #[]) ∧ ∃ M : List Mm, Stab.Sorted kM M ∧ Stab.Same kM l M ∧ RowL w' g M ∧ w.grownBy w' (some g)
set_option maxHeartbeats 4000000 in
theorem stable_anyAGR (g c N : Nat) (l : List Mm) (w : World) (h : RowL w g l) (hN : l.length = N) (hl : N < 20) :
  Calls Tryz.prog 180 #[.slice (some ⟨g, 0, none⟩) N c, .int .i64 N, .func (.func 167) #[] #[]] w (SortedIn w g l) := by
 have HC := Lib.hid (insertion_anyAGR g c N 0 N [] l [] w (by rw [List.append_nil]; exact h) (by simp; omega) (by omega) rfl (by simp; omega))
 rw [show ((0 : Nat) : Int) = 0 from rfl] at HC
 clear h hN
 have hd : decide ((20 : Int) ≤ (N : Int)) = false := by simp; omega
 have hd2 : decide ((20 : Int) < (N : Int)) = false := by simp; omega
 go_enter Tryz.func180, Tryz.ntmps180
 go_wp2_with fail
 go_loopw [7, 8] (fun s7 s8 wr => s7 = .int .i64 0 ∧ s8 = .int .i64 20 ∧ wr = w) (fun _ _ _ => 0)
 case atStart => exact ⟨rfl, rfl, rfl⟩
 case round =>
  obtain ⟨rfl, rfl, rfl⟩ := hrel
  go_wp2_with fail
  (with_reducible refine HC.out.mono ?_)
  rintro e w1 ⟨rfl, M, s1, s2, s3, s4⟩
  have H1 := Lib.hid s1
  have H2 := Lib.hid s2
  have H3 := Lib.hid s3
  have H4 := Lib.hid s4
  clear s1 s2 s3 s4
  go_wp2_with fail
  go_loopw [6] (fun s6 wr => s6 = .int .i64 20 ∧ wr = w1) (fun _ _ => 0)
  case atStart => exact ⟨rfl, rfl⟩
  case round =>
   obtain ⟨rfl, rfl⟩ := hrel
   go_wp2_with fail
   go_end0
   exact ⟨rfl, M, H1.out, H2.out, by have h := H3.out; simpa using h, H4.out⟩
theorem sortStable_anyAGR (g c : Nat) (l : List Mm) (w : World) (h : RowL w g l) (hl : l.length < 20) :
  Calls Tryz.prog 166 #[.slice (some ⟨g, 0, none⟩) l.length c, .func (.func 167) #[] #[]] w (SortedIn w g l) := by
 have HC := Lib.hid (stable_anyAGR g c l.length l w h rfl hl)
 go_enter Tryz.func166, Tryz.ntmps166
 go_wp2_with fail
 (with_reducible refine HC.out.mono ?_)
 rintro e w1 ⟨rfl, hs⟩
 have HS := Lib.hid hs
 clear hs
 go_wp2_with fail
 go_end0
 exact ⟨rfl, HS.out⟩
end Go.Proofs.YtgphiggbajbmhaaGreatDoor
namespace Go.Proofs.YtgphiggbajbmhaaGreatDoor
open Go Go.RowKit Ros
def keepM (d : Array Mm) : Nat → Bool
 | 0 => true
 | j + 1 => !decide (d[j + 1]!.1 = d[j]!.1)
def cptM (p : Option Id2) : List Mm → List Mm
 | [] => []
 | t :: l => if p = some t.1 then cptM p l else t :: cptM (some t.1) l
def lastM : Option Id2 → List Mm → Option Id2
 | p, [] => p
 | _, s :: l => lastM (some s.1) l
theorem lastM_snoc (t : Mm) : ∀ (l : List Mm) (p : Option Id2), lastM p (l ++ [t]) = some t.1
 | [], _ => rfl
 | s :: l, _ => lastM_snoc t l (some s.1)
theorem cptM_snoc (t : Mm) : ∀ (l : List Mm) (p : Option Id2), cptM p (l ++ [t]) = cptM p l ++ (if lastM p l = some t.1 then [] else [t])
 | [], p => by
  by_cases e : p = some t.1 <;> simp [cptM, lastM, e]
 | s :: l, p => by
  rw [List.cons_append, cptM, cptM, lastM]
  by_cases e : p = some s.1
  ·rw [if_pos e, if_pos e, cptM_snoc t l p, e]
  ·rw [if_neg e, if_neg e, cptM_snoc t l (some s.1), List.cons_append]
theorem keepM_upTo (d : Array Mm) : ∀ m, m ≤ d.size → Go.Lib.keptUpTo (keepM d) d m = cptM none (d.toList.take m)
 | 0, _ => by simp [Go.Lib.keptUpTo, cptM]
 | m + 1, h => by
  have hm : m < d.toList.length := by simp; omega
  have hg : d.toList[m] = d[m]! := by rw [getElem!_pos d m (by omega)]; simp
  rw [Go.Lib.keptUpTo_succ, keepM_upTo d m (by omega), List.take_succ_eq_append_getElem hm, cptM_snoc, hg]
  congr 1
  cases m with
  | zero => simp [keepM, lastM]
  | succ j =>
   have hj : j < d.toList.length := by omega
   have hgj : d.toList[j] = d[j]! := by rw [getElem!_pos d j (by omega)]; simp
   rw [List.take_succ_eq_append_getElem hj, lastM_snoc, hgj, keepM]
   by_cases e : d[j + 1]!.1 = d[j]!.1
   ·simp [e]
   ·have e2 : ¬ d[j]!.1 = d[j + 1]!.1 := fun h => e h.symm
    simp [e, e2]
theorem keepM_all (d : Array Mm) : Go.Lib.keptUpTo (keepM d) d d.size = cptM none d.toList := by
 rw [keepM_upTo d d.size (Nat.le_refl _), List.take_of_length_le (by simp)]
theorem cptM_short {d : Array Mm} (h : d.size < 2) : cptM none d.toList = d.toList := by
 rw [← keepM_all, Go.Lib.keptUpTo_all (keepM d) d d.size (fun j hj => by
  obtain rfl : j = 0 := by omega
  rfl), Go.Lib.range_map_get]
set_option maxHeartbeats 4000000 in
theorem compact_anyAGR (g c : Nat) (d : Array Mm) (w : World) (h : RowAtR encM 4 w g d) (hc : d.size ≤ c) (hl : d.size ≤ 100000) :
  Calls Tryz.prog 168 #[.slice (some ⟨g, 0, none⟩) d.size c, .func (.func 169) #[] #[]] w fun e w' => ∃ d' : Array Mm, e = .returned (.slice (some ⟨g, 0, none⟩) d'.size c) ∧ d'.toList = cptM none d.toList ∧ RowAtR encM 4 w' g d' ∧ w.grownBy w' (some g) := by
 have HR := Lib.hid h
 have HA := Lib.hid (keepM_all d)
 clear h
 by_cases h2 : d.size < 2
 ·have hd : decide ((d.size : Int) < 2) = true := by simp; omega
  have HF := Lib.hid (cptM_short h2)
  go_enter Tryz.func168, Tryz.ntmps168
  go_wp2_with fail
  go_ret
  exact ⟨d, rfl, HF.out.symm, HR.out, World.grownBy.refl _ _⟩
 ·have hd0 : decide ((d.size : Int) < 2) = false := by simp; omega
  go_enter Tryz.func168, Tryz.ntmps168
  go_wp2_with fail
  go_loopw [5] (fun s5 wr => ∃ k : Nat, s5 = .int .i64 k ∧ 1 ≤ k ∧ k ≤ d.size ∧ Hid (∀ j, j < k → keepM d j = true) ∧ Hid (Below w.heap.size w wr)) (fun s5 _ => d.size - (intOf s5).toNat)
  case atStart => exact ⟨1, rfl, by omega, by omega, Lib.hid fun j hj => by obtain rfl : j = 0 := (by omega); rfl, Lib.hid (Below.refl _ _)⟩
  case round =>
   obtain ⟨k, rfl, hk1, hkl, HT, HW⟩ := hrel
   obtain ⟨q, rfl⟩ : ∃ q, k = q + 1 := ⟨k - 1, by omega⟩
   by_cases hlt : q + 1 < d.size
   ·have hd : decide (((q : Int) + 1) < (d.size : Int)) = true := by simp; omega
    have i1 : IntKind.i64.wrap ((q : Int) + 1 - 1) = (q : Int) := by rw [IntWalk.i64_in _ ⟨by omega, by omega⟩]; omega
    have i2 : IntKind.i64.wrap (q : Int) = (q : Int) := IntWalk.i64_in _ ⟨by omega, by omega⟩
    have i3 : (0 : Int) ≤ (q : Int) := by omega
    have i4 : (q : Int) < (d.size : Int) := by omega
    have i5 : (0 : Int) ≤ (q : Int) + 1 := by omega
    have i6 : (q : Int) + 1 < (d.size : Int) := by omega
    have i7 : ((q : Int) + 1).toNat = q + 1 := by omega
    have HS := Lib.hid fun w' (hb : Below w.heap.size w w') => And.intro ((rowAtR_kept HR.out hb).mem hlt).1 (And.intro ((rowAtR_kept HR.out hb).mem (show q < d.size by omega)).1 (Lib.hid hb))
    have HC := Lib.hid fun W => eqM_any d[q + 1]!.1.1 d[q + 1]!.1.2 d[q + 1]!.2.1 d[q + 1]!.2.2 d[q]!.1.1 d[q]!.1.2 d[q]!.2.1 d[q]!.2.2 W
    by_cases he : d[q + 1]!.1 = d[q]!.1
    ·have hv : sameI (d[q + 1]!.1.1, d[q + 1]!.1.2) (d[q]!.1.1, d[q]!.1.2) = true := decide_eq_true he
     rw [hv] at HC
     have HK0 := Lib.hid (Go.Lib.KeptInv.start (kp := keepM d) (d := d) (k0 := q + 1) HT.out (by simp [keepM, he]))
     clear hv he
     generalize d[q + 1]!.1.1 = a1 at *
     generalize d[q + 1]!.1.2 = b1 at *
     generalize d[q + 1]!.2.1 = s1 at *
     generalize d[q + 1]!.2.2 = n1 at *
     generalize d[q]!.1.1 = a0 at *
     generalize d[q]!.1.2 = b0 at *
     generalize d[q]!.2.1 = s0 at *
     generalize d[q]!.2.2 = n0 at *
     have hck : ¬ c = q + 1 := by omega
     have hle : ((q : Int) + 1) ≤ (d.size : Int) := by omega
     go_wp2_with fail
     go_region_held3 (fun w' => (w'.cell? ⟨g, (q + 1) * 4, none⟩ = some (.int .i64 a1) ∧ w'.cell? ⟨g, (q + 1) * 4 + 1, none⟩ = some (.int .i64 b1) ∧ w'.cell? ⟨g, (q + 1) * 4 + 2, none⟩ = some (.int .u8 s1) ∧ w'.cell? ⟨g, (q + 1) * 4 + 3, none⟩ = some (.int .i64 n1)) ∧ (w'.cell? ⟨g, q * 4, none⟩ = some (.int .i64 a0) ∧ w'.cell? ⟨g, q * 4 + 1, none⟩ = some (.int .i64 b0) ∧ w'.cell? ⟨g, q * 4 + 2, none⟩ = some (.int .u8 s0) ∧ w'.cell? ⟨g, q * 4 + 3, none⟩ = some (.int .i64 n0)) ∧ Hid (Below w.heap.size w w'))
      (first | exact HS.out _ HW.out.drew | exact HS.out _ HK.out)
      (first | (go_at_call 169; (with_reducible refine (HC.out _).mono ?_); rintro e w' ⟨rfl, hb⟩; have HK := Lib.hid (below_after (Hid.out (by go_split_ands; assumption)) hb (Nat.le_refl _)); clear hb))
     go_wp2_with fail
     have HB := Lib.hid (Hid.out (by assumption : Hid (Below w.heap.size w w')))
     have R1 := Lib.hid (rowAtR_kept HR.out HB.out)
     have G1 := Lib.hid (grown_below (World.grownBy.refl w (some g)) HB.out)
     clear HK HS HC HW HT
     obtain ⟨N, hN⟩ : ∃ N, d.size - (q + 1) = N := ⟨_, rfl⟩
     obtain ⟨O, hO⟩ : ∃ O, (q + 1) * 4 = O := ⟨_, rfl⟩
     rw [hN, hO]
     go_loopw [5, 7] (fun s5 s7 wr => ∃ (k r : Nat) (dk : Array Mm), s5 = .int .i64 k ∧ s7 = .int .i64 ((r : Int) + 1) ∧ r + 1 ≤ N ∧ Hid (Go.Lib.KeptInv (keepM d) d (q + 1 + (r + 1)) k dk) ∧ Hid (RowAtR encM 4 wr g dk) ∧ Hid (w.grownBy wr (some g))) (fun _ s7 _ => N - (intOf s7).toNat)
     case atStart => exact ⟨q + 1, 0, d, by go_num, rfl, by omega, HK0, R1, G1⟩
     case round =>
      obtain ⟨k, r, dk, rfl, rfl, hrN, HK, H2, H3⟩ := hrel
      have hij := HK.out.lt
      have hds := HK.out.size
      have p1 : (0 : Int) ≤ (k : Int) := by omega
      have j1 : IntKind.i64.wrap ((r : Int) + 1 - 1) = (r : Int) := by rw [IntWalk.i64_in _ ⟨by omega, by omega⟩]; omega
      have j2 : IntKind.i64.wrap (r : Int) = (r : Int) := IntWalk.i64_in _ ⟨by omega, by omega⟩
      have j3 : (0 : Int) ≤ (r : Int) := by omega
      have j4 : (r : Int) < (N : Int) := by omega
      have j5 : (0 : Int) ≤ (r : Int) + 1 := by omega
      have j7 : ((r : Int) + 1).toNat = r + 1 := by omega
      by_cases hlr : r + 1 < N
      ·have hdr : decide (((r : Int) + 1) < (N : Int)) = true := by simp; omega
       have j6 : (r : Int) + 1 < (N : Int) := by omega
       have e1 : (q + 1 + (r + 1)) * 4 = O + (r + 1) * 4 := by omega
       have e0 : (q + 1 + r) * 4 = O + r * 4 := by omega
       have HS := Lib.hid fun w' (hb : Below wr.heap.size wr w') => And.intro ((rowAtR_kept H2.out hb).mem (show q + 1 + (r + 1) < dk.size by omega)).1 (And.intro ((rowAtR_kept H2.out hb).mem (show q + 1 + r < dk.size by omega)).1 (Lib.hid hb))
       rw [HK.out.high (q + 1 + (r + 1)) (by omega), HK.out.high (q + 1 + r) (by omega), e1, e0] at HS
       have HC := Lib.hid fun W => eqM_any d[q + 1 + (r + 1)]!.1.1 d[q + 1 + (r + 1)]!.1.2 d[q + 1 + (r + 1)]!.2.1 d[q + 1 + (r + 1)]!.2.2 d[q + 1 + r]!.1.1 d[q + 1 + r]!.1.2 d[q + 1 + r]!.2.1 d[q + 1 + r]!.2.2 W
       by_cases he : d[q + 1 + (r + 1)]!.1 = d[q + 1 + r]!.1
       ·have hv : sameI (d[q + 1 + (r + 1)]!.1.1, d[q + 1 + (r + 1)]!.1.2) (d[q + 1 + r]!.1.1, d[q + 1 + r]!.1.2) = true := decide_eq_true he
        rw [hv] at HC
        have HKK := Lib.hid (HK.out.skip (show (!decide (d[q + 1 + (r + 1)]!.1 = d[q + 1 + r]!.1)) = false by rw [decide_eq_true he]; rfl))
        clear hv he
        generalize d[q + 1 + (r + 1)]!.1.1 = a3 at *
        generalize d[q + 1 + (r + 1)]!.1.2 = b3 at *
        generalize d[q + 1 + (r + 1)]!.2.1 = s3 at *
        generalize d[q + 1 + (r + 1)]!.2.2 = n3 at *
        generalize d[q + 1 + r]!.1.1 = a2 at *
        generalize d[q + 1 + r]!.1.2 = b2 at *
        generalize d[q + 1 + r]!.2.1 = s2 at *
        generalize d[q + 1 + r]!.2.2 = n2 at *
        clear e1 e0
        go_wp2_with fail
        go_region_held3 (fun w' => (w'.cell? ⟨g, O + (r + 1) * 4, none⟩ = some (.int .i64 a3) ∧ w'.cell? ⟨g, O + (r + 1) * 4 + 1, none⟩ = some (.int .i64 b3) ∧ w'.cell? ⟨g, O + (r + 1) * 4 + 2, none⟩ = some (.int .u8 s3) ∧ w'.cell? ⟨g, O + (r + 1) * 4 + 3, none⟩ = some (.int .i64 n3)) ∧ (w'.cell? ⟨g, O + r * 4, none⟩ = some (.int .i64 a2) ∧ w'.cell? ⟨g, O + r * 4 + 1, none⟩ = some (.int .i64 b2) ∧ w'.cell? ⟨g, O + r * 4 + 2, none⟩ = some (.int .u8 s2) ∧ w'.cell? ⟨g, O + r * 4 + 3, none⟩ = some (.int .i64 n2)) ∧ Hid (Below wr.heap.size wr w'))
         (first | exact HS.out _ (Below.refl _ _).drew | exact HS.out _ HJ.out)
         (first | (go_at_call 169; (with_reducible refine (HC.out _).mono ?_); rintro e w' ⟨rfl, hb⟩; have HJ := Lib.hid (below_after (Hid.out (by go_split_ands; assumption)) hb (Nat.le_refl _)); clear hb))
        have R2 := Lib.hid (rowAtR_kept H2.out HJ.out)
        have G2 := Lib.hid (grown_below H3.out HJ.out)
        go_wp2_with fail
        go_roundw
        case rel => exact ⟨k, r + 1, dk, rfl, by go_num, by omega, HKK, R2, G2⟩
        case measure => simp [intOf]; omega
       ·have hv : sameI (d[q + 1 + (r + 1)]!.1.1, d[q + 1 + (r + 1)]!.1.2) (d[q + 1 + r]!.1.1, d[q + 1 + r]!.1.2) = false := decide_eq_false he
        rw [hv] at HC
        have HKK := Lib.hid (HK.out.keep (show q + 1 + (r + 1) < d.size by omega) (show (!decide (d[q + 1 + (r + 1)]!.1 = d[q + 1 + r]!.1)) = true by rw [decide_eq_false he]; rfl))
        have HE := Lib.hid (show d[q + 1 + (r + 1)]! = ((d[q + 1 + (r + 1)]!.1.1, d[q + 1 + (r + 1)]!.1.2), d[q + 1 + (r + 1)]!.2.1, d[q + 1 + (r + 1)]!.2.2) from rfl)
        rw [HE.out] at HKK
        clear hv he
        generalize d[q + 1 + (r + 1)]!.1.1 = a3 at *
        generalize d[q + 1 + (r + 1)]!.1.2 = b3 at *
        generalize d[q + 1 + (r + 1)]!.2.1 = s3 at *
        generalize d[q + 1 + (r + 1)]!.2.2 = n3 at *
        generalize d[q + 1 + r]!.1.1 = a2 at *
        generalize d[q + 1 + r]!.1.2 = b2 at *
        generalize d[q + 1 + r]!.2.1 = s2 at *
        generalize d[q + 1 + r]!.2.2 = n2 at *
        clear e1 e0
        have p4 : (k : Int) < (d.size : Int) := by omega
        go_wp2_with fail
        go_region_held3 (fun w' => (w'.cell? ⟨g, O + (r + 1) * 4, none⟩ = some (.int .i64 a3) ∧ w'.cell? ⟨g, O + (r + 1) * 4 + 1, none⟩ = some (.int .i64 b3) ∧ w'.cell? ⟨g, O + (r + 1) * 4 + 2, none⟩ = some (.int .u8 s3) ∧ w'.cell? ⟨g, O + (r + 1) * 4 + 3, none⟩ = some (.int .i64 n3)) ∧ (w'.cell? ⟨g, O + r * 4, none⟩ = some (.int .i64 a2) ∧ w'.cell? ⟨g, O + r * 4 + 1, none⟩ = some (.int .i64 b2) ∧ w'.cell? ⟨g, O + r * 4 + 2, none⟩ = some (.int .u8 s2) ∧ w'.cell? ⟨g, O + r * 4 + 3, none⟩ = some (.int .i64 n2)) ∧ Hid (Below wr.heap.size wr w'))
         (first | exact HS.out _ (Below.refl _ _).drew | exact HS.out _ HJ.out)
         (first | (go_at_call 169; (with_reducible refine (HC.out _).mono ?_); rintro e w' ⟨rfl, hb⟩; have HJ := Lib.hid (below_after (Hid.out (by go_split_ands; assumption)) hb (Nat.le_refl _)); clear hb))
        have R2 := Lib.hid (rowAtR_kept H2.out HJ.out)
        have G2 := Lib.hid (grown_below H3.out HJ.out)
        obtain ⟨⟨c1, c2, c3, c4⟩, f1, f2, f3, f4⟩ := R2.out.mem (show k < dk.size by omega)
        have R3 := Lib.hid (rowM_set R2.out (show k < dk.size by omega) a3 b3 s3 n3)
        have G3 := Lib.hid (grown_setM G2.out k (.int .i64 a3) (.int .i64 b3) (.int .u8 s3) (.int .i64 n3))
        obtain ⟨x1, x2, x3, x4⟩ := (HS.out _ HJ.out).1
        go_wp2_with fail
        go_roundw
        case rel => exact ⟨k + 1, r + 1, _, by go_num, by go_num, by omega, HKK, R3, G3⟩
        case measure => simp [intOf]; omega
      ·have hdr : decide (((r : Int) + 1) < (N : Int)) = false := by simp; omega
       have hm : q + 1 + (r + 1) = d.size := by omega
       rw [hm] at HK hij
       obtain ⟨vs, hcl⟩ := run_clear_recs (P := Tryz.prog) (enc := encM) (sz := 4) encM_len (by omega) Tryz.underlying22 zero32 rfl (by intro u hu; simp [Value.cells] at hu; rcases hu with rfl | rfl | rfl <;> rfl) H2.out (show k < dk.size by omega) (c - k) 0
       have R3 := Lib.hid (rowAtR_front encM_len H2.out (show k ≤ dk.size by omega) vs)
       have G3 := Lib.hid (grown_setCells H3.out (k * 4) vs)
       have HF := Lib.hid (kept_front HK.out)
       have hci : ¬ c = k := by omega
       have p5 : (k : Int) ≤ (d.size : Int) := by omega
       rw [hds] at hcl
       go_wp2_with fail
       go_ret
       exact ⟨dk.extract 0 k, by simp; omega, HF.out.trans HA.out, R3.out, G3.out⟩
    ·have hv : sameI (d[q + 1]!.1.1, d[q + 1]!.1.2) (d[q]!.1.1, d[q]!.1.2) = false := decide_eq_false he
     rw [hv] at HC
     have HF := Lib.hid (show ∀ j, j < q + 1 + 1 → keepM d j = true from fun j hj => by
      by_cases e : j = q + 1
      ·subst e
       simp [keepM, he]
      ·exact HT.out j (by omega))
     clear hv he
     generalize d[q + 1]!.1.1 = a1 at *
     generalize d[q + 1]!.1.2 = b1 at *
     generalize d[q + 1]!.2.1 = s1 at *
     generalize d[q + 1]!.2.2 = n1 at *
     generalize d[q]!.1.1 = a0 at *
     generalize d[q]!.1.2 = b0 at *
     generalize d[q]!.2.1 = s0 at *
     generalize d[q]!.2.2 = n0 at *
     go_wp2_with fail
     go_region_held3 (fun w' => (w'.cell? ⟨g, (q + 1) * 4, none⟩ = some (.int .i64 a1) ∧ w'.cell? ⟨g, (q + 1) * 4 + 1, none⟩ = some (.int .i64 b1) ∧ w'.cell? ⟨g, (q + 1) * 4 + 2, none⟩ = some (.int .u8 s1) ∧ w'.cell? ⟨g, (q + 1) * 4 + 3, none⟩ = some (.int .i64 n1)) ∧ (w'.cell? ⟨g, q * 4, none⟩ = some (.int .i64 a0) ∧ w'.cell? ⟨g, q * 4 + 1, none⟩ = some (.int .i64 b0) ∧ w'.cell? ⟨g, q * 4 + 2, none⟩ = some (.int .u8 s0) ∧ w'.cell? ⟨g, q * 4 + 3, none⟩ = some (.int .i64 n0)) ∧ Hid (Below w.heap.size w w'))
      (first | exact HS.out _ HW.out.drew | exact HS.out _ HK.out)
      (first | (go_at_call 169; (with_reducible refine (HC.out _).mono ?_); rintro e w' ⟨rfl, hb⟩; have HK := Lib.hid (below_after (Hid.out (by go_split_ands; assumption)) hb (Nat.le_refl _)); clear hb))
     go_wp2_with fail
     go_roundw
     case rel => exact ⟨q + 1 + 1, by go_num, by omega, by omega, HF, Hid.out (by assumption)⟩
     case measure => simp [intOf]; omega
   ·have hd : decide (((q : Int) + 1) < (d.size : Int)) = false := by simp; omega
    have HF := Lib.hid (show d.toList = cptM none d.toList by
     rw [← HA.out, Go.Lib.keptUpTo_all (keepM d) d d.size (fun j hj => HT.out j (by omega)), Go.Lib.range_map_get])
    go_wp2_with fail
    go_ret
    exact ⟨d, rfl, HF.out, rowAtR_kept HR.out HW.out, grown_below (World.grownBy.refl _ _) HW.out⟩
end Go.Proofs.YtgphiggbajbmhaaGreatDoor
