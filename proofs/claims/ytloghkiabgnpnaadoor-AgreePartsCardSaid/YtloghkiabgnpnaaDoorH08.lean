/-
  Carried over and put together: contracts of this program's functions, and plain facts. No statement is proved in this text.
-/
import Derived.Test.YtloghkiabgnpnaaDoorH07
namespace Go.Proofs.YtloghkiabgnpnaaDoor
open Go Go.RowKit Ros
/-- A part that is sorted up to a place. -/
structure Upto (w : World) (g : Nat) (P X Q : List Mm) (k : Nat) (W : World) : Prop where
  ex : ∃ M : List Mm, Stab.Sorted kM M ∧ Stab.Same kM (X.take k) M ∧ RowL W g (P ++ M ++ (X.drop k ++ Q))
  grown : w.grownBy W (some g)
/-- One element goes down. -/
structure Goes (w : World) (g : Nat) (P M : List Mm) (x : Mm) (R : List Mm) (j : Nat) (W : World) : Prop where
  ex : ∃ S1 S2 : List Mm, S1 ++ S2 = M ∧ P.length + S1.length = j ∧ (∀ y ∈ S2, Sets.lt x.1 y.1) ∧ RowL W g (P ++ S1 ++ x :: (S2 ++ R))
  grown : w.grownBy W (some g)
theorem Goes.kept {w : World} {g : Nat} {P M : List Mm} {x : Mm} {R : List Mm} {j : Nat} {W W' : World} (h : Goes w g P M x R j W) (hb : Below W.heap.size W W') : Goes w g P M x R j W' := by
  obtain ⟨⟨S1, S2, h1, h2, h3, h4⟩, h5⟩ := h
  exact ⟨⟨S1, S2, h1, h2, h3, rowL_kept h4 hb⟩, grown_below h5 hb⟩
theorem goes_start {w : World} {g : Nat} {P X Q : List Mm} {k : Nat} {W : World} (h : Upto w g P X Q k W) (hk : k < X.length) :
    ∃ M : List Mm, Stab.Sorted kM M ∧ Stab.Same kM (X.take k) M ∧ M.length = k ∧ Goes w g P M X[k]! (X.drop (k + 1) ++ Q) (P.length + k) W := by
  obtain ⟨⟨M, h1, h2, h3⟩, h4⟩ := h
  have e : X.drop k = X[k]! :: X.drop (k + 1) := by rw [getElem!_pos X k hk]; exact List.drop_eq_getElem_cons hk
  have hl : M.length = k := by rw [← h2.1, List.length_take]; omega
  exact ⟨M, h1, h2, hl, ⟨⟨M, [], by simp, by omega, (fun y hy => by cases hy), by rw [e] at h3; simpa using h3⟩, h4⟩⟩
/-- The element ahead of it, where there is one. -/
theorem goes_ahead {w : World} {g : Nat} {P M : List Mm} {x : Mm} {R : List Mm} {t : Nat} {W : World} (h : Goes w g P M x R (t + 1) W) (ht : P.length ≤ t) :
    ∃ (S1 S2 : List Mm) (y : Mm), S1 ++ y :: S2 = M ∧ P.length + S1.length = t ∧ (∀ z ∈ S2, Sets.lt x.1 z.1) ∧ RowL W g (P ++ S1 ++ y :: [] ++ x :: (S2 ++ R)) := by
  obtain ⟨⟨S1, S2, h1, h2, h3, h4⟩, -⟩ := h
  rcases List.eq_nil_or_concat S1 with e | ⟨S, y, e⟩
  · subst e
    simp at h2
    omega
  · rw [List.concat_eq_append] at e
    subst e
    refine ⟨S, S2, y, by simpa using h1, by simp at h2; omega, h3, by simpa using h4⟩
theorem goes_end {w : World} {g : Nat} {P X Q M : List Mm} {k j : Nat} {W : World} (hk : k < X.length) (h : Goes w g P M X[k]! (X.drop (k + 1) ++ Q) j W) (hM : Stab.Sorted kM M) (hs : Stab.Same kM (X.take k) M)
    (hend : j = P.length ∨ ∃ (S1 S2 : List Mm) (y : Mm), S1 ++ y :: S2 = M ∧ P.length + S1.length + 1 = j ∧ ¬ Sets.lt X[k]!.1 y.1) : Upto w g P X Q (k + 1) W := by
  obtain ⟨⟨S1, S2, h1, h2, h3, h4⟩, hg⟩ := h
  have e : X.take (k + 1) = X.take k ++ [X[k]!] := by rw [getElem!_pos X k hk]; exact List.take_succ_eq_append_getElem hk
  have hb : ∀ z ∈ S1, ¬ Sets.lt X[k]!.1 z.1 := by
    rcases hend with hj | ⟨T1, T2, y, e1, e2, hy⟩
    · have : S1 = [] := List.eq_nil_of_length_eq_zero (by omega)
      subst this
      intro z hz
      cases hz
    · have hl : S1.length = (T1 ++ [y]).length := by simp; omega
      have e3 : S1 = T1 ++ [y] := by
        have e4 : S1 ++ S2 = (T1 ++ [y]) ++ T2 := by rw [h1, ← e1]; simp
        exact (List.append_inj e4 hl).1
      subst e3
      rw [← h1] at hM
      exact Stab.below_last (Stab.sorted_app.1 hM).1 hy
  generalize X[k]! = x at *
  rw [← h1] at hM hs
  refine ⟨⟨S1 ++ x :: S2, Stab.insert_sorted hM h3 hb, ?_, ?_⟩, hg⟩
  · rw [e]
    exact (hs.app (Stab.Same.refl [x])).trans (Stab.insert_same h3)
  · simpa using h4
theorem upto_start (w : World) (g : Nat) (P X Q : List Mm) (h : RowL w g (P ++ X ++ Q)) : Upto w g P X Q 1 w := by
  refine ⟨⟨X.take 1, ?_, Stab.Same.refl _, ?_⟩, World.grownBy.refl _ _⟩
  · match X with
    | [] => exact Stab.sorted_nil
    | x :: X => exact Stab.sorted_one x
  · rw [← List.append_assoc, List.append_assoc P, List.take_append_drop]
    exact h
theorem upto_end {w : World} {g : Nat} {P X Q : List Mm} {k : Nat} {W : World} (h : Upto w g P X Q k W) (hk : X.length ≤ k) : ∃ M : List Mm, Stab.Sorted kM M ∧ Stab.Same kM X M ∧ RowL W g (P ++ M ++ Q) ∧ w.grownBy W (some g) := by
  obtain ⟨⟨M, h1, h2, h3⟩, h4⟩ := h
  rw [List.take_of_length_le hk] at h2
  rw [List.drop_of_length_le hk] at h3
  exact ⟨M, h1, h2, by simpa using h3, h4⟩
/-- What is answered where a part was sorted. -/
def Sorts (w : World) (g : Nat) (P X Q : List Mm) (e : Ending) (w' : World) : Prop := e = .returned (.tuple #[]) ∧ ∃ M : List Mm, Stab.Sorted kM M ∧ Stab.Same kM X M ∧ RowL w' g (P ++ M ++ Q) ∧ w.grownBy w' (some g)
set_option maxHeartbeats 4000000 in
set_option maxRecDepth 100000 in
theorem insertion_any (g c N a b : Nat) (P X Q : List Mm) (w : World) (h : RowL w g (P ++ X ++ Q)) (hN : P.length + X.length + Q.length = N) (hl : N ≤ 100000) (ha : P.length = a) (hb : P.length + X.length = b) :
    Calls Tryd.prog 75 #[.slice (some ⟨g, 0, none⟩) N c, .int .i64 a, .int .i64 b, .func (.func 68) #[] #[]] w (Sorts w g P X Q) := by
  have H0 := Lib.hid (upto_start w g P X Q h)
  have j0 : IntKind.i64.wrap ((a : Int) + 1) = (a : Int) + 1 := IntWalk.i64_in _ ⟨by omega, by omega⟩
  have hXb : X.length = b - a := by omega
  have hab : a ≤ b := by omega
  have hbN : b ≤ N := by omega
  have HX := Lib.hid hXb
  have HP := Lib.hid ha
  clear h hN ha hb hXb
  go_enter Tryd.func75, Tryd.ntmps75
  go_wp2_with fail
  clear j0
  go_loopw [8] (fun s8 wr => ∃ k : Nat, s8 = .int .i64 k ∧ a < k ∧ k ≤ b + 1 ∧ Hid (Upto w g P X Q (k - a) wr)) (fun s8 _ => b + 1 - (intOf s8).toNat)
  case atStart => exact ⟨a + 1, by go_num, by omega, by omega, by rw [show a + 1 - a = 1 by omega]; exact H0⟩
  case round =>
    obtain ⟨k, rfl, hak, hkb, HU⟩ := hrel
    by_cases hlt : k < b
    · have hd : decide ((k : Int) < (b : Int)) = true := decide_eq_true (by omega)
      have hkX : k - a < X.length := by have := HX.out; omega
      obtain ⟨M, hM1, hM2, hM3, hG⟩ := goes_start HU.out hkX
      have HKX := Lib.hid hkX
      have HM1 := Lib.hid hM1
      have HM2 := Lib.hid hM2
      have HG : Hid (Goes w g P M X[k - a]! (X.drop (k - a + 1) ++ Q) k wr) := Lib.hid (by rw [show P.length + (k - a) = k by have := HP.out; omega] at hG; exact hG)
      have HEnd := Lib.hid fun (j : Nat) W (h : Goes w g P M X[k - a]! (X.drop (k - a + 1) ++ Q) j W) he => goes_end HKX.out h HM1.out HM2.out he
      obtain ⟨x, hx⟩ : ∃ x, x = X[k - a]! := ⟨_, rfl⟩
      rw [← hx] at HG HEnd
      clear hx hM1 hM2 hM3 hG HU hkX HKX HM1 HM2
      generalize X.drop (k - a + 1) ++ Q = R at *
      have i8 : IntKind.i64.wrap ((k : Int) + 1) = (k : Int) + 1 := IntWalk.i64_in _ ⟨by omega, by omega⟩
      have HN1 : Hid (Upto w g P X Q (k - a + 1) = Upto w g P X Q (k + 1 - a)) := Lib.hid (by rw [show k - a + 1 = k + 1 - a by omega])
      rw [HN1.out] at HEnd
      clear HN1
      go_wp2_with fail
      go_loopw [9] (fun s9 wr => ∃ j : Nat, s9 = .int .i64 j ∧ a ≤ j ∧ j ≤ k ∧ Hid (Goes w g P M x R j wr)) (fun s9 _ => (intOf s9).toNat)
      case atStart => exact ⟨k, rfl, by omega, by omega, HG⟩
      case round =>
        clear HG
        obtain ⟨j, rfl, haj, hjk, HG⟩ := hrel
        by_cases hja : a < j
        · obtain ⟨t, rfl⟩ : ∃ t, j = t + 1 := ⟨j - 1, by omega⟩
          obtain ⟨S1, S2, y, e1, e2, e3, hr⟩ := goes_ahead HG.out (by have := HP.out; omega)
          have hd2 : decide ((a : Int) < (t : Int) + 1) = true := decide_eq_true (by omega)
          have i1 : IntKind.i64.wrap ((t : Int) + 1 - 1) = (t : Int) := by rw [IntWalk.i64_in _ ⟨by omega, by omega⟩]; omega
          have i2 : IntKind.i64.wrap (t : Int) = (t : Int) := IntWalk.i64_in _ ⟨by omega, by omega⟩
          have i3 : (0 : Int) ≤ (t : Int) := by omega
          have i4 : (t : Int) < (N : Int) := by omega
          have i5 : (0 : Int) ≤ (t : Int) + 1 := by omega
          have i6 : (t : Int) + 1 < (N : Int) := by omega
          have i7 : ((t : Int) + 1).toNat = t + 1 := by omega
          have hp : (P ++ S1).length = t := by rw [List.length_append]; omega
          have hq : (P ++ S1).length + 1 + ([] : List Mm).length = t + 1 := by rw [hp]; rfl
          have HE1 := Lib.hid e1
          have HE2 := Lib.hid e2
          have HE3 := Lib.hid e3
          have Hp := Lib.hid hp
          have Hq := Lib.hid hq
          have HR := Lib.hid hr
          clear e1 e2 e3 hp hq hr
          obtain ⟨⟨x1, x2⟩, x3, x4⟩ := x
          obtain ⟨⟨y1, y2⟩, y3, y4⟩ := y
          obtain ⟨z, hz⟩ : ∃ z, z = cmpZ x1 x2 y1 y2 := ⟨_, rfl⟩
          have HC := Lib.hid fun W => cmpM_any x1 x2 x3 x4 y1 y2 y3 y4 W
          have HQ := Lib.hid fun w' (hb : Below wr.heap.size wr w') => (show (w'.cell? ⟨g, (t + 1) * 4, none⟩ = some (.int .i64 x1) ∧ w'.cell? ⟨g, (t + 1) * 4 + 1, none⟩ = some (.int .i64 x2) ∧ w'.cell? ⟨g, (t + 1) * 4 + 2, none⟩ = some (.int .u8 x3) ∧ w'.cell? ⟨g, (t + 1) * 4 + 3, none⟩ = some (.int .i64 x4)) ∧ (w'.cell? ⟨g, t * 4, none⟩ = some (.int .i64 y1) ∧ w'.cell? ⟨g, t * 4 + 1, none⟩ = some (.int .i64 y2) ∧ w'.cell? ⟨g, t * 4 + 2, none⟩ = some (.int .u8 y3) ∧ w'.cell? ⟨g, t * 4 + 3, none⟩ = some (.int .i64 y4)) ∧ Hid (Below wr.heap.size wr w') from by
            obtain ⟨c1, c2, -, -⟩ := two_cellsL (rowL_kept HR.out hb) Hp.out Hq.out
            exact ⟨c2, c1, Lib.hid hb⟩)
          by_cases hc : Sets.lt (x1, x2) (y1, y2)
          · have hzd : decide (z < 0) = true := by rw [hz]; exact cmpZ_lt hc
            rw [← hz] at HC
            have HCt := Lib.hid hc
            clear hz hc
            go_wp2_with fail
            go_region_held3 (fun w' => (w'.cell? ⟨g, (t + 1) * 4, none⟩ = some (.int .i64 x1) ∧ w'.cell? ⟨g, (t + 1) * 4 + 1, none⟩ = some (.int .i64 x2) ∧ w'.cell? ⟨g, (t + 1) * 4 + 2, none⟩ = some (.int .u8 x3) ∧ w'.cell? ⟨g, (t + 1) * 4 + 3, none⟩ = some (.int .i64 x4)) ∧ (w'.cell? ⟨g, t * 4, none⟩ = some (.int .i64 y1) ∧ w'.cell? ⟨g, t * 4 + 1, none⟩ = some (.int .i64 y2) ∧ w'.cell? ⟨g, t * 4 + 2, none⟩ = some (.int .u8 y3) ∧ w'.cell? ⟨g, t * 4 + 3, none⟩ = some (.int .i64 y4)) ∧ Hid (Below wr.heap.size wr w'))
              (first | exact HQ.out _ (Below.refl _ _).drew | exact HQ.out _ HK.out)
              (first | (go_at_call 68; (with_reducible refine (HC.out _).mono ?_); rintro e w' ⟨rfl, hb⟩; have HK := Lib.hid (below_after (Below.refl _ _).drew hb (Nat.le_refl _)); clear hb))
            have RR := Lib.hid (rowL_kept HR.out HK.out)
            have R2 := Lib.hid (rowL_kept (swapL_down RR.out Hp.out Hq.out) (below_drewN (n := 1) (Below.refl _ _)))
            rw [show P ++ S1 ++ ((x1, x2), x3, x4) :: [] ++ ((y1, y2), y3, y4) :: (S2 ++ R) = P ++ S1 ++ ((x1, x2), x3, x4) :: (((y1, y2), y3, y4) :: S2 ++ R) by simp] at R2
            have G2 := Lib.hid (grown_below HG.out.grown HK.out)
            have G3 := Lib.hid (grown_below (grown_swap G2.out (t + 1) t (.int .i64 y1) (.int .i64 y2) (.int .u8 y3) (.int .i64 y4) (.int .i64 x1) (.int .i64 x2) (.int .u8 x3) (.int .i64 x4)) (below_drewN (n := 1) (Below.refl _ _)))
            obtain ⟨⟨d1, d2, d3, d4⟩, ⟨c1, c2, c3, c4⟩, ⟨f1, f2, f3, f4⟩, e1, e2, e3, e4⟩ := two_cellsL RR.out Hp.out Hq.out
            have n1 : ¬ t + 1 = t := by omega
            have n2 : ¬ t = t + 1 := by omega
            go_wp2_with fail
            go_region
            go_wp2_with fail
            go_roundw
            case rel => exact ⟨t, rfl, by omega, by omega, Lib.hid ⟨⟨S1, ((y1, y2), y3, y4) :: S2, HE1.out, HE2.out, fun z hz => by
              rcases List.mem_cons.1 hz with rfl | hz
              · exact HCt.out
              · exact HE3.out z hz, R2.out⟩, G3.out⟩⟩
            case measure => simp [intOf]
          · have hzd : decide (z < 0) = false := by rw [hz]; exact cmpZ_ge hc
            rw [← hz] at HC
            have HCt := Lib.hid hc
            clear hz hc
            go_wp2_with fail
            go_region_held3 (fun w' => (w'.cell? ⟨g, (t + 1) * 4, none⟩ = some (.int .i64 x1) ∧ w'.cell? ⟨g, (t + 1) * 4 + 1, none⟩ = some (.int .i64 x2) ∧ w'.cell? ⟨g, (t + 1) * 4 + 2, none⟩ = some (.int .u8 x3) ∧ w'.cell? ⟨g, (t + 1) * 4 + 3, none⟩ = some (.int .i64 x4)) ∧ (w'.cell? ⟨g, t * 4, none⟩ = some (.int .i64 y1) ∧ w'.cell? ⟨g, t * 4 + 1, none⟩ = some (.int .i64 y2) ∧ w'.cell? ⟨g, t * 4 + 2, none⟩ = some (.int .u8 y3) ∧ w'.cell? ⟨g, t * 4 + 3, none⟩ = some (.int .i64 y4)) ∧ Hid (Below wr.heap.size wr w'))
              (first | exact HQ.out _ (Below.refl _ _).drew | exact HQ.out _ HK.out)
              (first | (go_at_call 68; (with_reducible refine (HC.out _).mono ?_); rintro e w' ⟨rfl, hb⟩; have HK := Lib.hid (below_after (Below.refl _ _).drew hb (Nat.le_refl _)); clear hb))
            have HF := Lib.hid (HEnd.out (t + 1) _ (HG.out.kept HK.out) (.inr ⟨S1, S2, _, HE1.out, by rw [HE2.out], HCt.out⟩))
            go_wp2_with fail
            go_roundw
            case rel => exact ⟨k + 1, by go_num, by omega, by omega, HF⟩
            case measure => simp [intOf]; omega
        · obtain rfl : j = a := by omega
          have hd2 : decide ((j : Int) < (j : Int)) = false := decide_eq_false (by omega)
          go_wp2_with fail
          refine wp_region_held_drew (S := fun w' => Hid (Below wr.heap.size wr w')) (by kernel_rfl) ?_ (fun hHeld => ?_)
          · exact Lib.hid (Below.refl _ _).drew
          (refine wpAnyH_take (i := 0) (oi := ⟨_, _, _, _, _, _⟩) (v := ?_) rfl (by kernel_rfl) (by kernel_rfl) (by kernel_rfl) (fun _ _ _ h => h) (Or.inl ⟨by rfl, ?_⟩) (by assumption) ?_; rotate_left 1; · (intro w hSw; (try dsimp only at hSw); go_simp; all_goals with_reducible rfl))
          try simp only [Act.put, List.setIfInBounds_toArray, List.set_cons_zero, List.set_cons_succ]
          (refine wpAnyH_take (i := 1) (oi := ⟨_, _, _, _, _, _⟩) (v := ?_) rfl (by kernel_rfl) (by kernel_rfl) (by kernel_rfl) (fun _ _ _ h => h) (Or.inl ⟨by rfl, ?_⟩) (by assumption) ?_; rotate_left 1; · (intro w hSw; (try dsimp only at hSw); go_simp; all_goals with_reducible rfl))
          try simp only [Act.put, List.setIfInBounds_toArray, List.set_cons_zero, List.set_cons_succ]
          (refine wpAnyH_take (i := 2) (oi := ⟨_, _, _, _, _, _⟩) (v := ?_) rfl (by kernel_rfl) (by kernel_rfl) (by kernel_rfl) (fun _ _ _ h => h) (Or.inl ⟨by rfl, ?_⟩) (by assumption) ?_; rotate_left 1; · (intro w hSw; (try dsimp only at hSw); go_simp; all_goals with_reducible rfl))
          try simp only [Act.put, List.setIfInBounds_toArray, List.set_cons_zero, List.set_cons_succ]
          (refine wpAnyH_take (i := 3) (oi := ⟨_, _, _, _, _, _⟩) (v := ?_) rfl (by kernel_rfl) (by kernel_rfl) (by kernel_rfl) (fun _ _ _ h => h) (Or.inl ⟨by rfl, ?_⟩) (by assumption) ?_; rotate_left 1; · (intro w hSw; (try dsimp only at hSw); go_simp; all_goals with_reducible rfl))
          try simp only [Act.put, List.setIfInBounds_toArray, List.set_cons_zero, List.set_cons_succ]
          refine wpAnyH_take (i := 4) (oi := ⟨_, _, _, _, _, _⟩) (v := undef) rfl (by kernel_rfl) (by kernel_rfl) (by kernel_rfl) (fun _ _ _ h => h) (Or.inr ⟨by kernel_rfl, rfl⟩) (by assumption) ?_
          try simp only [Act.put, List.setIfInBounds_toArray, List.set_cons_zero, List.set_cons_succ]
          refine wpAnyH_take (i := 5) (oi := ⟨_, _, _, _, _, _⟩) (v := undef) rfl (by kernel_rfl) (by kernel_rfl) (by kernel_rfl) (fun _ _ _ h => h) (Or.inr ⟨by kernel_rfl, rfl⟩) (by assumption) ?_
          try simp only [Act.put, List.setIfInBounds_toArray, List.set_cons_zero, List.set_cons_succ]
          refine wpAnyH_take (i := 6) (oi := ⟨_, _, _, _, _, _⟩) (v := undef) rfl (by kernel_rfl) (by kernel_rfl) (by kernel_rfl) (fun _ _ _ h => h) (Or.inr ⟨by kernel_rfl, rfl⟩) (by assumption) ?_
          try simp only [Act.put, List.setIfInBounds_toArray, List.set_cons_zero, List.set_cons_succ]
          refine wpAnyH_take (i := 7) (oi := ⟨_, _, _, _, _, _⟩) (v := undef) rfl (by kernel_rfl) (by kernel_rfl) (by kernel_rfl) (fun _ _ _ h => h) (Or.inr ⟨by kernel_rfl, rfl⟩) (by assumption) ?_
          try simp only [Act.put, List.setIfInBounds_toArray, List.set_cons_zero, List.set_cons_succ]
          refine wpAnyH_take (i := 8) (oi := ⟨_, _, _, _, _, _⟩) (v := undef) rfl (by kernel_rfl) (by kernel_rfl) (by kernel_rfl) (fun _ _ _ h => h) (Or.inr ⟨by kernel_rfl, rfl⟩) (by assumption) ?_
          try simp only [Act.put, List.setIfInBounds_toArray, List.set_cons_zero, List.set_cons_succ]
          refine wpAnyH_take (i := 9) (oi := ⟨_, _, _, _, _, _⟩) (v := undef) rfl (by kernel_rfl) (by kernel_rfl) (by kernel_rfl) (fun _ _ _ h => h) (Or.inr ⟨by kernel_rfl, rfl⟩) (by assumption) ?_
          try simp only [Act.put, List.setIfInBounds_toArray, List.set_cons_zero, List.set_cons_succ]
          refine wpAnyH_take (i := 10) (oi := ⟨_, _, _, _, _, _⟩) (v := undef) rfl (by kernel_rfl) (by kernel_rfl) (by kernel_rfl) (fun _ _ _ h => h) (Or.inr ⟨by kernel_rfl, rfl⟩) (by assumption) ?_
          try simp only [Act.put, List.setIfInBounds_toArray, List.set_cons_zero, List.set_cons_succ]
          refine wpAnyH_take (i := 11) (oi := ⟨_, _, _, _, _, _⟩) (v := undef) rfl (by kernel_rfl) (by kernel_rfl) (by kernel_rfl) (fun _ _ _ h => h) (Or.inr ⟨by kernel_rfl, rfl⟩) (by assumption) ?_
          try simp only [Act.put, List.setIfInBounds_toArray, List.set_cons_zero, List.set_cons_succ]
          refine wpAnyH_take (i := 12) (oi := ⟨_, _, _, _, _, _⟩) (v := undef) rfl (by kernel_rfl) (by kernel_rfl) (by kernel_rfl) (fun _ _ _ h => h) (Or.inr ⟨by kernel_rfl, rfl⟩) (by assumption) ?_
          try simp only [Act.put, List.setIfInBounds_toArray, List.set_cons_zero, List.set_cons_succ]
          refine wpAnyH_take (i := 13) (oi := ⟨_, _, _, _, _, _⟩) (v := undef) rfl (by kernel_rfl) (by kernel_rfl) (by kernel_rfl) (fun _ _ _ h => h) (Or.inr ⟨by kernel_rfl, rfl⟩) (by assumption) ?_
          try simp only [Act.put, List.setIfInBounds_toArray, List.set_cons_zero, List.set_cons_succ]
          refine wpAnyH_take (i := 14) (oi := ⟨_, _, _, _, _, _⟩) (v := undef) rfl (by kernel_rfl) (by kernel_rfl) (by kernel_rfl) (fun _ _ _ h => h) (Or.inr ⟨by kernel_rfl, rfl⟩) (by assumption) ?_
          try simp only [Act.put, List.setIfInBounds_toArray, List.set_cons_zero, List.set_cons_succ]
          refine wpAnyH_take (i := 15) (oi := ⟨_, _, _, _, _, _⟩) (v := undef) rfl (by kernel_rfl) (by kernel_rfl) (by kernel_rfl) (fun _ _ _ h => h) (Or.inr ⟨by kernel_rfl, rfl⟩) (by assumption) ?_
          try simp only [Act.put, List.setIfInBounds_toArray, List.set_cons_zero, List.set_cons_succ]
          (refine wpAnyH_take (i := 16) (oi := ⟨_, _, _, _, _, _⟩) (v := ?_) rfl (by kernel_rfl) (by kernel_rfl) (by kernel_rfl) (fun _ _ _ h => h) (Or.inl ⟨by rfl, ?_⟩) (by assumption) ?_; rotate_left 1; · (intro w hSw; (try dsimp only at hSw); go_simp; all_goals with_reducible rfl))
          try simp only [Act.put, List.setIfInBounds_toArray, List.set_cons_zero, List.set_cons_succ]
          refine wpAnyH_done (by kernel_rfl) ?_ _
          have HF := Lib.hid (HEnd.out j _ (HG.out.kept (below_drewN (n := 1) (Below.refl _ _))) (.inl HP.out.symm))
          clear hHeld
          go_wp2_with fail
          go_roundw
          case rel => exact ⟨k + 1, by go_num, by omega, by omega, HF⟩
          case measure => simp [intOf]; omega
    · have hd : decide ((k : Int) < (b : Int)) = false := decide_eq_false (by omega)
      have HS := Lib.hid (upto_end HU.out (by have := HX.out; omega))
      go_wp2_with fail
      go_end0
      exact ⟨rfl, HS.out⟩
end Go.Proofs.YtloghkiabgnpnaaDoor
namespace Go.Proofs.YtloghkiabgnpnaaDoor
open Go Go.RowKit Ros
theorem at_seg {α : Type} [Inhabited α] (A Y B : List α) {a i k : Nat} (ha : A.length = a) (hi : i < Y.length) (hk : k = a + i) : (A ++ Y ++ B)[k]! = Y[i]! := by
  subst hk ha
  rw [List.append_assoc, getElem!_pos _ _ (by simp; omega), getElem!_pos Y i hi, List.getElem_append_right (by omega), List.getElem_append_left (by omega)]
  simp
/-- An element on its way up. -/
theorem rise_at {P Y Q : List Mm} {x : Mm} {t : Nat} (ht : t < Y.length) : P ++ Y.take t ++ x :: (Y.drop t ++ Q) = (P ++ Y.take t) ++ x :: [] ++ Y[t]! :: (Y.drop (t + 1) ++ Q) := by
  have e : Y.drop t = Y[t]! :: Y.drop (t + 1) := by rw [getElem!_pos Y t ht]; exact List.drop_eq_getElem_cons ht
  rw [e]
  simp
theorem rise_next {P Y Q : List Mm} {x : Mm} {t : Nat} (ht : t < Y.length) : (P ++ Y.take t) ++ Y[t]! :: [] ++ x :: (Y.drop (t + 1) ++ Q) = P ++ Y.take (t + 1) ++ x :: (Y.drop (t + 1) ++ Q) := by
  have e : Y.take (t + 1) = Y.take t ++ [Y[t]!] := by rw [getElem!_pos Y t ht]; exact List.take_succ_eq_append_getElem ht
  rw [e]
  simp
theorem sorts_of {w : World} {g : Nat} {P X Q M : List Mm} {w' : World} (h1 : Stab.Sorted kM M) (h2 : Stab.Same kM X M) (h3 : RowL w' g (P ++ M ++ Q)) (h4 : w.grownBy w' (some g)) : Sorts w g P X Q (.returned (.tuple #[])) w' := ⟨rfl, M, h1, h2, h3, h4⟩
set_option maxHeartbeats 4000000 in
set_option maxRecDepth 100000 in
theorem sym_left (g c N a b : Nat) (P Y Q : List Mm) (x : Mm) (w : World) (h : RowL w g (P ++ x :: (Y ++ Q))) (hN : P.length + 1 + Y.length + Q.length = N) (hl : N ≤ 100000) (ha : P.length = a) (hb : P.length + 1 + Y.length = b) (hY : Stab.Sorted kM Y) :
    Calls Tryd.prog 76 #[.slice (some ⟨g, 0, none⟩) N c, .int .i64 a, .int .i64 ((a : Int) + 1), .int .i64 b, .func (.func 68) #[] #[]] w (Sorts w g P (x :: Y) Q) := by
  have HI := Lib.hid h
  have HA := Lib.hid ha
  have HY := Lib.hid hY
  have hYl : Y.length = b - (a + 1) := by omega
  have hb1 : a + 1 ≤ b := by omega
  have hbN : b ≤ N := by omega
  have HYl := Lib.hid hYl
  have HL0 : Hid ((P ++ x :: (Y ++ Q)).length = N) := Lib.hid (by simp; omega)
  have j0 : IntKind.i64.wrap ((a : Int) + 1 - (a : Int)) = 1 := by rw [IntWalk.i64_in _ ⟨by omega, by omega⟩]; omega
  clear h hN ha hb hY hYl
  go_enter Tryd.func76, Tryd.ntmps76
  go_wp2_with fail
  go_loopw [10, 11] (fun s10 s11 wr => ∃ i j : Nat, s10 = .int .i64 i ∧ s11 = .int .i64 j ∧ a + 1 ≤ i ∧ i ≤ j ∧ j ≤ b ∧ Hid (i = a + 1 ∨ Sets.lt Y[i - a - 2]!.1 x.1) ∧ Hid (j = b ∨ ¬ Sets.lt Y[j - a - 1]!.1 x.1) ∧ Hid (RowL wr g (P ++ x :: (Y ++ Q))) ∧ Hid (w.grownBy wr (some g))) (fun s10 s11 _ => (intOf s11).toNat - (intOf s10).toNat)
  case atStart => exact ⟨a + 1, b, by go_num, rfl, by omega, by omega, by omega, Lib.hid (.inl rfl), Lib.hid (.inl rfl), HI, Lib.hid (World.grownBy.refl _ _)⟩
  case round =>
    obtain ⟨i, j, rfl, rfl, hai, hij, hjb, H1, H2, HR, HG⟩ := hrel
    have HL := HL0
    by_cases hlt : i < j
    · have hd : decide ((i : Int) < (j : Int)) = true := decide_eq_true (by omega)
      obtain ⟨k, hk⟩ : ∃ k : Nat, ((i : Int) + (j : Int)) / 2 = (k : Int) := ⟨(i + j) / 2, by omega⟩
      have hk1 : i ≤ k := by omega
      have hk2 : k < j := by omega
      have i3 : (0 : Int) ≤ (k : Int) := by omega
      have i4 : (k : Int) < (N : Int) := by omega
      have i5 : (0 : Int) ≤ (a : Int) := by omega
      have i6 : (a : Int) < (N : Int) := by omega
      have EX' : Hid ((P ++ x :: (Y ++ Q))[k]! = Y[k - a - 1]!) := Lib.hid (by
        have e : P ++ x :: (Y ++ Q) = (P ++ [x]) ++ Y ++ Q := by simp
        rw [e]
        exact at_seg (P ++ [x]) Y Q (a := a + 1) (by simp [HA.out]) (by have := HYl.out; omega) (by omega))
      have EY' : Hid ((P ++ x :: (Y ++ Q))[a]! = x) := Lib.hid (at_mid P _ x HA.out)
      have E1 : Hid (k + 1 - a - 2 = k - a - 1) := Lib.hid (by omega)
      obtain ⟨⟨⟨x1, x2⟩, x3, x4⟩, hx⟩ : ∃ u, u = Y[k - a - 1]! := ⟨_, rfl⟩
      obtain ⟨⟨⟨y1, y2⟩, y3, y4⟩, hy⟩ : ∃ u, u = x := ⟨_, rfl⟩
      have EX := Lib.hid (EX'.out.trans hx.symm)
      have EY := Lib.hid (EY'.out.trans hy.symm)
      have FX := Lib.hid hx
      have FY := Lib.hid hy
      clear EX' EY' hx hy
      have HC := Lib.hid fun W => cmpM_any x1 x2 x3 x4 y1 y2 y3 y4 W
      obtain ⟨z, hz⟩ : ∃ z, z = cmpZ x1 x2 y1 y2 := ⟨_, rfl⟩
      rw [← hz] at HC
      have HQ := Lib.hid fun w' (hb : Below wr.heap.size wr w') => (show (w'.cell? ⟨g, k * 4, none⟩ = some (.int .i64 x1) ∧ w'.cell? ⟨g, k * 4 + 1, none⟩ = some (.int .i64 x2) ∧ w'.cell? ⟨g, k * 4 + 2, none⟩ = some (.int .u8 x3) ∧ w'.cell? ⟨g, k * 4 + 3, none⟩ = some (.int .i64 x4)) ∧ (w'.cell? ⟨g, a * 4, none⟩ = some (.int .i64 y1) ∧ w'.cell? ⟨g, a * 4 + 1, none⟩ = some (.int .i64 y2) ∧ w'.cell? ⟨g, a * 4 + 2, none⟩ = some (.int .u8 y3) ∧ w'.cell? ⟨g, a * 4 + 3, none⟩ = some (.int .i64 y4)) ∧ Hid (Below wr.heap.size wr w') from
        ⟨rowL_cells (rowL_kept HR.out hb) (by rw [HL.out]; omega) EX.out, rowL_cells (rowL_kept HR.out hb) (by rw [HL.out]; omega) EY.out, Lib.hid hb⟩)
      by_cases hc : Sets.lt (x1, x2) (y1, y2)
      · have hzd : decide (z < 0) = true := by rw [hz]; exact cmpZ_lt hc
        have HCt := Lib.hid hc
        clear hz hc
        go_wp2_with fail
        go_region_held3 (fun w' => (w'.cell? ⟨g, k * 4, none⟩ = some (.int .i64 x1) ∧ w'.cell? ⟨g, k * 4 + 1, none⟩ = some (.int .i64 x2) ∧ w'.cell? ⟨g, k * 4 + 2, none⟩ = some (.int .u8 x3) ∧ w'.cell? ⟨g, k * 4 + 3, none⟩ = some (.int .i64 x4)) ∧ (w'.cell? ⟨g, a * 4, none⟩ = some (.int .i64 y1) ∧ w'.cell? ⟨g, a * 4 + 1, none⟩ = some (.int .i64 y2) ∧ w'.cell? ⟨g, a * 4 + 2, none⟩ = some (.int .u8 y3) ∧ w'.cell? ⟨g, a * 4 + 3, none⟩ = some (.int .i64 y4)) ∧ Hid (Below wr.heap.size wr w'))
          (first | exact HQ.out _ (Below.refl _ _).drew | exact HQ.out _ HK.out)
          (first | (go_at_call 68; (with_reducible refine (HC.out _).mono ?_); rintro e w' ⟨rfl, hb⟩; have HK := Lib.hid (below_after (Below.refl _ _).drew hb (Nat.le_refl _)); clear hb))
        have HRn := Lib.hid (rowL_kept HR.out HK.out)
        have HGn := Lib.hid (grown_below HG.out HK.out)
        go_wp2_with fail
        go_roundw
        case rel => exact ⟨k + 1, j, by go_num, rfl, by omega, by omega, by omega, Lib.hid (.inr (by rw [E1.out, ← FX.out, ← FY.out]; exact HCt.out)), H2, HRn, HGn⟩
        case measure => simp [intOf]; omega
      · have hzd : decide (z < 0) = false := by rw [hz]; exact cmpZ_ge hc
        have HCt := Lib.hid hc
        clear hz hc
        go_wp2_with fail
        go_region_held3 (fun w' => (w'.cell? ⟨g, k * 4, none⟩ = some (.int .i64 x1) ∧ w'.cell? ⟨g, k * 4 + 1, none⟩ = some (.int .i64 x2) ∧ w'.cell? ⟨g, k * 4 + 2, none⟩ = some (.int .u8 x3) ∧ w'.cell? ⟨g, k * 4 + 3, none⟩ = some (.int .i64 x4)) ∧ (w'.cell? ⟨g, a * 4, none⟩ = some (.int .i64 y1) ∧ w'.cell? ⟨g, a * 4 + 1, none⟩ = some (.int .i64 y2) ∧ w'.cell? ⟨g, a * 4 + 2, none⟩ = some (.int .u8 y3) ∧ w'.cell? ⟨g, a * 4 + 3, none⟩ = some (.int .i64 y4)) ∧ Hid (Below wr.heap.size wr w'))
          (first | exact HQ.out _ (Below.refl _ _).drew | exact HQ.out _ HK.out)
          (first | (go_at_call 68; (with_reducible refine (HC.out _).mono ?_); rintro e w' ⟨rfl, hb⟩; have HK := Lib.hid (below_after (Below.refl _ _).drew hb (Nat.le_refl _)); clear hb))
        have HRn := Lib.hid (rowL_kept HR.out HK.out)
        have HGn := Lib.hid (grown_below HG.out HK.out)
        go_wp2_with fail
        go_roundw
        case rel => exact ⟨i, k, rfl, rfl, by omega, by omega, by omega, H1, Lib.hid (.inr (by rw [← FX.out, ← FY.out]; exact HCt.out)), HRn, HGn⟩
        case measure => simp [intOf]; omega
    · obtain rfl : i = j := by omega
      have hd : decide ((i : Int) < (i : Int)) = false := decide_eq_false (by omega)
      obtain ⟨t0, ht0, ht1⟩ : ∃ t, a + 1 + t ≤ i ∧ i ≤ a + 1 + t := ⟨i - a - 1, by omega, by omega⟩
      have hYt : t0 ≤ Y.length := by have := HYl.out; omega
      have HRS := Lib.hid (Stab.raise_sorted (x := x) (k := t0) HY.out (Stab.place_low HY.out hYt (by
        rcases H1.out with e | e
        · exact .inl (by omega)
        · exact .inr (by rw [show t0 - 1 = i - a - 2 by omega]; exact e)))
        (Stab.place_high HY.out (by
        rcases H2.out with e | e
        · exact .inl (by have := HYl.out; omega)
        · exact .inr (by rw [show t0 = i - a - 1 by omega]; exact e))))
      have HYt := Lib.hid hYt
      have j1 : IntKind.i64.wrap ((i : Int) - 1) = (i : Int) - 1 := IntWalk.i64_in _ ⟨by omega, by omega⟩
      clear hYt H1 H2
      go_wp2_with fail
      go_loopw [13] (fun s13 wr => ∃ k t : Nat, s13 = .int .i64 k ∧ a + t ≤ k ∧ k ≤ a + t ∧ t ≤ t0 ∧ Hid (RowL wr g (P ++ Y.take t ++ x :: (Y.drop t ++ Q))) ∧ Hid (w.grownBy wr (some g))) (fun s13 _ => i - (intOf s13).toNat)
      case atStart => exact ⟨a, 0, rfl, by omega, by omega, by omega, Lib.hid (by simpa using HR.out), HG⟩
      case round =>
        clear HR HG
        obtain ⟨k, t, rfl, hkt, hkt2, htt, HR, HG⟩ := hrel
        by_cases hlt2 : t < t0
        · have hd2 : decide ((k : Int) < (i : Int) - 1) = true := decide_eq_true (by omega)
          have htl : t < Y.length := by have := HYt.out; omega
          have R1 := Lib.hid (rise_at (P := P) (Q := Q) (x := x) htl)
          have R2 := Lib.hid (rise_next (P := P) (Q := Q) (x := x) htl)
          have Hp : Hid ((P ++ Y.take t).length = k) := Lib.hid (by rw [List.length_append, List.length_take]; have := HA.out; omega)
          have Hq : Hid ((P ++ Y.take t).length + 1 + ([] : List Mm).length = k + 1) := Lib.hid (by rw [Hp.out]; rfl)
          have i1 : IntKind.i64.wrap ((k : Int) + 1) = (k : Int) + 1 := IntWalk.i64_in _ ⟨by omega, by omega⟩
          have i3 : (0 : Int) ≤ (k : Int) := by omega
          have i4 : (k : Int) < (N : Int) := by omega
          have i5 : (0 : Int) ≤ (k : Int) + 1 := by omega
          have i6 : (k : Int) + 1 < (N : Int) := by omega
          have i7 : ((k : Int) + 1).toNat = k + 1 := by omega
          have n1 : ¬ k + 1 = k := by omega
          have n2 : ¬ k = k + 1 := by omega
          obtain ⟨⟨⟨y1, y2⟩, y3, y4⟩, hy⟩ : ∃ u, u = Y[t]! := ⟨_, rfl⟩
          rw [← hy] at R1 R2
          obtain ⟨⟨⟨x1, x2⟩, x3, x4⟩, hx⟩ : ∃ u, u = x := ⟨_, rfl⟩
          rw [← hx] at R1 R2
          have HR2 : Hid (RowL wr g (P ++ Y.take t ++ ((x1, x2), x3, x4) :: [] ++ ((y1, y2), y3, y4) :: (Y.drop (t + 1) ++ Q))) := Lib.hid (R1.out ▸ hx ▸ HR.out)
          have R3 := Lib.hid (rowL_kept (swapL_up HR2.out Hp.out Hq.out) (below_drewN (n := 1) (Below.refl _ _)))
          rw [R2.out, hx] at R3
          have G3 := Lib.hid (grown_below (grown_swap HG.out k (k + 1) (.int .i64 y1) (.int .i64 y2) (.int .u8 y3) (.int .i64 y4) (.int .i64 x1) (.int .i64 x2) (.int .u8 x3) (.int .i64 x4)) (below_drewN (n := 1) (Below.refl _ _)))
          obtain ⟨⟨d1, d2, d3, d4⟩, ⟨c1, c2, c3, c4⟩, ⟨f1, f2, f3, f4⟩, e1, e2, e3, e4⟩ := two_cellsL HR2.out Hp.out Hq.out
          clear hx hy
          go_wp2_with fail
          go_region
          go_wp2_with fail
          go_roundw
          case rel => exact ⟨k + 1, t + 1, by go_num, by omega, by omega, by omega, R3, G3⟩
          case measure => simp [intOf]; omega
        · obtain rfl : t = t0 := by omega
          have hd2 : decide ((k : Int) < (i : Int) - 1) = false := decide_eq_false (by omega)
          have HF := Lib.hid (sorts_of (P := P) (Q := Q) HRS.out.1 HRS.out.2 (by simpa using HR.out) HG.out)
          go_wp2_with fail
          refine bodyPost_ret (results_none rfl _ _ _) rfl ?_
          exact HF.out
end Go.Proofs.YtloghkiabgnpnaaDoor
namespace Go.Proofs.YtloghkiabgnpnaaDoor
open Go Go.RowKit Ros
/-- An element on its way down. -/
theorem sink_at {P X Q : List Mm} {y : Mm} {u : Nat} (hu : u < X.length) : P ++ X.take (u + 1) ++ y :: (X.drop (u + 1) ++ Q) = (P ++ X.take u) ++ X[u]! :: [] ++ y :: (X.drop (u + 1) ++ Q) := by
  have e : X.take (u + 1) = X.take u ++ [X[u]!] := by rw [getElem!_pos X u hu]; exact List.take_succ_eq_append_getElem hu
  rw [e]
  simp
theorem sink_next {P X Q : List Mm} {y : Mm} {u : Nat} (hu : u < X.length) : (P ++ X.take u) ++ y :: [] ++ X[u]! :: (X.drop (u + 1) ++ Q) = P ++ X.take u ++ y :: (X.drop u ++ Q) := by
  have e : X.drop u = X[u]! :: X.drop (u + 1) := by rw [getElem!_pos X u hu]; exact List.drop_eq_getElem_cons hu
  rw [e]
  simp
set_option maxHeartbeats 4000000 in
set_option maxRecDepth 100000 in
theorem sym_right (g c N a m : Nat) (P X Q : List Mm) (y : Mm) (w : World) (h : RowL w g (P ++ X ++ y :: Q)) (hN : P.length + X.length + 1 + Q.length = N) (hl : N ≤ 100000) (ha : P.length = a) (hm : P.length + X.length = m) (hX : Stab.Sorted kM X) (h2 : 2 ≤ X.length) :
    Calls Tryd.prog 76 #[.slice (some ⟨g, 0, none⟩) N c, .int .i64 a, .int .i64 m, .int .i64 ((m : Int) + 1), .func (.func 68) #[] #[]] w (Sorts w g P (X ++ [y]) Q) := by
  have HI := Lib.hid h
  have HA := Lib.hid ha
  have HX := Lib.hid hX
  have hXl : X.length = m - a := by omega
  have hb1 : a + 2 ≤ m := by omega
  have hbN : m + 1 ≤ N := by omega
  have HXl := Lib.hid hXl
  have HL0 : Hid ((P ++ X ++ y :: Q).length = N) := Lib.hid (by simp; omega)
  have j0 : IntKind.i64.wrap ((m : Int) + 1 - (m : Int)) = 1 := by rw [IntWalk.i64_in _ ⟨by omega, by omega⟩]; omega
  have j1 : ((m : Int) - (a : Int) == 1) = false := beq_eq_false_iff_ne.2 (by omega)
  have j2 : IntKind.i64.wrap ((m : Int) - (a : Int)) = (m : Int) - (a : Int) := IntWalk.i64_in _ ⟨by omega, by omega⟩
  clear h hN ha hm hX hXl h2
  go_enter Tryd.func76, Tryd.ntmps76
  go_wp2_with fail
  go_loopw [14, 15] (fun s14 s15 wr => ∃ i j : Nat, s14 = .int .i64 i ∧ s15 = .int .i64 j ∧ a ≤ i ∧ i ≤ j ∧ j ≤ m ∧ Hid (i = a ∨ ¬ Sets.lt y.1 X[i - a - 1]!.1) ∧ Hid (j = m ∨ Sets.lt y.1 X[j - a]!.1) ∧ Hid (RowL wr g (P ++ X ++ y :: Q)) ∧ Hid (w.grownBy wr (some g))) (fun s14 s15 _ => (intOf s15).toNat - (intOf s14).toNat)
  case atStart => exact ⟨a, m, rfl, rfl, by omega, by omega, by omega, Lib.hid (.inl rfl), Lib.hid (.inl rfl), HI, Lib.hid (World.grownBy.refl _ _)⟩
  case round =>
    obtain ⟨i, j, rfl, rfl, hai, hij, hjb, H1, H2, HR, HG⟩ := hrel
    have HL := HL0
    by_cases hlt : i < j
    · have hd : decide ((i : Int) < (j : Int)) = true := decide_eq_true (by omega)
      obtain ⟨k, hk⟩ : ∃ k : Nat, ((i : Int) + (j : Int)) / 2 = (k : Int) := ⟨(i + j) / 2, by omega⟩
      have hk1 : i ≤ k := by omega
      have hk2 : k < j := by omega
      have i3 : (0 : Int) ≤ (k : Int) := by omega
      have i4 : (k : Int) < (N : Int) := by omega
      have i5 : (0 : Int) ≤ (m : Int) := by omega
      have i6 : (m : Int) < (N : Int) := by omega
      have EY' : Hid ((P ++ X ++ y :: Q)[k]! = X[k - a]!) := Lib.hid (at_seg P X _ (a := a) HA.out (by have := HXl.out; omega) (by omega))
      have EX' : Hid ((P ++ X ++ y :: Q)[m]! = y) := Lib.hid (at_mid (P ++ X) _ y (by rw [List.length_append]; have := HA.out; have := HXl.out; omega))
      have E1 : Hid (k + 1 - a - 1 = k - a) := Lib.hid (by omega)
      obtain ⟨⟨⟨y1, y2⟩, y3, y4⟩, hy⟩ : ∃ u, u = X[k - a]! := ⟨_, rfl⟩
      obtain ⟨⟨⟨x1, x2⟩, x3, x4⟩, hx⟩ : ∃ u, u = y := ⟨_, rfl⟩
      have EX := Lib.hid (EX'.out.trans hx.symm)
      have EY := Lib.hid (EY'.out.trans hy.symm)
      have FX := Lib.hid hx
      have FY := Lib.hid hy
      clear EX' EY' hx hy
      have HC := Lib.hid fun W => cmpM_any x1 x2 x3 x4 y1 y2 y3 y4 W
      obtain ⟨z, hz⟩ : ∃ z, z = cmpZ x1 x2 y1 y2 := ⟨_, rfl⟩
      rw [← hz] at HC
      have HQ := Lib.hid fun w' (hb : Below wr.heap.size wr w') => (show (w'.cell? ⟨g, m * 4, none⟩ = some (.int .i64 x1) ∧ w'.cell? ⟨g, m * 4 + 1, none⟩ = some (.int .i64 x2) ∧ w'.cell? ⟨g, m * 4 + 2, none⟩ = some (.int .u8 x3) ∧ w'.cell? ⟨g, m * 4 + 3, none⟩ = some (.int .i64 x4)) ∧ (w'.cell? ⟨g, k * 4, none⟩ = some (.int .i64 y1) ∧ w'.cell? ⟨g, k * 4 + 1, none⟩ = some (.int .i64 y2) ∧ w'.cell? ⟨g, k * 4 + 2, none⟩ = some (.int .u8 y3) ∧ w'.cell? ⟨g, k * 4 + 3, none⟩ = some (.int .i64 y4)) ∧ Hid (Below wr.heap.size wr w') from
        ⟨rowL_cells (rowL_kept HR.out hb) (by rw [HL.out]; omega) EX.out, rowL_cells (rowL_kept HR.out hb) (by rw [HL.out]; omega) EY.out, Lib.hid hb⟩)
      by_cases hc : Sets.lt (x1, x2) (y1, y2)
      · have hzd : decide (z < 0) = true := by rw [hz]; exact cmpZ_lt hc
        have HCt := Lib.hid hc
        clear hz hc
        go_wp2_with fail
        go_region_held3 (fun w' => (w'.cell? ⟨g, m * 4, none⟩ = some (.int .i64 x1) ∧ w'.cell? ⟨g, m * 4 + 1, none⟩ = some (.int .i64 x2) ∧ w'.cell? ⟨g, m * 4 + 2, none⟩ = some (.int .u8 x3) ∧ w'.cell? ⟨g, m * 4 + 3, none⟩ = some (.int .i64 x4)) ∧ (w'.cell? ⟨g, k * 4, none⟩ = some (.int .i64 y1) ∧ w'.cell? ⟨g, k * 4 + 1, none⟩ = some (.int .i64 y2) ∧ w'.cell? ⟨g, k * 4 + 2, none⟩ = some (.int .u8 y3) ∧ w'.cell? ⟨g, k * 4 + 3, none⟩ = some (.int .i64 y4)) ∧ Hid (Below wr.heap.size wr w'))
          (first | exact HQ.out _ (Below.refl _ _).drew | exact HQ.out _ HK.out)
          (first | (go_at_call 68; (with_reducible refine (HC.out _).mono ?_); rintro e w' ⟨rfl, hb⟩; have HK := Lib.hid (below_after (Below.refl _ _).drew hb (Nat.le_refl _)); clear hb))
        have HRn := Lib.hid (rowL_kept HR.out HK.out)
        have HGn := Lib.hid (grown_below HG.out HK.out)
        go_wp2_with fail
        go_roundw
        case rel => exact ⟨i, k, rfl, rfl, by omega, by omega, by omega, H1, Lib.hid (.inr (by rw [← FX.out, ← FY.out]; exact HCt.out)), HRn, HGn⟩
        case measure => simp [intOf]; omega
      · have hzd : decide (z < 0) = false := by rw [hz]; exact cmpZ_ge hc
        have HCt := Lib.hid hc
        clear hz hc
        go_wp2_with fail
        go_region_held3 (fun w' => (w'.cell? ⟨g, m * 4, none⟩ = some (.int .i64 x1) ∧ w'.cell? ⟨g, m * 4 + 1, none⟩ = some (.int .i64 x2) ∧ w'.cell? ⟨g, m * 4 + 2, none⟩ = some (.int .u8 x3) ∧ w'.cell? ⟨g, m * 4 + 3, none⟩ = some (.int .i64 x4)) ∧ (w'.cell? ⟨g, k * 4, none⟩ = some (.int .i64 y1) ∧ w'.cell? ⟨g, k * 4 + 1, none⟩ = some (.int .i64 y2) ∧ w'.cell? ⟨g, k * 4 + 2, none⟩ = some (.int .u8 y3) ∧ w'.cell? ⟨g, k * 4 + 3, none⟩ = some (.int .i64 y4)) ∧ Hid (Below wr.heap.size wr w'))
          (first | exact HQ.out _ (Below.refl _ _).drew | exact HQ.out _ HK.out)
          (first | (go_at_call 68; (with_reducible refine (HC.out _).mono ?_); rintro e w' ⟨rfl, hb⟩; have HK := Lib.hid (below_after (Below.refl _ _).drew hb (Nat.le_refl _)); clear hb))
        have HRn := Lib.hid (rowL_kept HR.out HK.out)
        have HGn := Lib.hid (grown_below HG.out HK.out)
        go_wp2_with fail
        go_roundw
        case rel => exact ⟨k + 1, j, by go_num, rfl, by omega, by omega, by omega, Lib.hid (.inr (by rw [E1.out, ← FX.out, ← FY.out]; exact HCt.out)), H2, HRn, HGn⟩
        case measure => simp [intOf]; omega
    · obtain rfl : i = j := by omega
      have hd : decide ((i : Int) < (i : Int)) = false := decide_eq_false (by omega)
      obtain ⟨t0, ht0, ht1⟩ : ∃ t, a + t ≤ i ∧ i ≤ a + t := ⟨i - a, by omega, by omega⟩
      have hXt : t0 ≤ X.length := by have := HXl.out; omega
      have HS1 := Lib.hid (Stab.place_low' (x := y) HX.out hXt (by
        rcases H1.out with e | e
        · exact .inl (by omega)
        · exact .inr (by rw [show t0 - 1 = i - a - 1 by omega]; exact e)))
      have HS2 := Lib.hid (Stab.place_high' (x := y) (i := t0) HX.out (by
        rcases H2.out with e | e
        · exact .inl (by have := HXl.out; omega)
        · exact .inr (by rw [show t0 = i - a by omega]; exact e)))
      have HXt := Lib.hid hXt
      clear hXt H1 H2
      go_wp2_with fail
      go_loopw [17] (fun s17 wr => ∃ k t : Nat, s17 = .int .i64 k ∧ a + t ≤ k ∧ k ≤ a + t ∧ t0 ≤ t ∧ t ≤ m - a ∧ Hid (RowL wr g (P ++ X.take t ++ y :: (X.drop t ++ Q))) ∧ Hid (w.grownBy wr (some g))) (fun s17 _ => (intOf s17).toNat)
      case atStart => exact ⟨m, m - a, rfl, by omega, by omega, by omega, by omega, Lib.hid (by rw [← HXl.out, List.take_length, List.drop_length]; simpa using HR.out), HG⟩
      case round =>
        clear HR HG
        obtain ⟨k, t, rfl, hkt, hkt2, htt, htm, HR, HG⟩ := hrel
        by_cases hlt2 : t0 < t
        · obtain ⟨v, rfl⟩ : ∃ v, k = v + 1 := ⟨k - 1, by omega⟩
          obtain ⟨u, rfl⟩ : ∃ u, t = u + 1 := ⟨t - 1, by omega⟩
          have hd2 : decide ((i : Int) < (v : Int) + 1) = true := decide_eq_true (by omega)
          have htl : u < X.length := by have := HXl.out; omega
          have R1 := Lib.hid (sink_at (P := P) (Q := Q) (y := y) htl)
          have R2 := Lib.hid (sink_next (P := P) (Q := Q) (y := y) htl)
          have Hp : Hid ((P ++ X.take u).length = v) := Lib.hid (by rw [List.length_append, List.length_take]; have := HA.out; omega)
          have Hq : Hid ((P ++ X.take u).length + 1 + ([] : List Mm).length = v + 1) := Lib.hid (by rw [Hp.out]; rfl)
          have i1 : IntKind.i64.wrap ((v : Int) + 1 - 1) = (v : Int) := by rw [IntWalk.i64_in _ ⟨by omega, by omega⟩]; omega
          have i2 : IntKind.i64.wrap (v : Int) = (v : Int) := IntWalk.i64_in _ ⟨by omega, by omega⟩
          have i3 : (0 : Int) ≤ (v : Int) := by omega
          have i4 : (v : Int) < (N : Int) := by omega
          have i5 : (0 : Int) ≤ (v : Int) + 1 := by omega
          have i6 : (v : Int) + 1 < (N : Int) := by omega
          have i7 : ((v : Int) + 1).toNat = v + 1 := by omega
          have n1 : ¬ v + 1 = v := by omega
          have n2 : ¬ v = v + 1 := by omega
          obtain ⟨⟨⟨x1, x2⟩, x3, x4⟩, hx⟩ : ∃ z, z = X[u]! := ⟨_, rfl⟩
          rw [← hx] at R1 R2
          obtain ⟨⟨⟨y1, y2⟩, y3, y4⟩, hy⟩ : ∃ z, z = y := ⟨_, rfl⟩
          rw [← hy] at R1 R2
          have HR2 : Hid (RowL wr g (P ++ X.take u ++ ((x1, x2), x3, x4) :: [] ++ ((y1, y2), y3, y4) :: (X.drop (u + 1) ++ Q))) := Lib.hid (R1.out ▸ hy ▸ HR.out)
          have R3 := Lib.hid (rowL_kept (swapL_down HR2.out Hp.out Hq.out) (below_drewN (n := 1) (Below.refl _ _)))
          rw [R2.out, hy] at R3
          have G3 := Lib.hid (grown_below (grown_swap HG.out (v + 1) v (.int .i64 x1) (.int .i64 x2) (.int .u8 x3) (.int .i64 x4) (.int .i64 y1) (.int .i64 y2) (.int .u8 y3) (.int .i64 y4)) (below_drewN (n := 1) (Below.refl _ _)))
          obtain ⟨⟨d1, d2, d3, d4⟩, ⟨c1, c2, c3, c4⟩, ⟨f1, f2, f3, f4⟩, e1, e2, e3, e4⟩ := two_cellsL HR2.out Hp.out Hq.out
          clear hx hy
          go_wp2_with fail
          go_region
          go_wp2_with fail
          go_roundw
          case rel => exact ⟨v, u, rfl, by omega, by omega, by omega, by omega, R3, G3⟩
          case measure => simp [intOf]
        · obtain rfl : t = t0 := by omega
          have hd2 : decide ((i : Int) < (k : Int)) = false := decide_eq_false (by omega)
          have HF := Lib.hid (sorts_of (X := X ++ [y]) (P := P) (Q := Q) (Stab.insert_sorted (S1 := X.take t) (S2 := X.drop t) (by rw [List.take_append_drop]; exact HX.out) HS2.out HS1.out) (by have e := Stab.insert_same (key := kM) (S1 := X.take t) (S2 := X.drop t) (x := y) HS2.out; rwa [List.take_append_drop] at e) (by simpa using HR.out) HG.out)
          go_wp2_with fail
          refine bodyPost_ret (results_none rfl _ _ _) rfl ?_
          exact HF.out
end Go.Proofs.YtloghkiabgnpnaaDoor
