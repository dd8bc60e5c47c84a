/-
  Walks over the lives of addresses, kept in an array: one made at least so great, whether an ID is gone, the lesser one of two numbers above 0. No statement is proved in this text; it holds for every input that its premises let by.
-/
import Derived.Test.YtciolhpkhblnbaaConcat
import Derived.Deep.DeepCutAuto
namespace Go.Proofs.Ytciolhpkhblnbaa
open Go Go.RowKit Ros
theorem max_two (a b : Int) (w : World) : (Builtin.max_ #[3, 3] 3 #[.int .i64 a, .int .i64 b]).run Try.prog w = .ok (.int .i64 (max a b)) w := by
  have h2 : ∀ x y : Int, Builtin.max2 (.int .i64 x) (.int .i64 y) = pure (.int .i64 (max x y)) := by
    intro x y
    show pure (Value.int .i64 (if x < y then y else x)) = _
    by_cases h : x < y
    · rw [if_pos h, show max x y = y by omega]
    · rw [if_neg h, show max x y = x by omega]
  simp [Builtin.max_, h2, List.foldlM, Sem.run_pure]
theorem max_two8 (a b : Int) (w : World) : (Builtin.max_ #[5, 5] 5 #[.int .u8 a, .int .u8 b]).run Try.prog w = .ok (.int .u8 (max a b)) w := by
  have h2 : ∀ x y : Int, Builtin.max2 (.int .u8 x) (.int .u8 y) = pure (.int .u8 (max x y)) := by
    intro x y
    show pure (Value.int .u8 (if x < y then y else x)) = _
    by_cases h : x < y
    · rw [if_pos h, show max x y = y by omega]
    · rw [if_neg h, show max x y = x by omega]
  simp [Builtin.max_, h2, List.foldlM, Sem.run_pure]
theorem min_two (a b : Int) (w : World) : (Builtin.min_ #[3, 3] 3 #[.int .i64 a, .int .i64 b]).run Try.prog w = .ok (.int .i64 (min a b)) w := by
  have h2 : ∀ x y : Int, Builtin.min2 (.int .i64 x) (.int .i64 y) = pure (.int .i64 (min x y)) := by
    intro x y
    show pure (Value.int .i64 (if y < x then y else x)) = _
    by_cases h : y < x
    · rw [if_pos h, show min x y = y by omega]
    · rw [if_neg h, show min x y = x by omega]
  simp [Builtin.min_, h2, List.foldlM, Sem.run_pure]
theorem elder_any (a b : Int) (w : World) :
    Calls Try.prog 57 #[.int .i64 a, .int .i64 b] w fun e w' => e = .returned (.int .i64 (elder a b)) ∧ w = w' := by
  have hm := max_two b 0 w
  have hn := min_two a b w
  by_cases h1 : a ≤ 0
  · have HE := Lib.hid (show elder a b = max b 0 by unfold elder; rw [if_pos h1])
    go_enter Try.func57, Try.ntmps57
    go_wp2_with fail
    go_ret
    exact ⟨ret_int HE.out.symm, rfl⟩
  · by_cases h2 : b ≤ 0
    · have HE := Lib.hid (show elder a b = a by unfold elder; rw [if_neg h1, if_pos h2])
      go_enter Try.func57, Try.ntmps57
      go_wp2_with fail
      go_ret
      exact ⟨ret_int HE.out.symm, rfl⟩
    · have HE := Lib.hid (show elder a b = min a b by unfold elder; rw [if_neg h1, if_neg h2])
      go_enter Try.func57, Try.ntmps57
      go_wp2_with fail
      go_ret
      exact ⟨ret_int HE.out.symm, rfl⟩
theorem grown_drew {a w : World} {r : Option Nat} (h : a.grownBy w r) : a.grownBy w.drew r := ⟨h.os, h.tape, h.output, h.size, h.block⟩
theorem arr_at (L : Nat → Int) (j : Nat) (hj : j < (List.map L (List.range 13)).toArray.size) : (List.map L (List.range 13)).toArray[j] = L j := by simp
/-- One life written. -/
theorem lives_set {w : World} {g k : Nat} {L : Nat → Int} (h : Lives w g L) (hk : k < 13) (i : Int) : Lives (w.setCell ⟨g, k, none⟩ (.int .i64 (max (L k) i))) g (raise L ((k : Int), i)) := by
  refine ⟨by rw [World.size_setCell]; exact h.1, fun j hj => ?_⟩
  have := rowAtR_set (enc := fun x : Int => [.int .i64 x]) (sz := 1) (fun _ => rfl) (w := w) (g := g) (d := (List.map L (List.range 13)).toArray) ⟨h.1, fun q hq m u hu => by
    have hq' : q < 13 := by simpa using hq
    have hm : m = 0 := by
      have := (List.getElem?_eq_some_iff.1 hu).1
      simpa using this
    subst hm
    have e : (List.map L (List.range 13)).toArray[q]! = L q := by
      rw [getElem!_pos _ q hq]
      simp
    rw [e] at hu
    rw [← Option.some.inj hu, Nat.mul_one, Nat.add_zero]
    exact h.2 q hq'⟩ (i := k) (by simpa using hk) (max (L k) i)
  have h2 := this.2 j (by simpa using hj) 0 (.int .i64 (raise L ((k : Int), i) j)) (by
    have e : ((List.map L (List.range 13)).toArray.setIfInBounds k (max (L k) i))[j]! = raise L ((k : Int), i) j := by
      rw [getElem!_pos _ j (by simpa using hj)]
      by_cases e : j = k
      · subst e
        rw [Array.getElem_setIfInBounds_self, raise_yes (x := ((j : Int), i)) rfl]
      · rw [Array.getElem_setIfInBounds_ne (by simpa using hj) (fun h => e h.symm), raise_no (x := ((k : Int), i)) (by show ¬ (k : Int) = (j : Int); omega)]
        exact arr_at L j _
    rw [e]
    rfl)
  rw [Nat.mul_one, Nat.mul_one, Nat.add_zero] at h2
  exact h2
set_option maxHeartbeats 4000000 in
theorem raise_any (g k : Nat) (L : Nat → Int) (i : Int) (w : World) (h : Lives w g L) (hk : k < 13) :
    Calls Try.prog 56 #[.pointer (some ⟨g, 0, none⟩), .agg #[.int .i64 k, .int .i64 i]] w fun e w' => e = .returned (.tuple #[]) ∧ Lives w' g (raise L ((k : Int), i)) ∧ w.grownBy w' (some g) := by
  have HB := Lib.hid (below_one w (.cells #[.int .i64 k, .int .i64 i] 30))
  have HX := Lib.hid (box_new w k i)
  have HL := Lib.hid (lives_below h HB.out)
  have HS := Lib.hid (fun W (hW : Lives W g L) => lives_set hW hk i)
  have HG := Lib.hid (grown_below (World.grownBy.refl w (some g)) HB.out)
  have hm := fun W => max_two (L k) i W
  obtain ⟨c1, f1⟩ := HL.out.2 k hk
  obtain ⟨c2, c3⟩ := box_cells HX.out
  have p1 : (0 : Int) ≤ (k : Int) := by omega
  have p2 : (k : Int) < 13 := by omega
  generalize L k = z at *
  clear h
  go_enter Try.func56, Try.ntmps56
  go_wp2_with fail
  go_region
  all_goals
    go_wp2_with fail
    go_end0
    refine ⟨rfl, ?_, ?_⟩
    · exact HS.out _ HL.out
    · exact grown_drew (grown_setCells HG.out k [_])
set_option maxHeartbeats 1000000 in
theorem gone_any (g k : Nat) (L : Nat → Int) (i : Int) (w : World) (h : Lives w g L) (hk : k < 13) :
    Calls Try.prog 49 #[.pointer (some ⟨g, 0, none⟩), .agg #[.int .i64 k, .int .i64 i]] w fun e w' => e = .returned (.bool (decide (i ≤ L k))) ∧ Below w.heap.size w w' := by
  have HB := Lib.hid (below_one w (.cells #[.int .i64 k, .int .i64 i] 30))
  have HX := Lib.hid (box_new w k i)
  have HL := Lib.hid (lives_below h HB.out)
  obtain ⟨c1, f1⟩ := HL.out.2 k hk
  obtain ⟨c2, c3⟩ := box_cells HX.out
  have p1 : (0 : Int) ≤ (k : Int) := by omega
  have p2 : (k : Int) < 13 := by omega
  generalize L k = z at *
  clear h
  go_enter Try.func49, Try.ntmps49
  go_wp2_with fail
  go_quiet (fail)
  go_wp2_with fail
  go_ret
  exact ⟨rfl, below_drewN HB.out⟩
/-- Is the life of a member's address gone? (It asks by an array that a variable points to.) -/
theorem gone_asks (X g : Nat) (L : Nat → Int) : AsksM 48 #[.pointer (some ⟨X, 0, none⟩)] (goneM L) (fun W => One W X 65 (.pointer (some ⟨g, 0, none⟩)) ∧ Lives W g L) (fun x => 0 ≤ x.1.1 ∧ x.1.1 < 13) where
  enters := fun args W => enters_fn Try.func48 (by kernel_rfl) rfl args W
  kept _ _ h hb := ⟨one_below h.1 hb, lives_below h.2 hb⟩
  call a i s n W hc hS := by
    have hc1 : 0 ≤ a := hc.1
    have hc2 : a < 13 := hc.2
    obtain ⟨k, rfl⟩ : ∃ k : Nat, a = (k : Int) := ⟨a.toNat, by omega⟩
    have HB := Lib.hid (below_one W (.cells #[.int .i64 k, .int .i64 i, .int .u8 s, .int .i64 n] 32))
    have HO := Lib.hid (one_below hS.1 HB.out)
    have HL := Lib.hid (lives_below hS.2 HB.out)
    have HM := Lib.hid (mbox_new W k i s n)
    have HR := Lib.hid (show goneM L (((k : Int), i), s, n) = decide (i ≤ L k) by unfold goneM; simp)
    have hk : k < 13 := by omega
    clear hS hc
    have c0 := one_cell HO.out
    obtain ⟨c1, c2, c3, c4⟩ := mbox_cells HM.out
    go_enter Try.func48, Try.ntmps48
    go_wp2_with fail
    refine (gone_any g k L i _ HL.out hk).mono ?_
    rintro e w1 ⟨rfl, hb⟩
    have H1 := Lib.hid (below_after HB.out hb (Nat.le_refl _))
    clear hb
    go_wp2_with fail
    go_ret
    exact ⟨ret_bool HR.out.symm, H1.out⟩
end Go.Proofs.Ytciolhpkhblnbaa
