/-
  Carried over and put together: contracts of this program's functions, and plain facts. No statement is proved in this text.
-/
import Derived.Test.YtkeiekljedhllaaGreatF16
set_option maxRecDepth 20000
namespace Go.Proofs.YtkeiekljedhllaaGreat
open Go Go.RowKit
/-- The fields of a Kind. -/
def fieldsN (k : Int) : Int :=
  if k = 1 then 3 else if k = 2 then 99 else if k = 4 then 99 else if k = 3 then 35 else if k = 5 then 7 else if k = 6 then 7 else if k = 7 then 19 else if k = 8 then 19
  else if k = 9 then 5 else if k = 10 then 13 else if k = 11 then 9 else if k = 12 then 14 else if k = 13 then 6 else 0
set_option maxHeartbeats 2000000 in
theorem fields_any (k : Int) (w : World) : Calls Tryz.prog 14 #[.int .u8 k] w fun e w' => e = .returned (.int .u8 (fieldsN k)) ∧ w = w' := by
  have HF : Hid (fieldsN k = if k = 1 then 3 else if k = 2 then 99 else if k = 4 then 99 else if k = 3 then 35 else if k = 5 then 7 else if k = 6 then 7 else if k = 7 then 19 else if k = 8 then 19
    else if k = 9 then 5 else if k = 10 then 13 else if k = 11 then 9 else if k = 12 then 14 else if k = 13 then 6 else 0) := Lib.hid rfl
  go_enter Tryz.func14, Tryz.ntmps14
  by_cases h1 : k = 1
  · subst h1; go_wp2_with fail; go_ret; exact ⟨rfl, rfl⟩
  by_cases h2 : k = 2
  · subst h2; go_wp2_with fail; go_ret; exact ⟨rfl, rfl⟩
  by_cases h4 : k = 4
  · subst h4; go_wp2_with fail; go_ret; exact ⟨rfl, rfl⟩
  by_cases h3 : k = 3
  · subst h3; go_wp2_with fail; go_ret; exact ⟨rfl, rfl⟩
  by_cases h5 : k = 5
  · subst h5; go_wp2_with fail; go_ret; exact ⟨rfl, rfl⟩
  by_cases h6 : k = 6
  · subst h6; go_wp2_with fail; go_ret; exact ⟨rfl, rfl⟩
  by_cases h7 : k = 7
  · subst h7; go_wp2_with fail; go_ret; exact ⟨rfl, rfl⟩
  by_cases h8 : k = 8
  · subst h8; go_wp2_with fail; go_ret; exact ⟨rfl, rfl⟩
  by_cases h9 : k = 9
  · subst h9; go_wp2_with fail; go_ret; exact ⟨rfl, rfl⟩
  by_cases h10 : k = 10
  · subst h10; go_wp2_with fail; go_ret; exact ⟨rfl, rfl⟩
  by_cases h11 : k = 11
  · subst h11; go_wp2_with fail; go_ret; exact ⟨rfl, rfl⟩
  by_cases h12 : k = 12
  · subst h12; go_wp2_with fail; go_ret; exact ⟨rfl, rfl⟩
  by_cases h13 : k = 13
  · subst h13; go_wp2_with fail; go_ret; exact ⟨rfl, rfl⟩
  have e1 : (k == 1) = false := by simpa using h1
  have e2 : (k == 2) = false := by simpa using h2
  have e3 : (k == 3) = false := by simpa using h3
  have e4 : (k == 4) = false := by simpa using h4
  have e5 : (k == 5) = false := by simpa using h5
  have e6 : (k == 6) = false := by simpa using h6
  have e7 : (k == 7) = false := by simpa using h7
  have e8 : (k == 8) = false := by simpa using h8
  have e9 : (k == 9) = false := by simpa using h9
  have e10 : (k == 10) = false := by simpa using h10
  have e11 : (k == 11) = false := by simpa using h11
  have e12 : (k == 12) = false := by simpa using h12
  have e13 : (k == 13) = false := by simpa using h13
  have HZ := Lib.hid (show fieldsN k = 0 by rw [HF.out, if_neg h1, if_neg h2, if_neg h4, if_neg h3, if_neg h5, if_neg h6, if_neg h7, if_neg h8, if_neg h9, if_neg h10, if_neg h11, if_neg h12, if_neg h13])
  clear HF h1 h2 h3 h4 h5 h6 h7 h8 h9 h10 h11 h12 h13
  go_wp2_with fail
  go_ret
  exact ⟨ret_int HZ.out.symm, rfl⟩
/-- What a field's test tells. -/
def fitsB (h f : Int) (x y : Bool) : Bool := if (bits .and .u8 h f != 0) = true then x else y
theorem fits_any (p : Nat) (h f : Int) (x y : Bool) (w : World) (hp : One w p 5 (.int .u8 h)) : Calls Tryz.prog 15 #[.int .u8 f, .bool x, .bool y, .pointer (some ⟨p, 0, none⟩)] w fun e w' => e = .returned (.bool (fitsB h f x y)) ∧ w = w' := by
  have c0 := one_cell hp
  have HF : Hid (fitsB h f x y = if (bits .and .u8 h f != 0) = true then x else y) := Lib.hid rfl
  go_enter Tryz.func15, Tryz.ntmps15
  rcases hb : (bits .and .u8 h f != 0) with _ | _
  · rw [hb] at HF
    go_wp2_with fail
    go_ret
    exact ⟨by rw [HF.out]; rfl, rfl⟩
  · rw [hb] at HF
    go_wp2_with fail
    go_ret
    exact ⟨by rw [HF.out]; rfl, rfl⟩
theorem mayNum_any (n : Int) (w : World) : Calls Tryz.prog 18 #[.int .i64 n] w fun e w' => e = .returned (.bool (good n)) ∧ w = w' := by
  by_cases h1 : 0 ≤ n
  · by_cases h2 : n ≤ 1099511627776
    · have hg : good n = true := by unfold good; simp; omega
      rw [hg]
      go_enter Tryz.func18, Tryz.ntmps18
      go_wp2_with fail
      go_ret
      exact ⟨rfl, rfl⟩
    · have hg : good n = false := by unfold good; simp; omega
      rw [hg]
      go_enter Tryz.func18, Tryz.ntmps18
      go_wp2_with fail
      go_ret
      exact ⟨rfl, rfl⟩
  · have hg : good n = false := by unfold good; simp; omega
    rw [hg]
    go_enter Tryz.func18, Tryz.ntmps18
    go_wp2_with fail
    go_ret
    exact ⟨rfl, rfl⟩
/-- May somebody be sent to? -/
def adrB (x : Sets.Id2) : Bool := decide (1 ≤ x.1 ∧ x.1 ≤ 12 ∧ 0 ≤ x.2 ∧ x.2 ≤ 1048576)
theorem mayAdr_any (a i : Int) (w : World) : Calls Tryz.prog 17 #[.agg #[.int .i64 a, .int .i64 i]] w fun e w' => e = .returned (.bool (adrB (a, i))) ∧ Below w.heap.size w w' := by
  have HB := Lib.hid (below_one w (.cells #[.int .i64 a, .int .i64 i] 24))
  obtain ⟨x0, x1⟩ := box_cells (box_new w a i)
  by_cases h1 : 1 ≤ a
  · by_cases h2 : a ≤ 12
    · by_cases h3 : 0 ≤ i
      · by_cases h4 : i ≤ 1048576
        · have hg : adrB (a, i) = true := by unfold adrB; simp; omega
          rw [hg]
          go_enter Tryz.func17, Tryz.ntmps17
          go_wp2_with fail
          go_ret
          exact ⟨rfl, HB.out⟩
        · have hg : adrB (a, i) = false := by unfold adrB; simp; omega
          rw [hg]
          go_enter Tryz.func17, Tryz.ntmps17
          go_wp2_with fail
          go_ret
          exact ⟨rfl, HB.out⟩
      · have hg : adrB (a, i) = false := by unfold adrB; simp; omega
        rw [hg]
        go_enter Tryz.func17, Tryz.ntmps17
        go_wp2_with fail
        go_ret
        exact ⟨rfl, HB.out⟩
    · have hg : adrB (a, i) = false := by unfold adrB; simp; omega
      rw [hg]
      go_enter Tryz.func17, Tryz.ntmps17
      go_wp2_with fail
      go_ret
      exact ⟨rfl, HB.out⟩
  · have hg : adrB (a, i) = false := by unfold adrB; simp; omega
    rw [hg]
    go_enter Tryz.func17, Tryz.ntmps17
    go_wp2_with fail
    go_ret
    exact ⟨rfl, HB.out⟩
/-- An operation that asks by a guard that is a letter. -/
theorem due_ask {P : Program} {Q : Exit → Act → World → Prop} {F : Nat → Value → World → Prop} {G : World → Prop} {a0 : Act} {ds : List (Option Tmp)} {i k : Nat} {o : Oper} {b c : Bool} {s : Tmp} (hg : o.guard = some (k, b)) (hs : ds.getD k none = some s) (ha : (o.after.any fun e => e.on == k && Region.binds .any e) = true) (hv : ∀ v w, F k v w → v = .bool c) (hu : c ≠ b → ∀ w, F i undef w)
    (h : c = b → ∀ a w, G w → (∀ s : Tmp, ds.contains (some s) = false → a.tmps.getD s undef = a0.tmps.getD s undef) →
      (∀ (j : Nat) (s : Tmp), (o.after.any fun e => e.on == j && Region.binds .any e) = true → ds.getD j none = some s → F j (a.tmps.getD s undef) w) →
      ∀ K : Act → World → Prop, (∀ v w', G w' → Below w.heap.size w w' → F i v w' → K (a.put o.dst v) w') → Oper.wp P o a w K Q) : Due P ds Q F G a0 i o := by
  by_cases e : c = b
  · exact due_met (.inr ⟨k, b, s, hg, hs, ha, fun v w hf => by rw [hv v w hf, e]⟩) (h e)
  · refine due_not hg hs ha (fun v w hf => ?_) (hu e)
    rw [hv v w hf]
    cases c <;> cases b <;> first | rfl | exact absurd rfl e
end Go.Proofs.YtkeiekljedhllaaGreat
