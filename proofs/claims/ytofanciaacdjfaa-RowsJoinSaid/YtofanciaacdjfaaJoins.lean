/-
  Walks over RowsJoin of package coveylaw06, for any three lists of rows: rows that may be are joined in whatever row, and however often, to the same; what comes of them may be, if there are not too many, and has a row of each ID that either has, of the greater version.
-/
import Derived.Test.YtofanciaacdjfaaOpenR
import Derived.Test.YtofanciaacdjfaaRowFacts
import Derived.Test.YtofanciaacdjfaaAwake
import Derived.Lib.SmallJoins
namespace Go.Proofs.Ytofanciaacdjfaa
open Go Go.RowKit Sets RowSets
set_option maxHeartbeats 4000000 in
set_option maxRecDepth 100000 in
theorem rowsJoin_long0 (v0 : Value) (l0 : List Row) (v1 : Value) (l1 : List Row) (v2 : Value) (l2 : List Row) (w : World) (h0 : RowsAt w v0 l0) (h1 : RowsAt w v1 l1) (h2 : RowsAt w v2 l2) (a0 : longB l0 = true) :
    Calls Try.prog 4 #[v0, v1, v2] w fun e w' => e = .returned (.bool true) ∧ Below w.heap.size w w' := by
  have I0 := Lib.hid h0
  have I1 := Lib.hid h1
  have I2 := Lib.hid h2
  have Ha0 := Lib.hid a0
  clear h0 h1 h2 a0
  go_enter Try.func4, Try.ntmps4
  have B0 := Lib.hid (show Below w.heap.size w w from Below.refl _ _)
  have J0 := Lib.hid I0.out
  have J1 := Lib.hid I1.out
  have J2 := Lib.hid I2.out
  go_wp2_with fail
  refine (long_any v0 l0 _ J0.out).mono ?_
  rw [Ha0.out]
  rintro e w1 ⟨rfl, hb⟩
  have B1 := Lib.hid (below_after B0.out hb (Nat.le_refl _))
  have IL01 := Lib.hid (J0.out.below hb)
  have IL11 := Lib.hid (J1.out.below hb)
  have IL21 := Lib.hid (J2.out.below hb)
  clear hb
  go_wp2_with fail
  refine (awake_any _).mono ?_
  rintro e w2 ⟨rfl, hb⟩
  have B2 := Lib.hid (below_after B1.out hb (Nat.le_refl _))
  have IL02 := Lib.hid (IL01.out.below hb)
  have IL12 := Lib.hid (IL11.out.below hb)
  have IL22 := Lib.hid (IL21.out.below hb)
  clear hb
  go_wp2_with fail
  go_ret
  exact ⟨rfl, B2.out⟩
set_option maxHeartbeats 4000000 in
set_option maxRecDepth 100000 in
theorem rowsJoin_long1 (v0 : Value) (l0 : List Row) (v1 : Value) (l1 : List Row) (v2 : Value) (l2 : List Row) (w : World) (h0 : RowsAt w v0 l0) (h1 : RowsAt w v1 l1) (h2 : RowsAt w v2 l2) (a0 : longB l0 = false) (a1 : longB l1 = true) :
    Calls Try.prog 4 #[v0, v1, v2] w fun e w' => e = .returned (.bool true) ∧ Below w.heap.size w w' := by
  have I0 := Lib.hid h0
  have I1 := Lib.hid h1
  have I2 := Lib.hid h2
  have Ha0 := Lib.hid a0
  have Ha1 := Lib.hid a1
  clear h0 h1 h2 a0 a1
  go_enter Try.func4, Try.ntmps4
  have B0 := Lib.hid (show Below w.heap.size w w from Below.refl _ _)
  have J0 := Lib.hid I0.out
  have J1 := Lib.hid I1.out
  have J2 := Lib.hid I2.out
  go_wp2_with fail
  refine (long_any v0 l0 _ J0.out).mono ?_
  rw [Ha0.out]
  rintro e w1 ⟨rfl, hb⟩
  have B1 := Lib.hid (below_after B0.out hb (Nat.le_refl _))
  have IL01 := Lib.hid (J0.out.below hb)
  have IL11 := Lib.hid (J1.out.below hb)
  have IL21 := Lib.hid (J2.out.below hb)
  clear hb
  go_wp2_with fail
  refine (long_any v1 l1 _ IL11.out).mono ?_
  rw [Ha1.out]
  rintro e w2 ⟨rfl, hb⟩
  have B2 := Lib.hid (below_after B1.out hb (Nat.le_refl _))
  have IL02 := Lib.hid (IL01.out.below hb)
  have IL12 := Lib.hid (IL11.out.below hb)
  have IL22 := Lib.hid (IL21.out.below hb)
  clear hb
  go_wp2_with fail
  refine (awake_any _).mono ?_
  rintro e w3 ⟨rfl, hb⟩
  have B3 := Lib.hid (below_after B2.out hb (Nat.le_refl _))
  have IL03 := Lib.hid (IL02.out.below hb)
  have IL13 := Lib.hid (IL12.out.below hb)
  have IL23 := Lib.hid (IL22.out.below hb)
  clear hb
  go_wp2_with fail
  go_ret
  exact ⟨rfl, B3.out⟩
set_option maxHeartbeats 4000000 in
set_option maxRecDepth 100000 in
theorem rowsJoin_long2 (v0 : Value) (l0 : List Row) (v1 : Value) (l1 : List Row) (v2 : Value) (l2 : List Row) (w : World) (h0 : RowsAt w v0 l0) (h1 : RowsAt w v1 l1) (h2 : RowsAt w v2 l2) (a0 : longB l0 = false) (a1 : longB l1 = false) (a2 : longB l2 = true) :
    Calls Try.prog 4 #[v0, v1, v2] w fun e w' => e = .returned (.bool true) ∧ Below w.heap.size w w' := by
  have I0 := Lib.hid h0
  have I1 := Lib.hid h1
  have I2 := Lib.hid h2
  have Ha0 := Lib.hid a0
  have Ha1 := Lib.hid a1
  have Ha2 := Lib.hid a2
  clear h0 h1 h2 a0 a1 a2
  go_enter Try.func4, Try.ntmps4
  have B0 := Lib.hid (show Below w.heap.size w w from Below.refl _ _)
  have J0 := Lib.hid I0.out
  have J1 := Lib.hid I1.out
  have J2 := Lib.hid I2.out
  go_wp2_with fail
  refine (long_any v0 l0 _ J0.out).mono ?_
  rw [Ha0.out]
  rintro e w1 ⟨rfl, hb⟩
  have B1 := Lib.hid (below_after B0.out hb (Nat.le_refl _))
  have IL01 := Lib.hid (J0.out.below hb)
  have IL11 := Lib.hid (J1.out.below hb)
  have IL21 := Lib.hid (J2.out.below hb)
  clear hb
  go_wp2_with fail
  refine (long_any v1 l1 _ IL11.out).mono ?_
  rw [Ha1.out]
  rintro e w2 ⟨rfl, hb⟩
  have B2 := Lib.hid (below_after B1.out hb (Nat.le_refl _))
  have IL02 := Lib.hid (IL01.out.below hb)
  have IL12 := Lib.hid (IL11.out.below hb)
  have IL22 := Lib.hid (IL21.out.below hb)
  clear hb
  go_wp2_with fail
  refine (long_any v2 l2 _ IL22.out).mono ?_
  rw [Ha2.out]
  rintro e w3 ⟨rfl, hb⟩
  have B3 := Lib.hid (below_after B2.out hb (Nat.le_refl _))
  have IL03 := Lib.hid (IL02.out.below hb)
  have IL13 := Lib.hid (IL12.out.below hb)
  have IL23 := Lib.hid (IL22.out.below hb)
  clear hb
  go_wp2_with fail
  refine (awake_any _).mono ?_
  rintro e w4 ⟨rfl, hb⟩
  have B4 := Lib.hid (below_after B3.out hb (Nat.le_refl _))
  have IL04 := Lib.hid (IL03.out.below hb)
  have IL14 := Lib.hid (IL13.out.below hb)
  have IL24 := Lib.hid (IL23.out.below hb)
  clear hb
  go_wp2_with fail
  go_ret
  exact ⟨rfl, B4.out⟩
set_option maxHeartbeats 4000000 in
set_option maxRecDepth 100000 in
theorem rowsJoin_may0 (v0 : Value) (l0 : List Row) (v1 : Value) (l1 : List Row) (v2 : Value) (l2 : List Row) (w : World) (h0 : RowsAt w v0 l0) (h1 : RowsAt w v1 l1) (h2 : RowsAt w v2 l2) (a0 : longB l0 = false) (a1 : longB l1 = false) (a2 : longB l2 = false) (b0 : mayB l0 = false) :
    Calls Try.prog 4 #[v0, v1, v2] w fun e w' => e = .returned (.bool true) ∧ Below w.heap.size w w' := by
  have I0 := Lib.hid h0
  have I1 := Lib.hid h1
  have I2 := Lib.hid h2
  have Ha0 := Lib.hid a0
  have Ha1 := Lib.hid a1
  have Ha2 := Lib.hid a2
  have Hb0 := Lib.hid b0
  clear h0 h1 h2 a0 a1 a2 b0
  go_enter Try.func4, Try.ntmps4
  have B0 := Lib.hid (show Below w.heap.size w w from Below.refl _ _)
  have J0 := Lib.hid I0.out
  have J1 := Lib.hid I1.out
  have J2 := Lib.hid I2.out
  go_wp2_with fail
  refine (long_any v0 l0 _ J0.out).mono ?_
  rw [Ha0.out]
  rintro e w1 ⟨rfl, hb⟩
  have B1 := Lib.hid (below_after B0.out hb (Nat.le_refl _))
  have IL01 := Lib.hid (J0.out.below hb)
  have IL11 := Lib.hid (J1.out.below hb)
  have IL21 := Lib.hid (J2.out.below hb)
  clear hb
  go_wp2_with fail
  refine (long_any v1 l1 _ IL11.out).mono ?_
  rw [Ha1.out]
  rintro e w2 ⟨rfl, hb⟩
  have B2 := Lib.hid (below_after B1.out hb (Nat.le_refl _))
  have IL02 := Lib.hid (IL01.out.below hb)
  have IL12 := Lib.hid (IL11.out.below hb)
  have IL22 := Lib.hid (IL21.out.below hb)
  clear hb
  go_wp2_with fail
  refine (long_any v2 l2 _ IL22.out).mono ?_
  rw [Ha2.out]
  rintro e w3 ⟨rfl, hb⟩
  have B3 := Lib.hid (below_after B2.out hb (Nat.le_refl _))
  have IL03 := Lib.hid (IL02.out.below hb)
  have IL13 := Lib.hid (IL12.out.below hb)
  have IL23 := Lib.hid (IL22.out.below hb)
  clear hb
  go_wp2_with fail
  refine (awake_any _).mono ?_
  rintro e w4 ⟨rfl, hb⟩
  have B4 := Lib.hid (below_after B3.out hb (Nat.le_refl _))
  have IL04 := Lib.hid (IL03.out.below hb)
  have IL14 := Lib.hid (IL13.out.below hb)
  have IL24 := Lib.hid (IL23.out.below hb)
  clear hb
  go_wp2_with fail
  refine (may_rows v0 l0 _ IL04.out ((lens_long Ha0.out).nots (by omega))).mono ?_
  rw [Hb0.out]
  rintro e w5 ⟨rfl, hb⟩
  have B5 := Lib.hid (below_after B4.out hb (Nat.le_refl _))
  have IL05 := Lib.hid (IL04.out.below hb)
  have IL15 := Lib.hid (IL14.out.below hb)
  have IL25 := Lib.hid (IL24.out.below hb)
  clear hb
  go_wp2_with fail
  go_ret
  exact ⟨rfl, B5.out⟩
set_option maxHeartbeats 4000000 in
set_option maxRecDepth 100000 in
theorem rowsJoin_may1 (v0 : Value) (l0 : List Row) (v1 : Value) (l1 : List Row) (v2 : Value) (l2 : List Row) (w : World) (h0 : RowsAt w v0 l0) (h1 : RowsAt w v1 l1) (h2 : RowsAt w v2 l2) (a0 : longB l0 = false) (a1 : longB l1 = false) (a2 : longB l2 = false) (b0 : mayB l0 = true) (b1 : mayB l1 = false) :
    Calls Try.prog 4 #[v0, v1, v2] w fun e w' => e = .returned (.bool true) ∧ Below w.heap.size w w' := by
  have I0 := Lib.hid h0
  have I1 := Lib.hid h1
  have I2 := Lib.hid h2
  have Ha0 := Lib.hid a0
  have Ha1 := Lib.hid a1
  have Ha2 := Lib.hid a2
  have Hb0 := Lib.hid b0
  have Hb1 := Lib.hid b1
  clear h0 h1 h2 a0 a1 a2 b0 b1
  go_enter Try.func4, Try.ntmps4
  have B0 := Lib.hid (show Below w.heap.size w w from Below.refl _ _)
  have J0 := Lib.hid I0.out
  have J1 := Lib.hid I1.out
  have J2 := Lib.hid I2.out
  go_wp2_with fail
  refine (long_any v0 l0 _ J0.out).mono ?_
  rw [Ha0.out]
  rintro e w1 ⟨rfl, hb⟩
  have B1 := Lib.hid (below_after B0.out hb (Nat.le_refl _))
  have IL01 := Lib.hid (J0.out.below hb)
  have IL11 := Lib.hid (J1.out.below hb)
  have IL21 := Lib.hid (J2.out.below hb)
  clear hb
  go_wp2_with fail
  refine (long_any v1 l1 _ IL11.out).mono ?_
  rw [Ha1.out]
  rintro e w2 ⟨rfl, hb⟩
  have B2 := Lib.hid (below_after B1.out hb (Nat.le_refl _))
  have IL02 := Lib.hid (IL01.out.below hb)
  have IL12 := Lib.hid (IL11.out.below hb)
  have IL22 := Lib.hid (IL21.out.below hb)
  clear hb
  go_wp2_with fail
  refine (long_any v2 l2 _ IL22.out).mono ?_
  rw [Ha2.out]
  rintro e w3 ⟨rfl, hb⟩
  have B3 := Lib.hid (below_after B2.out hb (Nat.le_refl _))
  have IL03 := Lib.hid (IL02.out.below hb)
  have IL13 := Lib.hid (IL12.out.below hb)
  have IL23 := Lib.hid (IL22.out.below hb)
  clear hb
  go_wp2_with fail
  refine (awake_any _).mono ?_
  rintro e w4 ⟨rfl, hb⟩
  have B4 := Lib.hid (below_after B3.out hb (Nat.le_refl _))
  have IL04 := Lib.hid (IL03.out.below hb)
  have IL14 := Lib.hid (IL13.out.below hb)
  have IL24 := Lib.hid (IL23.out.below hb)
  clear hb
  go_wp2_with fail
  refine (may_rows v0 l0 _ IL04.out ((lens_long Ha0.out).nots (by omega))).mono ?_
  rw [Hb0.out]
  rintro e w5 ⟨rfl, hb⟩
  have B5 := Lib.hid (below_after B4.out hb (Nat.le_refl _))
  have IL05 := Lib.hid (IL04.out.below hb)
  have IL15 := Lib.hid (IL14.out.below hb)
  have IL25 := Lib.hid (IL24.out.below hb)
  clear hb
  go_wp2_with fail
  refine (may_rows v1 l1 _ IL15.out ((lens_long Ha1.out).nots (by omega))).mono ?_
  rw [Hb1.out]
  rintro e w6 ⟨rfl, hb⟩
  have B6 := Lib.hid (below_after B5.out hb (Nat.le_refl _))
  have IL06 := Lib.hid (IL05.out.below hb)
  have IL16 := Lib.hid (IL15.out.below hb)
  have IL26 := Lib.hid (IL25.out.below hb)
  clear hb
  go_wp2_with fail
  go_ret
  exact ⟨rfl, B6.out⟩
set_option maxHeartbeats 4000000 in
set_option maxRecDepth 100000 in
theorem rowsJoin_may2 (v0 : Value) (l0 : List Row) (v1 : Value) (l1 : List Row) (v2 : Value) (l2 : List Row) (w : World) (h0 : RowsAt w v0 l0) (h1 : RowsAt w v1 l1) (h2 : RowsAt w v2 l2) (a0 : longB l0 = false) (a1 : longB l1 = false) (a2 : longB l2 = false) (b0 : mayB l0 = true) (b1 : mayB l1 = true) (b2 : mayB l2 = false) :
    Calls Try.prog 4 #[v0, v1, v2] w fun e w' => e = .returned (.bool true) ∧ Below w.heap.size w w' := by
  have I0 := Lib.hid h0
  have I1 := Lib.hid h1
  have I2 := Lib.hid h2
  have Ha0 := Lib.hid a0
  have Ha1 := Lib.hid a1
  have Ha2 := Lib.hid a2
  have Hb0 := Lib.hid b0
  have Hb1 := Lib.hid b1
  have Hb2 := Lib.hid b2
  clear h0 h1 h2 a0 a1 a2 b0 b1 b2
  go_enter Try.func4, Try.ntmps4
  have B0 := Lib.hid (show Below w.heap.size w w from Below.refl _ _)
  have J0 := Lib.hid I0.out
  have J1 := Lib.hid I1.out
  have J2 := Lib.hid I2.out
  go_wp2_with fail
  refine (long_any v0 l0 _ J0.out).mono ?_
  rw [Ha0.out]
  rintro e w1 ⟨rfl, hb⟩
  have B1 := Lib.hid (below_after B0.out hb (Nat.le_refl _))
  have IL01 := Lib.hid (J0.out.below hb)
  have IL11 := Lib.hid (J1.out.below hb)
  have IL21 := Lib.hid (J2.out.below hb)
  clear hb
  go_wp2_with fail
  refine (long_any v1 l1 _ IL11.out).mono ?_
  rw [Ha1.out]
  rintro e w2 ⟨rfl, hb⟩
  have B2 := Lib.hid (below_after B1.out hb (Nat.le_refl _))
  have IL02 := Lib.hid (IL01.out.below hb)
  have IL12 := Lib.hid (IL11.out.below hb)
  have IL22 := Lib.hid (IL21.out.below hb)
  clear hb
  go_wp2_with fail
  refine (long_any v2 l2 _ IL22.out).mono ?_
  rw [Ha2.out]
  rintro e w3 ⟨rfl, hb⟩
  have B3 := Lib.hid (below_after B2.out hb (Nat.le_refl _))
  have IL03 := Lib.hid (IL02.out.below hb)
  have IL13 := Lib.hid (IL12.out.below hb)
  have IL23 := Lib.hid (IL22.out.below hb)
  clear hb
  go_wp2_with fail
  refine (awake_any _).mono ?_
  rintro e w4 ⟨rfl, hb⟩
  have B4 := Lib.hid (below_after B3.out hb (Nat.le_refl _))
  have IL04 := Lib.hid (IL03.out.below hb)
  have IL14 := Lib.hid (IL13.out.below hb)
  have IL24 := Lib.hid (IL23.out.below hb)
  clear hb
  go_wp2_with fail
  refine (may_rows v0 l0 _ IL04.out ((lens_long Ha0.out).nots (by omega))).mono ?_
  rw [Hb0.out]
  rintro e w5 ⟨rfl, hb⟩
  have B5 := Lib.hid (below_after B4.out hb (Nat.le_refl _))
  have IL05 := Lib.hid (IL04.out.below hb)
  have IL15 := Lib.hid (IL14.out.below hb)
  have IL25 := Lib.hid (IL24.out.below hb)
  clear hb
  go_wp2_with fail
  refine (may_rows v1 l1 _ IL15.out ((lens_long Ha1.out).nots (by omega))).mono ?_
  rw [Hb1.out]
  rintro e w6 ⟨rfl, hb⟩
  have B6 := Lib.hid (below_after B5.out hb (Nat.le_refl _))
  have IL06 := Lib.hid (IL05.out.below hb)
  have IL16 := Lib.hid (IL15.out.below hb)
  have IL26 := Lib.hid (IL25.out.below hb)
  clear hb
  go_wp2_with fail
  refine (may_rows v2 l2 _ IL26.out ((lens_long Ha2.out).nots (by omega))).mono ?_
  rw [Hb2.out]
  rintro e w7 ⟨rfl, hb⟩
  have B7 := Lib.hid (below_after B6.out hb (Nat.le_refl _))
  have IL07 := Lib.hid (IL06.out.below hb)
  have IL17 := Lib.hid (IL16.out.below hb)
  have IL27 := Lib.hid (IL26.out.below hb)
  clear hb
  go_wp2_with fail
  go_ret
  exact ⟨rfl, B7.out⟩
/-- What Get answers: the version, and whether there is a row. -/
def GotP (P : Int) (I : Bool) (w : World) (e : Ending) (w' : World) : Prop := ∃ a b B m c, e = .returned (.tuple #[.agg #[.int .i64 a, .int .i64 b, .int .i64 P, .slice B m c], .bool I]) ∧ Below w.heap.size w w'
theorem got_any (v : Value) (l : List Row) (x y : Int) (w : World) (h : RowsAt w v l) (hl : l.length ≤ 1000) (hn : ∀ r ∈ l, r.2.2.length ≤ 100000) (P : Int) (I : Bool) (hP : vers (get l (x, y)) = P) (hI : (get l (x, y)).isSome = I) :
    Calls Try.prog 14 #[v, .agg #[.int .i64 x, .int .i64 y]] w (GotP P I w) := by
  refine (get_any v l x y w h hl hn).mono ?_
  rintro e w' ⟨B, m, c, rfl, _, hb⟩
  rw [hP, hI]
  exact ⟨_, _, B, m, c, rfl, hb⟩
/-- The four ways in which what is joined says an ID's version. -/
theorem joined_ways {l0 l1 : List Row} {x : Id2} (h : x ∈ ids l0 ∨ x ∈ ids l1) :
    ((get (joinR l0 l1) x).isSome = true) ∧
    (((get l0 x).isSome = true ∧ (get l1 x).isSome = false ∧ vers (get (joinR l0 l1) x) = vers (get l0 x)) ∨
     ((get l0 x).isSome = false ∧ (get l1 x).isSome = true ∧ vers (get (joinR l0 l1) x) = vers (get l1 x)) ∨
     ((get l0 x).isSome = true ∧ (get l1 x).isSome = true ∧ vers (get (joinR l0 l1) x) = vers (get l0 x) ∧ vers (get l1 x) ≤ vers (get l0 x)) ∨
     ((get l0 x).isSome = true ∧ (get l1 x).isSome = true ∧ vers (get (joinR l0 l1) x) = vers (get l1 x) ∧ vers (get l0 x) < vers (get l1 x))) := by
  rw [get_joinR]
  rcases h0 : get l0 x with _ | s
  · rcases h1 : get l1 x with _ | t
    · rcases h with h | h
      · exact absurd h (get_none.1 h0)
      · exact absurd h (get_none.1 h1)
    · exact ⟨rfl, .inr (.inl ⟨rfl, rfl, rfl⟩)⟩
  · rcases h1 : get l1 x with _ | t
    · exact ⟨rfl, .inl ⟨rfl, rfl, rfl⟩⟩
    · simp only [two]
      split
      · exact ⟨rfl, .inr (.inr (.inl ⟨rfl, rfl, rfl, Int.le_of_lt (by assumption)⟩))⟩
      · split
        · exact ⟨rfl, .inr (.inr (.inr ⟨rfl, rfl, rfl, by assumption⟩))⟩
        · exact ⟨rfl, .inr (.inr (.inl ⟨rfl, rfl, rfl, by show t.1 ≤ s.1; omega⟩))⟩
theorem get_joinL {l : List Row} {k : Nat} (h : k < l.length) : (l[k].1.1, l[k].1.2) ∈ ids l := List.mem_map_of_mem (List.getElem_mem h)
set_option maxHeartbeats 8000000 in
set_option maxRecDepth 100000 in
theorem rowsJoin_small (v0 : Value) (l0 : List Row) (v1 : Value) (l1 : List Row) (v2 : Value) (l2 : List Row) (w : World) (h0 : RowsAt w v0 l0) (h1 : RowsAt w v1 l1) (h2 : RowsAt w v2 l2) (a0 : longB l0 = false) (a1 : longB l1 = false) (a2 : longB l2 = false) (b0 : mayB l0 = true) (b1 : mayB l1 = true) (b2 : mayB l2 = true) (hs : (joinR l0 l1).length ≤ 64) :
    Calls Try.prog 4 #[v0, v1, v2] w fun e w' => e = .returned (.bool true) ∧ Below w.heap.size w w' := by
  have I0 := Lib.hid h0
  have I1 := Lib.hid h1
  have I2 := Lib.hid h2
  have Ha0 := Lib.hid a0
  have Ha1 := Lib.hid a1
  have Ha2 := Lib.hid a2
  have Hb0 := Lib.hid b0
  have Hb1 := Lib.hid b1
  have Hb2 := Lib.hid b2
  have N0 := Lib.hid ((may_iff l0).1 b0)
  have Z0 := Lib.hid (lens_long a0)
  have N1 := Lib.hid ((may_iff l1).1 b1)
  have Z1 := Lib.hid (lens_long a1)
  have N2 := Lib.hid ((may_iff l2).1 b2)
  have Z2 := Lib.hid (lens_long a2)
  have Z01 := Lib.hid (Z0.out.joinR Z1.out)
  have Z12 := Lib.hid (Z1.out.joinR Z2.out)
  have HC := Lib.hid (joinR_comm l1 l0)
  have HA := Lib.hid (joinR_assoc l0 l1 l2).symm
  have HS := Lib.hid (joinR_self (may_norm N0.out))
  have HG := Lib.hid (joinR_again (b := l1) (may_norm N0.out))
  have HM := Lib.hid ((may_iff _).2 (may_joinR N0.out N1.out hs))
  have hd : decide ((((joinR l0 l1).length : Nat) : Int) ≤ 64) = true := by simp; omega
  obtain ⟨A0, c0, rfl, hz0⟩ := h0.shape
  obtain ⟨A1, c1, rfl, hz1⟩ := h1.shape
  obtain ⟨A2, c2, rfl, hz2⟩ := h2.shape
  clear h0 h1 h2 a0 a1 a2 b0 b1 b2 hz0 hz1 hz2 hs
  go_enter Try.func4, Try.ntmps4
  have B0 := Lib.hid (show Below w.heap.size w w from Below.refl _ _)
  have J0 := Lib.hid I0.out
  have J1 := Lib.hid I1.out
  have J2 := Lib.hid I2.out
  go_wp2_with fail
  refine (long_any _ l0 _ J0.out).mono ?_
  rw [Ha0.out]
  rintro e w1 ⟨rfl, hb⟩
  have B1 := Lib.hid (below_after B0.out hb (Nat.le_refl _))
  have IL01 := Lib.hid (J0.out.below hb)
  have IL11 := Lib.hid (J1.out.below hb)
  have IL21 := Lib.hid (J2.out.below hb)
  clear hb
  go_wp2_with fail
  refine (long_any _ l1 _ IL11.out).mono ?_
  rw [Ha1.out]
  rintro e w2 ⟨rfl, hb⟩
  have B2 := Lib.hid (below_after B1.out hb (Nat.le_refl _))
  have IL02 := Lib.hid (IL01.out.below hb)
  have IL12 := Lib.hid (IL11.out.below hb)
  have IL22 := Lib.hid (IL21.out.below hb)
  clear hb
  go_wp2_with fail
  refine (long_any _ l2 _ IL22.out).mono ?_
  rw [Ha2.out]
  rintro e w3 ⟨rfl, hb⟩
  have B3 := Lib.hid (below_after B2.out hb (Nat.le_refl _))
  have IL03 := Lib.hid (IL02.out.below hb)
  have IL13 := Lib.hid (IL12.out.below hb)
  have IL23 := Lib.hid (IL22.out.below hb)
  clear hb
  go_wp2_with fail
  refine (awake_any _).mono ?_
  rintro e w4 ⟨rfl, hb⟩
  have B4 := Lib.hid (below_after B3.out hb (Nat.le_refl _))
  have IL04 := Lib.hid (IL03.out.below hb)
  have IL14 := Lib.hid (IL13.out.below hb)
  have IL24 := Lib.hid (IL23.out.below hb)
  clear hb
  go_wp2_with fail
  refine (may_rows _ l0 _ IL04.out ((lens_long Ha0.out).nots (by omega))).mono ?_
  rw [Hb0.out]
  rintro e w5 ⟨rfl, hb⟩
  have B5 := Lib.hid (below_after B4.out hb (Nat.le_refl _))
  have IL05 := Lib.hid (IL04.out.below hb)
  have IL15 := Lib.hid (IL14.out.below hb)
  have IL25 := Lib.hid (IL24.out.below hb)
  clear hb
  go_wp2_with fail
  refine (may_rows _ l1 _ IL15.out ((lens_long Ha1.out).nots (by omega))).mono ?_
  rw [Hb1.out]
  rintro e w6 ⟨rfl, hb⟩
  have B6 := Lib.hid (below_after B5.out hb (Nat.le_refl _))
  have IL06 := Lib.hid (IL05.out.below hb)
  have IL16 := Lib.hid (IL15.out.below hb)
  have IL26 := Lib.hid (IL25.out.below hb)
  clear hb
  go_wp2_with fail
  refine (may_rows _ l2 _ IL26.out ((lens_long Ha2.out).nots (by omega))).mono ?_
  rw [Hb2.out]
  rintro e w7 ⟨rfl, hb⟩
  have B7 := Lib.hid (below_after B6.out hb (Nat.le_refl _))
  have IL07 := Lib.hid (IL06.out.below hb)
  have IL17 := Lib.hid (IL16.out.below hb)
  have IL27 := Lib.hid (IL26.out.below hb)
  clear hb
  go_wp2_with fail
  refine (join_rows _ _ l0 l1 _ IL07.out IL17.out N0.out.2.2 N1.out.2.2 (Z0.out.small (by omega) (by omega)) (Z1.out.small (by omega) (by omega))).mono ?_
  rintro e w8 ⟨ab, rfl, hi, hb⟩
  have B8 := Lib.hid (below_after B7.out hb (Nat.le_refl _))
  have IL08 := Lib.hid (IL07.out.below hb)
  have IL18 := Lib.hid (IL17.out.below hb)
  have IL28 := Lib.hid (IL27.out.below hb)
  have Iab8 := Lib.hid hi
  clear hi
  clear hb
  obtain ⟨Ab, cb, eb, _⟩ := Iab8.out.shape
  subst eb
  go_wp2_with fail
  refine (join_rows _ _ l1 l0 _ IL18.out IL08.out N1.out.2.2 N0.out.2.2 (Z1.out.small (by omega) (by omega)) (Z0.out.small (by omega) (by omega))).mono ?_
  rw [HC.out]
  rintro e w9 ⟨ba, rfl, hi, hb⟩
  have B9 := Lib.hid (below_after B8.out hb (Nat.le_refl _))
  have IL09 := Lib.hid (IL08.out.below hb)
  have IL19 := Lib.hid (IL18.out.below hb)
  have IL29 := Lib.hid (IL28.out.below hb)
  have Iab9 := Lib.hid (Iab8.out.below hb)
  have Iba9 := Lib.hid hi
  clear hi
  clear hb
  go_wp2_with fail
  refine (sameRows_any _ _ (joinR l0 l1) _ Iab9.out Iba9.out (Z01.out.small (by omega) (by omega))).mono ?_
  rintro e w10 ⟨rfl, hb⟩
  have B10 := Lib.hid (below_after B9.out hb (Nat.le_refl _))
  have IL010 := Lib.hid (IL09.out.below hb)
  have IL110 := Lib.hid (IL19.out.below hb)
  have IL210 := Lib.hid (IL29.out.below hb)
  have Iab10 := Lib.hid (Iab9.out.below hb)
  clear hb
  go_wp2_with fail
  refine (join_rows _ _ (joinR l0 l1) l2 _ Iab10.out IL210.out (up_joinR _ _) N2.out.2.2 (Z01.out.small (by omega) (by omega)) (Z2.out.small (by omega) (by omega))).mono ?_
  rintro e w11 ⟨x, rfl, hi, hb⟩
  have B11 := Lib.hid (below_after B10.out hb (Nat.le_refl _))
  have IL011 := Lib.hid (IL010.out.below hb)
  have IL111 := Lib.hid (IL110.out.below hb)
  have IL211 := Lib.hid (IL210.out.below hb)
  have Iab11 := Lib.hid (Iab10.out.below hb)
  have Ix11 := Lib.hid hi
  clear hi
  clear hb
  go_wp2_with fail
  refine (join_rows _ _ l1 l2 _ IL111.out IL211.out N1.out.2.2 N2.out.2.2 (Z1.out.small (by omega) (by omega)) (Z2.out.small (by omega) (by omega))).mono ?_
  rintro e w12 ⟨y, rfl, hi, hb⟩
  have B12 := Lib.hid (below_after B11.out hb (Nat.le_refl _))
  have IL012 := Lib.hid (IL011.out.below hb)
  have IL112 := Lib.hid (IL111.out.below hb)
  have IL212 := Lib.hid (IL211.out.below hb)
  have Iab12 := Lib.hid (Iab11.out.below hb)
  have Ix12 := Lib.hid (Ix11.out.below hb)
  have Iy12 := Lib.hid hi
  clear hi
  clear hb
  go_wp2_with fail
  refine (join_rows _ _ l0 (joinR l1 l2) _ IL012.out Iy12.out N0.out.2.2 (up_joinR _ _) (Z0.out.small (by omega) (by omega)) (Z12.out.small (by omega) (by omega))).mono ?_
  rw [HA.out]
  rintro e w13 ⟨z, rfl, hi, hb⟩
  have B13 := Lib.hid (below_after B12.out hb (Nat.le_refl _))
  have IL013 := Lib.hid (IL012.out.below hb)
  have IL113 := Lib.hid (IL112.out.below hb)
  have IL213 := Lib.hid (IL212.out.below hb)
  have Iab13 := Lib.hid (Iab12.out.below hb)
  have Ix13 := Lib.hid (Ix12.out.below hb)
  have Iz13 := Lib.hid hi
  clear hi
  clear hb
  go_wp2_with fail
  refine (sameRows_any _ _ (joinR (joinR l0 l1) l2) _ Ix13.out Iz13.out ((Z01.out.joinR Z2.out).small (by omega) (by omega))).mono ?_
  rintro e w14 ⟨rfl, hb⟩
  have B14 := Lib.hid (below_after B13.out hb (Nat.le_refl _))
  have IL014 := Lib.hid (IL013.out.below hb)
  have IL114 := Lib.hid (IL113.out.below hb)
  have IL214 := Lib.hid (IL213.out.below hb)
  have Iab14 := Lib.hid (Iab13.out.below hb)
  clear hb
  go_wp2_with fail
  refine (join_rows _ _ l0 l0 _ IL014.out IL014.out N0.out.2.2 N0.out.2.2 (Z0.out.small (by omega) (by omega)) (Z0.out.small (by omega) (by omega))).mono ?_
  rw [HS.out]
  rintro e w15 ⟨x2, rfl, hi, hb⟩
  have B15 := Lib.hid (below_after B14.out hb (Nat.le_refl _))
  have IL015 := Lib.hid (IL014.out.below hb)
  have IL115 := Lib.hid (IL114.out.below hb)
  have IL215 := Lib.hid (IL214.out.below hb)
  have Iab15 := Lib.hid (Iab14.out.below hb)
  have Ix215 := Lib.hid hi
  clear hi
  clear hb
  go_wp2_with fail
  refine (sameRows_any _ _ l0 _ Ix215.out IL015.out (Z0.out.small (by omega) (by omega))).mono ?_
  rintro e w16 ⟨rfl, hb⟩
  have B16 := Lib.hid (below_after B15.out hb (Nat.le_refl _))
  have IL016 := Lib.hid (IL015.out.below hb)
  have IL116 := Lib.hid (IL115.out.below hb)
  have IL216 := Lib.hid (IL215.out.below hb)
  have Iab16 := Lib.hid (Iab15.out.below hb)
  clear hb
  go_wp2_with fail
  refine (join_rows _ _ (joinR l0 l1) l0 _ Iab16.out IL016.out (up_joinR _ _) N0.out.2.2 (Z01.out.small (by omega) (by omega)) (Z0.out.small (by omega) (by omega))).mono ?_
  rw [HG.out]
  rintro e w17 ⟨x3, rfl, hi, hb⟩
  have B17 := Lib.hid (below_after B16.out hb (Nat.le_refl _))
  have IL017 := Lib.hid (IL016.out.below hb)
  have IL117 := Lib.hid (IL116.out.below hb)
  have IL217 := Lib.hid (IL216.out.below hb)
  have Iab17 := Lib.hid (Iab16.out.below hb)
  have Ix317 := Lib.hid hi
  clear hi
  clear hb
  go_wp2_with fail
  refine (sameRows_any _ _ (joinR l0 l1) _ Ix317.out Iab17.out (Z01.out.small (by omega) (by omega))).mono ?_
  rintro e w18 ⟨rfl, hb⟩
  have B18 := Lib.hid (below_after B17.out hb (Nat.le_refl _))
  have IL018 := Lib.hid (IL017.out.below hb)
  have IL118 := Lib.hid (IL117.out.below hb)
  have Iab18 := Lib.hid (Iab17.out.below hb)
  clear hb
  go_wp2_with fail
  refine (may_rows _ (joinR l0 l1) _ Iab18.out (Z01.out.nots (by omega))).mono ?_
  rw [HM.out]
  rintro e w19 ⟨rfl, hb⟩
  have B19 := Lib.hid (below_after B18.out hb (Nat.le_refl _))
  have IL019 := Lib.hid (IL018.out.below hb)
  have IL119 := Lib.hid (IL118.out.below hb)
  have Iab19 := Lib.hid (Iab18.out.below hb)
  clear hb
  go_wp2_with fail
  have BX := Lib.hid (below_after B19.out (below_one w19 (.cells #[.slice A0 l0.length c0, .slice A1 l1.length c1] 27)) (Nat.le_refl _))
  have HX : Hid ((w19.alloc (.cells #[.slice A0 l0.length c0, .slice A1 l1.length c1] 27)).heap[w19.heap.size]? = some (.cells #[.slice A0 l0.length c0, .slice A1 l1.length c1] 27 (0, 0))) := Lib.hid (heap_alloc_new _ _)
  have RL0 := Lib.hid (IL019.out.below (below_one w19 (.cells #[.slice A0 l0.length c0, .slice A1 l1.length c1] 27)))
  have RL1 := Lib.hid (IL119.out.below (below_one w19 (.cells #[.slice A0 l0.length c0, .slice A1 l1.length c1] 27)))
  have Rab := Lib.hid (Iab19.out.below (below_one w19 (.cells #[.slice A0 l0.length c0, .slice A1 l1.length c1] 27)))
  have hgx : w19.heap.size < (w19.alloc (.cells #[.slice A0 l0.length c0, .slice A1 l1.length c1] 27)).heap.size := by simp
  have HGX := Lib.hid hgx
  clear hgx
  generalize w19.heap.size = gx at *
  generalize w19.alloc (.cells #[.slice A0 l0.length c0, .slice A1 l1.length c1] 27) = wb at *
  clear IL019 IL119 Iab19
  have HG1 := Lib.hid (joinR_more (b := l1) N0.out.2.2)
  have HG2 := Lib.hid (joinR_more' (a := l0) N1.out.2.2)
  have HG3 := Lib.hid (joinR_len l0 l1)
  have hg1 : decide ((l0.length : Int) ≤ ((joinR l0 l1).length : Int)) = true := by have := HG1.out; simp; omega
  have hg2 : decide ((l1.length : Int) ≤ ((joinR l0 l1).length : Int)) = true := by have := HG2.out; simp; omega
  have hg3 : decide (((joinR l0 l1).length : Int) ≤ (l0.length : Int) + (l1.length : Int)) = true := by have := HG3.out; simp; omega
  have i8 : (l0.length : Int) + (l1.length : Int) ≤ 9223372036854775807 := by have := Z0.out.1; have := Z1.out.1; omega
  go_loopw [96] (fun s96 wr => ∃ k : Nat, k ≤ 2 ∧ s96 = .int .i64 k ∧ Hid (Below wb.heap.size wb wr)) (fun s96 _ => 2 - (intOf s96).toNat)
  case atStart => exact ⟨0, by omega, rfl, Lib.hid (Below.refl _ _)⟩
  case round =>
    obtain ⟨k, hkl, rfl, HW⟩ := hrel
    have i3 : (0 : Int) ≤ (k : Int) := by omega
    by_cases hlt : k < 2
    · have i4 : (k : Int) < 2 := by omega
      have hdk : decide ((k : Int) < 2) = true := decide_eq_true i4
      have hsel : ∃ A c, ∃ l : List Row, wr.cell? ⟨gx, k, none⟩ = some (.slice A l.length c) ∧ RowsAt wb (.slice A l.length c) l ∧ (l = l0 ∨ l = l1) ∧ l.length ≤ 80 := by
        have hh := (HW.out.block gx HGX.out).trans HX.out
        have : k = 0 ∨ k = 1 := by omega
        rcases this with rfl | rfl
        · exact ⟨A0, c0, l0, by simp [World.cell?, hh], RL0.out, .inl rfl, Z0.out.1⟩
        · exact ⟨A1, c1, l1, by simp [World.cell?, hh], RL1.out, .inr rfl, Z1.out.1⟩
      obtain ⟨A, c, l, e1, e2, e3, e4⟩ := hsel
      have RL := Lib.hid e2
      have HL := Lib.hid e3
      clear e2 e3
      go_wp2_with fail
      clear e1
      go_loopw [10] (fun s10 wi => ∃ i : Nat, i ≤ l.length ∧ s10 = .int .i64 i ∧ Hid (Below wb.heap.size wb wi)) (fun s10 _ => l.length - (intOf s10).toNat)
      case atStart => exact ⟨0, by omega, rfl, HW⟩
      case round =>
        obtain ⟨i, hil, rfl, HI⟩ := hrel
        have i5 : (0 : Int) ≤ (i : Int) := by omega
        by_cases hli : i < l.length
        · have i6 : (i : Int) < (l.length : Int) := by omega
          have hdi : decide ((i : Int) < (l.length : Int)) = true := decide_eq_true i6
          obtain ⟨ad, _, rfl, e1, e2, _, _, _⟩ := RL.out.at_ HI.out hli
          have hin : (l[i].1.1, l[i].1.2) ∈ ids l0 ∨ (l[i].1.1, l[i].1.2) ∈ ids l1 := by
            have := get_joinL hli
            rcases HL.out with rfl | rfl
            · exact .inl this
            · exact .inr this
          generalize l[i].1.1 = x at *
          generalize l[i].1.2 = y at *
          have HE := Lib.hid fun W (hb : Below wr.heap.size wr W) => And.intro ((hb.cell (block_lt_of_cell e1)).trans e1) ((hb.cell (block_lt_of_cell e2)).trans e2)
          obtain ⟨hsome, hways⟩ := joined_ways hin
          have HJ := Lib.hid fun W (hb : Below wb.heap.size wb W) => got_any (.slice Ab (joinR l0 l1).length cb) (joinR l0 l1) x y W (Rab.out.below hb) (Z01.out.small (by omega) (by omega)).1 (Z01.out.nots (by omega)) _ _ rfl hsome
          have HQ0 := Lib.hid fun W (hb : Below wb.heap.size wb W) => got_any (.slice A0 l0.length c0) l0 x y W (RL0.out.below hb) (Z0.out.small (by omega) (by omega)).1 (Z0.out.nots (by omega)) _ _ rfl rfl
          have HQ1 := Lib.hid fun W (hb : Below wb.heap.size wb W) => got_any (.slice A1 l1.length c1) l1 x y W (RL1.out.below hb) (Z1.out.small (by omega) (by omega)).1 (Z1.out.nots (by omega)) _ _ rfl rfl
          generalize vers (get (joinR l0 l1) (x, y)) = P at *
          generalize vers (get l0 (x, y)) = p at *
          generalize vers (get l1 (x, y)) = q at *
          generalize (get l0 (x, y)).isSome = I at *
          generalize (get l1 (x, y)).isSome = J at *
          clear hsome hin
          rcases hways with ⟨rfl, rfl, rfl⟩ | ⟨rfl, rfl, rfl⟩ | ⟨rfl, rfl, rfl, hpq⟩ | ⟨rfl, rfl, rfl, hpq⟩
          · skip
            go_wp2_with fail
            (with_reducible refine (HJ.out _ HI.out).mono ?_)
            rintro e w1 ⟨a1, b1, B1, m1, d1, rfl, hb⟩
            have P1 := Lib.hid (below_after HI.out hb (Nat.le_refl _))
            have E1 := Lib.hid hb
            clear hb e1 e2
            have Q1 := Lib.hid (below_one w1 (.cells #[.int .i64 a1, .int .i64 b1, .int .i64 P, .slice B1 m1 d1] 26))
            have X1 := Lib.hid (wbox_new w1 a1 b1 P (.slice B1 m1 d1))
            have P2 := Lib.hid (below_after P1.out Q1.out (Nat.le_refl _))
            have E2 := Lib.hid (below_after E1.out Q1.out (Nat.le_refl _))
            obtain ⟨e1, e2⟩ := HE.out _ E2.out
            go_wp2_with fail
            (with_reducible refine (HQ0.out _ P2.out).mono ?_)
            rintro e w2 ⟨a2, b2, B2, m2, d2, rfl, hb⟩
            have P3 := Lib.hid (below_after P2.out hb (Nat.le_refl _))
            have E3 := Lib.hid (below_after E2.out hb (Nat.le_refl _))
            have X2 := Lib.hid (wbox_below X1.out hb)
            clear hb e1 e2
            have Q2 := Lib.hid (below_one w2 (.cells #[.int .i64 a2, .int .i64 b2, .int .i64 P, .slice B2 m2 d2] 26))
            have Y1 := Lib.hid (wbox_new w2 a2 b2 P (.slice B2 m2 d2))
            have P4 := Lib.hid (below_after P3.out Q2.out (Nat.le_refl _))
            have E4 := Lib.hid (below_after E3.out Q2.out (Nat.le_refl _))
            have X3 := Lib.hid (wbox_below X2.out Q2.out)
            obtain ⟨e1, e2⟩ := HE.out _ E4.out
            go_wp2_with fail
            (with_reducible refine (HQ1.out _ P4.out).mono ?_)
            rintro e w3 ⟨a3, b3, B3, m3, d3, rfl, hb⟩
            have P5 := Lib.hid (below_after P4.out hb (Nat.le_refl _))
            have X4 := Lib.hid (wbox_below X3.out hb)
            have Y2 := Lib.hid (wbox_below Y1.out hb)
            clear hb e1 e2
            have Q3 := Lib.hid (below_one w3 (.cells #[.int .i64 a3, .int .i64 b3, .int .i64 q, .slice B3 m3 d3] 26))
            have P6 := Lib.hid (below_after P5.out Q3.out (Nat.le_refl _))
            have X5 := Lib.hid (wbox_below X4.out Q3.out)
            have Y3 := Lib.hid (wbox_below Y2.out Q3.out)
            have V1 := Lib.hid (wbox_new w3 a3 b3 q (.slice B3 m3 d3))
            obtain ⟨_, _, x3, _⟩ := wbox_cells X5.out
            obtain ⟨_, _, y3, _⟩ := wbox_cells Y3.out
            obtain ⟨_, _, z3, _⟩ := wbox_cells V1.out
            go_wp2_with fail
            go_roundw
            case rel => exact ⟨i + 1, by omega, by go_num, P6⟩
            case measure => simp [intOf]; omega
          · skip
            go_wp2_with fail
            (with_reducible refine (HJ.out _ HI.out).mono ?_)
            rintro e w1 ⟨a1, b1, B1, m1, d1, rfl, hb⟩
            have P1 := Lib.hid (below_after HI.out hb (Nat.le_refl _))
            have E1 := Lib.hid hb
            clear hb e1 e2
            have Q1 := Lib.hid (below_one w1 (.cells #[.int .i64 a1, .int .i64 b1, .int .i64 P, .slice B1 m1 d1] 26))
            have X1 := Lib.hid (wbox_new w1 a1 b1 P (.slice B1 m1 d1))
            have P2 := Lib.hid (below_after P1.out Q1.out (Nat.le_refl _))
            have E2 := Lib.hid (below_after E1.out Q1.out (Nat.le_refl _))
            obtain ⟨e1, e2⟩ := HE.out _ E2.out
            go_wp2_with fail
            (with_reducible refine (HQ0.out _ P2.out).mono ?_)
            rintro e w2 ⟨a2, b2, B2, m2, d2, rfl, hb⟩
            have P3 := Lib.hid (below_after P2.out hb (Nat.le_refl _))
            have E3 := Lib.hid (below_after E2.out hb (Nat.le_refl _))
            have X2 := Lib.hid (wbox_below X1.out hb)
            clear hb e1 e2
            have Q2 := Lib.hid (below_one w2 (.cells #[.int .i64 a2, .int .i64 b2, .int .i64 p, .slice B2 m2 d2] 26))
            have Y1 := Lib.hid (wbox_new w2 a2 b2 p (.slice B2 m2 d2))
            have P4 := Lib.hid (below_after P3.out Q2.out (Nat.le_refl _))
            have E4 := Lib.hid (below_after E3.out Q2.out (Nat.le_refl _))
            have X3 := Lib.hid (wbox_below X2.out Q2.out)
            obtain ⟨e1, e2⟩ := HE.out _ E4.out
            go_wp2_with fail
            (with_reducible refine (HQ1.out _ P4.out).mono ?_)
            rintro e w3 ⟨a3, b3, B3, m3, d3, rfl, hb⟩
            have P5 := Lib.hid (below_after P4.out hb (Nat.le_refl _))
            have X4 := Lib.hid (wbox_below X3.out hb)
            have Y2 := Lib.hid (wbox_below Y1.out hb)
            clear hb e1 e2
            have Q3 := Lib.hid (below_one w3 (.cells #[.int .i64 a3, .int .i64 b3, .int .i64 P, .slice B3 m3 d3] 26))
            have P6 := Lib.hid (below_after P5.out Q3.out (Nat.le_refl _))
            have X5 := Lib.hid (wbox_below X4.out Q3.out)
            have Y3 := Lib.hid (wbox_below Y2.out Q3.out)
            have V1 := Lib.hid (wbox_new w3 a3 b3 P (.slice B3 m3 d3))
            obtain ⟨_, _, x3, _⟩ := wbox_cells X5.out
            obtain ⟨_, _, y3, _⟩ := wbox_cells Y3.out
            obtain ⟨_, _, z3, _⟩ := wbox_cells V1.out
            go_wp2_with fail
            go_roundw
            case rel => exact ⟨i + 1, by omega, by go_num, P6⟩
            case measure => simp [intOf]; omega
          · have hd2 : decide (P < q) = false := decide_eq_false (by omega)
            go_wp2_with fail
            (with_reducible refine (HJ.out _ HI.out).mono ?_)
            rintro e w1 ⟨a1, b1, B1, m1, d1, rfl, hb⟩
            have P1 := Lib.hid (below_after HI.out hb (Nat.le_refl _))
            have E1 := Lib.hid hb
            clear hb e1 e2
            have Q1 := Lib.hid (below_one w1 (.cells #[.int .i64 a1, .int .i64 b1, .int .i64 P, .slice B1 m1 d1] 26))
            have X1 := Lib.hid (wbox_new w1 a1 b1 P (.slice B1 m1 d1))
            have P2 := Lib.hid (below_after P1.out Q1.out (Nat.le_refl _))
            have E2 := Lib.hid (below_after E1.out Q1.out (Nat.le_refl _))
            obtain ⟨e1, e2⟩ := HE.out _ E2.out
            go_wp2_with fail
            (with_reducible refine (HQ0.out _ P2.out).mono ?_)
            rintro e w2 ⟨a2, b2, B2, m2, d2, rfl, hb⟩
            have P3 := Lib.hid (below_after P2.out hb (Nat.le_refl _))
            have E3 := Lib.hid (below_after E2.out hb (Nat.le_refl _))
            have X2 := Lib.hid (wbox_below X1.out hb)
            clear hb e1 e2
            have Q2 := Lib.hid (below_one w2 (.cells #[.int .i64 a2, .int .i64 b2, .int .i64 P, .slice B2 m2 d2] 26))
            have Y1 := Lib.hid (wbox_new w2 a2 b2 P (.slice B2 m2 d2))
            have P4 := Lib.hid (below_after P3.out Q2.out (Nat.le_refl _))
            have E4 := Lib.hid (below_after E3.out Q2.out (Nat.le_refl _))
            have X3 := Lib.hid (wbox_below X2.out Q2.out)
            obtain ⟨e1, e2⟩ := HE.out _ E4.out
            go_wp2_with fail
            (with_reducible refine (HQ1.out _ P4.out).mono ?_)
            rintro e w3 ⟨a3, b3, B3, m3, d3, rfl, hb⟩
            have P5 := Lib.hid (below_after P4.out hb (Nat.le_refl _))
            have X4 := Lib.hid (wbox_below X3.out hb)
            have Y2 := Lib.hid (wbox_below Y1.out hb)
            clear hb e1 e2
            have Q3 := Lib.hid (below_one w3 (.cells #[.int .i64 a3, .int .i64 b3, .int .i64 q, .slice B3 m3 d3] 26))
            have P6 := Lib.hid (below_after P5.out Q3.out (Nat.le_refl _))
            have X5 := Lib.hid (wbox_below X4.out Q3.out)
            have Y3 := Lib.hid (wbox_below Y2.out Q3.out)
            have V1 := Lib.hid (wbox_new w3 a3 b3 q (.slice B3 m3 d3))
            obtain ⟨_, _, x3, _⟩ := wbox_cells X5.out
            obtain ⟨_, _, y3, _⟩ := wbox_cells Y3.out
            obtain ⟨_, _, z3, _⟩ := wbox_cells V1.out
            go_wp2_with fail
            go_roundw
            case rel => exact ⟨i + 1, by omega, by go_num, P6⟩
            case measure => simp [intOf]; omega
          · have hd2 : decide (P < p) = false := decide_eq_false (by omega)
            have hd3 : (P == p) = false := by simp; omega
            go_wp2_with fail
            (with_reducible refine (HJ.out _ HI.out).mono ?_)
            rintro e w1 ⟨a1, b1, B1, m1, d1, rfl, hb⟩
            have P1 := Lib.hid (below_after HI.out hb (Nat.le_refl _))
            have E1 := Lib.hid hb
            clear hb e1 e2
            have Q1 := Lib.hid (below_one w1 (.cells #[.int .i64 a1, .int .i64 b1, .int .i64 P, .slice B1 m1 d1] 26))
            have X1 := Lib.hid (wbox_new w1 a1 b1 P (.slice B1 m1 d1))
            have P2 := Lib.hid (below_after P1.out Q1.out (Nat.le_refl _))
            have E2 := Lib.hid (below_after E1.out Q1.out (Nat.le_refl _))
            obtain ⟨e1, e2⟩ := HE.out _ E2.out
            go_wp2_with fail
            (with_reducible refine (HQ0.out _ P2.out).mono ?_)
            rintro e w2 ⟨a2, b2, B2, m2, d2, rfl, hb⟩
            have P3 := Lib.hid (below_after P2.out hb (Nat.le_refl _))
            have E3 := Lib.hid (below_after E2.out hb (Nat.le_refl _))
            have X2 := Lib.hid (wbox_below X1.out hb)
            clear hb e1 e2
            have Q2 := Lib.hid (below_one w2 (.cells #[.int .i64 a2, .int .i64 b2, .int .i64 p, .slice B2 m2 d2] 26))
            have Y1 := Lib.hid (wbox_new w2 a2 b2 p (.slice B2 m2 d2))
            have P4 := Lib.hid (below_after P3.out Q2.out (Nat.le_refl _))
            have E4 := Lib.hid (below_after E3.out Q2.out (Nat.le_refl _))
            have X3 := Lib.hid (wbox_below X2.out Q2.out)
            obtain ⟨e1, e2⟩ := HE.out _ E4.out
            go_wp2_with fail
            (with_reducible refine (HQ1.out _ P4.out).mono ?_)
            rintro e w3 ⟨a3, b3, B3, m3, d3, rfl, hb⟩
            have P5 := Lib.hid (below_after P4.out hb (Nat.le_refl _))
            have X4 := Lib.hid (wbox_below X3.out hb)
            have Y2 := Lib.hid (wbox_below Y1.out hb)
            clear hb e1 e2
            have Q3 := Lib.hid (below_one w3 (.cells #[.int .i64 a3, .int .i64 b3, .int .i64 P, .slice B3 m3 d3] 26))
            have P6 := Lib.hid (below_after P5.out Q3.out (Nat.le_refl _))
            have X5 := Lib.hid (wbox_below X4.out Q3.out)
            have Y3 := Lib.hid (wbox_below Y2.out Q3.out)
            have V1 := Lib.hid (wbox_new w3 a3 b3 P (.slice B3 m3 d3))
            obtain ⟨_, _, x3, _⟩ := wbox_cells X5.out
            obtain ⟨_, _, y3, _⟩ := wbox_cells Y3.out
            obtain ⟨_, _, z3, _⟩ := wbox_cells V1.out
            go_wp2_with fail
            go_roundw
            case rel => exact ⟨i + 1, by omega, by go_num, P6⟩
            case measure => simp [intOf]; omega
        · have hdi : decide ((i : Int) < (l.length : Int)) = false := by simp; omega
          go_wp2_with fail
          go_roundw
          case rel => exact ⟨k + 1, by omega, by go_num, HI⟩
          case measure => simp [intOf]; omega
    · have hdk : decide ((k : Int) < 2) = false := by simp; omega
      go_wp2_with fail
      go_ret
      exact ⟨rfl, below_after BX.out HW.out (Nat.le_refl _)⟩
set_option maxHeartbeats 8000000 in
set_option maxRecDepth 100000 in
theorem rowsJoin_large (v0 : Value) (l0 : List Row) (v1 : Value) (l1 : List Row) (v2 : Value) (l2 : List Row) (w : World) (h0 : RowsAt w v0 l0) (h1 : RowsAt w v1 l1) (h2 : RowsAt w v2 l2) (a0 : longB l0 = false) (a1 : longB l1 = false) (a2 : longB l2 = false) (b0 : mayB l0 = true) (b1 : mayB l1 = true) (b2 : mayB l2 = true) (hs : ¬ (joinR l0 l1).length ≤ 64) :
    Calls Try.prog 4 #[v0, v1, v2] w fun e w' => e = .returned (.bool true) ∧ Below w.heap.size w w' := by
  have I0 := Lib.hid h0
  have I1 := Lib.hid h1
  have I2 := Lib.hid h2
  have Ha0 := Lib.hid a0
  have Ha1 := Lib.hid a1
  have Ha2 := Lib.hid a2
  have Hb0 := Lib.hid b0
  have Hb1 := Lib.hid b1
  have Hb2 := Lib.hid b2
  have N0 := Lib.hid ((may_iff l0).1 b0)
  have Z0 := Lib.hid (lens_long a0)
  have N1 := Lib.hid ((may_iff l1).1 b1)
  have Z1 := Lib.hid (lens_long a1)
  have N2 := Lib.hid ((may_iff l2).1 b2)
  have Z2 := Lib.hid (lens_long a2)
  have Z01 := Lib.hid (Z0.out.joinR Z1.out)
  have Z12 := Lib.hid (Z1.out.joinR Z2.out)
  have HC := Lib.hid (joinR_comm l1 l0)
  have HA := Lib.hid (joinR_assoc l0 l1 l2).symm
  have HS := Lib.hid (joinR_self (may_norm N0.out))
  have HG := Lib.hid (joinR_again (b := l1) (may_norm N0.out))
  have hd : decide ((((joinR l0 l1).length : Nat) : Int) ≤ 64) = false := by simp; omega
  obtain ⟨A0, c0, rfl, hz0⟩ := h0.shape
  obtain ⟨A1, c1, rfl, hz1⟩ := h1.shape
  obtain ⟨A2, c2, rfl, hz2⟩ := h2.shape
  clear h0 h1 h2 a0 a1 a2 b0 b1 b2 hz0 hz1 hz2 hs
  go_enter Try.func4, Try.ntmps4
  have B0 := Lib.hid (show Below w.heap.size w w from Below.refl _ _)
  have J0 := Lib.hid I0.out
  have J1 := Lib.hid I1.out
  have J2 := Lib.hid I2.out
  go_wp2_with fail
  refine (long_any _ l0 _ J0.out).mono ?_
  rw [Ha0.out]
  rintro e w1 ⟨rfl, hb⟩
  have B1 := Lib.hid (below_after B0.out hb (Nat.le_refl _))
  have IL01 := Lib.hid (J0.out.below hb)
  have IL11 := Lib.hid (J1.out.below hb)
  have IL21 := Lib.hid (J2.out.below hb)
  clear hb
  go_wp2_with fail
  refine (long_any _ l1 _ IL11.out).mono ?_
  rw [Ha1.out]
  rintro e w2 ⟨rfl, hb⟩
  have B2 := Lib.hid (below_after B1.out hb (Nat.le_refl _))
  have IL02 := Lib.hid (IL01.out.below hb)
  have IL12 := Lib.hid (IL11.out.below hb)
  have IL22 := Lib.hid (IL21.out.below hb)
  clear hb
  go_wp2_with fail
  refine (long_any _ l2 _ IL22.out).mono ?_
  rw [Ha2.out]
  rintro e w3 ⟨rfl, hb⟩
  have B3 := Lib.hid (below_after B2.out hb (Nat.le_refl _))
  have IL03 := Lib.hid (IL02.out.below hb)
  have IL13 := Lib.hid (IL12.out.below hb)
  have IL23 := Lib.hid (IL22.out.below hb)
  clear hb
  go_wp2_with fail
  refine (awake_any _).mono ?_
  rintro e w4 ⟨rfl, hb⟩
  have B4 := Lib.hid (below_after B3.out hb (Nat.le_refl _))
  have IL04 := Lib.hid (IL03.out.below hb)
  have IL14 := Lib.hid (IL13.out.below hb)
  have IL24 := Lib.hid (IL23.out.below hb)
  clear hb
  go_wp2_with fail
  refine (may_rows _ l0 _ IL04.out ((lens_long Ha0.out).nots (by omega))).mono ?_
  rw [Hb0.out]
  rintro e w5 ⟨rfl, hb⟩
  have B5 := Lib.hid (below_after B4.out hb (Nat.le_refl _))
  have IL05 := Lib.hid (IL04.out.below hb)
  have IL15 := Lib.hid (IL14.out.below hb)
  have IL25 := Lib.hid (IL24.out.below hb)
  clear hb
  go_wp2_with fail
  refine (may_rows _ l1 _ IL15.out ((lens_long Ha1.out).nots (by omega))).mono ?_
  rw [Hb1.out]
  rintro e w6 ⟨rfl, hb⟩
  have B6 := Lib.hid (below_after B5.out hb (Nat.le_refl _))
  have IL06 := Lib.hid (IL05.out.below hb)
  have IL16 := Lib.hid (IL15.out.below hb)
  have IL26 := Lib.hid (IL25.out.below hb)
  clear hb
  go_wp2_with fail
  refine (may_rows _ l2 _ IL26.out ((lens_long Ha2.out).nots (by omega))).mono ?_
  rw [Hb2.out]
  rintro e w7 ⟨rfl, hb⟩
  have B7 := Lib.hid (below_after B6.out hb (Nat.le_refl _))
  have IL07 := Lib.hid (IL06.out.below hb)
  have IL17 := Lib.hid (IL16.out.below hb)
  have IL27 := Lib.hid (IL26.out.below hb)
  clear hb
  go_wp2_with fail
  refine (join_rows _ _ l0 l1 _ IL07.out IL17.out N0.out.2.2 N1.out.2.2 (Z0.out.small (by omega) (by omega)) (Z1.out.small (by omega) (by omega))).mono ?_
  rintro e w8 ⟨ab, rfl, hi, hb⟩
  have B8 := Lib.hid (below_after B7.out hb (Nat.le_refl _))
  have IL08 := Lib.hid (IL07.out.below hb)
  have IL18 := Lib.hid (IL17.out.below hb)
  have IL28 := Lib.hid (IL27.out.below hb)
  have Iab8 := Lib.hid hi
  clear hi
  clear hb
  obtain ⟨Ab, cb, eb, _⟩ := Iab8.out.shape
  subst eb
  go_wp2_with fail
  refine (join_rows _ _ l1 l0 _ IL18.out IL08.out N1.out.2.2 N0.out.2.2 (Z1.out.small (by omega) (by omega)) (Z0.out.small (by omega) (by omega))).mono ?_
  rw [HC.out]
  rintro e w9 ⟨ba, rfl, hi, hb⟩
  have B9 := Lib.hid (below_after B8.out hb (Nat.le_refl _))
  have IL09 := Lib.hid (IL08.out.below hb)
  have IL19 := Lib.hid (IL18.out.below hb)
  have IL29 := Lib.hid (IL28.out.below hb)
  have Iab9 := Lib.hid (Iab8.out.below hb)
  have Iba9 := Lib.hid hi
  clear hi
  clear hb
  go_wp2_with fail
  refine (sameRows_any _ _ (joinR l0 l1) _ Iab9.out Iba9.out (Z01.out.small (by omega) (by omega))).mono ?_
  rintro e w10 ⟨rfl, hb⟩
  have B10 := Lib.hid (below_after B9.out hb (Nat.le_refl _))
  have IL010 := Lib.hid (IL09.out.below hb)
  have IL110 := Lib.hid (IL19.out.below hb)
  have IL210 := Lib.hid (IL29.out.below hb)
  have Iab10 := Lib.hid (Iab9.out.below hb)
  clear hb
  go_wp2_with fail
  refine (join_rows _ _ (joinR l0 l1) l2 _ Iab10.out IL210.out (up_joinR _ _) N2.out.2.2 (Z01.out.small (by omega) (by omega)) (Z2.out.small (by omega) (by omega))).mono ?_
  rintro e w11 ⟨x, rfl, hi, hb⟩
  have B11 := Lib.hid (below_after B10.out hb (Nat.le_refl _))
  have IL011 := Lib.hid (IL010.out.below hb)
  have IL111 := Lib.hid (IL110.out.below hb)
  have IL211 := Lib.hid (IL210.out.below hb)
  have Iab11 := Lib.hid (Iab10.out.below hb)
  have Ix11 := Lib.hid hi
  clear hi
  clear hb
  go_wp2_with fail
  refine (join_rows _ _ l1 l2 _ IL111.out IL211.out N1.out.2.2 N2.out.2.2 (Z1.out.small (by omega) (by omega)) (Z2.out.small (by omega) (by omega))).mono ?_
  rintro e w12 ⟨y, rfl, hi, hb⟩
  have B12 := Lib.hid (below_after B11.out hb (Nat.le_refl _))
  have IL012 := Lib.hid (IL011.out.below hb)
  have IL112 := Lib.hid (IL111.out.below hb)
  have IL212 := Lib.hid (IL211.out.below hb)
  have Iab12 := Lib.hid (Iab11.out.below hb)
  have Ix12 := Lib.hid (Ix11.out.below hb)
  have Iy12 := Lib.hid hi
  clear hi
  clear hb
  go_wp2_with fail
  refine (join_rows _ _ l0 (joinR l1 l2) _ IL012.out Iy12.out N0.out.2.2 (up_joinR _ _) (Z0.out.small (by omega) (by omega)) (Z12.out.small (by omega) (by omega))).mono ?_
  rw [HA.out]
  rintro e w13 ⟨z, rfl, hi, hb⟩
  have B13 := Lib.hid (below_after B12.out hb (Nat.le_refl _))
  have IL013 := Lib.hid (IL012.out.below hb)
  have IL113 := Lib.hid (IL112.out.below hb)
  have IL213 := Lib.hid (IL212.out.below hb)
  have Iab13 := Lib.hid (Iab12.out.below hb)
  have Ix13 := Lib.hid (Ix12.out.below hb)
  have Iz13 := Lib.hid hi
  clear hi
  clear hb
  go_wp2_with fail
  refine (sameRows_any _ _ (joinR (joinR l0 l1) l2) _ Ix13.out Iz13.out ((Z01.out.joinR Z2.out).small (by omega) (by omega))).mono ?_
  rintro e w14 ⟨rfl, hb⟩
  have B14 := Lib.hid (below_after B13.out hb (Nat.le_refl _))
  have IL014 := Lib.hid (IL013.out.below hb)
  have IL114 := Lib.hid (IL113.out.below hb)
  have IL214 := Lib.hid (IL213.out.below hb)
  have Iab14 := Lib.hid (Iab13.out.below hb)
  clear hb
  go_wp2_with fail
  refine (join_rows _ _ l0 l0 _ IL014.out IL014.out N0.out.2.2 N0.out.2.2 (Z0.out.small (by omega) (by omega)) (Z0.out.small (by omega) (by omega))).mono ?_
  rw [HS.out]
  rintro e w15 ⟨x2, rfl, hi, hb⟩
  have B15 := Lib.hid (below_after B14.out hb (Nat.le_refl _))
  have IL015 := Lib.hid (IL014.out.below hb)
  have IL115 := Lib.hid (IL114.out.below hb)
  have IL215 := Lib.hid (IL214.out.below hb)
  have Iab15 := Lib.hid (Iab14.out.below hb)
  have Ix215 := Lib.hid hi
  clear hi
  clear hb
  go_wp2_with fail
  refine (sameRows_any _ _ l0 _ Ix215.out IL015.out (Z0.out.small (by omega) (by omega))).mono ?_
  rintro e w16 ⟨rfl, hb⟩
  have B16 := Lib.hid (below_after B15.out hb (Nat.le_refl _))
  have IL016 := Lib.hid (IL015.out.below hb)
  have IL116 := Lib.hid (IL115.out.below hb)
  have IL216 := Lib.hid (IL215.out.below hb)
  have Iab16 := Lib.hid (Iab15.out.below hb)
  clear hb
  go_wp2_with fail
  refine (join_rows _ _ (joinR l0 l1) l0 _ Iab16.out IL016.out (up_joinR _ _) N0.out.2.2 (Z01.out.small (by omega) (by omega)) (Z0.out.small (by omega) (by omega))).mono ?_
  rw [HG.out]
  rintro e w17 ⟨x3, rfl, hi, hb⟩
  have B17 := Lib.hid (below_after B16.out hb (Nat.le_refl _))
  have IL017 := Lib.hid (IL016.out.below hb)
  have IL117 := Lib.hid (IL116.out.below hb)
  have IL217 := Lib.hid (IL216.out.below hb)
  have Iab17 := Lib.hid (Iab16.out.below hb)
  have Ix317 := Lib.hid hi
  clear hi
  clear hb
  go_wp2_with fail
  refine (sameRows_any _ _ (joinR l0 l1) _ Ix317.out Iab17.out (Z01.out.small (by omega) (by omega))).mono ?_
  rintro e w18 ⟨rfl, hb⟩
  have B18 := Lib.hid (below_after B17.out hb (Nat.le_refl _))
  have IL018 := Lib.hid (IL017.out.below hb)
  have IL118 := Lib.hid (IL117.out.below hb)
  have Iab18 := Lib.hid (Iab17.out.below hb)
  clear hb
  go_wp2_with fail
  have BX := Lib.hid (below_after B18.out (below_one w18 (.cells #[.slice A0 l0.length c0, .slice A1 l1.length c1] 27)) (Nat.le_refl _))
  have HX : Hid ((w18.alloc (.cells #[.slice A0 l0.length c0, .slice A1 l1.length c1] 27)).heap[w18.heap.size]? = some (.cells #[.slice A0 l0.length c0, .slice A1 l1.length c1] 27 (0, 0))) := Lib.hid (heap_alloc_new _ _)
  have RL0 := Lib.hid (IL018.out.below (below_one w18 (.cells #[.slice A0 l0.length c0, .slice A1 l1.length c1] 27)))
  have RL1 := Lib.hid (IL118.out.below (below_one w18 (.cells #[.slice A0 l0.length c0, .slice A1 l1.length c1] 27)))
  have Rab := Lib.hid (Iab18.out.below (below_one w18 (.cells #[.slice A0 l0.length c0, .slice A1 l1.length c1] 27)))
  have hgx : w18.heap.size < (w18.alloc (.cells #[.slice A0 l0.length c0, .slice A1 l1.length c1] 27)).heap.size := by simp
  have HGX := Lib.hid hgx
  clear hgx
  generalize w18.heap.size = gx at *
  generalize w18.alloc (.cells #[.slice A0 l0.length c0, .slice A1 l1.length c1] 27) = wb at *
  clear IL018 IL118 Iab18
  have HG1 := Lib.hid (joinR_more (b := l1) N0.out.2.2)
  have HG2 := Lib.hid (joinR_more' (a := l0) N1.out.2.2)
  have HG3 := Lib.hid (joinR_len l0 l1)
  have hg1 : decide ((l0.length : Int) ≤ ((joinR l0 l1).length : Int)) = true := by have := HG1.out; simp; omega
  have hg2 : decide ((l1.length : Int) ≤ ((joinR l0 l1).length : Int)) = true := by have := HG2.out; simp; omega
  have hg3 : decide (((joinR l0 l1).length : Int) ≤ (l0.length : Int) + (l1.length : Int)) = true := by have := HG3.out; simp; omega
  have i8 : (l0.length : Int) + (l1.length : Int) ≤ 9223372036854775807 := by have := Z0.out.1; have := Z1.out.1; omega
  go_loopw [96] (fun s96 wr => ∃ k : Nat, k ≤ 2 ∧ s96 = .int .i64 k ∧ Hid (Below wb.heap.size wb wr)) (fun s96 _ => 2 - (intOf s96).toNat)
  case atStart => exact ⟨0, by omega, rfl, Lib.hid (Below.refl _ _)⟩
  case round =>
    obtain ⟨k, hkl, rfl, HW⟩ := hrel
    have i3 : (0 : Int) ≤ (k : Int) := by omega
    by_cases hlt : k < 2
    · have i4 : (k : Int) < 2 := by omega
      have hdk : decide ((k : Int) < 2) = true := decide_eq_true i4
      have hsel : ∃ A c, ∃ l : List Row, wr.cell? ⟨gx, k, none⟩ = some (.slice A l.length c) ∧ RowsAt wb (.slice A l.length c) l ∧ (l = l0 ∨ l = l1) ∧ l.length ≤ 80 := by
        have hh := (HW.out.block gx HGX.out).trans HX.out
        have : k = 0 ∨ k = 1 := by omega
        rcases this with rfl | rfl
        · exact ⟨A0, c0, l0, by simp [World.cell?, hh], RL0.out, .inl rfl, Z0.out.1⟩
        · exact ⟨A1, c1, l1, by simp [World.cell?, hh], RL1.out, .inr rfl, Z1.out.1⟩
      obtain ⟨A, c, l, e1, e2, e3, e4⟩ := hsel
      have RL := Lib.hid e2
      have HL := Lib.hid e3
      clear e2 e3
      go_wp2_with fail
      clear e1
      go_loopw [10] (fun s10 wi => ∃ i : Nat, i ≤ l.length ∧ s10 = .int .i64 i ∧ Hid (Below wb.heap.size wb wi)) (fun s10 _ => l.length - (intOf s10).toNat)
      case atStart => exact ⟨0, by omega, rfl, HW⟩
      case round =>
        obtain ⟨i, hil, rfl, HI⟩ := hrel
        have i5 : (0 : Int) ≤ (i : Int) := by omega
        by_cases hli : i < l.length
        · have i6 : (i : Int) < (l.length : Int) := by omega
          have hdi : decide ((i : Int) < (l.length : Int)) = true := decide_eq_true i6
          obtain ⟨ad, _, rfl, e1, e2, _, _, _⟩ := RL.out.at_ HI.out hli
          have hin : (l[i].1.1, l[i].1.2) ∈ ids l0 ∨ (l[i].1.1, l[i].1.2) ∈ ids l1 := by
            have := get_joinL hli
            rcases HL.out with rfl | rfl
            · exact .inl this
            · exact .inr this
          generalize l[i].1.1 = x at *
          generalize l[i].1.2 = y at *
          have HE := Lib.hid fun W (hb : Below wr.heap.size wr W) => And.intro ((hb.cell (block_lt_of_cell e1)).trans e1) ((hb.cell (block_lt_of_cell e2)).trans e2)
          obtain ⟨hsome, hways⟩ := joined_ways hin
          have HJ := Lib.hid fun W (hb : Below wb.heap.size wb W) => got_any (.slice Ab (joinR l0 l1).length cb) (joinR l0 l1) x y W (Rab.out.below hb) (Z01.out.small (by omega) (by omega)).1 (Z01.out.nots (by omega)) _ _ rfl hsome
          have HQ0 := Lib.hid fun W (hb : Below wb.heap.size wb W) => got_any (.slice A0 l0.length c0) l0 x y W (RL0.out.below hb) (Z0.out.small (by omega) (by omega)).1 (Z0.out.nots (by omega)) _ _ rfl rfl
          have HQ1 := Lib.hid fun W (hb : Below wb.heap.size wb W) => got_any (.slice A1 l1.length c1) l1 x y W (RL1.out.below hb) (Z1.out.small (by omega) (by omega)).1 (Z1.out.nots (by omega)) _ _ rfl rfl
          generalize vers (get (joinR l0 l1) (x, y)) = P at *
          generalize vers (get l0 (x, y)) = p at *
          generalize vers (get l1 (x, y)) = q at *
          generalize (get l0 (x, y)).isSome = I at *
          generalize (get l1 (x, y)).isSome = J at *
          clear hsome hin
          rcases hways with ⟨rfl, rfl, rfl⟩ | ⟨rfl, rfl, rfl⟩ | ⟨rfl, rfl, rfl, hpq⟩ | ⟨rfl, rfl, rfl, hpq⟩
          · skip
            go_wp2_with fail
            (with_reducible refine (HJ.out _ HI.out).mono ?_)
            rintro e w1 ⟨a1, b1, B1, m1, d1, rfl, hb⟩
            have P1 := Lib.hid (below_after HI.out hb (Nat.le_refl _))
            have E1 := Lib.hid hb
            clear hb e1 e2
            have Q1 := Lib.hid (below_one w1 (.cells #[.int .i64 a1, .int .i64 b1, .int .i64 P, .slice B1 m1 d1] 26))
            have X1 := Lib.hid (wbox_new w1 a1 b1 P (.slice B1 m1 d1))
            have P2 := Lib.hid (below_after P1.out Q1.out (Nat.le_refl _))
            have E2 := Lib.hid (below_after E1.out Q1.out (Nat.le_refl _))
            obtain ⟨e1, e2⟩ := HE.out _ E2.out
            go_wp2_with fail
            (with_reducible refine (HQ0.out _ P2.out).mono ?_)
            rintro e w2 ⟨a2, b2, B2, m2, d2, rfl, hb⟩
            have P3 := Lib.hid (below_after P2.out hb (Nat.le_refl _))
            have E3 := Lib.hid (below_after E2.out hb (Nat.le_refl _))
            have X2 := Lib.hid (wbox_below X1.out hb)
            clear hb e1 e2
            have Q2 := Lib.hid (below_one w2 (.cells #[.int .i64 a2, .int .i64 b2, .int .i64 P, .slice B2 m2 d2] 26))
            have Y1 := Lib.hid (wbox_new w2 a2 b2 P (.slice B2 m2 d2))
            have P4 := Lib.hid (below_after P3.out Q2.out (Nat.le_refl _))
            have E4 := Lib.hid (below_after E3.out Q2.out (Nat.le_refl _))
            have X3 := Lib.hid (wbox_below X2.out Q2.out)
            obtain ⟨e1, e2⟩ := HE.out _ E4.out
            go_wp2_with fail
            (with_reducible refine (HQ1.out _ P4.out).mono ?_)
            rintro e w3 ⟨a3, b3, B3, m3, d3, rfl, hb⟩
            have P5 := Lib.hid (below_after P4.out hb (Nat.le_refl _))
            have X4 := Lib.hid (wbox_below X3.out hb)
            have Y2 := Lib.hid (wbox_below Y1.out hb)
            clear hb e1 e2
            have Q3 := Lib.hid (below_one w3 (.cells #[.int .i64 a3, .int .i64 b3, .int .i64 q, .slice B3 m3 d3] 26))
            have P6 := Lib.hid (below_after P5.out Q3.out (Nat.le_refl _))
            have X5 := Lib.hid (wbox_below X4.out Q3.out)
            have Y3 := Lib.hid (wbox_below Y2.out Q3.out)
            have V1 := Lib.hid (wbox_new w3 a3 b3 q (.slice B3 m3 d3))
            obtain ⟨_, _, x3, _⟩ := wbox_cells X5.out
            obtain ⟨_, _, y3, _⟩ := wbox_cells Y3.out
            obtain ⟨_, _, z3, _⟩ := wbox_cells V1.out
            go_wp2_with fail
            go_roundw
            case rel => exact ⟨i + 1, by omega, by go_num, P6⟩
            case measure => simp [intOf]; omega
          · skip
            go_wp2_with fail
            (with_reducible refine (HJ.out _ HI.out).mono ?_)
            rintro e w1 ⟨a1, b1, B1, m1, d1, rfl, hb⟩
            have P1 := Lib.hid (below_after HI.out hb (Nat.le_refl _))
            have E1 := Lib.hid hb
            clear hb e1 e2
            have Q1 := Lib.hid (below_one w1 (.cells #[.int .i64 a1, .int .i64 b1, .int .i64 P, .slice B1 m1 d1] 26))
            have X1 := Lib.hid (wbox_new w1 a1 b1 P (.slice B1 m1 d1))
            have P2 := Lib.hid (below_after P1.out Q1.out (Nat.le_refl _))
            have E2 := Lib.hid (below_after E1.out Q1.out (Nat.le_refl _))
            obtain ⟨e1, e2⟩ := HE.out _ E2.out
            go_wp2_with fail
            (with_reducible refine (HQ0.out _ P2.out).mono ?_)
            rintro e w2 ⟨a2, b2, B2, m2, d2, rfl, hb⟩
            have P3 := Lib.hid (below_after P2.out hb (Nat.le_refl _))
            have E3 := Lib.hid (below_after E2.out hb (Nat.le_refl _))
            have X2 := Lib.hid (wbox_below X1.out hb)
            clear hb e1 e2
            have Q2 := Lib.hid (below_one w2 (.cells #[.int .i64 a2, .int .i64 b2, .int .i64 p, .slice B2 m2 d2] 26))
            have Y1 := Lib.hid (wbox_new w2 a2 b2 p (.slice B2 m2 d2))
            have P4 := Lib.hid (below_after P3.out Q2.out (Nat.le_refl _))
            have E4 := Lib.hid (below_after E3.out Q2.out (Nat.le_refl _))
            have X3 := Lib.hid (wbox_below X2.out Q2.out)
            obtain ⟨e1, e2⟩ := HE.out _ E4.out
            go_wp2_with fail
            (with_reducible refine (HQ1.out _ P4.out).mono ?_)
            rintro e w3 ⟨a3, b3, B3, m3, d3, rfl, hb⟩
            have P5 := Lib.hid (below_after P4.out hb (Nat.le_refl _))
            have X4 := Lib.hid (wbox_below X3.out hb)
            have Y2 := Lib.hid (wbox_below Y1.out hb)
            clear hb e1 e2
            have Q3 := Lib.hid (below_one w3 (.cells #[.int .i64 a3, .int .i64 b3, .int .i64 P, .slice B3 m3 d3] 26))
            have P6 := Lib.hid (below_after P5.out Q3.out (Nat.le_refl _))
            have X5 := Lib.hid (wbox_below X4.out Q3.out)
            have Y3 := Lib.hid (wbox_below Y2.out Q3.out)
            have V1 := Lib.hid (wbox_new w3 a3 b3 P (.slice B3 m3 d3))
            obtain ⟨_, _, x3, _⟩ := wbox_cells X5.out
            obtain ⟨_, _, y3, _⟩ := wbox_cells Y3.out
            obtain ⟨_, _, z3, _⟩ := wbox_cells V1.out
            go_wp2_with fail
            go_roundw
            case rel => exact ⟨i + 1, by omega, by go_num, P6⟩
            case measure => simp [intOf]; omega
          · have hd2 : decide (P < q) = false := decide_eq_false (by omega)
            go_wp2_with fail
            (with_reducible refine (HJ.out _ HI.out).mono ?_)
            rintro e w1 ⟨a1, b1, B1, m1, d1, rfl, hb⟩
            have P1 := Lib.hid (below_after HI.out hb (Nat.le_refl _))
            have E1 := Lib.hid hb
            clear hb e1 e2
            have Q1 := Lib.hid (below_one w1 (.cells #[.int .i64 a1, .int .i64 b1, .int .i64 P, .slice B1 m1 d1] 26))
            have X1 := Lib.hid (wbox_new w1 a1 b1 P (.slice B1 m1 d1))
            have P2 := Lib.hid (below_after P1.out Q1.out (Nat.le_refl _))
            have E2 := Lib.hid (below_after E1.out Q1.out (Nat.le_refl _))
            obtain ⟨e1, e2⟩ := HE.out _ E2.out
            go_wp2_with fail
            (with_reducible refine (HQ0.out _ P2.out).mono ?_)
            rintro e w2 ⟨a2, b2, B2, m2, d2, rfl, hb⟩
            have P3 := Lib.hid (below_after P2.out hb (Nat.le_refl _))
            have E3 := Lib.hid (below_after E2.out hb (Nat.le_refl _))
            have X2 := Lib.hid (wbox_below X1.out hb)
            clear hb e1 e2
            have Q2 := Lib.hid (below_one w2 (.cells #[.int .i64 a2, .int .i64 b2, .int .i64 P, .slice B2 m2 d2] 26))
            have Y1 := Lib.hid (wbox_new w2 a2 b2 P (.slice B2 m2 d2))
            have P4 := Lib.hid (below_after P3.out Q2.out (Nat.le_refl _))
            have E4 := Lib.hid (below_after E3.out Q2.out (Nat.le_refl _))
            have X3 := Lib.hid (wbox_below X2.out Q2.out)
            obtain ⟨e1, e2⟩ := HE.out _ E4.out
            go_wp2_with fail
            (with_reducible refine (HQ1.out _ P4.out).mono ?_)
            rintro e w3 ⟨a3, b3, B3, m3, d3, rfl, hb⟩
            have P5 := Lib.hid (below_after P4.out hb (Nat.le_refl _))
            have X4 := Lib.hid (wbox_below X3.out hb)
            have Y2 := Lib.hid (wbox_below Y1.out hb)
            clear hb e1 e2
            have Q3 := Lib.hid (below_one w3 (.cells #[.int .i64 a3, .int .i64 b3, .int .i64 q, .slice B3 m3 d3] 26))
            have P6 := Lib.hid (below_after P5.out Q3.out (Nat.le_refl _))
            have X5 := Lib.hid (wbox_below X4.out Q3.out)
            have Y3 := Lib.hid (wbox_below Y2.out Q3.out)
            have V1 := Lib.hid (wbox_new w3 a3 b3 q (.slice B3 m3 d3))
            obtain ⟨_, _, x3, _⟩ := wbox_cells X5.out
            obtain ⟨_, _, y3, _⟩ := wbox_cells Y3.out
            obtain ⟨_, _, z3, _⟩ := wbox_cells V1.out
            go_wp2_with fail
            go_roundw
            case rel => exact ⟨i + 1, by omega, by go_num, P6⟩
            case measure => simp [intOf]; omega
          · have hd2 : decide (P < p) = false := decide_eq_false (by omega)
            have hd3 : (P == p) = false := by simp; omega
            go_wp2_with fail
            (with_reducible refine (HJ.out _ HI.out).mono ?_)
            rintro e w1 ⟨a1, b1, B1, m1, d1, rfl, hb⟩
            have P1 := Lib.hid (below_after HI.out hb (Nat.le_refl _))
            have E1 := Lib.hid hb
            clear hb e1 e2
            have Q1 := Lib.hid (below_one w1 (.cells #[.int .i64 a1, .int .i64 b1, .int .i64 P, .slice B1 m1 d1] 26))
            have X1 := Lib.hid (wbox_new w1 a1 b1 P (.slice B1 m1 d1))
            have P2 := Lib.hid (below_after P1.out Q1.out (Nat.le_refl _))
            have E2 := Lib.hid (below_after E1.out Q1.out (Nat.le_refl _))
            obtain ⟨e1, e2⟩ := HE.out _ E2.out
            go_wp2_with fail
            (with_reducible refine (HQ0.out _ P2.out).mono ?_)
            rintro e w2 ⟨a2, b2, B2, m2, d2, rfl, hb⟩
            have P3 := Lib.hid (below_after P2.out hb (Nat.le_refl _))
            have E3 := Lib.hid (below_after E2.out hb (Nat.le_refl _))
            have X2 := Lib.hid (wbox_below X1.out hb)
            clear hb e1 e2
            have Q2 := Lib.hid (below_one w2 (.cells #[.int .i64 a2, .int .i64 b2, .int .i64 p, .slice B2 m2 d2] 26))
            have Y1 := Lib.hid (wbox_new w2 a2 b2 p (.slice B2 m2 d2))
            have P4 := Lib.hid (below_after P3.out Q2.out (Nat.le_refl _))
            have E4 := Lib.hid (below_after E3.out Q2.out (Nat.le_refl _))
            have X3 := Lib.hid (wbox_below X2.out Q2.out)
            obtain ⟨e1, e2⟩ := HE.out _ E4.out
            go_wp2_with fail
            (with_reducible refine (HQ1.out _ P4.out).mono ?_)
            rintro e w3 ⟨a3, b3, B3, m3, d3, rfl, hb⟩
            have P5 := Lib.hid (below_after P4.out hb (Nat.le_refl _))
            have X4 := Lib.hid (wbox_below X3.out hb)
            have Y2 := Lib.hid (wbox_below Y1.out hb)
            clear hb e1 e2
            have Q3 := Lib.hid (below_one w3 (.cells #[.int .i64 a3, .int .i64 b3, .int .i64 P, .slice B3 m3 d3] 26))
            have P6 := Lib.hid (below_after P5.out Q3.out (Nat.le_refl _))
            have X5 := Lib.hid (wbox_below X4.out Q3.out)
            have Y3 := Lib.hid (wbox_below Y2.out Q3.out)
            have V1 := Lib.hid (wbox_new w3 a3 b3 P (.slice B3 m3 d3))
            obtain ⟨_, _, x3, _⟩ := wbox_cells X5.out
            obtain ⟨_, _, y3, _⟩ := wbox_cells Y3.out
            obtain ⟨_, _, z3, _⟩ := wbox_cells V1.out
            go_wp2_with fail
            go_roundw
            case rel => exact ⟨i + 1, by omega, by go_num, P6⟩
            case measure => simp [intOf]; omega
        · have hdi : decide ((i : Int) < (l.length : Int)) = false := by simp; omega
          go_wp2_with fail
          go_roundw
          case rel => exact ⟨k + 1, by omega, by go_num, HI⟩
          case measure => simp [intOf]; omega
    · have hdk : decide ((k : Int) < 2) = false := by simp; omega
      go_wp2_with fail
      go_ret
      exact ⟨rfl, below_after BX.out HW.out (Nat.le_refl _)⟩
theorem rowsJoin_any (v0 : Value) (l0 : List Row) (v1 : Value) (l1 : List Row) (v2 : Value) (l2 : List Row) (w : World) (h0 : RowsAt w v0 l0) (h1 : RowsAt w v1 l1) (h2 : RowsAt w v2 l2) :
    Calls Try.prog 4 #[v0, v1, v2] w fun e w' => e = .returned (.bool true) ∧ Below w.heap.size w w' := by
  rcases a0 : longB l0 with _ | _
  · rcases a1 : longB l1 with _ | _
    · rcases a2 : longB l2 with _ | _
      · rcases b0 : mayB l0 with _ | _
        · exact rowsJoin_may0 v0 l0 v1 l1 v2 l2 w h0 h1 h2 a0 a1 a2 b0
        · rcases b1 : mayB l1 with _ | _
          · exact rowsJoin_may1 v0 l0 v1 l1 v2 l2 w h0 h1 h2 a0 a1 a2 b0 b1
          · rcases b2 : mayB l2 with _ | _
            · exact rowsJoin_may2 v0 l0 v1 l1 v2 l2 w h0 h1 h2 a0 a1 a2 b0 b1 b2
            · by_cases hs : (joinR l0 l1).length ≤ 64
              · exact rowsJoin_small v0 l0 v1 l1 v2 l2 w h0 h1 h2 a0 a1 a2 b0 b1 b2 hs
              · exact rowsJoin_large v0 l0 v1 l1 v2 l2 w h0 h1 h2 a0 a1 a2 b0 b1 b2 hs
      · exact rowsJoin_long2 v0 l0 v1 l1 v2 l2 w h0 h1 h2 a0 a1 a2
    · exact rowsJoin_long1 v0 l0 v1 l1 v2 l2 w h0 h1 h2 a0 a1
  · exact rowsJoin_long0 v0 l0 v1 l1 v2 l2 w h0 h1 h2 a0
end Go.Proofs.Ytofanciaacdjfaa
