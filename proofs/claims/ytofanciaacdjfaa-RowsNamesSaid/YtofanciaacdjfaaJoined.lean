/-
  Walks over what counts of two rows of one ID, and over the first row of a list, if it is an ID's. No statement is proved in this text; it holds for every input that its premises let by.
-/
import Derived.Test.YtofanciaacdjfaaFirst
import Derived.Test.YtofanciaacdjfaaRowMath
namespace Go.Proofs.Ytofanciaacdjfaa
open Go Go.RowKit Sets RowSets
/-- A pointer to a row. -/
def PRaw (w : World) (p : Option Addr) (q : Raw) : Prop := ∃ ad, p = some ad ∧ ad.block < w.heap.size ∧ w.cell? ad = some (.int .i64 q.1.1) ∧ w.cell? ⟨ad.block, ad.off + 1, none⟩ = some (.int .i64 q.1.2) ∧ w.cell? ⟨ad.block, ad.off + 2, none⟩ = some (.int .i64 q.2.1) ∧ w.cell? ⟨ad.block, ad.off + 3, none⟩ = some (.slice q.2.2.1 q.2.2.2.1 q.2.2.2.2)
theorem PRaw.below {w w' : World} {p : Option Addr} {q : Raw} (h : PRaw w p q) (hb : Below w.heap.size w w') : PRaw w' p q := by
  obtain ⟨ad, rfl, h1, c1, c2, c3, c4⟩ := h
  exact ⟨ad, rfl, Nat.lt_of_lt_of_le h1 hb.size, (hb.cell h1).trans c1, (hb.cell (by show ad.block < _; exact h1)).trans c2, (hb.cell (by show ad.block < _; exact h1)).trans c3, (hb.cell (by show ad.block < _; exact h1)).trans c4⟩
/-- A pointer to a row, or nil. -/
def PRow (w : World) (p : Option Addr) : Option Row → Prop
  | none => p = none
  | some r => ∃ q, PRaw w p q ∧ Reads w q r
theorem PRow.below {w w' : World} {p : Option Addr} {o : Option Row} (h : PRow w p o) (hb : Below w.heap.size w w') : PRow w' p o := by
  cases o with
  | none => exact h
  | some r =>
    obtain ⟨q, h1, h2⟩ := h
    exact ⟨q, h1.below hb, h2.below hb⟩
/-- What copied answers, stored. -/
def GivesRow (r : Row) (w : World) (e : Ending) (w' : World) : Prop := ∃ B m c, e = .returned (.agg #[.int .i64 r.1.1, .int .i64 r.1.2, .int .i64 r.2.1, .slice B m c]) ∧ OwnsI w' w.heap.size (.slice B m c) r.2.2 ∧ Below w.heap.size w w'
theorem copied_gives (q : Raw) (r : Row) (w : World) (h : Reads w q r) (hl : r.2.2.length ≤ 100000) :
    Calls Try.prog 31 #[.agg #[.int .i64 q.1.1, .int .i64 q.1.2, .int .i64 q.2.1, .slice q.2.2.1 q.2.2.2.1 q.2.2.2.2]] w fun e w' => ∃ B m c, e = .returned (.agg #[.int .i64 r.1.1, .int .i64 r.1.2, .int .i64 r.2.1, .slice B m c]) ∧ OwnsI w' w.heap.size (.slice B m c) r.2.2 ∧ Below w.heap.size w w' := by
  rw [← h.1, ← h.2.1]
  exact copied_any q.1.1 q.1.2 q.2.1 q.2.2.1 q.2.2.2.1 q.2.2.2.2 r.2.2 w h.2.2 hl
set_option maxHeartbeats 2000000 in
theorem joined_left (px : Option Addr) (r : Row) (w : World) (h1 : PRow w px (some r)) (hl : r.2.2.length ≤ 100000) :
    Calls Try.prog 30 #[.pointer px, .pointer none] w (GivesRow r w) := by
  have B0 := Lib.hid (below_one w (.cells #[.int .i64 0, .int .i64 0, .int .i64 0, .slice none 0 0] 26))
  have X0 := Lib.hid (wbox_new w 0 0 0 (.slice none 0 0))
  obtain ⟨q, hp, hr⟩ := h1
  have HR := Lib.hid hr
  obtain ⟨ad, rfl, hb0, c1, c2, c3, c4⟩ := hp.below B0.out
  have HC := Lib.hid fun W (hb : Below w.heap.size w W) => copied_gives q r W (HR.out.below hb) hl
  clear hr hp hb0
  generalize q.1.1 = a at *
  generalize q.1.2 = i at *
  generalize q.2.1 = n at *
  generalize q.2.2.1 = A at *
  generalize q.2.2.2.1 = m at *
  generalize q.2.2.2.2 = c at *
  clear HR
  go_enter Try.func30, Try.ntmps30
  go_wp2_with fail
  go_quiet (fail)
  have B1 := Lib.hid (below_drewN (n := nq) B0.out)
  have X1 := Lib.hid (show WBox ((w.alloc (.cells #[.int .i64 0, .int .i64 0, .int .i64 0, .slice none 0 0] 26)).drewN nq) w.heap.size 0 0 0 (.slice none 0 0) from X0.out)
  go_wp2_with fail
  (with_reducible refine (HC.out _ B1.out).mono ?_)
  rintro e w2 ⟨B, m', c', rfl, ho, hb⟩
  have B2 := Lib.hid (below_after B1.out hb (Nat.le_refl _))
  have X2 := Lib.hid (wbox_below X1.out hb)
  have O2 := Lib.hid (ho.mono (show w.heap.size + 1 ≤ _ by simp [World.drewN]))
  clear ho hb c1 c2 c3 c4
  obtain ⟨y1, y2, y3, y4⟩ := wbox_cells X2.out
  obtain ⟨f1, f2, f3, f4⟩ := wbox_free X2.out
  have X3 := Lib.hid (wbox_set X2.out r.1.1 r.1.2 r.2.1 (.slice B m' c'))
  have B3 := Lib.hid (below_set4 (g := w.heap.size) B2.out (Nat.le_refl _) (.int .i64 r.1.1) (.int .i64 r.1.2) (.int .i64 r.2.1) (.slice B m' c'))
  have O3 := Lib.hid (O2.out.grown (grown_set4 (World.grownBy.refl _ (some w.heap.size)) (.int .i64 r.1.1) (.int .i64 r.1.2) (.int .i64 r.2.1) (.slice B m' c')) (ownsR_ne O2.out (by omega)))
  go_wp2_with fail
  obtain ⟨q0, q1, q2, q3⟩ := wbox_cells X3.out
  refine bodyPost_ret (v := .agg #[.int .i64 r.1.1, .int .i64 r.1.2, .int .i64 r.2.1, .slice B m' c']) (by simp [results, Try.results30, go_sem, q0, q1, q2, q3]) rfl ?_
  exact ⟨B, m', c', rfl, O3.out.mono (by omega), B3.out⟩
set_option maxHeartbeats 2000000 in
theorem joined_right (px : Option Addr) (r : Row) (w : World) (h1 : PRow w px (some r)) (hl : r.2.2.length ≤ 100000) :
    Calls Try.prog 30 #[.pointer none, .pointer px] w (GivesRow r w) := by
  have B0 := Lib.hid (below_one w (.cells #[.int .i64 0, .int .i64 0, .int .i64 0, .slice none 0 0] 26))
  have X0 := Lib.hid (wbox_new w 0 0 0 (.slice none 0 0))
  obtain ⟨q, hp, hr⟩ := h1
  have HR := Lib.hid hr
  obtain ⟨ad, rfl, hb0, c1, c2, c3, c4⟩ := hp.below B0.out
  have HC := Lib.hid fun W (hb : Below w.heap.size w W) => copied_gives q r W (HR.out.below hb) hl
  clear hr hp hb0
  generalize q.1.1 = a at *
  generalize q.1.2 = i at *
  generalize q.2.1 = n at *
  generalize q.2.2.1 = A at *
  generalize q.2.2.2.1 = m at *
  generalize q.2.2.2.2 = c at *
  clear HR
  go_enter Try.func30, Try.ntmps30
  go_wp2_with fail
  go_quiet (fail)
  generalize nq = n0
  go_wp2_with fail
  go_quiet (fail)
  have B1 := Lib.hid (below_drewN (n := n0 + nq) B0.out)
  have X1 := Lib.hid (show WBox ((w.alloc (.cells #[.int .i64 0, .int .i64 0, .int .i64 0, .slice none 0 0] 26)).drewN (n0 + nq)) w.heap.size 0 0 0 (.slice none 0 0) from X0.out)
  go_wp2_with fail
  (with_reducible refine (HC.out _ B1.out).mono ?_)
  rintro e w2 ⟨B, m', c', rfl, ho, hb⟩
  have B2 := Lib.hid (below_after B1.out hb (Nat.le_refl _))
  have X2 := Lib.hid (wbox_below X1.out hb)
  have O2 := Lib.hid (ho.mono (show w.heap.size + 1 ≤ _ by simp [World.drewN]))
  clear ho hb c1 c2 c3 c4
  obtain ⟨y1, y2, y3, y4⟩ := wbox_cells X2.out
  obtain ⟨f1, f2, f3, f4⟩ := wbox_free X2.out
  have X3 := Lib.hid (wbox_set X2.out r.1.1 r.1.2 r.2.1 (.slice B m' c'))
  have B3 := Lib.hid (below_set4 (g := w.heap.size) B2.out (Nat.le_refl _) (.int .i64 r.1.1) (.int .i64 r.1.2) (.int .i64 r.2.1) (.slice B m' c'))
  have O3 := Lib.hid (O2.out.grown (grown_set4 (World.grownBy.refl _ (some w.heap.size)) (.int .i64 r.1.1) (.int .i64 r.1.2) (.int .i64 r.2.1) (.slice B m' c')) (ownsR_ne O2.out (by omega)))
  go_wp2_with fail
  obtain ⟨q0, q1, q2, q3⟩ := wbox_cells X3.out
  refine bodyPost_ret (v := .agg #[.int .i64 r.1.1, .int .i64 r.1.2, .int .i64 r.2.1, .slice B m' c']) (by simp [results, Try.results30, go_sem, q0, q1, q2, q3]) rfl ?_
  exact ⟨B, m', c', rfl, O3.out.mono (by omega), B3.out⟩
set_option maxHeartbeats 4000000 in
theorem joined_more (px py : Option Addr) (r s : Row) (w : World) (h1 : PRow w px (some r)) (h2 : PRow w py (some s)) (hl : r.2.2.length ≤ 100000) (hv : s.2.1 < r.2.1) :
    Calls Try.prog 30 #[.pointer px, .pointer py] w (GivesRow r w) := by
  have B0 := Lib.hid (below_one w (.cells #[.int .i64 0, .int .i64 0, .int .i64 0, .slice none 0 0] 26))
  have X0 := Lib.hid (wbox_new w 0 0 0 (.slice none 0 0))
  obtain ⟨q, hp, hr⟩ := h1
  obtain ⟨q', hp', hr'⟩ := h2
  have HR := Lib.hid hr
  have e1 : q.2.1 = r.2.1 := hr.2.1
  have e2 : q'.2.1 = s.2.1 := hr'.2.1
  obtain ⟨ad, rfl, hb0, c1, c2, c3, c4⟩ := hp.below B0.out
  obtain ⟨ae, rfl, hb0', d1, d2, d3, d4⟩ := hp'.below B0.out
  have HC := Lib.hid fun W (hb : Below w.heap.size w W) => copied_gives q r W (HR.out.below hb) hl
  clear hr hp hb0 hr' hp' hb0' HR
  generalize q.1.1 = a1 at *
  generalize q.1.2 = i1 at *
  generalize q.2.1 = n1 at *
  generalize q.2.2.1 = A1 at *
  generalize q.2.2.2.1 = m1 at *
  generalize q.2.2.2.2 = k1 at *
  generalize q'.1.1 = a2 at *
  generalize q'.1.2 = i2 at *
  generalize q'.2.1 = n2 at *
  generalize q'.2.2.1 = A2 at *
  generalize q'.2.2.2.1 = m2 at *
  generalize q'.2.2.2.2 = k2 at *
  have hd : decide (n2 < n1) = true := decide_eq_true (by rw [e1, e2]; exact hv)
  clear e1 e2
  go_enter Try.func30, Try.ntmps30
  go_wp2_with fail
  go_quiet (fail)
  have B1 := Lib.hid (below_drewN (n := nq) B0.out)
  have X1 := Lib.hid (show WBox ((w.alloc (.cells #[.int .i64 0, .int .i64 0, .int .i64 0, .slice none 0 0] 26)).drewN nq) w.heap.size 0 0 0 (.slice none 0 0) from X0.out)
  go_wp2_with fail
  (with_reducible refine (HC.out _ B1.out).mono ?_)
  rintro e w2 ⟨B, m', c', rfl, ho, hb⟩
  have B2 := Lib.hid (below_after B1.out hb (Nat.le_refl _))
  have X2 := Lib.hid (wbox_below X1.out hb)
  have O2 := Lib.hid (ho.mono (show w.heap.size + 1 ≤ _ by simp [World.drewN]))
  clear ho hb c1 c2 c3 c4 d1 d2 d3 d4
  obtain ⟨y1, y2, y3, y4⟩ := wbox_cells X2.out
  obtain ⟨f1, f2, f3, f4⟩ := wbox_free X2.out
  have X3 := Lib.hid (wbox_set X2.out r.1.1 r.1.2 r.2.1 (.slice B m' c'))
  have B3 := Lib.hid (below_set4 (g := w.heap.size) B2.out (Nat.le_refl _) (.int .i64 r.1.1) (.int .i64 r.1.2) (.int .i64 r.2.1) (.slice B m' c'))
  have O3 := Lib.hid (O2.out.grown (grown_set4 (World.grownBy.refl _ (some w.heap.size)) (.int .i64 r.1.1) (.int .i64 r.1.2) (.int .i64 r.2.1) (.slice B m' c')) (ownsR_ne O2.out (by omega)))
  go_wp2_with fail
  obtain ⟨q0, q1, q2, q3⟩ := wbox_cells X3.out
  refine bodyPost_ret (v := .agg #[.int .i64 r.1.1, .int .i64 r.1.2, .int .i64 r.2.1, .slice B m' c']) (by simp [results, Try.results30, go_sem, q0, q1, q2, q3]) rfl ?_
  exact ⟨B, m', c', rfl, O3.out.mono (by omega), B3.out⟩
set_option maxHeartbeats 4000000 in
theorem joined_less (px py : Option Addr) (r s : Row) (w : World) (h1 : PRow w px (some s)) (h2 : PRow w py (some r)) (hl : r.2.2.length ≤ 100000) (hv : s.2.1 < r.2.1) :
    Calls Try.prog 30 #[.pointer px, .pointer py] w (GivesRow r w) := by
  have B0 := Lib.hid (below_one w (.cells #[.int .i64 0, .int .i64 0, .int .i64 0, .slice none 0 0] 26))
  have X0 := Lib.hid (wbox_new w 0 0 0 (.slice none 0 0))
  obtain ⟨q, hp, hr⟩ := h1
  obtain ⟨q', hp', hr'⟩ := h2
  have HR := Lib.hid hr'
  have e1 : q.2.1 = s.2.1 := hr.2.1
  have e2 : q'.2.1 = r.2.1 := hr'.2.1
  obtain ⟨ad, rfl, hb0, c1, c2, c3, c4⟩ := hp.below B0.out
  obtain ⟨ae, rfl, hb0', d1, d2, d3, d4⟩ := hp'.below B0.out
  have HC := Lib.hid fun W (hb : Below w.heap.size w W) => copied_gives q' r W (HR.out.below hb) hl
  clear hr hp hb0 hr' hp' hb0' HR
  generalize q.1.1 = a1 at *
  generalize q.1.2 = i1 at *
  generalize q.2.1 = n1 at *
  generalize q.2.2.1 = A1 at *
  generalize q.2.2.2.1 = m1 at *
  generalize q.2.2.2.2 = k1 at *
  generalize q'.1.1 = a2 at *
  generalize q'.1.2 = i2 at *
  generalize q'.2.1 = n2 at *
  generalize q'.2.2.1 = A2 at *
  generalize q'.2.2.2.1 = m2 at *
  generalize q'.2.2.2.2 = k2 at *
  have hd : decide (n2 < n1) = false := decide_eq_false (by rw [e1, e2]; omega)
  have hd2 : decide (n1 < n2) = true := decide_eq_true (by rw [e1, e2]; exact hv)
  clear e1 e2
  go_enter Try.func30, Try.ntmps30
  go_wp2_with fail
  go_quiet (fail)
  generalize nq = n0
  go_wp2_with fail
  go_quiet (fail)
  have B1 := Lib.hid (below_drewN (n := n0 + nq) B0.out)
  have X1 := Lib.hid (show WBox ((w.alloc (.cells #[.int .i64 0, .int .i64 0, .int .i64 0, .slice none 0 0] 26)).drewN (n0 + nq)) w.heap.size 0 0 0 (.slice none 0 0) from X0.out)
  go_wp2_with fail
  (with_reducible refine (HC.out _ B1.out).mono ?_)
  rintro e w2 ⟨B, m', c', rfl, ho, hb⟩
  have B2 := Lib.hid (below_after B1.out hb (Nat.le_refl _))
  have X2 := Lib.hid (wbox_below X1.out hb)
  have O2 := Lib.hid (ho.mono (show w.heap.size + 1 ≤ _ by simp [World.drewN]))
  clear ho hb c1 c2 c3 c4 d1 d2 d3 d4
  obtain ⟨y1, y2, y3, y4⟩ := wbox_cells X2.out
  obtain ⟨f1, f2, f3, f4⟩ := wbox_free X2.out
  have X3 := Lib.hid (wbox_set X2.out r.1.1 r.1.2 r.2.1 (.slice B m' c'))
  have B3 := Lib.hid (below_set4 (g := w.heap.size) B2.out (Nat.le_refl _) (.int .i64 r.1.1) (.int .i64 r.1.2) (.int .i64 r.2.1) (.slice B m' c'))
  have O3 := Lib.hid (O2.out.grown (grown_set4 (World.grownBy.refl _ (some w.heap.size)) (.int .i64 r.1.1) (.int .i64 r.1.2) (.int .i64 r.2.1) (.slice B m' c')) (ownsR_ne O2.out (by omega)))
  go_wp2_with fail
  obtain ⟨q0, q1, q2, q3⟩ := wbox_cells X3.out
  refine bodyPost_ret (v := .agg #[.int .i64 r.1.1, .int .i64 r.1.2, .int .i64 r.2.1, .slice B m' c']) (by simp [results, Try.results30, go_sem, q0, q1, q2, q3]) rfl ?_
  exact ⟨B, m', c', rfl, O3.out.mono (by omega), B3.out⟩
set_option maxHeartbeats 4000000 in
theorem joined_equal (px py : Option Addr) (r s : Row) (w : World) (h1 : PRow w px (some r)) (h2 : PRow w py (some s)) (hl : r.2.2.length ≤ 20000) (hl2 : s.2.2.length ≤ 20000) (hv : s.2.1 = r.2.1) :
    Calls Try.prog 30 #[.pointer px, .pointer py] w (GivesRow ((r.1.1, r.1.2), r.2.1, join r.2.2 s.2.2) w) := by
  have B0 := Lib.hid (below_one w (.cells #[.int .i64 0, .int .i64 0, .int .i64 0, .slice none 0 0] 26))
  have X0 := Lib.hid (wbox_new w 0 0 0 (.slice none 0 0))
  obtain ⟨q, hp, hr⟩ := h1
  obtain ⟨q', hp', hr'⟩ := h2
  have HR := Lib.hid hr
  have HR' := Lib.hid hr'
  have e1 : q.2.1 = r.2.1 := hr.2.1
  have e2 : q'.2.1 = r.2.1 := by rw [hr'.2.1, hv]
  have e3 : q.1.1 = r.1.1 := by rw [hr.1]
  have e4 : q.1.2 = r.1.2 := by rw [hr.1]
  have HP := Lib.hid hp
  have HP' := Lib.hid hp'
  obtain ⟨ad, rfl, hb0, c1, c2, c3, c4⟩ := hp.below B0.out
  obtain ⟨ae, rfl, hb0', d1, d2, d3, d4⟩ := hp'.below B0.out
  have HS := Lib.hid fun w' (hb : Below w.heap.size w w') => And.intro (HP.out.below hb) (And.intro (HP'.out.below hb) (Lib.hid hb))
  have HC := Lib.hid fun W (hb : Below w.heap.size w W) => join_new (.slice q.2.2.1 q.2.2.2.1 q.2.2.2.2) (.slice q'.2.2.1 q'.2.2.2.1 q'.2.2.2.2) r.2.2 s.2.2 W (show Ids W _ _ from HR.out.2.2.below hb) (show Ids W _ _ from HR'.out.2.2.below hb) (by omega) (by omega)
  clear hr hp hb0 hr' hp' hb0' HR HR'
  rw [e1] at c3
  rw [e2] at d3
  rw [e3] at c1
  rw [e4] at c2
  have HF := Lib.hid fun w' (hb : Below w.heap.size w w') => (show (w'.cell? ad = some (.int .i64 r.1.1) ∧ w'.cell? ⟨ad.block, ad.off + 1, none⟩ = some (.int .i64 r.1.2) ∧ w'.cell? ⟨ad.block, ad.off + 2, none⟩ = some (.int .i64 r.2.1) ∧ w'.cell? ⟨ad.block, ad.off + 3, none⟩ = some (.slice q.2.2.1 q.2.2.2.1 q.2.2.2.2)) ∧ (w'.cell? ae = some (.int .i64 q'.1.1) ∧ w'.cell? ⟨ae.block, ae.off + 1, none⟩ = some (.int .i64 q'.1.2) ∧ w'.cell? ⟨ae.block, ae.off + 2, none⟩ = some (.int .i64 r.2.1) ∧ w'.cell? ⟨ae.block, ae.off + 3, none⟩ = some (.slice q'.2.2.1 q'.2.2.2.1 q'.2.2.2.2)) ∧ Hid (Below w.heap.size w w') from by
    obtain ⟨⟨x, ex, _, x1, x2, x3, x4⟩, ⟨y, ey, _, y1, y2, y3, y4⟩, hh⟩ := HS.out w' hb
    injection ex with ex
    injection ey with ey
    subst ex ey
    rw [← e1, ← e3, ← e4]
    refine ⟨⟨x1, x2, x3, x4⟩, ⟨y1, y2, ?_, y4⟩, hh⟩
    rw [e1, ← e2]
    exact y3)
  clear HS HP HP' e1 e2 e3 e4
  generalize q.2.2.1 = A1 at *
  generalize q.2.2.2.1 = m1 at *
  generalize q.2.2.2.2 = k1 at *
  generalize q'.1.1 = a2 at *
  generalize q'.1.2 = i2 at *
  generalize q'.2.2.1 = A2 at *
  generalize q'.2.2.2.1 = m2 at *
  generalize q'.2.2.2.2 = k2 at *
  generalize r.1.1 = a1 at *
  generalize r.1.2 = i1 at *
  generalize r.2.1 = n at *
  have hd : decide (n < n) = false := decide_eq_false (by omega)
  go_enter Try.func30, Try.ntmps30
  go_wp2_with fail
  go_quiet (fail)
  generalize nq = n0
  go_wp2_with fail
  go_quiet (fail)
  have B1 := Lib.hid (below_drewN (n := nq) (below_drewN (n := n0) B0.out))
  have X1 := Lib.hid (show WBox (((w.alloc (.cells #[.int .i64 0, .int .i64 0, .int .i64 0, .slice none 0 0] 26)).drewN n0).drewN nq) w.heap.size 0 0 0 (.slice none 0 0) from X0.out)
  have Z1 := Lib.hid (show w.heap.size + 1 ≤ (((w.alloc (.cells #[.int .i64 0, .int .i64 0, .int .i64 0, .slice none 0 0] 26)).drewN n0).drewN nq).heap.size by simp [World.drewN])
  go_wp2_with fail
  refine wp_region_held_drew (S := fun w' => (w'.cell? ad = some (.int .i64 a1) ∧ w'.cell? ⟨ad.block, ad.off + 1, none⟩ = some (.int .i64 i1) ∧ w'.cell? ⟨ad.block, ad.off + 2, none⟩ = some (.int .i64 n) ∧ w'.cell? ⟨ad.block, ad.off + 3, none⟩ = some (.slice A1 m1 k1)) ∧ (w'.cell? ae = some (.int .i64 a2) ∧ w'.cell? ⟨ae.block, ae.off + 1, none⟩ = some (.int .i64 i2) ∧ w'.cell? ⟨ae.block, ae.off + 2, none⟩ = some (.int .i64 n) ∧ w'.cell? ⟨ae.block, ae.off + 3, none⟩ = some (.slice A2 m2 k2)) ∧ Hid (Below w.heap.size w w')) (by kernel_rfl) ?_ (fun hHeld => ?_)
  · exact HF.out _ B1.out.drew
  (refine wpAnyH_take (i := 0) (oi := ⟨_, _, _, _, _, _⟩) (v := ?_) rfl (by kernel_rfl) (by kernel_rfl) (by kernel_rfl) (fun _ _ _ h => h) (Or.inl ⟨by rfl, ?_⟩) (by assumption) ?_; rotate_left 1; · (intro w hSw; (try dsimp only at hSw); go_simp; all_goals with_reducible rfl))
  try simp only [Act.put, List.setIfInBounds_toArray, List.set_cons_zero, List.set_cons_succ]
  (refine wpAnyH_take (i := 1) (oi := ⟨_, _, _, _, _, _⟩) (v := ?_) rfl (by kernel_rfl) (by kernel_rfl) (by kernel_rfl) (fun _ _ _ h => h) (Or.inl ⟨by rfl, ?_⟩) (by assumption) ?_; rotate_left 1; · (intro w hSw; (try dsimp only at hSw); go_simp; all_goals with_reducible rfl))
  try simp only [Act.put, List.setIfInBounds_toArray, List.set_cons_zero, List.set_cons_succ]
  (refine wpAnyH_take (i := 2) (oi := ⟨_, _, _, _, _, _⟩) (v := ?_) rfl (by kernel_rfl) (by kernel_rfl) (by kernel_rfl) (fun _ _ _ h => h) (Or.inl ⟨by rfl, ?_⟩) (by assumption) ?_; rotate_left 1; · (intro w hSw; (try dsimp only at hSw); go_simp; all_goals with_reducible rfl))
  try simp only [Act.put, List.setIfInBounds_toArray, List.set_cons_zero, List.set_cons_succ]
  (refine wpAnyH_take (i := 3) (oi := ⟨_, _, _, _, _, _⟩) (v := ?_) rfl (by kernel_rfl) (by kernel_rfl) (by kernel_rfl) (fun _ _ _ h => h) (Or.inl ⟨by rfl, ?_⟩) (by assumption) ?_; rotate_left 1; · (intro w hSw; (try dsimp only at hSw); go_simp; all_goals with_reducible rfl))
  try simp only [Act.put, List.setIfInBounds_toArray, List.set_cons_zero, List.set_cons_succ]
  (refine wpAnyH_take (i := 4) (oi := ⟨_, _, _, _, _, _⟩) (v := ?_) rfl (by kernel_rfl) (by kernel_rfl) (by kernel_rfl) (fun _ _ _ h => h) (Or.inl ⟨by rfl, ?_⟩) (by assumption) ?_; rotate_left 1; · (intro w hSw; (try dsimp only at hSw); go_simp; all_goals with_reducible rfl))
  try simp only [Act.put, List.setIfInBounds_toArray, List.set_cons_zero, List.set_cons_succ]
  (refine wpAnyH_take (i := 5) (oi := ⟨_, _, _, _, _, _⟩) (v := ?_) rfl (by kernel_rfl) (by kernel_rfl) (by kernel_rfl) (fun _ _ _ h => h) (Or.inl ⟨by rfl, ?_⟩) (by assumption) ?_; rotate_left 1; · (intro w hSw; (try dsimp only at hSw); go_simp; all_goals with_reducible rfl))
  try simp only [Act.put, List.setIfInBounds_toArray, List.set_cons_zero, List.set_cons_succ]
  (refine wpAnyH_take (i := 6) (oi := ⟨_, _, _, _, _, _⟩) (v := ?_) rfl (by kernel_rfl) (by kernel_rfl) (by kernel_rfl) (fun _ _ _ h => h) (Or.inl ⟨by rfl, ?_⟩) (by assumption) ?_; rotate_left 1; · (intro w hSw; (try dsimp only at hSw); go_simp; all_goals with_reducible rfl))
  try simp only [Act.put, List.setIfInBounds_toArray, List.set_cons_zero, List.set_cons_succ]
  (refine wpAnyH_take (i := 7) (oi := ⟨_, _, _, _, _, _⟩) (v := ?_) rfl (by kernel_rfl) (by kernel_rfl) (by kernel_rfl) (fun _ _ _ h => h) (Or.inl ⟨by rfl, ?_⟩) (by assumption) ?_; rotate_left 1; · (intro w hSw; (try dsimp only at hSw); go_simp; all_goals with_reducible rfl))
  try simp only [Act.put, List.setIfInBounds_toArray, List.set_cons_zero, List.set_cons_succ]
  (refine wpAnyH_take (i := 8) (oi := ⟨_, _, _, _, _, _⟩) (v := ?_) rfl (by kernel_rfl) (by kernel_rfl) (by kernel_rfl) (fun _ _ _ h => h) (Or.inl ⟨by rfl, ?_⟩) (by assumption) ?_; rotate_left 1; · (intro w hSw; (try dsimp only at hSw); go_simp; all_goals with_reducible rfl))
  try simp only [Act.put, List.setIfInBounds_toArray, List.set_cons_zero, List.set_cons_succ]
  (refine wpAnyH_take (i := 9) (oi := ⟨_, _, _, _, _, _⟩) (v := ?_) rfl (by kernel_rfl) (by kernel_rfl) (by kernel_rfl) (fun _ _ _ h => h) (Or.inl ⟨by rfl, ?_⟩) (by assumption) ?_; rotate_left 1; · (intro w hSw; (try dsimp only at hSw); go_simp; all_goals with_reducible rfl))
  try simp only [Act.put, List.setIfInBounds_toArray, List.set_cons_zero, List.set_cons_succ]
  (refine wpAnyH_take (i := 10) (oi := ⟨_, _, _, _, _, _⟩) (v := ?_) rfl (by kernel_rfl) (by kernel_rfl) (by kernel_rfl) (fun _ _ _ h => h) (Or.inl ⟨by rfl, ?_⟩) (by assumption) ?_; rotate_left 1; · (intro w hSw; (try dsimp only at hSw); go_simp; all_goals with_reducible rfl))
  try simp only [Act.put, List.setIfInBounds_toArray, List.set_cons_zero, List.set_cons_succ]
  (refine wpAnyH_take (i := 11) (oi := ⟨_, _, _, _, _, _⟩) (v := ?_) rfl (by kernel_rfl) (by kernel_rfl) (by kernel_rfl) (fun _ _ _ h => h) (Or.inl ⟨by rfl, ?_⟩) (by assumption) ?_; rotate_left 1; · (intro w hSw; (try dsimp only at hSw); go_simp; all_goals with_reducible rfl))
  try simp only [Act.put, List.setIfInBounds_toArray, List.set_cons_zero, List.set_cons_succ]
  (refine wpAnyH_take (i := 12) (oi := ⟨_, _, _, _, _, _⟩) (v := ?_) rfl (by kernel_rfl) (by kernel_rfl) (by kernel_rfl) (fun _ _ _ h => h) (Or.inl ⟨by rfl, ?_⟩) (by assumption) ?_; rotate_left 1; · (intro w hSw; (try dsimp only at hSw); go_simp; all_goals with_reducible rfl))
  try simp only [Act.put, List.setIfInBounds_toArray, List.set_cons_zero, List.set_cons_succ]
  (refine wpAnyH_take (i := 13) (oi := ⟨_, _, _, _, _, _⟩) (v := ?_) rfl (by kernel_rfl) (by kernel_rfl) (by kernel_rfl) (fun _ _ _ h => h) (Or.inl ⟨by rfl, ?_⟩) (by assumption) ?_; rotate_left 1; · (intro w hSw; (try dsimp only at hSw); go_simp; all_goals with_reducible rfl))
  try simp only [Act.put, List.setIfInBounds_toArray, List.set_cons_zero, List.set_cons_succ]
  (refine wpAnyH_take (i := 14) (oi := ⟨_, _, _, _, _, _⟩) (v := ?_) rfl (by kernel_rfl) (by kernel_rfl) (by kernel_rfl) (fun _ _ _ h => h) (Or.inl ⟨by rfl, ?_⟩) (by assumption) ?_; rotate_left 1; · (intro w hSw; (try dsimp only at hSw); go_simp; all_goals with_reducible rfl))
  try simp only [Act.put, List.setIfInBounds_toArray, List.set_cons_zero, List.set_cons_succ]
  (refine wpAnyH_take (i := 15) (oi := ⟨_, _, _, _, _, _⟩) (v := ?_) rfl (by kernel_rfl) (by kernel_rfl) (by kernel_rfl) (fun _ _ _ h => h) (Or.inl ⟨by rfl, ?_⟩) (by assumption) ?_; rotate_left 1; · (intro w hSw; (try dsimp only at hSw); go_simp; all_goals with_reducible rfl))
  try simp only [Act.put, List.setIfInBounds_toArray, List.set_cons_zero, List.set_cons_succ]
  refine wpAnyH_ready (rs := [16]) (by kernel_rfl) (by simp) ?_
  refine AllReadyH.cons (o := ⟨_, _, _, _, _, _⟩) rfl (fun Kq hKq => ?_) AllReadyH.nil
  go_simp
  clear hHeld
  go_at_call 53; (with_reducible refine (HC.out _ (below_drewN (n := n0 + nq + 1) B0.out)).mono ?_); rintro e w2 ⟨v2, rfl, ho, hb⟩; have B2 := Lib.hid (below_after (below_drewN (n := n0 + nq + 1) B0.out) hb (Nat.le_refl _)); have X2 := Lib.hid (wbox_below (show WBox ((w.alloc (.cells #[.int .i64 0, .int .i64 0, .int .i64 0, .slice none 0 0] 26)).drewN (n0 + nq + 1)) w.heap.size 0 0 0 (.slice none 0 0) from X0.out) hb); have O2 := Lib.hid ((ownsI_of ho).mono (show w.heap.size + 1 ≤ _ by simp [World.drewN])); have HK := Lib.hid B2.out; clear hb ho; obtain ⟨B, m', c', rfl⟩ := slice_of_owns O2.out
  refine hKq.out _ _ ?_ (fun hHeld => ?_)
  · (try dsimp only); exact HF.out _ HK.out
  clear hKq Kq
  try simp only [Act.put, List.setIfInBounds_toArray, List.set_cons_zero, List.set_cons_succ]
  (refine wpAnyH_take (i := 17) (oi := ⟨_, _, _, _, _, _⟩) (v := ?_) rfl (by kernel_rfl) (by kernel_rfl) (by kernel_rfl) (fun _ _ _ h => h) (Or.inl ⟨by rfl, ?_⟩) (by assumption) ?_; rotate_left 1; · (intro w hSw; (try dsimp only at hSw); go_simp; all_goals with_reducible rfl))
  try simp only [Act.put, List.setIfInBounds_toArray, List.set_cons_zero, List.set_cons_succ]
  refine wpAnyH_ready (rs := [18]) (by kernel_rfl) (by simp) ?_
  refine AllReadyH.cons (o := ⟨_, _, _, _, _, _⟩) rfl (fun Kq hKq => ?_) AllReadyH.nil
  obtain ⟨y1, y2, y3, y4⟩ := wbox_cells X2.out
  obtain ⟨f1, f2, f3, f4⟩ := wbox_free X2.out
  go_simp
  clear hHeld
  have X3 := Lib.hid (wbox_set X2.out a1 i1 n (.slice B m' c')); have B3 := Lib.hid (below_set4 (g := w.heap.size) B2.out (Nat.le_refl _) (.int .i64 a1) (.int .i64 i1) (.int .i64 n) (.slice B m' c')); have O3 := Lib.hid (O2.out.grown (grown_set4 (World.grownBy.refl _ (some w.heap.size)) (.int .i64 a1) (.int .i64 i1) (.int .i64 n) (.slice B m' c')) (ownsR_ne O2.out (by omega))); have HK := Lib.hid B3.out; clear y1 y2 y3 y4 f1 f2 f3 f4
  refine hKq.out _ _ ?_ (fun hHeld => ?_)
  · (try dsimp only); exact HF.out _ HK.out
  clear hKq Kq
  try simp only [Act.put, List.setIfInBounds_toArray, List.set_cons_zero, List.set_cons_succ]
  refine wpAnyH_done (by kernel_rfl) ?_ _
  go_wp2_with fail
  obtain ⟨q0, q1, q2, q3⟩ := wbox_cells X3.out
  refine bodyPost_ret (v := .agg #[.int .i64 a1, .int .i64 i1, .int .i64 n, .slice B m' c']) (by simp [results, Try.results30, go_sem, q0, q1, q2, q3]) rfl ?_
  exact ⟨B, m', c', rfl, O3.out.mono (by omega), B3.out⟩
end Go.Proofs.Ytofanciaacdjfaa
