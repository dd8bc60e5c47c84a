/-
  Carried over and put together: contracts of this program's functions, and plain facts. No statement is proved in this text.
-/
import Derived.Test.YtjlnnmjhbccdoaaGreatOz
import Derived.Test.YtjlnnmjhbccdoaaGreatO17
set_option maxRecDepth 20000
namespace Go.Proofs.YtjlnnmjhbccdoaaGreat
open Go Go.RowKit Sets RowSets
def PRaw (w : World) (p : Option Addr) (q : Raw) : Prop := ∃ ad, p = some ad ∧ ad.block < w.heap.size ∧ w.cell? ad = some (.int .i64 q.1.1) ∧ w.cell? ⟨ad.block, ad.off + 1, none⟩ = some (.int .i64 q.1.2) ∧ w.cell? ⟨ad.block, ad.off + 2, none⟩ = some (.int .i64 q.2.1) ∧ w.cell? ⟨ad.block, ad.off + 3, none⟩ = some (.slice q.2.2.1 q.2.2.2.1 q.2.2.2.2)
theorem PRaw.below {w w' : World} {p : Option Addr} {q : Raw} (h : PRaw w p q) (hb : Below w.heap.size w w') : PRaw w' p q := by
 obtain ⟨ad, rfl, h1, c1, c2, c3, c4⟩ := h
 exact ⟨ad, rfl, Nat.lt_of_lt_of_le h1 hb.size, (hb.cell h1).trans c1, (hb.cell (by show ad.block < _; exact h1)).trans c2, (hb.cell (by show ad.block < _; exact h1)).trans c3, (hb.cell (by show ad.block < _; exact h1)).trans c4⟩
def PRow (w : World) (p : Option Addr) : Option Row → Prop
 | none => p = none
 | some r => ∃ q, PRaw w p q ∧ Reads w q r
theorem PRow.below {w w' : World} {p : Option Addr} {o : Option Row} (h : PRow w p o) (hb : Below w.heap.size w w') : PRow w' p o := by
 cases o with
 | none => exact h
 | some r =>
  obtain ⟨q, h1, h2⟩ := h
  exact ⟨q, h1.below hb, h2.below hb⟩
def GivesRow (r : Row) (w : World) (e : Ending) (w' : World) : Prop := ∃ B m c, e = .returned (.agg #[.int .i64 r.1.1, .int .i64 r.1.2, .int .i64 r.2.1, .slice B m c]) ∧ OwnsI w' w.heap.size (.slice B m c) r.2.2 ∧ Below w.heap.size w w'
theorem copied_gives (q : Raw) (r : Row) (w : World) (h : Reads w q r) (hl : r.2.2.length ≤ 100000) :
  Calls Tryz.prog 143 #[.agg #[.int .i64 q.1.1, .int .i64 q.1.2, .int .i64 q.2.1, .slice q.2.2.1 q.2.2.2.1 q.2.2.2.2]] w fun e w' => ∃ B m c, e = .returned (.agg #[.int .i64 r.1.1, .int .i64 r.1.2, .int .i64 r.2.1, .slice B m c]) ∧ OwnsI w' w.heap.size (.slice B m c) r.2.2 ∧ Below w.heap.size w w' := by
 rw [← h.1, ← h.2.1]
 exact copied_any q.1.1 q.1.2 q.2.1 q.2.2.1 q.2.2.2.1 q.2.2.2.2 r.2.2 w h.2.2 hl
set_option maxHeartbeats 2000000 in
theorem joined_left (px : Option Addr) (r : Row) (w : World) (h1 : PRow w px (some r)) (hl : r.2.2.length ≤ 100000) :
  Calls Tryz.prog 117 #[.pointer px, .pointer none] w (GivesRow r w) := by
 have B0 := Lib.hid (below_one w (.cells #[.int .i64 0, .int .i64 0, .int .i64 0, .slice none 0 0] 46))
 have X0 := Lib.hid (wbox_new w 0 0 0 (.slice none 0 0))
 obtain ⟨q, hp, hr⟩ := h1
 have HR := Lib.hid hr
 obtain ⟨ad, rfl, hb0, c1, c2, c3, c4⟩ := hp.below B0.out
 have HC := Lib.hid fun W (hb : Below w.heap.size w W) => copied_gives q r W (HR.out.below hb) hl
 clear hr hp hb0
 generalize q.1.1 = a at *
 generalize q.1.2 = i at *
 generalize q.2.1 = n at *
 generalize q.2.2.1 = A at *
 generalize q.2.2.2.1 = m at *
 generalize q.2.2.2.2 = c at *
 clear HR
 go_enter Tryz.func117, Tryz.ntmps117
 go_wp2_with fail
 go_quiet (fail)
 have B1 := Lib.hid (below_drewN (n := nq) B0.out)
 have X1 := Lib.hid (show WBox ((w.alloc (.cells #[.int .i64 0, .int .i64 0, .int .i64 0, .slice none 0 0] 46)).drewN nq) w.heap.size 0 0 0 (.slice none 0 0) from X0.out)
 go_wp2_with fail
 (with_reducible refine (HC.out _ B1.out).mono ?_)
 rintro e w2 ⟨B, m', c', rfl, ho, hb⟩
 have B2 := Lib.hid (below_after B1.out hb (Nat.le_refl _))
 have X2 := Lib.hid (wbox_below X1.out hb)
 have O2 := Lib.hid (ho.mono (show w.heap.size + 1 ≤ _ by simp [World.drewN]))
 clear ho hb c1 c2 c3 c4
 obtain ⟨y1, y2, y3, y4⟩ := wbox_cells X2.out
 obtain ⟨f1, f2, f3, f4⟩ := wbox_free X2.out
 have X3 := Lib.hid (wbox_set X2.out r.1.1 r.1.2 r.2.1 (.slice B m' c'))
 have B3 := Lib.hid (below_set4 (g := w.heap.size) B2.out (Nat.le_refl _) (.int .i64 r.1.1) (.int .i64 r.1.2) (.int .i64 r.2.1) (.slice B m' c'))
 have O3 := Lib.hid (O2.out.grown (grown_set4 (World.grownBy.refl _ (some w.heap.size)) (.int .i64 r.1.1) (.int .i64 r.1.2) (.int .i64 r.2.1) (.slice B m' c')) (ownsR_ne O2.out (by omega)))
 go_wp2_with fail
 obtain ⟨q0, q1, q2, q3⟩ := wbox_cells X3.out
 refine bodyPost_ret (v := .agg #[.int .i64 r.1.1, .int .i64 r.1.2, .int .i64 r.2.1, .slice B m' c']) (by simp [results, Tryz.results117, go_sem, q0, q1, q2, q3]) rfl ?_
 exact ⟨B, m', c', rfl, O3.out.mono (by omega), B3.out⟩
set_option maxHeartbeats 2000000 in
theorem joined_right (px : Option Addr) (r : Row) (w : World) (h1 : PRow w px (some r)) (hl : r.2.2.length ≤ 100000) :
  Calls Tryz.prog 117 #[.pointer none, .pointer px] w (GivesRow r w) := by
 have B0 := Lib.hid (below_one w (.cells #[.int .i64 0, .int .i64 0, .int .i64 0, .slice none 0 0] 46))
 have X0 := Lib.hid (wbox_new w 0 0 0 (.slice none 0 0))
 obtain ⟨q, hp, hr⟩ := h1
 have HR := Lib.hid hr
 obtain ⟨ad, rfl, hb0, c1, c2, c3, c4⟩ := hp.below B0.out
 have HC := Lib.hid fun W (hb : Below w.heap.size w W) => copied_gives q r W (HR.out.below hb) hl
 clear hr hp hb0
 generalize q.1.1 = a at *
 generalize q.1.2 = i at *
 generalize q.2.1 = n at *
 generalize q.2.2.1 = A at *
 generalize q.2.2.2.1 = m at *
 generalize q.2.2.2.2 = c at *
 clear HR
 go_enter Tryz.func117, Tryz.ntmps117
 go_wp2_with fail
 go_quiet (fail)
 generalize nq = n0
 go_wp2_with fail
 go_quiet (fail)
 have B1 := Lib.hid (below_drewN (n := n0 + nq) B0.out)
 have X1 := Lib.hid (show WBox ((w.alloc (.cells #[.int .i64 0, .int .i64 0, .int .i64 0, .slice none 0 0] 46)).drewN (n0 + nq)) w.heap.size 0 0 0 (.slice none 0 0) from X0.out)
 go_wp2_with fail
 (with_reducible refine (HC.out _ B1.out).mono ?_)
 rintro e w2 ⟨B, m', c', rfl, ho, hb⟩
 have B2 := Lib.hid (below_after B1.out hb (Nat.le_refl _))
 have X2 := Lib.hid (wbox_below X1.out hb)
 have O2 := Lib.hid (ho.mono (show w.heap.size + 1 ≤ _ by simp [World.drewN]))
 clear ho hb c1 c2 c3 c4
 obtain ⟨y1, y2, y3, y4⟩ := wbox_cells X2.out
 obtain ⟨f1, f2, f3, f4⟩ := wbox_free X2.out
 have X3 := Lib.hid (wbox_set X2.out r.1.1 r.1.2 r.2.1 (.slice B m' c'))
 have B3 := Lib.hid (below_set4 (g := w.heap.size) B2.out (Nat.le_refl _) (.int .i64 r.1.1) (.int .i64 r.1.2) (.int .i64 r.2.1) (.slice B m' c'))
 have O3 := Lib.hid (O2.out.grown (grown_set4 (World.grownBy.refl _ (some w.heap.size)) (.int .i64 r.1.1) (.int .i64 r.1.2) (.int .i64 r.2.1) (.slice B m' c')) (ownsR_ne O2.out (by omega)))
 go_wp2_with fail
 obtain ⟨q0, q1, q2, q3⟩ := wbox_cells X3.out
 refine bodyPost_ret (v := .agg #[.int .i64 r.1.1, .int .i64 r.1.2, .int .i64 r.2.1, .slice B m' c']) (by simp [results, Tryz.results117, go_sem, q0, q1, q2, q3]) rfl ?_
 exact ⟨B, m', c', rfl, O3.out.mono (by omega), B3.out⟩
set_option maxHeartbeats 4000000 in
theorem joined_more (px py : Option Addr) (r s : Row) (w : World) (h1 : PRow w px (some r)) (h2 : PRow w py (some s)) (hl : r.2.2.length ≤ 100000) (hv : s.2.1 < r.2.1) :
  Calls Tryz.prog 117 #[.pointer px, .pointer py] w (GivesRow r w) := by
 have B0 := Lib.hid (below_one w (.cells #[.int .i64 0, .int .i64 0, .int .i64 0, .slice none 0 0] 46))
 have X0 := Lib.hid (wbox_new w 0 0 0 (.slice none 0 0))
 obtain ⟨q, hp, hr⟩ := h1
 obtain ⟨q', hp', hr'⟩ := h2
 have HR := Lib.hid hr
 have e1 : q.2.1 = r.2.1 := hr.2.1
 have e2 : q'.2.1 = s.2.1 := hr'.2.1
 obtain ⟨ad, rfl, hb0, c1, c2, c3, c4⟩ := hp.below B0.out
 obtain ⟨ae, rfl, hb0', d1, d2, d3, d4⟩ := hp'.below B0.out
 have HC := Lib.hid fun W (hb : Below w.heap.size w W) => copied_gives q r W (HR.out.below hb) hl
 clear hr hp hb0 hr' hp' hb0' HR
 generalize q.1.1 = a1 at *
 generalize q.1.2 = i1 at *
 generalize q.2.1 = n1 at *
 generalize q.2.2.1 = A1 at *
 generalize q.2.2.2.1 = m1 at *
 generalize q.2.2.2.2 = k1 at *
 generalize q'.1.1 = a2 at *
 generalize q'.1.2 = i2 at *
 generalize q'.2.1 = n2 at *
 generalize q'.2.2.1 = A2 at *
 generalize q'.2.2.2.1 = m2 at *
 generalize q'.2.2.2.2 = k2 at *
 have hd : decide (n2 < n1) = true := decide_eq_true (by rw [e1, e2]; exact hv)
 clear e1 e2
 go_enter Tryz.func117, Tryz.ntmps117
 go_wp2_with fail
 go_quiet (fail)
 have B1 := Lib.hid (below_drewN (n := nq) B0.out)
 have X1 := Lib.hid (show WBox ((w.alloc (.cells #[.int .i64 0, .int .i64 0, .int .i64 0, .slice none 0 0] 46)).drewN nq) w.heap.size 0 0 0 (.slice none 0 0) from X0.out)
 go_wp2_with fail
 (with_reducible refine (HC.out _ B1.out).mono ?_)
 rintro e w2 ⟨B, m', c', rfl, ho, hb⟩
 have B2 := Lib.hid (below_after B1.out hb (Nat.le_refl _))
 have X2 := Lib.hid (wbox_below X1.out hb)
 have O2 := Lib.hid (ho.mono (show w.heap.size + 1 ≤ _ by simp [World.drewN]))
 clear ho hb c1 c2 c3 c4 d1 d2 d3 d4
 obtain ⟨y1, y2, y3, y4⟩ := wbox_cells X2.out
 obtain ⟨f1, f2, f3, f4⟩ := wbox_free X2.out
 have X3 := Lib.hid (wbox_set X2.out r.1.1 r.1.2 r.2.1 (.slice B m' c'))
 have B3 := Lib.hid (below_set4 (g := w.heap.size) B2.out (Nat.le_refl _) (.int .i64 r.1.1) (.int .i64 r.1.2) (.int .i64 r.2.1) (.slice B m' c'))
 have O3 := Lib.hid (O2.out.grown (grown_set4 (World.grownBy.refl _ (some w.heap.size)) (.int .i64 r.1.1) (.int .i64 r.1.2) (.int .i64 r.2.1) (.slice B m' c')) (ownsR_ne O2.out (by omega)))
 go_wp2_with fail
 obtain ⟨q0, q1, q2, q3⟩ := wbox_cells X3.out
 refine bodyPost_ret (v := .agg #[.int .i64 r.1.1, .int .i64 r.1.2, .int .i64 r.2.1, .slice B m' c']) (by simp [results, Tryz.results117, go_sem, q0, q1, q2, q3]) rfl ?_
 exact ⟨B, m', c', rfl, O3.out.mono (by omega), B3.out⟩
set_option maxHeartbeats 4000000 in
theorem joined_less (px py : Option Addr) (r s : Row) (w : World) (h1 : PRow w px (some s)) (h2 : PRow w py (some r)) (hl : r.2.2.length ≤ 100000) (hv : s.2.1 < r.2.1) :
  Calls Tryz.prog 117 #[.pointer px, .pointer py] w (GivesRow r w) := by
 have B0 := Lib.hid (below_one w (.cells #[.int .i64 0, .int .i64 0, .int .i64 0, .slice none 0 0] 46))
 have X0 := Lib.hid (wbox_new w 0 0 0 (.slice none 0 0))
 obtain ⟨q, hp, hr⟩ := h1
 obtain ⟨q', hp', hr'⟩ := h2
 have HR := Lib.hid hr'
 have e1 : q.2.1 = s.2.1 := hr.2.1
 have e2 : q'.2.1 = r.2.1 := hr'.2.1
 obtain ⟨ad, rfl, hb0, c1, c2, c3, c4⟩ := hp.below B0.out
 obtain ⟨ae, rfl, hb0', d1, d2, d3, d4⟩ := hp'.below B0.out
 have HC := Lib.hid fun W (hb : Below w.heap.size w W) => copied_gives q' r W (HR.out.below hb) hl
 clear hr hp hb0 hr' hp' hb0' HR
 generalize q.1.1 = a1 at *
 generalize q.1.2 = i1 at *
 generalize q.2.1 = n1 at *
 generalize q.2.2.1 = A1 at *
 generalize q.2.2.2.1 = m1 at *
 generalize q.2.2.2.2 = k1 at *
 generalize q'.1.1 = a2 at *
 generalize q'.1.2 = i2 at *
 generalize q'.2.1 = n2 at *
 generalize q'.2.2.1 = A2 at *
 generalize q'.2.2.2.1 = m2 at *
 generalize q'.2.2.2.2 = k2 at *
 have hd : decide (n2 < n1) = false := decide_eq_false (by rw [e1, e2]; omega)
 have hd2 : decide (n1 < n2) = true := decide_eq_true (by rw [e1, e2]; exact hv)
 clear e1 e2
 go_enter Tryz.func117, Tryz.ntmps117
 go_wp2_with fail
 go_quiet (fail)
 generalize nq = n0
 go_wp2_with fail
 go_quiet (fail)
 have B1 := Lib.hid (below_drewN (n := n0 + nq) B0.out)
 have X1 := Lib.hid (show WBox ((w.alloc (.cells #[.int .i64 0, .int .i64 0, .int .i64 0, .slice none 0 0] 46)).drewN (n0 + nq)) w.heap.size 0 0 0 (.slice none 0 0) from X0.out)
 go_wp2_with fail
 (with_reducible refine (HC.out _ B1.out).mono ?_)
 rintro e w2 ⟨B, m', c', rfl, ho, hb⟩
 have B2 := Lib.hid (below_after B1.out hb (Nat.le_refl _))
 have X2 := Lib.hid (wbox_below X1.out hb)
 have O2 := Lib.hid (ho.mono (show w.heap.size + 1 ≤ _ by simp [World.drewN]))
 clear ho hb c1 c2 c3 c4 d1 d2 d3 d4
 obtain ⟨y1, y2, y3, y4⟩ := wbox_cells X2.out
 obtain ⟨f1, f2, f3, f4⟩ := wbox_free X2.out
 have X3 := Lib.hid (wbox_set X2.out r.1.1 r.1.2 r.2.1 (.slice B m' c'))
 have B3 := Lib.hid (below_set4 (g := w.heap.size) B2.out (Nat.le_refl _) (.int .i64 r.1.1) (.int .i64 r.1.2) (.int .i64 r.2.1) (.slice B m' c'))
 have O3 := Lib.hid (O2.out.grown (grown_set4 (World.grownBy.refl _ (some w.heap.size)) (.int .i64 r.1.1) (.int .i64 r.1.2) (.int .i64 r.2.1) (.slice B m' c')) (ownsR_ne O2.out (by omega)))
 go_wp2_with fail
 obtain ⟨q0, q1, q2, q3⟩ := wbox_cells X3.out
 refine bodyPost_ret (v := .agg #[.int .i64 r.1.1, .int .i64 r.1.2, .int .i64 r.2.1, .slice B m' c']) (by simp [results, Tryz.results117, go_sem, q0, q1, q2, q3]) rfl ?_
 exact ⟨B, m', c', rfl, O3.out.mono (by omega), B3.out⟩
set_option maxHeartbeats 4000000 in
theorem joined_equal (px py : Option Addr) (r s : Row) (w : World) (h1 : PRow w px (some r)) (h2 : PRow w py (some s)) (hl : r.2.2.length ≤ 20000) (hl2 : s.2.2.length ≤ 20000) (hv : s.2.1 = r.2.1) :
  Calls Tryz.prog 117 #[.pointer px, .pointer py] w (GivesRow ((r.1.1, r.1.2), r.2.1, join r.2.2 s.2.2) w) := by
 have B0 := Lib.hid (below_one w (.cells #[.int .i64 0, .int .i64 0, .int .i64 0, .slice none 0 0] 46))
 have X0 := Lib.hid (wbox_new w 0 0 0 (.slice none 0 0))
 obtain ⟨q, hp, hr⟩ := h1
 obtain ⟨q', hp', hr'⟩ := h2
 have HR := Lib.hid hr
 have HR' := Lib.hid hr'
 have e1 : q.2.1 = r.2.1 := hr.2.1
 have e2 : q'.2.1 = r.2.1 := by rw [hr'.2.1, hv]
 have e3 : q.1.1 = r.1.1 := by rw [hr.1]
 have e4 : q.1.2 = r.1.2 := by rw [hr.1]
 have HP := Lib.hid hp
 have HP' := Lib.hid hp'
 obtain ⟨ad, rfl, hb0, c1, c2, c3, c4⟩ := hp.below B0.out
 obtain ⟨ae, rfl, hb0', d1, d2, d3, d4⟩ := hp'.below B0.out
 have HS := Lib.hid fun w' (hb : Below w.heap.size w w') => And.intro (HP.out.below hb) (And.intro (HP'.out.below hb) (Lib.hid hb))
 have HC := Lib.hid fun W (hb : Below w.heap.size w W) => join_new (.slice q.2.2.1 q.2.2.2.1 q.2.2.2.2) (.slice q'.2.2.1 q'.2.2.2.1 q'.2.2.2.2) r.2.2 s.2.2 W (show Ids W _ _ from HR.out.2.2.below hb) (show Ids W _ _ from HR'.out.2.2.below hb) (by omega) (by omega)
 clear hr hp hb0 hr' hp' hb0' HR HR'
 rw [e1] at c3
 rw [e2] at d3
 rw [e3] at c1
 rw [e4] at c2
 have HF := Lib.hid fun w' (hb : Below w.heap.size w w') => (show (w'.cell? ad = some (.int .i64 r.1.1) ∧ w'.cell? ⟨ad.block, ad.off + 1, none⟩ = some (.int .i64 r.1.2) ∧ w'.cell? ⟨ad.block, ad.off + 2, none⟩ = some (.int .i64 r.2.1) ∧ w'.cell? ⟨ad.block, ad.off + 3, none⟩ = some (.slice q.2.2.1 q.2.2.2.1 q.2.2.2.2)) ∧ (w'.cell? ae = some (.int .i64 q'.1.1) ∧ w'.cell? ⟨ae.block, ae.off + 1, none⟩ = some (.int .i64 q'.1.2) ∧ w'.cell? ⟨ae.block, ae.off + 2, none⟩ = some (.int .i64 r.2.1) ∧ w'.cell? ⟨ae.block, ae.off + 3, none⟩ = some (.slice q'.2.2.1 q'.2.2.2.1 q'.2.2.2.2)) ∧ Hid (Below w.heap.size w w') from by
  obtain ⟨⟨x, ex, _, x1, x2, x3, x4⟩, ⟨y, ey, _, y1, y2, y3, y4⟩, hh⟩ := HS.out w' hb
  injection ex with ex
  injection ey with ey
  subst ex ey
  rw [← e1, ← e3, ← e4]
  refine ⟨⟨x1, x2, x3, x4⟩, ⟨y1, y2, ?_, y4⟩, hh⟩
  rw [e1, ← e2]
  exact y3)
 clear HS HP HP' e1 e2 e3 e4
 generalize q.2.2.1 = A1 at *
 generalize q.2.2.2.1 = m1 at *
 generalize q.2.2.2.2 = k1 at *
 generalize q'.1.1 = a2 at *
 generalize q'.1.2 = i2 at *
 generalize q'.2.2.1 = A2 at *
 generalize q'.2.2.2.1 = m2 at *
 generalize q'.2.2.2.2 = k2 at *
 generalize r.1.1 = a1 at *
 generalize r.1.2 = i1 at *
 generalize r.2.1 = n at *
 have hd : decide (n < n) = false := decide_eq_false (by omega)
 go_enter Tryz.func117, Tryz.ntmps117
 go_wp2_with fail
 go_quiet (fail)
 generalize nq = n0
 go_wp2_with fail
 go_quiet (fail)
 have B1 := Lib.hid (below_drewN (n := nq) (below_drewN (n := n0) B0.out))
 have X1 := Lib.hid (show WBox (((w.alloc (.cells #[.int .i64 0, .int .i64 0, .int .i64 0, .slice none 0 0] 46)).drewN n0).drewN nq) w.heap.size 0 0 0 (.slice none 0 0) from X0.out)
 have Z1 := Lib.hid (show w.heap.size + 1 ≤ (((w.alloc (.cells #[.int .i64 0, .int .i64 0, .int .i64 0, .slice none 0 0] 46)).drewN n0).drewN nq).heap.size by simp [World.drewN])
 go_wp2_with fail
 refine wp_region_held_drew (S := fun w' => (w'.cell? ad = some (.int .i64 a1) ∧ w'.cell? ⟨ad.block, ad.off + 1, none⟩ = some (.int .i64 i1) ∧ w'.cell? ⟨ad.block, ad.off + 2, none⟩ = some (.int .i64 n) ∧ w'.cell? ⟨ad.block, ad.off + 3, none⟩ = some (.slice A1 m1 k1)) ∧ (w'.cell? ae = some (.int .i64 a2) ∧ w'.cell? ⟨ae.block, ae.off + 1, none⟩ = some (.int .i64 i2) ∧ w'.cell? ⟨ae.block, ae.off + 2, none⟩ = some (.int .i64 n) ∧ w'.cell? ⟨ae.block, ae.off + 3, none⟩ = some (.slice A2 m2 k2)) ∧ Hid (Below w.heap.size w w')) (by kernel_rfl) ?_ (fun hHeld => ?_)
 ·exact HF.out _ B1.out.drew
 (refine tk_ (i := 0) (oi := ⟨_, _, _, _, _, _⟩) (v := ?_) rfl (Or.inl ⟨by rfl, ?_⟩) ?_; rotate_left 1; · (intro w hSw; (try dsimp only at hSw); go_simp; all_goals with_reducible rfl))
 try simp only [Act.put, si0, si1, si2]
 (refine tk_ (i := 1) (oi := ⟨_, _, _, _, _, _⟩) (v := ?_) rfl (Or.inl ⟨by rfl, ?_⟩) ?_; rotate_left 1; · (intro w hSw; (try dsimp only at hSw); go_simp; all_goals with_reducible rfl))
 try simp only [Act.put, si0, si1, si2]
 (refine tk_ (i := 2) (oi := ⟨_, _, _, _, _, _⟩) (v := ?_) rfl (Or.inl ⟨by rfl, ?_⟩) ?_; rotate_left 1; · (intro w hSw; (try dsimp only at hSw); go_simp; all_goals with_reducible rfl))
 try simp only [Act.put, si0, si1, si2]
 (refine tk_ (i := 3) (oi := ⟨_, _, _, _, _, _⟩) (v := ?_) rfl (Or.inl ⟨by rfl, ?_⟩) ?_; rotate_left 1; · (intro w hSw; (try dsimp only at hSw); go_simp; all_goals with_reducible rfl))
 try simp only [Act.put, si0, si1, si2]
 (refine tk_ (i := 4) (oi := ⟨_, _, _, _, _, _⟩) (v := ?_) rfl (Or.inl ⟨by rfl, ?_⟩) ?_; rotate_left 1; · (intro w hSw; (try dsimp only at hSw); go_simp; all_goals with_reducible rfl))
 try simp only [Act.put, si0, si1, si2]
 (refine tk_ (i := 5) (oi := ⟨_, _, _, _, _, _⟩) (v := ?_) rfl (Or.inl ⟨by rfl, ?_⟩) ?_; rotate_left 1; · (intro w hSw; (try dsimp only at hSw); go_simp; all_goals with_reducible rfl))
 try simp only [Act.put, si0, si1, si2]
 (refine tk_ (i := 6) (oi := ⟨_, _, _, _, _, _⟩) (v := ?_) rfl (Or.inl ⟨by rfl, ?_⟩) ?_; rotate_left 1; · (intro w hSw; (try dsimp only at hSw); go_simp; all_goals with_reducible rfl))
 try simp only [Act.put, si0, si1, si2]
 (refine tk_ (i := 7) (oi := ⟨_, _, _, _, _, _⟩) (v := ?_) rfl (Or.inl ⟨by rfl, ?_⟩) ?_; rotate_left 1; · (intro w hSw; (try dsimp only at hSw); go_simp; all_goals with_reducible rfl))
 try simp only [Act.put, si0, si1, si2]
 (refine tk_ (i := 8) (oi := ⟨_, _, _, _, _, _⟩) (v := ?_) rfl (Or.inl ⟨by rfl, ?_⟩) ?_; rotate_left 1; · (intro w hSw; (try dsimp only at hSw); go_simp; all_goals with_reducible rfl))
 try simp only [Act.put, si0, si1, si2]
 (refine tk_ (i := 9) (oi := ⟨_, _, _, _, _, _⟩) (v := ?_) rfl (Or.inl ⟨by rfl, ?_⟩) ?_; rotate_left 1; · (intro w hSw; (try dsimp only at hSw); go_simp; all_goals with_reducible rfl))
 try simp only [Act.put, si0, si1, si2]
 (refine tk_ (i := 10) (oi := ⟨_, _, _, _, _, _⟩) (v := ?_) rfl (Or.inl ⟨by rfl, ?_⟩) ?_; rotate_left 1; · (intro w hSw; (try dsimp only at hSw); go_simp; all_goals with_reducible rfl))
 try simp only [Act.put, si0, si1, si2]
 (refine tk_ (i := 11) (oi := ⟨_, _, _, _, _, _⟩) (v := ?_) rfl (Or.inl ⟨by rfl, ?_⟩) ?_; rotate_left 1; · (intro w hSw; (try dsimp only at hSw); go_simp; all_goals with_reducible rfl))
 try simp only [Act.put, si0, si1, si2]
 (refine tk_ (i := 12) (oi := ⟨_, _, _, _, _, _⟩) (v := ?_) rfl (Or.inl ⟨by rfl, ?_⟩) ?_; rotate_left 1; · (intro w hSw; (try dsimp only at hSw); go_simp; all_goals with_reducible rfl))
 try simp only [Act.put, si0, si1, si2]
 (refine tk_ (i := 13) (oi := ⟨_, _, _, _, _, _⟩) (v := ?_) rfl (Or.inl ⟨by rfl, ?_⟩) ?_; rotate_left 1; · (intro w hSw; (try dsimp only at hSw); go_simp; all_goals with_reducible rfl))
 try simp only [Act.put, si0, si1, si2]
 (refine tk_ (i := 14) (oi := ⟨_, _, _, _, _, _⟩) (v := ?_) rfl (Or.inl ⟨by rfl, ?_⟩) ?_; rotate_left 1; · (intro w hSw; (try dsimp only at hSw); go_simp; all_goals with_reducible rfl))
 try simp only [Act.put, si0, si1, si2]
 (refine tk_ (i := 15) (oi := ⟨_, _, _, _, _, _⟩) (v := ?_) rfl (Or.inl ⟨by rfl, ?_⟩) ?_; rotate_left 1; · (intro w hSw; (try dsimp only at hSw); go_simp; all_goals with_reducible rfl))
 try simp only [Act.put, si0, si1, si2]
 refine wpAnyH_ready (rs := [16]) (by kernel_rfl) (by simp) ?_
 refine AllReadyH.cons (o := ⟨_, _, _, _, _, _⟩) rfl (fun Kq hKq => ?_) AllReadyH.nil
 go_simp
 clear hHeld
 go_at_call 119; (with_reducible refine (HC.out _ (below_drewN (n := n0 + nq + 1) B0.out)).mono ?_); rintro e w2 ⟨v2, rfl, ho, hb⟩; have B2 := Lib.hid (below_after (below_drewN (n := n0 + nq + 1) B0.out) hb (Nat.le_refl _)); have X2 := Lib.hid (wbox_below (show WBox ((w.alloc (.cells #[.int .i64 0, .int .i64 0, .int .i64 0, .slice none 0 0] 46)).drewN (n0 + nq + 1)) w.heap.size 0 0 0 (.slice none 0 0) from X0.out) hb); have O2 := Lib.hid ((ownsI_of ho).mono (show w.heap.size + 1 ≤ _ by simp [World.drewN])); have HK := Lib.hid B2.out; clear hb ho; obtain ⟨B, m', c', rfl⟩ := slice_of_owns O2.out
 refine hKq.out _ _ ?_ (fun hHeld => ?_)
 ·(try dsimp only); exact HF.out _ HK.out
 clear hKq Kq
 try simp only [Act.put, si0, si1, si2]
 (refine tk_ (i := 17) (oi := ⟨_, _, _, _, _, _⟩) (v := ?_) rfl (Or.inl ⟨by rfl, ?_⟩) ?_; rotate_left 1; · (intro w hSw; (try dsimp only at hSw); go_simp; all_goals with_reducible rfl))
 try simp only [Act.put, si0, si1, si2]
 refine wpAnyH_ready (rs := [18]) (by kernel_rfl) (by simp) ?_
 refine AllReadyH.cons (o := ⟨_, _, _, _, _, _⟩) rfl (fun Kq hKq => ?_) AllReadyH.nil
 obtain ⟨y1, y2, y3, y4⟩ := wbox_cells X2.out
 obtain ⟨f1, f2, f3, f4⟩ := wbox_free X2.out
 go_simp
 clear hHeld
 have X3 := Lib.hid (wbox_set X2.out a1 i1 n (.slice B m' c')); have B3 := Lib.hid (below_set4 (g := w.heap.size) B2.out (Nat.le_refl _) (.int .i64 a1) (.int .i64 i1) (.int .i64 n) (.slice B m' c')); have O3 := Lib.hid (O2.out.grown (grown_set4 (World.grownBy.refl _ (some w.heap.size)) (.int .i64 a1) (.int .i64 i1) (.int .i64 n) (.slice B m' c')) (ownsR_ne O2.out (by omega))); have HK := Lib.hid B3.out; clear y1 y2 y3 y4 f1 f2 f3 f4
 refine hKq.out _ _ ?_ (fun hHeld => ?_)
 ·(try dsimp only); exact HF.out _ HK.out
 clear hKq Kq
 try simp only [Act.put, si0, si1, si2]
 refine wpAnyH_done (by kernel_rfl) ?_ _
 go_wp2_with fail
 obtain ⟨q0, q1, q2, q3⟩ := wbox_cells X3.out
 refine bodyPost_ret (v := .agg #[.int .i64 a1, .int .i64 i1, .int .i64 n, .slice B m' c']) (by simp [results, Tryz.results117, go_sem, q0, q1, q2, q3]) rfl ?_
 exact ⟨B, m', c', rfl, O3.out.mono (by omega), B3.out⟩
end Go.Proofs.YtjlnnmjhbccdoaaGreat
namespace Go.Proofs.YtjlnnmjhbccdoaaGreat
open Go Go.RowKit Sets RowSets
def SmallO (o : Option Row) : Prop := ∀ r, o = some r → r.2.2.length ≤ 20000
theorem joined_any (px py : Option Addr) (ox oy : Option Row) (w : World) (h1 : PRow w px ox) (h2 : PRow w py oy) (hne : ox ≠ none ∨ oy ≠ none) (b1 : SmallO ox) (b2 : SmallO oy) :
  Calls Tryz.prog 117 #[.pointer px, .pointer py] w (GivesRow (joinedO ox oy) w) := by
 cases ox with
 | none =>
  obtain rfl : px = none := h1
  cases oy with
  | none => rcases hne with h | h <;> exact absurd rfl h
  | some s => exact joined_right py s w h2 (by have := b2 s rfl; omega)
 | some r =>
  have hr := b1 r rfl
  cases oy with
  | none =>
   obtain rfl : py = none := h2
   exact joined_left px r w h1 (by omega)
  | some s =>
   have hs := b2 s rfl
   have ej : joinedO (some r) (some s) = if s.2.1 < r.2.1 then r else if r.2.1 < s.2.1 then s else (r.1, r.2.1, join r.2.2 s.2.2) := rfl
   rw [ej]
   by_cases e1 : s.2.1 < r.2.1
   ·rw [if_pos e1]
    exact joined_more px py r s w h1 h2 (by omega) e1
   ·by_cases e2 : r.2.1 < s.2.1
    ·rw [if_neg e1, if_pos e2]
     exact joined_less px py s r w h1 h2 (by omega) e2
    ·rw [if_neg e1, if_neg e2]
     exact joined_equal px py r s w h1 h2 hr hs (by omega)
def LiesW (lo hi : Nat) (w : World) (v : Value) (qs : List Raw) : Prop := Rcs encW 4 w v qs ∧ ∀ ad n c, v = .slice (some ad) n c → 0 < qs.length → lo ≤ ad.block ∧ ad.block < hi
def LiesI (lo hi : Nat) (w : World) (v : Value) (l : List Id2) : Prop := Ids w v l ∧ ∀ ad n c, v = .slice (some ad) n c → 0 < l.length → lo ≤ ad.block ∧ ad.block < hi
def Mid (lo hi : Nat) (w w' : World) : Prop := w.heap.size ≤ w'.heap.size ∧ ∀ k, lo ≤ k → k < hi → w'.heap[k]? = w.heap[k]?
theorem mid_below {lo hi : Nat} {w w' : World} (hb : Below w.heap.size w w') (h : hi ≤ w.heap.size) : Mid lo hi w w' := ⟨hb.size, fun k _ hk => hb.block k (by omega)⟩
theorem LiesW.mid {lo hi : Nat} {w w' : World} {v : Value} {qs : List Raw} (h : LiesW lo hi w v qs) (hm : Mid lo hi w w') : LiesW lo hi w' v qs := by
 obtain ⟨⟨A, c, rfl, h0, hc, hk⟩, hb⟩ := h
 refine ⟨⟨A, c, rfl, h0, hc, fun k hlt => ?_⟩, hb⟩
 obtain ⟨ad, rfl, h1, h2⟩ := hk k hlt
 obtain ⟨b1, b2⟩ := hb ad _ _ rfl (by omega)
 refine ⟨ad, rfl, Nat.lt_of_lt_of_le h1 hm.1, fun j u hu => ?_⟩
 rw [World.cell?_of_block (w := w) (by rw [addr_block]; exact hm.2 _ b1 b2)]
 exact h2 j u hu
theorem LiesI.mid {lo hi : Nat} {w w' : World} {v : Value} {l : List Id2} (h : LiesI lo hi w v l) (hm : Mid lo hi w w') : LiesI lo hi w' v l := by
 obtain ⟨⟨A, c, rfl, h0, hc, hk⟩, hb⟩ := h
 refine ⟨⟨A, c, rfl, h0, hc, fun k hlt => ?_⟩, hb⟩
 obtain ⟨ad, rfl, h1, c1, c2⟩ := hk k hlt
 obtain ⟨b1, b2⟩ := hb ad _ _ rfl (by omega)
 refine ⟨ad, rfl, Nat.lt_of_lt_of_le h1 hm.1, ?_, ?_⟩
 ·rw [World.cell?_of_block (w := w) (by rw [block_of_add]; exact hm.2 _ b1 b2)]
  exact c1
 ·rw [World.cell?_of_block (w := w) (by show w'.heap[(ad.add (k * 2)).block]? = _; rw [block_of_add]; exact hm.2 _ b1 b2)]
  exact c2
theorem liesW_of {lo hi : Nat} {w : World} {v : Value} {qs : List Raw} (h : OwnsW w lo v qs) (hh : w.heap.size ≤ hi) : LiesW lo hi w v qs := by
 refine ⟨rcs_owns encW_len h, fun ad n c e _ => ?_⟩
 have := World.ownsRow.lt h ad.block (by rw [e]; rfl)
 omega
theorem liesI_of {lo hi : Nat} {w : World} {v : Value} {l : List Id2} (h : OwnsI w lo v l) (hh : w.heap.size ≤ hi) : LiesI lo hi w v l := by
 refine ⟨ownsI_ids h, fun ad n c e _ => ?_⟩
 have := World.ownsRow.lt h ad.block (by rw [e]; rfl)
 omega
def hdQ (x : Id2) : List Raw → Option Raw
 | [] => none
 | q :: _ => if q.1 = x then some q else none
def tlQ (x : Id2) : List Raw → List Raw
 | [] => []
 | q :: qs => if q.1 = x then qs else q :: qs
theorem hdQ_cons (x : Id2) (q : Raw) (qs : List Raw) : hdQ x (q :: qs) = if q.1 = x then some q else none := rfl
theorem tlQ_cons (x : Id2) (q : Raw) (qs : List Raw) : tlQ x (q :: qs) = if q.1 = x then qs else q :: qs := rfl
def PRawO (w : World) (p : Option Addr) : Option Raw → Prop
 | none => p = none
 | some q => PRaw w p q
theorem taken_row {w w' : World} {qs : List Raw} {l : List Row} {x : Id2} {p : Option Addr} (h : EachReads w qs l) (hb : Below w.heap.size w w') (hp : PRawO w' p (hdQ x qs)) : PRow w' p (hd x l) ∧ EachReads w (tlQ x qs) (tl x l) := by
 cases qs with
 | nil =>
  cases l with
  | nil => exact ⟨hp, trivial⟩
  | cons r l => exact h.elim
 | cons q qs =>
  cases l with
  | nil => exact h.elim
  | cons r l =>
   rw [hdQ_cons] at hp
   rw [hd_cons, tlQ_cons, tl_cons]
   have e : q.1 = r.1 := h.1.1
   by_cases e2 : q.1 = x
   ·rw [if_pos e2] at hp ⊢
    rw [if_pos (e ▸ e2), if_pos (e ▸ e2)]
    exact ⟨⟨q, hp, h.1.below hb⟩, h.2⟩
   ·rw [if_neg e2] at hp ⊢
    rw [if_neg (fun h => e2 (e.trans h)), if_neg (fun h => e2 (e.trans h))]
    exact ⟨hp, h⟩
theorem elem27 : Tryz.prog.elem 24 = 46 := by kernel_rfl
theorem size26 (W : World) : (sizeOf 46).run Tryz.prog W = .ok 4 W := by kernel_rfl
theorem under27 : Tryz.prog.underlying 24 = some (.slice (Tryz.prog.elem 24)) := by rw [elem27]; exact Tryz.underlying24
theorem headW {w : World} {v : Value} {q : Raw} {qs : List Raw} (h : Rcs encW 4 w v (q :: qs)) :
  ∃ ad c, v = .slice (some ad) (qs.length + 1) c ∧ ∀ w', Below w.heap.size w w' → PRaw w' (some ad) q := by
 obtain ⟨A, c, rfl, _⟩ := id h
 obtain ⟨ad, rfl⟩ := h.addr (by simp)
 refine ⟨ad, c, rfl, fun w' hb => ?_⟩
 obtain ⟨ad', e, c1, c2, c3, c4⟩ := h.raw hb (k := 0) (by simp)
 injection e with e
 subst e
 rw [Nat.zero_mul, add_zero'] at c1 c2 c3 c4
 obtain ⟨A', c', hv, _, _, hk⟩ := h
 injection hv with e1 e2 e3
 obtain ⟨ad', e, h1, _⟩ := hk 0 (by simp)
 rw [← e1] at e
 injection e with e
 subst e
 exact ⟨ad, rfl, Nat.lt_of_lt_of_le h1 hb.size, c1, c2, c3, c4⟩
theorem tailW {lo hi : Nat} {w : World} {v : Value} {q : Raw} {qs : List Raw} (h : LiesW lo hi w v (q :: qs)) :
  ∃ V, (∀ W, (Instr.slice 24 v (some (.int .i64 1)) none none).run Tryz.prog W = .ok V W) ∧ LiesW lo hi w V qs := by
 obtain ⟨hr, hb⟩ := h
 obtain ⟨A, c, rfl, h0, hc, hx⟩ := id hr
 obtain ⟨ad, rfl⟩ := hr.addr (by simp)
 have hb2 := hb ad _ _ rfl (by simp)
 refine ⟨sliced (some ad) 1 (q :: qs).length c 4, fun W => ?_, ?_⟩
 ·rw [run_slice_l (w := W) (P := Tryz.prog) 24 (some ad) (q :: qs).length c under27 .i64 1 (by omega) (by simp; omega)]
  rw [elem27, size26]
  rfl
 ·unfold Go.sliced
  split
  ·rename_i e
   subst e
   have : qs = [] := List.eq_nil_of_length_eq_zero (by simp only [List.length_cons] at hc; omega)
   subst this
   exact ⟨⟨some ad, 0, rfl, (fun h => by cases h), by simp, fun k hk => absurd hk (by simp)⟩, fun ad n c e hl => absurd hl (by simp)⟩
  ·have hd := Rcs.drop (k := 1) (by omega) hr (by simp) (by omega)
   refine ⟨hd, fun ad' n c' e _ => ?_⟩
   injection e with e
   injection e with e
   subst e
   rw [addr_block]
   exact hb2
set_option maxHeartbeats 1000000 in
theorem take_any (lo hi : Nat) (v : Value) (qs : List Raw) (x y : Int) (w : World) (h : LiesW lo hi w v qs) (hl : qs.length ≤ 100000) :
  Calls Tryz.prog 154 #[v, .agg #[.int .i64 x, .int .i64 y]] w fun e w' => ∃ p V, e = .returned (.tuple #[.pointer p, V]) ∧ PRawO w' p (hdQ (x, y) qs) ∧ LiesW lo hi w V (tlQ (x, y) qs) ∧ Below w.heap.size w w' := by
 have HB := Lib.hid (show Below w.heap.size w (w.alloc (.cells #[.int .i64 x, .int .i64 y] 29)) from below_one _ _)
 cases qs with
 | nil =>
  obtain ⟨⟨A, c, rfl, h0, hc, hx⟩, hb⟩ := id h
  have HH := Lib.hid h
  clear hx hb h
  go_enter Tryz.func154, Tryz.ntmps154
  go_wp2_with fail
  go_quiet (fail)
  go_wp2_with fail
  refine bodyPost_ret (v := .tuple #[.pointer none, .slice A 0 c]) (by simp [results, Tryz.results154, go_sem]) rfl ?_
  exact ⟨_, _, rfl, rfl, HH.out, below_drewN HB.out⟩
 | cons q qs =>
  obtain ⟨ad, c, rfl, hc⟩ := headW h.1
  obtain ⟨V, hV, hL⟩ := tailW h
  have HH := Lib.hid h
  have HL := Lib.hid hL
  have HC := Lib.hid hc
  have hlz : ((qs.length : Int) + 1 == 0) = false := by simp; omega
  have i3 : (0 : Int) < (qs.length : Int) + 1 := by omega
  have hq1 : (qs.length : Int) + 1 ≤ 100000 := by simp at hl; omega
  obtain ⟨x1, x2⟩ := box_cells (box_new w x y)
  clear h hL hc
  obtain ⟨ad', e, _, c1, c2, _⟩ := HC.out _ HB.out
  injection e with e
  subst e
  by_cases he : q.1 = (x, y)
  ·have HN := Lib.hid (show hdQ (x, y) (q :: qs) = some q by rw [hdQ_cons, if_pos he])
   have HT := Lib.hid (show tlQ (x, y) (q :: qs) = qs by rw [tlQ_cons, if_pos he])
   have e1 : q.1.1 = x := by rw [he]
   have e2 : q.1.2 = y := by rw [he]
   rw [HN.out, HT.out]
   rw [e1] at c1
   rw [e2] at c2
   clear he e1 e2
   go_enter Tryz.func154, Tryz.ntmps154
   go_wp2_with fail
   go_quiet (fail)
   go_wp2_with fail
   go_quiet (fail)
   go_wp2_with fail
   refine bodyPost_ret (v := .tuple #[.pointer (some ad), V]) (by simp [results, Tryz.results154, go_sem]) rfl ?_
   exact ⟨_, _, rfl, HC.out _ (below_drewN (below_drewN HB.out)), HL.out, below_drewN (below_drewN HB.out)⟩
  ·have HN := Lib.hid (show hdQ (x, y) (q :: qs) = none by rw [hdQ_cons, if_neg he])
   have HT := Lib.hid (show tlQ (x, y) (q :: qs) = q :: qs by rw [tlQ_cons, if_neg he])
   rw [HN.out, HT.out]
   by_cases h1 : q.1.1 = x
   ·have h2 : (q.1.2 == y) = false := by
     simp only [beq_eq_false_iff_ne]
     exact fun e => he (by rw [← h1, ← e])
    have h3 : (q.1.2 != y) = true := by simpa using h2
    have h4 : (q.1.1 == x) = true := by simpa using h1
    rw [h1] at c1 h4
    clear he h1
    go_enter Tryz.func154, Tryz.ntmps154
    go_wp2_with fail
    go_quiet (fail)
    go_wp2_with fail
    refine bodyPost_ret (v := .tuple #[.pointer none, .slice (some ad) (qs.length + 1) c]) (by simp [results, Tryz.results154, go_sem]) rfl ?_
    exact ⟨_, _, rfl, rfl, HH.out, below_drewN HB.out⟩
   ·have h2 : (q.1.1 == x) = false := by simpa using h1
    have h3 : (q.1.1 != x) = true := by simpa using h1
    clear he
    go_enter Tryz.func154, Tryz.ntmps154
    go_wp2_with fail
    go_quiet (fail)
    go_wp2_with fail
    refine bodyPost_ret (v := .tuple #[.pointer none, .slice (some ad) (qs.length + 1) c]) (by simp [results, Tryz.results154, go_sem]) rfl ?_
    exact ⟨_, _, rfl, rfl, HH.out, below_drewN HB.out⟩
end Go.Proofs.YtjlnnmjhbccdoaaGreat
