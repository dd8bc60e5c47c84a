/-
  Walks over what rows may be. No statement is proved in this text; it holds for every input that its premises let by.
-/
import Derived.Test.YtofanciaacdjfaaLong
namespace Go.Proofs.Ytofanciaacdjfaa
open Go Go.RowKit Sets RowSets
/-- May a row be, by itself? -/
def mayRowB (r : Row) : Bool := vid r.1.1 r.1.2 && (decide (1 ≤ r.2.1) && (decide (r.2.1 ≤ 1099511627776) && (allV r.2.2 && (risesB r.2.2 && !hasB r.1 r.2.2))))
set_option maxHeartbeats 2000000 in
theorem mayRow_any (a i n : Int) (A : Option Addr) (m c : Nat) (l : List Id2) (w : World) (h : Ids w (.slice A m c) l) (hl : l.length ≤ 100000) :
    Calls Try.prog 27 #[.agg #[.int .i64 a, .int .i64 i, .int .i64 n, .slice A m c]] w fun e w' => e = .returned (.bool (mayRowB ((a, i), n, l))) ∧ Below w.heap.size w w' := by
  have B0 := Lib.hid (below_one w (.cells #[.int .i64 a, .int .i64 i, .int .i64 n, .slice A m c] 26))
  have X0 := Lib.hid (wbox_new w a i n (.slice A m c))
  have HI := Lib.hid h
  have HR : Hid (mayRowB ((a, i), n, l) = (vid a i && (decide (1 ≤ n) && (decide (n ≤ 1099511627776) && (allV l && (risesB l && !hasB (a, i) l)))))) := Lib.hid rfl
  have C1 := Lib.hid fun W => may_any a i W
  have C2 := Lib.hid fun W (hb : Below w.heap.size w W) => mayAll_any _ l W (HI.out.below hb) hl
  have C3 := Lib.hid fun W (hb : Below w.heap.size w W) => rising_any _ l W (HI.out.below hb) hl
  have C4 := Lib.hid fun W (hb : Below w.heap.size w W) => has_any _ l a i W (HI.out.below hb) hl
  generalize mayRowB ((a, i), n, l) = R at *
  generalize vid a i = v at *
  generalize allV l = p at *
  generalize risesB l = q at *
  generalize hasB (a, i) l = z at *
  clear h
  obtain ⟨c1, c2, c3, c4⟩ := wbox_cells X0.out
  cases v
  · have HE := Lib.hid (show R = false by rw [HR.out]; rfl)
    go_enter Try.func27, Try.ntmps27
    go_wp2_with fail
    refine (C1.out _).mono ?_
    rintro e w1 ⟨rfl, hb⟩
    have B1 := Lib.hid (below_after B0.out hb (Nat.le_refl _))
    clear hb
    go_wp2_with fail
    go_ret
    exact ⟨ret_bool HE.out.symm, B1.out⟩
  · by_cases h1 : n < 1
    · have hd : decide (n < 1) = true := decide_eq_true h1
      have HE := Lib.hid (show R = false by rw [HR.out, decide_eq_false (show ¬ 1 ≤ n by omega)]; rfl)
      go_enter Try.func27, Try.ntmps27
      go_wp2_with fail
      refine (C1.out _).mono ?_
      rintro e w1 ⟨rfl, hb⟩
      have B1 := Lib.hid (below_after B0.out hb (Nat.le_refl _))
      have X1 := Lib.hid (wbox_below X0.out hb)
      clear hb c1 c2 c3 c4
      obtain ⟨c1, c2, c3, c4⟩ := wbox_cells X1.out
      go_wp2_with fail
      go_ret
      exact ⟨ret_bool HE.out.symm, B1.out⟩
    · by_cases h2 : 1099511627776 < n
      · have hd : decide (n < 1) = false := decide_eq_false h1
        have hd2 : decide (1099511627776 < n) = true := decide_eq_true h2
        have HE := Lib.hid (show R = false by rw [HR.out, decide_eq_false (show ¬ n ≤ 1099511627776 by omega)]; simp)
        go_enter Try.func27, Try.ntmps27
        go_wp2_with fail
        refine (C1.out _).mono ?_
        rintro e w1 ⟨rfl, hb⟩
        have B1 := Lib.hid (below_after B0.out hb (Nat.le_refl _))
        have X1 := Lib.hid (wbox_below X0.out hb)
        clear hb c1 c2 c3 c4
        obtain ⟨c1, c2, c3, c4⟩ := wbox_cells X1.out
        go_wp2_with fail
        go_ret
        exact ⟨ret_bool HE.out.symm, B1.out⟩
      · have hd : decide (n < 1) = false := decide_eq_false h1
        have hd2 : decide (1099511627776 < n) = false := decide_eq_false h2
        have HE := Lib.hid (show R = (p && (q && !z)) by rw [HR.out, decide_eq_true (show 1 ≤ n by omega), decide_eq_true (show n ≤ 1099511627776 by omega)]; rfl)
        go_enter Try.func27, Try.ntmps27
        go_wp2_with fail
        refine (C1.out _).mono ?_
        rintro e w1 ⟨rfl, hb⟩
        have B1 := Lib.hid (below_after B0.out hb (Nat.le_refl _))
        have X1 := Lib.hid (wbox_below X0.out hb)
        clear hb c1 c2 c3 c4
        obtain ⟨c1, c2, c3, c4⟩ := wbox_cells X1.out
        go_wp2_with fail
        refine (C2.out _ B1.out).mono ?_
        rintro e w2 ⟨rfl, hb⟩
        have B2 := Lib.hid (below_after B1.out hb (Nat.le_refl _))
        have X2 := Lib.hid (wbox_below X1.out hb)
        clear hb c1 c2 c3 c4
        obtain ⟨c1, c2, c3, c4⟩ := wbox_cells X2.out
        cases p
        · go_wp2_with fail
          go_ret
          exact ⟨ret_bool HE.out.symm, B2.out⟩
        · go_wp2_with fail
          refine (C3.out _ B2.out).mono ?_
          rintro e w3 ⟨rfl, hb⟩
          have B3 := Lib.hid (below_after B2.out hb (Nat.le_refl _))
          have X3 := Lib.hid (wbox_below X2.out hb)
          clear hb c1 c2 c3 c4
          obtain ⟨c1, c2, c3, c4⟩ := wbox_cells X3.out
          cases q
          · go_wp2_with fail
            go_ret
            exact ⟨ret_bool HE.out.symm, B3.out⟩
          · go_wp2_with fail
            refine (C4.out _ B3.out).mono ?_
            rintro e w4 ⟨rfl, hb⟩
            have B4 := Lib.hid (below_after B3.out hb (Nat.le_refl _))
            clear hb c1 c2 c3 c4
            cases z
            · go_wp2_with fail
              go_ret
              exact ⟨ret_bool HE.out.symm, B4.out⟩
            · go_wp2_with fail
              go_ret
              exact ⟨ret_bool HE.out.symm, B4.out⟩
end Go.Proofs.Ytofanciaacdjfaa
