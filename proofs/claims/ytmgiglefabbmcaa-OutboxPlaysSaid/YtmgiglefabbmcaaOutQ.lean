/-
  A walk: of replaceable frames alone the last ones that were put wait. No statement is proved in this text.
-/
import Derived.Test.YtmgiglefabbmcaaOutO
import Derived.Test.YtmgiglefabbmcaaOutP
set_option maxRecDepth 20000
namespace Go.Proofs.Ytmgiglefabbmcaa
open Go Go.RowKit
/-- What waits behind i puts of replaceable frames. -/
structure LastI (mx : Int) (i : Nat) (L : List Fr) : Prop where
  len : (L.length : Int) = if mx ≤ i then mx else i
  at_ : ∀ (k : Nat) (h : k < L.length), kn L[k] = true ∧ L[k].n = (i : Int) - L.length + k
theorem fi_zero {L : List Fr} (h : 0 < L.length) (hk : kn L[0] = true) : fi L = 0 := fi_hit h hk fun j hj => absurd hj (by omega)
theorem LastI.next {mx : Int} {i : Nat} {L : List Fr} {F : Fr} (h : LastI mx i L) (hm : 1 ≤ mx) (hk : kn F = true) (hn : F.n = (i : Int)) : LastI mx (i + 1) (putL mx L F).1 := by
  have hl := h.len
  unfold putL
  by_cases hlt : (L.length : Int) < mx
  · rw [if_pos hlt]
    have hi : (L.length : Int) = i := by split at hl <;> omega
    refine ⟨?_, fun k hkl => ?_⟩
    · simp only [List.length_append, List.length_singleton]
      split <;> omega
    · simp only [List.length_append, List.length_singleton] at hkl ⊢
      by_cases e : k < L.length
      · rw [List.getElem_append_left e]
        obtain ⟨h1, h2⟩ := h.at_ k e
        exact ⟨h1, by rw [h2]; omega⟩
      · obtain rfl : k = L.length := by omega
        rw [List.getElem_append_right (Nat.le_refl _)]
        simp only [Nat.sub_self, List.getElem_cons_zero]
        exact ⟨hk, by rw [hn]; omega⟩
  · have hmi : (L.length : Int) = mx ∧ mx ≤ i := by split at hl <;> omega
    have h0 : 0 < L.length := by omega
    have hf : fi L = 0 := fi_zero h0 (h.at_ 0 h0).1
    rw [if_neg hlt, dif_pos (by rw [hf]; exact h0)]
    show LastI mx (i + 1) (L.eraseIdx (fi L) ++ [F])
    rw [hf]
    cases L with
    | nil => simp at h0
    | cons x r =>
      simp only [List.eraseIdx_cons_zero, List.length_cons] at *
      refine ⟨?_, fun k hkl => ?_⟩
      · simp only [List.length_append, List.length_singleton]
        split <;> omega
      · simp only [List.length_append, List.length_singleton] at hkl ⊢
        by_cases e : k < r.length
        · rw [List.getElem_append_left e]
          obtain ⟨h1, h2⟩ := h.at_ (k + 1) (by simp only [List.length_cons]; omega)
          simp only [List.getElem_cons_succ, List.length_cons] at h1 h2
          exact ⟨h1, by rw [h2]; omega⟩
        · obtain rfl : k = r.length := by omega
          rw [List.getElem_append_right (Nat.le_refl _)]
          simp only [Nat.sub_self, List.getElem_cons_zero]
          exact ⟨hk, by rw [hn]; omega⟩
theorem rcs_bool {w w' : World} {ad : Addr} {n c : Nat} {l : List Bool} (h : Rcs encB 1 w (.slice (some ad) n c) l) (hb : Below w.heap.size w w') {k : Nat} (hk : k < l.length) : w'.cell? (ad.add k) = some (.bool l[k]) := by
  have := h.first hb hk (u := .bool l[k]) rfl
  rwa [Nat.mul_one] at this
theorem min_two (a b : Int) (w : World) : (Builtin.min_ #[3, 3] 3 #[.int .i64 a, .int .i64 b]).run Try.prog w = .ok (.int .i64 (if a ≤ b then a else b)) w := by
  have h2 : Builtin.min2 (.int .i64 a) (.int .i64 b) = pure (.int .i64 (if a ≤ b then a else b)) := by
    show pure (Value.int .i64 (if b < a then b else a)) = _
    by_cases h : b < a
    · rw [if_pos h, if_neg (by omega)]
    · rw [if_neg h, if_pos (by omega)]
  simp [Builtin.min_, h2, List.foldlM, Sem.run_pure]
set_option maxHeartbeats 16000000 in
theorem last_any (mx : Int) (v : Value) (l : List Bool) (w : World) (hmx : -9223372036854775808 ≤ mx ∧ mx ≤ 9223372036854775807) (h : Rcs encB 1 w v l) : Calls Try.prog 7 #[.int .i64 mx, v] w fun e w' => e = .returned (.bool true) ∧ Below w.heap.size w w' := by
  have HI := Lib.hid h
  obtain ⟨A, c, rfl, -, hc, -⟩ := h
  clear hc
  go_enter Try.func7, Try.ntmps7
  go_wp2_with fail
  (with_reducible refine (works_any w).mono ?_)
  rintro e1 w1 ⟨rfl, hb⟩
  have B1 := Lib.hid hb
  clear hb
  by_cases hl : l.length ≤ 500
  · have hd5 : decide ((500 : Int) < (l.length : Int)) = false := by simp; omega
    by_cases hm : 1 ≤ mx ∧ mx ≤ 4096
    · obtain ⟨m1, m2⟩ := id hm
      go_wp2_with fail
      (with_reducible refine (bx_new (fun k => k < w.heap.size) mx w1 (fun k hk => Nat.lt_of_lt_of_le hk B1.out.size) hm).mono ?_)
      rintro e2 w2 ⟨rfl, h2, hb⟩
      have H2 := Lib.hid h2
      have K2 := Lib.hid (below_after B1.out hb (Nat.le_refl _))
      clear h2 hb B1
      go_wp2_with fail
      go_loopw [7, 8] (fun s7 s8 wr => ∃ (k : Nat) (L : List Fr), k ≤ l.length ∧ s7 = .int .i64 k ∧ Hid (LastI mx k L) ∧ Hid (Bx (fun k => k < w.heap.size) wr w1.heap.size mx L) ∧ Hid (Below w.heap.size w wr)) (fun s7 _ _ => l.length - (intOf s7).toNat)
      case atStart => exact ⟨0, [], by omega, rfl, Lib.hid ⟨by simp; omega, fun k hk => absurd hk (by simp)⟩, H2, K2⟩
      case round =>
        obtain ⟨k, L, hkl, rfl, HL, HB, HW⟩ := hrel
        have i3 : (0 : Int) ≤ (k : Int) := by omega
        by_cases hlt : k < l.length
        · have hd : decide ((k : Int) < (l.length : Int)) = true := by simp; omega
          have i4 : (k : Int) < (l.length : Int) := by omega
          obtain ⟨ad, rfl⟩ := HI.out.addr (Nat.lt_of_le_of_lt (Nat.zero_le _) hlt)
          have c0 := rcs_bool HI.out HW.out hlt
          generalize l[k] = b at *
          cases b
          case false =>
            go_wp2_with fail
            (with_reducible refine (of_any 3 (k : Int) _).mono ?_)
            rintro e3 w3 ⟨rfl, hb⟩
            have HB3 := Lib.hid (HB.out.step hb)
            have HW3 := Lib.hid (below_after HW.out hb (Nat.le_refl _))
            clear hb HB HW c0
            go_wp2_with fail
            (with_reducible refine (bx_put _ w3 _ mx L HB3.out (bare 3 (k : Int)) (fr_bare _ _ _) (fit_bare _ _)).mono ?_)
            rintro e4 w4 ⟨qo, Q, rfl, -, -, -, hx, hk⟩
            have HB4 := Lib.hid (hx.mono (E := fun k => k < w.heap.size) fun _ e => .inl e)
            have HW4 := Lib.hid (HW3.out.trans (hk.below fun _ e => e))
            have HL4 := Lib.hid (HL.out.next (F := bF 3 k) m1 rfl rfl)
            clear hx hk HB3 HW3
            go_wp2_with fail
            go_roundw
            case rel => exact ⟨k + 1, _, by omega, by go_num, HL4, HB4, HW4⟩
            case measure => simp [intOf]; omega
          case true =>
            go_wp2_with fail
            (with_reducible refine (of_any 4 (k : Int) _).mono ?_)
            rintro e3 w3 ⟨rfl, hb⟩
            have HB3 := Lib.hid (HB.out.step hb)
            have HW3 := Lib.hid (below_after HW.out hb (Nat.le_refl _))
            clear hb HB HW c0
            go_wp2_with fail
            (with_reducible refine (bx_put _ w3 _ mx L HB3.out (bare 4 (k : Int)) (fr_bare _ _ _) (fit_bare _ _)).mono ?_)
            rintro e4 w4 ⟨qo, Q, rfl, -, -, -, hx, hk⟩
            have HB4 := Lib.hid (hx.mono (E := fun k => k < w.heap.size) fun _ e => .inl e)
            have HW4 := Lib.hid (HW3.out.trans (hk.below fun _ e => e))
            have HL4 := Lib.hid (HL.out.next (F := bF 4 k) m1 rfl rfl)
            clear hx hk HB3 HW3
            go_wp2_with fail
            go_roundw
            case rel => exact ⟨k + 1, _, by omega, by go_num, HL4, HB4, HW4⟩
            case measure => simp [intOf]; omega
        · obtain rfl : k = l.length := by omega
          have hd : decide ((l.length : Int) < (l.length : Int)) = false := by simp
          go_wp2_with fail
          (with_reducible refine (bx_all _ wr _ mx L HB.out).mono ?_)
          rintro e3 w3 ⟨us, vv, rfl, hu, hfl, -, hb⟩
          have HU := Lib.hid hu
          have HR := Lib.hid hfl.rcs
          have HW3 := Lib.hid (below_after HW.out hb (Nat.le_refl _))
          obtain ⟨A2, c2, hv2, -⟩ := id hfl
          subst hv2
          clear hu hfl hb HB HW
          have hus : us.length = L.length := by have := congrArg List.length HU.out; simpa using this
          have hN : ((us.length : Nat) : Int) = if mx ≤ (l.length : Int) then mx else (l.length : Int) := by rw [hus]; exact HL.out.len
          have HN := Lib.hid hN
          have HUS := Lib.hid hus
          have hN5 : us.length ≤ l.length := by split at hN <;> omega
          have hmin : ∀ W, (Builtin.min_ #[3, 3] 3 #[.int .i64 mx, .int .i64 (l.length : Int)]).run Try.prog W = .ok (.int .i64 (us.length : Int)) W := fun W => by
            rw [hN]
            exact min_two mx l.length W
          have e0 : ((us.length : Int) != (us.length : Int)) = false := by simp
          clear hN hus
          go_wp2_with fail
          clear hmin
          go_loopw [11] (fun s11 wr2 => ∃ k : Nat, k ≤ us.length ∧ s11 = .int .i64 k ∧ wr2 = w3) (fun s11 _ => us.length - (intOf s11).toNat)
          case atStart => exact ⟨0, by omega, rfl, rfl⟩
          case round =>
            obtain ⟨k, hkl2, rfl, rfl⟩ := hrel
            have i5 : (0 : Int) ≤ (k : Int) := by omega
            by_cases hlt2 : k < us.length
            · have hd2 : decide ((k : Int) < (us.length : Int)) = true := by simp; omega
              have i6 : (k : Int) < (us.length : Int) := by omega
              obtain ⟨ad2, rfl⟩ := HR.out.addr (Nat.lt_of_le_of_lt (Nat.zero_le _) hlt2)
              have c5 := HR.out.cell (Below.refl _ _) hlt2 5 (by decide) (u := .int .i64 us[k].F.n) rfl
              have hn : us[k].F.n = (l.length : Int) - us.length + k := by
                have hk2 : k < L.length := by rw [← HUS.out]; exact hlt2
                have e1 : L[k] = us[k].F := by
                  have := congrArg (fun l => l[k]?) HU.out
                  simp [hlt2, hk2] at this
                  exact this.symm
                have := (HL.out.at_ k hk2).2
                rw [e1, ← HUS.out] at this
                exact this
              rw [hn] at c5
              clear hn
              have e2 : ((l.length : Int) - us.length + k != (l.length : Int) - us.length + k) = false := by simp
              go_wp2_with fail
              go_roundw
              case rel => exact ⟨k + 1, by omega, by go_num, trivial⟩
              case measure => simp [intOf]; omega
            · obtain rfl : k = us.length := by omega
              have hd2 : decide ((us.length : Int) < (us.length : Int)) = false := by simp
              go_wp2_with fail
              go_ret
              exact ⟨rfl, HW3.out⟩
    · go_wp2_with fail
      (with_reducible refine (new_no mx w1 hm).mono ?_)
      rintro e2 w2 ⟨rfl, rfl⟩
      go_wp2_with fail
      go_ret
      exact ⟨rfl, B1.out⟩
  · have hd5 : decide ((500 : Int) < (l.length : Int)) = true := by simp; omega
    go_wp2_with fail
    (with_reducible refine (works_any w1).mono ?_)
    rintro e2 w2 ⟨rfl, hb⟩
    have B2 := Lib.hid (below_after B1.out hb (Nat.le_refl _))
    clear hb
    go_wp2_with fail
    go_ret
    exact ⟨rfl, B2.out⟩
end Go.Proofs.Ytmgiglefabbmcaa
