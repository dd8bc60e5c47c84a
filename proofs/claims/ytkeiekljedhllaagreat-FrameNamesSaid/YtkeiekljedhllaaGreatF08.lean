/-
  Carried over and put together: contracts of this program's functions, and plain facts. No statement is proved in this text.
-/
import Derived.Deep.QuietTactic
import Derived.Test.YtkeiekljedhllaaGreatF04
import Derived.Test.YtkeiekljedhllaaGreatF05
import Derived.Test.YtkeiekljedhllaaGreatF06
import Derived.Test.YtkeiekljedhllaaGreatF07
set_option maxRecDepth 20000
namespace Go.Proofs.YtkeiekljedhllaaGreat
open Go Go.RowKit
/-- The cells of a tick. -/
theorem ticks_at {w w' : World} {A : Option Addr} {n c : Nat} {l : List Clocks.Tick} (h : Rcs encT 3 w (.slice A n c) l) (hw : Below w.heap.size w w') {k : Nat} (hk : k < l.length) :
    ∃ ad, A = some ad ∧ w'.cell? (ad.add (k * 3)) = some (.int .i64 l[k].1.1) ∧ w'.cell? ⟨(ad.add (k * 3)).block, (ad.add (k * 3)).off + 1, none⟩ = some (.int .i64 l[k].1.2) ∧ w'.cell? ⟨(ad.add (k * 3)).block, (ad.add (k * 3)).off + 2, none⟩ = some (.int .i64 l[k].2) := by
  obtain ⟨ad, rfl⟩ := h.addr (by omega)
  exact ⟨ad, rfl, h.first hw hk rfl, h.cell hw hk 1 (by omega) rfl, h.cell hw hk 2 (by omega) rfl⟩
theorem all_same {α : Type} {l m : List α} {k : Nat} (hl : l.length = m.length) (hk : l.length ≤ k) (ht : l.take k = m.take k) : l = m := by
  rwa [List.take_of_length_le hk, List.take_of_length_le (by omega)] at ht
set_option maxHeartbeats 4000000 in
theorem equalM_any (v u : Value) (l m : List Ros.Mm) (w : World) (h : Ms w v l) (h2 : Ms w u m) (hl : l.length ≤ 100000) :
    Calls Tryz.prog 100 #[v, u] w fun e w' => e = .returned (.bool (decide (l = m))) ∧ Below w.heap.size w w' := by
  have HI := Lib.hid h
  have HJ := Lib.hid h2
  obtain ⟨A, c, rfl, hz⟩ := h
  obtain ⟨B, d, rfl, hy⟩ := h2
  clear hz hy
  by_cases hlm : l.length = m.length
  · have hne : ((l.length : Int) != (m.length : Int)) = false := by simp; omega
    have HL := Lib.hid hlm
    clear hlm
    go_enter Tryz.func100, Tryz.ntmps100
    go_wp2_with fail
    clear hne
    go_loopw [13] (fun s5 wr => ∃ k : Nat, k ≤ l.length ∧ s5 = .int .i64 k ∧ Hid (l.take k = m.take k) ∧ Hid (Below w.heap.size w wr)) (fun s5 _ => l.length - (intOf s5).toNat)
    case atStart => exact ⟨0, by omega, rfl, Lib.hid rfl, Lib.hid (Below.refl _ _)⟩
    case round =>
      obtain ⟨k, hkl, rfl, HT, HW⟩ := hrel
      have i3 : (0 : Int) ≤ (k : Int) := by omega
      by_cases hlt : k < l.length
      · have hd : decide ((k : Int) < (l.length : Int)) = true := by simp; omega
        have hlt2 : k < m.length := by have := HL.out; omega
        have i4 : (k : Int) < (l.length : Int) := by omega
        have i5 : (k : Int) < (m.length : Int) := by omega
        obtain ⟨ad, rfl, c0, c1, c2, c3⟩ := Ms.at_ HI.out HW.out hlt
        obtain ⟨ae, rfl, d0, d1, d2, d3⟩ := Ms.at_ HJ.out HW.out hlt2
        have HS : Hid (l[k].1.1 = m[k].1.1 → l[k].1.2 = m[k].1.2 → l[k].2.1 = m[k].2.1 → l[k].2.2 = m[k].2.2 → l.take (k + 1) = m.take (k + 1)) := Lib.hid fun e0 e1 e2 e3 => same_next hlt hlt2 HT.out (by exact Prod.ext (Prod.ext e0 e1) (Prod.ext e2 e3))
        have HN0 : Hid (l[k].1.1 ≠ m[k].1.1 → l ≠ m) := Lib.hid fun e => same_not hlt hlt2 fun h => e (by rw [h])
        have HN1 : Hid (l[k].1.2 ≠ m[k].1.2 → l ≠ m) := Lib.hid fun e => same_not hlt hlt2 fun h => e (by rw [h])
        have HN2 : Hid (l[k].2.1 ≠ m[k].2.1 → l ≠ m) := Lib.hid fun e => same_not hlt hlt2 fun h => e (by rw [h])
        have HN3 : Hid (l[k].2.2 ≠ m[k].2.2 → l ≠ m) := Lib.hid fun e => same_not hlt hlt2 fun h => e (by rw [h])
        generalize l[k].1.1 = x0 at *
        generalize m[k].1.1 = y0 at *
        generalize l[k].1.2 = x1 at *
        generalize m[k].1.2 = y1 at *
        generalize l[k].2.1 = x2 at *
        generalize m[k].2.1 = y2 at *
        generalize l[k].2.2 = x3 at *
        generalize m[k].2.2 = y3 at *
        by_cases h0 : x0 = y0
        · subst h0
          by_cases h1 : x1 = y1
          · subst h1
            by_cases h2 : x2 = y2
            · subst h2
              by_cases h3 : x3 = y3
              · subst h3
                have HF := Lib.hid (HS.out rfl rfl rfl rfl)
                clear HS HN0 HN1 HN2 HN3
                go_wp2_with fail
                go_quiet (fail)
                go_wp2_with fail
                go_roundw
                case rel => exact ⟨k + 1, by omega, by go_num, HF, Lib.hid (below_drewN HW.out)⟩
                case measure => simp [intOf]; omega
              · have b3 : (x3 == y3) = false := by simpa using h3
                have HF := Lib.hid (HN3.out h3)
                clear HS HN0 HN1 HN2 HN3 h3
                go_wp2_with fail
                go_quiet (fail)
                go_wp2_with fail
                go_ret
                exact ⟨ret_bool (decide_eq_false HF.out).symm, below_drewN HW.out⟩
            · have b2 : (x2 == y2) = false := by simpa using h2
              have HF := Lib.hid (HN2.out h2)
              clear HS HN0 HN1 HN2 HN3 h2
              go_wp2_with fail
              go_quiet (fail)
              go_wp2_with fail
              go_ret
              exact ⟨ret_bool (decide_eq_false HF.out).symm, below_drewN HW.out⟩
          · have b1 : (x1 == y1) = false := by simpa using h1
            have HF := Lib.hid (HN1.out h1)
            clear HS HN0 HN1 HN2 HN3 h1
            go_wp2_with fail
            go_quiet (fail)
            go_wp2_with fail
            go_ret
            exact ⟨ret_bool (decide_eq_false HF.out).symm, below_drewN HW.out⟩
        · have b0 : (x0 == y0) = false := by simpa using h0
          have HF := Lib.hid (HN0.out h0)
          clear HS HN0 HN1 HN2 HN3 h0
          go_wp2_with fail
          go_quiet (fail)
          go_wp2_with fail
          go_ret
          exact ⟨ret_bool (decide_eq_false HF.out).symm, below_drewN HW.out⟩
      · have hd : decide ((k : Int) < (l.length : Int)) = false := by simp; omega
        have HS := Lib.hid (all_same HL.out (by omega) HT.out)
        go_wp2_with fail
        go_ret
        exact ⟨ret_bool (decide_eq_true HS.out).symm, HW.out⟩
  · have hd : ((l.length : Int) != (m.length : Int)) = true := by simp; omega
    have HS := Lib.hid (show l ≠ m from fun e => hlm (by rw [e]))
    clear hlm
    go_enter Tryz.func100, Tryz.ntmps100
    go_wp2_with fail
    go_ret
    exact ⟨ret_bool (decide_eq_false HS.out).symm, Below.refl _ _⟩
set_option maxHeartbeats 4000000 in
theorem equalT_any (v u : Value) (l m : List Clocks.Tick) (w : World) (h : Rcs encT 3 w v l) (h2 : Rcs encT 3 w u m) (hl : l.length ≤ 100000) :
    Calls Tryz.prog 90 #[v, u] w fun e w' => e = .returned (.bool (decide (l = m))) ∧ Below w.heap.size w w' := by
  have HI := Lib.hid h
  have HJ := Lib.hid h2
  obtain ⟨A, c, rfl, hz⟩ := h
  obtain ⟨B, d, rfl, hy⟩ := h2
  clear hz hy
  by_cases hlm : l.length = m.length
  · have hne : ((l.length : Int) != (m.length : Int)) = false := by simp; omega
    have HL := Lib.hid hlm
    clear hlm
    go_enter Tryz.func90, Tryz.ntmps90
    go_wp2_with fail
    clear hne
    go_loopw [13] (fun s5 wr => ∃ k : Nat, k ≤ l.length ∧ s5 = .int .i64 k ∧ Hid (l.take k = m.take k) ∧ Hid (Below w.heap.size w wr)) (fun s5 _ => l.length - (intOf s5).toNat)
    case atStart => exact ⟨0, by omega, rfl, Lib.hid rfl, Lib.hid (Below.refl _ _)⟩
    case round =>
      obtain ⟨k, hkl, rfl, HT, HW⟩ := hrel
      have i3 : (0 : Int) ≤ (k : Int) := by omega
      by_cases hlt : k < l.length
      · have hd : decide ((k : Int) < (l.length : Int)) = true := by simp; omega
        have hlt2 : k < m.length := by have := HL.out; omega
        have i4 : (k : Int) < (l.length : Int) := by omega
        have i5 : (k : Int) < (m.length : Int) := by omega
        obtain ⟨ad, rfl, c0, c1, c2⟩ := ticks_at HI.out HW.out hlt
        obtain ⟨ae, rfl, d0, d1, d2⟩ := ticks_at HJ.out HW.out hlt2
        have HS : Hid (l[k].1.1 = m[k].1.1 → l[k].1.2 = m[k].1.2 → l[k].2 = m[k].2 → l.take (k + 1) = m.take (k + 1)) := Lib.hid fun e0 e1 e2 => same_next hlt hlt2 HT.out (by exact Prod.ext (Prod.ext e0 e1) e2)
        have HN0 : Hid (l[k].1.1 ≠ m[k].1.1 → l ≠ m) := Lib.hid fun e => same_not hlt hlt2 fun h => e (by rw [h])
        have HN1 : Hid (l[k].1.2 ≠ m[k].1.2 → l ≠ m) := Lib.hid fun e => same_not hlt hlt2 fun h => e (by rw [h])
        have HN2 : Hid (l[k].2 ≠ m[k].2 → l ≠ m) := Lib.hid fun e => same_not hlt hlt2 fun h => e (by rw [h])
        generalize l[k].1.1 = x0 at *
        generalize m[k].1.1 = y0 at *
        generalize l[k].1.2 = x1 at *
        generalize m[k].1.2 = y1 at *
        generalize l[k].2 = x2 at *
        generalize m[k].2 = y2 at *
        by_cases h0 : x0 = y0
        · subst h0
          by_cases h1 : x1 = y1
          · subst h1
            by_cases h2 : x2 = y2
            · subst h2
              have HF := Lib.hid (HS.out rfl rfl rfl)
              clear HS HN0 HN1 HN2
              go_wp2_with fail
              go_quiet (fail)
              go_wp2_with fail
              go_roundw
              case rel => exact ⟨k + 1, by omega, by go_num, HF, Lib.hid (below_drewN HW.out)⟩
              case measure => simp [intOf]; omega
            · have b2 : (x2 == y2) = false := by simpa using h2
              have HF := Lib.hid (HN2.out h2)
              clear HS HN0 HN1 HN2 h2
              go_wp2_with fail
              go_quiet (fail)
              go_wp2_with fail
              go_ret
              exact ⟨ret_bool (decide_eq_false HF.out).symm, below_drewN HW.out⟩
          · have b1 : (x1 == y1) = false := by simpa using h1
            have HF := Lib.hid (HN1.out h1)
            clear HS HN0 HN1 HN2 h1
            go_wp2_with fail
            go_quiet (fail)
            go_wp2_with fail
            go_ret
            exact ⟨ret_bool (decide_eq_false HF.out).symm, below_drewN HW.out⟩
        · have b0 : (x0 == y0) = false := by simpa using h0
          have HF := Lib.hid (HN0.out h0)
          clear HS HN0 HN1 HN2 h0
          go_wp2_with fail
          go_quiet (fail)
          go_wp2_with fail
          go_ret
          exact ⟨ret_bool (decide_eq_false HF.out).symm, below_drewN HW.out⟩
      · have hd : decide ((k : Int) < (l.length : Int)) = false := by simp; omega
        have HS := Lib.hid (all_same HL.out (by omega) HT.out)
        go_wp2_with fail
        go_ret
        exact ⟨ret_bool (decide_eq_true HS.out).symm, HW.out⟩
  · have hd : ((l.length : Int) != (m.length : Int)) = true := by simp; omega
    have HS := Lib.hid (show l ≠ m from fun e => hlm (by rw [e]))
    clear hlm
    go_enter Tryz.func90, Tryz.ntmps90
    go_wp2_with fail
    go_ret
    exact ⟨ret_bool (decide_eq_false HS.out).symm, Below.refl _ _⟩
theorem sameM_is (v u : Value) (l m : List Ros.Mm) (w : World) (h : Ms w v l) (h2 : Ms w u m) (hl : l.length ≤ 100000) :
    Calls Tryz.prog 89 #[v, u] w fun e w' => e = .returned (.bool (decide (l = m))) ∧ Below w.heap.size w w' := by
  have HI := Lib.hid h
  have HJ := Lib.hid h2
  clear h h2
  go_enter Tryz.func89, Tryz.ntmps89
  go_wp2_with fail
  (with_reducible refine (equalM_any v u l m _ HI.out HJ.out hl).mono ?_)
  rintro e w1 ⟨rfl, hb⟩
  have HB := Lib.hid hb
  have HE : Hid (decide (l = m) = decide (l = m)) := Lib.hid rfl
  clear hb
  generalize hz : decide (l = m) = z at *
  rw [← hz] at HE
  have HZ := Lib.hid hz
  clear hz HE
  go_wp2_with fail
  go_ret
  exact ⟨ret_bool HZ.out.symm, HB.out⟩
/-- Two rows are the same: whose they are, their versions, and whom they do not reach, as sets. -/
def sameW (r s : RowSets.Row) : Bool := decide (r.1.1 = s.1.1) && (decide (r.1.2 = s.1.2) && (decide (r.2.1 = s.2.1) && sameB (Sets.setOf r.2.2) (Sets.setOf s.2.2)))
set_option maxHeartbeats 4000000 in
theorem rowSame_any (a i n b j p : Int) (A : Option Addr) (x c : Nat) (B : Option Addr) (y d : Nat) (l m : List Sets.Id2) (w : World) (h : Ids w (.slice A x c) l) (k : Ids w (.slice B y d) m) (hl : l.length ≤ 40000) (hm : m.length ≤ 40000) :
    Calls Tryz.prog 49 #[.agg #[.int .i64 a, .int .i64 i, .int .i64 n, .slice A x c], .agg #[.int .i64 b, .int .i64 j, .int .i64 p, .slice B y d]] w fun e w' => e = .returned (.bool (sameW ((a, i), n, l) ((b, j), p, m))) ∧ Below w.heap.size w w' := by
  have BB := Lib.hid (below_two w (.cells #[.int .i64 a, .int .i64 i, .int .i64 n, .slice A x c] 37) (.cells #[.int .i64 b, .int .i64 j, .int .i64 p, .slice B y d] 37))
  have X1 := Lib.hid (wbox_below (wbox_new w a i n (.slice A x c)) (below_one _ (.cells #[.int .i64 b, .int .i64 j, .int .i64 p, .slice B y d] 37)))
  have X2 : Hid (WBox ((w.alloc (.cells #[.int .i64 a, .int .i64 i, .int .i64 n, .slice A x c] 37)).alloc (.cells #[.int .i64 b, .int .i64 j, .int .i64 p, .slice B y d] 37)) (w.heap.size + 1) b j p (.slice B y d)) := Lib.hid (by simpa using wbox_new (w.alloc (.cells #[.int .i64 a, .int .i64 i, .int .i64 n, .slice A x c] 37)) b j p (.slice B y d))
  have HI := Lib.hid (h.below BB.out)
  have HJ := Lib.hid (k.below BB.out)
  have HE : Hid (sameW ((a, i), n, l) ((b, j), p, m) = (decide (a = b) && (decide (i = j) && (decide (n = p) && sameB (Sets.setOf l) (Sets.setOf m))))) := Lib.hid rfl
  clear h k
  obtain ⟨a1, a2, a3, a4⟩ := wbox_cells X1.out
  obtain ⟨b1, b2, b3, b4⟩ := wbox_cells X2.out
  generalize sameW ((a, i), n, l) ((b, j), p, m) = z0 at *
  by_cases h1 : a = b
  · subst h1
    by_cases h2 : i = j
    · subst h2
      by_cases h3 : n = p
      · subst h3
        rw [decide_eq_true rfl, decide_eq_true rfl, decide_eq_true rfl, Bool.true_and, Bool.true_and, Bool.true_and] at HE
        go_enter Tryz.func49, Tryz.ntmps49
        go_wp2_with fail
        (with_reducible refine (same_any _ _ l m _ HI.out HJ.out hl hm).mono ?_)
        rintro e w1 ⟨rfl, hb⟩
        have HB := Lib.hid (below_after BB.out hb (Nat.le_refl _))
        clear hb a1 a2 a3 a4 b1 b2 b3 b4
        generalize sameB (Sets.setOf l) (Sets.setOf m) = z at *
        go_wp2_with fail
        go_ret
        exact ⟨ret_bool HE.out.symm, HB.out⟩
      · have h4 : (n == p) = false := by simpa using h3
        rw [decide_eq_true rfl, decide_eq_true rfl, decide_eq_false h3, Bool.true_and, Bool.true_and, Bool.false_and] at HE
        clear h3
        go_enter Tryz.func49, Tryz.ntmps49
        go_wp2_with fail
        go_ret
        exact ⟨ret_bool HE.out.symm, BB.out⟩
    · have h4 : (i == j) = false := by simpa using h2
      rw [decide_eq_true rfl, decide_eq_false h2, Bool.true_and, Bool.false_and] at HE
      clear h2
      go_enter Tryz.func49, Tryz.ntmps49
      go_wp2_with fail
      go_ret
      exact ⟨ret_bool HE.out.symm, BB.out⟩
  · have h4 : (a == b) = false := by simpa using h1
    rw [decide_eq_false h1, Bool.false_and] at HE
    clear h1
    go_enter Tryz.func49, Tryz.ntmps49
    go_wp2_with fail
    go_ret
    exact ⟨ret_bool HE.out.symm, BB.out⟩
/-- Rows are the same, one by one. -/
def sameR : List RowSets.Row → List RowSets.Row → Bool
  | [], [] => true
  | r :: l, s :: m => sameW r s && sameR l m
  | _, _ => false
theorem sameR_len : ∀ {l m : List RowSets.Row}, l.length ≠ m.length → sameR l m = false
  | [], [], h => absurd rfl h
  | [], _ :: _, _ => rfl
  | _ :: _, [], _ => rfl
  | r :: l, s :: m, h => by rw [sameR, sameR_len (fun e => h (by simp [e])), Bool.and_false]
theorem sameR_at : ∀ {l m : List RowSets.Row} {k : Nat} (h : k < l.length) (h2 : k < m.length), sameW l[k] m[k] = false → sameR l m = false
  | r :: l, s :: m, 0, _, _, e => by
    have e : sameW r s = false := e
    rw [sameR, e, Bool.false_and]
  | r :: l, s :: m, k + 1, h, h2, e => by
    rw [sameR, sameR_at (l := l) (m := m) (k := k) (by simpa using h) (by simpa using h2) (by simpa using e), Bool.and_false]
theorem sameR_all : ∀ {l m : List RowSets.Row}, l.length = m.length → (∀ (k : Nat) (h : k < l.length) (h2 : k < m.length), sameW l[k] m[k] = true) → sameR l m = true
  | [], [], _, _ => rfl
  | [], _ :: _, h, _ => by simp at h
  | _ :: _, [], h, _ => by simp at h
  | r :: l, s :: m, h, e => by
    have e0 : sameW r s = true := e 0 (by simp) (by simp)
    rw [sameR, e0, Bool.true_and]
    exact sameR_all (by simpa using h) fun k h1 h2 => by
      have := e (k + 1) (by simpa using h1) (by simpa using h2)
      simpa using this
/-- A row's cells, whatever comes, and its list. -/
theorem rows_cells {w : World} {A : Option Addr} {n c : Nat} {l : List RowSets.Row} (h : RowsAt w (.slice A n c) l) {k : Nat} (hk : k < l.length) :
    ∃ ad B x d, A = some ad ∧ Ids w (.slice B x d) l[k].2.2 ∧ ∀ W, Below w.heap.size w W → W.cell? (ad.add (k * 4)) = some (.int .i64 l[k].1.1) ∧ W.cell? ⟨(ad.add (k * 4)).block, (ad.add (k * 4)).off + 1, none⟩ = some (.int .i64 l[k].1.2) ∧
      W.cell? ⟨(ad.add (k * 4)).block, (ad.add (k * 4)).off + 2, none⟩ = some (.int .i64 l[k].2.1) ∧ W.cell? ⟨(ad.add (k * 4)).block, (ad.add (k * 4)).off + 3, none⟩ = some (.slice B x d) := by
  obtain ⟨qs, h1, h2⟩ := h
  have hl := h2.len
  have hq : k < qs.length := by omega
  obtain ⟨r1, r2, r3⟩ := h2.at_ k hq hk
  obtain ⟨ad, rfl⟩ := h1.addr (by omega)
  refine ⟨ad, qs[k].2.2.1, qs[k].2.2.2.1, qs[k].2.2.2.2, rfl, r3, fun W hb => ?_⟩
  rw [← r1, ← r2]
  exact ⟨h1.first hb hq rfl, h1.cell hb hq 1 (by omega) rfl, h1.cell hb hq 2 (by omega) rfl, h1.cell hb hq 3 (by omega) rfl⟩
set_option maxHeartbeats 4000000 in
theorem equalW_any (v u : Value) (l m : List RowSets.Row) (w : World) (h : RowsAt w v l) (h2 : RowsAt w u m) (hl : l.length ≤ 100000) (sl : ∀ r ∈ l, r.2.2.length ≤ 40000) (sm : ∀ r ∈ m, r.2.2.length ≤ 40000) :
    Calls Tryz.prog 48 #[v, u, .func (.func 49) #[] #[]] w fun e w' => e = .returned (.bool (sameR l m)) ∧ Below w.heap.size w w' := by
  have HI := Lib.hid h
  have HJ := Lib.hid h2
  obtain ⟨A, c, rfl, hz⟩ := h.shape
  obtain ⟨B, d, rfl, hy⟩ := h2.shape
  clear hz hy h h2
  have SL := Lib.hid sl
  have SM := Lib.hid sm
  clear sl sm
  have hK : ∀ args W, (callFunc 49 args).run Tryz.prog W = .ok (.enter 49 args) W := fun args W => enters_fn Tryz.func49 (by kernel_rfl) rfl args W
  by_cases hlm : l.length = m.length
  · have hne : ((l.length : Int) != (m.length : Int)) = false := by simp; omega
    have HL := Lib.hid hlm
    clear hlm
    go_enter Tryz.func48, Tryz.ntmps48
    go_wp2_with fail
    clear hne
    go_loopw [17] (fun s5 wr => ∃ k : Nat, k ≤ l.length ∧ s5 = .int .i64 k ∧ Hid (∀ (j : Nat) (h : j < l.length) (h2 : j < m.length), j < k → sameW l[j] m[j] = true) ∧ Hid (Below w.heap.size w wr)) (fun s5 _ => l.length - (intOf s5).toNat)
    case atStart => exact ⟨0, by omega, rfl, Lib.hid (fun j _ _ h => by omega), Lib.hid (Below.refl _ _)⟩
    case round =>
      obtain ⟨k, hkl, rfl, HT, HW⟩ := hrel
      have i3 : (0 : Int) ≤ (k : Int) := by omega
      by_cases hlt : k < l.length
      · have hd : decide ((k : Int) < (l.length : Int)) = true := by simp; omega
        have hlt2 : k < m.length := by have := HL.out; omega
        have i4 : (k : Int) < (l.length : Int) := by omega
        have i5 : (k : Int) < (m.length : Int) := by omega
        obtain ⟨ad, A', nx, c', rfl, hs, hc⟩ := rows_cells HI.out hlt
        obtain ⟨ae, B', ny, d', rfl, ht, hd2⟩ := rows_cells HJ.out hlt2
        obtain ⟨c1, c2, c3, c4⟩ := hc _ HW.out
        have HD := Lib.hid fun (W : World) (hb : Below wr.heap.size wr W) => hd2 W (below_after HW.out hb (Nat.le_refl _))
        clear hc hd2
        have HS := Lib.hid hs
        have HU := Lib.hid ht
        have HY : Hid (sameW l[k] m[k] = true → ∀ (j : Nat) (h : j < l.length) (h2 : j < m.length), j < k + 1 → sameW l[j] m[j] = true) := Lib.hid fun e j h h2 hj => by
          by_cases e2 : j = k
          · subst e2; exact e
          · exact HT.out j h h2 (by omega)
        have HN := Lib.hid (sameR_at (l := l) (m := m) (k := k) hlt hlt2)
        have H1 := Lib.hid (SL.out _ (List.getElem_mem hlt))
        have H2 := Lib.hid (SM.out _ (List.getElem_mem hlt2))
        have HC := Lib.hid fun (W : World) (hb : Below wr.heap.size wr W) => rowSame_any l[k].1.1 l[k].1.2 l[k].2.1 m[k].1.1 m[k].1.2 m[k].2.1 A' nx c' B' ny d' l[k].2.2 m[k].2.2 W ((HS.out.below HW.out).below hb) ((HU.out.below HW.out).below hb) H1.out H2.out
        clear hs ht
        clear HS HU H1 H2
        generalize sameW l[k] m[k] = z at *
        generalize l[k].1.1 = x1 at *
        generalize l[k].1.2 = x2 at *
        generalize l[k].2.1 = x3 at *
        generalize l[k].2.2 = x4 at *
        generalize m[k].1.1 = y1 at *
        generalize m[k].1.2 = y2 at *
        generalize m[k].2.1 = y3 at *
        generalize m[k].2.2 = y4 at *
        have BB := Lib.hid (below_two wr (.cells #[.int .i64 x1, .int .i64 x2, .int .i64 x3, .slice A' nx c'] 37) (.cells #[.int .i64 y1, .int .i64 y2, .int .i64 y3, .slice B' ny d'] 37))
        have X0 := Lib.hid (wbox_new wr x1 x2 x3 (.slice A' nx c'))
        have X1 := Lib.hid (wbox_below X0.out (below_one _ (.cells #[.int .i64 y1, .int .i64 y2, .int .i64 y3, .slice B' ny d'] 37)))
        have X2 : Hid (WBox ((wr.alloc (.cells #[.int .i64 x1, .int .i64 x2, .int .i64 x3, .slice A' nx c'] 37)).alloc (.cells #[.int .i64 y1, .int .i64 y2, .int .i64 y3, .slice B' ny d'] 37)) (wr.heap.size + 1) y1 y2 y3 (.slice B' ny d')) := Lib.hid (by simpa using wbox_new (wr.alloc (.cells #[.int .i64 x1, .int .i64 x2, .int .i64 x3, .slice A' nx c'] 37)) y1 y2 y3 (.slice B' ny d'))
        obtain ⟨k1, k2, k3, k4⟩ := wbox_cells (wbox_new wr 0 0 0 (.slice none 0 0))
        obtain ⟨f1, f2, f3, f4⟩ := wbox_free (wbox_new wr 0 0 0 (.slice none 0 0))
        have z2 := wbox_new (wr.alloc (.cells #[.int .i64 x1, .int .i64 x2, .int .i64 x3, .slice A' nx c'] 37)) 0 0 0 (.slice none 0 0)
        simp only [World.size_alloc] at z2
        obtain ⟨l1, l2, l3, l4⟩ := wbox_cells z2
        obtain ⟨g1, g2, g3, g4⟩ := wbox_free z2
        clear z2
        obtain ⟨p1, p2, p3, p4⟩ := wbox_cells X1.out
        obtain ⟨q1, q2, q3, q4⟩ := wbox_cells X2.out
        obtain ⟨d1', d2', d3', d4'⟩ : (wr.alloc (.cells #[.int .i64 x1, .int .i64 x2, .int .i64 x3, .slice A' nx c'] 37)).cell? (ae.add (k * 4)) = some (.int .i64 y1) ∧ (wr.alloc (.cells #[.int .i64 x1, .int .i64 x2, .int .i64 x3, .slice A' nx c'] 37)).cell? ⟨(ae.add (k * 4)).block, (ae.add (k * 4)).off + 1, none⟩ = some (.int .i64 y2) ∧ (wr.alloc (.cells #[.int .i64 x1, .int .i64 x2, .int .i64 x3, .slice A' nx c'] 37)).cell? ⟨(ae.add (k * 4)).block, (ae.add (k * 4)).off + 2, none⟩ = some (.int .i64 y3) ∧ (wr.alloc (.cells #[.int .i64 x1, .int .i64 x2, .int .i64 x3, .slice A' nx c'] 37)).cell? ⟨(ae.add (k * 4)).block, (ae.add (k * 4)).off + 3, none⟩ = some (.slice B' ny d') := HD.out _ (below_one _ _)
        cases z
        · have HF := Lib.hid (HN.out rfl)
          clear HY HN
          go_wp2_with fail
          (with_reducible refine (HC.out _ BB.out).mono ?_)
          rintro e w1 ⟨rfl, hb⟩
          have B1 := Lib.hid (below_after (below_after HW.out BB.out (Nat.le_refl _)) hb (Nat.le_refl _))
          clear hb
          go_wp2_with fail
          go_ret
          exact ⟨ret_bool HF.out.symm, B1.out⟩
        · have HF := Lib.hid (HY.out rfl)
          clear HY HN
          go_wp2_with fail
          (with_reducible refine (HC.out _ BB.out).mono ?_)
          rintro e w1 ⟨rfl, hb⟩
          have B1 := Lib.hid (below_after (below_after HW.out BB.out (Nat.le_refl _)) hb (Nat.le_refl _))
          clear hb
          go_wp2_with fail
          go_roundw
          case rel => exact ⟨k + 1, by omega, by go_num, HF, B1⟩
          case measure => simp [intOf]; omega
      · have hd : decide ((k : Int) < (l.length : Int)) = false := by simp; omega
        have HS := Lib.hid (sameR_all HL.out fun j h h2 => HT.out j h h2 (by omega))
        go_wp2_with fail
        go_ret
        exact ⟨ret_bool HS.out.symm, HW.out⟩
  · have hd : ((l.length : Int) != (m.length : Int)) = true := by simp; omega
    have HS := Lib.hid (sameR_len hlm)
    clear hlm
    go_enter Tryz.func48, Tryz.ntmps48
    go_wp2_with fail
    go_ret
    exact ⟨ret_bool HS.out.symm, Below.refl _ _⟩
end Go.Proofs.YtkeiekljedhllaaGreat
namespace Go.Proofs.YtkeiekljedhllaaGreat
open Go Go.RowKit Sets RowSets
/-- May a row be, by itself? -/
def mayRowB (r : Row) : Bool := vidROW r.1.1 r.1.2 && (decide (1 ≤ r.2.1) && (decide (r.2.1 ≤ 1099511627776) && (allV r.2.2 && (risesB r.2.2 && !hasB r.1 r.2.2))))
set_option maxHeartbeats 2000000 in
theorem mayRow_any (a i n : Int) (A : Option Addr) (m c : Nat) (l : List Id2) (w : World) (h : Ids w (.slice A m c) l) (hl : l.length ≤ 100000) :
    Calls Tryz.prog 46 #[.agg #[.int .i64 a, .int .i64 i, .int .i64 n, .slice A m c]] w fun e w' => e = .returned (.bool (mayRowB ((a, i), n, l))) ∧ Below w.heap.size w w' := by
  have B0 := Lib.hid (below_one w (.cells #[.int .i64 a, .int .i64 i, .int .i64 n, .slice A m c] 37))
  have X0 := Lib.hid (wbox_new w a i n (.slice A m c))
  have HI := Lib.hid h
  have HR : Hid (mayRowB ((a, i), n, l) = (vidROW a i && (decide (1 ≤ n) && (decide (n ≤ 1099511627776) && (allV l && (risesB l && !hasB (a, i) l)))))) := Lib.hid rfl
  have C1 := Lib.hid fun W => may_any a i W
  have C2 := Lib.hid fun W (hb : Below w.heap.size w W) => mayAll_any _ l W (HI.out.below hb) hl
  have C3 := Lib.hid fun W (hb : Below w.heap.size w W) => rising_any _ l W (HI.out.below hb) hl
  have C4 := Lib.hid fun W (hb : Below w.heap.size w W) => has_any _ l a i W (HI.out.below hb) hl
  generalize mayRowB ((a, i), n, l) = R at *
  generalize vidROW a i = v at *
  generalize allV l = p at *
  generalize risesB l = q at *
  generalize hasB (a, i) l = z at *
  clear h
  obtain ⟨c1, c2, c3, c4⟩ := wbox_cells X0.out
  cases v
  · have HE := Lib.hid (show R = false by rw [HR.out]; rfl)
    go_enter Tryz.func46, Tryz.ntmps46
    go_wp2_with fail
    refine (C1.out _).mono ?_
    rintro e w1 ⟨rfl, hb⟩
    have B1 := Lib.hid (below_after B0.out hb (Nat.le_refl _))
    clear hb
    go_wp2_with fail
    go_ret
    exact ⟨ret_bool HE.out.symm, B1.out⟩
  · by_cases h1 : n < 1
    · have hd : decide (n < 1) = true := decide_eq_true h1
      have HE := Lib.hid (show R = false by rw [HR.out, decide_eq_false (show ¬ 1 ≤ n by omega)]; rfl)
      go_enter Tryz.func46, Tryz.ntmps46
      go_wp2_with fail
      refine (C1.out _).mono ?_
      rintro e w1 ⟨rfl, hb⟩
      have B1 := Lib.hid (below_after B0.out hb (Nat.le_refl _))
      have X1 := Lib.hid (wbox_below X0.out hb)
      clear hb c1 c2 c3 c4
      obtain ⟨c1, c2, c3, c4⟩ := wbox_cells X1.out
      go_wp2_with fail
      go_ret
      exact ⟨ret_bool HE.out.symm, B1.out⟩
    · by_cases h2 : 1099511627776 < n
      · have hd : decide (n < 1) = false := decide_eq_false h1
        have hd2 : decide (1099511627776 < n) = true := decide_eq_true h2
        have HE := Lib.hid (show R = false by rw [HR.out, decide_eq_false (show ¬ n ≤ 1099511627776 by omega)]; simp)
        go_enter Tryz.func46, Tryz.ntmps46
        go_wp2_with fail
        refine (C1.out _).mono ?_
        rintro e w1 ⟨rfl, hb⟩
        have B1 := Lib.hid (below_after B0.out hb (Nat.le_refl _))
        have X1 := Lib.hid (wbox_below X0.out hb)
        clear hb c1 c2 c3 c4
        obtain ⟨c1, c2, c3, c4⟩ := wbox_cells X1.out
        go_wp2_with fail
        go_ret
        exact ⟨ret_bool HE.out.symm, B1.out⟩
      · have hd : decide (n < 1) = false := decide_eq_false h1
        have hd2 : decide (1099511627776 < n) = false := decide_eq_false h2
        have HE := Lib.hid (show R = (p && (q && !z)) by rw [HR.out, decide_eq_true (show 1 ≤ n by omega), decide_eq_true (show n ≤ 1099511627776 by omega)]; rfl)
        go_enter Tryz.func46, Tryz.ntmps46
        go_wp2_with fail
        refine (C1.out _).mono ?_
        rintro e w1 ⟨rfl, hb⟩
        have B1 := Lib.hid (below_after B0.out hb (Nat.le_refl _))
        have X1 := Lib.hid (wbox_below X0.out hb)
        clear hb c1 c2 c3 c4
        obtain ⟨c1, c2, c3, c4⟩ := wbox_cells X1.out
        go_wp2_with fail
        refine (C2.out _ B1.out).mono ?_
        rintro e w2 ⟨rfl, hb⟩
        have B2 := Lib.hid (below_after B1.out hb (Nat.le_refl _))
        have X2 := Lib.hid (wbox_below X1.out hb)
        clear hb c1 c2 c3 c4
        obtain ⟨c1, c2, c3, c4⟩ := wbox_cells X2.out
        cases p
        · go_wp2_with fail
          go_ret
          exact ⟨ret_bool HE.out.symm, B2.out⟩
        · go_wp2_with fail
          refine (C3.out _ B2.out).mono ?_
          rintro e w3 ⟨rfl, hb⟩
          have B3 := Lib.hid (below_after B2.out hb (Nat.le_refl _))
          have X3 := Lib.hid (wbox_below X2.out hb)
          clear hb c1 c2 c3 c4
          obtain ⟨c1, c2, c3, c4⟩ := wbox_cells X3.out
          cases q
          · go_wp2_with fail
            go_ret
            exact ⟨ret_bool HE.out.symm, B3.out⟩
          · go_wp2_with fail
            refine (C4.out _ B3.out).mono ?_
            rintro e w4 ⟨rfl, hb⟩
            have B4 := Lib.hid (below_after B3.out hb (Nat.le_refl _))
            clear hb c1 c2 c3 c4
            cases z
            · go_wp2_with fail
              go_ret
              exact ⟨ret_bool HE.out.symm, B4.out⟩
            · go_wp2_with fail
              go_ret
              exact ⟨ret_bool HE.out.symm, B4.out⟩
end Go.Proofs.YtkeiekljedhllaaGreat
