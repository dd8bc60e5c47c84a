/-
  Walks over the statements' own questions: are two lists of ticks the same, and are lists more than a statement goes through? No statement is proved in this text; it holds for every input that its premises let by.
-/
import Derived.Test.YtpmfanglgkohjaaUp
namespace Go.Proofs.Ytpmfanglgkohjaa
open Go.RowKit Sets Clocks
theorem take_same {l m : List Tick} {k : Nat} (h1 : k < l.length) (h2 : k < m.length) (ht : l.take k = m.take k) (e : l[k] = m[k]) : l.take (k + 1) = m.take (k + 1) := by
  rw [List.take_succ_eq_append_getElem h1, List.take_succ_eq_append_getElem h2, ht, e]
/-- Are two lists the same? -/
def sameT (l m : List Tick) : Bool := decide (l = m)
theorem sameT_at {l m : List Tick} {k : Nat} (h1 : k < l.length) (h2 : k < m.length) (hn : l[k] ≠ m[k]) : sameT l m = false := decide_eq_false fun e => by
  subst e
  exact hn rfl
theorem sameT_all {l m : List Tick} {k : Nat} (hlm : l.length = m.length) (hk : l.length ≤ k) (ht : l.take k = m.take k) : sameT l m = true := by
  rw [List.take_of_length_le hk, List.take_of_length_le (by omega)] at ht
  exact decide_eq_true ht
theorem tick_ext (a i n b j m : Int) : (((a, i), n) : Tick) = ((b, j), m) ↔ a = b ∧ i = j ∧ n = m := by
  constructor
  · intro h
    injection h with h1 h2
    injection h1 with h3 h4
    exact ⟨h3, h4, h2⟩
  · rintro ⟨rfl, rfl, rfl⟩
    rfl
set_option maxHeartbeats 1000000 in
theorem ticks_any (v u : Value) (l m : List Tick) (w : World) (h : Rcs encT 3 w v l) (k : Rcs encT 3 w u m) (hl : l.length ≤ 100000) :
    Calls Try.prog 17 #[v, u] w fun e w' => e = .returned (.bool (sameT l m)) ∧ Below w.heap.size w w' := by
  obtain ⟨A, c, rfl, hz⟩ := id h
  obtain ⟨B, d, rfl, hz2⟩ := id k
  clear hz hz2
  have HI := Lib.hid h
  have HJ := Lib.hid k
  clear h k
  by_cases hlm : l.length = m.length
  · have hd : ((l.length : Int) != (m.length : Int)) = false := by simp; omega
    have HL := Lib.hid hlm
    go_enter Try.func17, Try.ntmps17
    clear hlm
    go_wp2_with fail
    clear hd
    go_loopw [5] (fun s5 wr => ∃ k : Nat, k ≤ l.length ∧ s5 = .int .i64 k ∧ l.take k = m.take k ∧ Below w.heap.size w wr) (fun s5 _ => l.length - (intOf s5).toNat)
    case atStart => exact ⟨0, by omega, rfl, rfl, Below.refl _ _⟩
    case round =>
      obtain ⟨k, hkl, rfl, ht, hw⟩ := hrel
      have HW := Lib.hid hw
      have HT := Lib.hid ht
      clear hw ht
      by_cases hlt : k < l.length
      · have hd : decide ((k : Int) < (l.length : Int)) = true := by simp; omega
        have hlt2 : k < m.length := by have := HL.out; omega
        have i3 : (0 : Int) ≤ (k : Int) := by omega
        have i4 : (k : Int) < (l.length : Int) := by omega
        have i5 : (k : Int) < (m.length : Int) := by omega
        obtain ⟨ad, rfl, c1, c2, c3⟩ := HI.out.tick HW.out hlt
        obtain ⟨ae, rfl, c4, c5, c6⟩ := HJ.out.tick HW.out hlt2
        have HN : Hid (¬ (l[k].1.1 = m[k].1.1 ∧ l[k].1.2 = m[k].1.2 ∧ l[k].2 = m[k].2) → sameT l m = false) := Lib.hid fun hn => sameT_at hlt hlt2 fun e => hn ((tick_ext _ _ _ _ _ _).1 e)
        have HS : Hid (l[k].1.1 = m[k].1.1 ∧ l[k].1.2 = m[k].1.2 ∧ l[k].2 = m[k].2 → l.take (k + 1) = m.take (k + 1)) := Lib.hid fun he => take_same hlt hlt2 HT.out ((tick_ext _ _ _ _ _ _).2 he)
        generalize l[k].1.1 = a at *
        generalize l[k].1.2 = i at *
        generalize l[k].2 = n at *
        generalize m[k].1.1 = b at *
        generalize m[k].1.2 = j at *
        generalize m[k].2 = o at *
        by_cases hab : a = b
        · subst hab
          by_cases hij : i = j
          · subst hij
            by_cases hno : n = o
            · subst hno
              go_wp2_with fail
              go_quiet (fail)
              go_wp2_with fail
              go_roundw
              case rel => exact ⟨k + 1, by omega, by go_num, HS.out (by simp), below_drewN HW.out⟩
              case measure => simp [intOf]; omega
            · have h2 : (n == o) = false := by simpa using hno
              go_wp2_with fail
              go_quiet (fail)
              go_wp2_with fail
              go_ret
              exact ⟨ret_bool (HN.out fun h => hno h.2.2).symm, below_drewN HW.out⟩
          · have h2 : (i == j) = false := by simpa using hij
            go_wp2_with fail
            go_quiet (fail)
            go_wp2_with fail
            go_ret
            exact ⟨ret_bool (HN.out fun h => hij h.2.1).symm, below_drewN HW.out⟩
        · have h2 : (a == b) = false := by simpa using hab
          go_wp2_with fail
          go_quiet (fail)
          go_wp2_with fail
          go_ret
          exact ⟨ret_bool (HN.out fun h => hab h.1).symm, below_drewN HW.out⟩
      · have hd : decide ((k : Int) < (l.length : Int)) = false := by simp; omega
        have HS := Lib.hid (sameT_all HL.out (by omega) HT.out)
        go_wp2_with fail
        go_ret
        exact ⟨ret_bool HS.out.symm, HW.out⟩
  · have hd : ((l.length : Int) != (m.length : Int)) = true := by simp; omega
    have HN := Lib.hid (show sameT l m = false from decide_eq_false fun e => hlm (by rw [e]))
    go_enter Try.func17, Try.ntmps17
    go_wp2_with fail
    go_ret
    exact ⟨ret_bool HN.out.symm, Below.refl _ _⟩
/-- Is a slice longer than 150? -/
def bigV (v : Value) : Bool := decide (150 < lenOf v)
/-- Block g holds these slices. -/
def Lots (w : World) (g : Nat) (cs : List Value) : Prop := w.heap[g]? = some (.cells cs.toArray 24 (0, 0))
theorem lots_cell {w : World} {g : Nat} {cs : List Value} (h : Lots w g cs) {k : Nat} (hk : k < cs.length) : w.cell? ⟨g, k, none⟩ = some cs[k] := by
  unfold Lots at h
  rw [cell_of_row _ _ k _ _ _ h]
  simp [hk]
theorem big_take {cs : List Value} {k : Nat} (hk : k < cs.length) (h : (cs.take k).any bigV = false) (h2 : bigV cs[k] = false) : (cs.take (k + 1)).any bigV = false := by
  rw [List.take_succ_eq_append_getElem hk, List.any_append, h]
  simp [h2]
theorem big_yes {cs : List Value} {k : Nat} (hk : k < cs.length) (h2 : bigV cs[k] = true) : cs.any bigV = true := by
  rw [List.any_eq_true]
  exact ⟨cs[k], List.getElem_mem hk, h2⟩
set_option maxHeartbeats 1000000 in
theorem large_any (g : Nat) (cs : List Value) (w : World) (h : Lots w g cs) (hs : ∀ (k : Nat) (hk : k < cs.length), ∃ A n c, cs[k] = .slice A n c) (hn : cs.length ≤ 10) :
    Calls Try.prog 14 #[.slice (some ⟨g, 0, none⟩) cs.length cs.length] w fun e w' => e = .returned (.bool (cs.any bigV)) ∧ w = w' := by
  have HI := Lib.hid h
  have HS := Lib.hid hs
  clear h hs
  go_enter Try.func14, Try.ntmps14
  go_wp2_with fail
  go_loop [3] (fun s3 => ∃ k : Nat, k ≤ cs.length ∧ s3 = .int .i64 k ∧ (cs.take k).any bigV = false) (fun s3 => cs.length - (intOf s3).toNat)
  case atStart => exact ⟨0, by omega, rfl, rfl⟩
  case round =>
    obtain ⟨k, hkl, rfl, ht⟩ := hrel
    have HT := Lib.hid ht
    clear ht
    have i3 : (0 : Int) ≤ (k : Int) := by omega
    by_cases hlt : k < cs.length
    · have hd : decide ((k : Int) < (cs.length : Int)) = true := by simp; omega
      have i4 : (k : Int) < (cs.length : Int) := by omega
      obtain ⟨A, n, c, hv⟩ := HS.out k hlt
      have c1 := lots_cell HI.out hlt
      rw [hv] at c1
      by_cases hb : 150 < n
      · have HF := Lib.hid (big_yes hlt (by rw [hv]; unfold bigV; rw [lenOf_slice]; exact decide_eq_true hb))
        have hd2 : decide ((150 : Int) < (n : Int)) = true := by simp; omega
        clear hv
        go_wp2_with fail
        go_ret
        exact ⟨ret_bool HF.out.symm, rfl⟩
      · have HF := Lib.hid (big_take hlt HT.out (by rw [hv]; unfold bigV; rw [lenOf_slice]; exact decide_eq_false hb))
        have hd2 : decide ((150 : Int) < (n : Int)) = false := by simp; omega
        clear hv
        go_wp2_with fail
        go_round
        case rel => exact ⟨k + 1, by omega, by go_num, HF.out⟩
        case measure => simp [intOf]; omega
    · have hd : decide ((k : Int) < (cs.length : Int)) = false := by simp; omega
      have HF := Lib.hid (show cs.any bigV = false by have := HT.out; rwa [List.take_of_length_le (by omega)] at this)
      go_wp2_with fail
      go_ret
      exact ⟨ret_bool HF.out.symm, rfl⟩
theorem rcs_shape {w : World} {v : Value} {l : List Tick} (h : Rcs encT 3 w v l) : (∃ A n c, v = .slice A n c) ∧ lenOf v = l.length := by
  obtain ⟨A, c, rfl, _⟩ := h
  exact ⟨⟨A, _, c, rfl⟩, rfl⟩
theorem large_one (g : Nat) (v : Value) (l : List Tick) (w w0 : World) (h : Lots w g [v]) (h1 : Rcs encT 3 w0 v l) :
    Calls Try.prog 14 #[.slice (some ⟨g, 0, none⟩) 1 1] w fun e w' => e = .returned (.bool (decide (150 < l.length))) ∧ w = w' :=
  (large_any g [v] w h (fun k hk => by
    match k, hk with
    | 0, _ => exact (rcs_shape h1).1) (by simp)).mono fun e w' ⟨he, hw⟩ => ⟨he.trans (ret_bool (by simp [bigV, (rcs_shape h1).2])), hw⟩
theorem large_three (g : Nat) (v u t : Value) (l m n : List Tick) (w w0 : World) (h : Lots w g [v, u, t]) (h1 : Rcs encT 3 w0 v l) (h2 : Rcs encT 3 w0 u m) (h3 : Rcs encT 3 w0 t n) :
    Calls Try.prog 14 #[.slice (some ⟨g, 0, none⟩) 3 3] w fun e w' => e = .returned (.bool (decide (150 < l.length ∨ 150 < m.length ∨ 150 < n.length))) ∧ w = w' :=
  (large_any g [v, u, t] w h (fun k hk => by
    match k, hk with
    | 0, _ => exact (rcs_shape h1).1
    | 1, _ => exact (rcs_shape h2).1
    | 2, _ => exact (rcs_shape h3).1) (by simp)).mono fun e w' ⟨he, hw⟩ => ⟨he.trans (ret_bool (by simp [bigV, (rcs_shape h1).2, (rcs_shape h2).2, (rcs_shape h3).2])), hw⟩
end Go.Proofs.Ytpmfanglgkohjaa
