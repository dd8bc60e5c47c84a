/-
  Walks over the code of package code, continued: the inner function of the reader's method IDs. No statement is proved in this text; it holds for every input that its premises let by.
-/
import Derived.Test.YtmmpnnpkfghhcaaReadB
import Derived.Test.YtmmpnnpkfghhcaaIds
namespace Go.Proofs.Ytmmpnnpkfghhcaa
open Go.RowKit
/-- n IDs, one behind the other: the IDs, what was wrong, what is left. -/
def readN : Nat → List UInt8 → List (Int × Int) × Nat × List UInt8
  | 0, l => ([], 0, l)
  | n + 1, l =>
    let r := idP l
    if r.2.1 = 0 then
      let s := readN n r.2.2
      if s.2.1 = 0 then (((r.1.1 : Int), (r.1.2 : Int)) :: s.1, 0, s.2.2) else ([], s.2.1, [])
    else ([], r.2.1, [])
/-- The IDs d, and behind them s. -/
def behind (d : List (Int × Int)) (s : List (Int × Int) × Nat × List UInt8) : List (Int × Int) × Nat × List UInt8 := if s.2.1 = 0 then (d ++ s.1, 0, s.2.2) else ([], s.2.1, [])
theorem behind_nil (n : Nat) (l : List UInt8) : behind [] (readN n l) = readN n l := by
  cases n with
  | zero => rfl
  | succ n =>
    unfold behind
    rw [readN]
    split <;> rename_i h <;> revert h <;> simp only [] <;> repeat' split
    all_goals simp_all
theorem behind_one (d : List (Int × Int)) (n : Nat) (l : List UInt8) (h : (idP l).2.1 = 0) : behind d (readN (n + 1) l) = behind (d ++ [(((idP l).1.1 : Int), ((idP l).1.2 : Int))]) (readN n (idP l).2.2) := by
  rw [readN]
  simp only [if_pos h]
  unfold behind
  by_cases h2 : (readN n (idP l).2.2).2.1 = 0
  · simp [h2]
  · simp [h2]
theorem behind_bad (d : List (Int × Int)) (n : Nat) (l : List UInt8) (h : ¬ (idP l).2.1 = 0) : behind d (readN (n + 1) l) = ([], (idP l).2.1, []) := by
  rw [readN]
  simp only [if_neg h]
  unfold behind
  simp [h]
/-- A list: the IDs, what was wrong, what is left. -/
def idsP (l : List UInt8) : List (Int × Int) × Nat × List UInt8 :=
  let r := numS l 0
  if r.2.1 = 0 then
    if 64 < r.1 then ([], 40, [])
    else
      let s := readN r.1 r.2.2
      if s.2.1 = 0 then (if risesB s.1 = true then (s.1, 0, s.2.2) else ([], 4, [])) else ([], s.2.1, [])
  else ([], r.2.1, [])
/-- Block B has room for n IDs, of which the first ones are d. -/
def Row (w : World) (B n : Nat) (d : List (Int × Int)) : Prop := ∃ cs : Array Value, w.heap[B]? = some (.cells cs 23 (0, 0)) ∧ cs.size = n * 2 ∧ cs.toList.take (d.length * 2) = flat d
theorem row_made {w : World} {base B n : Nat} {xs : List Value} (h : w.ownsRow base 23 2 (.slice (some ⟨B, 0, none⟩) n n) n xs) : Row w B n [] := by
  rcases h.2 with ⟨e, _⟩ | ⟨g, cap, cur, e, _, hh, _, _, hs, _⟩
  · cases e
  · injection e with e1 _ e3
    injection e1 with e1
    injection e1 with e1
    subst e1 e3
    exact ⟨cur, hh, hs, by simp [flat]⟩
theorem row_kept {w w' : World} {B n g : Nat} {d : List (Int × Int)} (h : Row w B n d) (k : w.grownBy w' (some g)) (hne : B ≠ g) : Row w' B n d := by
  obtain ⟨cs, h1, h2, h3⟩ := h
  exact ⟨cs, (k.block B (row_lt h1) (fun e => hne (by injection e))).trans h1, h2, h3⟩
theorem row_cells {w : World} {B n k : Nat} {d : List (Int × Int)} (h : Row w B n d) (hk : k < n) : ∃ v u, w.cell? ⟨B, k * 2, none⟩ = some v ∧ w.cell? ⟨B, k * 2 + 1, none⟩ = some u ∧ w.frozen? ⟨B, k * 2, none⟩ = false ∧ w.frozen? ⟨B, k * 2 + 1, none⟩ = false := by
  obtain ⟨cs, h1, h2, h3⟩ := h
  refine ⟨cs[k * 2], cs[k * 2 + 1], ?_, ?_, by simp [World.frozen?, h1], by simp [World.frozen?, h1]⟩
  · rw [cell_of_row _ _ _ _ _ _ h1]; simp
  · rw [cell_of_row _ _ _ _ _ _ h1]; simp
theorem flat_snoc (d : List (Int × Int)) (x : Int × Int) : flat (d ++ [x]) = flat d ++ [.int .i64 x.1, .int .i64 x.2] := by
  induction d with
  | nil => rfl
  | cons y d ih => simp [flat, ih]
theorem row_store {w : World} {B n : Nat} {d : List (Int × Int)} (h : Row w B n d) (hk : d.length < n) (a i : Int) :
    Row ((w.setCell ⟨B, d.length * 2, none⟩ (.int .i64 a)).setCell ⟨B, d.length * 2 + 1, none⟩ (.int .i64 i)) B n (d ++ [(a, i)]) := by
  obtain ⟨cs, h1, h2, h3⟩ := h
  refine ⟨(cs.setIfInBounds (d.length * 2) (.int .i64 a)).setIfInBounds (d.length * 2 + 1) (.int .i64 i), ?_, by simpa using h2, ?_⟩
  · simp [World.setCell, Array.getElem?_modify, h1]
  · rw [flat_snoc, ← h3]
    simp only [Array.toList_setIfInBounds, List.length_append, List.length_cons, List.length_nil]
    apply List.ext_getElem?
    intro j
    have hl : cs.toList.length = n * 2 := by simpa using h2
    rw [List.getElem?_take]
    by_cases hj : j < (d.length + (0 + 1)) * 2
    · rw [if_pos hj, List.getElem?_set, List.getElem?_set]
      by_cases e1 : d.length * 2 + 1 = j
      · rw [if_pos e1, List.getElem?_append_right (by simp; omega)]
        subst e1
        simp [hl]
        rw [Nat.min_eq_left (by omega), show d.length * 2 + 1 - d.length * 2 = 1 by omega, if_pos (by omega)]
        rfl
      · rw [if_neg e1]
        by_cases e2 : d.length * 2 = j
        · rw [if_pos e2, List.getElem?_append_right (by simp; omega)]
          subst e2
          simp [hl]
          rw [Nat.min_eq_left (by omega), show d.length * 2 - d.length * 2 = 0 by omega, if_pos (by omega)]
          rfl
        · rw [if_neg e2, List.getElem?_append_left (by simp; omega), List.getElem?_take, if_pos (by omega)]
    · rw [if_neg hj, List.getElem?_eq_none (by simp; omega)]
theorem row_ids {w : World} {B n : Nat} {d : List (Int × Int)} (h : Row w B n d) (hn : d.length = n) : Ids w (.slice (some ⟨B, 0, none⟩) n n) d := by
  obtain ⟨cs, h1, h2, h3⟩ := h
  subst hn
  have hall : cs.toList = flat d := by rw [← h3, List.take_of_length_le (by simp; omega)]
  have hcell : ∀ j u, (flat d)[j]? = some u → w.cell? ((⟨B, 0, none⟩ : Addr).add j) = some u := by
    intro j u hu
    have e : (⟨B, 0, none⟩ : Addr).add j = ⟨B, j, none⟩ := by unfold Addr.add; split <;> simp_all
    rw [e, cell_of_row _ _ _ _ _ _ h1, ← Array.getElem?_toList, hall]
    exact hu
  refine ⟨some ⟨B, 0, none⟩, d.length, rfl, (fun h => by cases h), fun k hk => ⟨_, rfl, row_lt h1, hcell _ _ (flat_at d k hk).1, ?_⟩⟩
  rw [← add_odd]
  exact hcell _ _ (flat_at d k hk).2
/-- What the inner function of IDs leaves. -/
def GotIDs (g : Nat) (r : List (Int × Int) × Nat × List UInt8) (w : World) (x : Ending) (w' : World) : Prop :=
  ∃ v l f, x = .returned (.tuple #[v, .int .i64 r.2.1]) ∧ w.grownBy w' (some g) ∧ Rdr w' g l f ∧ (r.2.1 = 0 → Ids w' v r.1 ∧ l = r.2.2 ∧ f = 0)
theorem gotIDs_bad {g e f : Nat} {r : List (Int × Int) × Nat × List UInt8} {w w' : World} {l : List UInt8} {v : Value} (hr : r = ([], e, [])) (he : e ≠ 0) (hg : w.grownBy w' (some g)) (h : Rdr w' g l f) : GotIDs g r w (.returned (.tuple #[v, .int .i64 e])) w' := by
  subst hr
  exact ⟨v, l, f, rfl, hg, h, fun e0 => absurd e0 he⟩
theorem gotIDs_ok {g : Nat} {r : List (Int × Int) × Nat × List UInt8} {w w' : World} {l : List UInt8} {v : Value} {d : List (Int × Int)} (hr : r = (d, 0, l)) (hg : w.grownBy w' (some g)) (h : Rdr w' g l 0) (hi : Ids w' v d) : GotIDs g r w (.returned (.tuple #[v, .int .i64 0])) w' := by
  subst hr
  exact ⟨v, l, 0, rfl, hg, h, fun _ => ⟨hi, rfl, rfl⟩⟩
theorem var_set {w : World} {p g : Nat} (h : Var w p g) {a : Addr} (hp : p ≠ a.block) (v : Value) : Var (w.setCell a v) p g := (Below.heap_setCell w a v p hp).trans h
theorem var_row {w : World} {p g B n : Nat} {d : List (Int × Int)} (h : Var w p g) (k : Row w B n d) : p ≠ B := by
  rintro rfl
  obtain ⟨cs, h1, _⟩ := k
  unfold Var at h
  rw [h] at h1
  injection h1 with h1
  injection h1 with _ ht
  exact absurd ht (by decide)
theorem var_kept' {w w' : World} {p g : Nat} (h : Var w p g) (hne : p ≠ g) (k : w.grownBy w' (some g)) : Var w' p g :=
  (k.block p (row_lt h) (fun e => hne (by injection e))).trans h
/-- make of a list of n IDs. -/
theorem wpList_make_ids {ops : Array Oper} {rest : List Oper} {o : Oper} {a : Act} {Q : Exit → Act → World → Prop} (w : World) (hgd : o.guard = none) (x : Operand) (hop : o.op = .makeSlice 24 x x) (n : Nat) (hx : a.eval x = .int .i64 n) (hn : n ≤ 64)
    (h : ∀ w', Row w' w.heap.size n [] → w.grownBy w' none → wpList Try.prog ops Q rest (a.put o.dst (.slice (some ⟨w.heap.size, 0, none⟩) n n)) w') : wpList Try.prog ops Q (o :: rest) a w := by
  obtain ⟨i0, hi, hz0, hz1, hz2⟩ := info_parts info23
  exact wpList_make_full w hgd x x 24 hop w.heap.size 23 i0 (.agg #[.int .i64 0, .int .i64 0]) 2 Try.underlying24 hi hz0 hz1 .i64 .i64 n n n hx hx rfl rfl (by rw [hz2]; omega) (by unfold maxLen; omega) (Nat.le_refl _) fun w' h1 h2 => h w' (row_made h1) h2
theorem grown_wider {w w' : World} {row : Option Nat} (h : w.grownBy w' none) : w.grownBy w' row := ⟨h.os, h.tape, h.output, h.size, fun k hk _ => h.block k hk (by simp)⟩
set_option maxHeartbeats 1000000 in
set_option maxRecDepth 100000 in
theorem idsIn_any (p g : Nat) (l : List UInt8) (w : World) (hp : Var w p g) (hr : Rdr w g l 0) :
    Calls Try.prog 31 #[.pointer (some ⟨p, 0, none⟩)] w (GotIDs g (idsP l) w) := by
  have HN := Lib.hid (var_ne hp hr)
  have HP := Lib.hid hp
  have HR := Lib.hid hr
  have HL := Lib.hid (row_lt hr)
  generalize hq : numS l 0 = r
  have HQ := Lib.hid hq
  obtain ⟨n, e, t⟩ := r
  have hv := var_cell hp
  clear hp hr hq
  go_enter Try.func31, Try.ntmps31
  go_wp2_with fail
  refine (rNum_is g 0 l (n, e, t) _ HR.out HQ.out).mono ?_
  rintro x w1 ⟨rfl, h, k⟩
  have HG1 := Lib.hid h
  have HR1 := Lib.hid k
  have HP1 := Lib.hid (var_kept' HP.out HN.out h)
  clear h k hv
  by_cases h0 : e = 0
  · subst h0
    by_cases h64 : 64 < n
    · have hd : decide ((64 : Int) < (n : Int)) = true := by simp; omega
      have HE := Lib.hid (show idsP l = ([], 40, []) by unfold idsP; rw [HQ.out]; simp [h64])
      clear h64
      go_wp2_with fail
      go_ret2
      exact gotIDs_bad (e := 40) HE.out (by decide) HG1.out HR1.out
    · have hd : decide ((64 : Int) < (n : Int)) = false := by simp; omega
      have HE := Lib.hid (show idsP l = if (readN n t).2.1 = 0 then (if risesB (readN n t).1 = true then ((readN n t).1, 0, (readN n t).2.2) else ([], 4, [])) else ([], (readN n t).2.1, []) by unfold idsP; rw [HQ.out]; simp [h64])
      have hn : n ≤ 64 := by omega
      clear h64
      go_wp2_with (at_make; refine wpList_make_ids w1 rfl (.tmp 17) rfl n rfl hn ?_; intro w2 h1 h2)
      have HB := Lib.hid HG1.out.size
      have hgr := grown_wider (row := some g) h2
      have HG2 := Lib.hid (grown_trans HG1.out hgr)
      have HR2 := Lib.hid (show Rdr w2 g t 0 from (h2.block g (row_lt HR1.out) (by simp)).trans HR1.out)
      have HP2 := Lib.hid (var_kept' HP1.out HN.out hgr)
      have HW2 := Lib.hid h1
      clear h1 h2 hgr
      generalize w1.heap.size = B at *
      go_loopw [21] (fun s21 wr => ∃ (d : List (Int × Int)) (lk : List UInt8), d.length ≤ n ∧ s21 = .int .i64 (d.length : Int) ∧ behind d (readN (n - d.length) lk) = readN n t ∧ Row wr B n d ∧ Rdr wr g lk 0 ∧ Var wr p g ∧ w.grownBy wr (some g)) (fun s21 _ => n - (intOf s21).toNat)
      case atStart => exact ⟨[], t, by simp, rfl, behind_nil n t, HW2.out, HR2.out, HP2.out, HG2.out⟩
      case round =>
        obtain ⟨d, lk, hdn, rfl, hb, hrow, hrd, hvr, hgr⟩ := hrel
        have H1 := Lib.hid hb
        have H2 := Lib.hid hrow
        have H3 := Lib.hid hrd
        have H4 := Lib.hid hvr
        have H5 := Lib.hid hgr
        have hv := var_cell hvr
        clear hb hrow hrd hvr hgr
        by_cases hlt : d.length < n
        · have hd2 : decide ((d.length : Int) < (n : Int)) = true := by simp; omega
          generalize hq : idP lk = r
          obtain ⟨⟨a, i⟩, e, l'⟩ := r
          have HI := Lib.hid hq
          clear hq
          have HS := Lib.hid (show idS lk 0 = ((a, i), e, l') from HI.out)
          go_wp2_with fail
          refine (rID_any g 0 lk _ H3.out).mono ?_
          rw [HS.out]
          rintro x w3 ⟨rfl, h, k⟩
          have K2 := Lib.hid (row_kept H2.out h (by have := HL.out; have := HB.out; omega))
          have K3 := Lib.hid k
          have K4 := Lib.hid (var_kept' H4.out HN.out h)
          have K5 := Lib.hid (grown_trans H5.out h)
          clear h k hv
          obtain ⟨v0, v1, c0, c1, f0, f1⟩ := row_cells K2.out hlt
          have HW := Lib.hid (row_store K2.out hlt (a : Int) (i : Int))
          by_cases he : e = 0
          · subst he
            have HBH := Lib.hid (show behind (d ++ [((a : Int), (i : Int))]) (readN (n - (d.length + 1)) l') = readN n t by
              rw [← H1.out, show n - d.length = n - (d.length + 1) + 1 by omega, behind_one d _ lk (by rw [HI.out]), HI.out])
            go_wp2_with fail
            go_roundw
            case rel =>
              refine ⟨d ++ [((a : Int), (i : Int))], l', by simp; omega, by simp, by simpa using HBH.out, HW.out, ?_, ?_, ?_⟩
              · exact rdr_set (rdr_set K3.out (by show g ≠ B; have := HL.out; have := HB.out; omega) _) (by show g ≠ B; have := HL.out; have := HB.out; omega) _
              · exact var_set (var_set K4.out (var_row K4.out K2.out) _) (by exact var_row K4.out K2.out) _
              · exact grown_set (grown_set K5.out (by show w.heap.size ≤ B; exact HB.out) _) (by show w.heap.size ≤ B; exact HB.out) _
            case measure => simp [intOf]; omega
          · have de : ((e : Int) == 0) = false := by simp; omega
            have HE2 := Lib.hid (show readN n t = ([], e, []) by
              rw [← H1.out, show n - d.length = n - (d.length + 1) + 1 by omega, behind_bad d _ lk (by rw [HI.out]; exact he), HI.out])
            have HE3 := Lib.hid (show idsP l = ([], e, []) by
              rw [HE.out, HE2.out]
              exact if_neg he)
            have HE0 := Lib.hid he
            clear he
            go_wp2_with fail
            go_ret2
            refine gotIDs_bad HE3.out HE0.out (grown_set (grown_set K5.out ?_ _) ?_ _) (rdr_set (rdr_set K3.out ?_ _) ?_ _)
            · exact HB.out
            · exact HB.out
            · show g ≠ B
              have := HL.out; have := HB.out; omega
            · show g ≠ B
              have := HL.out; have := HB.out; omega
        · have hk : d.length = n := by omega
          have HE2 := Lib.hid (show readN n t = (d, 0, lk) by
            rw [← H1.out, hk, Nat.sub_self]
            simp [readN, behind])
          have HJ := Lib.hid (row_ids H2.out hk)
          have hd2 : decide ((d.length : Int) < (n : Int)) = false := by simp; omega
          have HE3 := Lib.hid (show idsP l = if risesB d = true then (d, 0, lk) else ([], 4, []) by
            rw [HE.out, HE2.out]
            exact if_pos rfl)
          have hz : d.length ≤ 100000 := by omega
          clear hk
          cases hrb : risesB d
          · have HRB := Lib.hid hrb
            have HE4 := Lib.hid (show idsP l = ([], 4, []) by rw [HE3.out, hrb]; rfl)
            clear hrb
            go_wp2_with fail
            refine (rising_any _ d _ HJ.out hz).mono ?_
            rintro x w3 ⟨rfl, h⟩
            rw [HRB.out]
            have K3 := Lib.hid (rdr_below H3.out h)
            have K5 := Lib.hid (grown_below H5.out h)
            clear h hv
            go_wp2_with fail
            go_ret2
            exact gotIDs_bad (e := 4) HE4.out (by decide) K5.out K3.out
          · have HRB := Lib.hid hrb
            have HE4 := Lib.hid (show idsP l = (d, 0, lk) by rw [HE3.out, hrb]; rfl)
            clear hrb
            go_wp2_with fail
            refine (rising_any _ d _ HJ.out hz).mono ?_
            rintro x w3 ⟨rfl, h⟩
            rw [HRB.out]
            have K1 := Lib.hid (HJ.out.below h)
            have K3 := Lib.hid (rdr_below H3.out h)
            have K5 := Lib.hid (grown_below H5.out h)
            clear h hv
            go_wp2_with fail
            go_ret2
            exact gotIDs_ok HE4.out K5.out K3.out K1.out
  · have de : ((e : Int) == 0) = false := by simp; omega
    have HE := Lib.hid (show idsP l = ([], e, []) by unfold idsP; rw [HQ.out]; simp [h0])
    have HE0 := Lib.hid h0
    clear h0
    go_wp2_with fail
    go_ret2
    exact gotIDs_bad HE.out HE0.out HG1.out HR1.out
end Go.Proofs.Ytmmpnnpkfghhcaa
