/-
  Walks over the document's detector: a new one, the limit, whether it is late. No statement is proved in this text; it holds for every input that its premises let by.
-/
import Derived.Test.YtbglghfdfigefaaAccT
set_option maxRecDepth 20000
namespace Go.Proofs.Ytbglghfdfigefaa
open Go Go.RowKit
theorem rnew_yes (mn mx wi : Int) (h : newOk mn mx wi = true) (w : World) : Calls Try.prog 17 #[.int .i64 mn, .int .i64 mx, .int .i64 wi] w fun e w' => ∃ l v, e = .returned (.tuple #[.pointer (some ⟨l, 0, none⟩), .int .i64 0]) ∧ Det 54 w' w.heap.size l (Dt.new mn mx wi) v ∧ Below w.heap.size w w' := by
  obtain ⟨h1, h2, h3, h4, h5⟩ := newOk_yes h
  clear h
  have X := Lib.hid (Det.new w 54 (by decide) mn mx wi)
  have B := Lib.hid (below_one w (.cells #[.int .i64 mn, .int .i64 mx, .int .i64 wi, .bool false, .int .i64 0, .slice none 0 0] 54))
  go_enter Try.func17, Try.ntmps17
  go_wp2_with fail
  go_ret2
  exact ⟨_, _, rfl, X.out, B.out⟩
theorem rnew_no (mn mx wi : Int) (h : newOk mn mx wi = false) (w : World) : Calls Try.prog 17 #[.int .i64 mn, .int .i64 mx, .int .i64 wi] w fun e w' => e = .returned (.tuple #[.pointer none, .int .i64 1]) ∧ Below w.heap.size w w' := by
  have HN := Lib.hid (show ¬ (1 ≤ mn ∧ mn ≤ mx ∧ mx ≤ 4096 ∧ 1 ≤ wi ∧ wi ≤ 4096) by simpa [newOk] using h)
  clear h
  by_cases h1 : mn < 1
  · go_enter Try.func17, Try.ntmps17
    go_wp2_with fail
    go_ret2
    exact ⟨rfl, Below.refl _ _⟩
  · by_cases h2 : mx < mn
    · go_enter Try.func17, Try.ntmps17
      go_wp2_with fail
      go_ret2
      exact ⟨rfl, Below.refl _ _⟩
    · by_cases h3 : 4096 < mx
      · go_enter Try.func17, Try.ntmps17
        go_wp2_with fail
        go_ret2
        exact ⟨rfl, Below.refl _ _⟩
      · by_cases h4 : wi < 1
        · go_enter Try.func17, Try.ntmps17
          go_wp2_with fail
          go_ret2
          exact ⟨rfl, Below.refl _ _⟩
        · have h5 : 4096 < wi := by have := HN.out; omega
          go_enter Try.func17, Try.ntmps17
          go_wp2_with fail
          go_ret2
          exact ⟨rfl, Below.refl _ _⟩
/-- The document's mean, rounded up. -/
theorem ceil_up {s n : Int} (hs : 0 ≤ s) (hn : 0 < n) : (2 * s + n - 1).tdiv n = if (2 * s).tmod n = 0 then (2 * s).tdiv n else (2 * s).tdiv n + 1 := by
  rw [Int.tdiv_eq_ediv_of_nonneg (by omega), Int.tdiv_eq_ediv_of_nonneg (by omega), Int.tmod_eq_emod_of_nonneg (by omega)]
  have h1 := Int.mul_ediv_add_emod (2 * s) n
  have h2 := Int.emod_nonneg (2 * s) (b := n) (by omega)
  have h3 := Int.emod_lt_of_pos (2 * s) hn
  generalize (2 * s) / n = q at *
  generalize (2 * s) % n = r at *
  rw [← h1]
  split
  · rename_i hr
    rw [hr, show n * q + 0 + n - 1 = (n - 1) + n * q by omega, Int.add_mul_ediv_left _ _ (by omega), Int.ediv_eq_zero_of_lt (by omega) (by omega)]
    omega
  · rw [show n * q + r + n - 1 = (r - 1) + n * (q + 1) by rw [Int.mul_add]; omega, Int.add_mul_ediv_left _ _ (by omega), Int.ediv_eq_zero_of_lt (by omega) (by omega)]
    omega
theorem cut_limit {x : Dt} (h : x.cut.Ok) : x.cut.limit = if (lastn x.wi x.ga).length = 0 then x.mx else clampI (if (2 * sumI (lastn x.wi x.ga)).tmod (lastn x.wi x.ga).length = 0 then (2 * sumI (lastn x.wi x.ga)).tdiv (lastn x.wi x.ga).length else (2 * sumI (lastn x.wi x.ga)).tdiv (lastn x.wi x.ga).length + 1) x.mn x.mx := by
  unfold Dt.limit
  show (if (lastn x.wi x.ga).length = 0 then x.mx else clampI ((2 * sumI (lastn x.wi x.ga) + (lastn x.wi x.ga).length - 1).tdiv (lastn x.wi x.ga).length) x.mn x.mx) = _
  split
  · rfl
  · rename_i hz
    rw [ceil_up (s := sumI (lastn x.wi x.ga)) (sum_range h.each).1 (show (0 : Int) < ((lastn x.wi x.ga).length : Int) by omega)]
set_option maxHeartbeats 2000000 in
theorem rlimit_any (base l n : Nat) (d : Dt) (v : Value) (w : World) (h : Det 54 w base l d v) (hd : ROk n d) : Calls Try.prog 21 #[.pointer (some ⟨l, 0, none⟩)] w fun e w' => e = .returned (.int .i64 d.cut.limit) ∧ Below w.heap.size w w' := by
  have H := Lib.hid h
  obtain ⟨A, c, rfl, -, -⟩ := gaps_slice h.gaps
  have HC := Lib.hid (cut_limit hd.ok)
  have HS := Lib.hid (sum_range (l := lastn d.wi d.ga) hd.ok.each)
  have HG := Lib.hid (show ∀ g ∈ lastn d.wi d.ga, 0 ≤ g ∧ g ≤ 1099511627776 from hd.ok.each)
  have hwi : 1 ≤ d.wi := hd.ok.wi
  have hwh : d.wi ≤ 4096 := hd.ok.wh
  have HM : Hid (d.mn ≤ d.mx) := Lib.hid hd.ok.mx
  have hfew : d.ga.length ≤ 300 := by have := hd.len; have := hd.few; omega
  obtain ⟨f, hf⟩ : ∃ f : Nat, max 0 ((d.ga.length : Int) - d.wi) = f := ⟨(max 0 ((d.ga.length : Int) - d.wi)).toNat, by omega⟩
  have hfl : f ≤ d.ga.length := by omega
  obtain ⟨m, hm⟩ : ∃ m : Nat, f + m = d.ga.length := ⟨d.ga.length - f, by omega⟩
  have HL : Hid (lastn d.wi d.ga = d.ga.drop f) := Lib.hid (by unfold lastn; congr 1; omega)
  have HLL : Hid ((lastn d.wi d.ga).length = m) := Lib.hid (by rw [HL.out, List.length_drop]; omega)
  rw [HLL.out] at HC
  rw [HLL.out] at HS
  have HSt : Hid (∀ W, Below w.heap.size w W → (W.cell? ⟨l, 2, none⟩ = some (.int .i64 d.wi) ∧ W.cell? ⟨l, 5, none⟩ = some (.slice A d.ga.length c) ∧ Hid (Below w.heap.size w W))) := Lib.hid fun W hb =>
    have b := dbox_cells (dbox_below H.out.box hb)
    ⟨b.2.2.1, b.2.2.2.2.2, Lib.hid hb⟩
  have h2 : ∀ (W : World), (Builtin.max_ #[3, 3] 3 #[.int .i64 0, .int .i64 ((d.ga.length : Int) - d.wi)]).run Try.prog W = .ok (.int .i64 (f : Int)) W := fun W => by rw [← hf]; exact max_two _ _ W
  have hw1 : IntKind.i64.wrap ((d.ga.length : Int) - d.wi) = (d.ga.length : Int) - d.wi := IntWalk.i64_in _ ⟨by omega, by omega⟩
  have hw2 : IntKind.i64.wrap ((d.ga.length : Int) - (f : Int)) = (m : Int) := by rw [show (d.ga.length : Int) - (f : Int) = (m : Int) by omega]; exact IntWalk.i64_in _ ⟨by omega, by omega⟩
  have HF := Lib.hid hf
  have HMM := Lib.hid hm
  clear h hd hf hwi hwh
  go_enter Try.func21, Try.ntmps21
  go_wp2_with fail
  refine wp_region_held_drew (S := fun W => W.cell? ⟨l, 2, none⟩ = some (.int .i64 d.wi) ∧ W.cell? ⟨l, 5, none⟩ = some (.slice A d.ga.length c) ∧ Hid (Below w.heap.size w W)) (by kernel_rfl) ?_ (fun hHeld => ?_)
  · exact HSt.out _ (below_drewN (n := 1) (Below.refl _ _))
  (refine wpAnyH_take (i := 0) (oi := ⟨_, _, _, _, _, _⟩) (v := ?_) rfl (by kernel_rfl) (by kernel_rfl) (by kernel_rfl) (fun _ _ _ h => h) (Or.inl ⟨by rfl, ?_⟩) (by assumption) ?_; rotate_left 1; · (intro w hSw; (try dsimp only at hSw); go_simp; all_goals with_reducible rfl))
  try simp only [Act.put, List.setIfInBounds_toArray, List.set_cons_zero, List.set_cons_succ]
  (refine wpAnyH_take (i := 1) (oi := ⟨_, _, _, _, _, _⟩) (v := ?_) rfl (by kernel_rfl) (by kernel_rfl) (by kernel_rfl) (fun _ _ _ h => h) (Or.inl ⟨by rfl, ?_⟩) (by assumption) ?_; rotate_left 1; · (intro w hSw; (try dsimp only at hSw); go_simp; all_goals with_reducible rfl))
  try simp only [Act.put, List.setIfInBounds_toArray, List.set_cons_zero, List.set_cons_succ]
  (refine wpAnyH_take (i := 2) (oi := ⟨_, _, _, _, _, _⟩) (v := ?_) rfl (by kernel_rfl) (by kernel_rfl) (by kernel_rfl) (fun _ _ _ h => h) (Or.inl ⟨by rfl, ?_⟩) (by assumption) ?_; rotate_left 1; · (intro w hSw; (try dsimp only at hSw); go_simp; all_goals with_reducible rfl))
  try simp only [Act.put, List.setIfInBounds_toArray, List.set_cons_zero, List.set_cons_succ]
  (refine wpAnyH_take (i := 3) (oi := ⟨_, _, _, _, _, _⟩) (v := ?_) rfl (by kernel_rfl) (by kernel_rfl) (by kernel_rfl) (fun _ _ _ h => h) (Or.inl ⟨by rfl, ?_⟩) (by assumption) ?_; rotate_left 1; · (intro w hSw; (try dsimp only at hSw); go_simp; all_goals with_reducible rfl))
  try simp only [Act.put, List.setIfInBounds_toArray, List.set_cons_zero, List.set_cons_succ]
  (refine wpAnyH_take (i := 4) (oi := ⟨_, _, _, _, _, _⟩) (v := ?_) rfl (by kernel_rfl) (by kernel_rfl) (by kernel_rfl) (fun _ _ _ h => h) (Or.inl ⟨by rfl, ?_⟩) (by assumption) ?_; rotate_left 1; · (intro w hSw; (try dsimp only at hSw); go_simp; all_goals with_reducible rfl))
  try simp only [Act.put, List.setIfInBounds_toArray, List.set_cons_zero, List.set_cons_succ]
  (refine wpAnyH_take (i := 5) (oi := ⟨_, _, _, _, _, _⟩) (v := ?_) rfl (by kernel_rfl) (by kernel_rfl) (by kernel_rfl) (fun _ _ _ h => h) (Or.inl ⟨by rfl, ?_⟩) (by assumption) ?_; rotate_left 1; · (intro w hSw; (try dsimp only at hSw); go_simp; all_goals with_reducible rfl))
  try simp only [Act.put, List.setIfInBounds_toArray, List.set_cons_zero, List.set_cons_succ]
  (refine wpAnyH_take (i := 6) (oi := ⟨_, _, _, _, _, _⟩) (v := ?_) rfl (by kernel_rfl) (by kernel_rfl) (by kernel_rfl) (fun _ _ _ h => h) (Or.inl ⟨by rfl, ?_⟩) (by assumption) ?_; rotate_left 1; · (intro w hSw; (try dsimp only at hSw); go_simp; all_goals with_reducible rfl))
  try simp only [Act.put, List.setIfInBounds_toArray, List.set_cons_zero, List.set_cons_succ]
  (refine wpAnyH_take (i := 7) (oi := ⟨_, _, _, _, _, _⟩) (v := ?_) rfl (by kernel_rfl) (by kernel_rfl) (by kernel_rfl) (fun _ _ _ h => h) (Or.inl ⟨by rfl, ?_⟩) (by assumption) ?_; rotate_left 1; · (intro w hSw; (try dsimp only at hSw); go_simp; all_goals with_reducible rfl))
  try simp only [Act.put, List.setIfInBounds_toArray, List.set_cons_zero, List.set_cons_succ]
  (refine wpAnyH_take (i := 8) (oi := ⟨_, _, _, _, _, _⟩) (v := ?_) rfl (by kernel_rfl) (by kernel_rfl) (by kernel_rfl) (fun _ _ _ h => h) (Or.inl ⟨by rfl, ?_⟩) (by assumption) ?_; rotate_left 1; · (intro w hSw; (try dsimp only at hSw); go_simp; all_goals with_reducible rfl))
  try simp only [Act.put, List.setIfInBounds_toArray, List.set_cons_zero, List.set_cons_succ]
  (refine wpAnyH_take (i := 9) (oi := ⟨_, _, _, _, _, _⟩) (v := ?_) rfl (by kernel_rfl) (by kernel_rfl) (by kernel_rfl) (fun _ _ _ h => h) (Or.inl ⟨by rfl, ?_⟩) (by assumption) ?_; rotate_left 1; · (intro w hSw; (try dsimp only at hSw); go_simp; all_goals with_reducible rfl))
  try simp only [Act.put, List.setIfInBounds_toArray, List.set_cons_zero, List.set_cons_succ]
  (refine wpAnyH_take (i := 10) (oi := ⟨_, _, _, _, _, _⟩) (v := ?_) rfl (by kernel_rfl) (by kernel_rfl) (by kernel_rfl) (fun _ _ _ h => h) (Or.inl ⟨by rfl, ?_⟩) (by assumption) ?_; rotate_left 1; · (intro w hSw; (try dsimp only at hSw); go_simp; all_goals with_reducible rfl))
  try simp only [Act.put, List.setIfInBounds_toArray, List.set_cons_zero, List.set_cons_succ]
  (refine wpAnyH_take (i := 11) (oi := ⟨_, _, _, _, _, _⟩) (v := ?_) rfl (by kernel_rfl) (by kernel_rfl) (by kernel_rfl) (fun _ _ _ h => h) (Or.inl ⟨by rfl, ?_⟩) (by assumption) ?_; rotate_left 1; · (intro w hSw; (try dsimp only at hSw); go_simp; all_goals with_reducible rfl))
  try simp only [Act.put, List.setIfInBounds_toArray, List.set_cons_zero, List.set_cons_succ]
  refine wpAnyH_done (by kernel_rfl) ?_ _
  have B := hHeld.2.2
  obtain ⟨c0, c1, c2, c3, c4, c5⟩ := dbox_cells (dbox_below H.out.box B.out)
  clear hHeld h2 hw1 c2 c3 c4
  generalize hW : w.drew = w1 at *
  clear hW
  by_cases hz : m = 0
  · have E := Lib.hid (show d.cut.limit = d.mx by rw [HC.out, if_pos hz])
    subst hz
    go_wp2_with fail
    go_ret
    exact ⟨ret_int E.out.symm, B.out⟩
  · have E := Lib.hid (show d.cut.limit = _ by rw [HC.out, if_neg hz])
    have hpos : 0 < m := by omega
    have hn1 : ((m : Int) == 0) = false := by rw [beq_eq_false_iff_ne]; omega
    have HZ := Lib.hid hz
    clear hz HC
    go_wp2_with fail
    go_loopw [5, 6] (fun s5 s6 wr => ∃ k : Nat, k ≤ m ∧ s5 = .int .i64 (sumI ((lastn d.wi d.ga).take k)) ∧ s6 = .int .i64 ((f + k : Nat) : Int) ∧ wr = w1) (fun _ s6 _ => d.ga.length - (intOf s6).toNat)
    case atStart => exact ⟨0, by omega, rfl, rfl, rfl⟩
    case round =>
      obtain ⟨k, hk, rfl, rfl, rfl⟩ := hrel
      have i3 : (0 : Int) ≤ ((f + k : Nat) : Int) := by omega
      by_cases hlt : k < m
      · have hlt2 : f + k < d.ga.length := by omega
        have hd : decide (((f + k : Nat) : Int) < (d.ga.length : Int)) = true := by simp; omega
        have i4 : ((f + k : Nat) : Int) < (d.ga.length : Int) := by omega
        obtain ⟨ad, rfl⟩ := (gaps_rcs H.out.gaps).addr (by omega)
        have hcell := (gaps_rcs H.out.gaps).first B.out hlt2 (u := .int .i64 d.ga[f + k]) rfl
        rw [Nat.mul_one] at hcell
        have hlt3 : k < (lastn d.wi d.ga).length := by rw [HLL.out]; exact hlt
        have hel : (lastn d.wi d.ga)[k] = d.ga[f + k] := by simp only [HL.out, List.getElem_drop]
        have hst := Lib.hid (sum_take hlt3)
        rw [hel] at hst
        have hwr : IntKind.i64.wrap (sumI ((lastn d.wi d.ga).take k) + d.ga[f + k]) = sumI ((lastn d.wi d.ga).take (k + 1)) := by
          rw [← hst.out]
          have := sum_range (l := (lastn d.wi d.ga).take (k + 1)) fun g hg => HG.out g (List.mem_of_mem_take hg)
          rw [List.length_take] at this
          exact IntWalk.i64_in _ ⟨by omega, by omega⟩
        have hwk : IntKind.i64.wrap (((f + k : Nat) : Int) + 1) = ((f + (k + 1) : Nat) : Int) := by rw [show ((f + k : Nat) : Int) + 1 = ((f + (k + 1) : Nat) : Int) by omega]; exact IntWalk.i64_in _ ⟨by omega, by omega⟩
        generalize sumI ((lastn d.wi d.ga).take k) = s at *
        generalize hs' : sumI ((lastn d.wi d.ga).take (k + 1)) = s' at *
        have HS' := Lib.hid hs'
        clear hs' hel hlt3
        generalize d.ga[f + k] = y at *
        generalize hfk : f + k = fk at *
        have HFK := Lib.hid hfk
        clear hst hfk
        go_wp2_with fail
        go_roundw
        case rel => exact ⟨k + 1, by omega, by rw [HS'.out], by first | rfl | trivial, by first | rfl | trivial⟩
        case measure => (try simp [intOf]); have := HFK.out; omega
      · obtain rfl : k = m := by omega
        have hd : decide (((f + k : Nat) : Int) < (d.ga.length : Int)) = false := by simp; omega
        have hle : (d.ga.length : Int) ≤ ((f + k : Nat) : Int) := by omega
        rw [show (lastn d.wi d.ga).take k = lastn d.wi d.ga by rw [List.take_of_length_le (by rw [HLL.out]; exact Nat.le_refl _)]]
        have hr := HS.out
        generalize sumI (lastn d.wi d.ga) = s at *
        have h2 : IntKind.i64.wrap (2 * s) = 2 * s := IntWalk.i64_in _ ⟨by omega, by omega⟩
        have hq1 := Int.tdiv_le_self (b := (k : Int)) (show 0 ≤ 2 * s by omega)
        have hq0 := Int.tdiv_nonneg (show 0 ≤ 2 * s by omega) (show 0 ≤ (k : Int) by omega)
        have h5 : IntKind.i64.wrap ((2 * s).tdiv k) = (2 * s).tdiv k := IntWalk.i64_in _ ⟨by omega, by omega⟩
        have hm0 : 0 ≤ (2 * s).tmod k := Int.tmod_nonneg _ (by omega)
        have hm1 : (2 * s).tmod k < k := Int.tmod_lt_of_pos _ (by omega)
        have h6 : IntKind.i64.wrap ((2 * s).tmod k) = (2 * s).tmod k := IntWalk.i64_in _ ⟨by omega, by omega⟩
        have h7 : IntKind.i64.wrap ((2 * s).tdiv k + 1) = (2 * s).tdiv k + 1 := IntWalk.i64_in _ ⟨by omega, by omega⟩
        generalize hfk : f + k = fk at *
        clear hr hq1 hq0 hm0 hm1 hfk
        by_cases hr0 : (2 * s).tmod (k : Int) = 0
        · have hr1 : ((2 * s).tmod (k : Int) == 0) = true := by simpa using hr0
          rw [if_pos hr0] at E
          clear hr0
          by_cases ha : (2 * s).tdiv (k : Int) < d.mn
          · skip
            go_wp2_with fail
            go_ret
            exact ⟨ret_int (by have := HM.out; rw [E.out]; unfold clampI; omega), B.out⟩
          · have ha2 : d.mn ≤ (2 * s).tdiv (k : Int) := by omega
            by_cases hb : d.mx < (2 * s).tdiv (k : Int)
            · skip
              go_wp2_with fail
              go_ret
              exact ⟨ret_int (by have := HM.out; rw [E.out]; unfold clampI; omega), B.out⟩
            · have hb2 : (2 * s).tdiv (k : Int) ≤ d.mx := by omega
              go_wp2_with fail
              go_ret
              exact ⟨ret_int (by have := HM.out; rw [E.out]; unfold clampI; omega), B.out⟩
        · have hr1 : ((2 * s).tmod (k : Int) == 0) = false := by simpa using hr0
          rw [if_neg hr0] at E
          clear hr0
          by_cases ha : (2 * s).tdiv (k : Int) + 1 < d.mn
          · skip
            go_wp2_with fail
            go_ret
            exact ⟨ret_int (by have := HM.out; rw [E.out]; unfold clampI; omega), B.out⟩
          · have ha2 : d.mn ≤ (2 * s).tdiv (k : Int) + 1 := by omega
            by_cases hb : d.mx < (2 * s).tdiv (k : Int) + 1
            · skip
              go_wp2_with fail
              go_ret
              exact ⟨ret_int (by have := HM.out; rw [E.out]; unfold clampI; omega), B.out⟩
            · have hb2 : (2 * s).tdiv (k : Int) + 1 ≤ d.mx := by omega
              go_wp2_with fail
              go_ret
              exact ⟨ret_int (by have := HM.out; rw [E.out]; unfold clampI; omega), B.out⟩
set_option maxHeartbeats 1000000 in
theorem rlate_any (base l n : Nat) (d : Dt) (v : Value) (x : Int) (w : World) (h : Det 54 w base l d v) (hd : ROk n d) : Calls Try.prog 22 #[.pointer (some ⟨l, 0, none⟩), .int .i64 x] w fun e w' => e = .returned (.bool (d.cut.late x)) ∧ Below w.heap.size w w' := by
  have H := Lib.hid h
  have HD := Lib.hid hd
  have HN : Hid (d.bg = false → d.la = 0) := Lib.hid fun e => (hd.ok.no e).1
  have HSt : Hid (∀ W, Below w.heap.size w W → (W.cell? ⟨l, 3, none⟩ = some (.bool d.bg) ∧ W.cell? ⟨l, 4, none⟩ = some (.int .i64 d.la) ∧ Hid (Below w.heap.size w W))) := Lib.hid fun W hb =>
    have b := dbox_cells (dbox_below H.out.box hb)
    ⟨b.2.2.2.1, b.2.2.2.2.1, Lib.hid hb⟩
  have hr1 := (hd.time x).1
  have hr2 := (hd.time x).2
  have hr3 := hd.l0
  have hwr : IntKind.i64.wrap (d.time x - d.la) = d.time x - d.la := IntWalk.i64_in _ ⟨by omega, by omega⟩
  clear h hd hr1 hr2 hr3
  cases hb : d.bg
  · have E := Lib.hid (show d.cut.late x = false by unfold Dt.late; rw [show d.cut.bg = d.bg from rfl, hb]; rfl)
    rw [hb] at HSt
    clear hb
    go_enter Try.func22, Try.ntmps22
    go_wp2_with fail
    refine wp_region_held_drew (S := fun W => W.cell? ⟨l, 3, none⟩ = some (.bool false) ∧ W.cell? ⟨l, 4, none⟩ = some (.int .i64 d.la) ∧ Hid (Below w.heap.size w W)) (by kernel_rfl) ?_ (fun hHeld => ?_)
    · exact HSt.out _ (below_drewN (n := 1) (Below.refl _ _))
    (refine wpAnyH_take (i := 0) (oi := ⟨_, _, _, _, _, _⟩) (v := ?_) rfl (by kernel_rfl) (by kernel_rfl) (by kernel_rfl) (fun _ _ _ h => h) (Or.inl ⟨by rfl, ?_⟩) (by assumption) ?_; rotate_left 1; · (intro w hSw; (try dsimp only at hSw); go_simp; all_goals with_reducible rfl))
    try simp only [Act.put, List.setIfInBounds_toArray, List.set_cons_zero, List.set_cons_succ]
    (refine wpAnyH_take (i := 1) (oi := ⟨_, _, _, _, _, _⟩) (v := ?_) rfl (by kernel_rfl) (by kernel_rfl) (by kernel_rfl) (fun _ _ _ h => h) (Or.inl ⟨by rfl, ?_⟩) (by assumption) ?_; rotate_left 1; · (intro w hSw; (try dsimp only at hSw); go_simp; all_goals with_reducible rfl))
    try simp only [Act.put, List.setIfInBounds_toArray, List.set_cons_zero, List.set_cons_succ]
    (refine wpAnyH_take (i := 2) (oi := ⟨_, _, _, _, _, _⟩) (v := ?_) rfl (by kernel_rfl) (by kernel_rfl) (by kernel_rfl) (fun _ _ _ h => h) (Or.inl ⟨by rfl, ?_⟩) (by assumption) ?_; rotate_left 1; · (intro w hSw; (try dsimp only at hSw); go_simp; all_goals with_reducible rfl))
    try simp only [Act.put, List.setIfInBounds_toArray, List.set_cons_zero, List.set_cons_succ]
    (refine wpAnyH_take (i := 3) (oi := ⟨_, _, _, _, _, _⟩) (v := ?_) rfl (by kernel_rfl) (by kernel_rfl) (by kernel_rfl) (fun _ _ _ h => h) (Or.inl ⟨by rfl, ?_⟩) (by assumption) ?_; rotate_left 1; · (intro w hSw; (try dsimp only at hSw); go_simp; all_goals with_reducible rfl))
    try simp only [Act.put, List.setIfInBounds_toArray, List.set_cons_zero, List.set_cons_succ]
    (refine wpAnyH_take (i := 4) (oi := ⟨_, _, _, _, _, _⟩) (v := ?_) rfl (by kernel_rfl) (by kernel_rfl) (by kernel_rfl) (fun _ _ _ h => h) (Or.inl ⟨by rfl, ?_⟩) (by assumption) ?_; rotate_left 1; · (intro w hSw; (try dsimp only at hSw); go_simp; all_goals with_reducible rfl))
    try simp only [Act.put, List.setIfInBounds_toArray, List.set_cons_zero, List.set_cons_succ]
    refine wpAnyH_take (i := 5) (oi := ⟨_, _, _, _, _, _⟩) (v := undef) rfl (by kernel_rfl) (by kernel_rfl) (by kernel_rfl) (fun _ _ _ h => h) (Or.inr ⟨by kernel_rfl, rfl⟩) (by assumption) ?_
    try simp only [Act.put, List.setIfInBounds_toArray, List.set_cons_zero, List.set_cons_succ]
    refine wpAnyH_take (i := 6) (oi := ⟨_, _, _, _, _, _⟩) (v := undef) rfl (by kernel_rfl) (by kernel_rfl) (by kernel_rfl) (fun _ _ _ h => h) (Or.inr ⟨by kernel_rfl, rfl⟩) (by assumption) ?_
    try simp only [Act.put, List.setIfInBounds_toArray, List.set_cons_zero, List.set_cons_succ]
    refine wpAnyH_take (i := 7) (oi := ⟨_, _, _, _, _, _⟩) (v := undef) rfl (by kernel_rfl) (by kernel_rfl) (by kernel_rfl) (fun _ _ _ h => h) (Or.inr ⟨by kernel_rfl, rfl⟩) (by assumption) ?_
    try simp only [Act.put, List.setIfInBounds_toArray, List.set_cons_zero, List.set_cons_succ]
    refine wpAnyH_take (i := 8) (oi := ⟨_, _, _, _, _, _⟩) (v := undef) rfl (by kernel_rfl) (by kernel_rfl) (by kernel_rfl) (fun _ _ _ h => h) (Or.inr ⟨by kernel_rfl, rfl⟩) (by assumption) ?_
    try simp only [Act.put, List.setIfInBounds_toArray, List.set_cons_zero, List.set_cons_succ]
    refine wpAnyH_take (i := 9) (oi := ⟨_, _, _, _, _, _⟩) (v := undef) rfl (by kernel_rfl) (by kernel_rfl) (by kernel_rfl) (fun _ _ _ h => h) (Or.inr ⟨by kernel_rfl, rfl⟩) (by assumption) ?_
    try simp only [Act.put, List.setIfInBounds_toArray, List.set_cons_zero, List.set_cons_succ]
    refine wpAnyH_take (i := 10) (oi := ⟨_, _, _, _, _, _⟩) (v := undef) rfl (by kernel_rfl) (by kernel_rfl) (by kernel_rfl) (fun _ _ _ h => h) (Or.inr ⟨by kernel_rfl, rfl⟩) (by assumption) ?_
    try simp only [Act.put, List.setIfInBounds_toArray, List.set_cons_zero, List.set_cons_succ]
    refine wpAnyH_take (i := 11) (oi := ⟨_, _, _, _, _, _⟩) (v := undef) rfl (by kernel_rfl) (by kernel_rfl) (by kernel_rfl) (fun _ _ _ h => h) (Or.inr ⟨by kernel_rfl, rfl⟩) (by assumption) ?_
    try simp only [Act.put, List.setIfInBounds_toArray, List.set_cons_zero, List.set_cons_succ]
    refine wpAnyH_take (i := 12) (oi := ⟨_, _, _, _, _, _⟩) (v := undef) rfl (by kernel_rfl) (by kernel_rfl) (by kernel_rfl) (fun _ _ _ h => h) (Or.inr ⟨by kernel_rfl, rfl⟩) (by assumption) ?_
    try simp only [Act.put, List.setIfInBounds_toArray, List.set_cons_zero, List.set_cons_succ]
    refine wpAnyH_take (i := 13) (oi := ⟨_, _, _, _, _, _⟩) (v := undef) rfl (by kernel_rfl) (by kernel_rfl) (by kernel_rfl) (fun _ _ _ h => h) (Or.inr ⟨by kernel_rfl, rfl⟩) (by assumption) ?_
    try simp only [Act.put, List.setIfInBounds_toArray, List.set_cons_zero, List.set_cons_succ]
    refine wpAnyH_take (i := 14) (oi := ⟨_, _, _, _, _, _⟩) (v := undef) rfl (by kernel_rfl) (by kernel_rfl) (by kernel_rfl) (fun _ _ _ h => h) (Or.inr ⟨by kernel_rfl, rfl⟩) (by assumption) ?_
    try simp only [Act.put, List.setIfInBounds_toArray, List.set_cons_zero, List.set_cons_succ]
    refine wpAnyH_take (i := 15) (oi := ⟨_, _, _, _, _, _⟩) (v := undef) rfl (by kernel_rfl) (by kernel_rfl) (by kernel_rfl) (fun _ _ _ h => h) (Or.inr ⟨by kernel_rfl, rfl⟩) (by assumption) ?_
    try simp only [Act.put, List.setIfInBounds_toArray, List.set_cons_zero, List.set_cons_succ]
    (refine wpAnyH_take (i := 16) (oi := ⟨_, _, _, _, _, _⟩) (v := ?_) rfl (by kernel_rfl) (by kernel_rfl) (by kernel_rfl) (fun _ _ _ h => h) (Or.inl ⟨by rfl, ?_⟩) (by assumption) ?_; rotate_left 1; · (intro w hSw; (try dsimp only at hSw); go_simp; all_goals with_reducible rfl))
    try simp only [Act.put, List.setIfInBounds_toArray, List.set_cons_zero, List.set_cons_succ]
    (refine wpAnyH_take (i := 17) (oi := ⟨_, _, _, _, _, _⟩) (v := ?_) rfl (by kernel_rfl) (by kernel_rfl) (by kernel_rfl) (fun _ _ _ h => h) (Or.inl ⟨by rfl, ?_⟩) (by assumption) ?_; rotate_left 1; · (intro w hSw; (try dsimp only at hSw); go_simp; all_goals with_reducible rfl))
    try simp only [Act.put, List.setIfInBounds_toArray, List.set_cons_zero, List.set_cons_succ]
    refine wpAnyH_done (by kernel_rfl) ?_ _
    go_wp2_with fail
    go_ret
    exact ⟨ret_bool E.out.symm, hHeld.2.2.out⟩
  · have E := Lib.hid (show d.cut.late x = decide (d.cut.limit < d.time x - d.la) by unfold Dt.late; rw [show d.cut.bg = d.bg from rfl, hb]; rfl)
    rw [hb] at HSt
    clear hb
    go_enter Try.func22, Try.ntmps22
    go_wp2_with fail
    refine wp_region_held_drew (S := fun W => W.cell? ⟨l, 3, none⟩ = some (.bool true) ∧ W.cell? ⟨l, 4, none⟩ = some (.int .i64 d.la) ∧ Hid (Below w.heap.size w W)) (by kernel_rfl) ?_ (fun hHeld => ?_)
    · exact HSt.out _ (below_drewN (n := 1) (Below.refl _ _))
    (refine wpAnyH_take (i := 0) (oi := ⟨_, _, _, _, _, _⟩) (v := ?_) rfl (by kernel_rfl) (by kernel_rfl) (by kernel_rfl) (fun _ _ _ h => h) (Or.inl ⟨by rfl, ?_⟩) (by assumption) ?_; rotate_left 1; · (intro w hSw; (try dsimp only at hSw); go_simp; all_goals with_reducible rfl))
    try simp only [Act.put, List.setIfInBounds_toArray, List.set_cons_zero, List.set_cons_succ]
    (refine wpAnyH_take (i := 1) (oi := ⟨_, _, _, _, _, _⟩) (v := ?_) rfl (by kernel_rfl) (by kernel_rfl) (by kernel_rfl) (fun _ _ _ h => h) (Or.inl ⟨by rfl, ?_⟩) (by assumption) ?_; rotate_left 1; · (intro w hSw; (try dsimp only at hSw); go_simp; all_goals with_reducible rfl))
    try simp only [Act.put, List.setIfInBounds_toArray, List.set_cons_zero, List.set_cons_succ]
    (refine wpAnyH_take (i := 2) (oi := ⟨_, _, _, _, _, _⟩) (v := ?_) rfl (by kernel_rfl) (by kernel_rfl) (by kernel_rfl) (fun _ _ _ h => h) (Or.inl ⟨by rfl, ?_⟩) (by assumption) ?_; rotate_left 1; · (intro w hSw; (try dsimp only at hSw); go_simp; all_goals with_reducible rfl))
    try simp only [Act.put, List.setIfInBounds_toArray, List.set_cons_zero, List.set_cons_succ]
    (refine wpAnyH_take (i := 3) (oi := ⟨_, _, _, _, _, _⟩) (v := ?_) rfl (by kernel_rfl) (by kernel_rfl) (by kernel_rfl) (fun _ _ _ h => h) (Or.inl ⟨by rfl, ?_⟩) (by assumption) ?_; rotate_left 1; · (intro w hSw; (try dsimp only at hSw); go_simp; all_goals with_reducible rfl))
    try simp only [Act.put, List.setIfInBounds_toArray, List.set_cons_zero, List.set_cons_succ]
    (refine wpAnyH_take (i := 4) (oi := ⟨_, _, _, _, _, _⟩) (v := ?_) rfl (by kernel_rfl) (by kernel_rfl) (by kernel_rfl) (fun _ _ _ h => h) (Or.inl ⟨by rfl, ?_⟩) (by assumption) ?_; rotate_left 1; · (intro w hSw; (try dsimp only at hSw); go_simp; all_goals with_reducible rfl))
    try simp only [Act.put, List.setIfInBounds_toArray, List.set_cons_zero, List.set_cons_succ]
    first | (refine wpAnyH_take (i := 5) (oi := ⟨_, _, _, _, _, _⟩) (v := ?_) rfl (by kernel_rfl) (by kernel_rfl) (by kernel_rfl) (fun _ _ _ h => h) (Or.inl ⟨by rfl, ?_⟩) (by assumption) ?_; rotate_left 1; · (intro w hSw; (try dsimp only at hSw); go_simp; all_goals with_reducible rfl)) | refine wpAnyH_take (i := 5) (oi := ⟨_, _, _, _, _, _⟩) (v := undef) rfl (by kernel_rfl) (by kernel_rfl) (by kernel_rfl) (fun _ _ _ h => h) (Or.inr ⟨by kernel_rfl, rfl⟩) (by assumption) ?_
    try simp only [Act.put, List.setIfInBounds_toArray, List.set_cons_zero, List.set_cons_succ]
    first | (refine wpAnyH_take (i := 6) (oi := ⟨_, _, _, _, _, _⟩) (v := ?_) rfl (by kernel_rfl) (by kernel_rfl) (by kernel_rfl) (fun _ _ _ h => h) (Or.inl ⟨by rfl, ?_⟩) (by assumption) ?_; rotate_left 1; · (intro w hSw; (try dsimp only at hSw); go_simp; all_goals with_reducible rfl)) | refine wpAnyH_take (i := 6) (oi := ⟨_, _, _, _, _, _⟩) (v := undef) rfl (by kernel_rfl) (by kernel_rfl) (by kernel_rfl) (fun _ _ _ h => h) (Or.inr ⟨by kernel_rfl, rfl⟩) (by assumption) ?_
    try simp only [Act.put, List.setIfInBounds_toArray, List.set_cons_zero, List.set_cons_succ]
    first | (refine wpAnyH_take (i := 8) (oi := ⟨_, _, _, _, _, _⟩) (v := ?_) rfl (by kernel_rfl) (by kernel_rfl) (by kernel_rfl) (fun _ _ _ h => h) (Or.inl ⟨by rfl, ?_⟩) (by assumption) ?_; rotate_left 1; · (intro w hSw; (try dsimp only at hSw); go_simp; all_goals with_reducible rfl)) | refine wpAnyH_take (i := 8) (oi := ⟨_, _, _, _, _, _⟩) (v := undef) rfl (by kernel_rfl) (by kernel_rfl) (by kernel_rfl) (fun _ _ _ h => h) (Or.inr ⟨by kernel_rfl, rfl⟩) (by assumption) ?_
    try simp only [Act.put, List.setIfInBounds_toArray, List.set_cons_zero, List.set_cons_succ]
    first | (refine wpAnyH_take (i := 9) (oi := ⟨_, _, _, _, _, _⟩) (v := ?_) rfl (by kernel_rfl) (by kernel_rfl) (by kernel_rfl) (fun _ _ _ h => h) (Or.inl ⟨by rfl, ?_⟩) (by assumption) ?_; rotate_left 1; · (intro w hSw; (try dsimp only at hSw); go_simp; all_goals with_reducible rfl)) | refine wpAnyH_take (i := 9) (oi := ⟨_, _, _, _, _, _⟩) (v := undef) rfl (by kernel_rfl) (by kernel_rfl) (by kernel_rfl) (fun _ _ _ h => h) (Or.inr ⟨by kernel_rfl, rfl⟩) (by assumption) ?_
    try simp only [Act.put, List.setIfInBounds_toArray, List.set_cons_zero, List.set_cons_succ]
    first | (refine wpAnyH_take (i := 10) (oi := ⟨_, _, _, _, _, _⟩) (v := ?_) rfl (by kernel_rfl) (by kernel_rfl) (by kernel_rfl) (fun _ _ _ h => h) (Or.inl ⟨by rfl, ?_⟩) (by assumption) ?_; rotate_left 1; · (intro w hSw; (try dsimp only at hSw); go_simp; all_goals with_reducible rfl)) | refine wpAnyH_take (i := 10) (oi := ⟨_, _, _, _, _, _⟩) (v := undef) rfl (by kernel_rfl) (by kernel_rfl) (by kernel_rfl) (fun _ _ _ h => h) (Or.inr ⟨by kernel_rfl, rfl⟩) (by assumption) ?_
    try simp only [Act.put, List.setIfInBounds_toArray, List.set_cons_zero, List.set_cons_succ]
    first | (refine wpAnyH_take (i := 11) (oi := ⟨_, _, _, _, _, _⟩) (v := ?_) rfl (by kernel_rfl) (by kernel_rfl) (by kernel_rfl) (fun _ _ _ h => h) (Or.inl ⟨by rfl, ?_⟩) (by assumption) ?_; rotate_left 1; · (intro w hSw; (try dsimp only at hSw); go_simp; all_goals with_reducible rfl)) | refine wpAnyH_take (i := 11) (oi := ⟨_, _, _, _, _, _⟩) (v := undef) rfl (by kernel_rfl) (by kernel_rfl) (by kernel_rfl) (fun _ _ _ h => h) (Or.inr ⟨by kernel_rfl, rfl⟩) (by assumption) ?_
    try simp only [Act.put, List.setIfInBounds_toArray, List.set_cons_zero, List.set_cons_succ]
    first | (refine wpAnyH_take (i := 13) (oi := ⟨_, _, _, _, _, _⟩) (v := ?_) rfl (by kernel_rfl) (by kernel_rfl) (by kernel_rfl) (fun _ _ _ h => h) (Or.inl ⟨by rfl, ?_⟩) (by assumption) ?_; rotate_left 1; · (intro w hSw; (try dsimp only at hSw); go_simp; all_goals with_reducible rfl)) | refine wpAnyH_take (i := 13) (oi := ⟨_, _, _, _, _, _⟩) (v := undef) rfl (by kernel_rfl) (by kernel_rfl) (by kernel_rfl) (fun _ _ _ h => h) (Or.inr ⟨by kernel_rfl, rfl⟩) (by assumption) ?_
    try simp only [Act.put, List.setIfInBounds_toArray, List.set_cons_zero, List.set_cons_succ]
    refine wpAnyH_ready (rs := [7]) (by kernel_rfl) (by simp) ?_
    refine AllReadyH.cons (o := ⟨_, _, _, _, _, _⟩) rfl (fun Kq hKq => ?_) AllReadyH.nil
    go_simp
    have hHeld2 := hHeld; clear hHeld
    (go_at_call 28; (with_reducible refine (at_any l d v x _ (dbox_below H.out.box hHeld2.2.2.out) HD.out.l0 HD.out.l1 HN.out).mono ?_); rintro e w2 ⟨rfl, rfl⟩)
    refine hKq.out _ _ ?_ (fun hHeld => ?_)
    · (try dsimp only); exact hHeld2
    clear hKq Kq
    try simp only [Act.put, List.setIfInBounds_toArray, List.set_cons_zero, List.set_cons_succ]
    first | (refine wpAnyH_take (i := 12) (oi := ⟨_, _, _, _, _, _⟩) (v := ?_) rfl (by kernel_rfl) (by kernel_rfl) (by kernel_rfl) (fun _ _ _ h => h) (Or.inl ⟨by rfl, ?_⟩) (by assumption) ?_; rotate_left 1; · (intro w hSw; (try dsimp only at hSw); go_simp; all_goals with_reducible rfl)) | refine wpAnyH_take (i := 12) (oi := ⟨_, _, _, _, _, _⟩) (v := undef) rfl (by kernel_rfl) (by kernel_rfl) (by kernel_rfl) (fun _ _ _ h => h) (Or.inr ⟨by kernel_rfl, rfl⟩) (by assumption) ?_
    try simp only [Act.put, List.setIfInBounds_toArray, List.set_cons_zero, List.set_cons_succ]
    refine wpAnyH_ready (rs := [14]) (by kernel_rfl) (by simp) ?_
    refine AllReadyH.cons (o := ⟨_, _, _, _, _, _⟩) rfl (fun Kq hKq => ?_) AllReadyH.nil
    go_simp
    have hHeld2 := hHeld; clear hHeld
    (have HB2 := hHeld2.2.2; go_at_call 21; (with_reducible refine (rlimit_any base l n d v _ (H.out.below HB2.out) HD.out).mono ?_); rintro e w3 ⟨rfl, hb⟩; have HK := Lib.hid (below_after HB2.out hb (Nat.le_refl _)); clear hb)
    refine hKq.out _ _ ?_ (fun hHeld => ?_)
    · (try dsimp only); exact HSt.out _ HK.out
    clear hKq Kq
    try simp only [Act.put, List.setIfInBounds_toArray, List.set_cons_zero, List.set_cons_succ]
    first | (refine wpAnyH_take (i := 15) (oi := ⟨_, _, _, _, _, _⟩) (v := ?_) rfl (by kernel_rfl) (by kernel_rfl) (by kernel_rfl) (fun _ _ _ h => h) (Or.inl ⟨by rfl, ?_⟩) (by assumption) ?_; rotate_left 1; · (intro w hSw; (try dsimp only at hSw); go_simp; all_goals with_reducible rfl)) | refine wpAnyH_take (i := 15) (oi := ⟨_, _, _, _, _, _⟩) (v := undef) rfl (by kernel_rfl) (by kernel_rfl) (by kernel_rfl) (fun _ _ _ h => h) (Or.inr ⟨by kernel_rfl, rfl⟩) (by assumption) ?_
    try simp only [Act.put, List.setIfInBounds_toArray, List.set_cons_zero, List.set_cons_succ]
    (refine wpAnyH_take (i := 16) (oi := ⟨_, _, _, _, _, _⟩) (v := ?_) rfl (by kernel_rfl) (by kernel_rfl) (by kernel_rfl) (fun _ _ _ h => h) (Or.inl ⟨by rfl, ?_⟩) (by assumption) ?_; rotate_left 1; · (intro w hSw; (try dsimp only at hSw); go_simp; all_goals with_reducible rfl))
    try simp only [Act.put, List.setIfInBounds_toArray, List.set_cons_zero, List.set_cons_succ]
    (refine wpAnyH_take (i := 17) (oi := ⟨_, _, _, _, _, _⟩) (v := ?_) rfl (by kernel_rfl) (by kernel_rfl) (by kernel_rfl) (fun _ _ _ h => h) (Or.inl ⟨by rfl, ?_⟩) (by assumption) ?_; rotate_left 1; · (intro w hSw; (try dsimp only at hSw); go_simp; all_goals with_reducible rfl))
    try simp only [Act.put, List.setIfInBounds_toArray, List.set_cons_zero, List.set_cons_succ]
    refine wpAnyH_done (by kernel_rfl) ?_ _
    go_wp2_with fail
    go_ret
    exact ⟨ret_bool E.out.symm, HK.out⟩
    end Go.Proofs.Ytbglghfdfigefaa
