/-
  Carried over and put together: contracts of this program's functions, and plain facts. No statement is proved in this text.
-/
import Derived.Test.YtkoeplgkiogjlaaP07
import Derived.Test.YtkoeplgkiogjlaaP08
set_option maxRecDepth 20000
namespace Go.Proofs.Ytkoeplgkiogjlaa
open Go Go.RowKit
theorem rnew_yes (mn mx wi : Int) (h : newOk mn mx wi = true) (w : World) : Calls Try.prog 27 #[.int .i64 mn, .int .i64 mx, .int .i64 wi] w fun e w' => ∃ l v, e = .returned (.tuple #[.pointer (some ⟨l, 0, none⟩), .int .i64 0]) ∧ Det 83 w' w.heap.size l (Dt.new mn mx wi) v ∧ Below w.heap.size w w' := by
  obtain ⟨h1, h2, h3, h4, h5⟩ := newOk_yes h
  clear h
  have X := Lib.hid (Det.new w 83 (by decide) mn mx wi)
  have B := Lib.hid (below_oneX w (.cells #[.int .i64 mn, .int .i64 mx, .int .i64 wi, .bool false, .int .i64 0, .slice none 0 0] 83))
  go_enter Try.func27, Try.ntmps27
  go_wp2_with fail
  go_ret2
  exact ⟨_, _, rfl, X.out, B.out⟩
theorem rnew_no (mn mx wi : Int) (h : newOk mn mx wi = false) (w : World) : Calls Try.prog 27 #[.int .i64 mn, .int .i64 mx, .int .i64 wi] w fun e w' => e = .returned (.tuple #[.pointer none, .int .i64 1]) ∧ Below w.heap.size w w' := by
  have HN := Lib.hid (show ¬ (1 ≤ mn ∧ mn ≤ mx ∧ mx ≤ 4096 ∧ 1 ≤ wi ∧ wi ≤ 4096) by simpa [newOk] using h)
  clear h
  by_cases h1 : mn < 1
  · go_enter Try.func27, Try.ntmps27
    go_wp2_with fail
    go_ret2
    exact ⟨rfl, Below.refl _ _⟩
  · by_cases h2 : mx < mn
    · go_enter Try.func27, Try.ntmps27
      go_wp2_with fail
      go_ret2
      exact ⟨rfl, Below.refl _ _⟩
    · by_cases h3 : 4096 < mx
      · go_enter Try.func27, Try.ntmps27
        go_wp2_with fail
        go_ret2
        exact ⟨rfl, Below.refl _ _⟩
      · by_cases h4 : wi < 1
        · go_enter Try.func27, Try.ntmps27
          go_wp2_with fail
          go_ret2
          exact ⟨rfl, Below.refl _ _⟩
        · have h5 : 4096 < wi := by have := HN.out; omega
          go_enter Try.func27, Try.ntmps27
          go_wp2_with fail
          go_ret2
          exact ⟨rfl, Below.refl _ _⟩
/-- The document's mean, rounded up. -/
theorem ceil_up {s n : Int} (hs : 0 ≤ s) (hn : 0 < n) : (2 * s + n - 1).tdiv n = if (2 * s).tmod n = 0 then (2 * s).tdiv n else (2 * s).tdiv n + 1 := by
  rw [Int.tdiv_eq_ediv_of_nonneg (by omega), Int.tdiv_eq_ediv_of_nonneg (by omega), Int.tmod_eq_emod_of_nonneg (by omega)]
  have h1 := Int.mul_ediv_add_emod (2 * s) n
  have h2 := Int.emod_nonneg (2 * s) (b := n) (by omega)
  have h3 := Int.emod_lt_of_pos (2 * s) hn
  generalize (2 * s) / n = q at *
  generalize (2 * s) % n = r at *
  rw [← h1]
  split
  · rename_i hr
    rw [hr, show n * q + 0 + n - 1 = (n - 1) + n * q by omega, Int.add_mul_ediv_left _ _ (by omega), Int.ediv_eq_zero_of_lt (by omega) (by omega)]
    omega
  · rw [show n * q + r + n - 1 = (r - 1) + n * (q + 1) by rw [Int.mul_add]; omega, Int.add_mul_ediv_left _ _ (by omega), Int.ediv_eq_zero_of_lt (by omega) (by omega)]
    omega
theorem cut_limit {x : Dt} (h : x.cut.Ok) : x.cut.limit = if (lastn x.wi x.ga).length = 0 then x.mx else clampI (if (2 * sumI (lastn x.wi x.ga)).tmod (lastn x.wi x.ga).length = 0 then (2 * sumI (lastn x.wi x.ga)).tdiv (lastn x.wi x.ga).length else (2 * sumI (lastn x.wi x.ga)).tdiv (lastn x.wi x.ga).length + 1) x.mn x.mx := by
  unfold Dt.limit
  show (if (lastn x.wi x.ga).length = 0 then x.mx else clampI ((2 * sumI (lastn x.wi x.ga) + (lastn x.wi x.ga).length - 1).tdiv (lastn x.wi x.ga).length) x.mn x.mx) = _
  split
  · rfl
  · rename_i hz
    rw [ceil_up (s := sumI (lastn x.wi x.ga)) (sum_range h.each).1 (show (0 : Int) < ((lastn x.wi x.ga).length : Int) by omega)]
set_option maxHeartbeats 2000000 in
theorem rlimit_any (base l n : Nat) (d : Dt) (v : Value) (w : World) (h : Det 83 w base l d v) (hd : ROk n d) : Calls Try.prog 55 #[.pointer (some ⟨l, 0, none⟩)] w fun e w' => e = .returned (.int .i64 d.cut.limit) ∧ Below w.heap.size w w' := by
  have H := Lib.hid h
  obtain ⟨A, c, rfl, -, -⟩ := gaps_slice h.gaps
  have HC := Lib.hid (cut_limit hd.ok)
  have HS := Lib.hid (sum_range (l := lastn d.wi d.ga) hd.ok.each)
  have HG := Lib.hid (show ∀ g ∈ lastn d.wi d.ga, 0 ≤ g ∧ g ≤ 1099511627776 from hd.ok.each)
  have hwi : 1 ≤ d.wi := hd.ok.wi
  have hwh : d.wi ≤ 4096 := hd.ok.wh
  have HM : Hid (d.mn ≤ d.mx) := Lib.hid hd.ok.mx
  have hfew : d.ga.length ≤ 300 := by have := hd.len; have := hd.few; omega
  obtain ⟨f, hf⟩ : ∃ f : Nat, max 0 ((d.ga.length : Int) - d.wi) = f := ⟨(max 0 ((d.ga.length : Int) - d.wi)).toNat, by omega⟩
  have hfl : f ≤ d.ga.length := by omega
  obtain ⟨m, hm⟩ : ∃ m : Nat, f + m = d.ga.length := ⟨d.ga.length - f, by omega⟩
  have HL : Hid (lastn d.wi d.ga = d.ga.drop f) := Lib.hid (by unfold lastn; congr 1; omega)
  have HLL : Hid ((lastn d.wi d.ga).length = m) := Lib.hid (by rw [HL.out, List.length_drop]; omega)
  rw [HLL.out] at HC
  rw [HLL.out] at HS
  have HSt : Hid (∀ W, Below w.heap.size w W → (W.cell? ⟨l, 2, none⟩ = some (.int .i64 d.wi) ∧ W.cell? ⟨l, 5, none⟩ = some (.slice A d.ga.length c) ∧ Hid (Below w.heap.size w W))) := Lib.hid fun W hb =>
    have b := dbox_cells (dbox_below H.out.box hb)
    ⟨b.2.2.1, b.2.2.2.2.2, Lib.hid hb⟩
  have h2 : ∀ (W : World), (Builtin.max_ #[3, 3] 3 #[.int .i64 0, .int .i64 ((d.ga.length : Int) - d.wi)]).run Try.prog W = .ok (.int .i64 (f : Int)) W := fun W => by rw [← hf]; exact max_two _ _ W
  have hw1 : IntKind.i64.wrap ((d.ga.length : Int) - d.wi) = (d.ga.length : Int) - d.wi := IntWalk.i64_in _ ⟨by omega, by omega⟩
  have hw2 : IntKind.i64.wrap ((d.ga.length : Int) - (f : Int)) = (m : Int) := by rw [show (d.ga.length : Int) - (f : Int) = (m : Int) by omega]; exact IntWalk.i64_in _ ⟨by omega, by omega⟩
  have HF := Lib.hid hf
  have HMM := Lib.hid hm
  clear h hd hf hwi hwh
  go_enter Try.func55, Try.ntmps55
  go_wp2_with fail
  refine wp_region_held_drew (S := fun W => W.cell? ⟨l, 2, none⟩ = some (.int .i64 d.wi) ∧ W.cell? ⟨l, 5, none⟩ = some (.slice A d.ga.length c) ∧ Hid (Below w.heap.size w W)) (by kernel_rfl) ?_ (fun hHeld => ?_)
  · exact HSt.out _ (below_drewN (n := 1) (Below.refl _ _))
  (refine wpAnyH_take (i := 0) (oi := ⟨_, _, _, _, _, _⟩) (v := ?_) rfl (by kernel_rfl) (by kernel_rfl) (by kernel_rfl) (fun _ _ _ h => h) (Or.inl ⟨by rfl, ?_⟩) (by assumption) ?_; rotate_left 1; · (intro w hSw; (try dsimp only at hSw); go_simp; all_goals with_reducible rfl))
  try simp only [Act.put, List.setIfInBounds_toArray, List.set_cons_zero, List.set_cons_succ]
  (refine wpAnyH_take (i := 1) (oi := ⟨_, _, _, _, _, _⟩) (v := ?_) rfl (by kernel_rfl) (by kernel_rfl) (by kernel_rfl) (fun _ _ _ h => h) (Or.inl ⟨by rfl, ?_⟩) (by assumption) ?_; rotate_left 1; · (intro w hSw; (try dsimp only at hSw); go_simp; all_goals with_reducible rfl))
  try simp only [Act.put, List.setIfInBounds_toArray, List.set_cons_zero, List.set_cons_succ]
  (refine wpAnyH_take (i := 2) (oi := ⟨_, _, _, _, _, _⟩) (v := ?_) rfl (by kernel_rfl) (by kernel_rfl) (by kernel_rfl) (fun _ _ _ h => h) (Or.inl ⟨by rfl, ?_⟩) (by assumption) ?_; rotate_left 1; · (intro w hSw; (try dsimp only at hSw); go_simp; all_goals with_reducible rfl))
  try simp only [Act.put, List.setIfInBounds_toArray, List.set_cons_zero, List.set_cons_succ]
  (refine wpAnyH_take (i := 3) (oi := ⟨_, _, _, _, _, _⟩) (v := ?_) rfl (by kernel_rfl) (by kernel_rfl) (by kernel_rfl) (fun _ _ _ h => h) (Or.inl ⟨by rfl, ?_⟩) (by assumption) ?_; rotate_left 1; · (intro w hSw; (try dsimp only at hSw); go_simp; all_goals with_reducible rfl))
  try simp only [Act.put, List.setIfInBounds_toArray, List.set_cons_zero, List.set_cons_succ]
  (refine wpAnyH_take (i := 4) (oi := ⟨_, _, _, _, _, _⟩) (v := ?_) rfl (by kernel_rfl) (by kernel_rfl) (by kernel_rfl) (fun _ _ _ h => h) (Or.inl ⟨by rfl, ?_⟩) (by assumption) ?_; rotate_left 1; · (intro w hSw; (try dsimp only at hSw); go_simp; all_goals with_reducible rfl))
  try simp only [Act.put, List.setIfInBounds_toArray, List.set_cons_zero, List.set_cons_succ]
  (refine wpAnyH_take (i := 5) (oi := ⟨_, _, _, _, _, _⟩) (v := ?_) rfl (by kernel_rfl) (by kernel_rfl) (by kernel_rfl) (fun _ _ _ h => h) (Or.inl ⟨by rfl, ?_⟩) (by assumption) ?_; rotate_left 1; · (intro w hSw; (try dsimp only at hSw); go_simp; all_goals with_reducible rfl))
  try simp only [Act.put, List.setIfInBounds_toArray, List.set_cons_zero, List.set_cons_succ]
  (refine wpAnyH_take (i := 6) (oi := ⟨_, _, _, _, _, _⟩) (v := ?_) rfl (by kernel_rfl) (by kernel_rfl) (by kernel_rfl) (fun _ _ _ h => h) (Or.inl ⟨by rfl, ?_⟩) (by assumption) ?_; rotate_left 1; · (intro w hSw; (try dsimp only at hSw); go_simp; all_goals with_reducible rfl))
  try simp only [Act.put, List.setIfInBounds_toArray, List.set_cons_zero, List.set_cons_succ]
  (refine wpAnyH_take (i := 7) (oi := ⟨_, _, _, _, _, _⟩) (v := ?_) rfl (by kernel_rfl) (by kernel_rfl) (by kernel_rfl) (fun _ _ _ h => h) (Or.inl ⟨by rfl, ?_⟩) (by assumption) ?_; rotate_left 1; · (intro w hSw; (try dsimp only at hSw); go_simp; all_goals with_reducible rfl))
  try simp only [Act.put, List.setIfInBounds_toArray, List.set_cons_zero, List.set_cons_succ]
  (refine wpAnyH_take (i := 8) (oi := ⟨_, _, _, _, _, _⟩) (v := ?_) rfl (by kernel_rfl) (by kernel_rfl) (by kernel_rfl) (fun _ _ _ h => h) (Or.inl ⟨by rfl, ?_⟩) (by assumption) ?_; rotate_left 1; · (intro w hSw; (try dsimp only at hSw); go_simp; all_goals with_reducible rfl))
  try simp only [Act.put, List.setIfInBounds_toArray, List.set_cons_zero, List.set_cons_succ]
  (refine wpAnyH_take (i := 9) (oi := ⟨_, _, _, _, _, _⟩) (v := ?_) rfl (by kernel_rfl) (by kernel_rfl) (by kernel_rfl) (fun _ _ _ h => h) (Or.inl ⟨by rfl, ?_⟩) (by assumption) ?_; rotate_left 1; · (intro w hSw; (try dsimp only at hSw); go_simp; all_goals with_reducible rfl))
  try simp only [Act.put, List.setIfInBounds_toArray, List.set_cons_zero, List.set_cons_succ]
  (refine wpAnyH_take (i := 10) (oi := ⟨_, _, _, _, _, _⟩) (v := ?_) rfl (by kernel_rfl) (by kernel_rfl) (by kernel_rfl) (fun _ _ _ h => h) (Or.inl ⟨by rfl, ?_⟩) (by assumption) ?_; rotate_left 1; · (intro w hSw; (try dsimp only at hSw); go_simp; all_goals with_reducible rfl))
  try simp only [Act.put, List.setIfInBounds_toArray, List.set_cons_zero, List.set_cons_succ]
  (refine wpAnyH_take (i := 11) (oi := ⟨_, _, _, _, _, _⟩) (v := ?_) rfl (by kernel_rfl) (by kernel_rfl) (by kernel_rfl) (fun _ _ _ h => h) (Or.inl ⟨by rfl, ?_⟩) (by assumption) ?_; rotate_left 1; · (intro w hSw; (try dsimp only at hSw); go_simp; all_goals with_reducible rfl))
  try simp only [Act.put, List.setIfInBounds_toArray, List.set_cons_zero, List.set_cons_succ]
  refine wpAnyH_done (by kernel_rfl) ?_ _
  have B := hHeld.2.2
  obtain ⟨c0, c1, c2, c3, c4, c5⟩ := dbox_cells (dbox_below H.out.box B.out)
  clear hHeld h2 hw1 c2 c3 c4
  generalize hW : w.drew = w1 at *
  clear hW
  by_cases hz : m = 0
  · have E := Lib.hid (show d.cut.limit = d.mx by rw [HC.out, if_pos hz])
    subst hz
    go_wp2_with fail
    go_ret
    exact ⟨ret_int E.out.symm, B.out⟩
  · have E := Lib.hid (show d.cut.limit = _ by rw [HC.out, if_neg hz])
    have hpos : 0 < m := by omega
    have hn1 : ((m : Int) == 0) = false := by rw [beq_eq_false_iff_ne]; omega
    have HZ := Lib.hid hz
    clear hz HC
    go_wp2_with fail
    go_loopw [5, 6] (fun s5 s6 wr => ∃ k : Nat, k ≤ m ∧ s5 = .int .i64 (sumI ((lastn d.wi d.ga).take k)) ∧ s6 = .int .i64 ((f + k : Nat) : Int) ∧ wr = w1) (fun _ s6 _ => d.ga.length - (intOf s6).toNat)
    case atStart => exact ⟨0, by omega, rfl, rfl, rfl⟩
    case round =>
      obtain ⟨k, hk, rfl, rfl, rfl⟩ := hrel
      have i3 : (0 : Int) ≤ ((f + k : Nat) : Int) := by omega
      by_cases hlt : k < m
      · have hlt2 : f + k < d.ga.length := by omega
        have hd : decide (((f + k : Nat) : Int) < (d.ga.length : Int)) = true := by simp; omega
        have i4 : ((f + k : Nat) : Int) < (d.ga.length : Int) := by omega
        obtain ⟨ad, rfl⟩ := (gaps_rcs H.out.gaps).addr (by omega)
        have hcell := (gaps_rcs H.out.gaps).first B.out hlt2 (u := .int .i64 d.ga[f + k]) rfl
        rw [Nat.mul_one] at hcell
        have hlt3 : k < (lastn d.wi d.ga).length := by rw [HLL.out]; exact hlt
        have hel : (lastn d.wi d.ga)[k] = d.ga[f + k] := by simp only [HL.out, List.getElem_drop]
        have hst := Lib.hid (sum_take hlt3)
        rw [hel] at hst
        have hwr : IntKind.i64.wrap (sumI ((lastn d.wi d.ga).take k) + d.ga[f + k]) = sumI ((lastn d.wi d.ga).take (k + 1)) := by
          rw [← hst.out]
          have := sum_range (l := (lastn d.wi d.ga).take (k + 1)) fun g hg => HG.out g (List.mem_of_mem_take hg)
          rw [List.length_take] at this
          exact IntWalk.i64_in _ ⟨by omega, by omega⟩
        have hwk : IntKind.i64.wrap (((f + k : Nat) : Int) + 1) = ((f + (k + 1) : Nat) : Int) := by rw [show ((f + k : Nat) : Int) + 1 = ((f + (k + 1) : Nat) : Int) by omega]; exact IntWalk.i64_in _ ⟨by omega, by omega⟩
        generalize sumI ((lastn d.wi d.ga).take k) = s at *
        generalize hs' : sumI ((lastn d.wi d.ga).take (k + 1)) = s' at *
        have HS' := Lib.hid hs'
        clear hs' hel hlt3
        generalize d.ga[f + k] = y at *
        generalize hfk : f + k = fk at *
        have HFK := Lib.hid hfk
        clear hst hfk
        go_wp2_with fail
        go_roundw
        case rel => exact ⟨k + 1, by omega, by rw [HS'.out], by first | rfl | trivial, by first | rfl | trivial⟩
        case measure => (try simp [intOf]); have := HFK.out; omega
      · obtain rfl : k = m := by omega
        have hd : decide (((f + k : Nat) : Int) < (d.ga.length : Int)) = false := by simp; omega
        have hle : (d.ga.length : Int) ≤ ((f + k : Nat) : Int) := by omega
        rw [show (lastn d.wi d.ga).take k = lastn d.wi d.ga by rw [List.take_of_length_le (by rw [HLL.out]; exact Nat.le_refl _)]]
        have hr := HS.out
        generalize sumI (lastn d.wi d.ga) = s at *
        have h2 : IntKind.i64.wrap (2 * s) = 2 * s := IntWalk.i64_in _ ⟨by omega, by omega⟩
        have hq1 := Int.tdiv_le_self (b := (k : Int)) (show 0 ≤ 2 * s by omega)
        have hq0 := Int.tdiv_nonneg (show 0 ≤ 2 * s by omega) (show 0 ≤ (k : Int) by omega)
        have h5 : IntKind.i64.wrap ((2 * s).tdiv k) = (2 * s).tdiv k := IntWalk.i64_in _ ⟨by omega, by omega⟩
        have hm0 : 0 ≤ (2 * s).tmod k := Int.tmod_nonneg _ (by omega)
        have hm1 : (2 * s).tmod k < k := Int.tmod_lt_of_pos _ (by omega)
        have h6 : IntKind.i64.wrap ((2 * s).tmod k) = (2 * s).tmod k := IntWalk.i64_in _ ⟨by omega, by omega⟩
        have h7 : IntKind.i64.wrap ((2 * s).tdiv k + 1) = (2 * s).tdiv k + 1 := IntWalk.i64_in _ ⟨by omega, by omega⟩
        generalize hfk : f + k = fk at *
        clear hr hq1 hq0 hm0 hm1 hfk
        by_cases hr0 : (2 * s).tmod (k : Int) = 0
        · have hr1 : ((2 * s).tmod (k : Int) == 0) = true := by simpa using hr0
          rw [if_pos hr0] at E
          clear hr0
          by_cases ha : (2 * s).tdiv (k : Int) < d.mn
          · skip
            go_wp2_with fail
            go_ret
            exact ⟨ret_int (by have := HM.out; rw [E.out]; unfold clampI; omega), B.out⟩
          · have ha2 : d.mn ≤ (2 * s).tdiv (k : Int) := by omega
            by_cases hb : d.mx < (2 * s).tdiv (k : Int)
            · skip
              go_wp2_with fail
              go_ret
              exact ⟨ret_int (by have := HM.out; rw [E.out]; unfold clampI; omega), B.out⟩
            · have hb2 : (2 * s).tdiv (k : Int) ≤ d.mx := by omega
              go_wp2_with fail
              go_ret
              exact ⟨ret_int (by have := HM.out; rw [E.out]; unfold clampI; omega), B.out⟩
        · have hr1 : ((2 * s).tmod (k : Int) == 0) = false := by simpa using hr0
          rw [if_neg hr0] at E
          clear hr0
          by_cases ha : (2 * s).tdiv (k : Int) + 1 < d.mn
          · skip
            go_wp2_with fail
            go_ret
            exact ⟨ret_int (by have := HM.out; rw [E.out]; unfold clampI; omega), B.out⟩
          · have ha2 : d.mn ≤ (2 * s).tdiv (k : Int) + 1 := by omega
            by_cases hb : d.mx < (2 * s).tdiv (k : Int) + 1
            · skip
              go_wp2_with fail
              go_ret
              exact ⟨ret_int (by have := HM.out; rw [E.out]; unfold clampI; omega), B.out⟩
            · have hb2 : (2 * s).tdiv (k : Int) + 1 ≤ d.mx := by omega
              go_wp2_with fail
              go_ret
              exact ⟨ret_int (by have := HM.out; rw [E.out]; unfold clampI; omega), B.out⟩
set_option maxHeartbeats 1000000 in
theorem rlate_any (base l n : Nat) (d : Dt) (v : Value) (x : Int) (w : World) (h : Det 83 w base l d v) (hd : ROk n d) : Calls Try.prog 40 #[.pointer (some ⟨l, 0, none⟩), .int .i64 x] w fun e w' => e = .returned (.bool (d.cut.late x)) ∧ Below w.heap.size w w' := by
  have H := Lib.hid h
  have HD := Lib.hid hd
  have HN : Hid (d.bg = false → d.la = 0) := Lib.hid fun e => (hd.ok.no e).1
  have HSt : Hid (∀ W, Below w.heap.size w W → (W.cell? ⟨l, 3, none⟩ = some (.bool d.bg) ∧ W.cell? ⟨l, 4, none⟩ = some (.int .i64 d.la) ∧ Hid (Below w.heap.size w W))) := Lib.hid fun W hb =>
    have b := dbox_cells (dbox_below H.out.box hb)
    ⟨b.2.2.2.1, b.2.2.2.2.1, Lib.hid hb⟩
  have hr1 := (hd.time x).1
  have hr2 := (hd.time x).2
  have hr3 := hd.l0
  have hwr : IntKind.i64.wrap (d.time x - d.la) = d.time x - d.la := IntWalk.i64_in _ ⟨by omega, by omega⟩
  clear h hd hr1 hr2 hr3
  cases hb : d.bg
  · have E := Lib.hid (show d.cut.late x = false by unfold Dt.late; rw [show d.cut.bg = d.bg from rfl, hb]; rfl)
    rw [hb] at HSt
    clear hb
    go_enter Try.func40, Try.ntmps40
    go_wp2_with fail
    refine wp_region_held_drew (S := fun W => W.cell? ⟨l, 3, none⟩ = some (.bool false) ∧ W.cell? ⟨l, 4, none⟩ = some (.int .i64 d.la) ∧ Hid (Below w.heap.size w W)) (by kernel_rfl) ?_ (fun hHeld => ?_)
    · exact HSt.out _ (below_drewN (n := 1) (Below.refl _ _))
    (refine wpAnyH_take (i := 0) (oi := ⟨_, _, _, _, _, _⟩) (v := ?_) rfl (by kernel_rfl) (by kernel_rfl) (by kernel_rfl) (fun _ _ _ h => h) (Or.inl ⟨by rfl, ?_⟩) (by assumption) ?_; rotate_left 1; · (intro w hSw; (try dsimp only at hSw); go_simp; all_goals with_reducible rfl))
    try simp only [Act.put, List.setIfInBounds_toArray, List.set_cons_zero, List.set_cons_succ]
    (refine wpAnyH_take (i := 1) (oi := ⟨_, _, _, _, _, _⟩) (v := ?_) rfl (by kernel_rfl) (by kernel_rfl) (by kernel_rfl) (fun _ _ _ h => h) (Or.inl ⟨by rfl, ?_⟩) (by assumption) ?_; rotate_left 1; · (intro w hSw; (try dsimp only at hSw); go_simp; all_goals with_reducible rfl))
    try simp only [Act.put, List.setIfInBounds_toArray, List.set_cons_zero, List.set_cons_succ]
    (refine wpAnyH_take (i := 2) (oi := ⟨_, _, _, _, _, _⟩) (v := ?_) rfl (by kernel_rfl) (by kernel_rfl) (by kernel_rfl) (fun _ _ _ h => h) (Or.inl ⟨by rfl, ?_⟩) (by assumption) ?_; rotate_left 1; · (intro w hSw; (try dsimp only at hSw); go_simp; all_goals with_reducible rfl))
    try simp only [Act.put, List.setIfInBounds_toArray, List.set_cons_zero, List.set_cons_succ]
    (refine wpAnyH_take (i := 3) (oi := ⟨_, _, _, _, _, _⟩) (v := ?_) rfl (by kernel_rfl) (by kernel_rfl) (by kernel_rfl) (fun _ _ _ h => h) (Or.inl ⟨by rfl, ?_⟩) (by assumption) ?_; rotate_left 1; · (intro w hSw; (try dsimp only at hSw); go_simp; all_goals with_reducible rfl))
    try simp only [Act.put, List.setIfInBounds_toArray, List.set_cons_zero, List.set_cons_succ]
    (refine wpAnyH_take (i := 4) (oi := ⟨_, _, _, _, _, _⟩) (v := ?_) rfl (by kernel_rfl) (by kernel_rfl) (by kernel_rfl) (fun _ _ _ h => h) (Or.inl ⟨by rfl, ?_⟩) (by assumption) ?_; rotate_left 1; · (intro w hSw; (try dsimp only at hSw); go_simp; all_goals with_reducible rfl))
    try simp only [Act.put, List.setIfInBounds_toArray, List.set_cons_zero, List.set_cons_succ]
    refine wpAnyH_take (i := 5) (oi := ⟨_, _, _, _, _, _⟩) (v := undef) rfl (by kernel_rfl) (by kernel_rfl) (by kernel_rfl) (fun _ _ _ h => h) (Or.inr ⟨by kernel_rfl, rfl⟩) (by assumption) ?_
    try simp only [Act.put, List.setIfInBounds_toArray, List.set_cons_zero, List.set_cons_succ]
    refine wpAnyH_take (i := 6) (oi := ⟨_, _, _, _, _, _⟩) (v := undef) rfl (by kernel_rfl) (by kernel_rfl) (by kernel_rfl) (fun _ _ _ h => h) (Or.inr ⟨by kernel_rfl, rfl⟩) (by assumption) ?_
    try simp only [Act.put, List.setIfInBounds_toArray, List.set_cons_zero, List.set_cons_succ]
    refine wpAnyH_take (i := 7) (oi := ⟨_, _, _, _, _, _⟩) (v := undef) rfl (by kernel_rfl) (by kernel_rfl) (by kernel_rfl) (fun _ _ _ h => h) (Or.inr ⟨by kernel_rfl, rfl⟩) (by assumption) ?_
    try simp only [Act.put, List.setIfInBounds_toArray, List.set_cons_zero, List.set_cons_succ]
    refine wpAnyH_take (i := 8) (oi := ⟨_, _, _, _, _, _⟩) (v := undef) rfl (by kernel_rfl) (by kernel_rfl) (by kernel_rfl) (fun _ _ _ h => h) (Or.inr ⟨by kernel_rfl, rfl⟩) (by assumption) ?_
    try simp only [Act.put, List.setIfInBounds_toArray, List.set_cons_zero, List.set_cons_succ]
    refine wpAnyH_take (i := 9) (oi := ⟨_, _, _, _, _, _⟩) (v := undef) rfl (by kernel_rfl) (by kernel_rfl) (by kernel_rfl) (fun _ _ _ h => h) (Or.inr ⟨by kernel_rfl, rfl⟩) (by assumption) ?_
    try simp only [Act.put, List.setIfInBounds_toArray, List.set_cons_zero, List.set_cons_succ]
    refine wpAnyH_take (i := 10) (oi := ⟨_, _, _, _, _, _⟩) (v := undef) rfl (by kernel_rfl) (by kernel_rfl) (by kernel_rfl) (fun _ _ _ h => h) (Or.inr ⟨by kernel_rfl, rfl⟩) (by assumption) ?_
    try simp only [Act.put, List.setIfInBounds_toArray, List.set_cons_zero, List.set_cons_succ]
    refine wpAnyH_take (i := 11) (oi := ⟨_, _, _, _, _, _⟩) (v := undef) rfl (by kernel_rfl) (by kernel_rfl) (by kernel_rfl) (fun _ _ _ h => h) (Or.inr ⟨by kernel_rfl, rfl⟩) (by assumption) ?_
    try simp only [Act.put, List.setIfInBounds_toArray, List.set_cons_zero, List.set_cons_succ]
    refine wpAnyH_take (i := 12) (oi := ⟨_, _, _, _, _, _⟩) (v := undef) rfl (by kernel_rfl) (by kernel_rfl) (by kernel_rfl) (fun _ _ _ h => h) (Or.inr ⟨by kernel_rfl, rfl⟩) (by assumption) ?_
    try simp only [Act.put, List.setIfInBounds_toArray, List.set_cons_zero, List.set_cons_succ]
    refine wpAnyH_take (i := 13) (oi := ⟨_, _, _, _, _, _⟩) (v := undef) rfl (by kernel_rfl) (by kernel_rfl) (by kernel_rfl) (fun _ _ _ h => h) (Or.inr ⟨by kernel_rfl, rfl⟩) (by assumption) ?_
    try simp only [Act.put, List.setIfInBounds_toArray, List.set_cons_zero, List.set_cons_succ]
    refine wpAnyH_take (i := 14) (oi := ⟨_, _, _, _, _, _⟩) (v := undef) rfl (by kernel_rfl) (by kernel_rfl) (by kernel_rfl) (fun _ _ _ h => h) (Or.inr ⟨by kernel_rfl, rfl⟩) (by assumption) ?_
    try simp only [Act.put, List.setIfInBounds_toArray, List.set_cons_zero, List.set_cons_succ]
    refine wpAnyH_take (i := 15) (oi := ⟨_, _, _, _, _, _⟩) (v := undef) rfl (by kernel_rfl) (by kernel_rfl) (by kernel_rfl) (fun _ _ _ h => h) (Or.inr ⟨by kernel_rfl, rfl⟩) (by assumption) ?_
    try simp only [Act.put, List.setIfInBounds_toArray, List.set_cons_zero, List.set_cons_succ]
    (refine wpAnyH_take (i := 16) (oi := ⟨_, _, _, _, _, _⟩) (v := ?_) rfl (by kernel_rfl) (by kernel_rfl) (by kernel_rfl) (fun _ _ _ h => h) (Or.inl ⟨by rfl, ?_⟩) (by assumption) ?_; rotate_left 1; · (intro w hSw; (try dsimp only at hSw); go_simp; all_goals with_reducible rfl))
    try simp only [Act.put, List.setIfInBounds_toArray, List.set_cons_zero, List.set_cons_succ]
    (refine wpAnyH_take (i := 17) (oi := ⟨_, _, _, _, _, _⟩) (v := ?_) rfl (by kernel_rfl) (by kernel_rfl) (by kernel_rfl) (fun _ _ _ h => h) (Or.inl ⟨by rfl, ?_⟩) (by assumption) ?_; rotate_left 1; · (intro w hSw; (try dsimp only at hSw); go_simp; all_goals with_reducible rfl))
    try simp only [Act.put, List.setIfInBounds_toArray, List.set_cons_zero, List.set_cons_succ]
    refine wpAnyH_done (by kernel_rfl) ?_ _
    go_wp2_with fail
    go_ret
    exact ⟨ret_bool E.out.symm, hHeld.2.2.out⟩
  · have E := Lib.hid (show d.cut.late x = decide (d.cut.limit < d.time x - d.la) by unfold Dt.late; rw [show d.cut.bg = d.bg from rfl, hb]; rfl)
    rw [hb] at HSt
    clear hb
    go_enter Try.func40, Try.ntmps40
    go_wp2_with fail
    refine wp_region_held_drew (S := fun W => W.cell? ⟨l, 3, none⟩ = some (.bool true) ∧ W.cell? ⟨l, 4, none⟩ = some (.int .i64 d.la) ∧ Hid (Below w.heap.size w W)) (by kernel_rfl) ?_ (fun hHeld => ?_)
    · exact HSt.out _ (below_drewN (n := 1) (Below.refl _ _))
    (refine wpAnyH_take (i := 0) (oi := ⟨_, _, _, _, _, _⟩) (v := ?_) rfl (by kernel_rfl) (by kernel_rfl) (by kernel_rfl) (fun _ _ _ h => h) (Or.inl ⟨by rfl, ?_⟩) (by assumption) ?_; rotate_left 1; · (intro w hSw; (try dsimp only at hSw); go_simp; all_goals with_reducible rfl))
    try simp only [Act.put, List.setIfInBounds_toArray, List.set_cons_zero, List.set_cons_succ]
    (refine wpAnyH_take (i := 1) (oi := ⟨_, _, _, _, _, _⟩) (v := ?_) rfl (by kernel_rfl) (by kernel_rfl) (by kernel_rfl) (fun _ _ _ h => h) (Or.inl ⟨by rfl, ?_⟩) (by assumption) ?_; rotate_left 1; · (intro w hSw; (try dsimp only at hSw); go_simp; all_goals with_reducible rfl))
    try simp only [Act.put, List.setIfInBounds_toArray, List.set_cons_zero, List.set_cons_succ]
    (refine wpAnyH_take (i := 2) (oi := ⟨_, _, _, _, _, _⟩) (v := ?_) rfl (by kernel_rfl) (by kernel_rfl) (by kernel_rfl) (fun _ _ _ h => h) (Or.inl ⟨by rfl, ?_⟩) (by assumption) ?_; rotate_left 1; · (intro w hSw; (try dsimp only at hSw); go_simp; all_goals with_reducible rfl))
    try simp only [Act.put, List.setIfInBounds_toArray, List.set_cons_zero, List.set_cons_succ]
    (refine wpAnyH_take (i := 3) (oi := ⟨_, _, _, _, _, _⟩) (v := ?_) rfl (by kernel_rfl) (by kernel_rfl) (by kernel_rfl) (fun _ _ _ h => h) (Or.inl ⟨by rfl, ?_⟩) (by assumption) ?_; rotate_left 1; · (intro w hSw; (try dsimp only at hSw); go_simp; all_goals with_reducible rfl))
    try simp only [Act.put, List.setIfInBounds_toArray, List.set_cons_zero, List.set_cons_succ]
    (refine wpAnyH_take (i := 4) (oi := ⟨_, _, _, _, _, _⟩) (v := ?_) rfl (by kernel_rfl) (by kernel_rfl) (by kernel_rfl) (fun _ _ _ h => h) (Or.inl ⟨by rfl, ?_⟩) (by assumption) ?_; rotate_left 1; · (intro w hSw; (try dsimp only at hSw); go_simp; all_goals with_reducible rfl))
    try simp only [Act.put, List.setIfInBounds_toArray, List.set_cons_zero, List.set_cons_succ]
    first | (refine wpAnyH_take (i := 5) (oi := ⟨_, _, _, _, _, _⟩) (v := ?_) rfl (by kernel_rfl) (by kernel_rfl) (by kernel_rfl) (fun _ _ _ h => h) (Or.inl ⟨by rfl, ?_⟩) (by assumption) ?_; rotate_left 1; · (intro w hSw; (try dsimp only at hSw); go_simp; all_goals with_reducible rfl)) | refine wpAnyH_take (i := 5) (oi := ⟨_, _, _, _, _, _⟩) (v := undef) rfl (by kernel_rfl) (by kernel_rfl) (by kernel_rfl) (fun _ _ _ h => h) (Or.inr ⟨by kernel_rfl, rfl⟩) (by assumption) ?_
    try simp only [Act.put, List.setIfInBounds_toArray, List.set_cons_zero, List.set_cons_succ]
    first | (refine wpAnyH_take (i := 6) (oi := ⟨_, _, _, _, _, _⟩) (v := ?_) rfl (by kernel_rfl) (by kernel_rfl) (by kernel_rfl) (fun _ _ _ h => h) (Or.inl ⟨by rfl, ?_⟩) (by assumption) ?_; rotate_left 1; · (intro w hSw; (try dsimp only at hSw); go_simp; all_goals with_reducible rfl)) | refine wpAnyH_take (i := 6) (oi := ⟨_, _, _, _, _, _⟩) (v := undef) rfl (by kernel_rfl) (by kernel_rfl) (by kernel_rfl) (fun _ _ _ h => h) (Or.inr ⟨by kernel_rfl, rfl⟩) (by assumption) ?_
    try simp only [Act.put, List.setIfInBounds_toArray, List.set_cons_zero, List.set_cons_succ]
    first | (refine wpAnyH_take (i := 8) (oi := ⟨_, _, _, _, _, _⟩) (v := ?_) rfl (by kernel_rfl) (by kernel_rfl) (by kernel_rfl) (fun _ _ _ h => h) (Or.inl ⟨by rfl, ?_⟩) (by assumption) ?_; rotate_left 1; · (intro w hSw; (try dsimp only at hSw); go_simp; all_goals with_reducible rfl)) | refine wpAnyH_take (i := 8) (oi := ⟨_, _, _, _, _, _⟩) (v := undef) rfl (by kernel_rfl) (by kernel_rfl) (by kernel_rfl) (fun _ _ _ h => h) (Or.inr ⟨by kernel_rfl, rfl⟩) (by assumption) ?_
    try simp only [Act.put, List.setIfInBounds_toArray, List.set_cons_zero, List.set_cons_succ]
    first | (refine wpAnyH_take (i := 9) (oi := ⟨_, _, _, _, _, _⟩) (v := ?_) rfl (by kernel_rfl) (by kernel_rfl) (by kernel_rfl) (fun _ _ _ h => h) (Or.inl ⟨by rfl, ?_⟩) (by assumption) ?_; rotate_left 1; · (intro w hSw; (try dsimp only at hSw); go_simp; all_goals with_reducible rfl)) | refine wpAnyH_take (i := 9) (oi := ⟨_, _, _, _, _, _⟩) (v := undef) rfl (by kernel_rfl) (by kernel_rfl) (by kernel_rfl) (fun _ _ _ h => h) (Or.inr ⟨by kernel_rfl, rfl⟩) (by assumption) ?_
    try simp only [Act.put, List.setIfInBounds_toArray, List.set_cons_zero, List.set_cons_succ]
    first | (refine wpAnyH_take (i := 10) (oi := ⟨_, _, _, _, _, _⟩) (v := ?_) rfl (by kernel_rfl) (by kernel_rfl) (by kernel_rfl) (fun _ _ _ h => h) (Or.inl ⟨by rfl, ?_⟩) (by assumption) ?_; rotate_left 1; · (intro w hSw; (try dsimp only at hSw); go_simp; all_goals with_reducible rfl)) | refine wpAnyH_take (i := 10) (oi := ⟨_, _, _, _, _, _⟩) (v := undef) rfl (by kernel_rfl) (by kernel_rfl) (by kernel_rfl) (fun _ _ _ h => h) (Or.inr ⟨by kernel_rfl, rfl⟩) (by assumption) ?_
    try simp only [Act.put, List.setIfInBounds_toArray, List.set_cons_zero, List.set_cons_succ]
    first | (refine wpAnyH_take (i := 11) (oi := ⟨_, _, _, _, _, _⟩) (v := ?_) rfl (by kernel_rfl) (by kernel_rfl) (by kernel_rfl) (fun _ _ _ h => h) (Or.inl ⟨by rfl, ?_⟩) (by assumption) ?_; rotate_left 1; · (intro w hSw; (try dsimp only at hSw); go_simp; all_goals with_reducible rfl)) | refine wpAnyH_take (i := 11) (oi := ⟨_, _, _, _, _, _⟩) (v := undef) rfl (by kernel_rfl) (by kernel_rfl) (by kernel_rfl) (fun _ _ _ h => h) (Or.inr ⟨by kernel_rfl, rfl⟩) (by assumption) ?_
    try simp only [Act.put, List.setIfInBounds_toArray, List.set_cons_zero, List.set_cons_succ]
    first | (refine wpAnyH_take (i := 13) (oi := ⟨_, _, _, _, _, _⟩) (v := ?_) rfl (by kernel_rfl) (by kernel_rfl) (by kernel_rfl) (fun _ _ _ h => h) (Or.inl ⟨by rfl, ?_⟩) (by assumption) ?_; rotate_left 1; · (intro w hSw; (try dsimp only at hSw); go_simp; all_goals with_reducible rfl)) | refine wpAnyH_take (i := 13) (oi := ⟨_, _, _, _, _, _⟩) (v := undef) rfl (by kernel_rfl) (by kernel_rfl) (by kernel_rfl) (fun _ _ _ h => h) (Or.inr ⟨by kernel_rfl, rfl⟩) (by assumption) ?_
    try simp only [Act.put, List.setIfInBounds_toArray, List.set_cons_zero, List.set_cons_succ]
    refine wpAnyH_ready (rs := [7]) (by kernel_rfl) (by simp) ?_
    refine AllReadyH.cons (o := ⟨_, _, _, _, _, _⟩) rfl (fun Kq hKq => ?_) AllReadyH.nil
    go_simp
    have hHeld2 := hHeld; clear hHeld
    (go_at_call 49; (with_reducible refine (at_anyX l d v x _ (dbox_below H.out.box hHeld2.2.2.out) HD.out.l0 HD.out.l1 HN.out).mono ?_); rintro e w2 ⟨rfl, rfl⟩)
    refine hKq.out _ _ ?_ (fun hHeld => ?_)
    · (try dsimp only); exact hHeld2
    clear hKq Kq
    try simp only [Act.put, List.setIfInBounds_toArray, List.set_cons_zero, List.set_cons_succ]
    first | (refine wpAnyH_take (i := 12) (oi := ⟨_, _, _, _, _, _⟩) (v := ?_) rfl (by kernel_rfl) (by kernel_rfl) (by kernel_rfl) (fun _ _ _ h => h) (Or.inl ⟨by rfl, ?_⟩) (by assumption) ?_; rotate_left 1; · (intro w hSw; (try dsimp only at hSw); go_simp; all_goals with_reducible rfl)) | refine wpAnyH_take (i := 12) (oi := ⟨_, _, _, _, _, _⟩) (v := undef) rfl (by kernel_rfl) (by kernel_rfl) (by kernel_rfl) (fun _ _ _ h => h) (Or.inr ⟨by kernel_rfl, rfl⟩) (by assumption) ?_
    try simp only [Act.put, List.setIfInBounds_toArray, List.set_cons_zero, List.set_cons_succ]
    refine wpAnyH_ready (rs := [14]) (by kernel_rfl) (by simp) ?_
    refine AllReadyH.cons (o := ⟨_, _, _, _, _, _⟩) rfl (fun Kq hKq => ?_) AllReadyH.nil
    go_simp
    have hHeld2 := hHeld; clear hHeld
    (have HB2 := hHeld2.2.2; go_at_call 55; (with_reducible refine (rlimit_any base l n d v _ (H.out.below HB2.out) HD.out).mono ?_); rintro e w3 ⟨rfl, hb⟩; have HK := Lib.hid (below_after HB2.out hb (Nat.le_refl _)); clear hb)
    refine hKq.out _ _ ?_ (fun hHeld => ?_)
    · (try dsimp only); exact HSt.out _ HK.out
    clear hKq Kq
    try simp only [Act.put, List.setIfInBounds_toArray, List.set_cons_zero, List.set_cons_succ]
    first | (refine wpAnyH_take (i := 15) (oi := ⟨_, _, _, _, _, _⟩) (v := ?_) rfl (by kernel_rfl) (by kernel_rfl) (by kernel_rfl) (fun _ _ _ h => h) (Or.inl ⟨by rfl, ?_⟩) (by assumption) ?_; rotate_left 1; · (intro w hSw; (try dsimp only at hSw); go_simp; all_goals with_reducible rfl)) | refine wpAnyH_take (i := 15) (oi := ⟨_, _, _, _, _, _⟩) (v := undef) rfl (by kernel_rfl) (by kernel_rfl) (by kernel_rfl) (fun _ _ _ h => h) (Or.inr ⟨by kernel_rfl, rfl⟩) (by assumption) ?_
    try simp only [Act.put, List.setIfInBounds_toArray, List.set_cons_zero, List.set_cons_succ]
    (refine wpAnyH_take (i := 16) (oi := ⟨_, _, _, _, _, _⟩) (v := ?_) rfl (by kernel_rfl) (by kernel_rfl) (by kernel_rfl) (fun _ _ _ h => h) (Or.inl ⟨by rfl, ?_⟩) (by assumption) ?_; rotate_left 1; · (intro w hSw; (try dsimp only at hSw); go_simp; all_goals with_reducible rfl))
    try simp only [Act.put, List.setIfInBounds_toArray, List.set_cons_zero, List.set_cons_succ]
    (refine wpAnyH_take (i := 17) (oi := ⟨_, _, _, _, _, _⟩) (v := ?_) rfl (by kernel_rfl) (by kernel_rfl) (by kernel_rfl) (fun _ _ _ h => h) (Or.inl ⟨by rfl, ?_⟩) (by assumption) ?_; rotate_left 1; · (intro w hSw; (try dsimp only at hSw); go_simp; all_goals with_reducible rfl))
    try simp only [Act.put, List.setIfInBounds_toArray, List.set_cons_zero, List.set_cons_succ]
    refine wpAnyH_done (by kernel_rfl) ?_ _
    go_wp2_with fail
    go_ret
    exact ⟨ret_bool E.out.symm, HK.out⟩
    end Go.Proofs.Ytkoeplgkiogjlaa
namespace Go.Proofs.Ytkoeplgkiogjlaa
open Go Go.RowKit Sets Go.Maps Go.ChangeMaps Go.MapKept
variable {S S2 S' : Nat → Prop} {W W' w : World} {p n : Nat} {mn mx wi : Int} {K : List Id2} {X : Id2 → Dt} {L : Id2 → Nat} {v : Value}
/-- One who is watched, and its detector's block. -/
def encO (r : Id2 × Nat) : List Value := [.int .i64 r.1.1, .int .i64 r.1.2, .pointer (some ⟨r.2, 0, none⟩)]
theorem encO_len (r : Id2 × Nat) : (encO r).length = 3 := rfl
theorem encO_one (r : Id2 × Nat) : ∀ u ∈ encO r, u.oneCell' = true := fun u hu => by
  simp [encO] at hu
  rcases hu with rfl | rfl | rfl <;> rfl
theorem info66 : (Try.prog.info? 66).map (fun i => (i.zero, i.size, i.bytes)) = some (some (.agg #[.int .i64 0, .int .i64 0, .pointer none]), 3, 24) := by kernel_rfl
def oneL (K : List Id2) (L : Id2 → Nat) : List (Id2 × Nat) := K.map fun q => (q, L q)
theorem oneL_len (K : List Id2) (L : Id2 → Nat) : (oneL K L).length = K.length := by simp [oneL]
/-- The document's watch at p, told with its parts. -/
structure Rin (S : Nat → Prop) (W : World) (p n : Nat) (mn mx wi : Int) (K : List Id2) (X : Id2 → Dt) (L : Id2 → Nat) (v : Value) : Prop where
  box : W.heap[p]? = some (.cells #[.int .i64 mn, .int .i64 mx, .int .i64 wi, v] 63 (0, 0))
  inp : S p
  all : OwnsR encO 3 66 W 0 v (oneL K L)
  inv : ∀ g, v.ownBlock = some g → S g
  dets : ∀ q ∈ K, Dw 83 (ROk n) S W (L q) (X q)
  inj : ∀ q ∈ K, ∀ r ∈ K, L q = L r → q = r
  lt : ∀ k, S k → k < W.heap.size
theorem ownsO_fr {base : Nat} {l : List (Id2 × Nat)} (h : OwnsR encO 3 66 W base v l) (k : Fr S W W') (hv : ∀ b, v.ownBlock = some b → ¬ S b) : OwnsR encO 3 66 W' base v l := by
  obtain ⟨h1, h2⟩ := h
  refine ⟨h1, ?_⟩
  rcases h2 with h2 | ⟨g, cap, cur, rfl, k1, k2, k3⟩
  · exact .inl h2
  · exact .inr ⟨g, cap, cur, rfl, k1, (k.same g (row_lt k2) (hv g rfl)).trans k2, k3⟩
theorem Rin.keep (h : Rin S W p n mn mx wi K X L v) (hb : Below W.heap.size W W') : Rin S W' p n mn mx wi K X L v :=
  ⟨(hb.block _ (h.lt _ h.inp)).trans h.box, h.inp, OwnsR.below h.all hb, h.inv, fun q hq => (h.dets q hq).keep hb, h.inj, fun k hk => Nat.lt_of_lt_of_le (h.lt k hk) hb.size⟩
theorem Rin.frame (h : Rin S W p n mn mx wi K X L v) (k : Fr S2 W W') (hd : ∀ k, S k → ¬ S2 k) : Rin S W' p n mn mx wi K X L v :=
  ⟨(k.same _ (h.lt _ h.inp) (hd _ h.inp)).trans h.box, h.inp, ownsO_fr h.all k fun b hb => hd _ (h.inv b hb), h.inv, fun q hq => (h.dets q hq).frame k hd, h.inj, fun i hi => Nat.lt_of_lt_of_le (h.lt i hi) k.size⟩
theorem Rin.cells (h : Rin S W p n mn mx wi K X L v) : W.cell? ⟨p, 0, none⟩ = some (.int .i64 mn) ∧ W.cell? ⟨p, 1, none⟩ = some (.int .i64 mx) ∧ W.cell? ⟨p, 2, none⟩ = some (.int .i64 wi) ∧ W.cell? ⟨p, 3, none⟩ = some v := by
  have hb := h.box
  refine ⟨?_, ?_, ?_, ?_⟩ <;> (rw [cell_of_row _ _ _ _ _ _ hb]; rfl)
theorem Rin.free (h : Rin S W p n mn mx wi K X L v) : W.frozen? ⟨p, 3, none⟩ = false := by
  have := h.box
  simp [World.frozen?, this]
/-- The document's watch. -/
def Rw (S : Nat → Prop) (W : World) (p n : Nat) (mn mx wi : Int) (K : List Id2) (X : Id2 → Dt) : Prop := ∃ L v, Rin S W p n mn mx wi K X L v
theorem Rw.keep (h : Rw S W p n mn mx wi K X) (hb : Below W.heap.size W W') : Rw S W' p n mn mx wi K X := by
  obtain ⟨L, v, h⟩ := h
  exact ⟨L, v, h.keep hb⟩
theorem Rw.frame (h : Rw S W p n mn mx wi K X) (k : Fr S2 W W') (hd : ∀ k, S k → ¬ S2 k) : Rw S W' p n mn mx wi K X := by
  obtain ⟨L, v, h⟩ := h
  exact ⟨L, v, h.frame k hd⟩
theorem Rw.lt (h : Rw S W p n mn mx wi K X) : ∀ k, S k → k < W.heap.size := by
  obtain ⟨L, v, h⟩ := h
  exact h.lt
theorem rwnew_yes (mn mx wi : Int) (h : newOk mn mx wi = true) (w : World) (X : Id2 → Dt) : Calls Try.prog 11 #[.int .i64 mn, .int .i64 mx, .int .i64 wi] w fun en w' => ∃ p S, en = .returned (.tuple #[.pointer (some ⟨p, 0, none⟩), .int .i64 0]) ∧ Rw S w' p 0 mn mx wi [] X ∧ (∀ k, S k → w.heap.size ≤ k) ∧ Below w.heap.size w w' := by
  go_enter Try.func11, Try.ntmps11
  go_wp2_with fail
  (with_reducible refine (rnew_yes mn mx wi h _).mono ?_)
  rintro en w1 ⟨l, v, rfl, h1, h2⟩
  have B1 := Lib.hid h2
  clear h1 h2
  go_wp2_with fail
  have XN := Lib.hid (heap_alloc_new w1 (.cells #[.int .i64 mn, .int .i64 mx, .int .i64 wi, .slice none 0 0] 63))
  have B2 := Lib.hid (below_oneX w1 (.cells #[.int .i64 mn, .int .i64 mx, .int .i64 wi, .slice none 0 0] 63))
  have hs : (w1.alloc (.cells #[.int .i64 mn, .int .i64 mx, .int .i64 wi, .slice none 0 0] 63)).heap.size = w1.heap.size + 1 := by simp
  generalize w1.alloc (.cells #[.int .i64 mn, .int .i64 mx, .int .i64 wi, .slice none 0 0] 63) = w2 at *
  go_ret2
  exact ⟨w1.heap.size, fun k => k = w1.heap.size, rfl, ⟨fun _ => 0, _, ⟨XN.out, rfl, OwnsR.nil _ _ _, fun g hg => (by cases hg), fun q hq => (by cases hq), fun q hq => (by cases hq), fun k hk => by have e : k = w1.heap.size := hk; omega⟩⟩, fun k hk => by have e : k = w1.heap.size := hk; have := B1.out.size; omega, below_after B1.out B2.out (Nat.le_refl _)⟩
theorem rwnew_no (mn mx wi : Int) (h : newOk mn mx wi = false) (w : World) : Calls Try.prog 11 #[.int .i64 mn, .int .i64 mx, .int .i64 wi] w fun en w' => en = .returned (.tuple #[.pointer none, .int .i64 1]) ∧ Below w.heap.size w w' := by
  go_enter Try.func11, Try.ntmps11
  go_wp2_with fail
  (with_reducible refine (rnew_no mn mx wi h _).mono ?_)
  rintro en w1 ⟨rfl, h2⟩
  have B1 := Lib.hid h2
  clear h2
  go_wp2_with fail
  go_ret2
  exact ⟨rfl, B1.out⟩
/-- Where somebody stands. -/
def FoundAt (K : List Id2) (q : Id2) (w : World) (en : Ending) (w' : World) : Prop := (¬ q ∈ K ∧ en = .returned (.int .i64 (-1)) ∨ ∃ i, ∃ h : i < K.length, K[i] = q ∧ en = .returned (.int .i64 (i : Int))) ∧ Below w.heap.size w w'
theorem oneL_at {j : Nat} (hj : j < K.length) : (oneL K L)[j]'(by rw [oneL_len]; exact hj) = (K[j], L K[j]) := by simp [oneL]
set_option maxHeartbeats 2000000 in
theorem find_any (h : Rin S W p n mn mx wi K X L v) (a i : Int) (hl : K.length ≤ 40000) : Calls Try.prog 31 #[.pointer (some ⟨p, 0, none⟩), .agg #[.int .i64 a, .int .i64 i]] W (FoundAt K (a, i) W) := by
  have H := Lib.hid h
  have HR := Lib.hid (rcs_owns encO_len h.all)
  have HXb := Lib.hid (box_new W a i)
  have HB := Lib.hid (below_one W (.cells #[.int .i64 a, .int .i64 i] 35))
  obtain ⟨A, c, rfl, -⟩ := id HR.out
  rw [oneL_len] at HR
  clear h
  go_enter Try.func31, Try.ntmps31
  go_wp2_with fail
  generalize hw1 : W.alloc (.cells #[.int .i64 a, .int .i64 i] 35) = w1 at *
  clear hw1
  go_loopw [5] (fun s5 wr => ∃ k : Nat, k ≤ K.length ∧ s5 = .int .i64 k ∧ Hid (¬ (a, i) ∈ K.take k) ∧ Hid (Below w1.heap.size w1 wr)) (fun s5 _ => K.length - (intOf s5).toNat)
  case atStart => exact ⟨0, by omega, rfl, Lib.hid (by simp), Lib.hid (Below.refl _ _)⟩
  case round =>
    obtain ⟨k, hk, rfl, HN, HW⟩ := hrel
    have i3 : (0 : Int) ≤ (k : Int) := by omega
    have HBW := Lib.hid (below_after HB.out HW.out (Nat.le_refl _))
    obtain ⟨b0, b1, b2, b3⟩ := (H.out.keep HBW.out).cells
    rw [oneL_len] at b3
    obtain ⟨x0, x1⟩ := box_cells (box_below HXb.out HW.out)
    by_cases hlt : k < K.length
    · have hd : decide ((k : Int) < (K.length : Int)) = true := by simp; omega
      have i4 : (k : Int) < (K.length : Int) := by omega
      have hlt2 : k < (oneL K L).length := by rw [oneL_len]; exact hlt
      obtain ⟨ad, rfl⟩ := HR.out.addr (Nat.lt_of_le_of_lt (Nat.zero_le _) hlt2)
      have c0 := HR.out.first HBW.out hlt2 (u := .int .i64 K[k].1) (by rw [oneL_at hlt]; rfl)
      have c1 := HR.out.cell HBW.out hlt2 1 (by decide) (u := .int .i64 K[k].2) (by rw [oneL_at hlt]; rfl)
      have NX : Hid (¬ K[k] = (a, i) → ¬ (a, i) ∈ K.take (k + 1)) := Lib.hid fun hne hm => by
        rw [List.take_succ_eq_append_getElem hlt] at hm
        rcases List.mem_append.1 hm with hm | hm
        · exact HN.out hm
        · exact hne (List.mem_singleton.1 hm).symm
      have YS : Hid (K[k] = (a, i) → FoundAt K (a, i) W (.returned (.int .i64 (k : Int))) (wr.drewN 1)) := Lib.hid fun he => ⟨.inr ⟨k, hlt, he, rfl⟩, below_drewN HBW.out⟩
      generalize K[k] = q at *
      obtain ⟨qa, qi⟩ := q
      dsimp only at c0 c1
      by_cases hab : qa = a
      · subst hab
        by_cases hij : qi = i
        · subst hij
          go_wp2_with fail
          go_quiet (fail)
          go_wp2_with fail
          go_ret
          exact ⟨(YS.out (by trivial)).1, below_drewN HBW.out⟩
        · have h2 : (qi == i) = false := by simpa using hij
          have N2 := Lib.hid (NX.out (fun h => hij (by injection h)))
          go_wp2_with fail
          go_quiet (fail)
          go_wp2_with fail
          go_roundw
          case rel => exact ⟨k + 1, by omega, by go_num, N2, Lib.hid (below_drewN HW.out)⟩
          case measure => simp [intOf]; omega
      · have h2 : (qa == a) = false := by simpa using hab
        have N2 := Lib.hid (NX.out (fun h => hab (by injection h)))
        go_wp2_with fail
        go_quiet (fail)
        go_wp2_with fail
        go_roundw
        case rel => exact ⟨k + 1, by omega, by go_num, N2, Lib.hid (below_drewN HW.out)⟩
        case measure => simp [intOf]; omega
    · obtain rfl : k = K.length := by omega
      have hd : decide ((K.length : Int) < (K.length : Int)) = false := by simp
      have HN2 : Hid (¬ (a, i) ∈ K) := Lib.hid (by have := HN.out; rwa [List.take_length] at this)
      go_wp2_with fail
      go_ret
      exact ⟨.inl ⟨HN2.out, rfl⟩, HBW.out⟩
end Go.Proofs.Ytkoeplgkiogjlaa
namespace Go.Proofs.Ytkoeplgkiogjlaa
open Go Go.RowKit Sets Go.Maps Go.ChangeMaps Go.MapKept
variable {S S2 S' : Nat → Prop} {W W' w : World} {p n : Nat} {mn mx wi : Int} {K : List Id2} {X : Id2 → Dt} {L : Id2 → Nat} {v : Value}
def rheardX (X : Id2 → Dt) (q : Id2) (x : Int) : Id2 → Dt := fun r => if r = q then (X q).rheard x else X r
theorem ROk.mono {n m : Nat} {d : Dt} (h : ROk n d) (hn : n ≤ m) (hm : m ≤ 300) : ROk m d := ⟨h.ok, h.each, Nat.le_trans h.len hn, hm⟩
theorem Dw.okMono {T : TypeId} {Ok Ok' : Dt → Prop} {l : Nat} {d : Dt} (h : Dw T Ok S W l d) (hk : Ok d → Ok' d) : Dw T Ok' S W l d := by
  obtain ⟨v, h1, h2, h3, h4⟩ := h
  exact ⟨v, h1, h2, h3, hk h4⟩
theorem Rin.more {m : Nat} (h : Rin S W p n mn mx wi K X L v) (hn : n ≤ m) (hm : m ≤ 300) : Rin S W p m mn mx wi K X L v :=
  ⟨h.box, h.inp, h.all, h.inv, fun q hq => (h.dets q hq).okMono fun k => k.mono hn hm, h.inj, h.lt⟩
theorem Rin.done {q : Id2} {d' : Dt} {u : Value} {en : Ending} {m : Nat} (h : Rin S W p n mn mx wi K X L v) (hq : q ∈ K) (hS : ∀ g, u.ownBlock = some g → S g) (hd : Done 83 0 (L q) d' u W en W') (ok : ROk m d') (hn : n ≤ m) (hm : m ≤ 300) :
    ∃ S', Rin S' W' p m mn mx wi K (fun r => if r = q then d' else X r) L v ∧ Upd S W W' S' := by
  obtain ⟨rfl, v', h1, h2, h3⟩ := hd
  obtain ⟨_, hbx, hSl, _⟩ := h.dets q hq
  have hF : Fr (fun k => k = L q) W W' := .of_grown h2 (fun g e => by injection e with e; exact e.symm)
  have hty : ∀ g cs, g = L q → W.heap[g]? ≠ some (.cells cs 3 (0, 0)) := fun g cs e k => by subst e; exact absurd (dbox_type hbx.box k) (by decide)
  have hS' : ∀ k, S k → S k ∨ (W.heap.size ≤ k ∧ k < W'.heap.size) := fun k h => .inl h
  refine ⟨fun k => S k ∨ (W.heap.size ≤ k ∧ k < W'.heap.size), ⟨?_, .inl h.inp, ownsO_fr h.all hF fun b hb e => ?_, fun g hg => .inl (h.inv g hg), ?_, h.inj, ?_⟩, ⟨fun k hk => hk.imp id fun x => x.1, hF.mono fun k e => e ▸ hSl⟩⟩
  · exact (hF.same _ (h.lt _ h.inp) (fun e => absurd (dbox_type hbx.box (by rw [← e]; exact h.box)) (by decide))).trans h.box
  · obtain ⟨cs, hc⟩ := owns_ty h.all hb
    rw [show b = L q from e] at hc
    exact absurd (dbox_type hbx.box hc) (by decide)
  · intro r hr
    by_cases e : r = q
    · subst e
      rw [if_pos rfl]
      refine ⟨v', h1, .inl hSl, fun g hg => ?_, ok⟩
      rcases h3 g hg with e | e
      · exact .inl (hS g e)
      · refine .inr ⟨e, ?_⟩
        obtain ⟨cs, hc⟩ := gaps_type h1.gaps hg
        exact row_lt hc
    · rw [if_neg e]
      exact (((h.dets r hr).other hF (fun x => e (h.inj r hr q hq x)) hty).mono hS').okMono fun k => k.mono hn hm
  · rintro k (hk | hk)
    · exact Nat.lt_of_lt_of_le (h.lt k hk) h2.size
    · exact hk.2
set_option maxHeartbeats 1000000 in
theorem rwheard_any (h : Rw S W p n mn mx wi K X) (a i x : Int) (hl : K.length ≤ 40000) (hn : n < 300) : Calls Try.prog 15 #[.pointer (some ⟨p, 0, none⟩), .agg #[.int .i64 a, .int .i64 i], .int .i64 x] W fun en W' => en = .returned (.bool (hasB (a, i) K)) ∧ ∃ S', Rw S' W' p (n + 1) mn mx wi K (rheardX X (a, i) x) ∧ Upd S W W' S' := by
  obtain ⟨L, v, h⟩ := h
  have H := Lib.hid h
  have B1 := Lib.hid (below_one W (.cells #[.int .i64 a, .int .i64 i] 35))
  have X1 := Lib.hid (box_new W a i)
  have HR := Lib.hid (rcs_owns encO_len h.all)
  obtain ⟨A, c, rfl, -⟩ := id HR.out
  rw [oneL_len] at HR
  clear h
  obtain ⟨x0, x1⟩ := box_cells X1.out
  go_enter Try.func15, Try.ntmps15
  go_wp2_with fail
  clear x0 x1
  (with_reducible refine (find_any (H.out.keep B1.out) a i hl).mono ?_)
  rintro en w2 ⟨hf, hb⟩
  have B2 := Lib.hid (below_after B1.out hb (Nat.le_refl _))
  clear hb
  rcases hf with ⟨hk, rfl⟩ | ⟨j, hj, hq, rfl⟩
  · have HE := Lib.hid (hasB_not hk)
    have HK := Lib.hid hk
    clear hk
    go_wp2_with fail
    go_ret
    refine ⟨ret_bool HE.out.symm, S, ⟨L, .slice A (oneL K L).length c, ?_⟩, .keep B2.out⟩
    have h5 := (H.out.keep B2.out).more (Nat.le_succ n) hn
    exact ⟨h5.box, h5.inp, h5.all, h5.inv, fun q hq => by
      have : q ≠ (a, i) := fun e => HK.out (e ▸ hq)
      unfold rheardX
      rw [if_neg this]
      exact h5.dets q hq, h5.inj, h5.lt⟩
  · have hin : (a, i) ∈ K := hq ▸ List.getElem_mem hj
    have HE := Lib.hid (hasB_in hin)
    have HIN := Lib.hid hin
    have hd : decide ((j : Int) < 0) = false := by simp
    have hj0 : (0 : Int) ≤ (j : Int) := by omega
    have hj4 : (j : Int) < (K.length : Int) := by omega
    have hj2 : j < (oneL K L).length := by rw [oneL_len]; exact hj
    obtain ⟨ad, rfl⟩ := HR.out.addr (Nat.lt_of_le_of_lt (Nat.zero_le _) hj2)
    have H2 := Lib.hid (H.out.keep B2.out)
    obtain ⟨b0, b1, b2, b3⟩ := H2.out.cells
    rw [oneL_len] at b3
    have c2 := HR.out.cell B2.out hj2 2 (by decide) (u := .pointer (some ⟨L (a, i), 0, none⟩)) (by rw [oneL_at hj, hq]; rfl)
    clear hin hq
    obtain ⟨dv, hv, hS1, hS2, hok⟩ := H2.out.dets _ HIN.out
    have HV := Lib.hid hv
    have HS3 := Lib.hid hS2
    have HO := Lib.hid hok
    clear hv hS1 hS2 hok
    go_wp2_with fail
    (with_reducible refine (rheard_any 0 (L (a, i)) n (X (a, i)) dv x _ HV.out HO.out (Nat.zero_le _)).mono ?_)
    intro en w5 hdd
    have hen := hdd.1
    subst hen
    obtain ⟨S', k1, k2⟩ := H2.out.done HIN.out HS3.out hdd (HO.out.heard hn x) (Nat.le_succ n) hn
    have K1 := Lib.hid k1
    have K2 := Lib.hid ((Upd.keep (S := S) B2.out).trans k2)
    clear k1 k2 hdd b0 b1 b2 b3 c2
    go_wp2_with fail
    go_ret
    exact ⟨ret_bool HE.out.symm, S', ⟨L, _, K1.out⟩, K2.out⟩
theorem put_take {k : Nat} (hk : k < K.length) : put (setOf (K.take k)) (K[k].1, K[k].2) = setOf (K.take (k + 1)) := by
  refine rises_ext (rises_put _ _) (rises_setOf _) fun z => ?_
  rw [mem_put, mem_setOf, mem_setOf, List.take_succ_eq_append_getElem hk, List.mem_append, List.mem_singleton]
  exact or_comm
set_option maxHeartbeats 1000000 in
/-- THE DOCUMENT's Watched. -/
theorem rwatched_any (h : Rw S W p n mn mx wi K X) (hl : K.length ≤ 10000) : Calls Try.prog 20 #[.pointer (some ⟨p, 0, none⟩)] W (Lists (setOf K) W) := by
  obtain ⟨L, v, h⟩ := h
  have H := Lib.hid h
  have HR := Lib.hid (rcs_owns encO_len h.all)
  obtain ⟨A, c, rfl, -⟩ := id HR.out
  rw [oneL_len] at HR
  clear h
  go_enter Try.func20, Try.ntmps20
  go_wp2_with fail
  go_loopw [3, 4] (fun s3 s4 wr => ∃ k : Nat, k ≤ K.length ∧ s4 = .int .i64 k ∧ Hid (Ids wr s3 (setOf (K.take k))) ∧ Hid (Below W.heap.size W wr)) (fun _ s4 _ => K.length - (intOf s4).toNat)
  case atStart => exact ⟨0, by omega, rfl, Lib.hid (Ids.nil _), Lib.hid (Below.refl _ _)⟩
  case round =>
    obtain ⟨k, hk, rfl, HT, HW⟩ := hrel
    have i3 : (0 : Int) ≤ (k : Int) := by omega
    obtain ⟨b0, b1, b2, b3⟩ := (H.out.keep HW.out).cells
    rw [oneL_len] at b3
    by_cases hlt : k < K.length
    · have hd : decide ((k : Int) < (K.length : Int)) = true := by simp; omega
      have i4 : (k : Int) < (K.length : Int) := by omega
      have hlt2 : k < (oneL K L).length := by rw [oneL_len]; exact hlt
      obtain ⟨ad, rfl⟩ := HR.out.addr (Nat.lt_of_le_of_lt (Nat.zero_le _) hlt2)
      have c0 := HR.out.first HW.out hlt2 (u := .int .i64 K[k].1) (by rw [oneL_at hlt]; rfl)
      have c1 := HR.out.cell HW.out hlt2 1 (by decide) (u := .int .i64 K[k].2) (by rw [oneL_at hlt]; rfl)
      have ES := Lib.hid (put_take hlt)
      have HZ := Lib.hid (show (setOf (K.take k)).length ≤ 40000 from by have := setOf_len (K.take k); rw [List.length_take] at this; omega)
      generalize K[k] = q at *
      obtain ⟨qa, qi⟩ := q
      dsimp only at c0 c1
      go_wp2_with fail
      (with_reducible refine (docPut_any u3 _ qa qi _ HT.out HZ.out).mono ?_)
      rw [ES.out]
      rintro en w1 ⟨r, rfl, h1, hb⟩
      have T1 := Lib.hid h1
      have B1 := Lib.hid (below_after HW.out hb (Nat.le_refl _))
      clear h1 hb c0 c1 b0 b1 b2 b3
      go_wp2_with fail
      go_roundw
      case rel => exact ⟨k + 1, by omega, by go_num, T1, B1⟩
      case measure => simp [intOf]; omega
    · obtain rfl : k = K.length := by omega
      have hd : decide ((K.length : Int) < (K.length : Int)) = false := by simp
      have HE : Hid (Ids wr u3 (setOf K)) := Lib.hid (by have := HT.out; rwa [List.take_length] at this)
      go_wp2_with fail
      go_ret
      exact ⟨_, rfl, HE.out, HW.out⟩
end Go.Proofs.Ytkoeplgkiogjlaa
