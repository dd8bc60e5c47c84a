/-
  Walks over the program's watch: a new one; somebody is heard. No statement is proved in this text; it holds for every input that its premises let by.
-/
import Derived.Test.YtkoeplgkiogjlaaWchA
set_option maxRecDepth 20000
namespace Go.Proofs.Ytkoeplgkiogjlaa
open Go Go.RowKit Sets Go.Maps Go.ChangeMaps Go.MapKept
variable {S S2 : Nat → Prop} {W W' : World} {p f n : Nat} {mb : Option Nat} {e : Dt} {K : List Id2} {D : Id2 → Dt} {L : Id2 → Nat}
theorem hasB_not {q : Id2} {K : List Id2} (h : ¬ q ∈ K) : hasB q K = false := by unfold hasB; exact decide_eq_false h
theorem hasB_in {q : Id2} {K : List Id2} (h : q ∈ K) : hasB q K = true := by unfold hasB; exact decide_eq_true h
/-- d, ok := w.detectors[q] -/
theorem Inn.look (h : Inn S W p f mb n e K D L) {q : Id2} (hq : In2 q) : (Instr.lookup 55 (.map mb) (.agg #[.int .i64 q.1, .int .i64 q.2]) true).run Try.prog W = .ok (.tuple #[ptV (if q ∈ K then some (L q) else none), .bool (hasB q K)]) W := by
  have hm := h.map
  cases mb with
  | none =>
    have hK : K = [] := hm
    subst hK
    have := Maps.look_nil (P := Try.prog) true keyed35 Try.underlying55 (zeroPt W) (key_id hq)
    rw [if_pos rfl] at this
    exact this
  | some b =>
    have := hm.2.look (z := none) Try.underlying55 (zeroPt W) hq
    refine this.trans ?_
    unfold mapOf
    by_cases hk : q ∈ K
    · rw [if_pos hk, if_pos hk, hasB_in hk]
      rfl
    · rw [if_neg hk, if_neg hk, hasB_not hk]
      rfl
/-- w.detectors[q] -/
theorem Inn.at (h : Inn S W p f mb n e K D L) {q : Id2} (hq : In2 q) : (Instr.lookup 55 (.map mb) (.agg #[.int .i64 q.1, .int .i64 q.2]) false).run Try.prog W = .ok (ptV (if q ∈ K then some (L q) else none)) W := by
  have hm := h.map
  cases mb with
  | none =>
    have hK : K = [] := hm
    subst hK
    exact Maps.look_nil (P := Try.prog) false keyed35 Try.underlying55 (zeroPt W) (key_id hq)
  | some b =>
    have := hm.2.at (z := none) Try.underlying55 (zeroPt W) hq
    refine this.trans ?_
    unfold mapOf
    by_cases hk : q ∈ K
    · rw [if_pos hk, if_pos hk]
      rfl
    · rw [if_neg hk, if_neg hk]
      rfl
theorem dbox_type {T T' : TypeId} {W : World} {l : Nat} {d : Dt} {v : Value} {cs : Array Value} (h : DBox T W l d v) (k : W.heap[l]? = some (.cells cs T' (0, 0))) : T' = T := by
  unfold DBox at h
  rw [h] at k
  injection k with k
  injection k with _ k2
  exact k2.symm
/-- Other detectors where they don't matter. -/
theorem Inn.congr {D' : Id2 → Dt} (h : Inn S W p f mb n e K D L) (hD : ∀ q ∈ K, D' q = D q) : Inn S W p f mb n e K D' L := ⟨h.box, h.inp, h.fresh, h.map, fun q hq => by rw [hD q hq]; exact h.dets q hq, h.inj, h.far, h.in2, h.lt⟩
theorem Wat.congr {D' : Id2 → Dt} (h : Wat S W p n e K D) (hD : ∀ q ∈ K, D' q = D q) : Wat S W p n e K D' := by
  obtain ⟨f, mb, L, h⟩ := h
  exact ⟨f, mb, L, h.congr hD⟩
/-- Something was done to one of its detectors. -/
theorem Inn.done {q : Id2} {d' : Dt} {v : Value} {en : Ending} (h : Inn S W p f mb n e K D L) (hq : q ∈ K) (hS : ∀ g, v.ownBlock = some g → S g) (hd : Done 81 0 (L q) d' v W en W') (ok : d'.Ok) :
    ∃ S', Inn S' W' p f mb n e K (fun r => if r = q then d' else D r) L ∧ Upd S W W' S' := by
  obtain ⟨rfl, v', h1, h2, h3⟩ := hd
  obtain ⟨_, hbx, hSl, _⟩ := h.dets q hq
  have hF : Fr (fun k => k = L q) W W' := .of_grown h2 (fun g e => by injection e with e; exact e.symm)
  have hty : ∀ g cs, g = L q → W.heap[g]? ≠ some (.cells cs 3 (0, 0)) := fun g cs e k => by subst e; exact absurd (dbox_type hbx.box k) (by decide)
  have hS' : ∀ k, S k → S k ∨ (W.heap.size ≤ k ∧ k < W'.heap.size) := fun k h => .inl h
  refine ⟨fun k => S k ∨ (W.heap.size ≤ k ∧ k < W'.heap.size), ⟨?_, .inl h.inp, ?_, ?_, ?_, h.inj, h.far, h.in2, ?_⟩, ⟨fun k hk => hk.imp id fun x => x.1, hF.mono fun k e => e ▸ hSl⟩⟩
  · exact (hF.same _ (h.lt _ h.inp) (fun e => absurd (dbox_type hbx.box (by rw [← e]; exact h.box)) (by decide))).trans h.box
  · exact (h.fresh.other hF (fun e => h.far q hq e.symm) hty).mono hS'
  · have := h.map
    cases mb with
    | none => exact this
    | some b =>
      refine ⟨.inl this.1, this.2.same (hF.same b this.2.lt fun e => ?_)⟩
      have hx := hbx.box
      unfold DBox at hx
      rw [← e] at hx
      exact this.2.cells_not _ _ _ hx
  · intro r hr
    by_cases e : r = q
    · subst e
      rw [if_pos rfl]
      refine ⟨v', h1, .inl hSl, fun g hg => ?_, ok⟩
      rcases h3 g hg with e | e
      · exact .inl (hS g e)
      · refine .inr ⟨e, ?_⟩
        obtain ⟨cs, hc⟩ := gaps_type h1.gaps hg
        exact row_lt hc
    · rw [if_neg e]
      exact ((h.dets r hr).other hF (fun x => e (h.inj r hr q hq x)) hty).mono hS'
  · rintro k (hk | hk)
    · exact Nat.lt_of_lt_of_le (h.lt k hk) h2.size
    · exact hk.2
theorem Dt.newOk {mn mx wi : Int} (h : newOk mn mx wi = true) : (Dt.new mn mx wi).Ok := Dt.new_ok h
theorem wnew_yes (mn mx wi : Int) (h : newOk mn mx wi = true) (w : World) : Calls Try.prog 10 #[.int .i64 mn, .int .i64 mx, .int .i64 wi] w fun en w' => ∃ p S, en = .returned (.tuple #[.pointer (some ⟨p, 0, none⟩), .int .i64 0]) ∧ Wat S w' p 0 (Dt.new mn mx wi) [] (fun _ => Dt.new mn mx wi) ∧ (∀ k, S k → w.heap.size ≤ k) ∧ Below w.heap.size w w' := by
  have HO := Lib.hid (Dt.new_ok h)
  go_enter Try.func10, Try.ntmps10
  go_wp2_with fail
  (with_reducible refine (new_yes mn mx wi h _).mono ?_)
  rintro en w1 ⟨l, v, rfl, h1, h2⟩
  have H1 := Lib.hid h1
  have B1 := Lib.hid h2
  clear h1 h2
  go_wp2_with fail
  have X := Lib.hid (heap_alloc_new w1 (.cells #[.pointer (some ⟨l, 0, none⟩), .map none] 57))
  have B2 := Lib.hid (below_oneX w1 (.cells #[.pointer (some ⟨l, 0, none⟩), .map none] 57))
  have hs : (w1.alloc (.cells #[.pointer (some ⟨l, 0, none⟩), .map none] 57)).heap.size = w1.heap.size + 1 := by simp
  generalize w1.alloc (.cells #[.pointer (some ⟨l, 0, none⟩), .map none] 57) = w2 at *
  go_ret2
  have H2 := H1.out.below B2.out
  refine ⟨w1.heap.size, fun k => w.heap.size ≤ k ∧ k < w2.heap.size, rfl, ⟨l, none, fun _ => 0, ⟨X.out, ⟨B1.out.size, by omega⟩, ⟨v, H2.mono (Nat.zero_le _), ⟨H1.out.lo, H2.lt⟩, fun g hg => ⟨?_, ?_⟩, HO.out⟩, rfl, fun q hq => (by cases hq), fun q hq => (by cases hq), fun q hq => (by cases hq), fun q hq => (by cases hq), fun k hk => hk.2⟩⟩, fun k hk => hk.1, below_after B1.out B2.out (Nat.le_refl _)⟩
  · exact (World.ownsRow.lt H1.out.gaps g hg).1
  · obtain ⟨cs, hc⟩ := gaps_type H2.gaps hg
    exact row_lt hc
theorem wnew_no (mn mx wi : Int) (h : newOk mn mx wi = false) (w : World) : Calls Try.prog 10 #[.int .i64 mn, .int .i64 mx, .int .i64 wi] w fun en w' => en = .returned (.tuple #[.pointer none, .int .i64 1]) ∧ Below w.heap.size w w' := by
  go_enter Try.func10, Try.ntmps10
  go_wp2_with fail
  (with_reducible refine (new_no mn mx wi h _).mono ?_)
  rintro en w1 ⟨rfl, h2⟩
  have B1 := Lib.hid h2
  clear h2
  go_wp2_with fail
  go_ret2
  exact ⟨rfl, B1.out⟩
/-- Somebody is heard. -/
def heardD (D : Id2 → Dt) (q : Id2) (x : Int) : Id2 → Dt := fun r => if r = q then (D q).heard x else D r
set_option maxHeartbeats 1000000 in
theorem wheard_any (h : Wat S W p n e K D) (a i x : Int) (hq : In2 (a, i)) : Calls Try.prog 14 #[.pointer (some ⟨p, 0, none⟩), .agg #[.int .i64 a, .int .i64 i], .int .i64 x] W fun en W' => en = .returned (.bool (hasB (a, i) K)) ∧ ∃ S', Wat S' W' p n e K (heardD D (a, i) x) ∧ Upd S W W' S' := by
  obtain ⟨f, mb, L, h⟩ := h
  have H := Lib.hid h
  have B1 := Lib.hid (below_one W (.cells #[.int .i64 a, .int .i64 i] 35))
  have X1 := Lib.hid (box_new W a i)
  have H1 := Lib.hid (h.keep B1.out)
  have HQ := Lib.hid hq
  clear h hq
  go_enter Try.func14, Try.ntmps14
  go_wp2_with fail
  generalize W.alloc (.cells #[.int .i64 a, .int .i64 i] 35) = w1 at *
  have HS : Hid (∀ w', Below w1.heap.size w1 w' → (w'.cell? ⟨W.heap.size, 0, none⟩ = some (.int .i64 a) ∧ w'.cell? ⟨W.heap.size, 1, none⟩ = some (.int .i64 i) ∧ w'.cell? ⟨p, 1, none⟩ = some (.map mb) ∧ (Instr.lookup 55 (.map mb) (.agg #[.int .i64 a, .int .i64 i]) true).run Try.prog w' = .ok (.tuple #[ptV (if (a, i) ∈ K then some (L (a, i)) else none), .bool (hasB (a, i) K)]) w' ∧ Hid (Below w1.heap.size w1 w'))) := Lib.hid fun w' hb => by
    have h1 := H1.out.keep hb
    obtain ⟨c0, c1⟩ := box_cells (box_below X1.out hb)
    exact ⟨c0, c1, h1.cells.2, h1.look HQ.out, Lib.hid hb⟩
  by_cases hk : (a, i) ∈ K
  · rw [if_pos hk, hasB_in hk] at HS
    have HK := Lib.hid hk
    have HE := Lib.hid (hasB_in hk)
    clear hk
    simp only [ptV, Option.map_some] at HS
    refine wp_region_held_drew (S := fun w' => w'.cell? ⟨W.heap.size, 0, none⟩ = some (.int .i64 a) ∧ w'.cell? ⟨W.heap.size, 1, none⟩ = some (.int .i64 i) ∧ w'.cell? ⟨p, 1, none⟩ = some (.map mb) ∧ (Instr.lookup 55 (.map mb) (.agg #[.int .i64 a, .int .i64 i]) true).run Try.prog w' = .ok (.tuple #[.pointer (some ⟨L (a, i), 0, none⟩), .bool (true)]) w' ∧ Hid (Below w1.heap.size w1 w')) (by kernel_rfl) ?_ (fun hHeld => ?_)
    · exact HS.out _ (below_drewN (n := 1) (Below.refl _ _))
    (refine wpAnyH_take (i := 0) (oi := ⟨_, _, _, _, _, _⟩) (v := ?_) rfl (by kernel_rfl) (by kernel_rfl) (by kernel_rfl) (fun _ _ _ h => h) (Or.inl ⟨by rfl, ?_⟩) (by assumption) ?_; rotate_left 1; · (intro w hSw; (try dsimp only at hSw); go_simp; all_goals with_reducible rfl))
    try simp only [Act.put, List.setIfInBounds_toArray, List.set_cons_zero, List.set_cons_succ]
    (refine wpAnyH_take (i := 1) (oi := ⟨_, _, _, _, _, _⟩) (v := ?_) rfl (by kernel_rfl) (by kernel_rfl) (by kernel_rfl) (fun _ _ _ h => h) (Or.inl ⟨by rfl, ?_⟩) (by assumption) ?_; rotate_left 1; · (intro w hSw; (try dsimp only at hSw); go_simp; all_goals with_reducible rfl))
    try simp only [Act.put, List.setIfInBounds_toArray, List.set_cons_zero, List.set_cons_succ]
    (refine wpAnyH_take (i := 2) (oi := ⟨_, _, _, _, _, _⟩) (v := ?_) rfl (by kernel_rfl) (by kernel_rfl) (by kernel_rfl) (fun _ _ _ h => h) (Or.inl ⟨by rfl, ?_⟩) (by assumption) ?_; rotate_left 1; · (intro w hSw; (try dsimp only at hSw); go_simp; all_goals with_reducible rfl))
    try simp only [Act.put, List.setIfInBounds_toArray, List.set_cons_zero, List.set_cons_succ]
    (refine wpAnyH_take (i := 3) (oi := ⟨_, _, _, _, _, _⟩) (v := ?_) rfl (by kernel_rfl) (by kernel_rfl) (by kernel_rfl) (fun _ _ _ h => h) (Or.inl ⟨by rfl, ?_⟩) (by assumption) ?_; rotate_left 1; · (intro w hSw; (try dsimp only at hSw); go_simp; all_goals with_reducible rfl))
    try simp only [Act.put, List.setIfInBounds_toArray, List.set_cons_zero, List.set_cons_succ]
    (refine wpAnyH_take (i := 4) (oi := ⟨_, _, _, _, _, _⟩) (v := ?_) rfl (by kernel_rfl) (by kernel_rfl) (by kernel_rfl) (fun _ _ _ h => h) (Or.inl ⟨by rfl, ?_⟩) (by assumption) ?_; rotate_left 1; · (intro w hSw; (try dsimp only at hSw); go_simp; all_goals with_reducible rfl))
    try simp only [Act.put, List.setIfInBounds_toArray, List.set_cons_zero, List.set_cons_succ]
    (refine wpAnyH_take (i := 5) (oi := ⟨_, _, _, _, _, _⟩) (v := ?_) rfl (by kernel_rfl) (by kernel_rfl) (by kernel_rfl) (fun _ _ _ h => h) (Or.inl ⟨by rfl, ?_⟩) (by assumption) ?_; rotate_left 1; · (intro w hSw; (try dsimp only at hSw); go_simp; all_goals with_reducible rfl))
    try simp only [Act.put, List.setIfInBounds_toArray, List.set_cons_zero, List.set_cons_succ]
    (refine wpAnyH_take (i := 6) (oi := ⟨_, _, _, _, _, _⟩) (v := ?_) rfl (by kernel_rfl) (by kernel_rfl) (by kernel_rfl) (fun _ _ _ h => h) (Or.inl ⟨by rfl, ?_⟩) (by assumption) ?_; rotate_left 1; · (intro w hSw; (try dsimp only at hSw); go_simp; all_goals with_reducible rfl))
    try simp only [Act.put, List.setIfInBounds_toArray, List.set_cons_zero, List.set_cons_succ]
    (refine wpAnyH_take (i := 7) (oi := ⟨_, _, _, _, _, _⟩) (v := ?_) rfl (by kernel_rfl) (by kernel_rfl) (by kernel_rfl) (fun _ _ _ h => h) (Or.inl ⟨by rfl, ?_⟩) (by assumption) ?_; rotate_left 1; · (intro w hSw; (try dsimp only at hSw); go_simp; all_goals with_reducible rfl))
    try simp only [Act.put, List.setIfInBounds_toArray, List.set_cons_zero, List.set_cons_succ]
    (refine wpAnyH_take (i := 8) (oi := ⟨_, _, _, _, _, _⟩) (v := ?_) rfl (by kernel_rfl) (by kernel_rfl) (by kernel_rfl) (fun _ _ _ h => h) (Or.inl ⟨by rfl, ?_⟩) (by assumption) ?_; rotate_left 1; · (intro w hSw; (try dsimp only at hSw); go_simp; all_goals with_reducible rfl))
    try simp only [Act.put, List.setIfInBounds_toArray, List.set_cons_zero, List.set_cons_succ]
    (refine wpAnyH_take (i := 9) (oi := ⟨_, _, _, _, _, _⟩) (v := ?_) rfl (by kernel_rfl) (by kernel_rfl) (by kernel_rfl) (fun _ _ _ h => h) (Or.inl ⟨by rfl, ?_⟩) (by assumption) ?_; rotate_left 1; · (intro w hSw; (try dsimp only at hSw); go_simp; all_goals with_reducible rfl))
    try simp only [Act.put, List.setIfInBounds_toArray, List.set_cons_zero, List.set_cons_succ]
    (refine wpAnyH_take (i := 10) (oi := ⟨_, _, _, _, _, _⟩) (v := ?_) rfl (by kernel_rfl) (by kernel_rfl) (by kernel_rfl) (fun _ _ _ h => h) (Or.inl ⟨by rfl, ?_⟩) (by assumption) ?_; rotate_left 1; · (intro w hSw; (try dsimp only at hSw); go_simp; all_goals with_reducible rfl))
    try simp only [Act.put, List.setIfInBounds_toArray, List.set_cons_zero, List.set_cons_succ]
    refine wpAnyH_done (by kernel_rfl) ?_ _
    obtain ⟨c0, c1, c2, c3, HB⟩ := hHeld
    have H3 := Lib.hid (H1.out.keep HB.out)
    clear c0 c1 c2 c3 HS H1 X1
    obtain ⟨v, hv, hS1, hS2, hok⟩ := H3.out.dets _ HK.out
    have HV := Lib.hid hv
    have HS3 := Lib.hid hS2
    have HO := Lib.hid hok
    clear hv hS1 hS2 hok
    go_wp2_with fail
    (with_reducible refine (heard_any 0 (L (a, i)) (D (a, i)) v x _ HV.out HO.out (Nat.zero_le _)).mono ?_)
    intro en w5 hd
    have hen := hd.1
    subst hen
    obtain ⟨S', k1, k2⟩ := H3.out.done HK.out HS3.out hd (Dt.heard_ok HO.out x)
    have K1 := Lib.hid k1
    have K2 := Lib.hid ((Upd.keep (S := S) (below_after B1.out HB.out (Nat.le_refl _))).trans k2)
    clear k1 k2 hd
    go_wp2_with fail
    go_ret
    exact ⟨ret_bool HE.out.symm, S', ⟨f, mb, L, K1.out⟩, K2.out⟩
  · rw [if_neg hk, hasB_not hk] at HS
    have HK := Lib.hid hk
    have HE := Lib.hid (hasB_not hk)
    clear hk
    simp only [ptV, Option.map_none] at HS
    refine wp_region_held_drew (S := fun w' => w'.cell? ⟨W.heap.size, 0, none⟩ = some (.int .i64 a) ∧ w'.cell? ⟨W.heap.size, 1, none⟩ = some (.int .i64 i) ∧ w'.cell? ⟨p, 1, none⟩ = some (.map mb) ∧ (Instr.lookup 55 (.map mb) (.agg #[.int .i64 a, .int .i64 i]) true).run Try.prog w' = .ok (.tuple #[.pointer none, .bool (false)]) w' ∧ Hid (Below w1.heap.size w1 w')) (by kernel_rfl) ?_ (fun hHeld => ?_)
    · exact HS.out _ (below_drewN (n := 1) (Below.refl _ _))
    (refine wpAnyH_take (i := 0) (oi := ⟨_, _, _, _, _, _⟩) (v := ?_) rfl (by kernel_rfl) (by kernel_rfl) (by kernel_rfl) (fun _ _ _ h => h) (Or.inl ⟨by rfl, ?_⟩) (by assumption) ?_; rotate_left 1; · (intro w hSw; (try dsimp only at hSw); go_simp; all_goals with_reducible rfl))
    try simp only [Act.put, List.setIfInBounds_toArray, List.set_cons_zero, List.set_cons_succ]
    (refine wpAnyH_take (i := 1) (oi := ⟨_, _, _, _, _, _⟩) (v := ?_) rfl (by kernel_rfl) (by kernel_rfl) (by kernel_rfl) (fun _ _ _ h => h) (Or.inl ⟨by rfl, ?_⟩) (by assumption) ?_; rotate_left 1; · (intro w hSw; (try dsimp only at hSw); go_simp; all_goals with_reducible rfl))
    try simp only [Act.put, List.setIfInBounds_toArray, List.set_cons_zero, List.set_cons_succ]
    (refine wpAnyH_take (i := 2) (oi := ⟨_, _, _, _, _, _⟩) (v := ?_) rfl (by kernel_rfl) (by kernel_rfl) (by kernel_rfl) (fun _ _ _ h => h) (Or.inl ⟨by rfl, ?_⟩) (by assumption) ?_; rotate_left 1; · (intro w hSw; (try dsimp only at hSw); go_simp; all_goals with_reducible rfl))
    try simp only [Act.put, List.setIfInBounds_toArray, List.set_cons_zero, List.set_cons_succ]
    (refine wpAnyH_take (i := 3) (oi := ⟨_, _, _, _, _, _⟩) (v := ?_) rfl (by kernel_rfl) (by kernel_rfl) (by kernel_rfl) (fun _ _ _ h => h) (Or.inl ⟨by rfl, ?_⟩) (by assumption) ?_; rotate_left 1; · (intro w hSw; (try dsimp only at hSw); go_simp; all_goals with_reducible rfl))
    try simp only [Act.put, List.setIfInBounds_toArray, List.set_cons_zero, List.set_cons_succ]
    (refine wpAnyH_take (i := 4) (oi := ⟨_, _, _, _, _, _⟩) (v := ?_) rfl (by kernel_rfl) (by kernel_rfl) (by kernel_rfl) (fun _ _ _ h => h) (Or.inl ⟨by rfl, ?_⟩) (by assumption) ?_; rotate_left 1; · (intro w hSw; (try dsimp only at hSw); go_simp; all_goals with_reducible rfl))
    try simp only [Act.put, List.setIfInBounds_toArray, List.set_cons_zero, List.set_cons_succ]
    (refine wpAnyH_take (i := 5) (oi := ⟨_, _, _, _, _, _⟩) (v := ?_) rfl (by kernel_rfl) (by kernel_rfl) (by kernel_rfl) (fun _ _ _ h => h) (Or.inl ⟨by rfl, ?_⟩) (by assumption) ?_; rotate_left 1; · (intro w hSw; (try dsimp only at hSw); go_simp; all_goals with_reducible rfl))
    try simp only [Act.put, List.setIfInBounds_toArray, List.set_cons_zero, List.set_cons_succ]
    (refine wpAnyH_take (i := 6) (oi := ⟨_, _, _, _, _, _⟩) (v := ?_) rfl (by kernel_rfl) (by kernel_rfl) (by kernel_rfl) (fun _ _ _ h => h) (Or.inl ⟨by rfl, ?_⟩) (by assumption) ?_; rotate_left 1; · (intro w hSw; (try dsimp only at hSw); go_simp; all_goals with_reducible rfl))
    try simp only [Act.put, List.setIfInBounds_toArray, List.set_cons_zero, List.set_cons_succ]
    (refine wpAnyH_take (i := 7) (oi := ⟨_, _, _, _, _, _⟩) (v := ?_) rfl (by kernel_rfl) (by kernel_rfl) (by kernel_rfl) (fun _ _ _ h => h) (Or.inl ⟨by rfl, ?_⟩) (by assumption) ?_; rotate_left 1; · (intro w hSw; (try dsimp only at hSw); go_simp; all_goals with_reducible rfl))
    try simp only [Act.put, List.setIfInBounds_toArray, List.set_cons_zero, List.set_cons_succ]
    (refine wpAnyH_take (i := 8) (oi := ⟨_, _, _, _, _, _⟩) (v := ?_) rfl (by kernel_rfl) (by kernel_rfl) (by kernel_rfl) (fun _ _ _ h => h) (Or.inl ⟨by rfl, ?_⟩) (by assumption) ?_; rotate_left 1; · (intro w hSw; (try dsimp only at hSw); go_simp; all_goals with_reducible rfl))
    try simp only [Act.put, List.setIfInBounds_toArray, List.set_cons_zero, List.set_cons_succ]
    (refine wpAnyH_take (i := 9) (oi := ⟨_, _, _, _, _, _⟩) (v := ?_) rfl (by kernel_rfl) (by kernel_rfl) (by kernel_rfl) (fun _ _ _ h => h) (Or.inl ⟨by rfl, ?_⟩) (by assumption) ?_; rotate_left 1; · (intro w hSw; (try dsimp only at hSw); go_simp; all_goals with_reducible rfl))
    try simp only [Act.put, List.setIfInBounds_toArray, List.set_cons_zero, List.set_cons_succ]
    (refine wpAnyH_take (i := 10) (oi := ⟨_, _, _, _, _, _⟩) (v := ?_) rfl (by kernel_rfl) (by kernel_rfl) (by kernel_rfl) (fun _ _ _ h => h) (Or.inl ⟨by rfl, ?_⟩) (by assumption) ?_; rotate_left 1; · (intro w hSw; (try dsimp only at hSw); go_simp; all_goals with_reducible rfl))
    try simp only [Act.put, List.setIfInBounds_toArray, List.set_cons_zero, List.set_cons_succ]
    refine wpAnyH_done (by kernel_rfl) ?_ _
    obtain ⟨c0, c1, c2, c3, HB⟩ := hHeld
    have H3 := Lib.hid (H1.out.keep HB.out)
    clear c0 c1 c2 c3 HS H1 X1
    go_wp2_with fail
    go_ret
    refine ⟨ret_bool HE.out.symm, S, ⟨f, mb, L, H3.out.congr fun q hq => ?_⟩, .keep (below_after B1.out HB.out (Nat.le_refl _))⟩
    unfold heardD
    rw [if_neg]
    rintro rfl
    exact HK.out hq
end Go.Proofs.Ytkoeplgkiogjlaa
