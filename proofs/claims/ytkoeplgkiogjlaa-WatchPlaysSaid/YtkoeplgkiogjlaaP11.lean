/-
  Carried over and put together: contracts of this program's functions, and plain facts. No statement is proved in this text.
-/
import Derived.Test.YtkoeplgkiogjlaaP10
set_option maxRecDepth 20000
namespace Go.Proofs.Ytkoeplgkiogjlaa
open Go Go.RowKit Sets Go.Maps Go.ChangeMaps Go.MapKept
variable {S S2 S' : Nat → Prop} {W W' w : World} {p n : Nat} {mn mx wi : Int} {K : List Id2} {X X' : Id2 → Dt} {L : Id2 → Nat} {v : Value}
theorem rcopyD_any (base l n : Nat) (d : Dt) (v : Value) (w : World) (h : Det 83 w base l d v) (hd : ROk n d) : Calls Try.prog 29 #[.pointer (some ⟨l, 0, none⟩)] w fun e w' => ∃ l' v', e = .returned (.pointer (some ⟨l', 0, none⟩)) ∧ Det 83 w' w.heap.size l' d v' ∧ Below w.heap.size w w' := by
  have H := Lib.hid h
  have HF := Lib.hid (show d.ga.length ≤ 4096 by have := hd.len; have := hd.few; omega)
  obtain ⟨c0, c1, c2, c3, c4, c5⟩ := dbox_cells h.box
  obtain ⟨A, c, rfl, -, -⟩ := gaps_slice h.gaps
  have hll := Lib.hid h.lt
  clear h hd
  go_enter Try.func29, Try.ntmps29
  go_upto_region 2 with fail
  have X1 : Hid (DBox 83 (w.alloc (.cells #[.int .i64 d.mn, .int .i64 d.mx, .int .i64 d.wi, .bool d.bg, .int .i64 d.la, .slice A d.ga.length c] 83)) w.heap.size d (.slice A d.ga.length c)) := Lib.hid (heap_alloc_new w _)
  have B1 := Lib.hid (below_oneX w (.cells #[.int .i64 d.mn, .int .i64 d.mx, .int .i64 d.wi, .bool d.bg, .int .i64 d.la, .slice A d.ga.length c] 83))
  clear c0 c1 c2 c3 c4 c5
  generalize w.alloc (.cells #[.int .i64 d.mn, .int .i64 d.mx, .int .i64 d.wi, .bool d.bg, .int .i64 d.la, .slice A d.ga.length c] 83) = w1 at *
  have H1 := Lib.hid (H.out.below B1.out)
  have c5 := (dbox_cells (H1.out.below (below_oneX w1 (.cells #[] 3))).box).2.2.2.2.2
  have R1 := Lib.hid (gaps_rcs H1.out.gaps)
  have hgl : Hid (w.heap.size < w1.heap.size) := Lib.hid (dbox_lt X1.out)
  generalize hgb : w.heap.size = gb at *
  go_wp2_with (first | (refine wpList_copied (by rfl) _ _ (by rfl) w1 _ d.ga (by rfl) (by rfl) R1.out HF.out ?_; intro A2 c2 w2 h1 h2; have G2 := Lib.hid h1; have B2 := Lib.hid h2; have X2 := Lib.hid (dbox_below X1.out h2); have k5 := (dbox_cells X2.out).2.2.2.2.2; have f5 := (dbox_free X2.out).2.2; clear h1 h2) | fail)
  go_ret
  subst hgb
  refine ⟨w.heap.size, _, rfl, ⟨dbox_set5 X2.out _ d.ga, Nat.le_refl _, gaps_set X2.out (by decide) (World.ownsRow.mono G2.out (Nat.le_of_lt hgl.out)), by decide⟩, ?_⟩
  exact ((B1.out.trans (B2.out.mono (Nat.le_of_lt hgl.out))).setCell (Nat.le_refl _) _)
/-- append of one record, as a run. -/
theorem run_push_rec {P : Program} {α : Type} {enc : α → List Value} {sz : Nat} (t e ty : TypeId) {z : Value} {bytes : Nat} (ht : P.underlying t = some (.slice e))
    (hinfo : (P.info? e).map (fun i => (i.zero, i.size, i.bytes)) = some (some z, sz, bytes)) (hz : z.cells.size = sz) (hs : ∀ a, (enc a).length = sz) (h0 : 0 < sz) (h1 : ∀ a, ∀ u ∈ enc a, u.oneCell' = true) (hby : bytes ≤ 1000)
    (W : World) (base b : Nat) (v : Value) (d : List α) (r : α) (cs : Array Value) (hcs : cs.toList = enc r) (hb : W.heap[b]? = some (.cells cs e (0, 0))) (hown : OwnsR enc sz e W base v d) (hl : d.length ≤ 99999) (hB : base ≤ W.heap.size) :
    ∃ g cap w', (Builtin.append_ #[t, t] ty #[v, .slice (some ⟨b, 0, none⟩) 1 1]).run P W = .ok (.slice (some ⟨g, 0, none⟩) (d.length + 1) cap) w' ∧ OwnsR enc sz e w' base (.slice (some ⟨g, 0, none⟩) (d.length + 1) cap) (d ++ [r]) ∧ W.grownBy w' v.ownBlock := by
  obtain ⟨i0, hi, hz0, hz1, hz2⟩ := info_parts hinfo
  obtain ⟨g, cap, w', hrun, r1, r2, r3, r4⟩ := run_append_lies (P := P) W t ty base e i0 z sz bytes ht hi hz0 hz1 hz2 hz h0 v d.length (flatR enc d) hown
    ⟨b, 0, none⟩ 1 1 (enc r) (by rw [hs]; omega) (by rw [← hcs]; exact World.news_of_block hb) (h1 r) (by omega) (by unfold maxLen; omega) (by
      have h5 : (d.length + 1) * bytes ≤ 100000 * 1000 := Nat.mul_le_mul (by omega) hby
      omega) hB _ rfl
  refine ⟨g, cap, w', hrun, ?_, r2⟩
  unfold OwnsR
  rw [flatR_append, List.length_append]
  have : flatR enc [r] = enc r := by simp [flatR]
  rw [this]
  exact r1
theorem step_pushO {ops : Array Oper} {o : Oper} {a : Act} {K : Act → World → Prop} {Q : Exit → Act → World → Prop} {E : Prop} (hgd : o.guard = none) (s x : Operand)
    (ho : o.op = .call { callee := .builtin .append, args := #[s, x], argTypes := #[61, 61] }) (W : World) (base b : Nat) (v : Value) (d : List (Id2 × Nat)) (r : Id2 × Nat) (hs : a.eval s = v) (hx : a.eval x = .slice (some ⟨b, 0, none⟩) 1 1)
    (hown : OwnsR encO 3 66 W base v d) (hb : W.heap[b]? = some (.cells #[.int .i64 r.1.1, .int .i64 r.1.2, .pointer (some ⟨r.2, 0, none⟩)] 66 (0, 0))) (hl : d.length ≤ 99999) (hB : base ≤ W.heap.size)
    (h : ∀ g cap w', OwnsR encO 3 66 w' base (.slice (some ⟨g, 0, none⟩) (d.length + 1) cap) (d ++ [r]) → W.grownBy w' v.ownBlock → K (a.put o.dst (.slice (some ⟨g, 0, none⟩) (d.length + 1) cap)) w') :
    if Region.wanted o (yielded ops a.tmps) = true then Oper.wp Try.prog o a W K Q else E := by
  have hw : Region.wanted o (yielded ops a.tmps) = true := by simp [Region.wanted, hgd]
  rw [if_pos hw]
  obtain ⟨g, cap, w', hr, k1, k2⟩ := run_push_rec (P := Try.prog) (enc := encO) (sz := 3) 61 66 o.type Try.underlying61 info66 rfl encO_len (by decide) encO_one (by decide) W base b v d r _ rfl hb hown hl hB
  unfold Oper.wp execOp
  simp only [ho, resolve, invoke, builtin, Sem.run_bind, Sem.run_pure, Result.andThen_ok, List.map_toArray, List.map_cons, List.map_nil, hs, hx, hr]
  exact h g cap w' k1 k2
theorem step_litO {ops : Array Oper} {o : Oper} {a : Act} {K : Act → World → Prop} {Q : Exit → Act → World → Prop} {E : Prop} (hgd : o.guard = none) (x : Operand) (ho : o.op = .buildSlice 61 1 #[(0, x)]) (W : World) (r : Id2 × Nat) (hx : a.eval x = .agg #[.int .i64 r.1.1, .int .i64 r.1.2, .pointer (some ⟨r.2, 0, none⟩)])
    (h : ∀ b W', W'.heap[b]? = some (.cells #[.int .i64 r.1.1, .int .i64 r.1.2, .pointer (some ⟨r.2, 0, none⟩)] 66 (0, 0)) → Below W.heap.size W W' → K (a.put o.dst (.slice (some ⟨b, 0, none⟩) 1 1)) W') :
    if Region.wanted o (yielded ops a.tmps) = true then Oper.wp Try.prog o a W K Q else E := by
  have hw : Region.wanted o (yielded ops a.tmps) = true := by simp [Region.wanted, hgd]
  rw [if_pos hw]
  have hr : (Instr.buildSlice 61 1 #[(0, .agg #[.int .i64 r.1.1, .int .i64 r.1.2, .pointer (some ⟨r.2, 0, none⟩)])]).run Try.prog W = .ok (.slice (some ⟨W.heap.size, 0, none⟩) 1 1) (W.alloc (.cells #[.int .i64 r.1.1, .int .i64 r.1.2, .pointer (some ⟨r.2, 0, none⟩)] 66)) := by kernel_rfl
  unfold Oper.wp execOp
  simp only [ho, Sem.run_bind, Sem.run_pure, Result.andThen_ok, List.map_toArray, List.map_cons, List.map_nil, hx, hr]
  exact h _ _ (heap_alloc_new W _) (below_oneX W _)
set_option maxHeartbeats 4000000 in
/-- THE DOCUMENT's Copy. -/
theorem rcopy_any (h : Rw S W p n mn mx wi K X) (hr : Rises K) (hl : K.length ≤ 10000) : Calls Try.prog 13 #[.pointer (some ⟨p, 0, none⟩)] W fun en W' => ∃ p' S', en = .returned (.pointer (some ⟨p', 0, none⟩)) ∧ Rw S' W' p' n mn mx wi K X ∧ (∀ k, S' k → W.heap.size ≤ k) ∧ Below W.heap.size W W' := by
  obtain ⟨L, v, h⟩ := h
  have H := Lib.hid h
  have HRK := Lib.hid hr
  have HRA := Lib.hid (rcs_owns encO_len h.all)
  obtain ⟨Aa, ca, rfl, -⟩ := id HRA.out
  rw [oneL_len] at HRA
  clear h hr
  have HSt : Hid (∀ W', Below W.heap.size W W' → (W'.cell? ⟨p, 0, none⟩ = some (.int .i64 mn) ∧ W'.cell? ⟨p, 1, none⟩ = some (.int .i64 mx) ∧ W'.cell? ⟨p, 2, none⟩ = some (.int .i64 wi))) := Lib.hid fun W' hb => by
    obtain ⟨b0, b1, b2, b3⟩ := (H.out.keep hb).cells
    exact ⟨b0, b1, b2⟩
  go_enter Try.func13, Try.ntmps13
  go_wp2_with fail
  refine wp_region_held_drew (S := fun W' => W'.cell? ⟨p, 0, none⟩ = some (.int .i64 mn) ∧ W'.cell? ⟨p, 1, none⟩ = some (.int .i64 mx) ∧ W'.cell? ⟨p, 2, none⟩ = some (.int .i64 wi)) (by kernel_rfl) ?_ (fun hHeld => ?_)
  · exact HSt.out _ (Below.refl _ _).drew
  (refine wpAnyH_take (i := 0) (oi := ⟨_, _, _, _, _, _⟩) (v := ?_) rfl (by kernel_rfl) (by kernel_rfl) (by kernel_rfl) (fun _ _ _ h => h) (Or.inl ⟨by rfl, ?_⟩) (by assumption) ?_; rotate_left 1; · (intro w hSw; (try dsimp only at hSw); go_simp; all_goals with_reducible rfl))
  try simp only [Act.put, List.setIfInBounds_toArray, List.set_cons_zero, List.set_cons_succ]
  (refine wpAnyH_take (i := 1) (oi := ⟨_, _, _, _, _, _⟩) (v := ?_) rfl (by kernel_rfl) (by kernel_rfl) (by kernel_rfl) (fun _ _ _ h => h) (Or.inl ⟨by rfl, ?_⟩) (by assumption) ?_; rotate_left 1; · (intro w hSw; (try dsimp only at hSw); go_simp; all_goals with_reducible rfl))
  try simp only [Act.put, List.setIfInBounds_toArray, List.set_cons_zero, List.set_cons_succ]
  (refine wpAnyH_take (i := 2) (oi := ⟨_, _, _, _, _, _⟩) (v := ?_) rfl (by kernel_rfl) (by kernel_rfl) (by kernel_rfl) (fun _ _ _ h => h) (Or.inl ⟨by rfl, ?_⟩) (by assumption) ?_; rotate_left 1; · (intro w hSw; (try dsimp only at hSw); go_simp; all_goals with_reducible rfl))
  try simp only [Act.put, List.setIfInBounds_toArray, List.set_cons_zero, List.set_cons_succ]
  (refine wpAnyH_take (i := 3) (oi := ⟨_, _, _, _, _, _⟩) (v := ?_) rfl (by kernel_rfl) (by kernel_rfl) (by kernel_rfl) (fun _ _ _ h => h) (Or.inl ⟨by rfl, ?_⟩) (by assumption) ?_; rotate_left 1; · (intro w hSw; (try dsimp only at hSw); go_simp; all_goals with_reducible rfl))
  try simp only [Act.put, List.setIfInBounds_toArray, List.set_cons_zero, List.set_cons_succ]
  (refine wpAnyH_take (i := 4) (oi := ⟨_, _, _, _, _, _⟩) (v := ?_) rfl (by kernel_rfl) (by kernel_rfl) (by kernel_rfl) (fun _ _ _ h => h) (Or.inl ⟨by rfl, ?_⟩) (by assumption) ?_; rotate_left 1; · (intro w hSw; (try dsimp only at hSw); go_simp; all_goals with_reducible rfl))
  try simp only [Act.put, List.setIfInBounds_toArray, List.set_cons_zero, List.set_cons_succ]
  (refine wpAnyH_take (i := 5) (oi := ⟨_, _, _, _, _, _⟩) (v := ?_) rfl (by kernel_rfl) (by kernel_rfl) (by kernel_rfl) (fun _ _ _ h => h) (Or.inl ⟨by rfl, ?_⟩) (by assumption) ?_; rotate_left 1; · (intro w hSw; (try dsimp only at hSw); go_simp; all_goals with_reducible rfl))
  try simp only [Act.put, List.setIfInBounds_toArray, List.set_cons_zero, List.set_cons_succ]
  (refine wpAnyH_take (i := 6) (oi := ⟨_, _, _, _, _, _⟩) (v := ?_) rfl (by kernel_rfl) (by kernel_rfl) (by kernel_rfl) (fun _ _ _ h => h) (Or.inl ⟨by rfl, ?_⟩) (by assumption) ?_; rotate_left 1; · (intro w hSw; (try dsimp only at hSw); go_simp; all_goals with_reducible rfl))
  try simp only [Act.put, List.setIfInBounds_toArray, List.set_cons_zero, List.set_cons_succ]
  (refine wpAnyH_take (i := 7) (oi := ⟨_, _, _, _, _, _⟩) (v := ?_) rfl (by kernel_rfl) (by kernel_rfl) (by kernel_rfl) (fun _ _ _ h => h) (Or.inl ⟨by rfl, ?_⟩) (by assumption) ?_; rotate_left 1; · (intro w hSw; (try dsimp only at hSw); go_simp; all_goals with_reducible rfl))
  try simp only [Act.put, List.setIfInBounds_toArray, List.set_cons_zero, List.set_cons_succ]
  (refine wpAnyH_take (i := 8) (oi := ⟨_, _, _, _, _, _⟩) (v := ?_) rfl (by kernel_rfl) (by kernel_rfl) (by kernel_rfl) (fun _ _ _ h => h) (Or.inl ⟨by rfl, ?_⟩) (by assumption) ?_; rotate_left 1; · (intro w hSw; (try dsimp only at hSw); go_simp; all_goals with_reducible rfl))
  try simp only [Act.put, List.setIfInBounds_toArray, List.set_cons_zero, List.set_cons_succ]
  (refine wpAnyH_take (i := 9) (oi := ⟨_, _, _, _, _, _⟩) (v := ?_) rfl (by kernel_rfl) (by kernel_rfl) (by kernel_rfl) (fun _ _ _ h => h) (Or.inl ⟨by rfl, ?_⟩) (by assumption) ?_; rotate_left 1; · (intro w hSw; (try dsimp only at hSw); go_simp; all_goals with_reducible rfl))
  try simp only [Act.put, List.setIfInBounds_toArray, List.set_cons_zero, List.set_cons_succ]
  (refine wpAnyH_take (i := 10) (oi := ⟨_, _, _, _, _, _⟩) (v := ?_) rfl (by kernel_rfl) (by kernel_rfl) (by kernel_rfl) (fun _ _ _ h => h) (Or.inl ⟨by rfl, ?_⟩) (by assumption) ?_; rotate_left 1; · (intro w hSw; (try dsimp only at hSw); go_simp; all_goals with_reducible rfl))
  try simp only [Act.put, List.setIfInBounds_toArray, List.set_cons_zero, List.set_cons_succ]
  (refine wpAnyH_take (i := 11) (oi := ⟨_, _, _, _, _, _⟩) (v := ?_) rfl (by kernel_rfl) (by kernel_rfl) (by kernel_rfl) (fun _ _ _ h => h) (Or.inl ⟨by rfl, ?_⟩) (by assumption) ?_; rotate_left 1; · (intro w hSw; (try dsimp only at hSw); go_simp; all_goals with_reducible rfl))
  try simp only [Act.put, List.setIfInBounds_toArray, List.set_cons_zero, List.set_cons_succ]
  (refine wpAnyH_take (i := 12) (oi := ⟨_, _, _, _, _, _⟩) (v := ?_) rfl (by kernel_rfl) (by kernel_rfl) (by kernel_rfl) (fun _ _ _ h => h) (Or.inl ⟨by rfl, ?_⟩) (by assumption) ?_; rotate_left 1; · (intro w hSw; (try dsimp only at hSw); go_simp; all_goals with_reducible rfl))
  try simp only [Act.put, List.setIfInBounds_toArray, List.set_cons_zero, List.set_cons_succ]
  refine wpAnyH_ready (rs := [13]) (by kernel_rfl) (by simp) ?_
  refine AllReadyH.cons (o := ⟨_, _, _, _, _, _⟩) rfl (fun Kq hKq => ?_) AllReadyH.nil
  go_simp
  clear hHeld
  skip
  refine hKq.out _ _ ?_ (fun hHeld => ?_)
  · (try dsimp only); exact HSt.out _ (below_after (Below.refl _ _).drew (below_oneX _ _) (Nat.le_refl _))
  clear hKq Kq
  try simp only [Act.put, List.setIfInBounds_toArray, List.set_cons_zero, List.set_cons_succ]
  (refine wpAnyH_take (i := 14) (oi := ⟨_, _, _, _, _, _⟩) (v := ?_) rfl (by kernel_rfl) (by kernel_rfl) (by kernel_rfl) (fun _ _ _ h => h) (Or.inl ⟨by rfl, ?_⟩) (by assumption) ?_; rotate_left 1; · (intro w hSw; (try dsimp only at hSw); go_simp; all_goals with_reducible rfl))
  try simp only [Act.put, List.setIfInBounds_toArray, List.set_cons_zero, List.set_cons_succ]
  refine wpAnyH_done (by kernel_rfl) ?_ _
  clear hHeld HSt
  have X1 : Hid ((W.alloc (.cells #[.int .i64 mn, .int .i64 mx, .int .i64 wi, .slice none 0 0] 63)).drew.heap[W.heap.size]? = some (.cells #[.int .i64 mn, .int .i64 mx, .int .i64 wi, .slice none 0 0] 63 (0, 0))) := Lib.hid (heap_alloc_new W _)
  have B1 : Hid (Below W.heap.size W (W.alloc (.cells #[.int .i64 mn, .int .i64 mx, .int .i64 wi, .slice none 0 0] 63)).drew) := Lib.hid (below_oneX W _).drew
  go_upto_region 2 with fail
  generalize (W.alloc (.cells #[.int .i64 mn, .int .i64 mx, .int .i64 wi, .slice none 0 0] 63)).drew = w1 at *
  have L1 : Hid (Lk (fun _ => False) W w1 n [] (K.take 0) L L X (.slice none 0 0)) := Lib.hid ⟨OwnsR.nil _ _ _, (fun q hq => by cases hq), fun _ _ => rfl, (fun q hq => by cases hq), (fun q hq => by cases hq), B1.out⟩
  go_wp2_with fail
  go_loopw [4] (fun s4 wr => ∃ (k : Nat) (M : Id2 → Nat) (A7 : Option Addr) (c7 : Nat), k ≤ K.length ∧ s4 = .int .i64 k ∧ Hid (Lk (fun _ => False) W wr n [] (K.take k) L M X (.slice A7 k c7)) ∧ Hid (wr.heap[W.heap.size]? = some (.cells #[.int .i64 mn, .int .i64 mx, .int .i64 wi, .slice A7 k c7] 63 (0, 0)))) (fun s4 _ => K.length - (intOf s4).toNat)
  case atStart => exact ⟨0, L, none, 0, by omega, rfl, L1, X1⟩
  case round =>
    clear X1 B1 L1
    obtain ⟨k, M, A7, c7, hkl, rfl, HL, HX⟩ := hrel
    rename World => w5
    have i3 : (0 : Int) ≤ (k : Int) := by omega
    obtain ⟨b0, b1, b2, b3⟩ := (H.out.keep HL.out.below).cells
    rw [oneL_len] at b3
    by_cases hlt : k < K.length
    · have hd : decide ((k : Int) < (K.length : Int)) = true := by simp; omega
      have i4 : (k : Int) < (K.length : Int) := by omega
      have hlt2 : k < (oneL K L).length := by rw [oneL_len]; exact hlt
      obtain ⟨ao, rfl⟩ := HRA.out.addr (Nat.lt_of_le_of_lt (Nat.zero_le _) hlt2)
      have HS2 := Lib.hid (fun (wr' : World) (va' u : Value) (l' : Nat) hb hB2 hd ok ha => HL.out.comes (wr' := wr') (va' := va') (u := u) (l' := l') HRK.out hlt (by simp) hb hB2 hd ok ha)
      have HSt : Hid (∀ W', Below W.heap.size W W' → (W'.cell? ⟨p, 3, none⟩ = some (.slice (some ao) K.length ca) ∧ W'.cell? (ao.add (k * 3)) = some (.int .i64 K[k].1) ∧ W'.cell? ⟨(ao.add (k * 3)).block, (ao.add (k * 3)).off + 1, none⟩ = some (.int .i64 K[k].2) ∧ W'.cell? ⟨(ao.add (k * 3)).block, (ao.add (k * 3)).off + 2, none⟩ = some (.pointer (some ⟨L K[k], 0, none⟩)))) := Lib.hid fun W' hb => by
        have b3 := (H.out.keep hb).cells.2.2.2
        rw [oneL_len] at b3
        exact ⟨b3, HRA.out.first hb hlt2 (by rw [oneL_at hlt]; rfl), HRA.out.cell hb hlt2 1 (by decide) (by rw [oneL_at hlt]; rfl), HRA.out.cell hb hlt2 2 (by decide) (by rw [oneL_at hlt]; rfl)⟩
      have HDT := Lib.hid (H.out.dets _ (List.getElem_mem hlt))
      generalize hq : K[k] = q at *
      obtain ⟨a, i⟩ := q
      dsimp only at HSt
      have HB := Lib.hid HL.out.below
      have Z5 := Lib.hid (show W.heap.size < w5.heap.size from row_lt HX.out)
      have LEN : (oneL (K.take k) M).length + 1 = k + 1 := by rw [oneL_len, List.length_take]; omega
      go_upto_region 5 with fail
      have KB : Hid (Below w5.heap.size w5 w5.drew) := Lib.hid (Below.refl _ _).drew
      refine wp_region_held_drew (S := fun W' => W'.cell? ⟨p, 3, none⟩ = some (.slice (some ao) K.length ca) ∧ W'.cell? (ao.add (k * 3)) = some (.int .i64 a) ∧ W'.cell? ⟨(ao.add (k * 3)).block, (ao.add (k * 3)).off + 1, none⟩ = some (.int .i64 i) ∧ W'.cell? ⟨(ao.add (k * 3)).block, (ao.add (k * 3)).off + 2, none⟩ = some (.pointer (some ⟨L (a, i), 0, none⟩))) (by kernel_rfl) ?_ (fun hHeld => ?_)
      · exact HSt.out _ (HB.out.trans (KB.out.mono HB.out.size))
      (refine wpAnyH_take (i := 0) (oi := ⟨_, _, _, _, _, _⟩) (v := ?_) rfl (by kernel_rfl) (by kernel_rfl) (by kernel_rfl) (fun _ _ _ h => h) (Or.inl ⟨by rfl, ?_⟩) (by assumption) ?_; rotate_left 1; · (intro w hSw; (try dsimp only at hSw); go_simp; all_goals with_reducible rfl))
      try simp only [Act.put, List.setIfInBounds_toArray, List.set_cons_zero, List.set_cons_succ]
      (refine wpAnyH_take (i := 1) (oi := ⟨_, _, _, _, _, _⟩) (v := ?_) rfl (by kernel_rfl) (by kernel_rfl) (by kernel_rfl) (fun _ _ _ h => h) (Or.inl ⟨by rfl, ?_⟩) (by assumption) ?_; rotate_left 1; · (intro w hSw; (try dsimp only at hSw); go_simp; all_goals with_reducible rfl))
      try simp only [Act.put, List.setIfInBounds_toArray, List.set_cons_zero, List.set_cons_succ]
      (refine wpAnyH_take (i := 2) (oi := ⟨_, _, _, _, _, _⟩) (v := ?_) rfl (by kernel_rfl) (by kernel_rfl) (by kernel_rfl) (fun _ _ _ h => h) (Or.inl ⟨by rfl, ?_⟩) (by assumption) ?_; rotate_left 1; · (intro w hSw; (try dsimp only at hSw); go_simp; all_goals with_reducible rfl))
      try simp only [Act.put, List.setIfInBounds_toArray, List.set_cons_zero, List.set_cons_succ]
      (refine wpAnyH_take (i := 3) (oi := ⟨_, _, _, _, _, _⟩) (v := ?_) rfl (by kernel_rfl) (by kernel_rfl) (by kernel_rfl) (fun _ _ _ h => h) (Or.inl ⟨by rfl, ?_⟩) (by assumption) ?_; rotate_left 1; · (intro w hSw; (try dsimp only at hSw); go_simp; all_goals with_reducible rfl))
      try simp only [Act.put, List.setIfInBounds_toArray, List.set_cons_zero, List.set_cons_succ]
      (refine wpAnyH_take (i := 5) (oi := ⟨_, _, _, _, _, _⟩) (v := ?_) rfl (by kernel_rfl) (by kernel_rfl) (by kernel_rfl) (fun _ _ _ h => h) (Or.inl ⟨by rfl, ?_⟩) (by assumption) ?_; rotate_left 1; · (intro w hSw; (try dsimp only at hSw); go_simp; all_goals with_reducible rfl))
      try simp only [Act.put, List.setIfInBounds_toArray, List.set_cons_zero, List.set_cons_succ]
      (refine wpAnyH_take (i := 6) (oi := ⟨_, _, _, _, _, _⟩) (v := ?_) rfl (by kernel_rfl) (by kernel_rfl) (by kernel_rfl) (fun _ _ _ h => h) (Or.inl ⟨by rfl, ?_⟩) (by assumption) ?_; rotate_left 1; · (intro w hSw; (try dsimp only at hSw); go_simp; all_goals with_reducible rfl))
      try simp only [Act.put, List.setIfInBounds_toArray, List.set_cons_zero, List.set_cons_succ]
      (refine wpAnyH_take (i := 7) (oi := ⟨_, _, _, _, _, _⟩) (v := ?_) rfl (by kernel_rfl) (by kernel_rfl) (by kernel_rfl) (fun _ _ _ h => h) (Or.inl ⟨by rfl, ?_⟩) (by assumption) ?_; rotate_left 1; · (intro w hSw; (try dsimp only at hSw); go_simp; all_goals with_reducible rfl))
      try simp only [Act.put, List.setIfInBounds_toArray, List.set_cons_zero, List.set_cons_succ]
      (refine wpAnyH_take (i := 8) (oi := ⟨_, _, _, _, _, _⟩) (v := ?_) rfl (by kernel_rfl) (by kernel_rfl) (by kernel_rfl) (fun _ _ _ h => h) (Or.inl ⟨by rfl, ?_⟩) (by assumption) ?_; rotate_left 1; · (intro w hSw; (try dsimp only at hSw); go_simp; all_goals with_reducible rfl))
      try simp only [Act.put, List.setIfInBounds_toArray, List.set_cons_zero, List.set_cons_succ]
      (refine wpAnyH_take (i := 9) (oi := ⟨_, _, _, _, _, _⟩) (v := ?_) rfl (by kernel_rfl) (by kernel_rfl) (by kernel_rfl) (fun _ _ _ h => h) (Or.inl ⟨by rfl, ?_⟩) (by assumption) ?_; rotate_left 1; · (intro w hSw; (try dsimp only at hSw); go_simp; all_goals with_reducible rfl))
      try simp only [Act.put, List.setIfInBounds_toArray, List.set_cons_zero, List.set_cons_succ]
      (refine wpAnyH_take (i := 10) (oi := ⟨_, _, _, _, _, _⟩) (v := ?_) rfl (by kernel_rfl) (by kernel_rfl) (by kernel_rfl) (fun _ _ _ h => h) (Or.inl ⟨by rfl, ?_⟩) (by assumption) ?_; rotate_left 1; · (intro w hSw; (try dsimp only at hSw); go_simp; all_goals with_reducible rfl))
      try simp only [Act.put, List.setIfInBounds_toArray, List.set_cons_zero, List.set_cons_succ]
      (refine wpAnyH_take (i := 11) (oi := ⟨_, _, _, _, _, _⟩) (v := ?_) rfl (by kernel_rfl) (by kernel_rfl) (by kernel_rfl) (fun _ _ _ h => h) (Or.inl ⟨by rfl, ?_⟩) (by assumption) ?_; rotate_left 1; · (intro w hSw; (try dsimp only at hSw); go_simp; all_goals with_reducible rfl))
      try simp only [Act.put, List.setIfInBounds_toArray, List.set_cons_zero, List.set_cons_succ]
      (refine wpAnyH_take (i := 12) (oi := ⟨_, _, _, _, _, _⟩) (v := ?_) rfl (by kernel_rfl) (by kernel_rfl) (by kernel_rfl) (fun _ _ _ h => h) (Or.inl ⟨by rfl, ?_⟩) (by assumption) ?_; rotate_left 1; · (intro w hSw; (try dsimp only at hSw); go_simp; all_goals with_reducible rfl))
      try simp only [Act.put, List.setIfInBounds_toArray, List.set_cons_zero, List.set_cons_succ]
      (refine wpAnyH_take (i := 13) (oi := ⟨_, _, _, _, _, _⟩) (v := ?_) rfl (by kernel_rfl) (by kernel_rfl) (by kernel_rfl) (fun _ _ _ h => h) (Or.inl ⟨by rfl, ?_⟩) (by assumption) ?_; rotate_left 1; · (intro w hSw; (try dsimp only at hSw); go_simp; all_goals with_reducible rfl))
      try simp only [Act.put, List.setIfInBounds_toArray, List.set_cons_zero, List.set_cons_succ]
      (refine wpAnyH_take (i := 14) (oi := ⟨_, _, _, _, _, _⟩) (v := ?_) rfl (by kernel_rfl) (by kernel_rfl) (by kernel_rfl) (fun _ _ _ h => h) (Or.inl ⟨by rfl, ?_⟩) (by assumption) ?_; rotate_left 1; · (intro w hSw; (try dsimp only at hSw); go_simp; all_goals with_reducible rfl))
      try simp only [Act.put, List.setIfInBounds_toArray, List.set_cons_zero, List.set_cons_succ]
      (refine wpAnyH_take (i := 15) (oi := ⟨_, _, _, _, _, _⟩) (v := ?_) rfl (by kernel_rfl) (by kernel_rfl) (by kernel_rfl) (fun _ _ _ h => h) (Or.inl ⟨by rfl, ?_⟩) (by assumption) ?_; rotate_left 1; · (intro w hSw; (try dsimp only at hSw); go_simp; all_goals with_reducible rfl))
      try simp only [Act.put, List.setIfInBounds_toArray, List.set_cons_zero, List.set_cons_succ]
      (refine wpAnyH_take (i := 16) (oi := ⟨_, _, _, _, _, _⟩) (v := ?_) rfl (by kernel_rfl) (by kernel_rfl) (by kernel_rfl) (fun _ _ _ h => h) (Or.inl ⟨by rfl, ?_⟩) (by assumption) ?_; rotate_left 1; · (intro w hSw; (try dsimp only at hSw); go_simp; all_goals with_reducible rfl))
      try simp only [Act.put, List.setIfInBounds_toArray, List.set_cons_zero, List.set_cons_succ]
      (refine wpAnyH_take (i := 17) (oi := ⟨_, _, _, _, _, _⟩) (v := ?_) rfl (by kernel_rfl) (by kernel_rfl) (by kernel_rfl) (fun _ _ _ h => h) (Or.inl ⟨by rfl, ?_⟩) (by assumption) ?_; rotate_left 1; · (intro w hSw; (try dsimp only at hSw); go_simp; all_goals with_reducible rfl))
      try simp only [Act.put, List.setIfInBounds_toArray, List.set_cons_zero, List.set_cons_succ]
      (refine wpAnyH_take (i := 18) (oi := ⟨_, _, _, _, _, _⟩) (v := ?_) rfl (by kernel_rfl) (by kernel_rfl) (by kernel_rfl) (fun _ _ _ h => h) (Or.inl ⟨by rfl, ?_⟩) (by assumption) ?_; rotate_left 1; · (intro w hSw; (try dsimp only at hSw); go_simp; all_goals with_reducible rfl))
      try simp only [Act.put, List.setIfInBounds_toArray, List.set_cons_zero, List.set_cons_succ]
      (refine wpAnyH_take (i := 19) (oi := ⟨_, _, _, _, _, _⟩) (v := ?_) rfl (by kernel_rfl) (by kernel_rfl) (by kernel_rfl) (fun _ _ _ h => h) (Or.inl ⟨by rfl, ?_⟩) (by assumption) ?_; rotate_left 1; · (intro w hSw; (try dsimp only at hSw); go_simp; all_goals with_reducible rfl))
      try simp only [Act.put, List.setIfInBounds_toArray, List.set_cons_zero, List.set_cons_succ]
      (refine wpAnyH_take (i := 20) (oi := ⟨_, _, _, _, _, _⟩) (v := ?_) rfl (by kernel_rfl) (by kernel_rfl) (by kernel_rfl) (fun _ _ _ h => h) (Or.inl ⟨by rfl, ?_⟩) (by assumption) ?_; rotate_left 1; · (intro w hSw; (try dsimp only at hSw); go_simp; all_goals with_reducible rfl))
      try simp only [Act.put, List.setIfInBounds_toArray, List.set_cons_zero, List.set_cons_succ]
      refine wpAnyH_ready (rs := [4, 21]) (by kernel_rfl) (by simp) ?_
      refine AllReadyH.cons (o := ⟨_, _, _, _, _, _⟩) rfl (fun Kq hKq => ?_) (AllReadyH.cons (o := ⟨_, _, _, _, _, _⟩) rfl (fun Kq hKq => ?_) (AllReadyH.nil))
      · have cc := (cell_of_row _ _ 3 _ _ _ ((KB.out.block _ (row_lt HX.out)).trans HX.out)).trans (show _ = some (Value.slice A7 k c7) from rfl)
        go_simp
        clear hHeld
        skip
        refine hKq.out _ _ ?_ (fun hHeld => ?_)
        · (try dsimp only); exact HSt.out _ (HB.out.trans (KB.out.mono HB.out.size))
        clear hKq Kq
        try simp only [Act.put, List.setIfInBounds_toArray, List.set_cons_zero, List.set_cons_succ]
        refine wpAnyH_ready (rs := [21]) (by kernel_rfl) (by simp) ?_
        refine AllReadyH.cons (o := ⟨_, _, _, _, _, _⟩) rfl (fun Kq hKq => ?_) (AllReadyH.nil)
        go_simp
        clear hHeld
        obtain ⟨dv, hdv, -, -, hok⟩ := HDT.out.keep (HB.out.trans (KB.out.mono HB.out.size)); go_at_call 29; (with_reducible refine (rcopyD_any 0 (L (a, i)) n (X (a, i)) dv _ hdv hok).mono ?_); rintro en w6 ⟨l6, v6, rfl, h1, h2⟩; have D6 : Hid (Det 83 w6 w5.heap.size l6 (X (a, i)) v6) := Lib.hid (h1.mono KB.out.size); have RK := Lib.hid hok; have KB : Hid (Below w5.heap.size w5 w6) := Lib.hid (below_after KB.out h2 (Nat.le_refl _)); clear h1 h2 hdv hok
        refine hKq.out _ _ ?_ (fun hHeld => ?_)
        · (try dsimp only); exact HSt.out _ (HB.out.trans (KB.out.mono HB.out.size))
        clear hKq Kq
        try simp only [Act.put, List.setIfInBounds_toArray, List.set_cons_zero, List.set_cons_succ]
        (refine wpAnyH_take (i := 22) (oi := ⟨_, _, _, _, _, _⟩) (v := ?_) rfl (by kernel_rfl) (by kernel_rfl) (by kernel_rfl) (fun _ _ _ h => h) (Or.inl ⟨by rfl, ?_⟩) (by assumption) ?_; rotate_left 1; · (intro w hSw; (try dsimp only at hSw); go_simp; all_goals with_reducible rfl))
        try simp only [Act.put, List.setIfInBounds_toArray, List.set_cons_zero, List.set_cons_succ]
        refine wpAnyH_ready (rs := [23]) (by kernel_rfl) (by simp) ?_
        refine AllReadyH.cons (o := ⟨_, _, _, _, _, _⟩) rfl (fun Kq hKq => ?_) (AllReadyH.nil)
        clear hHeld
        refine step_litO (by rfl) (.tmp 50) (by rfl) _ ((a, i), l6) (by rfl) ?_; intro b7 w7 h1 h2; have XB := Lib.hid h1; have D6 := Lib.hid (D6.out.below h2); have KB : Hid (Below w5.heap.size w5 w7) := Lib.hid (below_after KB.out h2 (Nat.le_refl _)); clear h1 h2
        refine hKq.out _ _ ?_ (fun hHeld => ?_)
        · (try dsimp only); exact HSt.out _ (HB.out.trans (KB.out.mono HB.out.size))
        clear hKq Kq
        try simp only [Act.put, List.setIfInBounds_toArray, List.set_cons_zero, List.set_cons_succ]
        refine wpAnyH_ready (rs := [24]) (by kernel_rfl) (by simp) ?_
        refine AllReadyH.cons (o := ⟨_, _, _, _, _, _⟩) rfl (fun Kq hKq => ?_) (AllReadyH.nil)
        clear hHeld
        refine step_pushO (by rfl) (.tmp 32) (.tmp 51) (by rfl) _ W.heap.size b7 _ _ ((a, i), l6) (by rfl) (by rfl) (OwnsR.below HL.out.all KB.out) XB.out (by rw [oneL_len, List.length_take]; omega) (Nat.le_trans (Nat.le_of_lt Z5.out) KB.out.size) ?_; intro g8 c8 w8 h1 h2; rw [LEN] at h1 ⊢; have O8 := Lib.hid h1; have F8 : Hid (Fr (fun b => (Value.slice A7 k c7).ownBlock = some b) w7 w8) := Lib.hid (.of_grown h2 (fun g e => e)); have hty := Lib.hid (show ∀ g, (Value.slice A7 k c7).ownBlock = some g → W.heap.size ≤ g ∧ ∃ cs, w7.heap[g]? = some (.cells cs 66 (0, 0)) from fun g hg => ⟨(World.ownsRow.lt HL.out.all g hg).1, owns_ty (OwnsR.below HL.out.all KB.out) hg⟩); have XC := Lib.hid ((KB.out.block _ (row_lt HX.out)).trans HX.out); have XC8 : Hid (w8.heap[W.heap.size]? = some (.cells #[.int .i64 mn, .int .i64 mx, .int .i64 wi, .slice A7 k c7] 63 (0, 0))) := Lib.hid ((F8.out.same _ (row_lt XC.out) (fun e => by obtain ⟨_, cs, hc⟩ := hty.out _ e; exact absurd (ty_ne hc XC.out) (by decide))).trans XC.out); have B8 : Hid (Below W.heap.size W w8) := Lib.hid ((HB.out.trans (KB.out.mono HB.out.size)).trans (F8.out.below (Nat.le_trans HB.out.size KB.out.size) (fun g hg => (hty.out g hg).1))); clear h1 h2
        refine hKq.out _ _ ?_ (fun hHeld => ?_)
        · (try dsimp only); exact HSt.out _ B8.out
        clear hKq Kq
        try simp only [Act.put, List.setIfInBounds_toArray, List.set_cons_zero, List.set_cons_succ]
        (refine wpAnyH_take (i := 25) (oi := ⟨_, _, _, _, _, _⟩) (v := ?_) rfl (by kernel_rfl) (by kernel_rfl) (by kernel_rfl) (fun _ _ _ h => h) (Or.inl ⟨by rfl, ?_⟩) (by assumption) ?_; rotate_left 1; · (intro w hSw; (try dsimp only at hSw); go_simp; all_goals with_reducible rfl))
        try simp only [Act.put, List.setIfInBounds_toArray, List.set_cons_zero, List.set_cons_succ]
        (refine wpAnyH_take (i := 26) (oi := ⟨_, _, _, _, _, _⟩) (v := ?_) rfl (by kernel_rfl) (by kernel_rfl) (by kernel_rfl) (fun _ _ _ h => h) (Or.inl ⟨by rfl, ?_⟩) (by assumption) ?_; rotate_left 1; · (intro w hSw; (try dsimp only at hSw); go_simp; all_goals with_reducible rfl))
        try simp only [Act.put, List.setIfInBounds_toArray, List.set_cons_zero, List.set_cons_succ]
        refine wpAnyH_ready (rs := [27]) (by kernel_rfl) (by simp) ?_
        refine AllReadyH.cons (o := ⟨_, _, _, _, _, _⟩) rfl (fun Kq hKq => ?_) (AllReadyH.nil)
        have cc : w8.cell? ⟨W.heap.size, 3, none⟩ = some (.slice A7 k c7) := by rw [cell_of_row _ _ 3 _ _ _ XC8.out]; rfl
        have ff : w8.frozen? ⟨W.heap.size, 3, none⟩ = false := by have := XC8.out; simp [World.frozen?, this]
        go_simp
        clear hHeld
        skip
        refine hKq.out _ _ ?_ (fun hHeld => ?_)
        · (try dsimp only); exact HSt.out _ (B8.out.setCell (Nat.le_refl _) _)
        clear hKq Kq
        try simp only [Act.put, List.setIfInBounds_toArray, List.set_cons_zero, List.set_cons_succ]
        refine wpAnyH_done (by kernel_rfl) ?_ _
        clear hHeld
        have FS : Hid (Fr (fun b => b = W.heap.size) w8 (w8.setCell ⟨W.heap.size, 3, none⟩ (.slice (some ⟨g8, 0, none⟩) (k + 1) c8))) := Lib.hid (.of_set _ _ rfl)
        have XF : Hid ((w8.setCell ⟨W.heap.size, 3, none⟩ (.slice (some ⟨g8, 0, none⟩) (k + 1) c8)).heap[W.heap.size]? = some (.cells #[.int .i64 mn, .int .i64 mx, .int .i64 wi, .slice (some ⟨g8, 0, none⟩) (k + 1) c8] 63 (0, 0))) := Lib.hid (by
          have := XC8.out
          simp [World.setCell, Array.getElem?_modify, this])
        have hb9 : Below W.heap.size w5 (w8.setCell ⟨W.heap.size, 3, none⟩ (.slice (some ⟨g8, 0, none⟩) (k + 1) c8)) := ((KB.out.mono HB.out.size).trans (F8.out.below (Nat.le_trans HB.out.size KB.out.size) (fun g hg => (hty.out g hg).1))).setCell (Nat.le_refl _) _
        have t8 : ∀ g, g = W.heap.size → ∃ cs t, w8.heap[g]? = some (.cells cs t (0, 0)) ∧ t ≠ 83 ∧ t ≠ 3 := fun g e => by subst e; exact ⟨_, 63, XC8.out, by decide, by decide⟩
        have LK := Lib.hid (HS2.out _ _ v6 l6 hb9 (fun r hr => (((HL.out.dets r hr).keep KB.out).ty F8.out (fun g hg => by obtain ⟨_, cs, hc⟩ := hty.out g hg; exact ⟨cs, 66, hc, by decide, by decide⟩)).ty FS.out t8)
          ((D6.out.frame F8.out (fun e => by obtain ⟨_, cs, hc⟩ := hty.out _ e; exact absurd (dbox_type D6.out.box hc) (by decide)) (fun g hg e => by
            obtain ⟨_, cs, hc⟩ := hty.out _ e
            obtain ⟨cs2, hc2⟩ := gaps_type D6.out.gaps hg
            exact absurd (ty_ne hc hc2) (by decide))).frame FS.out (fun e => by have := D6.out.lo; have := Z5.out; have e2 : l6 = W.heap.size := e; omega) (fun g hg e => by have := (World.ownsRow.lt D6.out.gaps g hg).1; have := Z5.out; have e2 : g = W.heap.size := e; omega)) RK.out
          (ownsO_fr O8.out FS.out fun b hb e => by
            obtain ⟨cs, hc⟩ := owns_ty O8.out hb
            rw [show b = W.heap.size from e, XC8.out] at hc
            injection hc with hc
            injection hc with _ e2
            exact absurd e2 (by decide)))
        clear hb9 t8
        go_wp2_with fail
        go_roundw
        case rel => exact ⟨k + 1, _, _, c8, by omega, by go_num, LK, XF⟩
        case measure => simp [intOf]; omega
      · go_simp
        clear hHeld
        obtain ⟨dv, hdv, -, -, hok⟩ := HDT.out.keep (HB.out.trans (KB.out.mono HB.out.size)); go_at_call 29; (with_reducible refine (rcopyD_any 0 (L (a, i)) n (X (a, i)) dv _ hdv hok).mono ?_); rintro en w6 ⟨l6, v6, rfl, h1, h2⟩; have D6 : Hid (Det 83 w6 w5.heap.size l6 (X (a, i)) v6) := Lib.hid (h1.mono KB.out.size); have RK := Lib.hid hok; have KB : Hid (Below w5.heap.size w5 w6) := Lib.hid (below_after KB.out h2 (Nat.le_refl _)); clear h1 h2 hdv hok
        refine hKq.out _ _ ?_ (fun hHeld => ?_)
        · (try dsimp only); exact HSt.out _ (HB.out.trans (KB.out.mono HB.out.size))
        clear hKq Kq
        try simp only [Act.put, List.setIfInBounds_toArray, List.set_cons_zero, List.set_cons_succ]
        (refine wpAnyH_take (i := 22) (oi := ⟨_, _, _, _, _, _⟩) (v := ?_) rfl (by kernel_rfl) (by kernel_rfl) (by kernel_rfl) (fun _ _ _ h => h) (Or.inl ⟨by rfl, ?_⟩) (by assumption) ?_; rotate_left 1; · (intro w hSw; (try dsimp only at hSw); go_simp; all_goals with_reducible rfl))
        try simp only [Act.put, List.setIfInBounds_toArray, List.set_cons_zero, List.set_cons_succ]
        refine wpAnyH_ready (rs := [4, 23]) (by kernel_rfl) (by simp) ?_
        refine AllReadyH.cons (o := ⟨_, _, _, _, _, _⟩) rfl (fun Kq hKq => ?_) (AllReadyH.cons (o := ⟨_, _, _, _, _, _⟩) rfl (fun Kq hKq => ?_) (AllReadyH.nil))
        · have cc := (cell_of_row _ _ 3 _ _ _ ((KB.out.block _ (row_lt HX.out)).trans HX.out)).trans (show _ = some (Value.slice A7 k c7) from rfl)
          go_simp
          clear hHeld
          skip
          refine hKq.out _ _ ?_ (fun hHeld => ?_)
          · (try dsimp only); exact HSt.out _ (HB.out.trans (KB.out.mono HB.out.size))
          clear hKq Kq
          try simp only [Act.put, List.setIfInBounds_toArray, List.set_cons_zero, List.set_cons_succ]
          refine wpAnyH_ready (rs := [23]) (by kernel_rfl) (by simp) ?_
          refine AllReadyH.cons (o := ⟨_, _, _, _, _, _⟩) rfl (fun Kq hKq => ?_) (AllReadyH.nil)
          clear hHeld
          refine step_litO (by rfl) (.tmp 50) (by rfl) _ ((a, i), l6) (by rfl) ?_; intro b7 w7 h1 h2; have XB := Lib.hid h1; have D6 := Lib.hid (D6.out.below h2); have KB : Hid (Below w5.heap.size w5 w7) := Lib.hid (below_after KB.out h2 (Nat.le_refl _)); clear h1 h2
          refine hKq.out _ _ ?_ (fun hHeld => ?_)
          · (try dsimp only); exact HSt.out _ (HB.out.trans (KB.out.mono HB.out.size))
          clear hKq Kq
          try simp only [Act.put, List.setIfInBounds_toArray, List.set_cons_zero, List.set_cons_succ]
          refine wpAnyH_ready (rs := [24]) (by kernel_rfl) (by simp) ?_
          refine AllReadyH.cons (o := ⟨_, _, _, _, _, _⟩) rfl (fun Kq hKq => ?_) (AllReadyH.nil)
          clear hHeld
          refine step_pushO (by rfl) (.tmp 32) (.tmp 51) (by rfl) _ W.heap.size b7 _ _ ((a, i), l6) (by rfl) (by rfl) (OwnsR.below HL.out.all KB.out) XB.out (by rw [oneL_len, List.length_take]; omega) (Nat.le_trans (Nat.le_of_lt Z5.out) KB.out.size) ?_; intro g8 c8 w8 h1 h2; rw [LEN] at h1 ⊢; have O8 := Lib.hid h1; have F8 : Hid (Fr (fun b => (Value.slice A7 k c7).ownBlock = some b) w7 w8) := Lib.hid (.of_grown h2 (fun g e => e)); have hty := Lib.hid (show ∀ g, (Value.slice A7 k c7).ownBlock = some g → W.heap.size ≤ g ∧ ∃ cs, w7.heap[g]? = some (.cells cs 66 (0, 0)) from fun g hg => ⟨(World.ownsRow.lt HL.out.all g hg).1, owns_ty (OwnsR.below HL.out.all KB.out) hg⟩); have XC := Lib.hid ((KB.out.block _ (row_lt HX.out)).trans HX.out); have XC8 : Hid (w8.heap[W.heap.size]? = some (.cells #[.int .i64 mn, .int .i64 mx, .int .i64 wi, .slice A7 k c7] 63 (0, 0))) := Lib.hid ((F8.out.same _ (row_lt XC.out) (fun e => by obtain ⟨_, cs, hc⟩ := hty.out _ e; exact absurd (ty_ne hc XC.out) (by decide))).trans XC.out); have B8 : Hid (Below W.heap.size W w8) := Lib.hid ((HB.out.trans (KB.out.mono HB.out.size)).trans (F8.out.below (Nat.le_trans HB.out.size KB.out.size) (fun g hg => (hty.out g hg).1))); clear h1 h2
          refine hKq.out _ _ ?_ (fun hHeld => ?_)
          · (try dsimp only); exact HSt.out _ B8.out
          clear hKq Kq
          try simp only [Act.put, List.setIfInBounds_toArray, List.set_cons_zero, List.set_cons_succ]
          (refine wpAnyH_take (i := 25) (oi := ⟨_, _, _, _, _, _⟩) (v := ?_) rfl (by kernel_rfl) (by kernel_rfl) (by kernel_rfl) (fun _ _ _ h => h) (Or.inl ⟨by rfl, ?_⟩) (by assumption) ?_; rotate_left 1; · (intro w hSw; (try dsimp only at hSw); go_simp; all_goals with_reducible rfl))
          try simp only [Act.put, List.setIfInBounds_toArray, List.set_cons_zero, List.set_cons_succ]
          (refine wpAnyH_take (i := 26) (oi := ⟨_, _, _, _, _, _⟩) (v := ?_) rfl (by kernel_rfl) (by kernel_rfl) (by kernel_rfl) (fun _ _ _ h => h) (Or.inl ⟨by rfl, ?_⟩) (by assumption) ?_; rotate_left 1; · (intro w hSw; (try dsimp only at hSw); go_simp; all_goals with_reducible rfl))
          try simp only [Act.put, List.setIfInBounds_toArray, List.set_cons_zero, List.set_cons_succ]
          refine wpAnyH_ready (rs := [27]) (by kernel_rfl) (by simp) ?_
          refine AllReadyH.cons (o := ⟨_, _, _, _, _, _⟩) rfl (fun Kq hKq => ?_) (AllReadyH.nil)
          have cc : w8.cell? ⟨W.heap.size, 3, none⟩ = some (.slice A7 k c7) := by rw [cell_of_row _ _ 3 _ _ _ XC8.out]; rfl
          have ff : w8.frozen? ⟨W.heap.size, 3, none⟩ = false := by have := XC8.out; simp [World.frozen?, this]
          go_simp
          clear hHeld
          skip
          refine hKq.out _ _ ?_ (fun hHeld => ?_)
          · (try dsimp only); exact HSt.out _ (B8.out.setCell (Nat.le_refl _) _)
          clear hKq Kq
          try simp only [Act.put, List.setIfInBounds_toArray, List.set_cons_zero, List.set_cons_succ]
          refine wpAnyH_done (by kernel_rfl) ?_ _
          clear hHeld
          have FS : Hid (Fr (fun b => b = W.heap.size) w8 (w8.setCell ⟨W.heap.size, 3, none⟩ (.slice (some ⟨g8, 0, none⟩) (k + 1) c8))) := Lib.hid (.of_set _ _ rfl)
          have XF : Hid ((w8.setCell ⟨W.heap.size, 3, none⟩ (.slice (some ⟨g8, 0, none⟩) (k + 1) c8)).heap[W.heap.size]? = some (.cells #[.int .i64 mn, .int .i64 mx, .int .i64 wi, .slice (some ⟨g8, 0, none⟩) (k + 1) c8] 63 (0, 0))) := Lib.hid (by
            have := XC8.out
            simp [World.setCell, Array.getElem?_modify, this])
          have hb9 : Below W.heap.size w5 (w8.setCell ⟨W.heap.size, 3, none⟩ (.slice (some ⟨g8, 0, none⟩) (k + 1) c8)) := ((KB.out.mono HB.out.size).trans (F8.out.below (Nat.le_trans HB.out.size KB.out.size) (fun g hg => (hty.out g hg).1))).setCell (Nat.le_refl _) _
          have t8 : ∀ g, g = W.heap.size → ∃ cs t, w8.heap[g]? = some (.cells cs t (0, 0)) ∧ t ≠ 83 ∧ t ≠ 3 := fun g e => by subst e; exact ⟨_, 63, XC8.out, by decide, by decide⟩
          have LK := Lib.hid (HS2.out _ _ v6 l6 hb9 (fun r hr => (((HL.out.dets r hr).keep KB.out).ty F8.out (fun g hg => by obtain ⟨_, cs, hc⟩ := hty.out g hg; exact ⟨cs, 66, hc, by decide, by decide⟩)).ty FS.out t8)
            ((D6.out.frame F8.out (fun e => by obtain ⟨_, cs, hc⟩ := hty.out _ e; exact absurd (dbox_type D6.out.box hc) (by decide)) (fun g hg e => by
              obtain ⟨_, cs, hc⟩ := hty.out _ e
              obtain ⟨cs2, hc2⟩ := gaps_type D6.out.gaps hg
              exact absurd (ty_ne hc hc2) (by decide))).frame FS.out (fun e => by have := D6.out.lo; have := Z5.out; have e2 : l6 = W.heap.size := e; omega) (fun g hg e => by have := (World.ownsRow.lt D6.out.gaps g hg).1; have := Z5.out; have e2 : g = W.heap.size := e; omega)) RK.out
            (ownsO_fr O8.out FS.out fun b hb e => by
              obtain ⟨cs, hc⟩ := owns_ty O8.out hb
              rw [show b = W.heap.size from e, XC8.out] at hc
              injection hc with hc
              injection hc with _ e2
              exact absurd e2 (by decide)))
          clear hb9 t8
          go_wp2_with fail
          go_roundw
          case rel => exact ⟨k + 1, _, _, c8, by omega, by go_num, LK, XF⟩
          case measure => simp [intOf]; omega
        · clear hHeld
          refine step_litO (by rfl) (.tmp 50) (by rfl) _ ((a, i), l6) (by rfl) ?_; intro b7 w7 h1 h2; have XB := Lib.hid h1; have D6 := Lib.hid (D6.out.below h2); have KB : Hid (Below w5.heap.size w5 w7) := Lib.hid (below_after KB.out h2 (Nat.le_refl _)); clear h1 h2
          refine hKq.out _ _ ?_ (fun hHeld => ?_)
          · (try dsimp only); exact HSt.out _ (HB.out.trans (KB.out.mono HB.out.size))
          clear hKq Kq
          try simp only [Act.put, List.setIfInBounds_toArray, List.set_cons_zero, List.set_cons_succ]
          refine wpAnyH_ready (rs := [4]) (by kernel_rfl) (by simp) ?_
          refine AllReadyH.cons (o := ⟨_, _, _, _, _, _⟩) rfl (fun Kq hKq => ?_) (AllReadyH.nil)
          have cc := (cell_of_row _ _ 3 _ _ _ ((KB.out.block _ (row_lt HX.out)).trans HX.out)).trans (show _ = some (Value.slice A7 k c7) from rfl)
          go_simp
          clear hHeld
          skip
          refine hKq.out _ _ ?_ (fun hHeld => ?_)
          · (try dsimp only); exact HSt.out _ (HB.out.trans (KB.out.mono HB.out.size))
          clear hKq Kq
          try simp only [Act.put, List.setIfInBounds_toArray, List.set_cons_zero, List.set_cons_succ]
          refine wpAnyH_ready (rs := [24]) (by kernel_rfl) (by simp) ?_
          refine AllReadyH.cons (o := ⟨_, _, _, _, _, _⟩) rfl (fun Kq hKq => ?_) (AllReadyH.nil)
          clear hHeld
          refine step_pushO (by rfl) (.tmp 32) (.tmp 51) (by rfl) _ W.heap.size b7 _ _ ((a, i), l6) (by rfl) (by rfl) (OwnsR.below HL.out.all KB.out) XB.out (by rw [oneL_len, List.length_take]; omega) (Nat.le_trans (Nat.le_of_lt Z5.out) KB.out.size) ?_; intro g8 c8 w8 h1 h2; rw [LEN] at h1 ⊢; have O8 := Lib.hid h1; have F8 : Hid (Fr (fun b => (Value.slice A7 k c7).ownBlock = some b) w7 w8) := Lib.hid (.of_grown h2 (fun g e => e)); have hty := Lib.hid (show ∀ g, (Value.slice A7 k c7).ownBlock = some g → W.heap.size ≤ g ∧ ∃ cs, w7.heap[g]? = some (.cells cs 66 (0, 0)) from fun g hg => ⟨(World.ownsRow.lt HL.out.all g hg).1, owns_ty (OwnsR.below HL.out.all KB.out) hg⟩); have XC := Lib.hid ((KB.out.block _ (row_lt HX.out)).trans HX.out); have XC8 : Hid (w8.heap[W.heap.size]? = some (.cells #[.int .i64 mn, .int .i64 mx, .int .i64 wi, .slice A7 k c7] 63 (0, 0))) := Lib.hid ((F8.out.same _ (row_lt XC.out) (fun e => by obtain ⟨_, cs, hc⟩ := hty.out _ e; exact absurd (ty_ne hc XC.out) (by decide))).trans XC.out); have B8 : Hid (Below W.heap.size W w8) := Lib.hid ((HB.out.trans (KB.out.mono HB.out.size)).trans (F8.out.below (Nat.le_trans HB.out.size KB.out.size) (fun g hg => (hty.out g hg).1))); clear h1 h2
          refine hKq.out _ _ ?_ (fun hHeld => ?_)
          · (try dsimp only); exact HSt.out _ B8.out
          clear hKq Kq
          try simp only [Act.put, List.setIfInBounds_toArray, List.set_cons_zero, List.set_cons_succ]
          (refine wpAnyH_take (i := 25) (oi := ⟨_, _, _, _, _, _⟩) (v := ?_) rfl (by kernel_rfl) (by kernel_rfl) (by kernel_rfl) (fun _ _ _ h => h) (Or.inl ⟨by rfl, ?_⟩) (by assumption) ?_; rotate_left 1; · (intro w hSw; (try dsimp only at hSw); go_simp; all_goals with_reducible rfl))
          try simp only [Act.put, List.setIfInBounds_toArray, List.set_cons_zero, List.set_cons_succ]
          (refine wpAnyH_take (i := 26) (oi := ⟨_, _, _, _, _, _⟩) (v := ?_) rfl (by kernel_rfl) (by kernel_rfl) (by kernel_rfl) (fun _ _ _ h => h) (Or.inl ⟨by rfl, ?_⟩) (by assumption) ?_; rotate_left 1; · (intro w hSw; (try dsimp only at hSw); go_simp; all_goals with_reducible rfl))
          try simp only [Act.put, List.setIfInBounds_toArray, List.set_cons_zero, List.set_cons_succ]
          refine wpAnyH_ready (rs := [27]) (by kernel_rfl) (by simp) ?_
          refine AllReadyH.cons (o := ⟨_, _, _, _, _, _⟩) rfl (fun Kq hKq => ?_) (AllReadyH.nil)
          have cc : w8.cell? ⟨W.heap.size, 3, none⟩ = some (.slice A7 k c7) := by rw [cell_of_row _ _ 3 _ _ _ XC8.out]; rfl
          have ff : w8.frozen? ⟨W.heap.size, 3, none⟩ = false := by have := XC8.out; simp [World.frozen?, this]
          go_simp
          clear hHeld
          skip
          refine hKq.out _ _ ?_ (fun hHeld => ?_)
          · (try dsimp only); exact HSt.out _ (B8.out.setCell (Nat.le_refl _) _)
          clear hKq Kq
          try simp only [Act.put, List.setIfInBounds_toArray, List.set_cons_zero, List.set_cons_succ]
          refine wpAnyH_done (by kernel_rfl) ?_ _
          clear hHeld
          have FS : Hid (Fr (fun b => b = W.heap.size) w8 (w8.setCell ⟨W.heap.size, 3, none⟩ (.slice (some ⟨g8, 0, none⟩) (k + 1) c8))) := Lib.hid (.of_set _ _ rfl)
          have XF : Hid ((w8.setCell ⟨W.heap.size, 3, none⟩ (.slice (some ⟨g8, 0, none⟩) (k + 1) c8)).heap[W.heap.size]? = some (.cells #[.int .i64 mn, .int .i64 mx, .int .i64 wi, .slice (some ⟨g8, 0, none⟩) (k + 1) c8] 63 (0, 0))) := Lib.hid (by
            have := XC8.out
            simp [World.setCell, Array.getElem?_modify, this])
          have hb9 : Below W.heap.size w5 (w8.setCell ⟨W.heap.size, 3, none⟩ (.slice (some ⟨g8, 0, none⟩) (k + 1) c8)) := ((KB.out.mono HB.out.size).trans (F8.out.below (Nat.le_trans HB.out.size KB.out.size) (fun g hg => (hty.out g hg).1))).setCell (Nat.le_refl _) _
          have t8 : ∀ g, g = W.heap.size → ∃ cs t, w8.heap[g]? = some (.cells cs t (0, 0)) ∧ t ≠ 83 ∧ t ≠ 3 := fun g e => by subst e; exact ⟨_, 63, XC8.out, by decide, by decide⟩
          have LK := Lib.hid (HS2.out _ _ v6 l6 hb9 (fun r hr => (((HL.out.dets r hr).keep KB.out).ty F8.out (fun g hg => by obtain ⟨_, cs, hc⟩ := hty.out g hg; exact ⟨cs, 66, hc, by decide, by decide⟩)).ty FS.out t8)
            ((D6.out.frame F8.out (fun e => by obtain ⟨_, cs, hc⟩ := hty.out _ e; exact absurd (dbox_type D6.out.box hc) (by decide)) (fun g hg e => by
              obtain ⟨_, cs, hc⟩ := hty.out _ e
              obtain ⟨cs2, hc2⟩ := gaps_type D6.out.gaps hg
              exact absurd (ty_ne hc hc2) (by decide))).frame FS.out (fun e => by have := D6.out.lo; have := Z5.out; have e2 : l6 = W.heap.size := e; omega) (fun g hg e => by have := (World.ownsRow.lt D6.out.gaps g hg).1; have := Z5.out; have e2 : g = W.heap.size := e; omega)) RK.out
            (ownsO_fr O8.out FS.out fun b hb e => by
              obtain ⟨cs, hc⟩ := owns_ty O8.out hb
              rw [show b = W.heap.size from e, XC8.out] at hc
              injection hc with hc
              injection hc with _ e2
              exact absurd e2 (by decide)))
          clear hb9 t8
          go_wp2_with fail
          go_roundw
          case rel => exact ⟨k + 1, _, _, c8, by omega, by go_num, LK, XF⟩
          case measure => simp [intOf]; omega
    · obtain rfl : k = K.length := by omega
      have hd : decide ((K.length : Int) < (K.length : Int)) = false := by simp
      rw [List.take_length] at HL
      go_wp2_with fail
      go_ret
      have hlo : W.heap.size < w5.heap.size := row_lt HX.out
      refine ⟨W.heap.size, fun b => W.heap.size ≤ b ∧ b < w5.heap.size, rfl, ⟨M, _, HX.out, ⟨Nat.le_refl _, hlo⟩, World.ownsRow.mono HL.out.all (Nat.zero_le _), fun g hg => ?_, fun q hq => (HL.out.dets q hq).mono fun b hb => ?_, HL.out.inj, fun b hb => hb.2⟩, fun b hb => hb.1, HL.out.below⟩
      · obtain ⟨cs, hc⟩ := owns_ty HL.out.all hg
        exact ⟨(World.ownsRow.lt HL.out.all g hg).1, row_lt hc⟩
      · rcases hb with hb | hb
        · exact hb.elim
        · exact hb
end Go.Proofs.Ytkoeplgkiogjlaa
namespace Go.Proofs.Ytkoeplgkiogjlaa
open Go Go.RowKit Sets Go.Maps Go.ChangeMaps Go.MapKept
/-- What is told of blocks S, and stands as long as nothing but other blocks is written. -/
structure Fd (P : (Nat → Prop) → World → Prop) : Prop where
  frame : ∀ {S S2 : Nat → Prop} {W W' : World}, P S W → Fr S2 W W' → (∀ k, S k → ¬ S2 k) → P S W'
  lt : ∀ {S : Nat → Prop} {W : World}, P S W → ∀ k, S k → k < W.heap.size
abbrev WatP (p n : Nat) (e : Dt) (K : List Id2) (D : Id2 → Dt) : (Nat → Prop) → World → Prop := fun S W => Wat S W p n e K D
abbrev RwP (p n : Nat) (mn mx wi : Int) (K : List Id2) (X : Id2 → Dt) : (Nat → Prop) → World → Prop := fun S W => Rw S W p n mn mx wi K X
abbrev NoP : (Nat → Prop) → World → Prop := fun S _ => ∀ k, ¬ S k
theorem fdWat (p n : Nat) (e : Dt) (K : List Id2) (D : Id2 → Dt) : Fd (WatP p n e K D) := ⟨fun h k hd => Wat.frame h k hd, fun h => Wat.lt h⟩
theorem fdRw (p n : Nat) (mn mx wi : Int) (K : List Id2) (X : Id2 → Dt) : Fd (RwP p n mn mx wi K X) := ⟨fun h k hd => Rw.frame h k hd, fun h => Rw.lt h⟩
theorem fdNo : Fd NoP := ⟨fun h _ _ => h, fun h k hk => absurd hk (h k)⟩
variable {P1 P2 P3 P4 P1' : (Nat → Prop) → World → Prop} {S1 S2 S3 S4 S1' T : Nat → Prop} {w W W' : World}
/-- Four of them, apart, all new since w. -/
structure Four (w W : World) (P1 P2 P3 P4 : (Nat → Prop) → World → Prop) (S1 S2 S3 S4 : Nat → Prop) : Prop where
  a : P1 S1 W
  b : P2 S2 W
  c : P3 S3 W
  d : P4 S4 W
  ab : ∀ k, S1 k → ¬ S2 k
  ac : ∀ k, S1 k → ¬ S3 k
  ad : ∀ k, S1 k → ¬ S4 k
  bc : ∀ k, S2 k → ¬ S3 k
  bd : ∀ k, S2 k → ¬ S4 k
  cd : ∀ k, S3 k → ¬ S4 k
  lo1 : ∀ k, S1 k → w.heap.size ≤ k
  lo2 : ∀ k, S2 k → w.heap.size ≤ k
  lo3 : ∀ k, S3 k → w.heap.size ≤ k
  lo4 : ∀ k, S4 k → w.heap.size ≤ k
  below : Below w.heap.size w W
theorem Four.rot (h : Four w W P1 P2 P3 P4 S1 S2 S3 S4) : Four w W P2 P3 P4 P1 S2 S3 S4 S1 :=
  ⟨h.b, h.c, h.d, h.a, h.bc, h.bd, fun k x y => h.ab k y x, h.cd, fun k x y => h.ac k y x, fun k x y => h.ad k y x, h.lo2, h.lo3, h.lo4, h.lo1, h.below⟩
theorem Four.op (h : Four w W P1 P2 P3 P4 S1 S2 S3 S4) (f2 : Fd P2) (f3 : Fd P3) (f4 : Fd P4) (k : P1' S1' W') (u : Upd S1 W W' S1') : Four w W' P1' P2 P3 P4 S1' S2 S3 S4 := by
  have dis : ∀ {P : (Nat → Prop) → World → Prop} {S : Nat → Prop}, Fd P → P S W → (∀ k, S1 k → ¬ S k) → ∀ k, S1' k → ¬ S k := fun f hp hd k hk hs => by
    rcases u.sub k hk with e | e
    · exact hd k e hs
    · have := f.lt hp k hs
      omega
  refine ⟨k, f2.frame h.b u.fr (fun i x y => h.ab i y x), f3.frame h.c u.fr (fun i x y => h.ac i y x), f4.frame h.d u.fr (fun i x y => h.ad i y x), dis f2 h.b h.ab, dis f3 h.c h.ac, dis f4 h.d h.ad, h.bc, h.bd, h.cd, fun i hi => ?_, h.lo2, h.lo3, h.lo4, h.below.trans (u.fr.below h.below.size h.lo1)⟩
  rcases u.sub i hi with e | e
  · exact h.lo1 i e
  · exact Nat.le_trans h.below.size e
theorem Four.opB (h : Four w W P1 P2 P3 P4 S1 S2 S3 S4) (f1 : Fd P1) (f3 : Fd P3) (f4 : Fd P4) {P2' : (Nat → Prop) → World → Prop} {S2' : Nat → Prop} (k : P2' S2' W') (u : Upd S2 W W' S2') : Four w W' P1 P2' P3 P4 S1 S2' S3 S4 :=
  (h.rot.op f3 f4 f1 k u).rot.rot.rot
theorem Four.opC (h : Four w W P1 P2 P3 P4 S1 S2 S3 S4) (f1 : Fd P1) (f2 : Fd P2) (f4 : Fd P4) {P3' : (Nat → Prop) → World → Prop} {S3' : Nat → Prop} (k : P3' S3' W') (u : Upd S3 W W' S3') : Four w W' P1 P2 P3' P4 S1 S2 S3' S4 :=
  (h.rot.rot.op f4 f1 f2 k u).rot.rot
theorem Four.opD (h : Four w W P1 P2 P3 P4 S1 S2 S3 S4) (f1 : Fd P1) (f2 : Fd P2) (f3 : Fd P3) {P4' : (Nat → Prop) → World → Prop} {S4' : Nat → Prop} (k : P4' S4' W') (u : Upd S4 W W' S4') : Four w W' P1 P2 P3 P4' S1 S2 S3 S4' :=
  (h.rot.rot.rot.op f1 f2 f3 k u).rot
/-- Something apart from all is written. -/
theorem Four.spoil (h : Four w W P1 P2 P3 P4 S1 S2 S3 S4) (f1 : Fd P1) (f2 : Fd P2) (f3 : Fd P3) (f4 : Fd P4) (k : Fr T W W') (hT : ∀ i, T i → w.heap.size ≤ i ∧ ¬ S1 i ∧ ¬ S2 i ∧ ¬ S3 i ∧ ¬ S4 i) : Four w W' P1 P2 P3 P4 S1 S2 S3 S4 :=
  ⟨f1.frame h.a k fun i x y => (hT i y).2.1 x, f2.frame h.b k fun i x y => (hT i y).2.2.1 x, f3.frame h.c k fun i x y => (hT i y).2.2.2.1 x, f4.frame h.d k fun i x y => (hT i y).2.2.2.2 x, h.ab, h.ac, h.ad, h.bc, h.bd, h.cd, h.lo1, h.lo2, h.lo3, h.lo4, h.below.trans (k.below h.below.size fun i hi => (hT i hi).1)⟩
theorem Four.keep (h : Four w W P1 P2 P3 P4 S1 S2 S3 S4) (f1 : Fd P1) (f2 : Fd P2) (f3 : Fd P3) (f4 : Fd P4) (hb : Below W.heap.size W W') : Four w W' P1 P2 P3 P4 S1 S2 S3 S4 :=
  h.spoil (T := fun _ => False) f1 f2 f3 f4 (.of_below hb) fun _ e => e.elim
/-- What is new is apart from all. -/
theorem Four.new (h : Four w W P1 P2 P3 P4 S1 S2 S3 S4) (f1 : Fd P1) (f2 : Fd P2) (f3 : Fd P3) (f4 : Fd P4) {i : Nat} (hi : W.heap.size ≤ i) : w.heap.size ≤ i ∧ ¬ S1 i ∧ ¬ S2 i ∧ ¬ S3 i ∧ ¬ S4 i :=
  ⟨Nat.le_trans h.below.size hi, fun e => by have := f1.lt h.a i e; omega, fun e => by have := f2.lt h.b i e; omega, fun e => by have := f3.lt h.c i e; omega, fun e => by have := f4.lt h.d i e; omega⟩
theorem Four.drop (h : Four w W P1 P2 P3 P4 S1 S2 S3 S4) : Four w W P1 P2 NoP NoP S1 S2 (fun _ => False) (fun _ => False) :=
  ⟨h.a, h.b, fun _ e => e, fun _ e => e, h.ab, fun _ _ e => e, fun _ _ e => e, fun _ _ e => e, fun _ _ e => e, fun _ _ e => e, h.lo1, h.lo2, fun _ e => e.elim, fun _ e => e.elim, h.below⟩
theorem upd_new {S' : Nat → Prop} (hb : Below W.heap.size W W') (hl : ∀ k, S' k → W.heap.size ≤ k) : Upd (fun _ => False) W W' S' := ⟨fun k hk => .inr (hl k hk), .of_below hb⟩
/-- Each detector of the program's is what the document's, cut, is. -/
def Tied (K : List Id2) (D X : Id2 → Dt) : Prop := ∀ q ∈ K, D q = (X q).cut
theorem Tied.heard {K : List Id2} {D X : Id2 → Dt} (h : Tied K D X) (hw : ∀ q ∈ K, 1 ≤ (X q).wi) (q : Id2) (x : Int) : Tied K (heardD D q x) (rheardX X q x) := by
  intro r hr
  unfold heardD rheardX
  by_cases e : r = q
  · subst e
    rw [if_pos rfl, if_pos rfl, h r hr, cut_heard (hw r hr)]
  · rw [if_neg e, if_neg e, h r hr]
theorem Tied.look {mn mx wi : Int} {K : List Id2} {D X : Id2 → Dt} (h : Tied K D X) (l : List Id2) (x : Int) : Tied l (withD (Dt.new mn mx wi) K D x) (withD (Dt.new mn mx wi) K X x) := by
  intro r _
  by_cases e : r ∈ K
  · rw [withD_in e, withD_in e, h r e]
  · rw [withD_out e, withD_out e, cut_start, cut_new]
theorem Tied.late {K l : List Id2} {D X : Id2 → Dt} (h : Tied K D X) (hl : ∀ q ∈ l, q ∈ K) (x : Int) : lateL D x l = lateL (cutX X) x l := by
  unfold lateL
  refine List.filter_congr fun q hq => ?_
  rw [h q (hl q hq)]
  rfl
theorem Rw.wi {S : Nat → Prop} {p n : Nat} {mn mx wi : Int} {K : List Id2} {X : Id2 → Dt} (h : Rw S W p n mn mx wi K X) : ∀ q ∈ K, 1 ≤ (X q).wi := by
  obtain ⟨L, v, h⟩ := h
  intro q hq
  obtain ⟨_, _, _, _, h4⟩ := h.dets q hq
  exact h4.ok.wi
/-- A row of IDs that may be written over. -/
def SpoilR (W : World) (v : Value) (n : Nat) : Prop := 0 < n → ∃ g c cur, v = .slice (some ⟨g, 0, none⟩) n c ∧ W.heap[g]? = some (.cells cur 35 (0, 0)) ∧ n * 2 ≤ cur.size
theorem SpoilR.of {base : Nat} {v : Value} {l : List Id2} (h : Owns W base v l) : SpoilR W v l.length := by
  intro h0
  rcases h.2 with ⟨_, h2⟩ | ⟨g, cap, cur, rfl, _, h3, h4, _, h5, _⟩
  · omega
  · exact ⟨g, cap, cur, rfl, h3, by omega⟩
theorem SpoilR.same {v : Value} {n : Nat} (h : SpoilR W v n) (hb : ∀ g, v.ownBlock = some g → W'.heap[g]? = W.heap[g]?) : SpoilR W' v n := fun h0 => by
  obtain ⟨g, c, cur, rfl, h1, h2⟩ := h h0
  exact ⟨g, c, cur, rfl, (hb g rfl).trans h1, h2⟩
theorem spoil_cell {g k n : Nat} {cur : Array Value} (h : W.heap[g]? = some (.cells cur 35 (0, 0))) (hc : n * 2 ≤ cur.size) (hk : k < n) : (∃ u, W.cell? ⟨g, k * 2 + 1, none⟩ = some u) ∧ W.frozen? ⟨g, k * 2 + 1, none⟩ = false := by
  refine ⟨?_, by simp [World.frozen?, h]⟩
  rw [cell_of_row _ _ _ _ _ _ h]
  exact ⟨_, Array.getElem?_eq_getElem (by omega)⟩
theorem SpoilR.put {g k n c : Nat} {u : Value} (h : SpoilR W (.slice (some ⟨g, 0, none⟩) n c) n) : SpoilR (W.setCell ⟨g, k, none⟩ u) (.slice (some ⟨g, 0, none⟩) n c) n := fun h0 => by
  obtain ⟨g', c', cur, e, h1, h2⟩ := h h0
  injection e with e1 e2 e3
  injection e1 with e1
  injection e1 with e1
  subst e1 e3
  refine ⟨g, c, cur.setIfInBounds k u, rfl, ?_, by simpa using h2⟩
  simp [World.setCell, Array.getElem?_modify, h1]
end Go.Proofs.Ytkoeplgkiogjlaa
