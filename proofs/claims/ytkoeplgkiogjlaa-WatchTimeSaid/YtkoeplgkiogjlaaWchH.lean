/-
  Walks over the program's watch: a copy. No statement is proved in this text; it holds for every input that its premises let by.
-/
import Derived.Test.YtkoeplgkiogjlaaWchG
set_option maxRecDepth 20000
namespace Go.Proofs.Ytkoeplgkiogjlaa
open Go Go.RowKit Sets Go.Maps Go.ChangeMaps Go.MapKept
variable {S S2 : Nat → Prop} {W W' : World} {p f n : Nat} {mb : Option Nat} {e : Dt} {K : List Id2} {D : Id2 → Dt} {L : Id2 → Nat}
/-- A watch's box and its empty map, both new. -/
def boxed (w1 : World) (l' : Nat) : World := (w1.alloc (.map #[] 0)).alloc (.cells #[.pointer (some ⟨l', 0, none⟩), .map (some w1.heap.size)] 57)
theorem Inn.bare {w1 : World} {l' : Nat} {v' : Value} (hb : Below W.heap.size W w1) (hd : Det 81 w1 W.heap.size l' e v') (ok : e.Ok) (D : Id2 → Dt) (L : Id2 → Nat) :
    Inn (fun k => W.heap.size ≤ k ∧ k < (boxed w1 l').heap.size) (boxed w1 l') (w1.heap.size + 1) l' (some w1.heap.size) 0 e [] D L ∧ Below W.heap.size W (boxed w1 l') := by
  have B2 : Below w1.heap.size w1 (boxed w1 l') := ((Below.refl _ w1).alloc (Nat.le_refl _) _).alloc (by simp) _
  have hs : (boxed w1 l').heap.size = w1.heap.size + 2 := by simp [boxed]
  have hsz := hb.size
  have hD2 := hd.below B2
  refine ⟨⟨?_, ⟨by omega, by omega⟩, ⟨v', hD2.mono (Nat.zero_le _), ⟨hd.lo, hD2.lt⟩, fun g hg => ⟨(World.ownsRow.lt hd.gaps g hg).1, ?_⟩, ok⟩, ⟨⟨hsz, by omega⟩, ?_⟩, fun q hq => (by cases hq), fun q hq => (by cases hq), fun q hq => (by cases hq), fun q hq => (by cases hq), fun k hk => hk.2⟩, below_after hb B2 (Nat.le_refl _)⟩
  · have := heap_alloc_new (w1.alloc (.map #[] 0)) (.cells #[.pointer (some ⟨l', 0, none⟩), .map (some w1.heap.size)] 57)
    simpa [boxed] using this
  · obtain ⟨cs, hc⟩ := gaps_type hD2.gaps hg
    exact row_lt hc
  · exact (MapI.made ElP w1).same (Below.heap_alloc _ _ _ (by simp))
theorem Fr.grown {b : Nat} {w w' : World} (h : Fr (fun i => i = b) w w') : w.grownBy w' (some b) := ⟨h.os, h.tape, h.output, h.size, fun k hk hne => h.same k hk (fun e => hne (by rw [show k = b from e]))⟩
theorem came_in {K : List Id2} {L : Id2 → Nat} {ps : List Id2} (h : KeysI (mapOf K L) ps) (hi : ∀ q ∈ K, In2 q) : ∀ q, q ∈ ps ↔ q ∈ K := by
  obtain ⟨_, h2, h3⟩ := h
  intro q
  have he : (mapOf K L q).isSome = true ↔ q ∈ K := by
    unfold mapOf
    by_cases hq : q ∈ K <;> simp [hq]
  exact ⟨fun hq => he.1 ((h3 q (h2 q hq)).1 hq), fun hq => (h3 q (hi q hq)).2 (he.2 hq)⟩
theorem mapOf_some {K : List Id2} {L : Id2 → Nat} {q : Id2} {c : Option Nat} (h : mapOf K L q = some c) : q ∈ K ∧ c = some (L q) := by
  unfold mapOf at h
  by_cases hq : q ∈ K
  · rw [if_pos hq] at h
    injection h with h
    exact ⟨hq, h.symm⟩
  · rw [if_neg hq] at h
    cases h
/-- A copy, of its own. -/
def CopyW (W : World) (n : Nat) (e : Dt) (K : List Id2) (D : Id2 → Dt) (en : Ending) (W' : World) : Prop := ∃ p' S', en = .returned (.pointer (some ⟨p', 0, none⟩)) ∧ Wat S' W' p' n e K D ∧ (∀ k, S' k → W.heap.size ≤ k) ∧ Below W.heap.size W W'
set_option maxHeartbeats 4000000 in
theorem wcopy_any (h : Wat S W p n e K D) (hn : n ≤ 100000) : Calls Try.prog 12 #[.pointer (some ⟨p, 0, none⟩)] W (CopyW W n e K D) := by
  obtain ⟨f, mb, L, h⟩ := h
  have H := Lib.hid h
  have hmm := @run_makeMap Try.prog
  obtain ⟨c0, c1⟩ := h.cells
  obtain ⟨fv, hfv, hf1, hf2, hok⟩ := h.fresh
  have HFV := Lib.hid hfv
  have HOK := Lib.hid hok
  clear h hfv hf1 hf2 hok
  go_enter Try.func12, Try.ntmps12
  go_wp2_with fail
  (with_reducible refine (copy_any 0 f e fv _ HFV.out HOK.out).mono ?_)
  rintro en w1 ⟨l', v', rfl, h1, h2⟩
  have X1 := Lib.hid (Inn.bare h2 h1 HOK.out D L)
  clear h1 h2 c0 c1
  go_upto_region 4 with fail
  have hX : (w1.alloc (.map #[] 0)).alloc (.cells #[.pointer (some ⟨l', 0, none⟩), .map (some w1.heap.size)] 57) = boxed w1 l' := rfl
  have hpp : (w1.alloc (.map #[] 0)).heap.size = w1.heap.size + 1 := by simp
  try rw [hX]
  try rw [hpp]
  have C2 := Lib.hid X1.out.1
  have B2 := Lib.hid X1.out.2
  clear X1 hX hpp
  generalize boxed w1 l' = w2 at *
  generalize hgp : w1.heap.size + 1 = p' at *
  generalize w1.heap.size = b2 at *
  clear hgp
  obtain ⟨c0, c1⟩ := (H.out.keep B2.out).cells
  cases mb with
  | none =>
    have hK : Hid (K = []) := Lib.hid H.out.map
    have hrg : ∀ wx : World, (Instr.range 55 (.map none)).run Try.prog wx = _ := fun wx => run_range_nilMap wx 55 35 52 Try.underlying55
    have hnx : ∀ ty, (Instr.next (.pointer (some ⟨w2.heap.size, 0, none⟩)) false ty).run Try.prog (w2.alloc (.mapIter none 0 #[] 0)) = .ok (.tuple #[.bool false]) (w2.alloc (.mapIter none 0 #[] 0)) := fun ty => run_next_nilMap w2 ty 0 0 #[]
    have B3 := Lib.hid (below_one w2 (.mapIter none 0 #[] 0))
    go_wp2_with fail
    go_loopw [21] (fun _ wr => wr = w2.alloc (.mapIter none 0 #[] 0)) (fun _ _ => 0)
    case atStart => rfl
    case round =>
      subst hrel
      go_wp2_with fail
      go_ret
      rw [hK.out]
      exact ⟨p', _, rfl, ⟨l', some b2, L, (C2.out.keep B3.out).mono (Nat.zero_le _)⟩, fun k hk => hk.1, below_after B2.out B3.out (Nat.le_refl _)⟩
  | some b =>
    have H2 := Lib.hid (H.out.keep B2.out)
    have hown := H2.out.map.2
    have hbl : Hid (b < W.heap.size) := Lib.hid (H.out.lt _ H.out.map.1)
    have hin2 := Lib.hid H.out.in2
    have hb2 : Hid (W.heap.size ≤ b2 ∧ b2 < w2.heap.size) := Lib.hid C2.out.map.1
    go_wp2_with (first | (at_range; refine wpList_range_id _ rfl _ rfl Try.underlying55 hown rfl ?_; intro w3 k0 hrg0 hc0 hg0 hs0) | fail)
    have HR0 := Lib.hid hrg0
    have B3 := Lib.hid (show Below w2.heap.size w2 w3 from ⟨hg0.os, hg0.tape, hg0.output, hg0.size, fun k hk => hg0.block k hk (by simp)⟩)
    have C3 := Lib.hid (C2.out.keep B3.out)
    have B4 := Lib.hid (below_after B2.out B3.out (Nat.le_refl _))
    have hcn := Lib.hid hc0
    have HZ0 : Hid (w2.heap.size + 1 ≤ w3.heap.size) := Lib.hid (by omega)
    clear hrg0 hg0 hs0 hc0 c0 c1 hown B3 C2 H2
    generalize w2.heap.size = r at *
    go_frame
    go_loopw [21] (fun _ wr => ∃ (left : Int × Int → Bool) (cnt : Nat) (ps : List Id2) (Sc : Nat → Prop) (Lc : Id2 → Nat), Hid (RngI ElP wr b r n (mapOf K L) left cnt) ∧ Hid (CameI (mapOf K L) left ps) ∧ Hid (ps.length + cnt ≤ n) ∧ Hid (Inn Sc wr p' l' (some b2) ps.length e ps D Lc) ∧ Hid (∀ k, Sc k → W.heap.size ≤ k ∧ k ≠ r) ∧ Hid (Below W.heap.size W wr) ∧ Hid (r + 1 ≤ wr.heap.size)) (fun _ wr => wr.rangeLeft b r)
    case atStart => exact ⟨_, _, [], _, L, HR0, Lib.hid (CameI.start _), Lib.hid (by simpa using hcn.out), C3, Lib.hid fun k hk => ⟨hk.1, Nat.ne_of_lt hk.2⟩, B4, HZ0⟩
    case round =>
      clear HR0 C3 B4 HZ0
      obtain ⟨left, cnt, ps, Sc, Lc, hrg, HC, HN, HI, HSc, HB, HZ⟩ := hrel
      have hrg2 := hrg.out
      go_wp2_with (first | (at_next; refine wpList_next_id _ rfl _ rfl hrg2 rfl ?_ ?_) | fail)
      · intro hc0 hl0
        have HL := Lib.hid hl0
        clear hl0
        go_wp2_with fail
        go_ret
        have hk := HC.out.done fun q hq => HL.out q.1 q.2 hq
        exact ⟨p', Sc, rfl, ⟨l', some b2, Lc, (HI.out.perm (came_in hk hin2.out)).mono (by have := HN.out; omega)⟩, fun k hk => (HSc.out k hk).1, HB.out⟩
      · intro q1 q2 c w4 cnt2 hp hlk hMs hrg3 hlt hg2 hs2 hen
        obtain ⟨hqK, rfl⟩ := mapOf_some hMs
        have HM := Lib.hid hMs
        have H4 := Lib.hid hrg3
        have HP := Lib.hid hp
        have HLT := Lib.hid hlt
        have HLK := Lib.hid hlk
        have HQK := Lib.hid hqK
        have hbr : Hid (b2 < r) := Lib.hid hb2.out.2
        have HF4 : Hid (Fr (fun i => i = r) wr w4) := Lib.hid (.of_grown hg2 (fun g e => by injection e with e; exact e.symm))
        have B4 := Lib.hid (HB.out.grown hg2 HB.out.size (fun k e => by injection e with e; have := hb2.out; have := hbr.out; omega))
        have HZ4 : Hid (r + 1 ≤ w4.heap.size) := Lib.hid (by have := HZ.out; omega)
        have HNC : Hid (¬ (q1, q2) ∈ ps) := Lib.hid fun h => by
          have := HC.out.left _ hp
          rw [hlk] at this
          simp [h] at this
        simp only [idv, ElP, ptV, Option.map_some] at hen
        have HC2 := Lib.hid (HC.out.step hp hlk (by rw [hMs]; rfl))
        have HI4 : Hid (Inn Sc w4 p' l' (some b2) ps.length e ps D Lc) := Lib.hid (HI.out.frame (S2 := fun i => i = r) HF4.out fun k hk e => (HSc.out k hk).2 e)
        have HN4 : Hid (ps.length + 1 + cnt2 ≤ n) := Lib.hid (by have := HN.out; omega)
        clear hrg2 hrg3 hp hlt hg2 hs2 hlk hMs HN HI HB HZ HF4
        go_upto_region 7 with fail
        have B5 := Lib.hid (below_one w4 (.cells #[.int .i64 q1, .int .i64 q2] 35))
        have X5 := Lib.hid (box_new w4 q1 q2)
        have H5 := Lib.hid (H4.out.kept (grown_below B5.out none) (by simp) (by simp))
        have HI5 := Lib.hid (HI4.out.keep B5.out)
        have HB5 := Lib.hid (below_after B4.out B5.out (Nat.le_refl _))
        have HZ5 : Hid (r + 1 ≤ (w4.alloc (.cells #[.int .i64 q1, .int .i64 q2] 35)).heap.size) := Lib.hid (Nat.le_trans HZ4.out B5.out.size)
        clear H4 HI4 B4 HZ4 B5 hen
        generalize w4.alloc (.cells #[.int .i64 q1, .int .i64 q2] 35) = w5 at *
        generalize w4.heap.size = gb at *
        obtain ⟨dv, hdv, hS1, hS2, hok⟩ := (H.out.keep HB5.out).dets _ HQK.out
        have HDV := Lib.hid hdv
        have HDO := Lib.hid hok
        clear hdv hS1 hS2 hok
        have hgb : Hid (gb ≠ b2) := Lib.hid fun e => HI5.out.map.2.cells_not _ _ _ (e ▸ X5.out)
        have hpb : Hid (p' ≠ b2) := Lib.hid fun e => HI5.out.map.2.cells_not _ _ _ (e ▸ HI5.out.box)
        have HS : Hid (∀ w', Fr (fun i => i = b2) w5 w' → (w'.cell? ⟨gb, 0, none⟩ = some (.int .i64 q1) ∧ w'.cell? ⟨gb, 1, none⟩ = some (.int .i64 q2) ∧ w'.cell? ⟨p', 1, none⟩ = some (.map (some b2)))) := Lib.hid fun w' hf => by
          obtain ⟨c0, c1⟩ := box_cells (X5.out.fr hf hgb.out)
          have h1 := (hf.same _ (HI5.out.lt _ HI5.out.inp) hpb.out).trans HI5.out.box
          exact ⟨c0, c1, by rw [cell_of_row _ _ 1 _ _ _ h1]; rfl⟩
        refine wp_region_held_drew (S := fun w' => w'.cell? ⟨gb, 0, none⟩ = some (.int .i64 q1) ∧ w'.cell? ⟨gb, 1, none⟩ = some (.int .i64 q2) ∧ w'.cell? ⟨p', 1, none⟩ = some (.map (some b2))) (by kernel_rfl) ?_ (fun hHeld => ?_)
        · exact HS.out _ (.of_below (Below.refl _ _).drew)
        (refine wpAnyH_take (i := 0) (oi := ⟨_, _, _, _, _, _⟩) (v := ?_) rfl (by kernel_rfl) (by kernel_rfl) (by kernel_rfl) (fun _ _ _ h => h) (Or.inl ⟨by rfl, ?_⟩) (by assumption) ?_; rotate_left 1; · (intro w hSw; (try dsimp only at hSw); go_simp; all_goals with_reducible rfl))
        try simp only [Act.put, List.setIfInBounds_toArray, List.set_cons_zero, List.set_cons_succ]
        (refine wpAnyH_take (i := 1) (oi := ⟨_, _, _, _, _, _⟩) (v := ?_) rfl (by kernel_rfl) (by kernel_rfl) (by kernel_rfl) (fun _ _ _ h => h) (Or.inl ⟨by rfl, ?_⟩) (by assumption) ?_; rotate_left 1; · (intro w hSw; (try dsimp only at hSw); go_simp; all_goals with_reducible rfl))
        try simp only [Act.put, List.setIfInBounds_toArray, List.set_cons_zero, List.set_cons_succ]
        (refine wpAnyH_take (i := 2) (oi := ⟨_, _, _, _, _, _⟩) (v := ?_) rfl (by kernel_rfl) (by kernel_rfl) (by kernel_rfl) (fun _ _ _ h => h) (Or.inl ⟨by rfl, ?_⟩) (by assumption) ?_; rotate_left 1; · (intro w hSw; (try dsimp only at hSw); go_simp; all_goals with_reducible rfl))
        try simp only [Act.put, List.setIfInBounds_toArray, List.set_cons_zero, List.set_cons_succ]
        (refine wpAnyH_take (i := 3) (oi := ⟨_, _, _, _, _, _⟩) (v := ?_) rfl (by kernel_rfl) (by kernel_rfl) (by kernel_rfl) (fun _ _ _ h => h) (Or.inl ⟨by rfl, ?_⟩) (by assumption) ?_; rotate_left 1; · (intro w hSw; (try dsimp only at hSw); go_simp; all_goals with_reducible rfl))
        try simp only [Act.put, List.setIfInBounds_toArray, List.set_cons_zero, List.set_cons_succ]
        (refine wpAnyH_take (i := 4) (oi := ⟨_, _, _, _, _, _⟩) (v := ?_) rfl (by kernel_rfl) (by kernel_rfl) (by kernel_rfl) (fun _ _ _ h => h) (Or.inl ⟨by rfl, ?_⟩) (by assumption) ?_; rotate_left 1; · (intro w hSw; (try dsimp only at hSw); go_simp; all_goals with_reducible rfl))
        try simp only [Act.put, List.setIfInBounds_toArray, List.set_cons_zero, List.set_cons_succ]
        (refine wpAnyH_take (i := 5) (oi := ⟨_, _, _, _, _, _⟩) (v := ?_) rfl (by kernel_rfl) (by kernel_rfl) (by kernel_rfl) (fun _ _ _ h => h) (Or.inl ⟨by rfl, ?_⟩) (by assumption) ?_; rotate_left 1; · (intro w hSw; (try dsimp only at hSw); go_simp; all_goals with_reducible rfl))
        try simp only [Act.put, List.setIfInBounds_toArray, List.set_cons_zero, List.set_cons_succ]
        refine wpAnyH_ready (rs := [6]) (by kernel_rfl) (by simp) ?_
        refine AllReadyH.cons (o := ⟨_, _, _, _, _, _⟩) rfl (fun Kq hKq => ?_) (AllReadyH.nil)
        go_simp
        clear hHeld
        (go_at_call 28; (with_reducible refine (copy_any 0 (L (q1, q2)) (D (q1, q2)) dv _ (HDV.out.below (Below.refl _ _).drew) HDO.out).mono ?_); rintro en w6 ⟨l6, v6, rfl, h1, h2⟩; have D6 : Hid (Det 81 w6 w5.heap.size l6 (D (q1, q2)) v6) := Lib.hid (h1.mono (Nat.le_refl _)); have B6 : Hid (Below w5.heap.size w5 w6) := Lib.hid (below_after (Below.refl _ _).drew h2 (Nat.le_refl _)); clear h1 h2)
        refine hKq.out _ _ ?_ (fun hHeld => ?_)
        · (try dsimp only); exact HS.out _ (.of_below B6.out)
        clear hKq Kq
        try simp only [Act.put, List.setIfInBounds_toArray, List.set_cons_zero, List.set_cons_succ]
        refine wpAnyH_ready (rs := [7]) (by kernel_rfl) (by simp) ?_
        refine AllReadyH.cons (o := ⟨_, _, _, _, _, _⟩) rfl (fun Kq hKq => ?_) (AllReadyH.nil)
        clear hHeld
        refine step_puts (by rfl) (.tmp 29) (.tmp 30) (.tmp 32) (by rfl) Try.underlying55 _ (HI5.out.keep B6.out).map.2 (by have := HN4.out; unfold maxLen; omega) HP.out (some l6) (by rfl) (by rfl) (by rfl) ?_; intro w7 hm7 ht7; have M7 := Lib.hid hm7; have HF7 : Hid (Fr (fun i => i = b2) w6 w7) := Lib.hid (.of_turned ht7 rfl); clear hm7 ht7
        refine hKq.out _ _ ?_ (fun hHeld => ?_)
        · (try dsimp only); exact HS.out _ ((Fr.of_below B6.out).step HF7.out)
        clear hKq Kq
        try simp only [Act.put]
        refine wpAnyH_done (by kernel_rfl) ?_ _
        clear hHeld HS
        obtain ⟨S7, k1, k2⟩ := HI5.out.added B6.out D6.out HDO.out HNC.out HP.out rfl HF7.out M7.out
        have HI7 : Hid (Inn S7 w7 p' l' (some b2) (ps ++ [(q1, q2)]).length e (ps ++ [(q1, q2)]) D _) := Lib.hid (by rw [List.length_append]; exact k1)
        have HS7 : Hid (∀ k, S7 k → W.heap.size ≤ k ∧ k ≠ r) := Lib.hid fun k hk => by
          rcases k2.sub k hk with e | e
          · exact HSc.out k e
          · have := HZ5.out
            have := HB5.out.size
            omega
        have HB7 : Hid (Below W.heap.size W w7) := Lib.hid (HB5.out.trans (k2.fr.below HB5.out.size fun k hk => (HSc.out k hk).1))
        have HZ7 : Hid (r + 1 ≤ w7.heap.size) := Lib.hid (Nat.le_trans HZ5.out k2.fr.size)
        have HR7 := Lib.hid ((H5.out.kept (grown_below B6.out none) (by simp) (by simp)).kept HF7.out.grown (fun e => by injection e with e; have := hbl.out; have := hb2.out; omega) (fun e => by injection e with e; have := hbr.out; omega))
        have HN7 : Hid ((ps ++ [(q1, q2)]).length + cnt2 ≤ n) := Lib.hid (by rw [List.length_append]; exact HN4.out)
        clear k1 k2 HI5 HB5 HZ5 H5 M7 HF7 D6 B6 X5 HDV
        go_wp2_with fail
        go_roundw
        case rel => exact ⟨_, cnt2, _, S7, _, HR7, HC2, HN7, HI7, HS7, HB7, HZ7⟩
        case measure => rw [HR7.out.left_eq, hrg.out.left_eq]; exact HLT.out
end Go.Proofs.Ytkoeplgkiogjlaa
