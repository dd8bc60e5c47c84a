/-
  Carried over and put together: contracts of this program's functions, and plain facts. No statement is proved in this text.
-/
import Derived.Deep.SlicePairs
import Derived.Lib.SmallJoins
import Derived.Test.YtkoeplgkiogjlaaP00
import Derived.Test.YtkoeplgkiogjlaaP01
import Derived.Test.YtkoeplgkiogjlaaP06
set_option maxRecDepth 20000
namespace Go.Proofs.Ytkoeplgkiogjlaa
open Go Go.RowKit Sets Go.Maps Go.ChangeMaps Go.MapKept
variable {S S2 : Nat → Prop} {W W' : World} {p f n : Nat} {mb : Option Nat} {e : Dt} {K : List Id2} {D : Id2 → Dt} {L : Id2 → Nat}
/-- A watch's box and its empty map, both new. -/
def boxed (w1 : World) (l' : Nat) : World := (w1.alloc (.map #[] 0)).alloc (.cells #[.pointer (some ⟨l', 0, none⟩), .map (some w1.heap.size)] 57)
theorem Inn.bare {w1 : World} {l' : Nat} {v' : Value} (hb : Below W.heap.size W w1) (hd : Det 81 w1 W.heap.size l' e v') (ok : e.Ok) (D : Id2 → Dt) (L : Id2 → Nat) :
    Inn (fun k => W.heap.size ≤ k ∧ k < (boxed w1 l').heap.size) (boxed w1 l') (w1.heap.size + 1) l' (some w1.heap.size) 0 e [] D L ∧ Below W.heap.size W (boxed w1 l') := by
  have B2 : Below w1.heap.size w1 (boxed w1 l') := ((Below.refl _ w1).alloc (Nat.le_refl _) _).alloc (by simp) _
  have hs : (boxed w1 l').heap.size = w1.heap.size + 2 := by simp [boxed]
  have hsz := hb.size
  have hD2 := hd.below B2
  refine ⟨⟨?_, ⟨by omega, by omega⟩, ⟨v', hD2.mono (Nat.zero_le _), ⟨hd.lo, hD2.lt⟩, fun g hg => ⟨(World.ownsRow.lt hd.gaps g hg).1, ?_⟩, ok⟩, ⟨⟨hsz, by omega⟩, ?_⟩, fun q hq => (by cases hq), fun q hq => (by cases hq), fun q hq => (by cases hq), fun q hq => (by cases hq), fun k hk => hk.2⟩, below_after hb B2 (Nat.le_refl _)⟩
  · have := heap_alloc_new (w1.alloc (.map #[] 0)) (.cells #[.pointer (some ⟨l', 0, none⟩), .map (some w1.heap.size)] 57)
    simpa [boxed] using this
  · obtain ⟨cs, hc⟩ := gaps_type hD2.gaps hg
    exact row_lt hc
  · exact (MapI.made ElP w1).same (Below.heap_alloc _ _ _ (by simp))
theorem Fr.grown {b : Nat} {w w' : World} (h : Fr (fun i => i = b) w w') : w.grownBy w' (some b) := ⟨h.os, h.tape, h.output, h.size, fun k hk hne => h.same k hk (fun e => hne (by rw [show k = b from e]))⟩
theorem came_in {K : List Id2} {L : Id2 → Nat} {ps : List Id2} (h : KeysI (mapOf K L) ps) (hi : ∀ q ∈ K, In2 q) : ∀ q, q ∈ ps ↔ q ∈ K := by
  obtain ⟨_, h2, h3⟩ := h
  intro q
  have he : (mapOf K L q).isSome = true ↔ q ∈ K := by
    unfold mapOf
    by_cases hq : q ∈ K <;> simp [hq]
  exact ⟨fun hq => he.1 ((h3 q (h2 q hq)).1 hq), fun hq => (h3 q (hi q hq)).2 (he.2 hq)⟩
theorem mapOf_some {K : List Id2} {L : Id2 → Nat} {q : Id2} {c : Option Nat} (h : mapOf K L q = some c) : q ∈ K ∧ c = some (L q) := by
  unfold mapOf at h
  by_cases hq : q ∈ K
  · rw [if_pos hq] at h
    injection h with h
    exact ⟨hq, h.symm⟩
  · rw [if_neg hq] at h
    cases h
/-- A copy, of its own. -/
def CopyW (W : World) (n : Nat) (e : Dt) (K : List Id2) (D : Id2 → Dt) (en : Ending) (W' : World) : Prop := ∃ p' S', en = .returned (.pointer (some ⟨p', 0, none⟩)) ∧ Wat S' W' p' n e K D ∧ (∀ k, S' k → W.heap.size ≤ k) ∧ Below W.heap.size W W'
set_option maxHeartbeats 4000000 in
theorem wcopy_any (h : Wat S W p n e K D) (hn : n ≤ 100000) : Calls Try.prog 12 #[.pointer (some ⟨p, 0, none⟩)] W (CopyW W n e K D) := by
  obtain ⟨f, mb, L, h⟩ := h
  have H := Lib.hid h
  have hmm := @run_makeMap Try.prog
  obtain ⟨c0, c1⟩ := h.cells
  obtain ⟨fv, hfv, hf1, hf2, hok⟩ := h.fresh
  have HFV := Lib.hid hfv
  have HOK := Lib.hid hok
  clear h hfv hf1 hf2 hok
  go_enter Try.func12, Try.ntmps12
  go_wp2_with fail
  (with_reducible refine (copy_any 0 f e fv _ HFV.out HOK.out).mono ?_)
  rintro en w1 ⟨l', v', rfl, h1, h2⟩
  have X1 := Lib.hid (Inn.bare h2 h1 HOK.out D L)
  clear h1 h2 c0 c1
  go_upto_region 4 with fail
  have hX : (w1.alloc (.map #[] 0)).alloc (.cells #[.pointer (some ⟨l', 0, none⟩), .map (some w1.heap.size)] 57) = boxed w1 l' := rfl
  have hpp : (w1.alloc (.map #[] 0)).heap.size = w1.heap.size + 1 := by simp
  try rw [hX]
  try rw [hpp]
  have C2 := Lib.hid X1.out.1
  have B2 := Lib.hid X1.out.2
  clear X1 hX hpp
  generalize boxed w1 l' = w2 at *
  generalize hgp : w1.heap.size + 1 = p' at *
  generalize w1.heap.size = b2 at *
  clear hgp
  obtain ⟨c0, c1⟩ := (H.out.keep B2.out).cells
  cases mb with
  | none =>
    have hK : Hid (K = []) := Lib.hid H.out.map
    have hrg : ∀ wx : World, (Instr.range 55 (.map none)).run Try.prog wx = _ := fun wx => run_range_nilMap wx 55 35 52 Try.underlying55
    have hnx : ∀ ty, (Instr.next (.pointer (some ⟨w2.heap.size, 0, none⟩)) false ty).run Try.prog (w2.alloc (.mapIter none 0 #[] 0)) = .ok (.tuple #[.bool false]) (w2.alloc (.mapIter none 0 #[] 0)) := fun ty => run_next_nilMap w2 ty 0 0 #[]
    have B3 := Lib.hid (below_one w2 (.mapIter none 0 #[] 0))
    go_wp2_with fail
    go_loopw [21] (fun _ wr => wr = w2.alloc (.mapIter none 0 #[] 0)) (fun _ _ => 0)
    case atStart => rfl
    case round =>
      subst hrel
      go_wp2_with fail
      go_ret
      rw [hK.out]
      exact ⟨p', _, rfl, ⟨l', some b2, L, (C2.out.keep B3.out).mono (Nat.zero_le _)⟩, fun k hk => hk.1, below_after B2.out B3.out (Nat.le_refl _)⟩
  | some b =>
    have H2 := Lib.hid (H.out.keep B2.out)
    have hown := H2.out.map.2
    have hbl : Hid (b < W.heap.size) := Lib.hid (H.out.lt _ H.out.map.1)
    have hin2 := Lib.hid H.out.in2
    have hb2 : Hid (W.heap.size ≤ b2 ∧ b2 < w2.heap.size) := Lib.hid C2.out.map.1
    go_wp2_with (first | (at_range; refine wpList_range_id _ rfl _ rfl Try.underlying55 hown rfl ?_; intro w3 k0 hrg0 hc0 hg0 hs0) | fail)
    have HR0 := Lib.hid hrg0
    have B3 := Lib.hid (show Below w2.heap.size w2 w3 from ⟨hg0.os, hg0.tape, hg0.output, hg0.size, fun k hk => hg0.block k hk (by simp)⟩)
    have C3 := Lib.hid (C2.out.keep B3.out)
    have B4 := Lib.hid (below_after B2.out B3.out (Nat.le_refl _))
    have hcn := Lib.hid hc0
    have HZ0 : Hid (w2.heap.size + 1 ≤ w3.heap.size) := Lib.hid (by omega)
    clear hrg0 hg0 hs0 hc0 c0 c1 hown B3 C2 H2
    generalize w2.heap.size = r at *
    go_frame
    go_loopw [21] (fun _ wr => ∃ (left : Int × Int → Bool) (cnt : Nat) (ps : List Id2) (Sc : Nat → Prop) (Lc : Id2 → Nat), Hid (RngI ElP wr b r n (mapOf K L) left cnt) ∧ Hid (CameI (mapOf K L) left ps) ∧ Hid (ps.length + cnt ≤ n) ∧ Hid (Inn Sc wr p' l' (some b2) ps.length e ps D Lc) ∧ Hid (∀ k, Sc k → W.heap.size ≤ k ∧ k ≠ r) ∧ Hid (Below W.heap.size W wr) ∧ Hid (r + 1 ≤ wr.heap.size)) (fun _ wr => wr.rangeLeft b r)
    case atStart => exact ⟨_, _, [], _, L, HR0, Lib.hid (CameI.start _), Lib.hid (by simpa using hcn.out), C3, Lib.hid fun k hk => ⟨hk.1, Nat.ne_of_lt hk.2⟩, B4, HZ0⟩
    case round =>
      clear HR0 C3 B4 HZ0
      obtain ⟨left, cnt, ps, Sc, Lc, hrg, HC, HN, HI, HSc, HB, HZ⟩ := hrel
      have hrg2 := hrg.out
      go_wp2_with (first | (at_next; refine wpList_next_id _ rfl _ rfl hrg2 rfl ?_ ?_) | fail)
      · intro hc0 hl0
        have HL := Lib.hid hl0
        clear hl0
        go_wp2_with fail
        go_ret
        have hk := HC.out.done fun q hq => HL.out q.1 q.2 hq
        exact ⟨p', Sc, rfl, ⟨l', some b2, Lc, (HI.out.perm (came_in hk hin2.out)).mono (by have := HN.out; omega)⟩, fun k hk => (HSc.out k hk).1, HB.out⟩
      · intro q1 q2 c w4 cnt2 hp hlk hMs hrg3 hlt hg2 hs2 hen
        obtain ⟨hqK, rfl⟩ := mapOf_some hMs
        have HM := Lib.hid hMs
        have H4 := Lib.hid hrg3
        have HP := Lib.hid hp
        have HLT := Lib.hid hlt
        have HLK := Lib.hid hlk
        have HQK := Lib.hid hqK
        have hbr : Hid (b2 < r) := Lib.hid hb2.out.2
        have HF4 : Hid (Fr (fun i => i = r) wr w4) := Lib.hid (.of_grown hg2 (fun g e => by injection e with e; exact e.symm))
        have B4 := Lib.hid (HB.out.grown hg2 HB.out.size (fun k e => by injection e with e; have := hb2.out; have := hbr.out; omega))
        have HZ4 : Hid (r + 1 ≤ w4.heap.size) := Lib.hid (by have := HZ.out; omega)
        have HNC : Hid (¬ (q1, q2) ∈ ps) := Lib.hid fun h => by
          have := HC.out.left _ hp
          rw [hlk] at this
          simp [h] at this
        simp only [idv, ElP, ptV, Option.map_some] at hen
        have HC2 := Lib.hid (HC.out.step hp hlk (by rw [hMs]; rfl))
        have HI4 : Hid (Inn Sc w4 p' l' (some b2) ps.length e ps D Lc) := Lib.hid (HI.out.frame (S2 := fun i => i = r) HF4.out fun k hk e => (HSc.out k hk).2 e)
        have HN4 : Hid (ps.length + 1 + cnt2 ≤ n) := Lib.hid (by have := HN.out; omega)
        clear hrg2 hrg3 hp hlt hg2 hs2 hlk hMs HN HI HB HZ HF4
        go_upto_region 7 with fail
        have B5 := Lib.hid (below_one w4 (.cells #[.int .i64 q1, .int .i64 q2] 35))
        have X5 := Lib.hid (box_new w4 q1 q2)
        have H5 := Lib.hid (H4.out.kept (grown_below B5.out none) (by simp) (by simp))
        have HI5 := Lib.hid (HI4.out.keep B5.out)
        have HB5 := Lib.hid (below_after B4.out B5.out (Nat.le_refl _))
        have HZ5 : Hid (r + 1 ≤ (w4.alloc (.cells #[.int .i64 q1, .int .i64 q2] 35)).heap.size) := Lib.hid (Nat.le_trans HZ4.out B5.out.size)
        clear H4 HI4 B4 HZ4 B5 hen
        generalize w4.alloc (.cells #[.int .i64 q1, .int .i64 q2] 35) = w5 at *
        generalize w4.heap.size = gb at *
        obtain ⟨dv, hdv, hS1, hS2, hok⟩ := (H.out.keep HB5.out).dets _ HQK.out
        have HDV := Lib.hid hdv
        have HDO := Lib.hid hok
        clear hdv hS1 hS2 hok
        have hgb : Hid (gb ≠ b2) := Lib.hid fun e => HI5.out.map.2.cells_not _ _ _ (e ▸ X5.out)
        have hpb : Hid (p' ≠ b2) := Lib.hid fun e => HI5.out.map.2.cells_not _ _ _ (e ▸ HI5.out.box)
        have HS : Hid (∀ w', Fr (fun i => i = b2) w5 w' → (w'.cell? ⟨gb, 0, none⟩ = some (.int .i64 q1) ∧ w'.cell? ⟨gb, 1, none⟩ = some (.int .i64 q2) ∧ w'.cell? ⟨p', 1, none⟩ = some (.map (some b2)))) := Lib.hid fun w' hf => by
          obtain ⟨c0, c1⟩ := box_cells (X5.out.fr hf hgb.out)
          have h1 := (hf.same _ (HI5.out.lt _ HI5.out.inp) hpb.out).trans HI5.out.box
          exact ⟨c0, c1, by rw [cell_of_row _ _ 1 _ _ _ h1]; rfl⟩
        refine wp_region_held_drew (S := fun w' => w'.cell? ⟨gb, 0, none⟩ = some (.int .i64 q1) ∧ w'.cell? ⟨gb, 1, none⟩ = some (.int .i64 q2) ∧ w'.cell? ⟨p', 1, none⟩ = some (.map (some b2))) (by kernel_rfl) ?_ (fun hHeld => ?_)
        · exact HS.out _ (.of_below (Below.refl _ _).drew)
        (refine wpAnyH_take (i := 0) (oi := ⟨_, _, _, _, _, _⟩) (v := ?_) rfl (by kernel_rfl) (by kernel_rfl) (by kernel_rfl) (fun _ _ _ h => h) (Or.inl ⟨by rfl, ?_⟩) (by assumption) ?_; rotate_left 1; · (intro w hSw; (try dsimp only at hSw); go_simp; all_goals with_reducible rfl))
        try simp only [Act.put, List.setIfInBounds_toArray, List.set_cons_zero, List.set_cons_succ]
        (refine wpAnyH_take (i := 1) (oi := ⟨_, _, _, _, _, _⟩) (v := ?_) rfl (by kernel_rfl) (by kernel_rfl) (by kernel_rfl) (fun _ _ _ h => h) (Or.inl ⟨by rfl, ?_⟩) (by assumption) ?_; rotate_left 1; · (intro w hSw; (try dsimp only at hSw); go_simp; all_goals with_reducible rfl))
        try simp only [Act.put, List.setIfInBounds_toArray, List.set_cons_zero, List.set_cons_succ]
        (refine wpAnyH_take (i := 2) (oi := ⟨_, _, _, _, _, _⟩) (v := ?_) rfl (by kernel_rfl) (by kernel_rfl) (by kernel_rfl) (fun _ _ _ h => h) (Or.inl ⟨by rfl, ?_⟩) (by assumption) ?_; rotate_left 1; · (intro w hSw; (try dsimp only at hSw); go_simp; all_goals with_reducible rfl))
        try simp only [Act.put, List.setIfInBounds_toArray, List.set_cons_zero, List.set_cons_succ]
        (refine wpAnyH_take (i := 3) (oi := ⟨_, _, _, _, _, _⟩) (v := ?_) rfl (by kernel_rfl) (by kernel_rfl) (by kernel_rfl) (fun _ _ _ h => h) (Or.inl ⟨by rfl, ?_⟩) (by assumption) ?_; rotate_left 1; · (intro w hSw; (try dsimp only at hSw); go_simp; all_goals with_reducible rfl))
        try simp only [Act.put, List.setIfInBounds_toArray, List.set_cons_zero, List.set_cons_succ]
        (refine wpAnyH_take (i := 4) (oi := ⟨_, _, _, _, _, _⟩) (v := ?_) rfl (by kernel_rfl) (by kernel_rfl) (by kernel_rfl) (fun _ _ _ h => h) (Or.inl ⟨by rfl, ?_⟩) (by assumption) ?_; rotate_left 1; · (intro w hSw; (try dsimp only at hSw); go_simp; all_goals with_reducible rfl))
        try simp only [Act.put, List.setIfInBounds_toArray, List.set_cons_zero, List.set_cons_succ]
        (refine wpAnyH_take (i := 5) (oi := ⟨_, _, _, _, _, _⟩) (v := ?_) rfl (by kernel_rfl) (by kernel_rfl) (by kernel_rfl) (fun _ _ _ h => h) (Or.inl ⟨by rfl, ?_⟩) (by assumption) ?_; rotate_left 1; · (intro w hSw; (try dsimp only at hSw); go_simp; all_goals with_reducible rfl))
        try simp only [Act.put, List.setIfInBounds_toArray, List.set_cons_zero, List.set_cons_succ]
        refine wpAnyH_ready (rs := [6]) (by kernel_rfl) (by simp) ?_
        refine AllReadyH.cons (o := ⟨_, _, _, _, _, _⟩) rfl (fun Kq hKq => ?_) (AllReadyH.nil)
        go_simp
        clear hHeld
        (go_at_call 28; (with_reducible refine (copy_any 0 (L (q1, q2)) (D (q1, q2)) dv _ (HDV.out.below (Below.refl _ _).drew) HDO.out).mono ?_); rintro en w6 ⟨l6, v6, rfl, h1, h2⟩; have D6 : Hid (Det 81 w6 w5.heap.size l6 (D (q1, q2)) v6) := Lib.hid (h1.mono (Nat.le_refl _)); have B6 : Hid (Below w5.heap.size w5 w6) := Lib.hid (below_after (Below.refl _ _).drew h2 (Nat.le_refl _)); clear h1 h2)
        refine hKq.out _ _ ?_ (fun hHeld => ?_)
        · (try dsimp only); exact HS.out _ (.of_below B6.out)
        clear hKq Kq
        try simp only [Act.put, List.setIfInBounds_toArray, List.set_cons_zero, List.set_cons_succ]
        refine wpAnyH_ready (rs := [7]) (by kernel_rfl) (by simp) ?_
        refine AllReadyH.cons (o := ⟨_, _, _, _, _, _⟩) rfl (fun Kq hKq => ?_) (AllReadyH.nil)
        clear hHeld
        refine step_puts (by rfl) (.tmp 29) (.tmp 30) (.tmp 32) (by rfl) Try.underlying55 _ (HI5.out.keep B6.out).map.2 (by have := HN4.out; unfold maxLen; omega) HP.out (some l6) (by rfl) (by rfl) (by rfl) ?_; intro w7 hm7 ht7; have M7 := Lib.hid hm7; have HF7 : Hid (Fr (fun i => i = b2) w6 w7) := Lib.hid (.of_turned ht7 rfl); clear hm7 ht7
        refine hKq.out _ _ ?_ (fun hHeld => ?_)
        · (try dsimp only); exact HS.out _ ((Fr.of_below B6.out).step HF7.out)
        clear hKq Kq
        try simp only [Act.put]
        refine wpAnyH_done (by kernel_rfl) ?_ _
        clear hHeld HS
        obtain ⟨S7, k1, k2⟩ := HI5.out.added B6.out D6.out HDO.out HNC.out HP.out rfl HF7.out M7.out
        have HI7 : Hid (Inn S7 w7 p' l' (some b2) (ps ++ [(q1, q2)]).length e (ps ++ [(q1, q2)]) D _) := Lib.hid (by rw [List.length_append]; exact k1)
        have HS7 : Hid (∀ k, S7 k → W.heap.size ≤ k ∧ k ≠ r) := Lib.hid fun k hk => by
          rcases k2.sub k hk with e | e
          · exact HSc.out k e
          · have := HZ5.out
            have := HB5.out.size
            omega
        have HB7 : Hid (Below W.heap.size W w7) := Lib.hid (HB5.out.trans (k2.fr.below HB5.out.size fun k hk => (HSc.out k hk).1))
        have HZ7 : Hid (r + 1 ≤ w7.heap.size) := Lib.hid (Nat.le_trans HZ5.out k2.fr.size)
        have HR7 := Lib.hid ((H5.out.kept (grown_below B6.out none) (by simp) (by simp)).kept HF7.out.grown (fun e => by injection e with e; have := hbl.out; have := hb2.out; omega) (fun e => by injection e with e; have := hbr.out; omega))
        have HN7 : Hid ((ps ++ [(q1, q2)]).length + cnt2 ≤ n) := Lib.hid (by rw [List.length_append]; exact HN4.out)
        clear k1 k2 HI5 HB5 HZ5 H5 M7 HF7 D6 B6 X5 HDV
        go_wp2_with fail
        go_roundw
        case rel => exact ⟨_, cnt2, _, S7, _, HR7, HC2, HN7, HI7, HS7, HB7, HZ7⟩
        case measure => rw [HR7.out.left_eq, hrg.out.left_eq]; exact HLT.out
end Go.Proofs.Ytkoeplgkiogjlaa
namespace Go.Proofs.Ytkoeplgkiogjlaa
open Go Go.RowKit Sets Go.Maps Go.ChangeMaps Go.MapKept
variable {S S2 S' : Nat → Prop} {W W' : World}
/-- A slice whose elements do not lie in S. -/
def NoS (S : Nat → Prop) (v : Value) (n : Nat) : Prop := 0 < n → ∀ g, v.ownBlock = some g → ¬ S g
theorem Ids.lts {v : Value} {l : List Id2} (h : Ids W v l) (h0 : 0 < l.length) {g : Nat} (hg : v.ownBlock = some g) : g < W.heap.size := by
  obtain ⟨A, c, rfl, _, _, hx⟩ := h
  obtain ⟨ad, rfl, h2, _⟩ := hx 0 h0
  injection hg with hg
  omega
theorem Ids.step {v : Value} {l : List Id2} (h : Ids W v l) (hn : NoS S v l.length) (u : Upd S W W' S') : Ids W' v l ∧ NoS S' v l.length := by
  refine ⟨?_, fun h0 g hg hS => ?_⟩
  · by_cases h0 : 0 < l.length
    · exact h.frame u.fr (hn h0)
    · have : l = [] := List.eq_nil_of_length_eq_zero (by omega)
      subst this
      obtain ⟨A, c, rfl, k1, k2, _⟩ := h
      exact ⟨A, c, rfl, k1, k2, fun k hk => absurd hk (by simp)⟩
  · rcases u.sub g hS with e | e
    · exact hn h0 g hg e
    · have := h.lts h0 hg
      omega
theorem Rcs.lts {α : Type} {enc : α → List Value} {sz : Nat} {v : Value} {l : List α} (h : Rcs enc sz W v l) (h0 : 0 < l.length) {g : Nat} (hg : v.ownBlock = some g) : g < W.heap.size := by
  obtain ⟨A, c, rfl, _, _, hx⟩ := h
  obtain ⟨ad, rfl, h2, _⟩ := hx 0 h0
  injection hg with hg
  omega
theorem Rcs.step {α : Type} {enc : α → List Value} {sz : Nat} {v : Value} {l : List α} (h : Rcs enc sz W v l) (hn : NoS S v l.length) (u : Upd S W W' S') : Rcs enc sz W' v l ∧ NoS S' v l.length := by
  refine ⟨?_, fun h0 g hg hS => ?_⟩
  · obtain ⟨A, c, rfl, k1, k2, hx⟩ := h
    refine ⟨A, c, rfl, k1, k2, fun k hk => ?_⟩
    obtain ⟨ad, rfl, h2, h3⟩ := hx k hk
    have hb : ad.block < W.heap.size := h2
    have e := u.fr.same ad.block hb (hn (by omega) _ rfl)
    refine ⟨ad, rfl, Nat.lt_of_lt_of_le hb u.fr.size, fun j x hj => ?_⟩
    have h4 := h3 j x hj
    rw [← h4]
    refine World.cell?_of_block ?_
    show W'.heap[(ad.add _).block]? = W.heap[(ad.add _).block]?
    rw [addr_block]
    exact e
  · rcases u.sub g hS with e | e
    · exact hn h0 g hg e
    · have := h.lts h0 hg
      omega
/-- A step of the laws': IDs are looked at, or somebody is heard, at a time. -/
structure Sp where
  h : Bool
  q : Id2
  A : Option Addr
  c : Nat
  l : List Id2
  x : Int
def Sp.v (s : Sp) : Value := .slice s.A s.l.length s.c
def encT (s : Sp) : List Value := [.bool s.h, .int .i64 s.q.1, .int .i64 s.q.2, .slice s.A s.l.length s.c, .int .i64 s.x]
theorem encT_len (s : Sp) : (encT s).length = 5 := rfl
/-- What is known of a step: its list reads so, and its numbers fit. -/
structure SpOk (W : World) (s : Sp) : Prop where
  ids : Ids W s.v s.l
  q2 : In2 s.q
  l2 : ∀ q ∈ s.l, In2 q
  x2 : -9223372036854775808 ≤ s.x ∧ s.x ≤ 9223372036854775807
theorem SpOk.below {s : Sp} (h : SpOk W s) (hb : Below W.heap.size W W') : SpOk W' s := ⟨h.ids.below hb, h.q2, h.l2, h.x2⟩
/-- Is a step too long, or does its list not rise? -/
def badS (s : Sp) : Bool := decide (30 < s.l.length) || !risesB s.l
def longS (ss : List Sp) : Bool := decide (100 < ss.length) || ss.any badS
theorem badS_no {s : Sp} (h : badS s = false) : s.l.length ≤ 30 ∧ Rises s.l := by
  simp [badS] at h
  exact ⟨h.1, (risesB_iff _).1 h.2⟩
theorem longS_no {ss : List Sp} (h : longS ss = false) : ss.length ≤ 100 ∧ ∀ s ∈ ss, s.l.length ≤ 30 ∧ Rises s.l := by
  simp only [longS, Bool.or_eq_false_iff, decide_eq_false_iff_not, List.any_eq_false] at h
  exact ⟨by omega, fun s hs => badS_no (by simpa using h.2 s hs)⟩
set_option maxHeartbeats 1000000 in
theorem long_any (v : Value) (ss : List Sp) (w : World) (h : Rcs encT 5 w v ss) (hs : ∀ s ∈ ss, SpOk w s) : Calls Try.prog 8 #[v] w fun e w' => e = .returned (.bool (longS ss)) ∧ Below w.heap.size w w' := by
  have HI := Lib.hid h
  have HS := Lib.hid hs
  obtain ⟨A, c, rfl, hz⟩ := h
  clear hz hs
  by_cases hl : 100 < ss.length
  · have hd : decide ((100 : Int) < (ss.length : Int)) = true := by simp; omega
    have hl2 : (100 : Int) < (ss.length : Int) := by omega
    have HE := Lib.hid (show longS ss = true by unfold longS; rw [decide_eq_true hl]; rfl)
    go_enter Try.func8, Try.ntmps8
    go_wp2_with fail
    go_ret
    exact ⟨ret_bool HE.out.symm, Below.refl _ _⟩
  · have hd : decide ((100 : Int) < (ss.length : Int)) = false := by simp; omega
    have hl2 : (ss.length : Int) ≤ 100 := by omega
    have HL := Lib.hid hl
    clear hl
    go_enter Try.func8, Try.ntmps8
    go_wp2_with fail
    go_loopw [3] (fun s3 wr => ∃ k : Nat, k ≤ ss.length ∧ s3 = .int .i64 k ∧ Hid ((ss.take k).any badS = false) ∧ Hid (Below w.heap.size w wr)) (fun s3 _ => ss.length - (intOf s3).toNat)
    case atStart => exact ⟨0, by omega, rfl, Lib.hid rfl, Lib.hid (Below.refl _ _)⟩
    case round =>
      obtain ⟨k, hkl, rfl, HT, HW⟩ := hrel
      have i3 : (0 : Int) ≤ (k : Int) := by omega
      by_cases hlt : k < ss.length
      · have hd1 : decide ((k : Int) < (ss.length : Int)) = true := by simp; omega
        have i4 : (k : Int) < (ss.length : Int) := by omega
        obtain ⟨ad, rfl⟩ := HI.out.addr (Nat.lt_of_le_of_lt (Nat.zero_le _) hlt)
        have c3 := HI.out.cell HW.out hlt 3 (by decide) (u := .slice ss[k].A ss[k].l.length ss[k].c) rfl
        have HM := Lib.hid (show badS ss[k] = true → longS ss = true from fun hb => by
          unfold longS
          rw [Bool.or_eq_true]
          exact .inr (List.any_eq_true.2 ⟨_, List.getElem_mem hlt, hb⟩))
        have HN := Lib.hid (show badS ss[k] = false → (ss.take (k + 1)).any badS = false from fun hb => by
          rw [List.take_succ_eq_append_getElem hlt, List.any_append, HT.out]
          simp [hb])
        have HK := Lib.hid (HS.out _ (List.getElem_mem hlt))
        generalize ss[k] = s at *
        obtain ⟨sh, sq, sA, sc, sl, sx⟩ := s
        dsimp only at c3
        have I1 : Hid (Ids wr (.slice sA sl.length sc) sl) := Lib.hid (HK.out.ids.below HW.out)
        by_cases h30 : 30 < sl.length
        · have hd2 : decide ((30 : Int) < (sl.length : Int)) = true := by simp; omega
          have hd3 : (30 : Int) < (sl.length : Int) := by omega
          have HE := Lib.hid (HM.out (by unfold badS; rw [decide_eq_true h30]; rfl))
          go_wp2_with fail
          go_ret
          exact ⟨ret_bool HE.out.symm, HW.out⟩
        · have hd2 : decide ((30 : Int) < (sl.length : Int)) = false := by simp; omega
          have hd3 : (sl.length : Int) ≤ 30 := by omega
          have h31 := Lib.hid h30
          go_wp2_with fail
          (with_reducible refine (refRising_any _ sl _ I1.out (by have := h31.out; omega)).mono ?_)
          rintro en w1 ⟨rfl, hb⟩
          have B1 := Lib.hid (below_after HW.out hb (Nat.le_refl _))
          clear hb c3
          cases hr : risesB sl with
          | true =>
            have HE := Lib.hid (HN.out (by unfold badS; rw [hr, decide_eq_false h31.out]; rfl))
            go_wp2_with fail
            go_roundw
            case rel => exact ⟨k + 1, by omega, by go_num, HE, B1⟩
            case measure => simp [intOf]; omega
          | false =>
            have HE := Lib.hid (HM.out (by unfold badS; rw [hr]; simp))
            go_wp2_with fail
            go_ret
            exact ⟨ret_bool HE.out.symm, B1.out⟩
      · obtain rfl : k = ss.length := by omega
        have hd1 : decide ((ss.length : Int) < (ss.length : Int)) = false := by simp
        have HE := Lib.hid (show longS ss = false by
          unfold longS
          rw [decide_eq_false HL.out]
          have := HT.out
          rw [List.take_length] at this
          rw [this]
          rfl)
        go_wp2_with fail
        go_ret
        exact ⟨ret_bool HE.out.symm, HW.out⟩
end Go.Proofs.Ytkoeplgkiogjlaa
namespace Go.Proofs.Ytkoeplgkiogjlaa
open Go Go.RowKit Sets Go.Maps Go.ChangeMaps Go.MapKept
variable {S S2 S' : Nat → Prop} {W W' : World}
def Sp.at (s : Sp) (x : Int) : Sp := ⟨s.h, s.q, s.A, s.c, s.l, x⟩
end Go.Proofs.Ytkoeplgkiogjlaa
namespace Go.Proofs.Ytkoeplgkiogjlaa
open Go Go.RowKit Sets Go.Maps Go.ChangeMaps Go.MapKept
variable {S S2 S' : Nat → Prop} {W W' w0 : World} {p n : Nat} {e : Dt} {K : List Id2} {D : Id2 → Dt}
/-- A list of IDs that does not lie in the blocks of S. -/
structure IL (S : Nat → Prop) (W : World) (v : Value) (l : List Id2) : Prop where
  ids : Ids W v l
  no : NoS S v l.length
theorem IL.step {v : Value} {l : List Id2} (h : IL S W v l) (u : Upd S W W' S') : IL S' W' v l := ⟨(h.ids.step h.no u).1, (h.ids.step h.no u).2⟩
theorem IL.keep {v : Value} {l : List Id2} (h : IL S W v l) (hb : Below W.heap.size W W') : IL S W' v l := ⟨h.ids.below hb, h.no⟩
/-- A watch of the call's own. -/
structure Sit (w0 W : World) (S : Nat → Prop) (p n : Nat) (e : Dt) (K : List Id2) (D : Id2 → Dt) : Prop where
  wat : Wat S W p n e K D
  lo : ∀ k, S k → w0.heap.size ≤ k
  below : Below w0.heap.size w0 W
theorem Sit.upd {n' : Nat} {K' : List Id2} {D' : Id2 → Dt} (h : Sit w0 W S p n e K D) (k : Wat S' W' p n' e K' D') (u : Upd S W W' S') : Sit w0 W' S' p n' e K' D' := by
  refine ⟨k, fun i hi => ?_, h.below.trans (u.fr.below h.below.size h.lo)⟩
  rcases u.sub i hi with x | x
  · exact h.lo i x
  · exact Nat.le_trans h.below.size x
theorem Sit.keep (h : Sit w0 W S p n e K D) (hb : Below W.heap.size W W') : Sit w0 W' S p n e K D := ⟨h.wat.keep hb, h.lo, below_after h.below hb (Nat.le_refl _)⟩
theorem Sit.look (h : Sit w0 W S p n e K D) (v : Value) (l : List Id2) (x : Int) (hv : Ids W v l) (hl : l.length ≤ 40000) (hi : ∀ q ∈ l, In2 q) (hn : n ≤ 100000) :
    Calls Try.prog 16 #[.pointer (some ⟨p, 0, none⟩), v, .int .i64 x] W fun en W' => ∃ S' A c, en = .returned (.slice A (lateL (withD e K D x) x (setOf l)).length c) ∧ Sit w0 W' S' p (n + l.length) e (setOf l) (withD e K D x) ∧ Upd S W W' S' ∧ IL S' W' (.slice A (lateL (withD e K D x) x (setOf l)).length c) (lateL (withD e K D x) x (setOf l)) := by
  refine (look_any h.wat v l x hv hl hi hn).mono ?_
  rintro en W' ⟨S', u, rfl, h1, h2, h3, h4⟩
  have hI := ids_of_owns h3
  obtain ⟨A, c, rfl, _⟩ := id hI
  exact ⟨S', A, c, rfl, h.upd h1 h2, h2, hI, fun _ => h4⟩
theorem Sit.heard (h : Sit w0 W S p n e K D) (a i x : Int) (hq : In2 (a, i)) :
    Calls Try.prog 14 #[.pointer (some ⟨p, 0, none⟩), .agg #[.int .i64 a, .int .i64 i], .int .i64 x] W fun en W' => en = .returned (.bool (hasB (a, i) K)) ∧ ∃ S', Sit w0 W' S' p n e K (heardD D (a, i) x) ∧ Upd S W W' S' := by
  refine (wheard_any h.wat a i x hq).mono ?_
  rintro en W' ⟨rfl, S', h1, h2⟩
  exact ⟨rfl, S', h.upd h1 h2, h2⟩
/-- Who is watched: a list of its own. -/
theorem Sit.watched (h : Sit w0 W S p n e K D) (hn : n ≤ 40000) (hK : Rises K) :
    Calls Try.prog 19 #[.pointer (some ⟨p, 0, none⟩)] W fun en W' => ∃ A c, en = .returned (.slice A K.length c) ∧ IL S W' (.slice A K.length c) K ∧ Below W.heap.size W W' := by
  obtain ⟨f, mb, L, hI⟩ := h.wat
  refine (watched_any hI hn hK).mono ?_
  rintro en W' ⟨v, rfl, h1, h2⟩
  have hI2 := ids_of_owns h1
  obtain ⟨A, c, rfl, _⟩ := id hI2
  exact ⟨A, c, rfl, ⟨hI2, fun _ g hg hS => by
    have := (World.ownsRow.lt h1 g hg).1
    have := hI.lt g hS
    omega⟩, h2⟩
theorem Sit.new (w0 W : World) (hb : Below w0.heap.size w0 W) (mn mx wi : Int) (h : newOk mn mx wi = true) :
    Calls Try.prog 10 #[.int .i64 mn, .int .i64 mx, .int .i64 wi] W fun en W' => ∃ p S, en = .returned (.tuple #[.pointer (some ⟨p, 0, none⟩), .int .i64 0]) ∧ Sit w0 W' S p 0 (Dt.new mn mx wi) [] (fun _ => Dt.new mn mx wi) ∧ (∀ k, S k → W.heap.size ≤ k) ∧ Below W.heap.size W W' := by
  refine (wnew_yes mn mx wi h W).mono ?_
  rintro en W' ⟨p, S, rfl, h1, h2, h3⟩
  exact ⟨p, S, rfl, ⟨h1, fun k hk => Nat.le_trans hb.size (h2 k hk), below_after hb h3 (Nat.le_refl _)⟩, h2, h3⟩
/-- What has just been made does not lie in S. -/
theorem IL.fresh {v : Value} {l : List Id2} (h : Ids W' v l) (hS : ∀ k, S k → k < W.heap.size) (hv : ∀ g, v.ownBlock = some g → W.heap.size ≤ g) : IL S W' v l :=
  ⟨h, fun _ g hg hk => by have := hS g hk; have := hv g hg; omega⟩
theorem ids_two (w : World) (a i b j : Int) : Ids (w.alloc (.cells #[.int .i64 a, .int .i64 i, .int .i64 b, .int .i64 j] 35)) (.slice (some ⟨w.heap.size, 0, none⟩) 2 2) [(a, i), (b, j)] := by
  have h := heap_alloc_new w (.cells #[.int .i64 a, .int .i64 i, .int .i64 b, .int .i64 j] 35)
  refine ⟨some ⟨w.heap.size, 0, none⟩, 2, rfl, (fun h => by cases h), by simp, fun k hk => ⟨_, rfl, by simp, ?_, ?_⟩⟩
  · match k, hk with
    | 0, _ => exact (cell_of_row _ _ 0 _ _ _ h).trans rfl
    | 1, _ => exact (cell_of_row _ _ 2 _ _ _ h).trans rfl
  · match k, hk with
    | 0, _ => exact (cell_of_row _ _ 1 _ _ _ h).trans rfl
    | 1, _ => exact (cell_of_row _ _ 3 _ _ _ h).trans rfl
def awE : Dt := Dt.new 2 5 3
def awB : List Id2 := [(1, 1), (2, 1)]
def awO : List Id2 := [(1, 1)]
def aw1 : Id2 → Dt := withD awE [] (fun _ => awE) 10
def aw2 : Id2 → Dt := withD awE awB aw1 16
def aw3 : Id2 → Dt := heardD aw2 (1, 1) 16
def aw4 : Id2 → Dt := withD awE awB aw3 16
def aw5 : Id2 → Dt := withD awE awB aw4 17
def aw6 : Id2 → Dt := withD awE awO aw5 18
theorem awB_set : setOf awB = awB := by kernel_rfl
theorem awO_set : setOf awO = awO := by kernel_rfl
theorem aw_a : lateL aw1 10 awB = [] := by kernel_rfl
theorem aw_b : lateL aw2 16 awB = awB := by kernel_rfl
theorem aw_c : lateL aw4 16 awB = [(2, 1)] := by kernel_rfl
theorem aw_d : lateL aw5 17 awO = [] := by kernel_rfl
theorem aw_f : lateL aw6 18 awB = [] := by kernel_rfl
theorem awB_in : ∀ q ∈ awB, In2 q := by
  intro q hq
  simp only [awB, List.mem_cons, List.not_mem_nil, or_false] at hq
  rcases hq with rfl | rfl <;> (unfold In2; decide)
theorem awO_in : ∀ q ∈ awO, In2 q := by
  intro q hq
  simp only [awO, List.mem_cons, List.not_mem_nil, or_false] at hq
  rcases hq with rfl
  unfold In2
  decide
set_option maxHeartbeats 4000000 in
theorem awake_any (w : World) : Calls Try.prog 9 #[] w fun en w' => en = .returned (.bool true) ∧ Below w.heap.size w w' := by
  go_enter Try.func9, Try.ntmps9
  go_wp2_with fail
  (with_reducible refine (Sit.new w _ (Below.refl _ _) 2 5 3 (by kernel_rfl)).mono ?_)
  rintro en w1 ⟨p, S1, rfl, h1, -, -⟩
  have Q : Hid (Sit w w1 S1 p 0 awE [] (fun _ => awE)) := Lib.hid h1
  clear h1
  go_wp2_with fail
  (with_reducible refine (at_any 1 _).mono ?_)
  rintro en w2 ⟨rfl, hb⟩
  have Q := Lib.hid (Q.out.keep hb)
  clear hb
  go_wp2_with fail
  (with_reducible refine (at_any 2 _).mono ?_)
  rintro en w3 ⟨rfl, hb⟩
  have Q := Lib.hid (Q.out.keep hb)
  clear hb
  have IB : Hid (IL S1 (w3.alloc (.cells #[.int .i64 1, .int .i64 1, .int .i64 2, .int .i64 1] 35)) (.slice (some ⟨w3.heap.size, 0, none⟩) 2 2) awB) := Lib.hid (.fresh (ids_two w3 1 1 2 1) Q.out.wat.lt (fun g hg => by injection hg with hg; exact Nat.le_of_eq hg))
  have Q := Lib.hid (Q.out.keep (below_one w3 (.cells #[.int .i64 1, .int .i64 1, .int .i64 2, .int .i64 1] 35)))
  go_wp2_with fail
  (with_reducible refine (at_any 1 _).mono ?_)
  rintro en w4 ⟨rfl, hb⟩
  have Q := Lib.hid (Q.out.keep hb)
  have IB := Lib.hid (IB.out.keep hb)
  clear hb
  have IO : Hid (IL S1 (w4.alloc (.cells #[.int .i64 1, .int .i64 1] 35)) (.slice (some ⟨w4.heap.size, 0, none⟩) 1 1) awO) := Lib.hid (.fresh (ids_one w4 1 1) Q.out.wat.lt (fun g hg => by injection hg with hg; exact Nat.le_of_eq hg))
  have Q := Lib.hid (Q.out.keep (below_one w4 (.cells #[.int .i64 1, .int .i64 1] 35)))
  have IB := Lib.hid (IB.out.keep (below_one w4 (.cells #[.int .i64 1, .int .i64 1] 35)))
  generalize w3.heap.size = gb at *
  go_upto_region 5 with fail
  generalize w4.alloc (.cells #[.int .i64 1, .int .i64 1] 35) = w5 at *
  generalize w4.heap.size = go at *
  go_wp2_with fail
  (with_reducible refine (Q.out.look _ awB 10 IB.out.ids (by decide) awB_in (by decide)).mono ?_)
  rw [awB_set]
  rintro en wx ⟨Sx, Aa, ca, rfl, h1, h2, h3⟩
  have h1 : Sit w wx Sx p _ awE awB aw1 := h1
  have h3 : IL Sx wx (.slice Aa (lateL aw1 10 awB).length ca) (lateL aw1 10 awB) := h3
  have he : (lateL (withD awE [] (fun _ => awE) 10) 10 awB) = _ := aw_a
  rw [aw_a] at h3
  rw [he]
  clear he
  have Q := Lib.hid h1
  have IB := Lib.hid (IB.out.step h2)
  have IO := Lib.hid (IO.out.step h2)
  have Ra := Lib.hid h3
  clear h1 h2 h3
  go_wp2_with fail
  (with_reducible refine (Q.out.look _ awB 16 IB.out.ids (by decide) awB_in (by decide)).mono ?_)
  rw [awB_set]
  rintro en wx ⟨Sx, Ab, cb, rfl, h1, h2, h3⟩
  have h1 : Sit w wx Sx p _ awE awB aw2 := h1
  have h3 : IL Sx wx (.slice Ab (lateL aw2 16 awB).length cb) (lateL aw2 16 awB) := h3
  have he : (lateL (withD awE awB aw1 16) 16 awB) = _ := aw_b
  rw [aw_b] at h3
  rw [he]
  clear he
  have Q := Lib.hid h1
  have IB := Lib.hid (IB.out.step h2)
  have IO := Lib.hid (IO.out.step h2)
  have Ra := Lib.hid (Ra.out.step h2)
  have Rb := Lib.hid h3
  clear h1 h2 h3
  go_wp2_with fail
  (with_reducible refine (at_any 1 _).mono ?_)
  rintro en wx ⟨rfl, hb⟩
  have Q := Lib.hid (Q.out.keep hb)
  have IB := Lib.hid (IB.out.keep hb)
  have IO := Lib.hid (IO.out.keep hb)
  have Ra := Lib.hid (Ra.out.keep hb)
  have Rb := Lib.hid (Rb.out.keep hb)
  clear hb
  go_wp2_with fail
  (with_reducible refine (Q.out.heard 1 1 16 (awO_in (1, 1) (by simp [awO]))).mono ?_)
  rw [show hasB (1, 1) awB = true from by kernel_rfl]
  rintro en wx ⟨rfl, Sx, h1, h2⟩
  have h1 : Sit w wx Sx p _ awE awB aw3 := h1
  have Q := Lib.hid h1
  have IB := Lib.hid (IB.out.step h2)
  have IO := Lib.hid (IO.out.step h2)
  have Ra := Lib.hid (Ra.out.step h2)
  have Rb := Lib.hid (Rb.out.step h2)
  clear h1 h2
  go_wp2_with fail
  (with_reducible refine (Q.out.look _ awB 16 IB.out.ids (by decide) awB_in (by decide)).mono ?_)
  rw [awB_set]
  rintro en wx ⟨Sx, Ac, cc, rfl, h1, h2, h3⟩
  have h1 : Sit w wx Sx p _ awE awB aw4 := h1
  have h3 : IL Sx wx (.slice Ac (lateL aw4 16 awB).length cc) (lateL aw4 16 awB) := h3
  have he : (lateL (withD awE awB aw3 16) 16 awB) = _ := aw_c
  rw [aw_c] at h3
  rw [he]
  clear he
  have Q := Lib.hid h1
  have IB := Lib.hid (IB.out.step h2)
  have IO := Lib.hid (IO.out.step h2)
  have Ra := Lib.hid (Ra.out.step h2)
  have Rb := Lib.hid (Rb.out.step h2)
  have Rc := Lib.hid h3
  clear h1 h2 h3
  go_wp2_with fail
  (with_reducible refine (Q.out.look _ awO 17 IO.out.ids (by decide) awO_in (by decide)).mono ?_)
  rw [awO_set]
  rintro en wx ⟨Sx, Ad, cd, rfl, h1, h2, h3⟩
  have h1 : Sit w wx Sx p _ awE awO aw5 := h1
  have h3 : IL Sx wx (.slice Ad (lateL aw5 17 awO).length cd) (lateL aw5 17 awO) := h3
  have he : (lateL (withD awE awB aw4 17) 17 awO) = _ := aw_d
  rw [aw_d] at h3
  rw [he]
  clear he
  have Q := Lib.hid h1
  have IB := Lib.hid (IB.out.step h2)
  have IO := Lib.hid (IO.out.step h2)
  have Ra := Lib.hid (Ra.out.step h2)
  have Rb := Lib.hid (Rb.out.step h2)
  have Rc := Lib.hid (Rc.out.step h2)
  have Rd := Lib.hid h3
  clear h1 h2 h3
  go_wp2_with fail
  (with_reducible refine (Q.out.look _ awB 18 IB.out.ids (by decide) awB_in (by decide)).mono ?_)
  rw [awB_set]
  rintro en wx ⟨Sx, Af, cf, rfl, h1, h2, h3⟩
  have h1 : Sit w wx Sx p _ awE awB aw6 := h1
  have h3 : IL Sx wx (.slice Af (lateL aw6 18 awB).length cf) (lateL aw6 18 awB) := h3
  have he : (lateL (withD awE awO aw5 18) 18 awB) = _ := aw_f
  rw [aw_f] at h3
  rw [he]
  clear he
  have Q := Lib.hid h1
  have IB := Lib.hid (IB.out.step h2)
  have IO := Lib.hid (IO.out.step h2)
  have Ra := Lib.hid (Ra.out.step h2)
  have Rb := Lib.hid (Rb.out.step h2)
  have Rc := Lib.hid (Rc.out.step h2)
  have Rd := Lib.hid (Rd.out.step h2)
  have Rf := Lib.hid h3
  clear h1 h2 h3
  go_wp2_with fail
  (with_reducible refine (refSame_any _ _ awB awB _ Rb.out.ids IB.out.ids (by decide) (by decide)).mono ?_)
  rw [show sameB (setOf awB) (setOf awB) = true from by kernel_rfl]
  rintro en wx ⟨rfl, hb⟩
  have Q := Lib.hid (Q.out.keep hb)
  have IB := Lib.hid (IB.out.keep hb)
  have IO := Lib.hid (IO.out.keep hb)
  have Ra := Lib.hid (Ra.out.keep hb)
  have Rb := Lib.hid (Rb.out.keep hb)
  have Rc := Lib.hid (Rc.out.keep hb)
  have Rd := Lib.hid (Rd.out.keep hb)
  have Rf := Lib.hid (Rf.out.keep hb)
  clear hb
  go_wp2_with fail
  (with_reducible refine (at_any 2 _).mono ?_)
  rintro en wy ⟨rfl, hb⟩
  have Q := Lib.hid (Q.out.keep hb)
  have IB := Lib.hid (IB.out.keep hb)
  have IO := Lib.hid (IO.out.keep hb)
  have Ra := Lib.hid (Ra.out.keep hb)
  have Rb := Lib.hid (Rb.out.keep hb)
  have Rc := Lib.hid (Rc.out.keep hb)
  have Rd := Lib.hid (Rd.out.keep hb)
  have Rf := Lib.hid (Rf.out.keep hb)
  clear hb
  have IC := Lib.hid (ids_one wy 2 1)
  have hb := below_one wy (.cells #[.int .i64 2, .int .i64 1] 35)
  have Q := Lib.hid (Q.out.keep hb)
  have IB := Lib.hid (IB.out.keep hb)
  have IO := Lib.hid (IO.out.keep hb)
  have Ra := Lib.hid (Ra.out.keep hb)
  have Rb := Lib.hid (Rb.out.keep hb)
  have Rc := Lib.hid (Rc.out.keep hb)
  have Rd := Lib.hid (Rd.out.keep hb)
  have Rf := Lib.hid (Rf.out.keep hb)
  clear hb
  go_wp2_with fail
  refine (refSame_any _ _ [(2, 1)] [(2, 1)] _ Rc.out.ids IC.out (by decide) (by decide)).mono ?_
  rw [show sameB (setOf [(2, 1)]) (setOf [(2, 1)]) = true from by kernel_rfl]
  rintro en wz ⟨rfl, hb⟩
  have Q := Lib.hid (Q.out.keep hb)
  clear hb
  go_wp2_with fail
  go_ret
  exact ⟨rfl, Q.out.below⟩
end Go.Proofs.Ytkoeplgkiogjlaa
namespace Go.Proofs.Ytkoeplgkiogjlaa
open Go Go.RowKit Sets Go.Maps Go.ChangeMaps Go.MapKept
theorem look_nil (A : Option Addr) (m c : Nat) (x : Int) (w : World) : Calls Try.prog 16 #[.pointer none, .slice A m c, .int .i64 x] w fun e w' => e = .returned (.slice none 0 0) ∧ Below w.heap.size w w' := by
  go_enter Try.func16, Try.ntmps16
  go_wp2_with fail
  go_ret
  exact ⟨rfl, Below.refl _ _⟩
end Go.Proofs.Ytkoeplgkiogjlaa
namespace Go.Proofs.Ytkoeplgkiogjlaa
/-- Of somebody who was heard at a time that is no less than the last one. -/
theorem heard_la {d : Dt} {x : Int} (h1 : d.la ≤ x) (h2 : x ≤ 1099511627776) : (d.heard x).la = x := by
  show clampI x d.la 1099511627776 = x
  unfold clampI
  omega
theorem sum_same {l : List Int} {g : Int} (h : ∀ y ∈ l, y = g) : sumI l = l.length * g := by
  induction l with
  | nil => simp [sumI]
  | cons x l ih =>
    rw [sum_cons, ih fun y hy => h y (List.mem_cons_of_mem _ hy), h x (by simp), List.length_cons]
    rw [show ((l.length + 1 : Nat) : Int) = (l.length : Int) + 1 from rfl, Int.add_mul]
    omega
theorem mean_same {n : Nat} {g : Int} (h : 0 < n) (hg : 0 ≤ g) : (2 * ((n : Int) * g) + n - 1).tdiv n = 2 * g := by
  have h0 : 0 ≤ (n : Int) * g := Int.mul_nonneg (by omega) hg
  rw [Int.tdiv_eq_ediv_of_nonneg (by omega), show 2 * ((n : Int) * g) + n - 1 = (n - 1 : Int) + n * (2 * g) by rw [Int.mul_left_comm]; omega, Int.add_mul_ediv_left _ _ (by omega), Int.ediv_eq_zero_of_lt (by omega) (by omega)]
  omega
/-- Somebody who was heard k times, each g ticks. -/
structure Sted (mn mx wi g : Int) (k : Nat) (d : Dt) : Prop where
  mn : d.mn = mn
  mx : d.mx = mx
  wi : d.wi = wi
  same : ∀ y ∈ d.ga, y = g
  la : d.la = if k = 0 then 0 else ((k : Int) - 1) * g
  bg : d.bg = decide (0 < k)
  some : 2 ≤ k → 0 < d.ga.length
theorem Sted.first (mn mx wi g : Int) : Sted mn mx wi g 0 (Dt.new mn mx wi) := ⟨rfl, rfl, rfl, (fun y hy => by cases hy), rfl, rfl, (fun h => by omega)⟩
theorem Sted.next {mn mx wi g : Int} {k : Nat} {d : Dt} (h : Sted mn mx wi g k d) (hd : d.Ok) (hg : 0 ≤ g) (hb : (k : Int) * g ≤ 1099511627776) : Sted mn mx wi g (k + 1) (d.heard (k * g)) := by
  have hla : d.la ≤ k * g := by
    rw [h.la]
    split
    · exact Int.mul_nonneg (by omega) hg
    · exact Int.mul_le_mul_of_nonneg_right (by omega) hg
  have ht : d.time (k * g) = k * g := heard_la hla hb
  refine ⟨h.mn, h.mx, h.wi, ?_, ?_, rfl, fun hk => ?_⟩
  · show ∀ y ∈ (if d.bg = true then recd d.wi d.ga (d.time (k * g) - d.la) else d.ga), y = g
    intro y hy
    split at hy
    · rename_i hbg
      rw [h.bg] at hbg
      have hk := of_decide_eq_true hbg
      rcases recd_mem hy with hy | rfl
      · exact h.same y hy
      · rw [ht, h.la, if_neg (by omega), Int.sub_mul]
        omega
    · exact h.same y hy
  · rw [heard_la hla hb, if_neg (by omega)]
    congr 1
    omega
  · show 0 < (if d.bg = true then recd d.wi d.ga (d.time (k * g) - d.la) else d.ga).length
    rw [if_pos (by rw [h.bg]; exact decide_eq_true (by omega))]
    exact (recd_len hd.wi hd.len).2
theorem Sted.limit {mn mx wi g : Int} {k : Nat} {d : Dt} (h : Sted mn mx wi g k d) (hg : 0 ≤ g) (hk : 2 ≤ k) : d.limit = clampI (2 * g) mn mx := by
  have hp := h.some hk
  unfold Dt.limit
  rw [if_neg (by omega), sum_same h.same, mean_same hp hg, h.mn, h.mx]
/-- The last n of a list. -/
def lastn (n : Int) (l : List Int) : List Int := l.drop ((l.length : Int) - n).toNat
theorem recd_lastn {wi : Int} (h : 1 ≤ wi) (l : List Int) (x : Int) : recd wi (lastn wi l) x = lastn wi (l ++ [x]) := by
  unfold recd lastn
  rw [List.drop_drop, List.length_drop, List.length_append, List.length_singleton, List.drop_append_of_le_length (by omega)]
  congr 2
  unfold clampI
  omega
theorem lastn_more {wi : Int} {l m : List Int} (h : wi ≤ (m.length : Int)) : lastn wi (l ++ m) = lastn wi m := by
  unfold lastn
  rw [List.length_append, List.drop_append, List.drop_of_length_le (by omega), List.nil_append]
  congr 1
  omega
/-- A detector that was heard last at x, and whose gaps are the last ones of a list. -/
structure Win (mn mx wi : Int) (x : Int) (all : List Int) (d : Dt) : Prop where
  em : d.mn = mn
  ex : d.mx = mx
  ew : d.wi = wi
  la : d.la = x
  bg : d.bg = true
  ga : d.ga = lastn wi all
theorem Win.next {mn mx wi x g : Int} {all : List Int} {d : Dt} (h : Win mn mx wi x all d) (hw : 1 ≤ wi) (hg : 0 ≤ g) (hx : x + g ≤ 1099511627776) : Win mn mx wi (x + g) (all ++ [g]) (d.heard (x + g)) := by
  have hla : d.la ≤ x + g := by rw [h.la]; omega
  have ht : d.time (x + g) = x + g := heard_la hla hx
  refine ⟨h.em, h.ex, h.ew, heard_la hla hx, rfl, ?_⟩
  show (if d.bg = true then recd d.wi d.ga (d.time (x + g) - d.la) else d.ga) = _
  rw [if_pos h.bg, ht, h.la, h.ew, h.ga, show x + g - x = g by omega, recd_lastn hw]
theorem Win.same {mn mx wi x : Int} {X Y all : List Int} {d c : Dt} (h : Win mn mx wi x (X ++ all) d) (k : Win mn mx wi x (Y ++ all) c) (hw : wi ≤ (all.length : Int)) : d = c := by
  obtain ⟨a1, a2, a3, a4, a5, a6⟩ := h
  obtain ⟨b1, b2, b3, b4, b5, b6⟩ := k
  rw [lastn_more hw] at a6 b6
  cases d
  cases c
  simp_all
end Go.Proofs.Ytkoeplgkiogjlaa
namespace Go.Proofs.Ytkoeplgkiogjlaa
open Go Go.RowKit Sets Go.Maps Go.ChangeMaps Go.MapKept
variable {S S2 S' : Nat → Prop} {W W' w0 : World}
/-- A list of steps that does not lie in the blocks of S. -/
structure RL (S : Nat → Prop) (W : World) (v : Value) (ts : List Sp) : Prop where
  rcs : Rcs encT 5 W v ts
  no : NoS S v ts.length
theorem RL.step {v : Value} {ts : List Sp} (h : RL S W v ts) (u : Upd S W W' S') : RL S' W' v ts := ⟨(h.rcs.step h.no u).1, (h.rcs.step h.no u).2⟩
theorem RL.keep {v : Value} {ts : List Sp} (h : RL S W v ts) (hb : Below W.heap.size W W') : RL S W' v ts := ⟨h.rcs.below hb, h.no⟩
theorem RL.fresh {v : Value} {ts : List Sp} (h : OwnsR encT 5 38 W' W.heap.size v ts) (hS : ∀ k, S k → k < W.heap.size) : RL S W' v ts :=
  ⟨rcs_owns encT_len h, fun _ g hg hk => by have := hS g hk; have := (World.ownsRow.lt h g hg).1; omega⟩
/-- An ID's box that does not lie in the blocks of S. -/
structure BL (S : Nat → Prop) (W : World) (g : Nat) (a i : Int) : Prop where
  box : Box W g a i
  no : ¬ S g
theorem BL.step {g : Nat} {a i : Int} (h : BL S W g a i) (u : Upd S W W' S') : BL S' W' g a i :=
  ⟨h.box.fr u.fr h.no, fun k => by rcases u.sub g k with e | e; exact h.no e; have := box_lt h.box; omega⟩
theorem BL.keep {g : Nat} {a i : Int} (h : BL S W g a i) (hb : Below W.heap.size W W') : BL S W' g a i := ⟨box_below h.box hb, h.no⟩
end Go.Proofs.Ytkoeplgkiogjlaa
namespace Go.Proofs.Ytkoeplgkiogjlaa
open Go Go.RowKit Sets Go.Maps Go.ChangeMaps Go.MapKept
variable {S S2 S' : Nat → Prop} {W W' w0 : World} {p n : Nat} {e : Dt} {K : List Id2} {D : Id2 → Dt}
theorem Wat.ok (h : Wat S W p n e K D) : ∀ q ∈ K, (D q).Ok := by
  obtain ⟨f, mb, L, h⟩ := h
  intro q hq
  obtain ⟨v, _, _, _, h4⟩ := h.dets q hq
  exact h4
theorem late_same {x : Int} (hK : Rises K) : lateL (withD e K D x) x (setOf K) = lateL D x K := by
  rw [setOf_self hK]
  unfold lateL
  refine List.filter_congr fun q hq => ?_
  rw [withD_in hq]
theorem sameB_self (l : List Id2) : sameB l l = true := by unfold sameB; exact decide_eq_true rfl
theorem lateL_le (D : Id2 → Dt) (x : Int) (l : List Id2) : (lateL D x l).length ≤ l.length := List.length_filter_le _ _
end Go.Proofs.Ytkoeplgkiogjlaa
namespace Go.Proofs.Ytkoeplgkiogjlaa
open Go Go.RowKit Sets Go.Maps Go.ChangeMaps Go.MapKept
variable {S S2 S' : Nat → Prop} {W W' w0 w w' : World} {p n base : Nat} {e : Dt} {K : List Id2} {D : Id2 → Dt} {T : Id2 → Int}
theorem gaps_fr {v : Value} {g : List Int} (h : Gaps w base v g) (k : Fr S w w') (hv : ∀ b, v.ownBlock = some b → ¬ S b) : Gaps w' base v g := by
  obtain ⟨h1, h2⟩ := h
  refine ⟨h1, ?_⟩
  rcases h2 with h2 | ⟨g, cap, cur, rfl, k1, k2, k3⟩
  · exact .inl h2
  · exact .inr ⟨g, cap, cur, rfl, k1, (k.same g (row_lt k2) (hv g rfl)).trans k2, k3⟩
/-- Since when each one counts, and its detector. -/
structure Tie (mn mx now : Int) (K : List Id2) (D : Id2 → Dt) (T : Id2 → Int) : Prop where
  bg : ∀ q ∈ K, (D q).bg = true
  la : ∀ q ∈ K, (D q).la = T q
  lo : ∀ q ∈ K, 0 ≤ T q
  hi : ∀ q ∈ K, T q ≤ now
  mn : ∀ q ∈ K, (D q).mn = mn
  mx : ∀ q ∈ K, (D q).mx = mx
variable {mn mx now x : Int}
theorem Tie.none : Tie mn mx 0 [] D T := ⟨by simp, by simp, by simp, by simp, by simp, by simp⟩
theorem time_now {d : Dt} (h1 : d.la ≤ x) (h2 : x ≤ 4900) : d.time x = x := by
  unfold Dt.time clampI
  omega
def heardT (T : Id2 → Int) (q : Id2) (x : Int) : Id2 → Int := fun r => if r = q then x else T r
theorem Tie.heard (h : Tie mn mx now K D T) (q : Id2) (h1 : now ≤ x) (h2 : x ≤ 4900) (h0 : 0 ≤ x) : Tie mn mx x K (heardD D q x) (heardT T q x) := by
  refine ⟨fun r hr => ?_, fun r hr => ?_, fun r hr => ?_, fun r hr => ?_, fun r hr => ?_, fun r hr => ?_⟩ <;> ((try unfold heardD) <;> (try unfold heardT) <;> by_cases e : r = q)
  · rw [if_pos e]; rfl
  · rw [if_neg e]; exact h.bg r hr
  · subst e
    rw [if_pos rfl, if_pos rfl]
    exact time_now (by have := h.la r hr; have := h.hi r hr; omega) h2
  · rw [if_neg e, if_neg e]; exact h.la r hr
  · rw [if_pos e]; exact h0
  · rw [if_neg e]; exact h.lo r hr
  · rw [if_pos e]; exact Int.le_refl _
  · rw [if_neg e]; exact Int.le_trans (h.hi r hr) h1
  · subst e; rw [if_pos rfl]; exact h.mn r hr
  · rw [if_neg e]; exact h.mn r hr
  · subst e; rw [if_pos rfl]; exact h.mx r hr
  · rw [if_neg e]; exact h.mx r hr
def lookT (K : List Id2) (T : Id2 → Int) (x : Int) : Id2 → Int := fun q => if q ∈ K then T q else x
theorem Tie.look {wi : Int} (h : Tie mn mx now K D T) (l : List Id2) (h1 : now ≤ x) (h2 : x ≤ 4900) (h0 : 0 ≤ x) : Tie mn mx x l (withD (Dt.new mn mx wi) K D x) (lookT K T x) := by
  have hs : (Dt.new mn mx wi).start x = ⟨mn, mx, wi, true, x, []⟩ := by
    show Dt.mk mn mx wi true (clampI x 0 _) [] = _
    congr 1
    unfold clampI
    omega
  refine ⟨fun r _ => ?_, fun r _ => ?_, fun r _ => ?_, fun r _ => ?_, fun r _ => ?_, fun r _ => ?_⟩ <;> ((try unfold withD) <;> (try unfold lookT) <;> by_cases e : r ∈ K)
  · rw [if_pos e]; exact h.bg r e
  · rw [if_neg e, hs]
  · rw [if_pos e, if_pos e]; exact h.la r e
  · rw [if_neg e, if_neg e, hs]
  · rw [if_pos e]; exact h.lo r e
  · rw [if_neg e]; exact h0
  · rw [if_pos e]; exact Int.le_trans (h.hi r e) h1
  · rw [if_neg e]; exact Int.le_refl _
  · rw [if_pos e]; exact h.mn r e
  · rw [if_neg e, hs]
  · rw [if_pos e]; exact h.mx r e
  · rw [if_neg e, hs]
/-- Who is late was not heard within min; who is not late was, within max. -/
theorem Tie.late (h : Tie mn mx x K D T) (h2 : x ≤ 4900) {q : Id2} (hq : q ∈ K) (ok : (D q).Ok) : ((D q).late x = true → mn < x - T q) ∧ ((D q).late x = false → x - T q ≤ mx) := by
  have h1 := Dt.limit_range ok
  have e1 := h.mn q hq
  have e2 := h.mx q hq
  have e3 := h.la q hq
  have e4 := h.hi q hq
  have e5 : (D q).time x = x := time_now (by omega) h2
  unfold Dt.late
  rw [h.bg q hq, e5, Bool.true_and]
  constructor
  · intro h
    have := of_decide_eq_true h
    omega
  · intro h
    have := of_decide_eq_false h
    omega
end Go.Proofs.Ytkoeplgkiogjlaa
namespace Go.Proofs.Ytkoeplgkiogjlaa
open Go Go.RowKit Sets Go.Maps Go.ChangeMaps Go.MapKept
variable {S S2 S' : Nat → Prop} {W W' w0 w w' : World} {p m n base : Nat} {e : Dt} {K : List Id2} {D : Id2 → Dt} {T : Id2 → Int}
theorem owns_fr {v : Value} {l : List Id2} (h : Owns w base v l) (k : Fr S w w') (hv : ∀ b, v.ownBlock = some b → ¬ S b) : Owns w' base v l := by
  obtain ⟨h1, h2⟩ := h
  refine ⟨h1, ?_⟩
  rcases h2 with h2 | ⟨g, cap, cur, rfl, k1, k2, k3⟩
  · exact .inl h2
  · exact .inr ⟨g, cap, cur, rfl, k1, (k.same g (row_lt k2) (hv g rfl)).trans k2, k3⟩
theorem ownsT_fr {v : Value} {l : List Sp} (h : OwnsR encT 5 38 w base v l) (k : Fr S w w') (hv : ∀ b, v.ownBlock = some b → ¬ S b) : OwnsR encT 5 38 w' base v l := by
  obtain ⟨h1, h2⟩ := h
  refine ⟨h1, ?_⟩
  rcases h2 with h2 | ⟨g, cap, cur, rfl, k1, k2, k3⟩
  · exact .inl h2
  · exact .inr ⟨g, cap, cur, rfl, k1, (k.same g (row_lt k2) (hv g rfl)).trans k2, k3⟩
theorem owns_ty {e : TypeId} {sz k : Nat} {v : Value} {xs : List Value} {g : Nat} (h : w.ownsRow base e sz v k xs) (hg : v.ownBlock = some g) : ∃ cs, w.heap[g]? = some (.cells cs e (0, 0)) := by
  rcases h.2 with ⟨rfl, _⟩ | ⟨g', cap, cur, rfl, _, h2, _⟩
  · cases hg
  · injection hg with hg
    subst hg
    exact ⟨cur, h2⟩
theorem ty_ne {t t' : TypeId} {g : Nat} {cs cs' : Array Value} (h : w.heap[g]? = some (.cells cs t (0, 0))) (k : w.heap[g]? = some (.cells cs' t' (0, 0))) : t = t' := by
  rw [h] at k
  injection k with k
  injection k
/-- A step in its box. -/
def SBox (w : World) (g : Nat) (s : Sp) : Prop := w.heap[g]? = some (.cells #[.bool s.h, .int .i64 s.q.1, .int .i64 s.q.2, .slice s.A s.l.length s.c, .int .i64 s.x] 38 (0, 0))
theorem SBox.cells {gb : Nat} {s : Sp} (h : SBox w gb s) : w.cell? ⟨gb, 0, none⟩ = some (.bool s.h) ∧ w.cell? ⟨gb, 1, none⟩ = some (.int .i64 s.q.1) ∧ w.cell? ⟨gb, 2, none⟩ = some (.int .i64 s.q.2) ∧ w.cell? ⟨gb, 3, none⟩ = some (.slice s.A s.l.length s.c) ∧ w.cell? ⟨gb, 4, none⟩ = some (.int .i64 s.x) := by
  unfold SBox at h
  refine ⟨?_, ?_, ?_, ?_, ?_⟩ <;> (rw [cell_of_row _ _ _ _ _ _ h]; rfl)
theorem SBox.lt {gb : Nat} {s : Sp} (h : SBox w gb s) : gb < w.heap.size := row_lt h
theorem SBox.keep {gb : Nat} {s : Sp} (h : SBox w gb s) (hb : Below w.heap.size w w') : SBox w' gb s := (hb.block _ h.lt).trans h
theorem SBox.fr {gb : Nat} {s : Sp} (h : SBox w gb s) (k : Fr S w w') (hg : ¬ S gb) : SBox w' gb s := (k.same _ h.lt hg).trans h
/-- All that stands between two steps. -/
structure TmG (w W : World) (S : Nat → Prop) (p m : Nat) (e : Dt) (K : List Id2) (D : Id2 → Dt) (T : Id2 → Int) (vr : Value) (ts : List Sp) (vw vl : Value) : Prop where
  sit : Sit w W S p m e K D
  rr : OwnsR encT 5 38 W w.heap.size vr ts
  nr : ∀ b, vr.ownBlock = some b → ¬ S b
  who : Owns W w.heap.size vw K
  nw : ∀ b, vw.ownBlock = some b → ¬ S b
  last : Gaps W w.heap.size vl (K.map T)
  nl : ∀ b, vl.ownBlock = some b → ¬ S b
variable {vr vw vl : Value} {ts : List Sp}
theorem TmG.keep (h : TmG w W S p m e K D T vr ts vw vl) (hb : Below W.heap.size W W') : TmG w W' S p m e K D T vr ts vw vl :=
  ⟨h.sit.keep hb, OwnsR.below h.rr hb, h.nr, h.who.below hb, h.nw, OwnsR.below h.last hb, h.nl⟩
theorem no_upd {v : Value} {e : TypeId} {sz k : Nat} {xs : List Value} (h : W.ownsRow base e sz v k xs) (hn : ∀ b, v.ownBlock = some b → ¬ S b) (u : Upd S W W' S') : ∀ b, v.ownBlock = some b → ¬ S' b := fun b hb hS => by
  obtain ⟨cs, hc⟩ := owns_ty h hb
  rcases u.sub b hS with x | x
  · exact hn b hb x
  · have := row_lt hc
    omega
/-- Something was done to the watch. -/
theorem TmG.upd {m' : Nat} {D' : Id2 → Dt} (h : TmG w W S p m e K D T vr ts vw vl) (k : Sit w W' S' p m' e K D') (u : Upd S W W' S') : TmG w W' S' p m' e K D' T vr ts vw vl :=
  ⟨k, ownsT_fr h.rr u.fr h.nr, no_upd h.rr h.nr u, owns_fr h.who u.fr h.nw, no_upd h.who h.nw u, gaps_fr h.last u.fr h.nl, no_upd h.last h.nl u⟩
theorem slice_of {v : Value} {sz : Nat} {xs : List Value} {e : TypeId} {k : Nat} (h : w.ownsRow base e sz v k xs) : ∃ A c, v = .slice A k c := by
  rcases h.2 with ⟨rfl, rfl⟩ | ⟨g, cap, cur, rfl, _⟩
  · exact ⟨none, 0, rfl⟩
  · exact ⟨_, _, rfl⟩
end Go.Proofs.Ytkoeplgkiogjlaa
