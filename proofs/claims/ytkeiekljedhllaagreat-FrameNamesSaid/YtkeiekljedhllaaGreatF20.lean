/-
  Carried over and put together: contracts of this program's functions, and plain facts. No statement is proved in this text.
-/
import Derived.Test.YtkeiekljedhllaaGreatF19
set_option maxRecDepth 20000
namespace Go.Proofs.YtkeiekljedhllaaGreat
open Go Go.RowKit
theorem Gr.owns {α : Type} {enc : α → List Value} {sz : Nat} {e : TypeId} {base : Nat} {w w' : World} {p g : Nat} {s : RS} {v : Value} {l : List α} (h : Gr p g w w') (hs : RSt w p g s) (ho : OwnsR enc sz e w base v l) (h1 : e ≠ 84) (h2 : e ≠ 113) : OwnsR enc sz e w' base v l := h.row hs ho h1 h2
theorem rLoop_len {α : Type} (e : RS → α × RS) (k : Nat) (s : RS) : (rLoop e k s).1.length = k := by
  induction k with
  | zero => rfl
  | succ k ih => unfold rLoop; simp [ih]
/-- A list that is read: of the call's own, and what is left. -/
def GaveL {α : Type} (enc : α → List Value) (sz : Nat) (E : TypeId) (p g : Nat) (l : List α) (s : RS) (w : World) (e : Ending) (w' : World) : Prop := ∃ v, e = .returned v ∧ OwnsR enc sz E w' w.heap.size v l ∧ RSt w' p g s ∧ Gr p g w w'
theorem int_nat {n : Int} (h : 0 ≤ n) : ∃ k : Nat, n = (k : Int) := ⟨n.toNat, by omega⟩
set_option maxHeartbeats 4000000 in
theorem rIds_any (p g : Nat) (s : RS) (w : World) (h : RSt w p g s) : Calls Tryz.prog 74 #[.pointer (some ⟨p, 0, none⟩), .func (.func 39) #[.pointer (some ⟨p, 0, none⟩)] #[]] w (GaveL encI 2 24 p g (rList rId s).1 (rList rId s).2 w) := by
  have HP := Lib.hid h.lt
  have R0 := Lib.hid h
  obtain ⟨b1, b2⟩ := rUp_bounds 64 s (by decide)
  have HV : Hid (rList rId s = rLoop rId (rUp 64 s).1.toNat (rUp 64 s).2) := Lib.hid rfl
  have HC := Lib.hid (rUp_any p g 64 s w h)
  clear h
  generalize rUp 64 s = r0 at *
  obtain ⟨n, s1⟩ := r0
  obtain ⟨N, rfl⟩ := int_nat b1
  dsimp only at b1 b2
  have b3 : N ≤ 64 := by omega
  go_enter Tryz.func74, Tryz.ntmps74
  go_wp2_with fail
  (with_reducible refine HC.out.mono ?_)
  rintro e1 w1 ⟨rfl, h1, h2⟩
  have R1 := Lib.hid h1
  have G1 := Lib.hid h2
  clear h1 h2 HC R0
  dsimp only
  go_wp2_with fail
  go_loopw [5, 8] (fun s5 s8 wr => ∃ k : Nat, k ≤ N ∧ s8 = .int .i64 k ∧ Hid (OwnsR encI 2 24 wr w.heap.size s5 (rLoop rId k s1).1) ∧ Hid (RSt wr p g (rLoop rId k s1).2) ∧ Hid (Gr p g w wr)) (fun _ s8 _ => N - (intOf s8).toNat)
  case atStart => exact ⟨0, by omega, rfl, Lib.hid (OwnsR.nil _ _ _), R1, G1⟩
  case round =>
    clear R1 G1
    obtain ⟨k, hk, rfl, O1, R1, G1⟩ := hrel
    by_cases hlt : k < N
    · have hd : decide ((k : Int) < (N : Int)) = true := by simp; omega
      have HN : Hid (rLoop rId (k + 1) s1 = ((rLoop rId k s1).1 ++ [(rId (rLoop rId k s1).2).1], (rId (rLoop rId k s1).2).2)) := Lib.hid rfl
      have HL := Lib.hid (rLoop_len rId k s1)
      generalize rLoop rId k s1 = q at *
      obtain ⟨l, sk⟩ := q
      dsimp only at *
      have hlen : l.length ≤ 64 := by have := HL.out; omega
      have HC := Lib.hid (rId_any p g sk wr R1.out)
      generalize hel : rId sk = q at *
      have HEL := Lib.hid hel
      clear hel
      obtain ⟨⟨a, i⟩, sn⟩ := q
      dsimp only at *
      go_wp2_with fail
      (with_reducible refine HC.out.mono ?_)
      rintro e2 w2 ⟨rfl, h1, h2⟩
      have O2 := Lib.hid (show OwnsR encI 2 24 (w2.alloc (.cells #[.int .i64 a, .int .i64 i] 24)) w.heap.size u5 l from World.ownsRow.alloc (h2.owns R1.out O1.out (by decide) (by decide)) _)
      have R2 := Lib.hid (h1.later (below_one w2 (.cells #[.int .i64 a, .int .i64 i] 24)))
      have G2 := Lib.hid (G1.out.trans (h2.below (below_one w2 (.cells #[.int .i64 a, .int .i64 i] 24)) h2.size))
      have I2 := Lib.hid (rcs_lit encI_len w2 [(a, i)] #[.int .i64 a, .int .i64 i] 24 rfl)
      have Z2 := Lib.hid (Nat.le_trans G1.out.size h2.size)
      clear h1 h2 O1 R1 G1 HC
      go_wp2_with (at_builtin; refine wpList_append_recs 29 24 Tryz.underlying29 infoI rfl encI_len (by omega) encI_one (by omega) rfl (.tmp 10) (.tmp 13) rfl _ w.heap.size _ _ l [(a, i)] rfl rfl O2.out I2.out (by simp; omega) (Nat.le_trans Z2.out (by simp)) ?_; intro v3 w3 h1 h2; have O3 := Lib.hid h1; have R3 := Lib.hid (R2.out.below h2 HP.out.1 HP.out.2); have G3 := Lib.hid (G2.out.below h2 (Nat.le_refl _)); clear h1 h2 O2 R2 G2 I2)
      go_roundw
      case rel => exact ⟨k + 1, by omega, by go_num, by rw [HN.out]; exact O3, by rw [HN.out]; exact R3, G3⟩
      case measure => simp [intOf]; omega
    · obtain rfl : k = N := by omega
      have hd : decide ((k : Int) < (k : Int)) = false := by simp
      go_wp2_with fail
      go_ret
      refine ⟨_, rfl, ?_, ?_, G1.out⟩
      · rw [HV.out]; exact O1.out
      · rw [HV.out]; exact R1.out
set_option maxHeartbeats 4000000 in
theorem rMems_any (p g X : Nat) (s : RS) (w : World) (h : RSt w p g s) (hX : One w X 80 (.pointer (some ⟨p, 0, none⟩))) : Calls Tryz.prog 72 #[.pointer (some ⟨p, 0, none⟩), .func (.func 73) #[] #[.pointer (some ⟨X, 0, none⟩)]] w (GaveL encM 4 35 p g (rList rMem s).1 (rList rMem s).2 w) := by
  have HP := Lib.hid h.lt
  have R0 := Lib.hid h
  have HXL := Lib.hid (show X < w.heap.size from row_lt hX)
  obtain ⟨b1, b2⟩ := rUp_bounds 64 s (by decide)
  have HV : Hid (rList rMem s = rLoop rMem (rUp 64 s).1.toNat (rUp 64 s).2) := Lib.hid rfl
  have HC := Lib.hid (rUp_any p g 64 s w h)
  have X0 := Lib.hid hX
  clear h hX
  generalize rUp 64 s = r0 at *
  obtain ⟨n, s1⟩ := r0
  obtain ⟨N, rfl⟩ := int_nat b1
  dsimp only at b1 b2
  have b3 : N ≤ 64 := by omega
  go_enter Tryz.func72, Tryz.ntmps72
  go_wp2_with fail
  (with_reducible refine HC.out.mono ?_)
  rintro e1 w1 ⟨rfl, h1, h2⟩
  have R1 := Lib.hid h1
  have G1 := Lib.hid h2
  have X1 := Lib.hid (h2.one R0.out X0.out)
  clear h1 h2 HC R0 X0
  dsimp only
  go_wp2_with fail
  go_loopw [5, 8] (fun s5 s8 wr => ∃ k : Nat, k ≤ N ∧ s8 = .int .i64 k ∧ Hid (OwnsR encM 4 35 wr w.heap.size s5 (rLoop rMem k s1).1) ∧ Hid (RSt wr p g (rLoop rMem k s1).2) ∧ Hid (Gr p g w wr) ∧ Hid (One wr X 80 (.pointer (some ⟨p, 0, none⟩)))) (fun _ s8 _ => N - (intOf s8).toNat)
  case atStart => exact ⟨0, by omega, rfl, Lib.hid (OwnsR.nil _ _ _), R1, G1, X1⟩
  case round =>
    clear R1 G1 X1
    obtain ⟨k, hk, rfl, O1, R1, G1, X1⟩ := hrel
    by_cases hlt : k < N
    · have hd : decide ((k : Int) < (N : Int)) = true := by simp; omega
      have HN : Hid (rLoop rMem (k + 1) s1 = ((rLoop rMem k s1).1 ++ [(rMem (rLoop rMem k s1).2).1], (rMem (rLoop rMem k s1).2).2)) := Lib.hid rfl
      have HL := Lib.hid (rLoop_len rMem k s1)
      generalize rLoop rMem k s1 = q at *
      obtain ⟨l, sk⟩ := q
      dsimp only at *
      have hlen : l.length ≤ 64 := by have := HL.out; omega
      have HC := Lib.hid (rMem_any p g X sk wr R1.out X1.out)
      generalize hel : rMem sk = q at *
      have HEL := Lib.hid hel
      clear hel
      obtain ⟨⟨⟨a, i⟩, st, m⟩, sn⟩ := q
      dsimp only at *
      go_wp2_with fail
      (with_reducible refine HC.out.mono ?_)
      rintro e2 w2 ⟨rfl, h1, h2⟩
      have O2 := Lib.hid (show OwnsR encM 4 35 (w2.alloc (.cells #[.int .i64 a, .int .i64 i, .int .u8 st, .int .i64 m] 35)) w.heap.size u5 l from World.ownsRow.alloc (h2.owns R1.out O1.out (by decide) (by decide)) _)
      have R2 := Lib.hid (h1.later (below_one w2 (.cells #[.int .i64 a, .int .i64 i, .int .u8 st, .int .i64 m] 35)))
      have G2 := Lib.hid (G1.out.trans (h2.below (below_one w2 (.cells #[.int .i64 a, .int .i64 i, .int .u8 st, .int .i64 m] 35)) h2.size))
      have X2 := Lib.hid (one_below (h2.one R1.out X1.out) (below_one w2 (.cells #[.int .i64 a, .int .i64 i, .int .u8 st, .int .i64 m] 35)))
      have I2 := Lib.hid (rcs_lit encM_len w2 [((a, i), st, m)] #[.int .i64 a, .int .i64 i, .int .u8 st, .int .i64 m] 35 rfl)
      have Z2 := Lib.hid (Nat.le_trans G1.out.size h2.size)
      clear h1 h2 O1 R1 G1 HC X1
      go_wp2_with (at_builtin; refine wpList_append_recs 30 35 Tryz.underlying30 info32 rfl encM_len (by omega) encM_one (by omega) rfl (.tmp 10) (.tmp 13) rfl _ w.heap.size _ _ l [((a, i), st, m)] rfl rfl O2.out I2.out (by simp; omega) (Nat.le_trans Z2.out (by simp)) ?_; intro v3 w3 h1 h2; have O3 := Lib.hid h1; have R3 := Lib.hid (R2.out.below h2 HP.out.1 HP.out.2); have G3 := Lib.hid (G2.out.below h2 (Nat.le_refl _)); have X3 := Lib.hid (show One w3 X 80 (.pointer (some ⟨p, 0, none⟩)) from (h2.block X HXL.out).trans X2.out); clear h1 h2 O2 R2 G2 I2 X2)
      go_roundw
      case rel => exact ⟨k + 1, by omega, by go_num, by rw [HN.out]; exact O3, by rw [HN.out]; exact R3, G3, X3⟩
      case measure => simp [intOf]; omega
    · obtain rfl : k = N := by omega
      have hd : decide ((k : Int) < (k : Int)) = false := by simp
      go_wp2_with fail
      go_ret
      refine ⟨_, rfl, ?_, ?_, G1.out⟩
      · rw [HV.out]; exact O1.out
      · rw [HV.out]; exact R1.out
set_option maxHeartbeats 4000000 in
theorem rTicks_any (p g X : Nat) (s : RS) (w : World) (h : RSt w p g s) (hX : One w X 80 (.pointer (some ⟨p, 0, none⟩))) : Calls Tryz.prog 77 #[.pointer (some ⟨p, 0, none⟩), .func (.func 78) #[] #[.pointer (some ⟨X, 0, none⟩)]] w (GaveL encT 3 27 p g (rList rTick s).1 (rList rTick s).2 w) := by
  have HP := Lib.hid h.lt
  have R0 := Lib.hid h
  have HXL := Lib.hid (show X < w.heap.size from row_lt hX)
  obtain ⟨b1, b2⟩ := rUp_bounds 64 s (by decide)
  have HV : Hid (rList rTick s = rLoop rTick (rUp 64 s).1.toNat (rUp 64 s).2) := Lib.hid rfl
  have HC := Lib.hid (rUp_any p g 64 s w h)
  have X0 := Lib.hid hX
  clear h hX
  generalize rUp 64 s = r0 at *
  obtain ⟨n, s1⟩ := r0
  obtain ⟨N, rfl⟩ := int_nat b1
  dsimp only at b1 b2
  have b3 : N ≤ 64 := by omega
  go_enter Tryz.func77, Tryz.ntmps77
  go_wp2_with fail
  (with_reducible refine HC.out.mono ?_)
  rintro e1 w1 ⟨rfl, h1, h2⟩
  have R1 := Lib.hid h1
  have G1 := Lib.hid h2
  have X1 := Lib.hid (h2.one R0.out X0.out)
  clear h1 h2 HC R0 X0
  dsimp only
  go_wp2_with fail
  go_loopw [5, 8] (fun s5 s8 wr => ∃ k : Nat, k ≤ N ∧ s8 = .int .i64 k ∧ Hid (OwnsR encT 3 27 wr w.heap.size s5 (rLoop rTick k s1).1) ∧ Hid (RSt wr p g (rLoop rTick k s1).2) ∧ Hid (Gr p g w wr) ∧ Hid (One wr X 80 (.pointer (some ⟨p, 0, none⟩)))) (fun _ s8 _ => N - (intOf s8).toNat)
  case atStart => exact ⟨0, by omega, rfl, Lib.hid (OwnsR.nil _ _ _), R1, G1, X1⟩
  case round =>
    clear R1 G1 X1
    obtain ⟨k, hk, rfl, O1, R1, G1, X1⟩ := hrel
    by_cases hlt : k < N
    · have hd : decide ((k : Int) < (N : Int)) = true := by simp; omega
      have HN : Hid (rLoop rTick (k + 1) s1 = ((rLoop rTick k s1).1 ++ [(rTick (rLoop rTick k s1).2).1], (rTick (rLoop rTick k s1).2).2)) := Lib.hid rfl
      have HL := Lib.hid (rLoop_len rTick k s1)
      generalize rLoop rTick k s1 = q at *
      obtain ⟨l, sk⟩ := q
      dsimp only at *
      have hlen : l.length ≤ 64 := by have := HL.out; omega
      have HC := Lib.hid (rTick_any p g X sk wr R1.out X1.out)
      generalize hel : rTick sk = q at *
      have HEL := Lib.hid hel
      clear hel
      obtain ⟨⟨⟨a, i⟩, m⟩, sn⟩ := q
      dsimp only at *
      go_wp2_with fail
      (with_reducible refine HC.out.mono ?_)
      rintro e2 w2 ⟨rfl, h1, h2⟩
      have O2 := Lib.hid (show OwnsR encT 3 27 (w2.alloc (.cells #[.int .i64 a, .int .i64 i, .int .i64 m] 27)) w.heap.size u5 l from World.ownsRow.alloc (h2.owns R1.out O1.out (by decide) (by decide)) _)
      have R2 := Lib.hid (h1.later (below_one w2 (.cells #[.int .i64 a, .int .i64 i, .int .i64 m] 27)))
      have G2 := Lib.hid (G1.out.trans (h2.below (below_one w2 (.cells #[.int .i64 a, .int .i64 i, .int .i64 m] 27)) h2.size))
      have X2 := Lib.hid (one_below (h2.one R1.out X1.out) (below_one w2 (.cells #[.int .i64 a, .int .i64 i, .int .i64 m] 27)))
      have I2 := Lib.hid (rcs_lit encT_len w2 [((a, i), m)] #[.int .i64 a, .int .i64 i, .int .i64 m] 27 rfl)
      have Z2 := Lib.hid (Nat.le_trans G1.out.size h2.size)
      clear h1 h2 O1 R1 G1 HC X1
      go_wp2_with (at_builtin; refine wpList_append_recs 28 27 Tryz.underlying28 info35 rfl encT_len (by omega) encT_one (by omega) rfl (.tmp 10) (.tmp 13) rfl _ w.heap.size _ _ l [((a, i), m)] rfl rfl O2.out I2.out (by simp; omega) (Nat.le_trans Z2.out (by simp)) ?_; intro v3 w3 h1 h2; have O3 := Lib.hid h1; have R3 := Lib.hid (R2.out.below h2 HP.out.1 HP.out.2); have G3 := Lib.hid (G2.out.below h2 (Nat.le_refl _)); have X3 := Lib.hid (show One w3 X 80 (.pointer (some ⟨p, 0, none⟩)) from (h2.block X HXL.out).trans X2.out); clear h1 h2 O2 R2 G2 I2 X2)
      go_roundw
      case rel => exact ⟨k + 1, by omega, by go_num, by rw [HN.out]; exact O3, by rw [HN.out]; exact R3, G3, X3⟩
      case measure => simp [intOf]; omega
    · obtain rfl : k = N := by omega
      have hd : decide ((k : Int) < (k : Int)) = false := by simp
      go_wp2_with fail
      go_ret
      refine ⟨_, rfl, ?_, ?_, G1.out⟩
      · rw [HV.out]; exact O1.out
      · rw [HV.out]; exact R1.out
end Go.Proofs.YtkeiekljedhllaaGreat
namespace Go.Proofs.YtkeiekljedhllaaGreat
open Go Go.RowKit
theorem wbox_open {w : World} {g : Nat} {a i n : Int} {v : Value} (h : WBox w g a i n v) : w.frozen? ⟨g, 0, none⟩ = false ∧ w.frozen? ⟨g, 1, none⟩ = false ∧ w.frozen? ⟨g, 2, none⟩ = false ∧ w.frozen? ⟨g, 3, none⟩ = false := by
  unfold WBox at h
  exact ⟨by simp [World.frozen?, h], by simp [World.frozen?, h], by simp [World.frozen?, h], by simp [World.frozen?, h]⟩
theorem ownsR_slice {α : Type} {enc : α → List Value} {sz : Nat} {e : TypeId} {w : World} {base : Nat} {v : Value} {l : List α} (h : OwnsR enc sz e w base v l) : ∃ s : SL, v = .slice s.1 s.2.1 s.2.2 := by
  rcases ownsR_split h with ⟨rfl, _⟩ | ⟨g, cap, rfl, _⟩
  · exact ⟨(none, 0, 0), rfl⟩
  · exact ⟨(_, _, _), rfl⟩
/-- Two rows of unlike types lie in two blocks. -/
theorem ownsRow_apart {w : World} {b1 b2 sz1 sz2 n1 n2 : Nat} {e1 e2 : TypeId} {v1 v2 : Value} {xs1 xs2 : List Value} (h : w.ownsRow b1 e1 sz1 v1 n1 xs1) (k : w.ownsRow b2 e2 sz2 v2 n2 xs2) (he : e1 ≠ e2) : v1.ownBlock = none ∨ v1.ownBlock ≠ v2.ownBlock := by
  rcases h.2 with ⟨rfl, _⟩ | ⟨g, cap, cur, rfl, _, hh, _⟩
  · exact .inl rfl
  · refine .inr fun e => ?_
    rcases k.2 with ⟨rfl, _⟩ | ⟨g', cap', cur', rfl, _, hh', _⟩
    · simp [Value.ownBlock] at e
    · have e2 : g = g' := by simpa [Value.ownBlock] using e
      subst e2
      rw [hh] at hh'
      injection hh' with hh'
      injection hh' with _ ht
      exact he ht
theorem EachOwn.gr {w w' : World} {p g lo : Nat} {s : RS} (h : Gr p g w w') (hs : RSt w p g s) {qs : List Raw} {l : List RowSets.Row} (ho : EachOwn w lo qs l) : EachOwn w' lo qs l := ho.imp fun _ _ k => ⟨k.1, k.2.1, h.owns hs k.2.2 (by decide) (by decide)⟩
theorem EachOwn.rowed {w w' : World} {lo base sz n : Nat} {v : Value} {xs : List Value} {qs : List Raw} {l : List RowSets.Row} (ho : EachOwn w lo qs l) (hr : w.ownsRow base 37 sz v n xs) (hg : w.grownBy w' v.ownBlock) : EachOwn w' lo qs l := ho.imp fun _ _ k => ⟨k.1, k.2.1, World.ownsRow.kept k.2.2 hg (ownsRow_apart k.2.2 hr (by decide))⟩
theorem ownsR_not {α : Type} {enc : α → List Value} {sz : Nat} {e : TypeId} {w : World} {base g : Nat} {v : Value} {l : List α} {cs : Array Value} {T : TypeId} {fr : Nat × Nat} (h : OwnsR enc sz e w base v l) (hb : w.heap[g]? = some (.cells cs T fr)) (hT : T ≠ e) : v.ownBlock ≠ some g := by
  rcases h.2 with ⟨rfl, _⟩ | ⟨g', cap, cur, rfl, _, hh, _⟩
  · simp [Value.ownBlock]
  · intro e
    have e2 : g' = g := by simpa [Value.ownBlock] using e
    subst e2
    rw [hh] at hb
    injection hb with hb
    injection hb with _ ht
    exact hT ht.symm
/-- A row that is read: its list is of the call's own. -/
def GaveR (p g : Nat) (r : RowSets.Row) (s : RS) (w : World) (e : Ending) (w' : World) : Prop := ∃ q : Raw, e = .returned (.agg #[.int .i64 q.1.1, .int .i64 q.1.2, .int .i64 q.2.1, slc q]) ∧ OwnRow w' w.heap.size q r ∧ RSt w' p g s ∧ Gr p g w w'
set_option maxHeartbeats 4000000 in
theorem rRow_any (p g X : Nat) (s : RS) (w : World) (h : RSt w p g s) (hX : One w X 80 (.pointer (some ⟨p, 0, none⟩))) : Calls Tryz.prog 76 #[.pointer (some ⟨X, 0, none⟩)] w (GaveR p g (rRow s).1 (rRow s).2 w) := by
  have HP := Lib.hid h.lt
  have B0 := Lib.hid (below_one w (.cells #[.int .i64 0, .int .i64 0, .int .i64 0, .slice none 0 0] 37))
  have R0 := Lib.hid (h.later B0.out)
  have X0 := Lib.hid (one_below hX B0.out)
  have T0 := Lib.hid (wbox_new w 0 0 0 (.slice none 0 0))
  have HV : Hid (rRow s = (((rId s).1, (rNum (rId s).2).1, (rIds (rNum (rId s).2).2).1), (rIds (rNum (rId s).2).2).2)) := Lib.hid rfl
  clear h hX
  have x0 := one_cell X0.out
  go_enter Tryz.func76, Tryz.ntmps76
  go_wp2_with fail
  (with_reducible refine (rId_any p g s _ R0.out).mono ?_)
  rintro e1 w1 ⟨rfl, h1, h2⟩
  generalize rId s = r1 at *
  obtain ⟨⟨a, i⟩, s1⟩ := r1
  dsimp only at h1
  dsimp only
  have T1 := Lib.hid (show WBox (w1.alloc (.cells #[.int .i64 a, .int .i64 i] 24)) w.heap.size 0 0 0 (.slice none 0 0) from wbox_below (h2.kept R0.out T0.out (by decide) (by decide)) (below_one _ _))
  have X1 := Lib.hid (one_below (h2.one R0.out X0.out) (below_one w1 (.cells #[.int .i64 a, .int .i64 i] 24)))
  have R1 := Lib.hid (h1.later (below_one w1 (.cells #[.int .i64 a, .int .i64 i] 24)))
  have I1 := Lib.hid (box_new w1 a i)
  have G1 := Lib.hid ((h2.boxed).below (below_one w1 (.cells #[.int .i64 a, .int .i64 i] 24)) h2.boxed.size)
  have Z1 := Lib.hid (show w.heap.size < w1.heap.size from Nat.lt_of_lt_of_le (by simp) h2.size)
  clear h1 h2 B0 R0 X0 T0 x0
  generalize hI : w1.heap.size = I at *
  have hI2 := hI
  clear hI
  have x0 := one_cell X1.out
  go_wp2_with fail
  (with_reducible refine (rNum_is_any p g s1 _ R1.out).mono ?_)
  rintro e2 w2 ⟨rfl, h1, h2⟩
  generalize rNum s1 = r2 at *
  obtain ⟨n, s2⟩ := r2
  dsimp only at h1
  dsimp only
  have T2 := Lib.hid (show WBox w2 w.heap.size 0 0 0 (.slice none 0 0) from h2.kept R1.out T1.out (by decide) (by decide))
  have X2 := Lib.hid (h2.one R1.out X1.out)
  have R2 := Lib.hid h1
  have I2 := Lib.hid (show Box w2 I a i from h2.kept R1.out I1.out (by decide) (by decide))
  have G2 := Lib.hid (G1.out.trans h2)
  have Z2 := Lib.hid (show w.heap.size ≤ w2.heap.size from G2.out.size)
  clear h1 h2 R1 X1 T1 G1 I1 x0
  have RC := Lib.hid fun W (hW : RSt W p g s2) => rIds_any p g s2 W hW
  have HQ : Hid (rIds s2 = rList rId s2) := Lib.hid rfl
  generalize rList rId s2 = r3 at *
  obtain ⟨l, s3⟩ := r3
  dsimp only at *
  have x0 := one_cell X2.out
  go_wp2_with fail
  have hI3 := Z1.out
  have TNE := Lib.hid (show X ≠ w.heap.size by rintro rfl; have h1 := X2.out; have h2 := T2.out; unfold One at h1; unfold WBox at h2; rw [h1] at h2; injection h2 with h2; injection h2 with _ ht; exact absurd ht (by decide))
  refine wp_region_held_drew (S := fun w' => w'.cell? ⟨I, 0, none⟩ = some (.int .i64 a) ∧ w'.cell? ⟨I, 1, none⟩ = some (.int .i64 i) ∧ w'.cell? ⟨X, 0, none⟩ = some (.pointer (some ⟨p, 0, none⟩))) (by kernel_rfl) ?_ (fun hHeld => ?_)
  · exact ⟨(box_cells I2.out).1, (box_cells I2.out).2, one_cell X2.out⟩
  (refine wpAnyH_take (i := 0) (oi := ⟨_, _, _, _, _, _⟩) (v := ?_) rfl (by kernel_rfl) (by kernel_rfl) (by kernel_rfl) (fun _ _ _ h => h) (Or.inl ⟨by rfl, ?_⟩) (by assumption) ?_; rotate_left 1; · (intro w hSw; (try dsimp only at hSw); go_simp; all_goals with_reducible rfl))
  try simp only [Act.put, List.setIfInBounds_toArray, List.set_cons_zero, List.set_cons_succ]
  (refine wpAnyH_take (i := 1) (oi := ⟨_, _, _, _, _, _⟩) (v := ?_) rfl (by kernel_rfl) (by kernel_rfl) (by kernel_rfl) (fun _ _ _ h => h) (Or.inl ⟨by rfl, ?_⟩) (by assumption) ?_; rotate_left 1; · (intro w hSw; (try dsimp only at hSw); go_simp; all_goals with_reducible rfl))
  try simp only [Act.put, List.setIfInBounds_toArray, List.set_cons_zero, List.set_cons_succ]
  (refine wpAnyH_take (i := 2) (oi := ⟨_, _, _, _, _, _⟩) (v := ?_) rfl (by kernel_rfl) (by kernel_rfl) (by kernel_rfl) (fun _ _ _ h => h) (Or.inl ⟨by rfl, ?_⟩) (by assumption) ?_; rotate_left 1; · (intro w hSw; (try dsimp only at hSw); go_simp; all_goals with_reducible rfl))
  try simp only [Act.put, List.setIfInBounds_toArray, List.set_cons_zero, List.set_cons_succ]
  (refine wpAnyH_take (i := 3) (oi := ⟨_, _, _, _, _, _⟩) (v := ?_) rfl (by kernel_rfl) (by kernel_rfl) (by kernel_rfl) (fun _ _ _ h => h) (Or.inl ⟨by rfl, ?_⟩) (by assumption) ?_; rotate_left 1; · (intro w hSw; (try dsimp only at hSw); go_simp; all_goals with_reducible rfl))
  try simp only [Act.put, List.setIfInBounds_toArray, List.set_cons_zero, List.set_cons_succ]
  (refine wpAnyH_take (i := 4) (oi := ⟨_, _, _, _, _, _⟩) (v := ?_) rfl (by kernel_rfl) (by kernel_rfl) (by kernel_rfl) (fun _ _ _ h => h) (Or.inl ⟨by rfl, ?_⟩) (by assumption) ?_; rotate_left 1; · (intro w hSw; (try dsimp only at hSw); go_simp; all_goals with_reducible rfl))
  try simp only [Act.put, List.setIfInBounds_toArray, List.set_cons_zero, List.set_cons_succ]
  refine wpAnyH_ready (rs := [5]) (by kernel_rfl) (by simp) ?_
  refine AllReadyH.cons (o := ⟨_, _, _, _, _, _⟩) rfl (fun Kq hKq => ?_) AllReadyH.nil
  go_simp
  clear hHeld
  (go_at_call 74; (with_reducible refine (RC.out _ R2.out.drew).mono ?_); rintro e3 w3 ⟨v3, rfl, ho, h1, h2'⟩; have h2 := h2'.drew; clear h2'; obtain ⟨y, rfl⟩ := ownsR_slice ho; have O3 := Lib.hid ho; have T3 := Lib.hid (show WBox w3 w.heap.size 0 0 0 (.slice none 0 0) from h2.kept R2.out T2.out (by decide) (by decide)); have X3 := Lib.hid (h2.one R2.out X2.out); have I3 := Lib.hid (show Box w3 I a i from h2.kept R2.out I2.out (by decide) (by decide)); have R3 := Lib.hid h1; have G3 := Lib.hid (G2.out.trans h2); clear h1 h2 ho)
  refine hKq.out _ _ ?_ (fun hHeld => ?_)
  · (try dsimp only); exact ⟨(box_cells I3.out).1, (box_cells I3.out).2, one_cell X3.out⟩
  clear hKq Kq
  try simp only [Act.put, List.setIfInBounds_toArray, List.set_cons_zero, List.set_cons_succ]
  (refine wpAnyH_take (i := 6) (oi := ⟨_, _, _, _, _, _⟩) (v := ?_) rfl (by kernel_rfl) (by kernel_rfl) (by kernel_rfl) (fun _ _ _ h => h) (Or.inl ⟨by rfl, ?_⟩) (by assumption) ?_; rotate_left 1; · (intro w hSw; (try dsimp only at hSw); go_simp; all_goals with_reducible rfl))
  try simp only [Act.put, List.setIfInBounds_toArray, List.set_cons_zero, List.set_cons_succ]
  obtain ⟨c0, c1, c2, c3⟩ := wbox_cells T3.out
  obtain ⟨f0, f1, f2, f3⟩ := wbox_open T3.out
  have T4 := Lib.hid (wbox_set T3.out a i n (.slice y.1 y.2.1 y.2.2))
  refine wpAnyH_ready (rs := [7]) (by kernel_rfl) (by simp) ?_
  refine AllReadyH.cons (o := ⟨_, _, _, _, _, _⟩) rfl (fun Kq hKq => ?_) AllReadyH.nil
  go_simp
  clear hHeld
  (have HB := Lib.hid (fun k (hk : k ≠ w.heap.size) => show ((((w3.setCell ⟨w.heap.size, 0, none⟩ (.int .i64 a)).setCell ⟨w.heap.size, 1, none⟩ (.int .i64 i)).setCell ⟨w.heap.size, 2, none⟩ (.int .i64 n)).setCell ⟨w.heap.size, 3, none⟩ (.slice y.1 y.2.1 y.2.2)).heap[k]? = w3.heap[k]? from (Below.heap_setCell _ _ _ _ hk).trans <| (Below.heap_setCell _ _ _ _ hk).trans <| (Below.heap_setCell _ _ _ _ hk).trans <| Below.heap_setCell _ _ _ _ hk); have X4 := Lib.hid (show One ((((w3.setCell ⟨w.heap.size, 0, none⟩ (.int .i64 a)).setCell ⟨w.heap.size, 1, none⟩ (.int .i64 i)).setCell ⟨w.heap.size, 2, none⟩ (.int .i64 n)).setCell ⟨w.heap.size, 3, none⟩ (.slice y.1 y.2.1 y.2.2)) X 80 (.pointer (some ⟨p, 0, none⟩)) from (HB.out X (fun e => TNE.out e)).trans X3.out); have I4 := Lib.hid (show Box ((((w3.setCell ⟨w.heap.size, 0, none⟩ (.int .i64 a)).setCell ⟨w.heap.size, 1, none⟩ (.int .i64 i)).setCell ⟨w.heap.size, 2, none⟩ (.int .i64 n)).setCell ⟨w.heap.size, 3, none⟩ (.slice y.1 y.2.1 y.2.2)) I a i from (HB.out I (by omega)).trans I3.out))
  refine hKq.out _ _ ?_ (fun hHeld => ?_)
  · (try dsimp only); exact ⟨(box_cells I4.out).1, (box_cells I4.out).2, one_cell X4.out⟩
  clear hKq Kq
  try simp only [Act.put, List.setIfInBounds_toArray, List.set_cons_zero, List.set_cons_succ]
  refine wpAnyH_done (by kernel_rfl) ?_ _
  clear c0 c1 c2 c3 f0 f1 f2 f3
  obtain ⟨q0, q1, q2, q3⟩ := wbox_cells T4.out
  go_wp2_with fail
  refine bodyPost_ret (v := .agg #[.int .i64 a, .int .i64 i, .int .i64 n, .slice y.1 y.2.1 y.2.2]) (by simp [results, Tryz.results76, go_sem, q0, q1, q2, q3]) rfl ?_
  rw [HV.out, HQ.out]
  have hp := HP.out
  refine ⟨((a, i), n, y), rfl, ⟨rfl, rfl, ?_⟩, ⟨(HB.out p (by omega)).trans R3.out.x, (HB.out g (by omega)).trans R3.out.r⟩, Gr.sets G3.out HB.out (by simp [World.setCell])⟩
  have ho := O3.out.mono (show w.heap.size ≤ w2.drew.heap.size from Z2.out)
  exact World.ownsRow.kept (row := some w.heap.size) ho ⟨rfl, rfl, rfl, by simp [World.setCell], fun k _ hk => HB.out k (fun e => hk (by rw [e]))⟩ (.inr (ownsR_not ho T3.out (by decide)))
end Go.Proofs.YtkeiekljedhllaaGreat
namespace Go.Proofs.YtkeiekljedhllaaGreat
open Go Go.RowKit
/-- append of a list to a slice of the call's own: what was written. -/
theorem wpList_append_kept {α : Type} {P : Program} {enc : α → List Value} {sz : Nat} {ops : Array Oper} {rest : List Oper} {o : Oper} {a : Act} {Q : Exit → Act → World → Prop} (t e : TypeId) {z : Value} {bytes : Nat} (ht : P.underlying t = some (.slice e))
    (hinfo : (P.info? e).map (fun i => (i.zero, i.size, i.bytes)) = some (some z, sz, bytes)) (hz : z.cells.size = sz) (hs : ∀ a, (enc a).length = sz) (h0 : 0 < sz) (h1 : ∀ a, ∀ u ∈ enc a, u.oneCell' = true) (hby : bytes ≤ 1000)
    (hgd : o.guard = none) (s x : Operand) (ho : o.op = .call { callee := .builtin .append, args := #[s, x], argTypes := #[t, t] })
    (wr : World) (base : Nat) (v u : Value) (d l : List α) (hsv : a.eval s = v) (hx : a.eval x = u)
    (hown : OwnsR enc sz e wr base v d) (hI : Rcs enc sz wr u l) (hl : d.length + l.length ≤ 100000) (hb : base ≤ wr.heap.size)
    (h : ∀ v' w', OwnsR enc sz e w' base v' (d ++ l) → Below base wr w' → wr.grownBy w' v.ownBlock → wpList P ops Q rest (a.put o.dst v') w') :
    wpList P ops Q (o :: rest) a wr := by
  obtain ⟨i0, hi, hz0, hz1, hz2⟩ := info_parts hinfo
  obtain ⟨A, c, rfl, hn0, hc, hk⟩ := hI
  cases A with
  | none =>
    obtain rfl := hn0 rfl
    have hn : l = [] := List.eq_nil_of_length_eq_zero (by omega)
    subst hn
    refine wpList_append_own_none hgd s x t ho base e i0 sz ht hi _ d.length (flatR enc d) hsv hown hx (h _ _ (by rw [List.append_nil]; exact hown) (Below.refl _ _) ⟨rfl, rfl, rfl, Nat.le_refl _, fun _ _ _ => rfl⟩)
  | some ad =>
    refine wpList_append_own _ hgd s x t ho base e i0 z sz bytes ht hi hz0 hz1 hz2 hz h0 v d.length (flatR enc d) hsv hown ad l.length c (flatR enc l) hx (flatR_len hs l)
      (fun j u hu => ?_) (fun u hu => ?_) (by unfold maxLen; omega) ?_ hb ?_
    · obtain ⟨k, hlt, i, rfl, hu2⟩ := flatR_split hs h0 hu
      obtain ⟨ad', e, h1, h2⟩ := hk k hlt
      injection e with e
      subst e
      exact h2 i u hu2
    · obtain ⟨x, _, hx⟩ := List.mem_flatMap.1 hu
      exact h1 x u hx
    · have : (d.length + l.length) * bytes ≤ 100000 * 1000 := Nat.mul_le_mul hl hby
      omega
    · intro v' w' h1 h2 _
      refine h v' w' ?_ ((Below.refl base wr).grown h2 hb fun k hk => (World.ownsRow.lt hown k hk).1) h2
      unfold OwnsR
      rw [flatR_append, List.length_append]
      exact h1
/-- Rows that are read: of the call's own, with their lists, and what is left. -/
def GaveW (p g : Nat) (l : List RowSets.Row) (s : RS) (w : World) (e : Ending) (w' : World) : Prop := ∃ v qs, e = .returned v ∧ OwnsR encW 4 37 w' w.heap.size v qs ∧ EachOwn w' w.heap.size qs l ∧ RSt w' p g s ∧ Gr p g w w'
set_option maxHeartbeats 4000000 in
theorem rRows_any (p g X : Nat) (s : RS) (w : World) (h : RSt w p g s) (hX : One w X 80 (.pointer (some ⟨p, 0, none⟩))) : Calls Tryz.prog 75 #[.pointer (some ⟨p, 0, none⟩), .func (.func 76) #[] #[.pointer (some ⟨X, 0, none⟩)]] w (GaveW p g (rList rRow s).1 (rList rRow s).2 w) := by
  have HP := Lib.hid h.lt
  have R0 := Lib.hid h
  have HXL := Lib.hid (show X < w.heap.size from row_lt hX)
  obtain ⟨b1, b2⟩ := rUp_bounds 64 s (by decide)
  have HV : Hid (rList rRow s = rLoop rRow (rUp 64 s).1.toNat (rUp 64 s).2) := Lib.hid rfl
  have HC := Lib.hid (rUp_any p g 64 s w h)
  have X0 := Lib.hid hX
  clear h hX
  generalize rUp 64 s = r0 at *
  obtain ⟨n, s1⟩ := r0
  obtain ⟨N, rfl⟩ := int_nat b1
  dsimp only at b1 b2
  have b3 : N ≤ 64 := by omega
  go_enter Tryz.func75, Tryz.ntmps75
  go_wp2_with fail
  (with_reducible refine HC.out.mono ?_)
  rintro e1 w1 ⟨rfl, h1, h2⟩
  have R1 := Lib.hid h1
  have G1 := Lib.hid h2
  have X1 := Lib.hid (h2.one R0.out X0.out)
  clear h1 h2 HC R0 X0
  dsimp only
  go_wp2_with fail
  go_loopw [5, 8] (fun s5 s8 wr => ∃ (k : Nat) (qs : List Raw), k ≤ N ∧ s8 = .int .i64 k ∧ Hid (qs.length = k) ∧ Hid (OwnsR encW 4 37 wr w.heap.size s5 qs) ∧ Hid (EachOwn wr w.heap.size qs (rLoop rRow k s1).1) ∧ Hid (RSt wr p g (rLoop rRow k s1).2) ∧ Hid (Gr p g w wr) ∧ Hid (One wr X 80 (.pointer (some ⟨p, 0, none⟩)))) (fun _ s8 _ => N - (intOf s8).toNat)
  case atStart => exact ⟨0, [], by omega, rfl, Lib.hid rfl, Lib.hid (OwnsR.nil _ _ _), Lib.hid trivial, R1, G1, X1⟩
  case round =>
    clear R1 G1 X1
    obtain ⟨k, qs, hk, rfl, HL, O1, E1, R1, G1, X1⟩ := hrel
    by_cases hlt : k < N
    · have hd : decide ((k : Int) < (N : Int)) = true := by simp; omega
      have HN : Hid (rLoop rRow (k + 1) s1 = ((rLoop rRow k s1).1 ++ [(rRow (rLoop rRow k s1).2).1], (rRow (rLoop rRow k s1).2).2)) := Lib.hid rfl
      generalize rLoop rRow k s1 = q at *
      obtain ⟨l, sk⟩ := q
      dsimp only at *
      have hlen : qs.length ≤ 64 := by have := HL.out; omega
      have HC := Lib.hid (rRow_any p g X sk wr R1.out X1.out)
      generalize rRow sk = q at *
      obtain ⟨r, sn⟩ := q
      dsimp only at *
      go_wp2_with fail
      (with_reducible refine HC.out.mono ?_)
      rintro e2 w2 ⟨⟨⟨a, i⟩, m, y⟩, rfl, hrow, h1, h2⟩
      dsimp only [slc]
      have O2 := Lib.hid (show OwnsR encW 4 37 (w2.alloc (.cells #[.int .i64 a, .int .i64 i, .int .i64 m, .slice y.1 y.2.1 y.2.2] 37)) w.heap.size u5 qs from World.ownsRow.alloc (h2.owns R1.out O1.out (by decide) (by decide)) _)
      have E2 := Lib.hid (((EachOwn.gr h2 R1.out E1.out).append (show EachOwn w2 w.heap.size [((a, i), m, y)] [r] from ⟨⟨hrow.1, hrow.2.1, hrow.2.2.mono G1.out.size⟩, trivial⟩)).below (below_one w2 (.cells #[.int .i64 a, .int .i64 i, .int .i64 m, .slice y.1 y.2.1 y.2.2] 37)))
      have R2 := Lib.hid (h1.later (below_one w2 (.cells #[.int .i64 a, .int .i64 i, .int .i64 m, .slice y.1 y.2.1 y.2.2] 37)))
      have G2 := Lib.hid (G1.out.trans (h2.below (below_one w2 (.cells #[.int .i64 a, .int .i64 i, .int .i64 m, .slice y.1 y.2.1 y.2.2] 37)) h2.size))
      have X2 := Lib.hid (one_below (h2.one R1.out X1.out) (below_one w2 (.cells #[.int .i64 a, .int .i64 i, .int .i64 m, .slice y.1 y.2.1 y.2.2] 37)))
      have I2 := Lib.hid (rcs_lit encW_len w2 [((a, i), m, y)] #[.int .i64 a, .int .i64 i, .int .i64 m, .slice y.1 y.2.1 y.2.2] 37 rfl)
      have Z2 := Lib.hid (Nat.le_trans G1.out.size h2.size)
      clear h1 h2 hrow O1 R1 G1 HC X1 E1
      go_wp2_with (at_builtin; refine wpList_append_kept 31 37 Tryz.underlying31 infoW rfl encW_len (by omega) encW_one (by omega) rfl (.tmp 10) (.tmp 13) rfl _ w.heap.size _ _ qs [((a, i), m, y)] rfl rfl O2.out I2.out (by simp; omega) (Nat.le_trans Z2.out (by simp)) ?_; intro v3 w3 h1 h2 h3; have O3 := Lib.hid h1; have E3 := Lib.hid (EachOwn.rowed E2.out O2.out h3); have R3 := Lib.hid (R2.out.below h2 HP.out.1 HP.out.2); have G3 := Lib.hid (G2.out.below h2 (Nat.le_refl _)); have X3 := Lib.hid (show One w3 X 80 (.pointer (some ⟨p, 0, none⟩)) from (h2.block X HXL.out).trans X2.out); clear h1 h2 h3 O2 R2 G2 I2 X2 E2)
      go_roundw
      case rel => exact ⟨k + 1, qs ++ [((a, i), m, y)], by omega, by go_num, Lib.hid (by simp [HL.out]), O3, by rw [HN.out]; exact E3, by rw [HN.out]; exact R3, G3, X3⟩
      case measure => simp [intOf]; omega
    · obtain rfl : k = N := by omega
      have hd : decide ((k : Int) < (k : Int)) = false := by simp
      go_wp2_with fail
      go_ret
      refine ⟨_, qs, rfl, O1.out, ?_, ?_, G1.out⟩
      · rw [HV.out]; exact E1.out
      · rw [HV.out]; exact R1.out
end Go.Proofs.YtkeiekljedhllaaGreat
