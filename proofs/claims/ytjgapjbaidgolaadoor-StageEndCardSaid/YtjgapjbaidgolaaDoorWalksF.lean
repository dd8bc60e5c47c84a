/-
  Walks over package stage, continued: paths are followed from a status on. No statement is proved in this text; it holds for every input that its premises let by.
-/
import Derived.Test.YtjgapjbaidgolaaDoorWalksE
import Derived.Laws.EntriesVeiled
namespace Go.Proofs.YtjgapjbaidgolaaDoor
open Go.RowKit
/-- The function that follows. -/
def clo (B : Nat) : Value := .func (.func 20) #[] #[.pointer (some ⟨B, 0, none⟩), .pointer (some ⟨B + 1, 0, none⟩), .pointer (some ⟨B + 2, 0, none⟩)]
/-- From this status on paths are followed as they should be. -/
def Foll (t a : Nat) : Prop := ∀ (B g cap n : Nat) (p : List Nat) (bad : Nat → Prop) (w : World) (v : Value) (vs : List Value) (L : List (List Nat)),
  St B t (clo B) g cap p bad w v vs L → n = p.length → p.length ≤ a + 10 → vs.length + (ways a t).length ≤ 1000 →
  Calls Tryd.prog 20 #[.int .u8 a, .slice (some ⟨g, 0, none⟩) n cap, .pointer (some ⟨B, 0, none⟩), .pointer (some ⟨B + 1, 0, none⟩), .pointer (some ⟨B + 2, 0, none⟩)] w (Followed B t (clo B) g cap p bad w v (L ++ (ways a t).map fun l => p ++ l))
/-- The ways by the first k of those that an edge leads to. -/
def part (t a k : Nat) (p : List Nat) : List (List Nat) := ((nxt a).take k).flatMap fun b => (ways b t).map fun l => (p ++ [b]) ++ l
theorem part_succ {t a k : Nat} {p : List Nat} (hk : k < (nxt a).length) : part t a (k + 1) p = part t a k p ++ (ways (nxt a)[k] t).map fun l => (p ++ [(nxt a)[k]]) ++ l := by
  unfold part
  rw [List.take_succ_eq_append_getElem hk, List.flatMap_append]
  simp
theorem part_all {t a : Nat} {p : List Nat} (hn : a ≠ t) {k : Nat} (hk : (nxt a).length ≤ k) : part t a k p = (ways a t).map fun l => p ++ l := by
  unfold part
  rw [List.take_of_length_le hk, ways_ne hn, List.map_flatMap]
  refine flatMap_congr' _ fun b _ => ?_
  rw [List.map_map]
  refine List.map_congr_left fun l _ => ?_
  simp
theorem part_le {t a : Nat} {p : List Nat} (hn : a ≠ t) (k : Nat) : (part t a k p).length ≤ (ways a t).length := by
  have h1 : ((ways a t).map fun l => p ++ l).length = (ways a t).length := by simp
  rw [← h1, ← part_all (p := p) hn (Nat.le_refl _)]
  unfold part
  conv => rhs; rw [List.take_of_length_le (Nat.le_refl _), ← List.take_append_drop k (nxt a), List.flatMap_append]
  rw [List.length_append]
  omega
theorem nxt_len (a : Nat) : (nxt a).length ≤ 7 := by
  have h1 := List.length_filter_le (fun b => edg a b != 0) stats
  have h3 : stats.length = 7 := rfl
  unfold nxt
  omega
set_option maxHeartbeats 4000000 in
theorem follow_node (t a B g cap n : Nat) (p : List Nat) (bad : Nat → Prop) (w : World) (v : Value) (vs : List Value) (L : List (List Nat))
    (h : St B t (clo B) g cap p bad w v vs L) (hn : n = p.length) (hp : p.length ≤ a + 10) (hl : vs.length + (ways a t).length ≤ 1000) (ha : a < 256) (hne : a ≠ t) (ih : ∀ b, a < b → b < 8 → Foll t b) :
    Calls Tryd.prog 20 #[.int .u8 a, .slice (some ⟨g, 0, none⟩) n cap, .pointer (some ⟨B, 0, none⟩), .pointer (some ⟨B + 1, 0, none⟩), .pointer (some ⟨B + 2, 0, none⟩)] w (Followed B t (clo B) g cap p bad w v (L ++ (ways a t).map fun l => p ++ l)) := by
  have H := Lib.hid h
  have HN := Lib.hid hn
  have HI := Lib.hid ih
  have HA := Lib.hid hne
  have HL := Lib.hid hl
  have c1 : w.cell? ⟨B, 0, none⟩ = some (.int .u8 t) := by simp [World.cell?, h.tgt]
  have hd : ((a : Int) == (t : Int)) = false := by simp; omega
  clear h hn ih hne hl
  go_enter Tryd.func20, Tryd.ntmps20
  go_wp2_with (go_at_call 11; refine (next_any a _ ha H.out.tabs).mono ?_; rintro e w1 ⟨A, c, rfl, h1, h2⟩; have U1 := Lib.hid h1; have B1 := Lib.hid h2; clear h1 h2; clear c1)
  go_loopw [20] (fun s20 wr => ∃ (k : Nat) (v' : Value) (vs' : List Value), k ≤ (nxt a).length ∧ s20 = .int .i64 k ∧ St B t (clo B) g cap p bad wr v' vs' (L ++ part t a k p) ∧ Turn B g v.ownBlock w wr ∧ Lies w v v' ∧ Owns wr w.heap.size (.slice A (nxt a).length c) (nxt a)) (fun s20 _ => (nxt a).length - (intOf s20).toNat)
  case atStart => exact ⟨0, v, vs, Nat.zero_le _, rfl, by have := H.out.below B1.out; simpa [part] using this, Turn.of_below B1.out, .inl rfl, U1.out⟩
  case round =>
    obtain ⟨k, v', vs', hk, rfl, hs, ht, hv, hu⟩ := hrel
    have HS := Lib.hid hs
    have HT := Lib.hid ht
    have HV := Lib.hid hv
    have HU := Lib.hid hu
    have i3 : (0 : Int) ≤ (k : Int) := by omega
    by_cases hlt : k < (nxt a).length
    · have i5 := nxt_len a
      have hlt2 : decide ((k : Int) < ((nxt a).length : Int)) = true := by simp; omega
      have i4 : (k : Int) < ((nxt a).length : Int) := by omega
      obtain ⟨gu, rfl⟩ : ∃ gu, A = some ⟨gu, 0, none⟩ := by
        rcases owns_split hu with ⟨_, e⟩ | ⟨gu, _, e, _⟩
        · omega
        · injection e with e _ _
          exact ⟨gu, e⟩
      have cu := owns_cell hu (g := gu) rfl hlt
      have HP := Lib.hid (part_succ (t := t) (p := p) hlt)
      have HQ := Lib.hid (part_le (p := p) HA.out (k + 1))
      obtain ⟨hb1, hb2, _⟩ := nxt_up (List.getElem_mem hlt)
      generalize (nxt a)[k] = b at *
      have HC := Lib.hid fun w' (hb : Below wr.heap.size wr w') => show w'.cell? ⟨B + 2, 0, none⟩ = some (.func (.func 20) #[] #[.pointer (some ⟨B, 0, none⟩), .pointer (some ⟨B + 1, 0, none⟩), .pointer (some ⟨B + 2, 0, none⟩)]) by
        have := HS.out.sizes
        rw [hb.cell (p := ⟨B + 2, 0, none⟩) (by simp; omega)]
        simp [World.cell?, HS.out.fn, clo]
      have c0 := HC.out _ (Below.refl _ _)
      have c2 := HC.out _ ((Below.refl _ wr).alloc (Nat.le_refl _) (.cells #[.int .u8 b] 5))
      clear hs ht hv hu hk
      go_wp2_with fail
      go_region_law ((first | (go_simp; go_at_call 20; refine (HI.out b (by omega) hb2 B g' cap' (n + 1) (p ++ [b]) bad' _ v' vs' _ S1.out (by rw [HN.out]; simp) (by simp; omega) (by have := HS.out.each.len; have h1 := HQ.out; rw [HP.out] at h1; simp at this h1 ⊢; have := HL.out; have := H.out.each.len; omega)).mono ?_; rintro e w3 ⟨rfl, v3, vs3, h1, h2, h3⟩; have S3 := Lib.hid (R1.out _ _ _ _ h1 h2 h3); clear h1 h2 h3) | (refine step_push_path (by rfl) (.tmp 26) (.tmp 28) (by rfl) _ (B + 3) g n cap wr.heap.size p b HN.out (by rfl) (by rfl) ((HS.out.below (((Below.refl _ wr).alloc (Nat.le_refl _) _).drew)).path) (heap_alloc_new wr _) (by omega) (by have := HS.out.sizes; simp; omega) ?_; intro g' cap' w2 h1 h2; obtain ⟨bad', h3, h4⟩ := HS.out.child (((Below.refl _ wr).alloc (Nat.le_refl _) (.cells #[.int .u8 b] 5)).drew) h1 h2; have S1 := Lib.hid h3; have R1 := Lib.hid h4; have c5 := (one_free h3.fn).1; unfold clo at c5; clear h1 h2 h3 h4)))
      all_goals
        have U3 := Lib.hid (S3.out.2.1.owns HS.out.row HU.out (by have := H.out.sizes; omega) (by have := H.out.sizes; omega))
        have T3 := Lib.hid (HT.out.trans S3.out.2.1 HV.out)
        have V3 := Lib.hid (HV.out.trans S3.out.2.2 HT.out.size)
        go_wp2_with fail
        go_roundw
        case rel => exact ⟨k + 1, v3, vs3, by omega, by go_num, by rw [HP.out, ← List.append_assoc]; exact S3.out.1, T3.out, V3.out, U3.out⟩
        case measure => simp [intOf]; omega
    · have hlt2 : decide ((k : Int) < ((nxt a).length : Int)) = false := by simp; omega
      have HE := Lib.hid (part_all (p := p) HA.out (k := k) (by omega))
      clear hs ht hv hu hk
      go_wp2_with fail
      go_end0
      exact ⟨rfl, v', vs', by rw [← HE.out]; exact HS.out, HT.out, HV.out⟩
theorem follow_any (t : Nat) : ∀ n a, 256 - a ≤ n → a < 256 → Foll t a := by
  intro n
  induction n with
  | zero => intro a h1 h2; omega
  | succ n ihn =>
    intro a _ ha B g cap m p bad w v vs L h hm hp hl
    by_cases e : a = t
    · subst e
      rw [ways_eq]
      simp only [List.map_cons, List.map_nil, List.append_nil]
      rw [ways_eq] at hl
      simp at hl
      exact follow_leaf B a (clo B) g cap m p bad w v vs L a h hm (by omega) (by omega) (by simp)
    · exact follow_node t a B g cap m p bad w v vs L h hm hp hl ha e fun b h1 h2 => ihn b (by omega) (by omega)
/-- What a call leaves that answers paths in new memory. -/
def GivesAll (L : List (List Nat)) (w : World) (e : Ending) (w' : World) : Prop := ∃ A c vs, e = .returned (.slice A L.length c) ∧ vs.length = L.length ∧ Holds w' w.heap.size (.slice A L.length c) vs ∧ Each w' w.heap.size (fun _ => False) vs L ∧ Below w.heap.size w w'
/-- What stands when the first path, without any status, is followed. -/
theorem St.start (t : Nat) (w : World) (ht : Tabs w) : St w.heap.size t (clo w.heap.size) (w.heap.size + 3) 0 [] (fun k => k = w.heap.size + 3) ((((w.alloc (.cells #[.int .u8 (t : Int)] 5)).alloc (.cells #[.slice none 0 0] 31)).alloc (.cells #[clo w.heap.size] 39)).alloc (.cells #[] 5)) (.slice none 0 0) [] [] := by
  have h0 := World.block_lt_of_cell? w _ ((ht.1 0 (by omega)).trans name0)
  have h1 := World.block_lt_of_cell? w _ (tab_edge ht (a := 0) (b := 0) (by omega) (by omega))
  have e : ∀ (x : World) (o : Obj) (k : Nat), (x.alloc o).heap[k]? = if k = x.heap.size then some o else x.heap[k]? := fun x o k => Array.getElem?_push
  have z : ∀ (x : World) (o : Obj), (x.alloc o).heap.size = x.heap.size + 1 := fun x o => by simp
  refine ⟨?_, ?_, ?_, ?_, World.ownsRow_nil _ _ _ _, trivial, rfl, fun k hk => ?_, tabs_below ht ((((Below.refl _ _).alloc (Nat.le_refl _) _).alloc (by simp) _).alloc (by simp; omega) _ |>.alloc (by simp; omega) _), by simp at h1; omega⟩
  · rw [e, if_neg (by simp only [z]; omega), e, if_neg (by simp only [z]; omega), e, if_neg (by simp only [z]; omega), e, if_pos rfl]
  · rw [e, if_neg (by simp only [z]; omega), e, if_neg (by simp only [z]; omega), e, if_pos (by simp only [z])]
  · rw [e, if_neg (by simp only [z]; omega), e, if_pos (by simp only [z])]
  · refine ⟨rfl, .inr ⟨w.heap.size + 3, 0, #[], rfl, Nat.le_refl _, ?_, Nat.le_refl _, by decide, rfl, rfl⟩⟩
    rw [e, if_pos (by simp only [z])]
  · subst hk
    simp only [z]
    omega
set_option maxHeartbeats 4000000 in
theorem ways_any (a t : Nat) (w : World) (ha : a < 256) (ht : Tabs w) : Calls Tryd.prog 14 #[.int .u8 a, .int .u8 t] w (GivesAll (ways a t) w) := by
  have HS := Lib.hid (St.start t w ht)
  have HF := Lib.hid (follow_any t 256 a (by omega) ha)
  have HZ := Lib.hid (ways_few a t)
  clear ht
  go_enter Tryd.func14, Tryd.ntmps14
  go_wp2_with fail
  refine (HF.out w.heap.size (w.heap.size + 3) 0 0 [] _ _ (.slice none 0 0) [] [] HS.out rfl (by simp) (by have := HZ.out; simp; omega)).mono ?_
  rintro e w1 ⟨rfl, v, vs, h1, h2, _⟩
  have c1 := (one_free h1.out).1
  have H1 := Lib.hid h1
  have H2 := Lib.hid h2
  clear h1 h2
  go_wp2_with fail
  go_ret
  have hb : Below w.heap.size w w1 := by
    refine ((((Below.refl _ w).alloc (Nat.le_refl _) _).alloc (by simp) _).alloc (by simp; omega) _ |>.alloc (by simp; omega) _).trans ⟨H2.out.os, H2.out.tape, H2.out.output, H2.out.size, fun k hk => H2.out.block k (by simp; omega) (by omega) (by omega) (fun e => by cases e)⟩
  have he := H1.out.each
  simp only [List.nil_append, List.map_id'] at he
  have hl := he.len
  have hr : Holds w1 w.heap.size v vs := row_mono H1.out.row (by omega)
  rcases owns_split hr with ⟨rfl, hn⟩ | ⟨g, cap, rfl, _⟩
  · have hn2 : (ways a t).length = 0 := by rw [← hl]; exact hn
    exact ⟨none, 0, vs, by rw [hn2]; rfl, hl, by rw [hn2]; exact hr, he.turn fun v l ho _ => ⟨ho.mono (by omega), fun _ _ h => h.elim⟩, hb⟩
  · exact ⟨_, cap, vs, by rw [← hl]; rfl, hl, by rw [← hl]; exact hr, he.turn fun v l ho _ => ⟨ho.mono (by omega), fun _ _ h => h.elim⟩, hb⟩
end Go.Proofs.YtjgapjbaidgolaaDoor
