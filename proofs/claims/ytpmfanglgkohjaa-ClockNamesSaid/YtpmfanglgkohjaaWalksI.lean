/-
  Walks over what Join calls for each ID, over Join, and over Compare. No statement is proved in this text; it holds for every input that its premises let by.
-/
import Derived.Test.YtpmfanglgkohjaaWalksH
namespace Go.Proofs.Ytpmfanglgkohjaa
open Go.RowKit Sets Clocks
/-- append of one tick that has just been put into a row of its own; where the new row lies. -/
theorem wpList_push3 {ops : Array Oper} {rest : List Oper} {o : Oper} {a : Act} {Q : Exit → Act → World → Prop} (hgd : o.guard = none) (s x : Operand)
    (ho : o.op = .call { callee := .builtin .append, args := #[s, x], argTypes := #[24, 24] })
    (wr : World) (base : Nat) (v : Value) (l : List Tick) (p q n : Int) (H : Nat) (hH : wr.heap.size = H) (hs : a.eval s = v) (hx : a.eval x = .slice (some ⟨H, 0, none⟩) 1 1)
    (hown : OwnsR encT 3 35 wr base v l) (hl : l.length ≤ 99999) (hb : base ≤ wr.heap.size)
    (h : ∀ g cap w', OwnsR encT 3 35 w' base (.slice (some ⟨g, 0, none⟩) (l.length + 1) cap) (l ++ [((p, q), n)]) → wr.grownBy w' v.ownBlock → (v.ownBlock = some g ∨ wr.heap.size ≤ g) → wpList Try.prog ops Q rest (a.put o.dst (.slice (some ⟨g, 0, none⟩) (l.length + 1) cap)) w') :
    wpList Try.prog ops Q (o :: rest) a (wr.alloc (.cells #[.int .i64 p, .int .i64 q, .int .i64 n] 35)) := by
  subst hH
  obtain ⟨i0, hi, hz0, hz1, hz2⟩ := info_parts info35
  have hown1 : (wr.alloc (.cells #[.int .i64 p, .int .i64 q, .int .i64 n] 35)).ownsRow base 35 3 v l.length (flatR encT l) := World.ownsRow.alloc hown _
  refine wpList_append_lies _ hgd s x 24 ho base 35 i0 (.agg #[.int .i64 0, .int .i64 0, .int .i64 0]) 3 24 Try.underlying24 hi hz0 hz1 hz2 rfl (by decide) v l.length (flatR encT l) hs hown1 ⟨wr.heap.size, 0, none⟩ 1 1 (encT ((p, q), n)) hx rfl
    (fun j u hu => ?_) (encT_one _) (by decide) (by unfold maxLen; omega) (by omega) (by simp; omega) _ rfl ?_
  · obtain ⟨c1, c2, c3⟩ := tbox_cells (tbox_new wr p q n)
    have hj : j < 3 := (List.getElem?_eq_some_iff.1 hu).1
    rw [add_lit]
    match j, hj with
    | 0, _ => rw [← (Option.some.inj hu)]; exact c1
    | 1, _ => rw [← (Option.some.inj hu)]; exact c2
    | 2, _ => rw [← (Option.some.inj hu)]; exact c3
  · intro g cap w' h1 h2 h3 _
    refine h g cap w' ?_ ⟨h2.os, h2.tape, h2.output, by have := h2.size; simp at this; omega, fun k hk hne => (h2.block k (by simp; omega) hne).trans (Below.heap_alloc wr _ k hk)⟩ ?_
    · unfold OwnsR
      rw [flatR_append, List.length_append]
      have e : flatR encT [((p, q), n)] = encT ((p, q), n) := by simp [flatR]
      rw [e]
      exact h1
    · rcases h3 with e | e
      · exact .inl e
      · exact .inr (by rw [e]; simp)
/-- What Join has put down. -/
def Gather (B X lo hi : Nat) (w : World) (V : List Visit) : Prop :=
  ∃ out, w.heap[X]? = some (.cells #[out] 24 (0, 0)) ∧ OwnsR encT 3 35 w B out (V.map tickOf) ∧ ∀ g, out.ownBlock = some g → g ≠ X ∧ (g < lo ∨ hi ≤ g)
theorem Gather.below {B X lo hi : Nat} {w w' : World} {V : List Visit} (h : Gather B X lo hi w V) (hb : Below w.heap.size w w') : Gather B X lo hi w' V := by
  obtain ⟨out, h1, h2, h3⟩ := h
  exact ⟨out, (hb.block _ (row_lt h1)).trans h1, h2.below hb, h3⟩
theorem kept_var {X lo hi : Nat} {w w' : World} {out : Value} (h : w.heap[X]? = some (.cells #[out] 24 (0, 0))) (hg : w.grownBy w' out.ownBlock) (hl : ∀ g, out.ownBlock = some g → g ≠ X ∧ (g < lo ∨ hi ≤ g)) : w'.heap[X]? = some (.cells #[out] 24 (0, 0)) := by
  rw [hg.block X (row_lt h) (fun e => (hl _ e.symm).1 rfl)]
  exact h
set_option maxHeartbeats 2000000 in
theorem gather_step (B X lo hi : Nat) (W : World) (V : List Visit) (x y p q : Int) (h : Gather B X lo hi W V) (hX : B ≤ X ∧ X < lo) (h1 : lo ≤ hi) (h2 : hi ≤ W.heap.size) (hV : V.length ≤ 90000) :
    Calls Try.prog 22 #[.agg #[.int .i64 x, .int .i64 y], .int .i64 p, .int .i64 q, .pointer (some ⟨X, 0, none⟩)] W fun e w' =>
      e = .returned (.tuple #[]) ∧ Gather B X lo hi w' (V ++ [((x, y), p, q)]) ∧ Below B W w' ∧ Mid lo hi W w' := by
  obtain ⟨out, ho, hown, hlie⟩ := h
  have HL := Lib.hid hlie
  have hb : Below W.heap.size W (W.alloc (.cells #[.int .i64 x, .int .i64 y] 28)) := (Below.refl _ _).alloc (Nat.le_refl _) _
  have HW := Lib.hid (hown.below hb)
  have HX := Lib.hid ((hb.block _ (row_lt ho)).trans ho)
  have HB := Lib.hid hb
  have hmax := max_two p q
  have HE := Lib.hid (show V.map tickOf ++ [((x, y), max p q)] = (V ++ [((x, y), p, q)]).map tickOf by simp [tickOf])
  have hlen : (V.map tickOf).length = V.length := by simp
  obtain ⟨c1, f1⟩ := one_free HX.out
  clear hlie hown ho hb
  generalize max p q = z at *
  go_enter Try.func22, Try.ntmps22
  go_wp2_with (at_builtin; refine wpList_push3 rfl (.tmp 7) (.tmp 13) rfl _ B out (V.map tickOf) x y z (W.heap.size + 1) (by simp) rfl rfl HW.out (by omega) (by simp; omega) ?_; intro g cap w3 k1 k2 k3; have O3 := Lib.hid k1; have G3 := Lib.hid k2; have D3 := Lib.hid k3; have X3 := Lib.hid (kept_var HX.out G3.out HL.out); obtain ⟨c3, f3⟩ := one_free X3.out; clear k1 k2 k3)
  go_end0
  have hg : g ≠ X ∧ (g < lo ∨ hi ≤ g) := by
    rcases D3.out with e | e
    · exact HL.out g e
    · have e2 : W.heap.size + 1 ≤ g := by simpa using e
      exact ⟨by omega, .inr (by omega)⟩
  have hB3 : Below B W w3 := (HB.out.mono (show B ≤ W.heap.size by omega)).grown G3.out (by simp; omega) fun k hk => (World.ownsRow.lt HW.out k hk).1
  have hM3 : Mid lo hi W w3 := by
    refine ⟨by have := G3.out.size; simp at this; omega, fun k k1 k2 => ?_⟩
    rw [G3.out.block k (by simp; omega) (fun e => by have := (HL.out k e.symm).2; omega)]
    exact HB.out.block k (by omega)
  refine ⟨rfl, ⟨_, one_set X3.out _, ?_, fun g' e => ?_⟩, hB3.setCell (p := ⟨X, 0, none⟩) hX.1 _, hM3.set (by omega) _⟩
  · rw [← HE.out]
    rw [hlen] at *
    exact World.ownsRow.kept O3.out (row := some X) ⟨rfl, rfl, rfl, by simp [World.setCell], fun k _ hne => Below.heap_setCell _ _ _ _ (fun e => hne (by rw [e]))⟩ (.inr (fun e => by injection e with e; exact hg.1 e))
  · injection e with e
    have e' : g = g' := e
    rw [← e']
    exact hg
theorem gather_visits (B X lo : Nat) (hX : B ≤ X ∧ X < lo) : Visits 22 #[.pointer (some ⟨X, 0, none⟩)] B lo (Gather B X lo) where
  enters := enters_of Try.func22 (by kernel_rfl) rfl
  kept _ _ _ _ h hb := h.below hb
  step hi W V x y p q h1 h2 h hV := gather_step B X lo hi W V x y p q h hX h1 h2 hV
/-- A list is answered, in new memory or not; what was there stands. -/
def Lists (l : List Tick) (w : World) (e : Ending) (w' : World) : Prop := ∃ v', e = .returned v' ∧ Rcs encT 3 w' v' l ∧ Below w.heap.size w w'
/-- make of a list, empty, with room for n; what is answered, spelled out. -/
theorem wpList_make_spelled {P : Program} {α : Type} {enc : α → List Value} {sz : Nat} {ops : Array Oper} {rest : List Oper} {o : Oper} {a : Act} {Q : Exit → Act → World → Prop} (t e : TypeId) {z : Value} {bytes : Nat} (ht : P.underlying t = some (.slice e))
    (hinfo : (P.info? e).map (fun i => (i.zero, i.size, i.bytes)) = some (some z, sz, bytes)) (hby : bytes ≤ 1000)
    (w : World) (hgd : o.guard = none) (x : Operand) (hop : o.op = .makeSlice t (.const (.int .i64 0)) x) (C : Int) (hx : a.eval x = .int .i64 C) (h0 : 0 ≤ C) (hn : C ≤ 100000)
    (h : ∀ g cap w', OwnsR enc sz e w' w.heap.size (.slice (some ⟨g, 0, none⟩) 0 cap) [] → Below w.heap.size w w' → wpList P ops Q rest (a.put o.dst (.slice (some ⟨g, 0, none⟩) 0 cap)) w') : wpList P ops Q (o :: rest) a w := by
  obtain ⟨i0, hi, hz0, hz1, hz2⟩ := info_parts hinfo
  obtain ⟨n, rfl⟩ := Int.eq_ofNat_of_zero_le h0
  have hnb : n * bytes ≤ 100000 * 1000 := Nat.mul_le_mul (by omega) hby
  exact wpList_make_own w hgd _ x t hop w.heap.size e i0 z sz ht hi hz0 hz1 .i64 .i64 n n rfl hx rfl (by rw [hz2]; have := Nat.mul_comm n bytes; omega) (by unfold maxLen; omega) (Nat.le_refl _)
    fun w' h1 h2 => h _ _ w' h1 ((Below.refl w.heap.size w).grown h2 (Nat.le_refl _) (fun k hk => by cases hk))
set_option maxHeartbeats 2000000 in
theorem join_any (v u : Value) (l m : List Tick) (w : World) (h : Rcs encT 3 w v l) (h2 : Rcs encT 3 w u m) (hl : l.length ≤ 40000) (hm : m.length ≤ 40000) :
    Calls Try.prog 15 #[v, u] w (Lists (joinC l m) w) := by
  have HI := Lib.hid h
  have HJ := Lib.hid h2
  have HE := Lib.hid (both_join l m)
  obtain ⟨A, c, rfl, hz⟩ := h
  obtain ⟨A2, c2, rfl, hz2⟩ := h2
  clear hz hz2
  go_enter Try.func15, Try.ntmps15
  go_wp2_with (at_make; refine wpList_make_spelled (enc := encT) 24 35 Try.underlying24 info35 (by omega) _ rfl (.tmp 10) rfl _ rfl (by omega) (by omega) ?_; intro g cap w1 h1 h2; have O1 := Lib.hid h1; have B1 := Lib.hid h2; clear h1 h2)
  have B2 := Lib.hid (B1.out.alloc B1.out.size (.cells #[.slice (some ⟨g, 0, none⟩) 0 cap] 24))
  have hsz : (w1.alloc (.cells #[.slice (some ⟨g, 0, none⟩) 0 cap] 24)).heap.size = w1.heap.size + 1 := by simp
  have hX : w.heap.size ≤ w1.heap.size ∧ w1.heap.size < (w1.alloc (.cells #[.slice (some ⟨g, 0, none⟩) 0 cap] 24)).heap.size := ⟨B1.out.size, by omega⟩
  have HV := Lib.hid (gather_visits w.heap.size w1.heap.size (w1.alloc (.cells #[.slice (some ⟨g, 0, none⟩) 0 cap] 24)).heap.size hX)
  have hv1 : ∀ k, (Value.slice (some ⟨g, 0, none⟩) 0 cap).ownBlock = some k → k < w1.heap.size := fun k e => (World.ownsRow.lt O1.out k e).2
  have HS := Lib.hid (show ∀ hi W, (w1.alloc (.cells #[.slice (some ⟨g, 0, none⟩) 0 cap] 24)).heap.size ≤ hi → Below (w1.alloc (.cells #[.slice (some ⟨g, 0, none⟩) 0 cap] 24)).heap.size (w1.alloc (.cells #[.slice (some ⟨g, 0, none⟩) 0 cap] 24)) W → Gather w.heap.size w1.heap.size (w1.alloc (.cells #[.slice (some ⟨g, 0, none⟩) 0 cap] 24)).heap.size hi W [] from fun hi W _ hb =>
    ⟨.slice (some ⟨g, 0, none⟩) 0 cap, (hb.block _ (by omega)).trans (heap_alloc_new w1 _), (O1.out.below ((Below.refl _ _).alloc (Nat.le_refl _) _)).below hb, fun k e => by have := hv1 k e; omega⟩)
  have HC := Lib.hid (each_any 22 #[.pointer (some ⟨w1.heap.size, 0, none⟩)] w.heap.size (Gather w.heap.size w1.heap.size (w1.alloc (.cells #[.slice (some ⟨g, 0, none⟩) 0 cap] 24)).heap.size) (.slice A l.length c) (.slice A2 m.length c2) l m (w1.alloc (.cells #[.slice (some ⟨g, 0, none⟩) 0 cap] 24)) HV.out B2.out.size HS.out (HI.out.below B2.out) (HJ.out.below B2.out) hl hm)
  clear hsz hX hv1
  go_wp2_with fail
  (with_reducible refine HC.out.mono ?_)
  rintro e w3 ⟨rfl, ⟨hi, out, h1, h2, _⟩, hb⟩
  have X3 := Lib.hid h1
  have O3 := Lib.hid h2
  have B3 := Lib.hid (B2.out.trans hb)
  clear h1 h2 hb
  obtain ⟨c3, f3⟩ := one_free X3.out
  go_wp2_with fail
  go_ret
  exact ⟨out, rfl, by rw [← HE.out]; exact rcs_owns encT_len O3.out, B3.out⟩
set_option maxHeartbeats 2000000 in
theorem compare_clocks (v u : Value) (l m : List Tick) (w : World) (h : Rcs encT 3 w v l) (h2 : Rcs encT 3 w u m) (hl : l.length ≤ 40000) (hm : m.length ≤ 40000) :
    Calls Try.prog 9 #[v, u] w fun e w' => e = .returned (.int .u8 (cmp l m : Nat)) ∧ Below w.heap.size w w' := by
  have hb : Below w.heap.size w ((w.alloc (.cells #[.bool false] 4)).alloc (.cells #[.bool false] 4)) := below_two w _ _
  have hsz : ((w.alloc (.cells #[.bool false] 4)).alloc (.cells #[.bool false] 4)).heap.size = w.heap.size + 2 := by simp
  have hv := note_visits w.heap.size
  rw [← hsz] at hv
  have HS : ∀ (hi : Nat) W, ((w.alloc (.cells #[.bool false] 4)).alloc (.cells #[.bool false] 4)).heap.size ≤ hi → Below ((w.alloc (.cells #[.bool false] 4)).alloc (.cells #[.bool false] 4)).heap.size ((w.alloc (.cells #[.bool false] 4)).alloc (.cells #[.bool false] 4)) W → Notes w.heap.size W [] := fun hi W _ hb =>
    Notes.below ⟨(Below.heap_alloc _ _ _ (by simp)).trans (heap_alloc_new w _), by have := heap_alloc_new (w.alloc (.cells #[.bool false] 4)) (.cells #[.bool false] 4); simpa using this⟩ hb
  have HC := Lib.hid (each_any 19 #[.pointer (some ⟨w.heap.size, 0, none⟩), .pointer (some ⟨w.heap.size + 1, 0, none⟩)] w.heap.size (fun _ w' V => Notes w.heap.size w' V) v u l m _ hv (by omega) HS (h.below hb) (h2.below hb) hl hm)
  have HB := Lib.hid hb
  clear h h2 hb hv HS hsz
  go_enter Try.func9, Try.ntmps9
  go_wp2_with fail
  (with_reducible refine HC.out.mono ?_)
  rintro e w3 ⟨rfl, ⟨hi, h1, h2⟩, hb⟩
  rw [both_less] at h1
  rw [both_more] at h2
  have B3 := Lib.hid (HB.out.trans hb)
  have HM : Hid (cmp l m = cmpB (more l m) (more m l)) := Lib.hid rfl
  generalize more l m = b1 at *
  generalize more m l = b2 at *
  obtain ⟨c1, f1⟩ := one_free h1
  obtain ⟨c2, f2⟩ := one_free h2
  clear h1 h2 hb
  cases b1 <;> cases b2
  all_goals
    go_wp2_with fail
    go_ret
    exact ⟨by rw [HM.out]; rfl, B3.out⟩
end Go.Proofs.Ytpmfanglgkohjaa
