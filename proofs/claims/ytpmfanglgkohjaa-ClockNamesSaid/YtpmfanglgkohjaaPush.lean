/-
  append of one tick to a list of the call's own: what was there reads as it did. No statement is proved in this text.
-/
import Derived.Test.YtpmfanglgkohjaaStands
import Derived.ArgAppend
namespace Go.Proofs.Ytpmfanglgkohjaa
open Go.RowKit Sets Clocks
theorem rcs_front {w : World} {ad : Addr} {n c c' : Nat} {l m : List Tick} (h : Rcs encT 3 w (.slice (some ad) n c) (l ++ m)) (hc : l.length ≤ c') : Rcs encT 3 w (.slice (some ad) l.length c') l := by
  obtain ⟨A, c2, hv, _, _, hk⟩ := h
  injection hv with e1 e2 e3
  subst e1
  refine ⟨some ad, c', rfl, (fun h => by cases h), hc, fun k hlt => ?_⟩
  obtain ⟨ad', e, h1, h2⟩ := hk k (by rw [List.length_append]; omega)
  refine ⟨ad', e, h1, fun j u hu => h2 j u ?_⟩
  rw [List.getElem_append_left hlt]
  exact hu
theorem run_push_kept (w : World) (base g cap gx : Nat) (l : List Tick) (p q n : Int) (ty : TypeId) (hown : OwnsR encT 3 35 w base (.slice (some ⟨g, 0, none⟩) l.length cap) l) (hx : TBox w gx p q n) (hl : l.length ≤ 100000) (hb : base ≤ w.heap.size) :
    ∃ g' cap' w', (Builtin.append_ #[24, 24] ty #[.slice (some ⟨g, 0, none⟩) l.length cap, .slice (some ⟨gx, 0, none⟩) 1 1]).run Try.prog w = .ok (.slice (some ⟨g', 0, none⟩) (l.length + 1) cap') w' ∧
      Rcs encT 3 w' (.slice (some ⟨g', 0, none⟩) (l.length + 1) cap') (l ++ [((p, q), n)]) ∧ Rcs encT 3 w' (.slice (some ⟨g, 0, none⟩) l.length cap) l ∧ Below base w w' := by
  obtain ⟨i0, hi, hz0, hz1, hz2⟩ := info_parts info35
  have hnews : ∀ j u, (encT ((p, q), n))[j]? = some u → w.cell? ((⟨gx, 0, none⟩ : Addr).add j) = some u := World.news_of_block (cs := #[.int .i64 p, .int .i64 q, .int .i64 n]) hx
  have hlen1 : (l ++ [((p, q), n)]).length = l.length + 1 := by simp
  have hfl : flatR encT (l ++ [((p, q), n)]) = flatR encT l ++ encT ((p, q), n) := by rw [flatR_append]; simp [flatR]
  have hlow := (World.ownsRow.lt hown g rfl).1
  rcases id hown.2 with ⟨h1, _⟩ | ⟨g0, cap0, cur, h1, h2, h3, h4, h5, h6, h7⟩
  · cases h1
  · obtain ⟨rfl, rfl⟩ : g = g0 ∧ cap = cap0 := by injection h1 with e1 e2 e3; injection e1 with e1; injection e1 with e1; exact ⟨e1, e3⟩
    by_cases hroom : l.length + 1 ≤ cap
    · have r1 := run_append_room (P := Try.prog) w 24 ty 35 i0 Try.underlying24 hi g l.length cap cur h3 ⟨gx, 0, none⟩ 1 1 (encT ((p, q), n)) (by rw [hz1]; rfl) hnews (encT_one _) hroom (by rw [hz1, h6, encT_len]; omega)
      obtain ⟨g', cap', w', r2, o2, w2, _, _⟩ := run_append_lies (P := Try.prog) w 24 ty base 35 i0 (.agg #[.int .i64 0, .int .i64 0, .int .i64 0]) 3 24 Try.underlying24 hi hz0 hz1 hz2 rfl (by decide) _ l.length (flatR encT l) hown ⟨gx, 0, none⟩ 1 1 (encT ((p, q), n)) rfl hnews (encT_one _) (by decide) (by unfold maxLen; omega) (by omega) hb _ rfl
      have e := r1.symm.trans r2
      injection e with e1 e2
      injection e1 with e3 e4 e5
      injection e3 with e3
      injection e3 with e3
      subst e3 e5
      have ho : OwnsR encT 3 35 w' base (.slice (some ⟨g, 0, none⟩) (l.length + 1) cap) (l ++ [((p, q), n)]) := by
        unfold OwnsR
        rw [hlen1, hfl]
        exact o2
      have hr := rcs_owns encT_len ho
      exact ⟨g, cap, w', r2, hr, rcs_front hr (by omega), (Below.refl base w).grown w2 hb fun k hk => (World.ownsRow.lt hown k hk).1⟩
    · obtain ⟨v', w', r1, o1, w1⟩ := run_append_arg_grows (P := Try.prog) w 24 ty 35 i0 (.agg #[.int .i64 0, .int .i64 0, .int .i64 0]) 3 24 Try.underlying24 hi hz0 hz1 hz2 rfl (by decide) ⟨g, 0, none⟩ l.length cap (flatR encT l) (flatR_len encT_len l) (fun j u hu => World.ownsRow.cells hown (g := g) rfl j u hu) ⟨gx, 0, none⟩ 1 1 (encT ((p, q), n)) rfl hnews (by omega) (by unfold maxLen; omega) (by omega)
      obtain ⟨g', cap', rfl, hg1, hg2⟩ := o1.form (by omega)
      have ho : OwnsR encT 3 35 w' w.heap.size (.slice (some ⟨g', 0, none⟩) (l.length + 1) cap') (l ++ [((p, q), n)]) := by
        unfold OwnsR
        rw [hlen1, hfl]
        exact o1
      have hbl : Below w.heap.size w w' := (Below.refl _ w).grown w1 (Nat.le_refl _) (fun k hk => by cases hk)
      exact ⟨g', cap', w', r1, rcs_owns encT_len ho, (rcs_owns encT_len hown).below hbl, hbl.mono hb⟩
/-- The same, at a step of a list of operations. -/
theorem wpList_push_kept {ops : Array Oper} {rest : List Oper} {o : Oper} {a : Act} {Q : Exit → Act → World → Prop} (hgd : o.guard = none) (s x : Operand)
    (ho : o.op = .call { callee := .builtin .append, args := #[s, x], argTypes := #[24, 24] })
    (w : World) (base g cap N : Nat) (l : List Tick) (p q n : Int) (hN : l.length = N) (hs : a.eval s = .slice (some ⟨g, 0, none⟩) N cap) (hx : a.eval x = .slice (some ⟨w.heap.size, 0, none⟩) 1 1)
    (hown : OwnsR encT 3 35 w base (.slice (some ⟨g, 0, none⟩) N cap) l) (hl : l.length ≤ 100000) (hb : base ≤ w.heap.size)
    (h : ∀ g' cap' w', Rcs encT 3 w' (.slice (some ⟨g', 0, none⟩) (N + 1) cap') (l ++ [((p, q), n)]) → Rcs encT 3 w' (.slice (some ⟨g, 0, none⟩) N cap) l → Below base w w' → wpList Try.prog ops Q rest (a.put o.dst (.slice (some ⟨g', 0, none⟩) (N + 1) cap')) w') :
    wpList Try.prog ops Q (o :: rest) a (w.alloc (.cells #[.int .i64 p, .int .i64 q, .int .i64 n] 35)) := by
  subst hN
  refine wpList_plain hgd fun K hK => ?_
  have hbw : Below base w (w.alloc (.cells #[.int .i64 p, .int .i64 q, .int .i64 n] 35)) := (Below.refl _ _).alloc hb _
  obtain ⟨g', cap', w', hr, h1, h2, h3⟩ := run_push_kept (w.alloc (.cells #[.int .i64 p, .int .i64 q, .int .i64 n] 35)) base g cap w.heap.size l p q n o.type (hown.below ((Below.refl _ _).alloc (Nat.le_refl _) _)) (tbox_new w p q n) hl (Nat.le_trans hb (by simp))
  unfold Oper.wp execOp
  simp only [ho, resolve, invoke, builtin, Sem.run_bind, Sem.run_pure, Result.andThen_ok, List.map_toArray, List.map_cons, List.map_nil, hs, hx, hr]
  exact hK _ _ (h g' cap' w' h1 h2 (hbw.trans h3))
end Go.Proofs.Ytpmfanglgkohjaa
