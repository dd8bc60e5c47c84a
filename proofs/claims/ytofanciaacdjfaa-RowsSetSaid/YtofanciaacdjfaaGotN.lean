/-
  What Set and Get say of rows that may be, and what of them is in the joined rows. No statement is proved in this text.
-/
import Derived.Test.YtofanciaacdjfaaRowFacts
import Derived.Test.YtofanciaacdjfaaSetR
import Derived.Test.YtofanciaacdjfaaGets
namespace Go.Proofs.Ytofanciaacdjfaa
open Go Go.RowKit Sets RowSets
/-- What Get answers: the version, whether there is a row, and its list. -/
def GotN (P : Int) (I : Bool) (N : List Id2) (w : World) (e : Ending) (w' : World) : Prop := ∃ a b B m c, e = .returned (.tuple #[.agg #[.int .i64 a, .int .i64 b, .int .i64 P, .slice B m c], .bool I]) ∧ OwnsI w' w.heap.size (.slice B m c) N ∧ Below w.heap.size w w'
set_option maxHeartbeats 1000000 in
theorem get_own (v : Value) (l : List Row) (x y : Int) (w : World) (h : RowsAt w v l) (hl : l.length ≤ 1000) (hn : ∀ r ∈ l, r.2.2.length ≤ 100000) :
    Calls Try.prog 14 #[v, .agg #[.int .i64 x, .int .i64 y]] w fun e w' => ∃ B m c, e = .returned (.tuple #[.agg #[.int .i64 (ofI (get l (x, y)) (x, y)).1, .int .i64 (ofI (get l (x, y)) (x, y)).2, .int .i64 (vers (get l (x, y))), .slice B m c], .bool (get l (x, y)).isSome]) ∧ OwnsI w' w.heap.size (.slice B m c) (nots (get l (x, y))) ∧ Below w.heap.size w w' := by
  obtain ⟨qs, h1, h2⟩ := h
  have hlen := h2.len.symm
  have B0 := Lib.hid (below_two w (.cells #[.int .i64 x, .int .i64 y] 23) (.cells #[.int .i64 0, .int .i64 0, .int .i64 0, .slice none 0 0] 26))
  have HI := Lib.hid (h1.below B0.out)
  have HE := Lib.hid (h2.below B0.out)
  have HN := Lib.hid hn
  have X0 := Lib.hid (show Box ((w.alloc (.cells #[.int .i64 x, .int .i64 y] 23)).alloc (.cells #[.int .i64 0, .int .i64 0, .int .i64 0, .slice none 0 0] 26)) w.heap.size x y from (Below.heap_alloc _ _ _ (by simp)).trans (box_new w x y))
  have Y0 := Lib.hid (show WBox ((w.alloc (.cells #[.int .i64 x, .int .i64 y] 23)).alloc (.cells #[.int .i64 0, .int .i64 0, .int .i64 0, .slice none 0 0] 26)) (w.heap.size + 1) 0 0 0 (.slice none 0 0) from by have := wbox_new (w.alloc (.cells #[.int .i64 x, .int .i64 y] 23)) 0 0 0 (.slice none 0 0); simpa using this)
  obtain ⟨A, c, rfl, hz⟩ := h1
  clear hz h2 hn
  obtain ⟨x1, x2⟩ := box_cells X0.out
  go_enter Try.func14, Try.ntmps14
  go_wp2_with fail
  refine (find_any _ qs x y _ HI.out (by omega)).mono ?_
  rintro e w1 ⟨⟨r, rfl, hr⟩, hb⟩
  have B1 := Lib.hid (below_after B0.out hb (Nat.le_refl _))
  have Y1 := Lib.hid (wbox_below Y0.out hb)
  have I1 := Lib.hid (HI.out.below hb)
  have E1 := Lib.hid (HE.out.below hb)
  have hr := found_get HE.out hr
  clear hb x1 x2
  obtain ⟨y1, y2, y3, y4⟩ := wbox_cells Y1.out
  obtain ⟨f1, f2, f3, f4⟩ := wbox_free Y1.out
  rcases hr with ⟨rfl, hg⟩ | ⟨k, hk, hk2, rfl, hg, he, hbef⟩
  · have HG1 := Lib.hid (show (ofI (get l (x, y)) (x, y)) = (0, 0) by rw [hg]; rfl)
    have HG2 := Lib.hid (show vers (get l (x, y)) = 0 by rw [hg]; rfl)
    have HG3 := Lib.hid (show nots (get l (x, y)) = [] by rw [hg]; rfl)
    have HG4 := Lib.hid (show (get l (x, y)).isSome = false by rw [hg]; rfl)
    have Y2 := Lib.hid (wbox_set Y1.out 0 0 0 (.slice none 0 0))
    have B2 := Lib.hid (below_set4 (g := w.heap.size + 1) B1.out (by omega) (.int .i64 0) (.int .i64 0) (.int .i64 0) (.slice none 0 0))
    clear hg
    go_wp2_with fail
    obtain ⟨q0, q1, q2, q3⟩ := wbox_cells Y2.out
    refine bodyPost_ret (v := .tuple #[.agg #[.int .i64 0, .int .i64 0, .int .i64 0, .slice none 0 0], .bool false]) (by simp [results, Try.results14, go_sem, q0, q1, q2, q3]) rfl ?_
    rw [HG1.out, HG2.out, HG3.out, HG4.out]
    exact ⟨none, 0, 0, rfl, OwnsR.nil 23 _ _, B2.out⟩
  · have HG1 := Lib.hid (show (ofI (get l (x, y)) (x, y)) = (x, y) by rw [hg]; rfl)
    have HG2 := Lib.hid (show vers (get l (x, y)) = l[k].2.1 by rw [hg]; rfl)
    have HG3 := Lib.hid (show nots (get l (x, y)) = l[k].2.2 by rw [hg]; rfl)
    have HG4 := Lib.hid (show (get l (x, y)).isSome = true by rw [hg]; rfl)
    obtain ⟨ad, rfl, c1, c2, c3, c4⟩ := I1.out.raw (Below.refl _ _) hk
    have HR := E1.out.at_ k hk hk2
    have HJ := Lib.hid (show Ids w1 (.slice qs[k].2.2.1 qs[k].2.2.2.1 qs[k].2.2.2.2) l[k].2.2 from HR.2.2)
    have HL := Lib.hid (HN.out l[k] (List.getElem_mem hk2))
    have r1 : qs[k].1.1 = x := by rw [HR.1, he]
    have r2 : qs[k].1.2 = y := by rw [HR.1, he]
    have r3 : qs[k].2.1 = l[k].2.1 := HR.2.1
    rw [r1] at c1
    rw [r2] at c2
    rw [r3] at c3
    have i3 : (0 : Int) ≤ (k : Int) := by omega
    have i4 : (k : Int) < (qs.length : Int) := by omega
    clear hg he hbef r1 r2 r3 HR
    have hdk : decide ((k : Int) < 0) = false := by simp
    generalize l[k].2.1 = n at *
    generalize qs[k].2.2.1 = B at *
    generalize qs[k].2.2.2.1 = m at *
    generalize qs[k].2.2.2.2 = d at *
    clear y1 y2 y3 y4 f1 f2 f3 f4
    go_wp2_with fail
    refine (copied_any x y n B m d l[k].2.2 _ HJ.out HL.out).mono ?_
    rintro e w2 ⟨C, m', c', rfl, ho, hb⟩
    have B2 := Lib.hid (below_after B1.out hb (Nat.le_refl _))
    have Y2 := Lib.hid (wbox_below Y1.out hb)
    have O2 := Lib.hid ho
    have S2 := Lib.hid (show w.heap.size + 1 < w1.heap.size from wbox_lt Y1.out)
    clear ho hb c1 c2 c3 c4
    obtain ⟨y1, y2, y3, y4⟩ := wbox_cells Y2.out
    obtain ⟨f1, f2, f3, f4⟩ := wbox_free Y2.out
    have Y3 := Lib.hid (wbox_set Y2.out x y n (.slice C m' c'))
    have B3 := Lib.hid (below_set4 (g := w.heap.size + 1) B2.out (by omega) (.int .i64 x) (.int .i64 y) (.int .i64 n) (.slice C m' c'))
    have O3 := Lib.hid (O2.out.grown (grown_set4 (World.grownBy.refl _ (some (w.heap.size + 1))) (.int .i64 x) (.int .i64 y) (.int .i64 n) (.slice C m' c')) (ownsR_ne O2.out S2.out))
    go_wp2_with fail
    obtain ⟨q0, q1, q2, q3⟩ := wbox_cells Y3.out
    refine bodyPost_ret (v := .tuple #[.agg #[.int .i64 x, .int .i64 y, .int .i64 n, .slice C m' c'], .bool true]) (by simp [results, Try.results14, go_sem, q0, q1, q2, q3]) rfl ?_
    rw [HG1.out, HG2.out, HG3.out, HG4.out]
    exact ⟨C, m', c', rfl, O3.out.mono (by have := S2.out; omega), B3.out⟩
theorem gotN_any (v : Value) (l : List Row) (x y : Int) (w : World) (h : RowsAt w v l) (hl : l.length ≤ 1000) (hn : ∀ r ∈ l, r.2.2.length ≤ 100000) :
    Calls Try.prog 14 #[v, .agg #[.int .i64 x, .int .i64 y]] w (GotN (vers (get l (x, y))) (get l (x, y)).isSome (nots (get l (x, y))) w) := by
  refine (get_own v l x y w h hl hn).mono ?_
  rintro e w' ⟨B, m, c, rfl, hi, hb⟩
  exact ⟨_, _, B, m, c, rfl, hi, hb⟩
theorem changeG_len (x : Id2) (s : Says) (l : List Row) : (changeG x s l).length = l.length := by
  induction l with
  | nil => rfl
  | cons u l ih =>
    rw [changeG]
    split
    · rfl
    · rw [List.length_cons, ih, List.length_cons]
theorem setR_len {l : List Row} (of : Id2) (not : List Id2) (h : Up l) : (setR l of not).length ≤ l.length + 1 := by
  rw [← setG_up of not h]
  unfold setG
  split
  · split
    · omega
    · rw [insertG_len]; omega
  · split
    · omega
    · rw [changeG_len]; omega
theorem setR_nots {l : List Row} (of : Id2) (not : List Id2) (h : Norm l) {r : Row} (hr : r ∈ setR l of not) : r ∈ l ∨ r.2.2 = del not of := by
  have h1 := get_of_mem (norm_setR of not h).1 hr
  rw [get_setR of not h.1] at h1
  split at h1
  · exact .inl (get_mem h1)
  · split at h1
    · rw [← Option.some.inj h1]
      exact .inr rfl
    · exact .inl (get_mem h1)
theorem lens_setR {l : List Row} (of : Id2) (not : List Id2) (h : Norm l) {n m : Nat} (hl : Lens n m l) (hn : not.length ≤ m) : Lens (n + 1) m (setR l of not) :=
  ⟨Nat.le_trans (setR_len of not h.1) (by have := hl.1; omega), fun r hr => by
    rcases setR_nots of not h hr with h1 | h1
    · exact hl.2 r h1
    · rw [h1]; exact Nat.le_trans (del_len not of) hn⟩
/-- What Set answers, of rows that rise. -/
theorem setE_cases {l : List Row} (of : Id2) (not : List Id2) (h : Up l) : setE l of not = (l, 4) ∨ setE l of not = (l, 40) ∨ setE l of not = (setR l of not, 0) := by
  rw [← setG_up of not h]
  rcases hv : (vid of.1 of.2 && allV not) with _ | _
  · exact .inl (setE_bad hv)
  · rcases hg : get l of with _ | s
    · exact .inr (.inr (setE_none hv hg))
    · by_cases e : setOf s.2 = del not of
      · refine .inr (.inr ?_)
        rw [setE_same hv hg e]
        unfold setG
        rw [hg]
        show _ = ((if setOf s.2 = del not of then l else _), (0 : Int))
        rw [if_pos e]
      · by_cases hv2 : 1099511627776 ≤ s.1
        · exact .inr (.inl (setE_large hv hg e hv2))
        · refine .inr (.inr ?_)
          rw [setE_more hv hg e hv2]
          unfold setG
          rw [hg]
          show _ = ((if setOf s.2 = del not of then l else _), (0 : Int))
          rw [if_neg e]
/-- The ways in which what was set is in the joined rows. -/
theorem newest_ways (S b : List Row) (x : Id2) :
    ((get S x).isSome = false ∧ (get b x).isSome = (get (joinR S b) x).isSome) ∨
    ((get S x).isSome = true ∧ (get b x).isSome = false ∧ (get (joinR S b) x).isSome = true ∧ vers (get (joinR S b) x) = vers (get S x) ∧ nots (get (joinR S b) x) = nots (get S x)) ∨
    ((get S x).isSome = true ∧ (get b x).isSome = true ∧ (get (joinR S b) x).isSome = true ∧ vers (get S x) < vers (get b x) ∧ vers (get (joinR S b) x) = vers (get b x)) ∨
    ((get S x).isSome = true ∧ (get b x).isSome = true ∧ (get (joinR S b) x).isSome = true ∧ vers (get b x) < vers (get S x) ∧ vers (get (joinR S b) x) = vers (get S x) ∧ nots (get (joinR S b) x) = nots (get S x)) ∨
    ((get S x).isSome = true ∧ (get b x).isSome = true ∧ (get (joinR S b) x).isSome = true ∧ vers (get b x) = vers (get S x) ∧ vers (get (joinR S b) x) = vers (get S x) ∧ ∀ z ∈ nots (get S x), z ∈ nots (get (joinR S b) x)) := by
  rw [get_joinR]
  rcases h0 : get S x with _ | s
  · exact .inl ⟨rfl, rfl⟩
  · rcases h1 : get b x with _ | t
    · exact .inr (.inl ⟨rfl, rfl, rfl, rfl, rfl⟩)
    · simp only [two]
      by_cases e1 : t.1 < s.1
      · rw [if_pos e1]
        exact .inr (.inr (.inr (.inl ⟨rfl, rfl, rfl, e1, rfl, rfl⟩)))
      · by_cases e2 : s.1 < t.1
        · rw [if_neg e1, if_pos e2]
          exact .inr (.inr (.inl ⟨rfl, rfl, rfl, e2, rfl⟩))
        · rw [if_neg e1, if_neg e2]
          refine .inr (.inr (.inr (.inr ⟨rfl, rfl, rfl, ?_, rfl, ?_⟩)))
          · show t.1 = s.1
            omega
          · intro z hz
            show z ∈ join s.2 t.2
            exact (mem_join _ _ _).2 (.inl hz)
theorem nots_len {l : List Row} {n m : Nat} (h : Lens n m l) (x : Id2) : (nots (get l x)).length ≤ m := by
  rcases hg : get l x with _ | s
  · simp [nots]
  · exact h.2 _ (get_mem hg)
end Go.Proofs.Ytofanciaacdjfaa
