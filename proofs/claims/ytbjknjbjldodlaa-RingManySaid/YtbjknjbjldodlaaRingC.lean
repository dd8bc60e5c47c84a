/-
  A walk over the program's way to find who is behind somebody. No statement is proved in this text; it holds for every input that its premises let by.
-/
import Derived.Test.YtbjknjbjldodlaaRingB
namespace Go.Proofs.Ytbjknjbjldodlaa
open Go Go.RowKit Sets
attribute [local go_sem] Oper.semAt_some
def lastR (l : List Id2) : Id2 := l.getLastD (0, 0)
theorem lastR_snoc (l : List Id2) (x : Id2) : lastR (l ++ [x]) = x := by simp [lastR]
/-- What stands of what has come: the last one, and whether there is one. -/
def BehI (g n0 : Nat) (w0 w A : World) (l : List Id2) : Prop := Below g w0 A ∧ Span (g + 3) n0 w A ∧ Box A (g + 1) (lastR l).1 (lastR l).2 ∧ One A (g + 2) 4 (.bool !l.isEmpty)
theorem BehI.grown {g n0 : Nat} {w0 w A B : World} {l : List Id2} {row : Option Nat} (h : BehI g n0 w0 w A l) (hg : A.grownBy B row) (h0 : g ≤ w0.heap.size) (hn : n0 ≤ w.heap.size) (hn2 : g + 3 ≤ n0) (hr : ∀ k, row = some k → n0 ≤ k) : BehI g n0 w0 w B l :=
  ⟨h.1.grown hg (Nat.le_trans h0 h.1.size) (fun k e => by have := hr k e; omega), h.2.1.grown hg hn (fun k e => .inr (hr k e)), h.2.2.1.grown hg (fun e => by have := hr _ e; omega), h.2.2.2.grown hg (fun e => by have := hr _ e; omega)⟩
set_option maxHeartbeats 4000000 in
theorem behind_any (v : Value) (l : List Id2) (a i : Int) (w : World) (h : Ids w v l) (hl : l.length ≤ 40000) :
    Calls Try.prog 9 #[v, .agg #[.int .i64 a, .int .i64 i]] w fun e w' => e = .returned (.tuple #[.agg #[.int .i64 (lastR (rg l (a, i))).1, .int .i64 (lastR (rg l (a, i))).2], .bool !(rg l (a, i)).isEmpty]) ∧ Below w.heap.size w w' := by
  have HI := Lib.hid h
  obtain ⟨A, c, rfl, hz⟩ := h
  clear hz
  refine (callsIn_wide (n := 0)).1 ?_
  refine callsIn_of_wp_marks Try.func9 rfl trivial ?_
  simp only [Try.ntmps9, List.size_toArray, List.length_cons, List.length_nil, Nat.reduceAdd, Nat.reduceSub, Array.replicate_succ, Array.replicate_zero, List.push_toArray, List.append_toArray, List.nil_append, List.cons_append]
  obtain ⟨x1, x2⟩ := box_cells (show Box (((w.alloc (.cells #[.int .i64 a, .int .i64 i] 23)).alloc (.cells #[.int .i64 0, .int .i64 0] 23)).alloc (.cells #[.bool false] 4)) w.heap.size a i from (Below.heap_alloc _ _ _ (by simp; omega)).trans ((Below.heap_alloc _ _ _ (by simp)).trans (box_new w a i)))
  have Y1 := Lib.hid (show Box (((w.alloc (.cells #[.int .i64 a, .int .i64 i] 23)).alloc (.cells #[.int .i64 0, .int .i64 0] 23)).alloc (.cells #[.bool false] 4)) (w.heap.size + 1) 0 0 from (Below.heap_alloc _ _ _ (by simp)).trans (two_boxes w a i 0 0).2)
  have Y2 := Lib.hid (show One (((w.alloc (.cells #[.int .i64 a, .int .i64 i] 23)).alloc (.cells #[.int .i64 0, .int .i64 0] 23)).alloc (.cells #[.bool false] 4)) (w.heap.size + 2) 4 (.bool false) from by have := one_new ((w.alloc (.cells #[.int .i64 a, .int .i64 i] 23)).alloc (.cells #[.int .i64 0, .int .i64 0] 23)) 4 (.bool false); simpa using this)
  have B1 := Lib.hid (((below_two w (.cells #[.int .i64 a, .int .i64 i] 23) (.cells #[.int .i64 0, .int .i64 0] 23))).alloc (by simp; omega) (.cells #[.bool false] 4))
  gi_wp2
  refine ⟨trivial, rfl, callsIn_wide.2 ((around_any A l.length c a i _).mono ?_)⟩
  rintro e w3 ⟨rfl, h1, h2, h3⟩
  have T1 := Lib.hid h1
  have T2 := Lib.hid h2
  have Y1 := Lib.hid (box_below Y1.out h3)
  have Y2 := Lib.hid (one_below Y2.out h3)
  have I3 := Lib.hid ((HI.out.below B1.out).below h3)
  have B3 := Lib.hid (below_after B1.out h3 (Nat.le_refl _))
  have hs3 : w.heap.size + 3 ≤ w3.heap.size := Nat.le_trans (by simp) h3.size
  have hg : ((((w.alloc (.cells #[.int .i64 a, .int .i64 i] 23)).alloc (.cells #[.int .i64 0, .int .i64 0] 23)).alloc (.cells #[.bool false] 4)).heap.size) = w.heap.size + 3 := by simp
  rw [hg] at T1 T2
  simp only [hg]
  clear h1 h2 h3 x1 x2 B1 hg
  have hs4 := one_lt T1.out
  have hs5 := box_lt T2.out
  have TR := Lib.hid fun (pre : List Id2) (W : World) (hb : BehI w.heap.size w3.heap.size w w3 W pre) => (show RdI (w.heap.size + 3) (w.heap.size + 4) (.slice A l.length c) l a i W from ⟨(hb.2.1.2 _ (by omega) hs4).trans T1.out, (hb.2.1.2 _ (by omega) (by omega)).trans T2.out, HI.out.below hb.1⟩)
  gi_wp2
  refine wp_stop (P := Try.prog) (gf := 30) (lb := #[.pointer (some ⟨w.heap.size + 3, 0, none⟩), .pointer (some ⟨w.heap.size + 4, 0, none⟩)]) rfl (enters_fn Try.func30 (by kernel_rfl) rfl) (ring_seq (w.heap.size + 3) (w.heap.size + 4) _ l a i hl) (fun _ => rfl)
    (fun pre W => BehI w.heap.size w3.heap.size w w3 W pre) (fun _ _ _ => False) ?start ?keep (fun _ _ _ _ h => h.elim) (fun pre W hb => TR.out pre W hb) (fun _ _ _ h => h.elim) ?round ?done (fun _ _ _ _ _ h => h.elim)
  case start =>
    intro W hW hb
    exact ⟨B3.out.trans (hb.mono (by omega)), span_below (Span.refl _ _ _) hb (Nat.le_refl _), box_below Y1.out hb, one_below Y2.out hb⟩
  case keep =>
    rintro pre A B h hg
    exact h.grown hg (Nat.le_refl _) (Nat.le_refl _) hs3 (fun k e => by injection e with e; omega)
  case done =>
    rintro W ⟨h1, _, h2, h3⟩ hD
    obtain ⟨c1, c2⟩ := box_cells h2
    obtain ⟨f1, f2⟩ := box_free h2
    have c3 := one_cell h3
    have f3 := one_free h3
    have HBW := Lib.hid h1
    have Z1 := Lib.hid h2
    have Z2 := Lib.hid h3
    have ZD := Lib.hid hD
    clear h1 h2 h3 hD
    generalize hp : (lastR (rg l (a, i))).1 = p at *
    generalize hq : (lastR (rg l (a, i))).2 = q at *
    generalize hbb : (!(rg l (a, i)).isEmpty) = b at *
    have HP := Lib.hid hp
    have HQ := Lib.hid hq
    have HBB := Lib.hid hbb
    clear hp hq hbb
    gi_wp2
    refine wpIn_wide.2 ?_
    go_region
    have g1 : W.grownBy ((W.setCell ⟨w.heap.size + 1, 0, none⟩ (.int .i64 p)).setCell ⟨w.heap.size + 1, 1, none⟩ (.int .i64 q)) (some (w.heap.size + 1)) := (grown_set W _ _ _).trans (grown_set _ _ _ _)
    have g2 := grown_set ((W.setCell ⟨w.heap.size + 1, 0, none⟩ (.int .i64 p)).setCell ⟨w.heap.size + 1, 1, none⟩ (.int .i64 q)) (w.heap.size + 1 + 1) 0 (.bool b)
    have b1 := (box_set Z1.out p q).grown g2 (fun e => by injection e with e; omega)
    have o1 := one_set (Z2.out.grown g1 (fun e => by injection e with e; omega)) (.bool b)
    have hB9 := (HBW.out.grown g1 HBW.out.size (fun k e => by injection e with e; omega)).grown g2 (Nat.le_trans HBW.out.size g1.size) (fun k e => by injection e with e; omega)
    have hD9 : (((W.setCell ⟨w.heap.size + 1, 0, none⟩ (.int .i64 p)).setCell ⟨w.heap.size + 1, 1, none⟩ (.int .i64 q)).setCell ⟨w.heap.size + 1 + 1, 0, none⟩ (.bool b)).drew.heap[w3.heap.size]? = some (.deferred (some [])) := by
      show (((W.setCell ⟨w.heap.size + 1, 0, none⟩ (.int .i64 p)).setCell ⟨w.heap.size + 1, 1, none⟩ (.int .i64 q)).setCell ⟨w.heap.size + 1 + 1, 0, none⟩ (.bool b)).heap[w3.heap.size]? = _
      rw [Below.heap_setCell _ _ _ _ (show w3.heap.size ≠ w.heap.size + 1 + 1 by omega), Below.heap_setCell _ _ _ _ (show w3.heap.size ≠ w.heap.size + 1 by omega), Below.heap_setCell _ _ _ _ (show w3.heap.size ≠ w.heap.size + 1 by omega)]
      exact ZD.out
    have hB9 := hB9.drew
    have b1 := show Box (((W.setCell ⟨w.heap.size + 1, 0, none⟩ (.int .i64 p)).setCell ⟨w.heap.size + 1, 1, none⟩ (.int .i64 q)).setCell ⟨w.heap.size + 1 + 1, 0, none⟩ (.bool b)).drew (w.heap.size + 1) p q from b1
    have o1 := show One (((W.setCell ⟨w.heap.size + 1, 0, none⟩ (.int .i64 p)).setCell ⟨w.heap.size + 1, 1, none⟩ (.int .i64 q)).setCell ⟨w.heap.size + 1 + 1, 0, none⟩ (.bool b)).drew (w.heap.size + 1 + 1) 4 (.bool b) from o1
    clear c1 c2 c3 f1 f2 f3 g1 g2
    generalize (((W.setCell ⟨w.heap.size + 1, 0, none⟩ (.int .i64 p)).setCell ⟨w.heap.size + 1, 1, none⟩ (.int .i64 q)).setCell ⟨w.heap.size + 1 + 1, 0, none⟩ (.bool b)).drew = W9 at *
    have hgd := grownBy_putObj' W9 w3.heap.size (.deferred none)
    have b2 := b1.grown hgd (fun e => by injection e with e; omega)
    have o2 := o1.grown hgd (fun e => by injection e with e; omega)
    obtain ⟨q1, q2⟩ := box_cells b2
    have q3 := one_cell o2
    gi_wp2
    refine ⟨by simp, .inl ⟨_, _, rfl, run_takeDeferred hD9, ?_⟩⟩
    refine ⟨.tuple #[.agg #[.int .i64 p, .int .i64 q], .bool b], (by simp [results, Try.results9, go_sem, q1, q2, q3]), by rw [HP.out, HQ.out, HBB.out], ?_⟩
    exact hB9.grown hgd hB9.size fun k hk => by injection hk with hk; omega
  case round =>
    rintro pre x suf A hx hI hA ⟨r, hlr⟩
    have e : ∀ t : Array Value, ((#[10] : Array Tmp).zip (encI x)).foldl (fun t (p, v) => t.setIfInBounds p v) t = t.setIfInBounds 10 (.agg #[.int .i64 x.1, .int .i64 x.2]) := fun t => by simp [encI]
    rw [e]
    simp only [List.setIfInBounds_toArray, List.set_cons_zero, List.set_cons_succ]
    clear e
    gi_wp2
    have N1 := Lib.hid (below_one A (.cells #[.int .i64 x.1, .int .i64 x.2] 23))
    have N2 := Lib.hid (box_new A x.1 x.2)
    refine ⟨N1.out.block _ (by omega), N1.out.block _ (by omega), fun C hC => ?_⟩
    have gA : A.grownBy (A.alloc (.cells #[.int .i64 x.1, .int .i64 x.2] 23)) none := World.grownBy_alloc _ _ _
    have hI2 := (hI.grown gA (Nat.le_refl _) (Nat.le_refl _) hs3 (fun g e => by cases e)).grown hC (Nat.le_refl _) (Nat.le_refl _) hs3 (fun g e => by injection e with e; omega)
    have hxb := Box.grown N2.out hC (fun e => by injection e with e; omega)
    have hsC : w3.heap.size + 2 ≤ C.heap.size := Nat.le_trans hA (Nat.le_trans gA.size hC.size)
    obtain ⟨x1, x2⟩ := box_cells hxb
    obtain ⟨h1, h2, h3, h4⟩ := hI2
    obtain ⟨c1, c2⟩ := box_cells h3
    obtain ⟨f1, f2⟩ := box_free h3
    have c3 := one_cell h4
    have f3 := one_free h4
    have HH := Lib.hid (And.intro h1 (And.intro h2 (And.intro h3 h4)))
    clear h1 h2 h3 h4 hI gA hC N1 N2 hlr hxb
    generalize (lastR pre).1 = p at *
    generalize (lastR pre).2 = q at *
    gi_wp2
    have g1 : C.grownBy ((C.setCell ⟨w.heap.size + 1, 0, none⟩ (.int .i64 x.1)).setCell ⟨w.heap.size + 1, 1, none⟩ (.int .i64 x.2)) (some (w.heap.size + 1)) := (grown_set C _ _ _).trans (grown_set _ _ _ _)
    have g2 := grown_set ((C.setCell ⟨w.heap.size + 1, 0, none⟩ (.int .i64 x.1)).setCell ⟨w.heap.size + 1, 1, none⟩ (.int .i64 x.2)) (w.heap.size + 1 + 1) 0 (.bool true)
    obtain ⟨k1, k2, k3, k4⟩ := HH.out
    have b1 := box_set k3 x.1 x.2
    have o1 := k4.grown g1 (fun e => by injection e with e; omega)
    have same : ∀ j, w.heap.size + 3 ≤ j → (((C.setCell ⟨w.heap.size + 1, 0, none⟩ (.int .i64 x.1)).setCell ⟨w.heap.size + 1, 1, none⟩ (.int .i64 x.2)).setCell ⟨w.heap.size + 1 + 1, 0, none⟩ (.bool true)).heap[j]? = C.heap[j]? := fun j hj => by
      rw [Below.heap_setCell _ _ _ _ (show j ≠ w.heap.size + 1 + 1 by omega), Below.heap_setCell _ _ _ _ (show j ≠ w.heap.size + 1 by omega), Below.heap_setCell _ _ _ _ (show j ≠ w.heap.size + 1 by omega)]
    refine ⟨same _ hs3, same _ (by omega), ?_, ?_, ?_, ?_⟩
    · exact (k1.grown g1 k1.size (fun k e => by injection e with e; omega)).grown g2 (Nat.le_trans k1.size g1.size) (fun k e => by injection e with e; omega)
    · exact (k2.grown g1 (Nat.le_refl _) (fun k e => by injection e with e; left; omega)).grown g2 (Nat.le_refl _) (fun k e => by injection e with e; left; omega)
    · rw [lastR_snoc]
      exact b1.grown g2 (fun e => by injection e with e; omega)
    · have := one_set o1 (.bool true)
      rw [show (!(pre ++ [x]).isEmpty) = true by simp]
      exact this
end Go.Proofs.Ytbjknjbjldodlaa
