/-
  Walks over the IDs of rows, and over the row of an ID. No statement is proved in this text; it holds for every input that its premises let by.
-/
import Derived.Test.YtofanciaacdjfaaWhole
namespace Go.Proofs.Ytofanciaacdjfaa
open Go Go.RowKit Sets RowSets
set_option maxHeartbeats 2000000 in
theorem owners_any (v : Value) (qs : List Raw) (w : World) (h : Rcs encW 4 w v qs) (hl : qs.length ≤ 1000) :
    Calls Try.prog 54 #[v] w (Lists (qs.map (·.1)) w) := by
  have HI := Lib.hid h
  obtain ⟨A, c, rfl, hz⟩ := h
  clear hz
  go_enter Try.func54, Try.ntmps54
  go_wp2_with (at_make; refine wpList_make_all (enc := encI) 24 23 (0, 0) Try.underlying24 infoI encI_len (by omega) rfl (by omega) w rfl (.tmp 7) rfl qs.length rfl (by omega) ?_; intro w1 k1 k2 k3; have R1 := Lib.hid k1; have S1 := Lib.hid k2; have B1 := Lib.hid k3; clear k1 k2 k3)
  have hsz0 : (Array.replicate qs.length ((0, 0) : Id2)).size = qs.length := by simp
  obtain ⟨g, hg⟩ : ∃ g, w.heap.size = g := ⟨_, rfl⟩
  have HG := Lib.hid hg
  rw [hg] at R1 S1
  simp only [hg]
  clear hg
  go_loopw [11] (fun s11 wr => ∃ k : Nat, ∃ dk : Array Id2, k ≤ qs.length ∧ s11 = .int .i64 k ∧ dk.size = qs.length ∧ Hid (RowAtR encI 2 wr g dk) ∧ Hid (dk.toList.take k = (qs.take k).map (·.1)) ∧ Hid (Below w.heap.size w wr)) (fun s11 _ => qs.length - (intOf s11).toNat)
  case atStart => exact ⟨0, _, by omega, rfl, hsz0, R1, Lib.hid rfl, B1⟩
  case round =>
    obtain ⟨k, dk, hkl, rfl, hds, HR, HT, HW⟩ := hrel
    have i3 : (0 : Int) ≤ (k : Int) := by omega
    by_cases hlt : k < qs.length
    · have hd : decide ((k : Int) < (qs.length : Int)) = true := by simp; omega
      have i4 : (k : Int) < (qs.length : Int) := by omega
      obtain ⟨ad, rfl, c1, c2, c3, c4⟩ := HI.out.raw HW.out hlt
      have HX := Lib.hid (wbox_new wr qs[k].1.1 qs[k].1.2 qs[k].2.1 (.slice qs[k].2.2.1 qs[k].2.2.2.1 qs[k].2.2.2.2))
      have HB := Lib.hid (below_one wr (.cells #[.int .i64 qs[k].1.1, .int .i64 qs[k].1.2, .int .i64 qs[k].2.1, .slice qs[k].2.2.1 qs[k].2.2.2.1 qs[k].2.2.2.2] 26))
      have R2 := Lib.hid (rowAtR_kept HR.out HB.out)
      have W2 := Lib.hid (HW.out.trans (HB.out.mono HW.out.size))
      have HS := Lib.hid (take_set_snoc (show k < dk.size by omega) ((qs[k].1.1, qs[k].1.2) : Id2))
      have HT2 := Lib.hid (show (qs.take (k + 1)).map (·.1) = (qs.take k).map (·.1) ++ [(qs[k].1.1, qs[k].1.2)] by rw [take_snoc hlt, List.map_append]; rfl)
      generalize qs[k].1.1 = a at *
      generalize qs[k].1.2 = i at *
      generalize qs[k].2.1 = n at *
      generalize qs[k].2.2.1 = B at *
      generalize qs[k].2.2.2.1 = m at *
      generalize qs[k].2.2.2.2 = d at *
      obtain ⟨x1, x2, x3, x4⟩ := wbox_cells HX.out
      obtain ⟨⟨y1, y2⟩, f1, f2⟩ := R2.out.id (k := k) (by omega)
      have R3 := Lib.hid (rowI_set R2.out (show k < dk.size by omega) a i)
      have W3 := Lib.hid (below_setI (g := g) W2.out (by rw [HG.out]; exact Nat.le_refl g) k (.int .i64 a) (.int .i64 i))
      have HF := Lib.hid (show (dk.setIfInBounds k (a, i)).toList.take (k + 1) = (qs.take (k + 1)).map (·.1) by rw [HS.out, HT2.out, HT.out])
      go_wp2_with fail
      go_roundw
      case rel => exact ⟨k + 1, _, by omega, by go_num, by simpa using hds, R3, HF, W3⟩
      case measure => simp [intOf]; omega
    · obtain rfl : k = qs.length := by omega
      have hd : decide ((qs.length : Int) < (qs.length : Int)) = false := by simp
      have HF := Lib.hid (show dk.toList = qs.map (·.1) by
        have := HT.out
        rwa [List.take_of_length_le (by simp; omega), List.take_of_length_le (Nat.le_refl _)] at this)
      have HQ := Lib.hid (rowAtR_rcs HR.out (show dk.size ≤ qs.length by omega))
      rw [hds] at HQ
      go_wp2_with fail
      go_ret
      exact ⟨_, rfl, by rw [← HF.out]; exact ids_rcs HQ.out, HW.out⟩
/-- The IDs of rows in memory. -/
theorem EachReads.owners {w : World} : ∀ {qs : List Raw} {l : List Row}, EachReads w qs l → qs.map (·.1) = ids l
  | [], [], _ => rfl
  | q :: qs, r :: l, h => by
    rw [List.map_cons, h.2.owners, h.1.1]
    rfl
  | [], _ :: _, h => h.elim
  | _ :: _, [], h => h.elim
theorem get_first {x : Id2} : ∀ {l : List Row} {k : Nat} (h : k < l.length), l[k].1 = x → (∀ y ∈ (ids l).take k, y ≠ x) → get l x = some l[k].2
  | r :: l, 0, _, e, _ => by
    have e2 : r.1 = x := e
    rw [RowSets.get, if_pos e2]
    rfl
  | r :: l, k + 1, h, e, hn => by
    have h1 : r.1 ≠ x := hn r.1 (by simp [ids])
    rw [RowSets.get, if_neg h1]
    exact get_first (by simpa using h) e fun y hy => hn y (by
      show y ∈ (r.1 :: ids l).take (k + 1)
      rw [List.take_succ_cons]
      exact List.mem_cons_of_mem _ hy)
/-- What the search for the row of an ID answers. -/
theorem found_get {w : World} {qs : List Raw} {l : List Row} (h : EachReads w qs l) {x : Id2} {r : Int} (hr : FoundP (fun u => isI u x) (qs.map (·.1)) r) :
    (r = -1 ∧ get l x = none) ∨ ∃ k : Nat, ∃ _ : k < qs.length, ∃ h2 : k < l.length, r = k ∧ get l x = some l[k].2 ∧ l[k].1 = x ∧ ∀ y ∈ (ids l).take k, y ≠ x := by
  rw [h.owners] at hr
  have hlen := h.len
  rcases hr with ⟨e, hn⟩ | ⟨k, hk, e, h1, hn⟩
  · refine .inl ⟨e, get_none.2 fun hx => ?_⟩
    have := hn x hx
    simp [isI] at this
  · have hk2 : k < l.length := by simpa [ids] using hk
    have he : l[k].1 = x := by simpa [ids, isI] using h1
    have hn2 : ∀ y ∈ (ids l).take k, y ≠ x := fun y hy => by have := hn y hy; simpa [isI] using this
    exact .inr ⟨k, by omega, hk2, e, get_first hk2 he hn2, he, hn2⟩
/-- The ID of what Get answers. -/
def ofI (o : Option Says) (x : Id2) : Id2 := if o.isSome then x else (0, 0)
set_option maxHeartbeats 1000000 in
theorem get_any (v : Value) (l : List Row) (x y : Int) (w : World) (h : RowsAt w v l) (hl : l.length ≤ 1000) (hn : ∀ r ∈ l, r.2.2.length ≤ 100000) :
    Calls Try.prog 14 #[v, .agg #[.int .i64 x, .int .i64 y]] w fun e w' => ∃ B m c, e = .returned (.tuple #[.agg #[.int .i64 (ofI (get l (x, y)) (x, y)).1, .int .i64 (ofI (get l (x, y)) (x, y)).2, .int .i64 (vers (get l (x, y))), .slice B m c], .bool (get l (x, y)).isSome]) ∧ Ids w' (.slice B m c) (nots (get l (x, y))) ∧ Below w.heap.size w w' := by
  obtain ⟨qs, h1, h2⟩ := h
  have hlen := h2.len.symm
  have B0 := Lib.hid (below_two w (.cells #[.int .i64 x, .int .i64 y] 23) (.cells #[.int .i64 0, .int .i64 0, .int .i64 0, .slice none 0 0] 26))
  have HI := Lib.hid (h1.below B0.out)
  have HE := Lib.hid (h2.below B0.out)
  have HN := Lib.hid hn
  have X0 := Lib.hid (show Box ((w.alloc (.cells #[.int .i64 x, .int .i64 y] 23)).alloc (.cells #[.int .i64 0, .int .i64 0, .int .i64 0, .slice none 0 0] 26)) w.heap.size x y from (Below.heap_alloc _ _ _ (by simp)).trans (box_new w x y))
  have Y0 := Lib.hid (show WBox ((w.alloc (.cells #[.int .i64 x, .int .i64 y] 23)).alloc (.cells #[.int .i64 0, .int .i64 0, .int .i64 0, .slice none 0 0] 26)) (w.heap.size + 1) 0 0 0 (.slice none 0 0) from by have := wbox_new (w.alloc (.cells #[.int .i64 x, .int .i64 y] 23)) 0 0 0 (.slice none 0 0); simpa using this)
  obtain ⟨A, c, rfl, hz⟩ := h1
  clear hz h2 hn
  obtain ⟨x1, x2⟩ := box_cells X0.out
  go_enter Try.func14, Try.ntmps14
  go_wp2_with fail
  refine (find_any _ qs x y _ HI.out (by omega)).mono ?_
  rintro e w1 ⟨⟨r, rfl, hr⟩, hb⟩
  have B1 := Lib.hid (below_after B0.out hb (Nat.le_refl _))
  have Y1 := Lib.hid (wbox_below Y0.out hb)
  have I1 := Lib.hid (HI.out.below hb)
  have E1 := Lib.hid (HE.out.below hb)
  have hr := found_get HE.out hr
  clear hb x1 x2
  obtain ⟨y1, y2, y3, y4⟩ := wbox_cells Y1.out
  obtain ⟨f1, f2, f3, f4⟩ := wbox_free Y1.out
  rcases hr with ⟨rfl, hg⟩ | ⟨k, hk, hk2, rfl, hg, he, hbef⟩
  · have HG1 := Lib.hid (show (ofI (get l (x, y)) (x, y)) = (0, 0) by rw [hg]; rfl)
    have HG2 := Lib.hid (show vers (get l (x, y)) = 0 by rw [hg]; rfl)
    have HG3 := Lib.hid (show nots (get l (x, y)) = [] by rw [hg]; rfl)
    have HG4 := Lib.hid (show (get l (x, y)).isSome = false by rw [hg]; rfl)
    have Y2 := Lib.hid (wbox_set Y1.out 0 0 0 (.slice none 0 0))
    have B2 := Lib.hid (below_set4 (g := w.heap.size + 1) B1.out (by omega) (.int .i64 0) (.int .i64 0) (.int .i64 0) (.slice none 0 0))
    clear hg
    go_wp2_with fail
    obtain ⟨q0, q1, q2, q3⟩ := wbox_cells Y2.out
    refine bodyPost_ret (v := .tuple #[.agg #[.int .i64 0, .int .i64 0, .int .i64 0, .slice none 0 0], .bool false]) (by simp [results, Try.results14, go_sem, q0, q1, q2, q3]) rfl ?_
    rw [HG1.out, HG2.out, HG3.out, HG4.out]
    exact ⟨none, 0, 0, rfl, Ids.nil _, B2.out⟩
  · have HG1 := Lib.hid (show (ofI (get l (x, y)) (x, y)) = (x, y) by rw [hg]; rfl)
    have HG2 := Lib.hid (show vers (get l (x, y)) = l[k].2.1 by rw [hg]; rfl)
    have HG3 := Lib.hid (show nots (get l (x, y)) = l[k].2.2 by rw [hg]; rfl)
    have HG4 := Lib.hid (show (get l (x, y)).isSome = true by rw [hg]; rfl)
    obtain ⟨ad, rfl, c1, c2, c3, c4⟩ := I1.out.raw (Below.refl _ _) hk
    have HR := E1.out.at_ k hk hk2
    have HJ := Lib.hid (show Ids w1 (.slice qs[k].2.2.1 qs[k].2.2.2.1 qs[k].2.2.2.2) l[k].2.2 from HR.2.2)
    have HL := Lib.hid (HN.out l[k] (List.getElem_mem hk2))
    have r1 : qs[k].1.1 = x := by rw [HR.1, he]
    have r2 : qs[k].1.2 = y := by rw [HR.1, he]
    have r3 : qs[k].2.1 = l[k].2.1 := HR.2.1
    rw [r1] at c1
    rw [r2] at c2
    rw [r3] at c3
    have i3 : (0 : Int) ≤ (k : Int) := by omega
    have i4 : (k : Int) < (qs.length : Int) := by omega
    clear hg he hbef r1 r2 r3 HR
    have hdk : decide ((k : Int) < 0) = false := by simp
    generalize l[k].2.1 = n at *
    generalize qs[k].2.2.1 = B at *
    generalize qs[k].2.2.2.1 = m at *
    generalize qs[k].2.2.2.2 = d at *
    clear y1 y2 y3 y4 f1 f2 f3 f4
    go_wp2_with fail
    refine (copied_any x y n B m d l[k].2.2 _ HJ.out HL.out).mono ?_
    rintro e w2 ⟨C, m', c', rfl, ho, hb⟩
    have B2 := Lib.hid (below_after B1.out hb (Nat.le_refl _))
    have Y2 := Lib.hid (wbox_below Y1.out hb)
    have O2 := Lib.hid ho
    have S2 := Lib.hid (show w.heap.size + 1 < w1.heap.size from wbox_lt Y1.out)
    clear ho hb c1 c2 c3 c4
    obtain ⟨y1, y2, y3, y4⟩ := wbox_cells Y2.out
    obtain ⟨f1, f2, f3, f4⟩ := wbox_free Y2.out
    have Y3 := Lib.hid (wbox_set Y2.out x y n (.slice C m' c'))
    have B3 := Lib.hid (below_set4 (g := w.heap.size + 1) B2.out (by omega) (.int .i64 x) (.int .i64 y) (.int .i64 n) (.slice C m' c'))
    have O3 := Lib.hid (O2.out.grown (grown_set4 (World.grownBy.refl _ (some (w.heap.size + 1))) (.int .i64 x) (.int .i64 y) (.int .i64 n) (.slice C m' c')) (ownsR_ne O2.out S2.out))
    go_wp2_with fail
    obtain ⟨q0, q1, q2, q3⟩ := wbox_cells Y3.out
    refine bodyPost_ret (v := .tuple #[.agg #[.int .i64 x, .int .i64 y, .int .i64 n, .slice C m' c'], .bool true]) (by simp [results, Try.results14, go_sem, q0, q1, q2, q3]) rfl ?_
    rw [HG1.out, HG2.out, HG3.out, HG4.out]
    exact ⟨C, m', c', rfl, ownsI_ids O3.out, B3.out⟩
end Go.Proofs.Ytofanciaacdjfaa
