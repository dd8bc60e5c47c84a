/-
  Walk over the library's insertion of one row into rows of the call's own, in which there is no room. No statement is proved in this text; it holds for every input that its premises let by.
-/
import Derived.Test.YtofanciaacdjfaaTake
import Derived.Shelf.Spec.SlicesInsert
import Derived.Lib.AppendZerosOnto
import Derived.Laws.NewBlocks
import Derived.ArgAppend
namespace Go.Proofs.Ytofanciaacdjfaa
open Go Go.RowKit Sets RowSets
/-- copy, of elements of any number of cells. -/
theorem run_copy_recs {P : Program} (w : World) (dT sT ty elem : TypeId) (sz b o dLen dCap : Nat) (a : Addr) (sLen sCap : Nat) (cs : List Value)
    (hu : P.underlying dT = some (.slice elem)) (hs : (P.info? elem).map (·.size) = some sz) (hn : cs.length = Nat.min sLen dLen * sz)
    (hsrc : ∀ j v, cs[j]? = some v → w.cell? (a.add j) = some v) (hc : ∀ j, j < cs.length → (w.cell? ⟨b, o + j, none⟩).isSome = true) (hf : ∀ j, j < cs.length → w.frozen? ⟨b, o + j, none⟩ = false) (h1 : ∀ v ∈ cs, v.oneCell' = true) :
    (Builtin.copy_ #[dT, sT] ty #[.slice (some ⟨b, o, none⟩) dLen dCap, .slice (some a) sLen sCap]).run P w = .ok (goInt (Nat.min sLen dLen)) (w.setCells b o cs) := by
  have hl := run_loadCells_list (P := P) w a cs hsrc
  have hst := run_storeCells_cells (P := P) b o cs 0 w (by simpa using hc) (by simpa using hf) h1
  cases hq : P.info? elem with
  | none => simp [hq] at hs
  | some i =>
    have hi : i.size = sz := by simpa [hq] using hs
    rw [hn] at hl
    simp [Builtin.copy_, run_underlying hu, Builtin.lenOf, Builtin.firstCells, sizeOf, typeInfo, hq, hi, hl, hst]
/-- Three pieces, one behind the other, in one block. -/
theorem cells_three (W : World) (N : Nat) (A B C : List Value) (hA : ∀ p u, A[p]? = some u → W.cell? ⟨N, p, none⟩ = some u) (hN : ∀ p, p < A.length + B.length + C.length → (W.cell? ⟨N, p, none⟩).isSome = true) (p : Nat) (u : Value) (h : (A ++ B ++ C)[p]? = some u) :
    ((W.setCells N A.length B).setCells N (A.length + B.length) C).cell? ⟨N, p, none⟩ = some u := by
  have hp : p < (A ++ B ++ C).length := (List.getElem?_eq_some_iff.1 h).1
  simp only [List.length_append] at hp
  by_cases h2 : A.length + B.length ≤ p
  · rw [List.getElem?_append_right (by simpa using h2), List.length_append] at h
    have hj := (List.getElem?_eq_some_iff.1 h)
    obtain ⟨hj, e⟩ := hj
    have := World.cell?_setCells_in N C (A.length + B.length) (W.setCells N A.length B) (fun j hj => isSome_setCells _ _ _ _ (fun t ht => hN _ (by omega)) _ (hN _ (by omega))) (p - (A.length + B.length)) hj
    rw [show A.length + B.length + (p - (A.length + B.length)) = p by omega, e] at this
    exact this
  · rw [World.cell?_setCells_out _ _ _ _ _ (fun _ _ => .inl (by show p < _; omega))]
    rw [List.getElem?_append_left (by rw [List.length_append]; omega)] at h
    by_cases h1 : A.length ≤ p
    · rw [List.getElem?_append_right h1] at h
      obtain ⟨hj, e⟩ := List.getElem?_eq_some_iff.1 h
      have := World.cell?_setCells_in N B A.length W (fun j hj => hN _ (by omega)) (p - A.length) hj
      rw [show A.length + (p - A.length) = p by omega, e] at this
      exact this
    · rw [World.cell?_setCells_out _ _ _ _ _ (fun _ _ => .inl (by show p < _; omega))]
      rw [List.getElem?_append_left (by omega)] at h
      exact hA p u h
theorem rcs_cells {w : World} {N c : Nat} {l : List Raw} (hb : N < w.heap.size) (hc : l.length ≤ c) (h : ∀ p u, (flatR encW l)[p]? = some u → w.cell? ⟨N, p, none⟩ = some u) : Rcs encW 4 w (.slice (some ⟨N, 0, none⟩) l.length c) l := by
  refine ⟨some ⟨N, 0, none⟩, c, rfl, (fun h => by cases h), hc, fun k hk => ⟨_, rfl, hb, fun j u hu => ?_⟩⟩
  rw [add_lit]
  exact h _ u (flatR_at encW_len l k hk j u hu)
theorem one_flat (l : List Raw) : ∀ u ∈ flatR encW l, u.oneCell' = true := by
  intro u hu
  unfold flatR at hu
  obtain ⟨q, _, hq⟩ := List.mem_flatMap.1 hu
  exact encW_one q u hq
/-- The cells of rows in place. -/
theorem rowAt_cells {w : World} {g : Nat} {d : Array Raw} (h : RowAtR encW 4 w g d) (i j : Nat) (v : Value) (hj : (flatR encW (d.toList.drop i))[j]? = some v) : w.cell? ⟨g, i * 4 + j, none⟩ = some v := by
  obtain ⟨k, hk, m, rfl, hm⟩ := flatR_split encW_len (by omega) hj
  rw [List.length_drop] at hk
  have hk2 : i + k < d.size := by simp at hk; omega
  have e : (d.toList.drop i)[k] = d[i + k]! := by rw [getElem!_pos d _ hk2]; simp
  rw [e] at hm
  have := (h.2 (i + k) hk2 m v hm).1
  rw [show (i + k) * 4 + m = i * 4 + (k * 4 + m) by omega] at this
  exact this
theorem hsize26 : (Try.prog.info? 26).map (·.size) = some 4 := by
  obtain ⟨i0, hi, _, hz, _⟩ := info_parts infoW
  rw [hi]
  simp [hz]
set_option maxHeartbeats 2000000 in
set_option maxRecDepth 100000 in
/-- slices.Insert of one row at the end, no room. -/
theorem insert_end (g gx : Nat) (d : Array Raw) (p y v : Int) (B : Option Addr) (m k : Nat) (w : World) (h : RowAtR encW 4 w g d) (hx : WBox w gx p y v (.slice B m k)) (hl : d.size ≤ 1000) :
    Calls Try.prog 49 #[.slice (some ⟨g, 0, none⟩) d.size d.size, .int .i64 d.size, .slice (some ⟨gx, 0, none⟩) 1 1] w fun e w' =>
      ∃ V, e = .returned V ∧ Rcs encW 4 w' V (d.toList ++ [((p, y), v, B, m, k)]) ∧ Below w.heap.size w w' := by
  obtain ⟨i0, hi, hz0, hz1, hz2⟩ := info_parts infoW
  obtain ⟨v', w1, hr, h1, h2⟩ := run_append_arg_grows (P := Try.prog) (w := w) 27 27 26 i0 (.agg #[.int .i64 0, .int .i64 0, .int .i64 0, .slice none 0 0]) 4 48 Try.underlying27 hi hz0 hz1 hz2 rfl (by decide) ⟨g, 0, none⟩ d.size d.size (flatR encW d.toList) (by rw [flatR_len encW_len]; simp)
    (fun j u hu => by rw [add_lit]; have := rowAt_cells h 0 j u (by simpa using hu); rwa [Nat.zero_mul, Nat.zero_add] at this)
    ⟨gx, 0, none⟩ 1 1 (encW ((p, y), v, B, m, k)) rfl
    (World.news_of_block (cs := #[.int .i64 p, .int .i64 y, .int .i64 v, .slice B m k]) hx) (by omega) (by unfold maxLen; omega) (by omega)
  have HV : Hid (Rcs encW 4 w1 v' (d.toList ++ [((p, y), v, B, m, k)])) := Lib.hid (by
    have ho : OwnsW w1 w.heap.size v' (d.toList ++ [((p, y), v, B, m, k)]) := by
      unfold OwnsW OwnsR
      have e1 : (d.toList ++ [((p, y), v, B, m, k)]).length = d.size + 1 := by simp
      have e2 : flatR encW (d.toList ++ [((p, y), v, B, m, k)]) = flatR encW d.toList ++ encW ((p, y), v, B, m, k) := by rw [flatR_append]; simp [flatR]
      rw [e1, e2]
      exact h1
    exact rcs_owns encW_len ho)
  have HB := Lib.hid (show Below w.heap.size w w1 from (Below.refl _ w).grown h2 (Nat.le_refl _) (fun k hk => by cases hk))
  clear hi hz0 hz1 hz2 h1 h2
  obtain ⟨N, hN⟩ : ∃ N, N = d.size := ⟨_, rfl⟩
  rw [← hN] at hr hl ⊢
  have i1 : (0 : Int) ≤ (N : Int) := by omega
  clear hN h hx
  go_enter Try.func49, Try.ntmps49
  go_wp2_with (at_builtin; refine Lib.wpList_append_run _ rfl _ _ _ _ rfl _ _ rfl rfl _ _ hr ?_)
  refine bodyPost_ret (v := v') (by simp [results, Try.results49, go_sem]) rfl ?_
  exact ⟨_, rfl, HV.out, HB.out⟩
set_option maxHeartbeats 4000000 in
set_option maxRecDepth 100000 in
/-- slices.Insert of one row ahead of another one, no room. -/
theorem insert_mid (g gx i : Nat) (d : Array Raw) (p y v : Int) (B : Option Addr) (m k : Nat) (w : World) (h : RowAtR encW 4 w g d) (hx : WBox w gx p y v (.slice B m k)) (hl : d.size ≤ 1000) (hi : i < d.size) :
    Calls Try.prog 49 #[.slice (some ⟨g, 0, none⟩) d.size d.size, .int .i64 i, .slice (some ⟨gx, 0, none⟩) 1 1] w fun e w' =>
      ∃ V, e = .returned V ∧ Rcs encW 4 w' V (d.toList.take i ++ [((p, y), v, B, m, k)] ++ d.toList.drop i) ∧ Below w.heap.size w w' := by
  obtain ⟨i0, hi0, hz0, hz1, hz2⟩ := info_parts infoW
  have hxl := wbox_lt hx
  obtain ⟨A, hA⟩ : ∃ A, A = flatR encW (d.toList.take i) := ⟨_, rfl⟩
  obtain ⟨Bq, hBq⟩ : ∃ Bq, Bq = encW ((p, y), v, B, m, k) := ⟨_, rfl⟩
  obtain ⟨C, hC⟩ : ∃ C, C = flatR encW (d.toList.drop i) := ⟨_, rfl⟩
  have lA : A.length = i * 4 := by rw [hA, flatR_len encW_len, List.length_take]; simp; omega
  have lB : Bq.length = 4 := by rw [hBq]; rfl
  have lC : C.length = (d.size - i) * 4 := by rw [hC, flatR_len encW_len, List.length_drop]; simp
  have oneB : ∀ u ∈ Bq, u.oneCell' = true := by rw [hBq]; exact encW_one _
  have oneC : ∀ u ∈ C, u.oneCell' = true := by rw [hC]; exact one_flat _
  have srcA : ∀ j u, A[j]? = some u → w.cell? ⟨g, j, none⟩ = some u := fun j u hu => by
    have := rowAt_cells h 0 j u (by
      rw [List.drop_zero]
      have e : flatR encW d.toList = A ++ C := by rw [hA, hC, ← flatR_append, List.take_append_drop]
      rw [e, List.getElem?_append_left (List.getElem?_eq_some_iff.1 hu).1]
      exact hu)
    rwa [Nat.zero_mul, Nat.zero_add] at this
  have srcB : ∀ j u, Bq[j]? = some u → w.cell? ⟨gx, j, none⟩ = some u := fun j u hu => by
    have := World.news_of_block (cs := #[.int .i64 p, .int .i64 y, .int .i64 v, .slice B m k]) hx j u (by rw [hBq] at hu; exact hu)
    rwa [add_lit] at this
  have srcC : ∀ j u, C[j]? = some u → w.cell? ⟨g, i * 4 + j, none⟩ = some u := fun j u hu => rowAt_cells h i j u (by rw [← hC]; exact hu)
  have hall : flatR encW (d.toList.take i ++ [((p, y), v, B, m, k)] ++ d.toList.drop i) = A ++ Bq ++ C := by
    rw [flatR_append, flatR_append, hA, hBq, hC]
    simp [flatR]
  have hlen : (d.toList.take i ++ [((p, y), v, B, m, k)] ++ d.toList.drop i).length = d.size + 1 := by simp; omega
  obtain ⟨L, hL⟩ : ∃ L, L = d.toList.take i ++ [((p, y), v, B, m, k)] ++ d.toList.drop i := ⟨_, rfl⟩
  rw [← hL] at hall hlen ⊢
  have hgw := h.1
  clear hA hBq hC hL h hx
  obtain ⟨n, hn⟩ : ∃ n, n = d.size := ⟨_, rfl⟩
  rw [← hn] at lC hlen hi hl ⊢
  clear hn
  have hold : (Builtin.firstCells i0.size i (.slice (some ⟨g, 0, none⟩) i n)).run Try.prog w.drew = .ok A.toArray w.drew := by
    rw [hz1]
    exact run_firstCells_some w.drew 4 i ⟨g, 0, none⟩ i n A lA (fun j u hj => by rw [add_lit]; exact srcA j u hj)
  have hkk : (n : Int) + 1 - (i : Int) = ((n + 1 - i : Nat) : Int) := by omega
  have hik : i + (n + 1 - i) = n + 1 := by omega
  have hrz : ∀ ty, (Builtin.append_ #[27, 3] ty #[.slice (some ⟨g, 0, none⟩) i n, .int .i64 ((n : Int) + 1 - (i : Int))]).run Try.prog w =
      .ok (.slice (some ⟨w.heap.size, 0, none⟩) (n + 1) (grownCap w (n + 1) n 26)) (w.drew.alloc (.cells (A.toArray ++ Builtin.zeroCells (Value.agg #[.int .i64 0, .int .i64 0, .int .i64 0, .slice none 0 0]).cells (n + 1 - i) ++ Builtin.zeroCells (Value.agg #[.int .i64 0, .int .i64 0, .int .i64 0, .slice none 0 0]).cells (grownCap w (n + 1) n 26 - (n + 1))) 26)) := fun ty => by
    have h := Lib.run_append_grow_zeros w 27 3 ty 26 i0 _ .i64 .i64 Try.underlying27 Try.underlying3 hi0 hz0 (some ⟨g, 0, none⟩) i n A hold (n + 1 - i) (by omega) (by omega) (by omega) (by omega) (by rw [hz2]; omega) (by rw [hz2, hik]; exact growslice_fits (by omega) (by omega))
    rw [hik] at h
    rw [hkk]
    exact h
  obtain ⟨G, hG⟩ : ∃ G, G = grownCap w (n + 1) n 26 := ⟨_, rfl⟩
  have hGn : n + 1 ≤ G := by rw [hG]; exact grownCap_ge w _ _ _
  have hG63 : G ≤ 9223372036854775807 := by
    have := grownCap_le_maxLen w (n + 1) n 26 (by unfold maxLen; omega)
    rw [← hG] at this
    unfold maxLen at this
    omega
  obtain ⟨ROW, hROW⟩ : ∃ ROW : Array Value, ROW = A.toArray ++ Builtin.zeroCells (Value.agg #[.int .i64 0, .int .i64 0, .int .i64 0, .slice none 0 0]).cells (n + 1 - i) ++ Builtin.zeroCells (Value.agg #[.int .i64 0, .int .i64 0, .int .i64 0, .slice none 0 0]).cells (G - (n + 1)) := ⟨_, rfl⟩
  rw [← hG] at hrz
  rw [← hROW] at hrz
  have hRl : (n + 1) * 4 ≤ ROW.size := by
    rw [hROW]
    simp [Builtin.zeroCells, Value.cells, lA]
    omega
  have hRA : ∀ j u, A[j]? = some u → ROW[j]? = some u := fun j u hu => by
    have hj := (List.getElem?_eq_some_iff.1 hu).1
    rw [hROW, Array.getElem?_append_left (by simp; omega), Array.getElem?_append_left (by simpa using hj)]
    simpa using hu
  obtain ⟨W1, hW1⟩ : ∃ W1, W1 = w.drew.alloc (.cells ROW 26) := ⟨_, rfl⟩
  rw [← hW1] at hrz
  have hN : ∀ j, j < (n + 1) * 4 → (W1.cell? ⟨w.heap.size, j, none⟩).isSome = true := fun j hj => by
    rw [hW1, World.cell?_alloc_at (w := w.drew) ROW _ w.heap.size j rfl, Array.getElem?_eq_getElem (by omega)]; rfl
  have hNA : ∀ j u, A[j]? = some u → W1.cell? ⟨w.heap.size, j, none⟩ = some u := fun j u hu => by
    rw [hW1, World.cell?_alloc_at (w := w.drew) ROW _ w.heap.size j rfl]; exact hRA j u hu
  have hNf : ∀ j, W1.frozen? ⟨w.heap.size, j, none⟩ = false := fun j => by rw [hW1]; exact World.frozen?_alloc_at (w := w.drew) ROW _ w.heap.size j rfl
  have hOb : ∀ j u, w.cell? ⟨g, j, none⟩ = some u → W1.cell? ⟨g, j, none⟩ = some u := fun j u h => by rw [hW1, World.cell?_alloc_past (w := w.drew) _ g j hgw]; exact h
  have hOv : ∀ j u, w.cell? ⟨gx, j, none⟩ = some u → W1.cell? ⟨gx, j, none⟩ = some u := fun j u h => by rw [hW1, World.cell?_alloc_past (w := w.drew) _ gx j hxl]; exact h
  have hcpA : ∀ (W : World), (∀ x, W.cell? x = W1.cell? x) → (∀ x, W.frozen? x = W1.frozen? x) → ∀ ty dc, (Builtin.copy_ #[27, 27] ty #[.slice (some ⟨w.heap.size, i * 4, none⟩) (n + 1 - i) dc, .slice (some ⟨gx, 0, none⟩) 1 1]).run Try.prog W = .ok (goInt 1) (W.setCells w.heap.size (i * 4) Bq) := fun W hWc hWf ty dc => by
    have := run_copy_recs (P := Try.prog) W 27 27 ty 26 4 w.heap.size (i * 4) (n + 1 - i) dc ⟨gx, 0, none⟩ 1 1 Bq Try.underlying27 hsize26 (by rw [lB]; simp only [Nat.min_def]; split <;> omega)
      (fun j u hj => by rw [add_lit, hWc]; exact hOv _ u (srcB j u hj))
      (fun j hj => by rw [hWc]; exact hN _ (by omega)) (fun j hj => by rw [hWf]; exact hNf _) oneB
    rwa [show Nat.min 1 (n + 1 - i) = 1 by simp only [Nat.min_def]; split <;> omega] at this
  have hgN : g ≠ w.heap.size := by omega
  have hcpB : ∀ (W : World), (∀ x, W.cell? x = (W1.setCells w.heap.size (i * 4) Bq).cell? x) → (∀ x, W.frozen? x = (W1.setCells w.heap.size (i * 4) Bq).frozen? x) → ∀ ty dc sc, (Builtin.copy_ #[27, 27] ty #[.slice (some ⟨w.heap.size, (i + 1) * 4, none⟩) (n + 1 - (i + 1)) dc, .slice (some ⟨g, i * 4, none⟩) (n - i) sc]).run Try.prog W = .ok (goInt (n - i : Nat)) (W.setCells w.heap.size ((i + 1) * 4) C) := fun W hWc hWf ty dc sc => by
    have := run_copy_recs (P := Try.prog) W 27 27 ty 26 4 w.heap.size ((i + 1) * 4) (n + 1 - (i + 1)) dc ⟨g, i * 4, none⟩ (n - i) sc C Try.underlying27 hsize26 (by rw [lC]; simp only [Nat.min_def]; split <;> omega)
      (fun j u hj => by
        rw [Addr.add_lit, hWc, World.cell?_setCells_out _ _ _ _ _ (fun h _ => absurd h hgN)]
        exact hOb _ u (srcC j u hj))
      (fun j hj => by rw [hWc]; exact isSome_setCells _ _ _ _ (fun t ht => hN _ (by omega)) _ (hN _ (by omega)))
      (fun j hj => by rw [hWf, World.frozen?_setCells]; exact hNf _) oneC
    rwa [show Nat.min (n - i) (n + 1 - (i + 1)) = n - i by simp only [Nat.min_def]; split <;> omega] at this
  have hfin : ∀ F : World, (∀ x, F.cell? x = ((W1.setCells w.heap.size (i * 4) Bq).setCells w.heap.size ((i + 1) * 4) C).cell? x) → w.heap.size < F.heap.size → Rcs encW 4 F (.slice (some ⟨w.heap.size, 0, none⟩) (n + 1) G) L := fun F hF hs => by
    have := rcs_cells (w := F) (N := w.heap.size) (c := G) (l := L) hs (by omega) (fun q u hq => by
      rw [hall] at hq
      have e := cells_three W1 w.heap.size A Bq C hNA (fun q hq => hN q (by rw [lA, lB, lC] at hq; omega)) q u hq
      rw [lA, lB] at e
      rw [hF, show (i + 1) * 4 = i * 4 + 4 by omega]
      exact e)
    rwa [hlen] at this
  subst hW1
  have hE1 : ∀ x, ((w.alloc (.cells ROW 26)).drew).cell? x = (w.drew.alloc (.cells ROW 26)).cell? x := fun x => rfl
  have hE2 : ∀ x, ((w.alloc (.cells ROW 26)).drew).frozen? x = (w.drew.alloc (.cells ROW 26)).frozen? x := fun x => rfl
  have hF1 : ∀ x, (((w.alloc (.cells ROW 26)).drew.setCells w.heap.size (i * 4) Bq).drew).cell? x = ((w.drew.alloc (.cells ROW 26)).setCells w.heap.size (i * 4) Bq).cell? x := fun x => rfl
  have hF2 : ∀ x, (((w.alloc (.cells ROW 26)).drew.setCells w.heap.size (i * 4) Bq).drew).frozen? x = ((w.drew.alloc (.cells ROW 26)).setCells w.heap.size (i * 4) Bq).frozen? x := fun x => rfl
  have hz2' : ¬ ((i : Int) = (n : Int)) := by omega
  have hw1 : IntKind.i64.wrap ((i : Int) + 1) = (i : Int) + 1 := by rw [IntKind.wrap_i64]; omega
  have hb1 : (0 : Int) ≤ (i : Int) + 1 := by omega
  have hin : i ≤ n := by omega
  have htn : ((i : Int) + 1).toNat = i + 1 := by omega
  have hb3 : (i : Int) ≤ (n : Int) := by omega
  have hGi : ¬ (G = i) := by omega
  have hGim : ¬ (G = i + 1) := by omega
  have hci : ¬ (n = i) := by omega
  have HF := Lib.hid hfin
  have mixed := Checked.mixed Try.checked
  have mixed : Try.prog.follows .mixedOrders = true := mixed
  clear hfin hkk hik hold hROW hG hRl hRA hN hNA hNf hOb hOv srcA srcB srcC lA lB lC oneB oneC hall hlen hi0 hz0 hz1 hz2
  go_enter Try.func49, Try.ntmps49
  go_wp2_with (first
    | (at_builtin; refine Lib.wpList_append_run _ rfl _ _ _ _ rfl _ _ rfl rfl _ _ (hrz _) ?_)
    | (at_builtin; refine wpList_copy_runI _ rfl _ _ 27 27 rfl _ _ rfl rfl (hcpA _ hE1 hE2 _ _) ?_))
  go_region_law_o (refine step_copy_runI rfl _ _ 27 27 rfl (.slice (some ⟨w.heap.size, (i + 1) * 4, none⟩) (n + 1 - (i + 1)) (G - (i + 1))) (.slice (some ⟨g, i * 4, none⟩) (n - i) (n - i)) (by simp [Act.eval, Act.put]) (by simp [Act.eval, Act.put]) (hcpB _ hF1 hF2 3 (G - (i + 1)) (n - i)) ?_)
  go_wp2
  go_ret
  exact ⟨_, rfl, HF.out _ (fun x => by rw [drew_setCells, show (w.alloc (.cells ROW 26)).drew.drew = (w.drew.alloc (.cells ROW 26)).drew from rfl, ← drew_setCells, ← drew_setCells]; rfl) (by simp [size_setCells]), below_setCells (Below.drew (below_setCells (Below.drew ((Below.refl _ w).alloc (Nat.le_refl _) _)) (Nat.le_refl _) _ _)) (Nat.le_refl _) _ _⟩
end Go.Proofs.Ytofanciaacdjfaa
