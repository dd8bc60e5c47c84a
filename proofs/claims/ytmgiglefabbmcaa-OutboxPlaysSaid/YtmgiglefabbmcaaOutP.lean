/-
  Arguments opened: numbers, lists of numbers, steps with frames of which no list is longer than a machine bears. No statement is proved in this text.
-/
import Derived.Test.YtmgiglefabbmcaaOutA
import Derived.Test.YtmgiglefabbmcaaBase
import Derived.Lib.SmallJoins
import Derived.Deep.SlicePairs
import Derived.SizedLaws
set_option maxRecDepth 20000
namespace Go.Proofs.Ytmgiglefabbmcaa
open Go Go.RowKit Go.WideShapes Go.ChangeShapes Go.ChangeAt
section
variable {α : Type} {H : Type} {enc' : TypeId × Value → H} {P : Program} {w : World} {base : Nat} {spare : Nat → Bool} {held : Bool} {enc : α → List Value} {sz : Nat}
theorem weightsAll_mem {e : TypeId} : ∀ {l : List (DataW H)} {d : DataW H}, d ∈ l → ∀ k ∈ d.weights P e, k ∈ DataW.weightsAll P e l
  | x :: l, d, hd, k, hk => by
    unfold DataW.weightsAll
    rcases List.mem_cons.1 hd with rfl | hd
    · exact List.mem_append_left _ hk
    · exact List.mem_append_right _ (weightsAll_mem hd k hk)
theorem open_recs_sized (Pr : α → Prop) {t e : TypeId} {fuel : Nat} {cs : List Value} {x : DataW H × List MemPlace} (ht : P.underlying t = some (.slice e)) (ce : P.cellsOf e = sz) (hs : ∀ a, (enc a).length = sz)
    (elem : ∀ (n : Nat) (cs : List Value) (d : DataW H × List MemPlace), DataW.trod enc' P w base spare held n e cs = some d → (∀ k ∈ d.1.weights P e, k ≤ reachBytes) → ∃ r : α, cs = enc r ∧ Pr r)
    (hsz : 0 < sz) (h : DataW.trod enc' P w base spare held fuel t cs = some x) (hw : ∀ k ∈ x.1.weights P t, k ≤ reachBytes) : ∃ v, cs = [v] ∧ ∃ l : List α, Rcs enc sz w v l ∧ (∀ r ∈ l, Pr r) ∧ l.length * P.bytesOf e ≤ reachBytes := by
  rcases Deep.open_slice ht h with ⟨rfl, _⟩ | ⟨a, len, cap, m, n, D, Pl, rfl, hb, hl, hm, hmm, rfl, hx⟩
  · exact ⟨_, rfl, [], Rcs.nil w, (fun r hr => by cases hr), by simp⟩
  · have hlm : len ≤ m := by rw [hmm]; split <;> omega
    have hD : ∀ i, i < len → ∀ k ∈ (D i).weights P e, k ≤ reachBytes := fun i hi k hk => hw k (by
      simp only [DataW.weights, ht]
      exact List.mem_cons_of_mem _ (List.mem_append_left _ (weightsAll_mem (List.mem_map.2 ⟨i, List.mem_range.2 hi, rfl⟩) k hk)))
    have hlen : len * P.bytesOf e ≤ reachBytes := by
      have := hw ((len + (m - len)) * P.bytesOf e) (by simp [DataW.weights, ht])
      exact Nat.le_trans (Nat.mul_le_mul_right _ (Nat.le_add_right _ _)) this
    have each : ∀ i, i < len → ∃ r : α, Pr r ∧ ∀ j u, (enc r)[j]? = some u → w.cell? ((a.add (i * sz)).add j) = some u := by
      intro i hi
      obtain ⟨cs', h1, h2⟩ := hx i (by omega)
      rw [ce] at h1
      obtain ⟨r, rfl, hp⟩ := elem _ _ _ h2 (hD i hi)
      obtain ⟨_, hlen, hcell⟩ := World.cells?_some h1
      refine ⟨r, hp, fun j u hu => ?_⟩
      have hj := (List.getElem?_eq_some_iff.1 hu).1
      rw [hs] at hj
      rw [hcell j hj]
      exact hu
    obtain ⟨q, hq, hpq⟩ : ∃ q : List α, (q.length = len ∧ ∀ i (h : i < q.length), ∀ j u, (enc q[i])[j]? = some u → w.cell? ((a.add (i * sz)).add j) = some u) ∧ ∀ r ∈ q, Pr r := by
      clear hx hlm hmm hl hm h hD hlen hw
      induction len with
      | zero => exact ⟨[], ⟨rfl, fun i h => absurd h (by simp)⟩, fun r hr => by cases hr⟩
      | succ len ih =>
        obtain ⟨q, ⟨h1, h2⟩, h3⟩ := ih (fun i hi => each i (by omega))
        obtain ⟨r, hp, hr⟩ := each len (by omega)
        refine ⟨q ++ [r], ⟨by simp [h1], fun i hi j u hu => ?_⟩, fun u hu => ?_⟩
        rotate_left
        · rcases List.mem_append.1 hu with hu | hu
          · exact h3 u hu
          · rw [List.mem_singleton.1 hu]; exact hp
        rw [List.length_append] at hi
        by_cases e : i < q.length
        · rw [List.getElem_append_left e] at hu
          exact h2 i e j u hu
        · have : i = q.length := by simp at hi; omega
          subst this
          rw [List.getElem_append_right (Nat.le_refl _)] at hu
          simp at hu
          rw [h1]
          exact hr j u hu
    refine ⟨_, rfl, q, ⟨some a, cap, by rw [hq.1], (fun h => by cases h), by rw [hq.1]; exact hl, fun k hk => ⟨a, rfl, ?_, fun j u hu => ?_⟩⟩, hpq, by rw [hq.1]; exact hlen⟩
    · have hcl : 0 < (enc q[k]).length := by rw [hs]; exact hsz
      have := hq.2 k hk 0 _ (List.getElem?_eq_getElem hcl)
      have := World.block_lt_of_cell? w _ this
      rwa [addr_block, addr_block] at this
    · have := hq.2 k hk j u hu
      rcases Nat.eq_zero_or_pos (k * sz) with e | e
      · rw [e] at this ⊢
        rw [Nat.zero_add]
        have e2 : a.add 0 = a := by unfold Addr.add; simp
        rwa [e2] at this
      · rwa [addr_add_add _ _ _ e] at this
end
section
variable {H : Type} {enc : TypeId × Value → H}
/-- No list is longer than a machine bears. -/
structure WideV (V : Vw) : Prop where
  m : V.m.length ≤ 8796093022208
  f : V.f.length ≤ 8796093022208
  r : V.r.length ≤ 8796093022208
  c : V.c.length ≤ 8796093022208
  s : V.s.length ≤ 8796093022208
  n : ∀ r ∈ V.r, r.2.2.length ≤ 8796093022208
theorem by24 : Try.prog.bytesOf 24 = 16 := by kernel_rfl
theorem by79 : Try.prog.bytesOf 79 = 32 := by kernel_rfl
theorem by76 : Try.prog.bytesOf 76 = 48 := by kernel_rfl
theorem by54 : Try.prog.bytesOf 54 = 200 := by kernel_rfl
theorem by81 : Try.prog.bytesOf 81 = 24 := by kernel_rfl
theorem ce3 : Try.prog.cellsOf 3 = 1 := by kernel_rfl
theorem ce4 : Try.prog.cellsOf 4 = 1 := by kernel_rfl
theorem ce5 : Try.prog.cellsOf 5 = 1 := by kernel_rfl
theorem ce24 : Try.prog.cellsOf 24 = 2 := by kernel_rfl
theorem ce79 : Try.prog.cellsOf 79 = 4 := by kernel_rfl
theorem ce76 : Try.prog.cellsOf 76 = 4 := by kernel_rfl
theorem ce81 : Try.prog.cellsOf 81 = 3 := by kernel_rfl
theorem ce25 : Try.prog.cellsOf 25 = 1 := by kernel_rfl
theorem ce26 : Try.prog.cellsOf 26 = 1 := by kernel_rfl
theorem ce27 : Try.prog.cellsOf 27 = 1 := by kernel_rfl
theorem ce28 : Try.prog.cellsOf 28 = 1 := by kernel_rfl
theorem ce30 : Try.prog.cellsOf 30 = 5 := by kernel_rfl
theorem ce32 : Try.prog.cellsOf 32 = 14 := by kernel_rfl
theorem ce54 : Try.prog.cellsOf 54 = 15 := by kernel_rfl
theorem wide_len {n k : Nat} (h : n * k ≤ reachBytes) (hk : 16 ≤ k) : n ≤ 8796093022208 := by
  have h1 : n * 16 ≤ reachBytes := Nat.le_trans (Nat.mul_le_mul_left _ hk) h
  have h2 : reachBytes = 140737488351232 := rfl
  omega
theorem elem_id {w : World} {base : Nat} {spare : Nat → Bool} {held : Bool} (n : Nat) (cs : List Value) (d : DataW H × List MemPlace) (h : DataW.trod enc Try.prog w base spare held n 24 cs = some d) : ∃ r : Id2, cs = encI r := by
  obtain ⟨y0, y1, n', _, hl, h0, h1⟩ := trod_struct2 Try.underlying24 h
  rw [ce24] at hl
  match cs, hl with
  | [a, b], _ =>
    rw [show Try.prog.cellsOf 3 = 1 from ce3] at h0 h1
    obtain ⟨x, e0, _, _⟩ := DataW.trod_int Try.underlying3 h0
    obtain ⟨y, e1, _, _⟩ := DataW.trod_int Try.underlying3 h1
    simp at e0 e1
    exact ⟨(x, y), by simp [encI, e0, e1]⟩
theorem elem_mem {w : World} {base : Nat} {spare : Nat → Bool} {held : Bool} (n : Nat) (cs : List Value) (d : DataW H × List MemPlace) (h : DataW.trod enc Try.prog w base spare held n 79 cs = some d) : ∃ r : Mm, cs = encM r := by
  obtain ⟨xs, n', _, _, hl, hlen, hf⟩ := DataW.trod_struct Try.underlying79 h
  rw [ce79] at hl
  match cs, hl, xs, hlen with
  | [a, b, c, s], _, [y0, y1, y2], _ =>
    have h0 : DataW.trod enc Try.prog w base spare held n' 24 (([a, b, c, s].drop 0).take (Try.prog.cellsOf 24)) = some y0 := hf 0 _ rfl
    have h1 : DataW.trod enc Try.prog w base spare held n' 5 (([a, b, c, s].drop 2).take (Try.prog.cellsOf 5)) = some y1 := hf 1 _ rfl
    have h2 : DataW.trod enc Try.prog w base spare held n' 3 (([a, b, c, s].drop 3).take (Try.prog.cellsOf 3)) = some y2 := hf 2 _ rfl
    rw [ce24] at h0
    rw [ce5] at h1
    rw [ce3] at h2
    obtain ⟨r, e0⟩ := elem_id _ _ _ h0
    obtain ⟨v, e1, _, _⟩ := DataW.trod_int Try.underlying5 h1
    obtain ⟨u, e2, _, _⟩ := DataW.trod_int Try.underlying3 h2
    simp [encI] at e0 e1 e2
    exact ⟨(r, v, u), by simp [encM, e0, e1, e2]⟩
theorem elem_tick {w : World} {base : Nat} {spare : Nat → Bool} {held : Bool} (n : Nat) (cs : List Value) (d : DataW H × List MemPlace) (h : DataW.trod enc Try.prog w base spare held n 81 cs = some d) : ∃ r : Tk, cs = encT r := by
  obtain ⟨xs, n', _, _, hl, hlen, hf⟩ := DataW.trod_struct Try.underlying81 h
  rw [ce81] at hl
  match cs, hl, xs, hlen with
  | [a, b, c], _, [y0, y1], _ =>
    have h0 : DataW.trod enc Try.prog w base spare held n' 24 (([a, b, c].drop 0).take (Try.prog.cellsOf 24)) = some y0 := hf 0 _ rfl
    have h1 : DataW.trod enc Try.prog w base spare held n' 3 (([a, b, c].drop 2).take (Try.prog.cellsOf 3)) = some y1 := hf 1 _ rfl
    rw [ce24] at h0
    rw [ce3] at h1
    obtain ⟨r, e0⟩ := elem_id _ _ _ h0
    obtain ⟨u, e2, _, _⟩ := DataW.trod_int Try.underlying3 h1
    simp [encI] at e0 e2
    exact ⟨(r, u), by simp [encT, e0, e2]⟩
/-- A row's list reads, and is no longer than a machine bears. -/
def KnownW (w : World) (q : Raw) : Prop := ∃ m, Ids w (.slice q.2.2.1 q.2.2.2.1 q.2.2.2.2) m ∧ m.length ≤ 8796093022208
theorem elem_row {w : World} {base : Nat} {spare : Nat → Bool} {held : Bool} (n : Nat) (cs : List Value) (d : DataW H × List MemPlace) (h : DataW.trod enc Try.prog w base spare held n 76 cs = some d) (hw : ∀ k ∈ d.1.weights Try.prog 76, k ≤ reachBytes) : ∃ q : Raw, cs = encW q ∧ KnownW w q := by
  obtain ⟨xs, n', _, rfl, hl, hlen, hf⟩ := DataW.trod_struct Try.underlying76 h
  rw [ce76] at hl
  match cs, hl, xs, hlen with
  | [a, b, c, s], _, [y0, y1, y2], _ =>
    have h0 : DataW.trod enc Try.prog w base spare held n' 24 (([a, b, c, s].drop 0).take (Try.prog.cellsOf 24)) = some y0 := hf 0 _ rfl
    have h1 : DataW.trod enc Try.prog w base spare held n' 3 (([a, b, c, s].drop 2).take (Try.prog.cellsOf 3)) = some y1 := hf 1 _ rfl
    have h2 : DataW.trod enc Try.prog w base spare held n' 26 (([a, b, c, s].drop 3).take (Try.prog.cellsOf 26)) = some y2 := hf 2 _ rfl
    have hw2 : ∀ k ∈ y2.1.weights Try.prog 26, k ≤ reachBytes := fun k hk => hw k (by
      simp only [DataW.weights, Try.underlying76]
      exact DataW.weights_mem_each (j := 2) rfl rfl k hk)
    rw [ce24] at h0
    rw [ce3] at h1
    rw [ce26] at h2
    obtain ⟨r, e0⟩ := elem_id _ _ _ h0
    obtain ⟨v, e1, _, _⟩ := DataW.trod_int Try.underlying3 h1
    obtain ⟨s', e2, l, hl, -, hlw⟩ := open_recs_sized (enc := encI) (sz := 2) (fun _ => True) Try.underlying26 ce24 encI_len (fun n cs d h _ => by obtain ⟨r, hr⟩ := elem_id n cs d h; exact ⟨r, hr, trivial⟩) (by omega) h2 hw2
    obtain ⟨A, k, rfl, _⟩ := id hl
    simp [encI] at e0 e1 e2
    rw [by24] at hlw
    exact ⟨(r, v, A, l.length, k), by simp [encW, e0, e1, e2], ⟨l, hl, wide_len hlw (by omega)⟩⟩
theorem eachR_wide {w : World} : ∀ {qs : List Raw}, (∀ q ∈ qs, KnownW w q) → ∃ l, EachR w qs l ∧ ∀ r ∈ l, r.2.2.length ≤ 8796093022208
  | [], _ => ⟨[], trivial, fun r hr => by cases hr⟩
  | q :: qs, h => by
    obtain ⟨m, hm, hl⟩ := h q (by simp)
    obtain ⟨l, h1, h2⟩ := eachR_wide (qs := qs) fun u hu => h u (List.mem_cons_of_mem _ hu)
    refine ⟨(q.1, q.2.1, m) :: l, ⟨⟨rfl, rfl, hm⟩, h1⟩, fun r hr => ?_⟩
    rcases List.mem_cons.1 hr with rfl | hr
    · exact hl
    · exact h2 r hr
theorem sl_of {α : Type} {enc : α → List Value} {sz : Nat} {w : World} {v : Value} {l : List α} (h : Rcs enc sz w v l) : ∃ s : SL, v = .slice s.1 s.2.1 s.2.2 := by
  obtain ⟨A, c, hv, _⟩ := h
  exact ⟨(A, l.length, c), hv⟩
theorem elem_view {w : World} {base : Nat} {spare : Nat → Bool} {held : Bool} {n : Nat} {cs : List Value} {d : DataW H × List MemPlace} (hf : DataW.trod enc Try.prog w base spare held n 30 cs = some d) (hw : ∀ k ∈ d.1.weights Try.prog 30, k ≤ reachBytes) :
    ∃ (a b c d e : SL) (V : Vw), cs = [.slice a.1 a.2.1 a.2.2, .slice b.1 b.2.1 b.2.2, .slice c.1 c.2.1 c.2.2, .slice d.1 d.2.1 d.2.2, .slice e.1 e.2.1 e.2.2] ∧ (∀ F, RV w ⟨F, a, b, c, d, e⟩ V) ∧ WideV V := by
  obtain ⟨xs, n', _, rfl, hl, hlen, hx⟩ := DataW.trod_struct Try.underlying30 hf
  rw [ce30] at hl
  obtain ⟨v0, v1, v2, v3, v4, rfl⟩ : ∃ v0 v1 v2 v3 v4, cs = [v0, v1, v2, v3, v4] := by
    match cs, hl with
    | [v0, v1, v2, v3, v4], _ => exact ⟨v0, v1, v2, v3, v4, rfl⟩
  match xs, hlen with
  | [y0, y1, y2, y3, y4], _ =>
    have h0 : DataW.trod enc Try.prog w base spare held n' 25 (([v0, v1, v2, v3, v4].drop 0).take (Try.prog.cellsOf 25)) = some y0 := hx 0 _ rfl
    have h1 : DataW.trod enc Try.prog w base spare held n' 26 (([v0, v1, v2, v3, v4].drop 1).take (Try.prog.cellsOf 26)) = some y1 := hx 1 _ rfl
    have h2 : DataW.trod enc Try.prog w base spare held n' 27 (([v0, v1, v2, v3, v4].drop 2).take (Try.prog.cellsOf 27)) = some y2 := hx 2 _ rfl
    have h3 : DataW.trod enc Try.prog w base spare held n' 28 (([v0, v1, v2, v3, v4].drop 3).take (Try.prog.cellsOf 28)) = some y3 := hx 3 _ rfl
    have h4 : DataW.trod enc Try.prog w base spare held n' 26 (([v0, v1, v2, v3, v4].drop 4).take (Try.prog.cellsOf 26)) = some y4 := hx 4 _ rfl
    have hk : ∀ (j : Nat) (t : TypeId) (y : DataW H), [25, 26, 27, 28, 26][j]? = some t → [y0.1, y1.1, y2.1, y3.1, y4.1][j]? = some y → ∀ k ∈ y.weights Try.prog t, k ≤ reachBytes := fun j t y ht hy k hk => hw k (by
      simp only [DataW.weights, Try.underlying30]
      exact DataW.weights_mem_each (j := j) ht hy k hk)
    rw [ce25] at h0
    rw [ce26] at h1 h4
    rw [ce27] at h2
    rw [ce28] at h3
    obtain ⟨s0, e0, m, k0, -, z0⟩ := open_recs_sized (enc := encM) (sz := 4) (fun _ => True) Try.underlying25 ce79 encM_len (fun n cs d h _ => by obtain ⟨r, hr⟩ := elem_mem n cs d h; exact ⟨r, hr, trivial⟩) (by omega) h0 (hk 0 25 y0.1 rfl rfl)
    obtain ⟨s1, e1, f, k1, -, z1⟩ := open_recs_sized (enc := encI) (sz := 2) (fun _ => True) Try.underlying26 ce24 encI_len (fun n cs d h _ => by obtain ⟨r, hr⟩ := elem_id n cs d h; exact ⟨r, hr, trivial⟩) (by omega) h1 (hk 1 26 y1.1 rfl rfl)
    obtain ⟨s2, e2, qs, k2, kw, z2⟩ := open_recs_sized (enc := encW) (sz := 4) (KnownW w) Try.underlying27 ce76 encW_len (fun n cs d h hw => elem_row n cs d h hw) (by omega) h2 (hk 2 27 y2.1 rfl rfl)
    obtain ⟨s3, e3, t, k3, -, z3⟩ := open_recs_sized (enc := encT) (sz := 3) (fun _ => True) Try.underlying28 ce81 encT_len (fun n cs d h _ => by obtain ⟨r, hr⟩ := elem_tick n cs d h; exact ⟨r, hr, trivial⟩) (by omega) h3 (hk 3 28 y3.1 rfl rfl)
    obtain ⟨s4, e4, s, k4, -, z4⟩ := open_recs_sized (enc := encI) (sz := 2) (fun _ => True) Try.underlying26 ce24 encI_len (fun n cs d h _ => by obtain ⟨r, hr⟩ := elem_id n cs d h; exact ⟨r, hr, trivial⟩) (by omega) h4 (hk 4 26 y4.1 rfl rfl)
    obtain ⟨r, hr, hrn⟩ := eachR_wide kw
    simp at e0 e1 e2 e3 e4
    subst e0 e1 e2 e3 e4
    obtain ⟨a, rfl⟩ := sl_of k0
    obtain ⟨b, rfl⟩ := sl_of k1
    obtain ⟨c, rfl⟩ := sl_of k2
    obtain ⟨d, rfl⟩ := sl_of k3
    obtain ⟨e, rfl⟩ := sl_of k4
    refine ⟨a, b, c, d, e, ⟨m, f, r, t, s⟩, rfl, fun F => ⟨k0, k1, ⟨qs, k2, hr⟩, k3, k4⟩, ⟨?_, ?_, ?_, ?_, ?_, hrn⟩⟩
    · exact wide_len z0 (by rw [by79]; omega)
    · exact wide_len z1 (by rw [by24]; omega)
    · have := wide_len z2 (by rw [by76]; omega)
      rw [hr.len] at this
      exact this
    · exact wide_len z3 (by rw [by81]; omega)
    · exact wide_len z4 (by rw [by24]; omega)
theorem list_14 {l : List Value} (h : l.length = 14) : ∃ v0 v1 v2 v3 v4 v5 v6 v7 v8 v9 va vb vc vd, l = [v0, v1, v2, v3, v4, v5, v6, v7, v8, v9, va, vb, vc, vd] := by
  match l, h with
  | [v0, v1, v2, v3, v4, v5, v6, v7, v8, v9, va, vb, vc, vd], _ => exact ⟨v0, v1, v2, v3, v4, v5, v6, v7, v8, v9, va, vb, vc, vd, rfl⟩
theorem elem_frame {w : World} {base : Nat} {spare : Nat → Bool} {held : Bool} {n : Nat} {cs : List Value} {d : DataW H × List MemPlace} (hf : DataW.trod enc Try.prog w base spare held n 32 cs = some d) (hw : ∀ k ∈ d.1.weights Try.prog 32, k ≤ reachBytes) :
    ∃ q : Fq, cs = encF q ∧ FR w q ∧ WideV q.F.v := by
  obtain ⟨xs, n', _, rfl, hl, hlen, hx⟩ := DataW.trod_struct Try.underlying32 hf
  rw [ce32] at hl
  obtain ⟨v0, v1, v2, v3, v4, v5, v6, v7, v8, v9, va, vb, vc, vd, rfl⟩ := list_14 hl
  match xs, hlen with
  | [y0, y1, y2, y3, y4, y5, y6], _ =>
    have h0 : DataW.trod enc Try.prog w base spare held n' 5 (([v0, v1, v2, v3, v4, v5, v6, v7, v8, v9, va, vb, vc, vd].drop 0).take (Try.prog.cellsOf 5)) = some y0 := hx 0 _ rfl
    have h1 : DataW.trod enc Try.prog w base spare held n' 24 (([v0, v1, v2, v3, v4, v5, v6, v7, v8, v9, va, vb, vc, vd].drop 1).take (Try.prog.cellsOf 24)) = some y1 := hx 1 _ rfl
    have h2 : DataW.trod enc Try.prog w base spare held n' 24 (([v0, v1, v2, v3, v4, v5, v6, v7, v8, v9, va, vb, vc, vd].drop 3).take (Try.prog.cellsOf 24)) = some y2 := hx 2 _ rfl
    have h3 : DataW.trod enc Try.prog w base spare held n' 3 (([v0, v1, v2, v3, v4, v5, v6, v7, v8, v9, va, vb, vc, vd].drop 5).take (Try.prog.cellsOf 3)) = some y3 := hx 3 _ rfl
    have h4 : DataW.trod enc Try.prog w base spare held n' 3 (([v0, v1, v2, v3, v4, v5, v6, v7, v8, v9, va, vb, vc, vd].drop 6).take (Try.prog.cellsOf 3)) = some y4 := hx 4 _ rfl
    have h5 : DataW.trod enc Try.prog w base spare held n' 24 (([v0, v1, v2, v3, v4, v5, v6, v7, v8, v9, va, vb, vc, vd].drop 7).take (Try.prog.cellsOf 24)) = some y5 := hx 5 _ rfl
    have h6 : DataW.trod enc Try.prog w base spare held n' 30 (([v0, v1, v2, v3, v4, v5, v6, v7, v8, v9, va, vb, vc, vd].drop 9).take (Try.prog.cellsOf 30)) = some y6 := hx 6 _ rfl
    have hw6 : ∀ k ∈ y6.1.weights Try.prog 30, k ≤ reachBytes := fun k hk => hw k (by
      simp only [DataW.weights, Try.underlying32]
      exact DataW.weights_mem_each (j := 6) rfl rfl k hk)
    rw [ce5] at h0
    rw [ce24] at h1 h2 h5
    rw [ce3] at h3 h4
    rw [ce30] at h6
    obtain ⟨k, e0, _, _⟩ := DataW.trod_int Try.underlying5 h0
    obtain ⟨r1, e1⟩ := elem_id _ _ _ h1
    obtain ⟨r2, e2⟩ := elem_id _ _ _ h2
    obtain ⟨n3, e3, _, _⟩ := DataW.trod_int Try.underlying3 h3
    obtain ⟨n4, e4, _, _⟩ := DataW.trod_int Try.underlying3 h4
    obtain ⟨r5, e5⟩ := elem_id _ _ _ h5
    obtain ⟨a, b, c, d, e', V, e6, hr, hwv⟩ := elem_view h6 hw6
    simp [encI] at e0 e1 e2 e3 e4 e5 e6
    obtain ⟨rfl, rfl⟩ := e1
    obtain ⟨rfl, rfl⟩ := e2
    obtain ⟨rfl, rfl⟩ := e5
    obtain ⟨rfl, rfl, rfl, rfl, rfl⟩ := e6
    subst e0 e3 e4
    exact ⟨⟨⟨k, r1, r2, n3, n4, r5, V⟩, a, b, c, d, e'⟩, rfl, hr _, hwv⟩
/-- A step: a kind, and a frame. -/
abbrev Sq := Int × Fq
def encS (s : Sq) : List Value := .int .u8 s.1 :: encF s.2
theorem encS_len (s : Sq) : (encS s).length = 15 := rfl
theorem elem_step {w : World} {base : Nat} {spare : Nat → Bool} {held : Bool} (n : Nat) (cs : List Value) (d : DataW H × List MemPlace) (hf : DataW.trod enc Try.prog w base spare held n 54 cs = some d) (hw : ∀ k ∈ d.1.weights Try.prog 54, k ≤ reachBytes) :
    ∃ s : Sq, cs = encS s ∧ FR w s.2 ∧ WideV s.2.F.v := by
  obtain ⟨xs, n', _, rfl, hl, hlen, hx⟩ := DataW.trod_struct Try.underlying54 hf
  rw [ce54] at hl
  match cs, hl, xs, hlen with
  | v :: cs, hl, [y0, y1], _ =>
    have h0 : DataW.trod enc Try.prog w base spare held n' 5 (((v :: cs).drop 0).take (Try.prog.cellsOf 5)) = some y0 := hx 0 _ rfl
    have h1 : DataW.trod enc Try.prog w base spare held n' 32 (((v :: cs).drop 1).take (Try.prog.cellsOf 32)) = some y1 := hx 1 _ rfl
    have hw1 : ∀ k ∈ y1.1.weights Try.prog 32, k ≤ reachBytes := fun k hk => hw k (by
      simp only [DataW.weights, Try.underlying54]
      exact DataW.weights_mem_each (j := 1) rfl rfl k hk)
    rw [ce5] at h0
    rw [ce32] at h1
    have hl2 : cs.length = 14 := by simpa using hl
    have h1' : DataW.trod enc Try.prog w base spare held n' 32 cs = some y1 := by
      rw [List.drop_succ_cons, List.drop_zero, List.take_of_length_le (by omega)] at h1
      exact h1
    obtain ⟨k, e0, _, _⟩ := DataW.trod_int Try.underlying5 h0
    obtain ⟨q, e1, hr, hwv⟩ := elem_frame h1' hw1
    simp at e0
    subst e0 e1
    exact ⟨(k, q), rfl, hr, hwv⟩
theorem open_steps {w : World} {b0 : Nat} {v : Value} {d : DataW H} {p : List MemPlace} (hv : Value.okWide Try.prog w .any b0 48 v) (h : DataW.Trod enc Try.prog w 0 (fun _ => true) true 48 v d p) (hw : ∀ k ∈ d.weights Try.prog 48, k ≤ reachBytes) :
    ∃ l : List Sq, Rcs encS 15 w v l ∧ (∀ s ∈ l, FR w s.2 ∧ WideV s.2.F.v) ∧ l.length ≤ 8796093022208 := by
  obtain ⟨A, len, cap, rfl⟩ := okWide_slice Try.underlying48 hv
  obtain ⟨fuel, hf⟩ := h
  obtain ⟨u, e, l, hl, hp, hz⟩ := open_recs_sized (enc := encS) (sz := 15) (fun s => FR w s.2 ∧ WideV s.2.F.v) Try.underlying48 ce54 encS_len (fun n cs d h hw => elem_step n cs d h hw) (by omega) hf hw
  have e2 : Value.slice A len cap = u := by simpa [Value.cells] using e
  subst e2
  exact ⟨l, hl, hp, wide_len hz (by rw [by54]; omega)⟩
def encB (b : Bool) : List Value := [.bool b]
def encU (n : Int) : List Value := [.int .u8 n]
theorem encB_len (b : Bool) : (encB b).length = 1 := rfl
theorem encU_len (n : Int) : (encU n).length = 1 := rfl
theorem open_bools {w : World} {b0 : Nat} {v : Value} {d : DataW H} {p : List MemPlace} (hv : Value.okWide Try.prog w .any b0 64 v) (h : DataW.Trod enc Try.prog w 0 (fun _ => true) true 64 v d p) :
    ∃ l : List Bool, Rcs encB 1 w v l := by
  obtain ⟨A, len, cap, rfl⟩ := okWide_slice Try.underlying64 hv
  obtain ⟨fuel, hf⟩ := h
  obtain ⟨u, e, l, hl⟩ := open_recs (enc := encB) (sz := 1) Try.underlying64 ce4 encB_len (fun n cs d h => by obtain ⟨q, e0, _⟩ := DataW.trod_bool Try.underlying4 h; exact ⟨q, e0⟩) (by omega) hf
  have e2 : Value.slice A len cap = u := by simpa [Value.cells] using e
  subst e2
  exact ⟨l, hl⟩
theorem open_bytes {w : World} {b0 : Nat} {v : Value} {d : DataW H} {p : List MemPlace} (hv : Value.okWide Try.prog w .any b0 63 v) (h : DataW.Trod enc Try.prog w 0 (fun _ => true) true 63 v d p) :
    ∃ l : List Int, Rcs encU 1 w v l := by
  obtain ⟨A, len, cap, rfl⟩ := okWide_slice Try.underlying63 hv
  obtain ⟨fuel, hf⟩ := h
  obtain ⟨u, e, l, hl⟩ := open_recs (enc := encU) (sz := 1) Try.underlying63 ce5 encU_len (fun n cs d h => by obtain ⟨q, e0, _, _⟩ := DataW.trod_int Try.underlying5 h; exact ⟨q, e0⟩) (by omega) hf
  have e2 : Value.slice A len cap = u := by simpa [Value.cells] using e
  subst e2
  exact ⟨l, hl⟩
theorem sized_weights {ts : List TypeId} {ds gs : List (DataW H)} {rs : List TypeId} (h : (DataW.weightsEach Try.prog (ts ++ rs) (ds ++ gs)).all (· ≤ reachBytes) = true) {j : Nat} {t : TypeId} {d : DataW H} (ht : ts[j]? = some t) (hd : ds[j]? = some d) : ∀ k ∈ d.weights Try.prog t, k ≤ reachBytes := by
  intro k hk
  have h1 : (ts ++ rs)[j]? = some t := by rw [List.getElem?_append_left (List.getElem?_eq_some_iff.1 ht).1]; exact ht
  have h2 : (ds ++ gs)[j]? = some d := by rw [List.getElem?_append_left (List.getElem?_eq_some_iff.1 hd).1]; exact hd
  simpa using List.all_eq_true.1 h k (DataW.weights_mem_each (j := j) h1 h2 k hk)
end
end Go.Proofs.Ytmgiglefabbmcaa
