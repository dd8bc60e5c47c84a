/-
  Arguments opened: steps of which no list is longer than a machine bears; lists of draws. No statement is proved in this text.
-/
import Derived.Test.YtmgkbfhkipfimaaWlkI
import Derived.Test.YtmgkbfhkipfimaaIdeBase
import Derived.Test.YtmgkbfhkipfimaaIdeOpen
import Derived.Lib.SmallJoins
import Derived.Deep.SlicePairs
import Derived.SizedLaws
set_option maxRecDepth 20000
namespace Go.Proofs.Ytmgkbfhkipfimaa
open Go Go.RowKit Go.WideShapes Go.ChangeShapes Go.ChangeAt Sets
section
variable {α : Type} {H : Type} {enc' : TypeId × Value → H} {P : Program} {w : World} {base : Nat} {spare : Nat → Bool} {held : Bool} {enc : α → List Value} {sz : Nat}
theorem weightsAll_mem {e : TypeId} : ∀ {l : List (DataW H)} {d : DataW H}, d ∈ l → ∀ k ∈ d.weights P e, k ∈ DataW.weightsAll P e l
  | x :: l, d, hd, k, hk => by
    unfold DataW.weightsAll
    rcases List.mem_cons.1 hd with rfl | hd
    · exact List.mem_append_left _ hk
    · exact List.mem_append_right _ (weightsAll_mem hd k hk)
theorem open_recs_sized (Pr : α → Prop) {t e : TypeId} {fuel : Nat} {cs : List Value} {x : DataW H × List MemPlace} (ht : P.underlying t = some (.slice e)) (ce : P.cellsOf e = sz) (hs : ∀ a, (enc a).length = sz)
    (elem : ∀ (n : Nat) (cs : List Value) (d : DataW H × List MemPlace), DataW.trod enc' P w base spare held n e cs = some d → (∀ k ∈ d.1.weights P e, k ≤ reachBytes) → ∃ r : α, cs = enc r ∧ Pr r)
    (hsz : 0 < sz) (h : DataW.trod enc' P w base spare held fuel t cs = some x) (hw : ∀ k ∈ x.1.weights P t, k ≤ reachBytes) : ∃ v, cs = [v] ∧ ∃ l : List α, Rcs enc sz w v l ∧ (∀ r ∈ l, Pr r) ∧ l.length * P.bytesOf e ≤ reachBytes := by
  rcases Deep.open_slice ht h with ⟨rfl, _⟩ | ⟨a, len, cap, m, n, D, Pl, rfl, hb, hl, hm, hmm, rfl, hx⟩
  · exact ⟨_, rfl, [], Rcs.nil w, (fun r hr => by cases hr), by simp⟩
  · have hlm : len ≤ m := by rw [hmm]; split <;> omega
    have hD : ∀ i, i < len → ∀ k ∈ (D i).weights P e, k ≤ reachBytes := fun i hi k hk => hw k (by
      simp only [DataW.weights, ht]
      exact List.mem_cons_of_mem _ (List.mem_append_left _ (weightsAll_mem (List.mem_map.2 ⟨i, List.mem_range.2 hi, rfl⟩) k hk)))
    have hlen : len * P.bytesOf e ≤ reachBytes := by
      have := hw ((len + (m - len)) * P.bytesOf e) (by simp [DataW.weights, ht])
      exact Nat.le_trans (Nat.mul_le_mul_right _ (Nat.le_add_right _ _)) this
    have each : ∀ i, i < len → ∃ r : α, Pr r ∧ ∀ j u, (enc r)[j]? = some u → w.cell? ((a.add (i * sz)).add j) = some u := by
      intro i hi
      obtain ⟨cs', h1, h2⟩ := hx i (by omega)
      rw [ce] at h1
      obtain ⟨r, rfl, hp⟩ := elem _ _ _ h2 (hD i hi)
      obtain ⟨_, hlen, hcell⟩ := World.cells?_some h1
      refine ⟨r, hp, fun j u hu => ?_⟩
      have hj := (List.getElem?_eq_some_iff.1 hu).1
      rw [hs] at hj
      rw [hcell j hj]
      exact hu
    obtain ⟨q, hq, hpq⟩ : ∃ q : List α, (q.length = len ∧ ∀ i (h : i < q.length), ∀ j u, (enc q[i])[j]? = some u → w.cell? ((a.add (i * sz)).add j) = some u) ∧ ∀ r ∈ q, Pr r := by
      clear hx hlm hmm hl hm h hD hlen hw
      induction len with
      | zero => exact ⟨[], ⟨rfl, fun i h => absurd h (by simp)⟩, fun r hr => by cases hr⟩
      | succ len ih =>
        obtain ⟨q, ⟨h1, h2⟩, h3⟩ := ih (fun i hi => each i (by omega))
        obtain ⟨r, hp, hr⟩ := each len (by omega)
        refine ⟨q ++ [r], ⟨by simp [h1], fun i hi j u hu => ?_⟩, fun u hu => ?_⟩
        rotate_left
        · rcases List.mem_append.1 hu with hu | hu
          · exact h3 u hu
          · rw [List.mem_singleton.1 hu]; exact hp
        rw [List.length_append] at hi
        by_cases e : i < q.length
        · rw [List.getElem_append_left e] at hu
          exact h2 i e j u hu
        · have : i = q.length := by simp at hi; omega
          subst this
          rw [List.getElem_append_right (Nat.le_refl _)] at hu
          simp at hu
          rw [h1]
          exact hr j u hu
    refine ⟨_, rfl, q, ⟨some a, cap, by rw [hq.1], (fun h => by cases h), by rw [hq.1]; exact hl, fun k hk => ⟨a, rfl, ?_, fun j u hu => ?_⟩⟩, hpq, by rw [hq.1]; exact hlen⟩
    · have hcl : 0 < (enc q[k]).length := by rw [hs]; exact hsz
      have := hq.2 k hk 0 _ (List.getElem?_eq_getElem hcl)
      have := World.block_lt_of_cell? w _ this
      rwa [addr_block, addr_block] at this
    · have := hq.2 k hk j u hu
      rcases Nat.eq_zero_or_pos (k * sz) with e | e
      · rw [e] at this ⊢
        rw [Nat.zero_add]
        have e2 : a.add 0 = a := by unfold Addr.add; simp
        rwa [e2] at this
      · rwa [addr_add_add _ _ _ e] at this
end
section
variable {H : Type} {enc : TypeId × Value → H}
theorem by24 : Try.prog.bytesOf 24 = 16 := by kernel_rfl
theorem by41 : Try.prog.bytesOf 41 = 32 := by kernel_rfl
theorem ce24 : Try.prog.cellsOf 24 = 2 := by kernel_rfl
theorem ce27 : Try.prog.cellsOf 27 = 1 := by kernel_rfl
theorem ce29 : Try.prog.cellsOf 29 = 1 := by kernel_rfl
theorem ce41 : Try.prog.cellsOf 41 = 2 := by kernel_rfl
theorem wide_len {n k : Nat} (h : n * k ≤ reachBytes) (hk : 16 ≤ k) : n ≤ 8796093022208 := by
  have h1 : n * 16 ≤ reachBytes := Nat.le_trans (Nat.mul_le_mul_left _ hk) h
  have h2 : reachBytes = 140737488351232 := rfl
  omega
theorem elem_idJ {w : World} {base : Nat} {spare : Nat → Bool} {held : Bool} (n : Nat) (cs : List Value) (d : DataW H × List MemPlace) (h : DataW.trod enc Try.prog w base spare held n 24 cs = some d) : ∃ r : Id2, cs = encJ r := by
  obtain ⟨y0, y1, n', _, hl, h0, h1⟩ := trod_struct2 Try.underlying24 h
  rw [ce24] at hl
  match cs, hl with
  | [a, b], _ =>
    rw [show Try.prog.cellsOf 3 = 1 from cells3] at h0 h1
    obtain ⟨x, e0, _, _⟩ := DataW.trod_int Try.underlying3 h0
    obtain ⟨y, e1, _, _⟩ := DataW.trod_int Try.underlying3 h1
    simp at e0 e1
    exact ⟨(x, y), by simp [encJ, e0, e1]⟩
theorem elem_step {w : World} {base : Nat} {spare : Nat → Bool} {held : Bool} (n : Nat) (cs : List Value) (d : DataW H × List MemPlace) (h : DataW.trod enc Try.prog w base spare held n 41 cs = some d) (hw : ∀ k ∈ d.1.weights Try.prog 41, k ≤ reachBytes) :
    ∃ s : St, cs = encS s ∧ StOk w s ∧ s.l.length ≤ 8796093022208 := by
  obtain ⟨xs, n', _, rfl, hl, hlen, hf⟩ := DataW.trod_struct Try.underlying41 h
  rw [ce41] at hl
  match cs, hl, xs, hlen with
  | [a, b], _, [y0, y1], _ =>
    have h0 : DataW.trod enc Try.prog w base spare held n' 27 (([a, b].drop 0).take (Try.prog.cellsOf 27)) = some y0 := hf 0 _ rfl
    have h1 : DataW.trod enc Try.prog w base spare held n' 29 (([a, b].drop 1).take (Try.prog.cellsOf 29)) = some y1 := hf 1 _ rfl
    have hw0 : ∀ k ∈ y0.1.weights Try.prog 27, k ≤ reachBytes := fun k hk => hw k (by
      simp only [DataW.weights, Try.underlying41]
      exact DataW.weights_mem_each (j := 0) rfl rfl k hk)
    rw [ce27] at h0
    rw [ce29] at h1
    obtain ⟨v, e1, _, w1⟩ := DataW.trod_int Try.underlying29 h1
    obtain ⟨s', e2, l, hl, -, hlw⟩ := open_recs_sized (enc := encJ) (sz := 2) (fun _ => True) Try.underlying27 ce24 encJ_len (fun n cs d h _ => by obtain ⟨r, hr⟩ := elem_idJ n cs d h; exact ⟨r, hr, trivial⟩) (by omega) h0 hw0
    obtain ⟨A, k, rfl, _⟩ := id hl
    simp at e1 e2
    rw [by24] at hlw
    obtain ⟨k1, k2⟩ := in_u32 w1
    obtain ⟨m, rfl⟩ := Int.eq_ofNat_of_zero_le k1
    exact ⟨⟨A, k, l, m⟩, by simp [encS, e1, e2], ⟨ids_rcs hl, by show m < 4294967296; omega⟩, wide_len hlw (by omega)⟩
theorem open_steps {w : World} {b0 : Nat} {v : Value} {d : DataW H} {p : List MemPlace} (hv : Value.okWide Try.prog w .any b0 35 v) (h : DataW.Trod enc Try.prog w 0 (fun _ => true) true 35 v d p) (hw : ∀ k ∈ d.weights Try.prog 35, k ≤ reachBytes) :
    ∃ l : List St, Rcs encS 2 w v l ∧ (∀ s ∈ l, StOk w s ∧ s.l.length ≤ 8796093022208) ∧ l.length ≤ 8796093022208 := by
  obtain ⟨A, len, cap, rfl⟩ := okWide_slice Try.underlying35 hv
  obtain ⟨fuel, hf⟩ := h
  obtain ⟨u, e, l, hl, hp, hz⟩ := open_recs_sized (enc := encS) (sz := 2) (fun s => StOk w s ∧ s.l.length ≤ 8796093022208) Try.underlying35 ce41 encS_len (fun n cs d h hw => elem_step n cs d h hw) (by omega) hf hw
  have e2 : Value.slice A len cap = u := by simpa [Value.cells] using e
  subst e2
  exact ⟨l, hl, hp, wide_len hz (by rw [by41]; omega)⟩
theorem open_draws {w : World} {b0 : Nat} {v : Value} {d : DataW H} {p : List MemPlace} (hv : Value.okWide Try.prog w .any b0 46 v) (h : DataW.Trod enc Try.prog w 0 (fun _ => true) true 46 v d p) :
    ∃ l : List Nat, Rcs encD 1 w v l ∧ ∀ n ∈ l, n < 4294967296 := by
  obtain ⟨A, len, cap, rfl⟩ := okWide_slice Try.underlying46 hv
  obtain ⟨fuel, hf⟩ := h
  obtain ⟨u, e, l, hl, hp⟩ := open_recs_with (enc := encD) (sz := 1) (fun n => n < 4294967296) Try.underlying46 ce29 encD_len (fun n cs d h => by
    obtain ⟨q, e0, _, w0⟩ := DataW.trod_int Try.underlying29 h
    obtain ⟨k1, k2⟩ := in_u32 w0
    obtain ⟨m, rfl⟩ := Int.eq_ofNat_of_zero_le k1
    exact ⟨m, e0, by omega⟩) (by omega) hf
  have e2 : Value.slice A len cap = u := by simpa [Value.cells] using e
  subst e2
  exact ⟨l, hl, hp⟩
theorem sized_weights {ts : List TypeId} {ds gs : List (DataW H)} {rs : List TypeId} (h : (DataW.weightsEach Try.prog (ts ++ rs) (ds ++ gs)).all (· ≤ reachBytes) = true) {j : Nat} {t : TypeId} {d : DataW H} (ht : ts[j]? = some t) (hd : ds[j]? = some d) : ∀ k ∈ d.weights Try.prog t, k ≤ reachBytes := by
  intro k hk
  have h1 : (ts ++ rs)[j]? = some t := by rw [List.getElem?_append_left (List.getElem?_eq_some_iff.1 ht).1]; exact ht
  have h2 : (ds ++ gs)[j]? = some d := by rw [List.getElem?_append_left (List.getElem?_eq_some_iff.1 hd).1]; exact hd
  simpa using List.all_eq_true.1 h k (DataW.weights_mem_each (j := j) h1 h2 k hk)
end
end Go.Proofs.Ytmgkbfhkipfimaa
