/-
  Carried over and put together: contracts of this program's functions, and plain facts. No statement is proved in this text.
-/
import Derived.SizedLaws
import Derived.Test.YtloghkiabgnpnaaDoorH15
import Derived.Test.YtloghkiabgnpnaaDoorH16
namespace Go.Proofs.YtloghkiabgnpnaaDoor
open Go Go.RowKit Go.WideShapes Go.ChangeShapes Go.ChangeAt
section
variable {α : Type} {H : Type} {enc' : TypeId × Value → H} {P : Program} {w : World} {base : Nat} {spare : Nat → Bool} {held : Bool} {enc : α → List Value} {sz : Nat}
theorem weightsAll_mem {e : TypeId} : ∀ {l : List (DataW H)} {d : DataW H}, d ∈ l → ∀ k ∈ d.weights P e, k ∈ DataW.weightsAll P e l
  | x :: l, d, hd, k, hk => by
    unfold DataW.weightsAll
    rcases List.mem_cons.1 hd with rfl | hd
    · exact List.mem_append_left _ hk
    · exact List.mem_append_right _ (weightsAll_mem hd k hk)
theorem open_recs_sized [Inhabited α] (Pr : α → Prop) {t e : TypeId} {fuel : Nat} {cs : List Value} {x : DataW H × List MemPlace} (ht : P.underlying t = some (.slice e)) (ce : P.cellsOf e = sz) (hs : ∀ a, (enc a).length = sz)
    (elem : ∀ (n : Nat) (cs : List Value) (d : DataW H × List MemPlace), DataW.trod enc' P w base spare held n e cs = some d → (∀ k ∈ d.1.weights P e, k ≤ reachBytes) → ∃ r : α, cs = enc r ∧ Pr r)
    (hsz : 0 < sz) (h : DataW.trod enc' P w base spare held fuel t cs = some x) (hw : ∀ k ∈ x.1.weights P t, k ≤ reachBytes) : ∃ v, cs = [v] ∧ ∃ l : List α, Rcs enc sz w v l ∧ (∀ r ∈ l, Pr r) ∧ l.length * P.bytesOf e ≤ reachBytes := by
  rcases Deep.open_slice ht h with ⟨rfl, _⟩ | ⟨a, len, cap, m, n, D, Pl, rfl, hb, hl, hm, hmm, rfl, hx⟩
  · exact ⟨_, rfl, [], Rcs.nil w, (fun r hr => by cases hr), by simp⟩
  · have hlm : len ≤ m := by rw [hmm]; split <;> omega
    have hD : ∀ i, i < len → ∀ k ∈ (D i).weights P e, k ≤ reachBytes := fun i hi k hk => hw k (by
      simp only [DataW.weights, ht]
      exact List.mem_cons_of_mem _ (List.mem_append_left _ (weightsAll_mem (List.mem_map.2 ⟨i, List.mem_range.2 hi, rfl⟩) k hk)))
    have hlen : len * P.bytesOf e ≤ reachBytes := by
      have := hw ((len + (m - len)) * P.bytesOf e) (by simp [DataW.weights, ht])
      exact Nat.le_trans (Nat.mul_le_mul_right _ (Nat.le_add_right _ _)) this
    have each : ∀ i, i < len → ∃ r : α, Pr r ∧ ∀ j u, (enc r)[j]? = some u → w.cell? ((a.add (i * sz)).add j) = some u := by
      intro i hi
      obtain ⟨cs', h1, h2⟩ := hx i (by omega)
      rw [ce] at h1
      obtain ⟨r, rfl, hp⟩ := elem _ _ _ h2 (hD i hi)
      obtain ⟨_, hlen, hcell⟩ := World.cells?_some h1
      refine ⟨r, hp, fun j u hu => ?_⟩
      have hj := (List.getElem?_eq_some_iff.1 hu).1
      rw [hs] at hj
      rw [hcell j hj]
      exact hu
    obtain ⟨q, hq, hpq⟩ : ∃ q : List α, (q.length = len ∧ ∀ i (h : i < q.length), ∀ j u, (enc q[i])[j]? = some u → w.cell? ((a.add (i * sz)).add j) = some u) ∧ ∀ r ∈ q, Pr r := by
      clear hx hlm hmm hl hm h hD hlen hw
      induction len with
      | zero => exact ⟨[], ⟨rfl, fun i h => absurd h (by simp)⟩, fun r hr => by cases hr⟩
      | succ len ih =>
        obtain ⟨q, ⟨h1, h2⟩, h3⟩ := ih (fun i hi => each i (by omega))
        obtain ⟨r, hp, hr⟩ := each len (by omega)
        refine ⟨q ++ [r], ⟨by simp [h1], fun i hi j u hu => ?_⟩, fun u hu => ?_⟩
        rotate_left
        · rcases List.mem_append.1 hu with hu | hu
          · exact h3 u hu
          · rw [List.mem_singleton.1 hu]; exact hp
        rw [List.length_append] at hi
        by_cases e : i < q.length
        · rw [List.getElem_append_left e] at hu
          exact h2 i e j u hu
        · have : i = q.length := by simp at hi; omega
          subst this
          rw [List.getElem_append_right (Nat.le_refl _)] at hu
          simp at hu
          rw [h1]
          exact hr j u hu
    refine ⟨_, rfl, q, ⟨some a, cap, by rw [hq.1], (fun h => by cases h), by rw [hq.1]; exact hl, fun k hk => ⟨a, rfl, ?_, fun j u hu => ?_⟩⟩, hpq, by rw [hq.1]; exact hlen⟩
    · have hcl : 0 < (enc q[k]).length := by rw [hs]; exact hsz
      have := hq.2 k hk 0 _ (List.getElem?_eq_getElem hcl)
      have := World.block_lt_of_cell? w _ this
      rwa [addr_block, addr_block] at this
    · have := hq.2 k hk j u hu
      rcases Nat.eq_zero_or_pos (k * sz) with e | e
      · rw [e] at this ⊢
        rw [Nat.zero_add]
        have e2 : a.add 0 = a := by unfold Addr.add; simp
        rwa [e2] at this
      · rwa [addr_add_add _ _ _ e] at this
end
section
variable {H : Type} {enc : TypeId × Value → H}
/-- No list is longer than a machine bears. -/
structure WideV (V : Vw) : Prop where
  m : V.m.length ≤ 8796093022208
  f : V.f.length ≤ 8796093022208
  r : V.r.length ≤ 8796093022208
  c : V.c.length ≤ 8796093022208
  s : V.s.length ≤ 8796093022208
  n : ∀ r ∈ V.r, r.2.2.length ≤ 8796093022208
  u : ∀ x ∈ V.m, 0 ≤ x.2.1 ∧ x.2.1 < 256
theorem bytes25 : Tryd.prog.bytesOf 32 = 16 := by kernel_rfl
theorem bytes24 : Tryd.prog.bytesOf 52 = 0x20 := by kernel_rfl
theorem bytes26 : Tryd.prog.bytesOf 37 = 48 := by kernel_rfl
theorem bytes27 : Tryd.prog.bytesOf 106 = 0x18 := by kernel_rfl
theorem wide_len {n k : Nat} (h : n * k ≤ reachBytes) (hk : 16 ≤ k) : n ≤ 8796093022208 := by
  have h1 : n * 16 ≤ reachBytes := Nat.le_trans (Nat.mul_le_mul_left _ hk) h
  have h2 : reachBytes = 140737488351232 := rfl
  omega
theorem velem_mem_in {w : World} {base : Nat} {spare : Nat → Bool} {held : Bool} (n : Nat) (cs : List Value) (d : DataW H × List MemPlace) (h : DataW.trod enc Tryd.prog w base spare held n 52 cs = some d) : ∃ r : Ros.Mm, cs = encM r ∧ 0 ≤ r.2.1 ∧ r.2.1 < 256 := by
  obtain ⟨xs, n', _, _, hl, hlen, hf⟩ := DataW.trod_struct Tryd.underlying52 h
  rw [vcells31] at hl
  match cs, hl, xs, hlen with
  | [a, b, c, s], _, [y0, y1, y2], _ =>
    have h0 : DataW.trod enc Tryd.prog w base spare held n' 32 (([a, b, c, s].drop 0).take (Tryd.prog.cellsOf 32)) = some y0 := hf 0 _ rfl
    have h1 : DataW.trod enc Tryd.prog w base spare held n' 5 (([a, b, c, s].drop 2).take (Tryd.prog.cellsOf 5)) = some y1 := hf 1 _ rfl
    have h2 : DataW.trod enc Tryd.prog w base spare held n' 3 (([a, b, c, s].drop 3).take (Tryd.prog.cellsOf 3)) = some y2 := hf 2 _ rfl
    rw [show Tryd.prog.cellsOf 32 = 2 from vcells29] at h0
    rw [show Tryd.prog.cellsOf 5 = 1 from vcells5] at h1
    rw [show Tryd.prog.cellsOf 3 = 1 from vcells3] at h2
    obtain ⟨r, e0⟩ := velem_id _ _ _ h0
    obtain ⟨v, e1, _, hwf⟩ := DataW.trod_int Tryd.underlying5 h1
    obtain ⟨u, e2, _, _⟩ := DataW.trod_int Tryd.underlying3 h2
    simp [encI] at e0 e1 e2
    refine ⟨(r, v, u), by simp [encM, e0, e1, e2], ?_⟩
    simp [Lit.wf, IntKind.min, IntKind.max, IntKind.signed, IntKind.bits] at hwf
    exact ⟨by show 0 ≤ v; omega, by show v < 256; omega⟩
/-- A row's list reads, and is no longer than a machine bears. -/
def KnownW (w : World) (q : Raw) : Prop := ∃ m, Ids w (slc q) m ∧ m.length ≤ 8796093022208
theorem velem_row_in {w : World} {base : Nat} {spare : Nat → Bool} {held : Bool} (n : Nat) (cs : List Value) (d : DataW H × List MemPlace) (h : DataW.trod enc Tryd.prog w base spare held n 37 cs = some d) (hw : ∀ k ∈ d.1.weights Tryd.prog 37, k ≤ reachBytes) : ∃ q : Raw, cs = encW q ∧ KnownW w q := by
  obtain ⟨xs, n', _, rfl, hl, hlen, hf⟩ := DataW.trod_struct Tryd.underlying37 h
  rw [vcells46] at hl
  match cs, hl, xs, hlen with
  | [a, b, c, s], _, [y0, y1, y2], _ =>
    have h0 : DataW.trod enc Tryd.prog w base spare held n' 32 (([a, b, c, s].drop 0).take (Tryd.prog.cellsOf 32)) = some y0 := hf 0 _ rfl
    have h1 : DataW.trod enc Tryd.prog w base spare held n' 3 (([a, b, c, s].drop 2).take (Tryd.prog.cellsOf 3)) = some y1 := hf 1 _ rfl
    have h2 : DataW.trod enc Tryd.prog w base spare held n' 25 (([a, b, c, s].drop 3).take (Tryd.prog.cellsOf 25)) = some y2 := hf 2 _ rfl
    have hw2 : ∀ k ∈ y2.1.weights Tryd.prog 25, k ≤ reachBytes := fun k hk => hw k (by
      simp only [DataW.weights, Tryd.underlying37]
      exact DataW.weights_mem_each (j := 2) rfl rfl k hk)
    rw [show Tryd.prog.cellsOf 32 = 2 from vcells29] at h0
    rw [show Tryd.prog.cellsOf 3 = 1 from vcells3] at h1
    rw [show Tryd.prog.cellsOf 25 = 1 from vcells23] at h2
    obtain ⟨r, e0⟩ := velem_id _ _ _ h0
    obtain ⟨v, e1, _, _⟩ := DataW.trod_int Tryd.underlying3 h1
    obtain ⟨s', e2, l, hl, -, hlw⟩ := open_recs_sized (enc := encI) (sz := 2) (fun _ => True) Tryd.underlying25 vcells29 encI_len (fun n cs d h _ => by obtain ⟨r, hr⟩ := velem_id n cs d h; exact ⟨r, hr, trivial⟩) (by omega) h2 hw2
    have hI := ids_rcs hl
    obtain ⟨A, k, rfl, _⟩ := id hI
    simp [encI] at e0 e1 e2
    rw [bytes25] at hlw
    exact ⟨(r, v, A, l.length, k), by simp [encW, slc, e0, e1, e2], ⟨l, hI, wide_len hlw (by omega)⟩⟩
theorem eachReads_wide {w : World} : ∀ {qs : List Raw}, (∀ q ∈ qs, KnownW w q) → ∃ l, EachReads w qs l ∧ ∀ r ∈ l, r.2.2.length ≤ 8796093022208
  | [], _ => ⟨[], trivial, fun r hr => by cases hr⟩
  | q :: qs, h => by
    obtain ⟨m, hm, hl⟩ := h q (by simp)
    obtain ⟨l, h1, h2⟩ := eachReads_wide (qs := qs) fun u hu => h u (List.mem_cons_of_mem _ hu)
    refine ⟨(q.1, q.2.1, m) :: l, ⟨⟨rfl, rfl, hm⟩, h1⟩, fun r hr => ?_⟩
    rcases List.mem_cons.1 hr with rfl | hr
    · exact hl
    · exact h2 r hr
theorem open_view_wide {w : World} {b0 : Nat} {v : Value} {d : DataW H} {p : List MemPlace} (hv : Value.okWide Tryd.prog w .any b0 29 v) (h : DataW.Trod enc Tryd.prog w 0 (fun _ => true) true 29 v d p) (hw : ∀ k ∈ d.weights Tryd.prog 29, k ≤ reachBytes) :
    ∃ V : Vw, VAt w v V ∧ WideV V := by
  obtain ⟨cs, rfl, hsz⟩ := okWide_struct Tryd.underlying29 hv
  obtain ⟨fuel, hf⟩ := h
  obtain ⟨xs, n', _, hd, hl, hlen, hx⟩ := DataW.trod_struct Tryd.underlying29 hf
  obtain ⟨rfl, -⟩ := Prod.mk.inj hd
  rw [vcells27] at hl
  have hcs : (Value.agg cs).cells.toList = cs.toList := rfl
  obtain ⟨v0, v1, v2, v3, v4, e⟩ : ∃ v0 v1 v2 v3 v4, cs.toList = [v0, v1, v2, v3, v4] := by
    have hl2 : cs.toList.length = 5 := by rw [← hcs]; exact hl
    match h5 : cs.toList, hl2 with
    | [v0, v1, v2, v3, v4], _ => exact ⟨v0, v1, v2, v3, v4, rfl⟩
  rw [hcs, e] at hx
  match xs, hlen with
  | [y0, y1, y2, y3, y4], _ =>
    have h0 : DataW.trod enc Tryd.prog w 0 (fun _ => true) true n' 24 (([v0, v1, v2, v3, v4].drop 0).take (Tryd.prog.cellsOf 24)) = some y0 := hx 0 _ rfl
    have h1 : DataW.trod enc Tryd.prog w 0 (fun _ => true) true n' 25 (([v0, v1, v2, v3, v4].drop 1).take (Tryd.prog.cellsOf 25)) = some y1 := hx 1 _ rfl
    have h2 : DataW.trod enc Tryd.prog w 0 (fun _ => true) true n' 26 (([v0, v1, v2, v3, v4].drop 2).take (Tryd.prog.cellsOf 26)) = some y2 := hx 2 _ rfl
    have h3 : DataW.trod enc Tryd.prog w 0 (fun _ => true) true n' 27 (([v0, v1, v2, v3, v4].drop 3).take (Tryd.prog.cellsOf 27)) = some y3 := hx 3 _ rfl
    have h4 : DataW.trod enc Tryd.prog w 0 (fun _ => true) true n' 25 (([v0, v1, v2, v3, v4].drop 4).take (Tryd.prog.cellsOf 25)) = some y4 := hx 4 _ rfl
    have hk : ∀ (j : Nat) (t : TypeId) (y : DataW H), [24, 25, 26, 27, 25][j]? = some t → [y0.1, y1.1, y2.1, y3.1, y4.1][j]? = some y → ∀ k ∈ y.weights Tryd.prog t, k ≤ reachBytes := fun j t y ht hy k hk => hw k (by
      simp only [DataW.weights, Tryd.underlying29]
      exact DataW.weights_mem_each (j := j) ht hy k hk)
    rw [show Tryd.prog.cellsOf 24 = 1 from vcells22] at h0
    rw [show Tryd.prog.cellsOf 25 = 1 from vcells23] at h1 h4
    rw [show Tryd.prog.cellsOf 26 = 1 from vcells24] at h2
    rw [show Tryd.prog.cellsOf 27 = 1 from vcells25] at h3
    obtain ⟨s0, e0, m, k0, q0, z0⟩ := open_recs_sized (enc := encM) (sz := 4) (fun r => 0 ≤ r.2.1 ∧ r.2.1 < 256) Tryd.underlying24 vcells31 encM_len (fun n cs d h _ => velem_mem_in n cs d h) (by omega) h0 (hk 0 24 y0.1 rfl rfl)
    obtain ⟨s1, e1, f, k1, -, z1⟩ := open_recs_sized (enc := encI) (sz := 2) (fun _ => True) Tryd.underlying25 vcells29 encI_len (fun n cs d h _ => by obtain ⟨r, hr⟩ := velem_id n cs d h; exact ⟨r, hr, trivial⟩) (by omega) h1 (hk 1 25 y1.1 rfl rfl)
    obtain ⟨s2, e2, qs, k2, kw, z2⟩ := open_recs_sized (enc := encW) (sz := 4) (KnownW w) Tryd.underlying26 vcells46 encW_len (fun n cs d h hw => velem_row_in n cs d h hw) (by omega) h2 (hk 2 26 y2.1 rfl rfl)
    obtain ⟨s3, e3, t, k3, -, z3⟩ := open_recs_sized (enc := encT) (sz := 3) (fun _ => True) Tryd.underlying27 vcells48 encT_len (fun n cs d h _ => by obtain ⟨r, hr⟩ := velem_tick n cs d h; exact ⟨r, hr, trivial⟩) (by omega) h3 (hk 3 27 y3.1 rfl rfl)
    obtain ⟨s4, e4, s, k4, -, z4⟩ := open_recs_sized (enc := encI) (sz := 2) (fun _ => True) Tryd.underlying25 vcells29 encI_len (fun n cs d h _ => by obtain ⟨r, hr⟩ := velem_id n cs d h; exact ⟨r, hr, trivial⟩) (by omega) h4 (hk 4 25 y4.1 rfl rfl)
    obtain ⟨r, hr, hrn⟩ := eachReads_wide kw
    simp at e0 e1 e2 e3 e4
    subst e0 e1 e2 e3 e4
    have hcs2 : cs = #[v0, v1, v2, v3, v4] := Array.toList_inj.1 e
    rw [hcs2]
    refine ⟨⟨m, f, r, t, s⟩, vAt_of k0 (ids_rcs k1) ⟨qs, k2, hr⟩ k3 (ids_rcs k4), ⟨?_, ?_, ?_, ?_, ?_, hrn, q0⟩⟩
    · exact wide_len z0 (by rw [bytes24]; omega)
    · exact wide_len z1 (by rw [bytes25]; omega)
    · have := wide_len z2 (by rw [bytes26]; omega)
      rw [hr.len] at this
      exact this
    · exact wide_len z3 (by rw [bytes27]; omega)
    · exact wide_len z4 (by rw [bytes25]; omega)
end
end Go.Proofs.YtloghkiabgnpnaaDoor
namespace Go.Proofs.YtloghkiabgnpnaaDoor
open Go Go.RowKit
/-- How many lists of rows hold. -/
def sumN (rs : List Agr.Row) : Nat := (rs.map fun r => r.2.2.length).sum
theorem sumN_next {rs : List Agr.Row} {k : Nat} (hk : k < rs.length) : sumN (rs.take (k + 1)) = sumN (rs.take k) + rs[k].2.2.length := by
  unfold sumN
  rw [List.take_succ_eq_append_getElem hk, List.map_append, List.sum_append]
  simp
/-- A view of which all is less than five hundred. -/
def FitL (V : Vw) : Prop := V.m.length + V.f.length + V.c.length + V.s.length + V.r.length + sumN V.r < 500
theorem FitL.fit {V : Vw} (h : FitL V) : FitA V := by
  unfold FitL at h
  exact ⟨by omega, by omega, by omega, Nat.le_trans (show sumN V.r ≤ 499 by omega) (by omega)⟩
/-- What is answered on whether a view is great. -/
def LargeAns (V : Vw) (w : World) (e : Ending) (w' : World) : Prop := ∃ z, e = .returned (.bool z) ∧ (z = false → FitL V) ∧ Below w.heap.size w w'
theorem large_ans {V : Vw} {w w' : World} {n : Nat} (h : decide (500 ≤ n) = false → FitL V) (hb : Below w.heap.size w w') : LargeAns V w (.returned (.bool (decide (500 ≤ n)))) w' := ⟨_, rfl, h, hb⟩
set_option maxHeartbeats 4000000 in
theorem large_any (v : Value) (V : Vw) (w : World) (h : VAt w v V) (hW : WideV V) : Calls Tryd.prog 17 #[v] w (LargeAns V w) := by
  obtain ⟨a, b, c, d, e, rfl, hr⟩ := h
  have G1 := Lib.hid (agV_new hr)
  have BB := Lib.hid (below_one w (.cells #[.slice a.1 a.2.1 a.2.2, .slice b.1 b.2.1 b.2.2, .slice c.1 c.2.1 c.2.2, .slice d.1 d.2.1 d.2.2, .slice e.1 e.2.1 e.2.2] 29))
  have L0 := rcs_len hr.m
  have L1 := ids_len hr.f
  have L2 := rows_len hr.r
  have L3 := rcs_len hr.c
  have L4 := ids_len hr.s
  have b0 : a.2.1 ≤ 8796093022208 := by rw [L0]; exact hW.m
  have b1 : b.2.1 ≤ 8796093022208 := by rw [L1]; exact hW.f
  have b2 : c.2.1 ≤ 8796093022208 := by rw [L2]; exact hW.r
  have b3 : d.2.1 ≤ 8796093022208 := by rw [L3]; exact hW.c
  have b4 : e.2.1 ≤ 8796093022208 := by rw [L4]; exact hW.s
  have HL := Lib.hid L2
  have HF : Hid (∀ n k : Nat, c.2.1 ≤ k → n = a.2.1 + b.2.1 + d.2.1 + e.2.1 + c.2.1 + sumN (V.r.take k) → n < 500 → FitL V) := Lib.hid fun n k hk hn h5 => by
    rw [List.take_of_length_le (by omega)] at hn
    unfold FitL
    omega
  have HWn := Lib.hid hW.n
  clear hr hW L0 L1 L2 L3 L4
  obtain ⟨n1, hn1⟩ : ∃ n : Nat, (a.2.1 : Int) + (b.2.1 : Int) = (n : Int) := ⟨a.2.1 + b.2.1, by omega⟩
  obtain ⟨n2, hn2⟩ : ∃ n : Nat, (n1 : Int) + (d.2.1 : Int) = (n : Int) := ⟨n1 + d.2.1, by omega⟩
  obtain ⟨n3, hn3⟩ : ∃ n : Nat, (n2 : Int) + (e.2.1 : Int) = (n : Int) := ⟨n2 + e.2.1, by omega⟩
  obtain ⟨n4, hn4⟩ : ∃ n : Nat, (n3 : Int) + (c.2.1 : Int) = (n : Int) := ⟨n3 + c.2.1, by omega⟩
  have HN0 : Hid (n4 = a.2.1 + b.2.1 + d.2.1 + e.2.1 + c.2.1 + sumN (V.r.take 0)) := Lib.hid (by simp [sumN]; omega)
  have m4 : n4 ≤ 43980465111040 := by omega
  have w1 : IntKind.i64.wrap (n1 : Int) = (n1 : Int) := IntWalk.i64_in _ ⟨by omega, by omega⟩
  have w2 : IntKind.i64.wrap (n2 : Int) = (n2 : Int) := IntWalk.i64_in _ ⟨by omega, by omega⟩
  have w3 : IntKind.i64.wrap (n3 : Int) = (n3 : Int) := IntWalk.i64_in _ ⟨by omega, by omega⟩
  have w4 : IntKind.i64.wrap (n4 : Int) = (n4 : Int) := IntWalk.i64_in _ ⟨by omega, by omega⟩
  obtain ⟨p0, p1, p2, p3, p4⟩ := vbox_cells G1.out.x
  go_enter Tryd.func17, Tryd.ntmps17
  go_wp2_with fail
  generalize w.alloc (.cells #[.slice a.1 a.2.1 a.2.2, .slice b.1 b.2.1 b.2.2, .slice c.1 c.2.1 c.2.2, .slice d.1 d.2.1 d.2.2, .slice e.1 e.2.1 e.2.2] 29) = wa at *
  clear hn1 hn2 hn3 hn4 w1 w2 w3 w4 p0 p1 p3 p4
  go_loop [3, 4] (fun s3 s4 => ∃ n k : Nat, s3 = .int .i64 n ∧ s4 = .int .i64 k ∧ k ≤ c.2.1 ∧ n ≤ 43980465111040 ∧ Hid (n = a.2.1 + b.2.1 + d.2.1 + e.2.1 + c.2.1 + sumN (V.r.take k))) (fun _ s4 => c.2.1 - (intOf s4).toNat)
  case atStart => exact ⟨n4, 0, rfl, rfl, by omega, m4, HN0⟩
  case round =>
    obtain ⟨n, k, rfl, rfl, hk, hn, HN⟩ := hrel
    by_cases hlt : k < c.2.1
    · have hd : decide (k < c.2.1) = true := decide_eq_true hlt
      by_cases h5 : n < 500
      · have hd5 : decide ((n : Int) < 500) = true := decide_eq_true (by omega)
        have i3 : (0 : Int) ≤ (k : Int) := by omega
        have i4 : (k : Int) < (c.2.1 : Int) := by omega
        have hkr : k < V.r.length := by have := HL.out; omega
        obtain ⟨ad, B, x, y, hA, hs, hc⟩ := rows_cells G1.out.r.r hkr
        obtain ⟨c1, c2, c3, c4⟩ := hc _ (Below.refl _ _)
        have hx : x ≤ 8796093022208 := by rw [ids_len hs]; exact HWn.out _ (List.getElem_mem hkr)
        obtain ⟨n2, hn2⟩ : ∃ z : Nat, (n : Int) + (x : Int) = (z : Int) := ⟨n + x, by omega⟩
        have w2 : IntKind.i64.wrap (n2 : Int) = (n2 : Int) := IntWalk.i64_in _ ⟨by omega, by omega⟩
        have HN2 : Hid (n2 = a.2.1 + b.2.1 + d.2.1 + e.2.1 + c.2.1 + sumN (V.r.take (k + 1))) := Lib.hid (by rw [sumN_next hkr, ← ids_len hs]; have := HN.out; omega)
        have p2' := p2.trans (show some (Value.slice c.1 c.2.1 c.2.2) = some (Value.slice (some ad) c.2.1 c.2.2) by rw [hA])
        clear hA p2 hs hc c1 c2 c3
        go_wp2_with fail
        go_round
        case rel => exact ⟨n2, k + 1, rfl, by go_num, by omega, by omega, HN2⟩
        case measure => simp [intOf]; omega
      · have hd5 : decide ((n : Int) < 500) = false := decide_eq_false (by omega)
        have hd6 : decide ((500 : Int) ≤ (n : Int)) = true := decide_eq_true (by omega)
        go_wp2_with fail
        go_ret
        exact ⟨true, rfl, (fun h => by cases h), BB.out⟩
    · have hd : decide (k < c.2.1) = false := decide_eq_false hlt
      by_cases h5 : n < 500
      · have hd6 : decide ((500 : Int) ≤ (n : Int)) = false := decide_eq_false (by omega)
        have HZ := Lib.hid (HF.out n k (by omega) HN.out h5)
        go_wp2_with fail
        go_ret
        exact ⟨false, rfl, fun _ => HZ.out, BB.out⟩
      · have hd6 : decide ((500 : Int) ≤ (n : Int)) = true := decide_eq_true (by omega)
        go_wp2_with fail
        go_ret
        exact ⟨true, rfl, (fun h => by cases h), BB.out⟩
end Go.Proofs.YtloghkiabgnpnaaDoor
namespace Go.Proofs.YtloghkiabgnpnaaDoor
open Go Go.RowKit
def encN (n : Int) : List Value := [.int .i64 n]
theorem encN_len (n : Int) : (encN n).length = 1 := rfl
def encU (n : Int) : List Value := [.int .u8 n]
theorem encU_len (n : Int) : (encU n).length = 1 := rfl
/-- The slice v reads as the list l of numbers. -/
abbrev Nums (w : World) (v : Value) (l : List Int) : Prop := Rcs encN 1 w v l
abbrev U8s (w : World) (v : Value) (l : List Int) : Prop := Rcs encU 1 w v l
theorem nums_at {w w' : World} {A : Option Addr} {n c : Nat} {l : List Int} (h : Nums w (.slice A n c) l) (hw : Below w.heap.size w w') {k : Nat} (hk : k < l.length) : ∃ ad, A = some ad ∧ w'.cell? (ad.add k) = some (.int .i64 l[k]) := by
  obtain ⟨ad, rfl⟩ := h.addr (by omega)
  exact ⟨ad, rfl, by have := h.first hw hk rfl; rwa [Nat.mul_one] at this⟩
theorem u8s_at {w w' : World} {A : Option Addr} {n c : Nat} {l : List Int} (h : U8s w (.slice A n c) l) (hw : Below w.heap.size w w') {k : Nat} (hk : k < l.length) : ∃ ad, A = some ad ∧ w'.cell? (ad.add k) = some (.int .u8 l[k]) := by
  obtain ⟨ad, rfl⟩ := h.addr (by omega)
  exact ⟨ad, rfl, by have := h.first hw hk rfl; rwa [Nat.mul_one] at this⟩
theorem of_any (x : Int) (w : World) : Calls Tryd.prog 13 #[.int .i64 x] w fun e w' => e = .returned (.agg #[.int .i64 x, .int .i64 1]) ∧ Below w.heap.size w w' := by
  have X1 := box_new w 0 0
  have BB := Lib.hid (below_one w (.cells #[.int .i64 0, .int .i64 0] 32))
  have HX := Lib.hid X1
  go_enter Tryd.func13, Tryd.ntmps13
  go_wp2_with fail
  refine bodyPost_ret (v := .agg #[.int .i64 x, .int .i64 1]) (by simp [results, Tryd.results13, go_sem]) rfl ?_
  exact ⟨rfl, below_one w _⟩
/-- The first lives of some addresses. -/
def allOf (l : List Int) : List Sets.Id2 := l.map fun a => (a, 1)
theorem allOf_next {l : List Int} {k : Nat} (hk : k < l.length) : allOf (l.take (k + 1)) = allOf (l.take k) ++ [(l[k], 1)] := by
  unfold allOf
  rw [List.take_succ_eq_append_getElem hk, List.map_append]
  rfl
set_option maxHeartbeats 2000000 in
theorem allOf_any (v : Value) (l : List Int) (w : World) (h : Nums w v l) (hl : l.length ≤ 1000) : Calls Tryd.prog 15 #[v] w (News (allOf l) w) := by
  obtain ⟨A, c, rfl, hz⟩ := id h
  have HI := Lib.hid h
  clear h hz
  go_enter Tryd.func15, Tryd.ntmps15
  go_wp2_with fail
  go_loopw [3, 4] (fun s3 s4 wr => ∃ k : Nat, s4 = .int .i64 k ∧ k ≤ l.length ∧ Hid (Owns wr w.heap.size s3 (allOf (l.take k))) ∧ Hid (Below w.heap.size w wr)) (fun _ s4 _ => l.length - (intOf s4).toNat)
  case atStart => exact ⟨0, rfl, by omega, Lib.hid (owns_nil _ _), Lib.hid (Below.refl _ _)⟩
  case round =>
    obtain ⟨k, rfl, hk, HO, HW⟩ := hrel
    by_cases hlt : k < l.length
    · have hd : decide ((k : Int) < (l.length : Int)) = true := decide_eq_true (by omega)
      have i3 : (0 : Int) ≤ (k : Int) := by omega
      have i4 : (k : Int) < (l.length : Int) := by omega
      obtain ⟨ad, rfl, c1⟩ := nums_at HI.out HW.out hlt
      have HNx := Lib.hid (allOf_next hlt)
      have HZ : Hid ((allOf (l.take k)).length ≤ 1000) := Lib.hid (by unfold allOf; rw [List.length_map, List.length_take]; omega)
      generalize l[k] = x at *
      go_wp2_with fail
      (with_reducible refine (of_any x _).mono ?_)
      rintro e w2 ⟨rfl, hb⟩
      have O2 := Lib.hid (HO.out.below hb)
      have W2 := Lib.hid (below_after HW.out hb (Nat.le_refl _))
      clear hb c1
      go_wp2_with (first | (at_builtin; refine wpList_append_one rfl (.tmp 11) (.tmp 17) rfl w2 w.heap.size _ _ x 1 rfl rfl O2.out (by have := HZ.out; omega) W2.out.size ?_; intro v9 w9 h1 h2))
      refine ⟨⟨k + 1, by go_num, by omega, Lib.hid (by rw [HNx.out]; exact h1), Lib.hid (W2.out.trans h2)⟩, by simp [intOf]; omega⟩
    · have hd : decide ((k : Int) < (l.length : Int)) = false := decide_eq_false (by omega)
      have HE := Lib.hid (show Owns wr w.heap.size u3 (allOf l) by have := HO.out; rwa [List.take_of_length_le (by omega)] at this)
      go_wp2_with fail
      go_ret
      exact ⟨_, rfl, HE.out, HW.out⟩
/-- The first lives of the addresses from one on, of some statuses. -/
def membersAt : Nat → List Int → List Agr.Mm
  | _, [] => []
  | n, s :: l => (((n : Int) + 1, 1), s, 0) :: membersAt (n + 1) l
def membersOf (l : List Int) : List Agr.Mm := membersAt 0 l
theorem membersAt_app : ∀ (n : Nat) (l m : List Int), membersAt n (l ++ m) = membersAt n l ++ membersAt (n + l.length) m
  | n, [], m => by simp [membersAt]
  | n, s :: l, m => by
    rw [List.cons_append, membersAt, membersAt, membersAt_app (n + 1) l m, List.cons_append]
    rw [List.length_cons, show n + 1 + l.length = n + (l.length + 1) by omega]
theorem membersAt_len : ∀ (n : Nat) (l : List Int), (membersAt n l).length = l.length
  | _, [] => rfl
  | n, _ :: l => by rw [membersAt, List.length_cons, List.length_cons, membersAt_len]
theorem membersOf_next {l : List Int} {k : Nat} (hk : k < l.length) : membersOf (l.take (k + 1)) = membersOf (l.take k) ++ [(((k : Int) + 1, 1), l[k], 0)] := by
  unfold membersOf
  rw [List.take_succ_eq_append_getElem hk, membersAt_app, List.length_take, Nat.min_eq_left (by omega), Nat.zero_add]
  rfl
/-- append of one member, in a region that draws its order. -/
theorem step_append_mem {ops : Array Oper} {o : Oper} {a : Act} {K : Act → World → Prop} {Q : Exit → Act → World → Prop} {E : Prop} (hgd : o.guard = none) (s x : Operand)
    (ho : o.op = .call { callee := .builtin .append, args := #[s, x], argTypes := #[24, 24] })
    (W : World) (base : Nat) (v : Value) (d : List Agr.Mm) (p q r t : Int) (g : Nat) (hs : a.eval s = v) (hx : a.eval x = .slice (some ⟨g, 0, none⟩) 1 1)
    (hown : OwnsR encM 4 52 W base v d) (hX : MBox W g p q r t) (hl : d.length ≤ 99999) (hb : base ≤ W.heap.size)
    (h : ∀ v' w', OwnsR encM 4 52 w' base v' (d ++ [((p, q), r, t)]) → Below base W w' → K (a.put o.dst v') w') :
    if Region.wanted o (yielded ops a.tmps) = true then Oper.wp Tryd.prog o a W K Q else E := by
  obtain ⟨i0, hi, hz0, hz1, hz2⟩ := info_parts info32
  refine step_append_lies W hgd s x 24 ho base 52 i0 (.agg #[.int .i64 0, .int .i64 0, .int .u8 0, .int .i64 0]) 4 0x20 Tryd.underlying24 hi hz0 hz1 hz2 rfl (by decide) v d.length (flatR encM d) hs hown ⟨g, 0, none⟩ 1 1 [.int .i64 p, .int .i64 q, .int .u8 r, .int .i64 t] hx rfl
    (World.news_of_block (cs := #[.int .i64 p, .int .i64 q, .int .u8 r, .int .i64 t]) hX) (by simp [Value.oneCell']) (by decide) (by unfold maxLen; omega) (by omega) hb W.heap.size rfl ?_
  intro g' cap w' h1 h2 _ _
  refine h _ w' ?_ ((Below.refl base W).grown h2 hb fun k hk => (World.ownsRow.lt hown k hk).1)
  unfold OwnsR
  rw [flatR_append, List.length_append]
  exact h1
set_option maxHeartbeats 4000000 in
theorem membersOf_any (v : Value) (l : List Int) (w : World) (h : U8s w v l) (hl : l.length ≤ 1000) : Calls Tryd.prog 16 #[v] w fun e w' => ∃ v', e = .returned v' ∧ Ms w' v' (membersOf l) ∧ Below w.heap.size w w' := by
  obtain ⟨A, c, rfl, hz⟩ := id h
  have HI := Lib.hid h
  clear h hz
  go_enter Tryd.func16, Tryd.ntmps16
  go_wp2_with fail
  go_loopw [3, 4] (fun s3 s4 wr => ∃ k : Nat, s4 = .int .i64 k ∧ k ≤ l.length ∧ Hid (OwnsR encM 4 52 wr w.heap.size s3 (membersOf (l.take k))) ∧ Hid (Below w.heap.size w wr)) (fun _ s4 _ => l.length - (intOf s4).toNat)
  case atStart => exact ⟨0, rfl, by omega, Lib.hid (OwnsR.nil _ _ _), Lib.hid (Below.refl _ _)⟩
  case round =>
    obtain ⟨k, rfl, hk, HO, HW⟩ := hrel
    by_cases hlt : k < l.length
    · have hd : decide ((k : Int) < (l.length : Int)) = true := decide_eq_true (by omega)
      have i3 : (0 : Int) ≤ (k : Int) := by omega
      have i4 : (k : Int) < (l.length : Int) := by omega
      have i5 : IntKind.i64.wrap ((k : Int) + 1) = (k : Int) + 1 := IntWalk.i64_in _ ⟨by omega, by omega⟩
      obtain ⟨ad, rfl, c1⟩ := u8s_at HI.out HW.out hlt
      have HS := Lib.hid fun w' (hb : Below w.heap.size w w') => (show w'.cell? (ad.add k) = some (.int .u8 l[k]) ∧ Hid (Below w.heap.size w w') from ⟨by
        obtain ⟨a2, e, h2⟩ := u8s_at HI.out hb hlt
        injection e with e
        rw [e]
        exact h2, Lib.hid hb⟩)
      have HNx := Lib.hid (membersOf_next hlt)
      have HZ : Hid ((membersOf (l.take k)).length ≤ 1000) := Lib.hid (by unfold membersOf; rw [membersAt_len, List.length_take]; omega)
      generalize l[k] = x at *
      clear c1
      have HCof := Lib.hid fun W => of_any ((k : Int) + 1) W
      go_wp2_with fail
      go_region_held3 (fun w' => w'.cell? (ad.add k) = some (.int .u8 x) ∧ Hid (Below w.heap.size w w'))
        (first | exact HS.out _ HW.out.drew | exact HS.out _ P7.out | exact HS.out _ HK.out | exact HS.out _ (HK.out.alloc HK.out.size _))
        (first | (go_at_call 13; (with_reducible refine (HCof.out _).mono ?_); rintro e wk ⟨rfl, hb⟩; have HK1 := Lib.hid (below_after (Below.refl _ _).drew hb (Nat.le_refl _)); have HK := Lib.hid (below_after HW.out HK1.out (Nat.le_refl _)); clear hb) | (refine step_append_mem (by rfl) (.tmp 11) (.tmp 20) (by rfl) _ w.heap.size u3 _ ((k : Int) + 1) 1 x 0 wk.heap.size (by rfl) (by rfl) ((HO.out.below HK1.out).below (below_one _ _)) (mbox_new _ _ _ _ _) (by have := HZ.out; omega) (Nat.le_trans HK.out.size (below_one _ _).size) ?_; intro v7 w7 h1 h2; have O7 := Lib.hid h1; have P7 := Lib.hid ((HK.out.alloc HK.out.size _).trans h2); clear h1 h2))
      go_wp2_with fail
      go_roundw
      case rel => exact ⟨k + 1, by go_num, by omega, Lib.hid (by rw [HNx.out]; exact O7.out), P7⟩
      case measure => simp [intOf]; omega
    · have hd : decide ((k : Int) < (l.length : Int)) = false := decide_eq_false (by omega)
      have HE := Lib.hid (show OwnsR encM 4 52 wr w.heap.size u3 (membersOf l) by have := HO.out; rwa [List.take_of_length_le (by omega)] at this)
      go_wp2_with fail
      go_ret
      exact ⟨_, rfl, rcs_owns encM_len HE.out, HW.out⟩
end Go.Proofs.YtloghkiabgnpnaaDoor
namespace Go.Proofs.YtloghkiabgnpnaaDoor
open Go Go.RowKit
/-- What a view tells. -/
structure Tells (V : Vw) (ev re : Bool) (ld : Int) (l : List Int) : Prop where
  nr : sameB (Agr.nr V.m V.r) (allOf l) = true
  ev : Agr.allB V.m V.r V.s = ev
  re : Agr.reachB V.m V.r V.s = re
  is : (Agr.leadO V.m V.r).isSome = decide (0 < ld)
  ld : ((Agr.leadO V.m V.r).getD (0, 0)).1 = ld
theorem bool_self (b : Bool) : (b == b) = true := by cases b <;> rfl
set_option maxHeartbeats 4000000 in
theorem tells_any (v : Value) (V : Vw) (ev re : Bool) (ld : Int) (u : Value) (l : List Int) (w : World) (h : VAt w v V) (hV : FitA V) (hT : Tabs w) (hu : Nums w u l) (hl : l.length ≤ 1000) (ht : Tells V ev re ld l) :
    Calls Tryd.prog 11 #[v, .bool ev, .bool re, .int .i64 ld, u] w fun e w' => e = .returned (.bool true) ∧ Below w.heap.size w w' := by
  obtain ⟨a, b, c, d, e, rfl, hr⟩ := h
  have G1 := Lib.hid (agV_new hr)
  have BB := Lib.hid (below_one w (.cells #[.slice a.1 a.2.1 a.2.2, .slice b.1 b.2.1 b.2.2, .slice c.1 c.2.1 c.2.2, .slice d.1 d.2.1 d.2.2, .slice e.1 e.2.1 e.2.2] 29))
  have T1 := Lib.hid (hT.below BB.out)
  have U1 := Lib.hid (hu.below BB.out)
  have HV := Lib.hid hV
  have HT := Lib.hid ht
  clear hr hV hT hu ht
  obtain ⟨p0, p1, p2, p3, p4⟩ := vbox_cells G1.out.x
  go_enter Tryd.func11, Tryd.ntmps11
  go_wp2_with fail
  generalize w.alloc (.cells #[.slice a.1 a.2.1 a.2.2, .slice b.1 b.2.1 b.2.2, .slice c.1 c.2.1 c.2.2, .slice d.1 d.2.1 d.2.2, .slice e.1 e.2.1 e.2.2] 29) = w1 at *
  obtain ⟨g, hg⟩ : ∃ g, g = w.heap.size := ⟨_, rfl⟩
  rw [← hg] at G1
  rw [← hg]
  clear hg p0 p1 p2 p3 p4
  (with_reducible refine (leader_any _ V w1 G1.out.at_ HV.out T1.out).mono ?_)
  rintro e2 w2 ⟨rfl, hb⟩
  obtain ⟨x1, x2, hx⟩ : ∃ x1 x2 : Int, (x1, x2) = (Agr.leadO V.m V.r).getD (0, 0) := ⟨_, _, rfl⟩
  have HL : Hid (leadV (Agr.leadO V.m V.r) = .tuple #[.agg #[.int .i64 x1, .int .i64 x2], .bool (decide (0 < ld))]) := Lib.hid (by unfold leadV; rw [← hx, HT.out.is])
  have HX : Hid (x1 = ld) := Lib.hid (by have := HT.out.ld; rw [← hx] at this; exact this)
  have q3 := below_one w2 (.cells #[.int .i64 x1, .int .i64 x2] 32)
  have G3 := Lib.hid ((G1.out.below hb).below q3)
  have U3 := Lib.hid ((U1.out.below hb).below q3)
  have B3 := Lib.hid (below_after (below_after BB.out hb (Nat.le_refl _)) q3 (Nat.le_refl _))
  have X3 := Lib.hid (box_new w2 x1 x2)
  rw [HL.out]
  clear hb hx G1 U1 T1 q3
  obtain ⟨p0, p1, p2, p3, p4⟩ := vbox_cells G3.out.x
  go_wp2_with fail
  generalize w2.alloc (.cells #[.int .i64 x1, .int .i64 x2] 32) = w3 at *
  clear p0 p1 p2 p3 p4
  (with_reducible refine (notReached_any _ V w3 G3.out.at_ HV.out).mono ?_)
  rintro e4 w4 ⟨v4, rfl, ho, hb⟩
  have G4 := Lib.hid (G3.out.below hb)
  have U4 := Lib.hid (U3.out.below hb)
  have B4 := Lib.hid (below_after B3.out hb (Nat.le_refl _))
  have X4 := Lib.hid (box_below X3.out hb)
  have I4 := Lib.hid (ids_of_owns ho)
  clear ho hb G3 U3 X3
  go_wp2_with fail
  (with_reducible refine (allOf_any _ l w4 U4.out hl).mono ?_)
  rintro e5 w5 ⟨v5, rfl, ho, hb⟩
  have G5 := Lib.hid (G4.out.below hb)
  have B5 := Lib.hid (below_after B4.out hb (Nat.le_refl _))
  have X5 := Lib.hid (box_below X4.out hb)
  have I5 := Lib.hid (I4.out.below hb)
  have J5 := Lib.hid (ids_of_owns ho)
  clear ho hb G4 U4 X4 I4
  go_wp2_with fail
  (with_reducible refine (ids_any _ _ _ _ w5 I5.out J5.out (Nat.le_trans (Agr.nr_len _ _) (Nat.le_trans HV.out.m (by omega)))).mono ?_)
  rw [HT.out.nr]
  rintro e6 w6 ⟨rfl, hb⟩
  have G6 := Lib.hid (G5.out.below hb)
  have B6 := Lib.hid (below_after B5.out hb (Nat.le_refl _))
  have X6 := Lib.hid (box_below X5.out hb)
  clear hb G5 X5 I5 J5
  obtain ⟨p0, p1, p2, p3, p4⟩ := vbox_cells G6.out.x
  have hev := bool_self ev
  have hre := bool_self re
  have hde := bool_self (decide (0 < ld))
  have hli : (ld == ld) = true := by simp
  go_wp2_with fail
  clear p0 p1 p2 p3 p4
  (with_reducible refine (all_any _ V w6 G6.out.at_ HV.out).mono ?_)
  rw [HT.out.ev]
  rintro e7 w7 ⟨rfl, hb⟩
  have G7 := Lib.hid (G6.out.below hb)
  have B7 := Lib.hid (below_after B6.out hb (Nat.le_refl _))
  have X7 := Lib.hid (box_below X6.out hb)
  clear hb G6 X6
  obtain ⟨p0, p1, p2, p3, p4⟩ := vbox_cells G7.out.x
  go_wp2_with fail
  clear p0 p1 p2 p3 p4
  (with_reducible refine (reaching_any _ V w7 G7.out.at_ HV.out).mono ?_)
  rw [HT.out.re]
  rintro e8 w8 ⟨rfl, hb⟩
  have B8 := Lib.hid (below_after B7.out hb (Nat.le_refl _))
  have X8 := Lib.hid (box_below X7.out hb)
  clear hb G7 X7
  obtain ⟨x0, -⟩ := box_cells X8.out
  have hx1 := HX.out
  subst hx1
  go_wp2_with fail
  go_ret
  exact ⟨rfl, B8.out⟩
end Go.Proofs.YtloghkiabgnpnaaDoor
