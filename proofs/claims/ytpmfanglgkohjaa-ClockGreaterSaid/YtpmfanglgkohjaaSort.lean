/-
  The library's sort over a row of ticks: what lies there afterwards. No statement is proved in this text; it holds for every input that its premises let by.
-/
import Derived.Test.YtpmfanglgkohjaaRow
namespace Go.Proofs.Ytpmfanglgkohjaa
open Go.RowKit Go.Shelf Go.Sort Sets Clocks
theorem swo_cmpT : Go.Sort.SWO (ltOf cmpT) where
  irrefl x := by rw [ltOf_cmpT]; exact decide_eq_false (tlt_irrefl x)
  trans x y z h k := by
    rw [ltOf_cmpT] at *
    exact decide_eq_true (tlt_trans (of_decide_eq_true h) (of_decide_eq_true k))
  ntrans x y z h k := by
    rw [ltOf_cmpT] at *
    exact decide_eq_false (tlt_ntrans (of_decide_eq_false h) (of_decide_eq_false k))
theorem holdsK_row {w : World} {g : Nat} {d : Array Tick} (h : RowAt w g d) : HoldsK encT 3 w g 0 d := by
  intro j hj
  rw [size_flatK] at hj
  rw [get_flatK _ _ _ _ hj]
  have h1 : j / 3 < d.size := by omega
  have h2 : j % 3 < 3 := Nat.mod_lt _ (by omega)
  obtain ⟨⟨c1, c2, c3⟩, f1, f2, f3⟩ := h.2 (j / 3) h1
  have e : 0 + j = j / 3 * 3 + j % 3 := by omega
  rw [e]
  generalize j % 3 = r at *
  generalize j / 3 = q at *
  match r, h2 with
  | 0, _ => exact ⟨c1, f1⟩
  | 1, _ => exact ⟨c2, f2⟩
  | 2, _ => exact ⟨c3, f3⟩
theorem row_holdsK {w : World} {g : Nat} {d : Array Tick} (hg : g < w.heap.size) (h : HoldsK encT 3 w g 0 d) : RowAt w g d := by
  refine ⟨hg, fun k hk => ?_⟩
  have h0 := h.cell hk (c := 0) (by omega)
  have h1 := h.cell hk (c := 1) (by omega)
  have h2 := h.cell hk (c := 2) (by omega)
  rw [Nat.zero_add] at h0 h1 h2
  exact ⟨⟨h0.1, h1.1, h2.1⟩, h0.2, h1.2, h2.2⟩
theorem grown_sorted {w : World} {g n : Nat} {os : Array Obj} (d : Array Tick) : w.grownBy (sortWorldK encT 3 w g 0 n d os) (some g) := by
  refine ⟨rfl, rfl, rfl, by simp [sortWorldK, Go.Sort.putRowK, Go.Sort.putRow, Go.Sort.mapBlock, Go.Sort.grow, Go.Sort.ahead], fun k hk hne => ?_⟩
  unfold sortWorldK
  rw [Go.Sort.heap_grow_old _ _ (by simpa [Go.Sort.putRowK, Go.Sort.putRow, Go.Sort.mapBlock, Go.Sort.ahead] using hk)]
  have : g ≠ k := fun e => hne (by rw [e])
  simp [Go.Sort.putRowK, Go.Sort.putRow, Go.Sort.mapBlock, Go.Sort.ahead, Array.getElem?_modify, this]
theorem perm_all {d d' : Array Tick} (h : Go.Sort.PermIn 0 d.size d d') : d'.size = d.size ∧ d'.toList.Perm d.toList := by
  obtain ⟨h1, _, h3⟩ := h
  refine ⟨h1, ?_⟩
  have e1 : d'.extract 0 d.size = d' := by rw [← h1]; simp
  have e2 : d.extract 0 d.size = d := by simp
  rwa [e1, e2] at h3
theorem sorted_all {d : Array Tick} (h : Go.Sort.SortedIn (ltOf cmpT) 0 d.size d) : d.toList.Pairwise fun s t => ¬ tlt t s := by
  rw [List.pairwise_iff_getElem]
  intro i j hi hj hij
  have hi2 : i < d.size := by simpa using hi
  have hj2 : j < d.size := by simpa using hj
  have := h i j (Nat.zero_le _) hij hj2
  rw [ltOf_cmpT, getElem!_pos d i hi2, getElem!_pos d j hj2] at this
  simpa using of_decide_eq_false this
/-- slices.SortFunc with said's second closure. -/
theorem sort_any (g cap : Nat) (d : Array Tick) (w : World) (h : RowAt w g d) (hn : d.size ≤ 100000) :
    Calls Try.prog 29 #[.slice (some ⟨g, 0, none⟩) d.size cap, .func (.func 30) #[] #[]] w fun e w' => e = .returned (.tuple #[]) ∧ ∃ d', d'.size = d.size ∧ d'.toList.Perm d.toList ∧ (d'.toList.Pairwise fun s t => ¬ tlt t s) ∧ RowAt w' g d' ∧ w.grownBy w' (some g) := by
  have eg : ∀ args w, (callFunc 30 args).run Try.prog w = .ok (.enter 30 args) w := enters_of Try.func30 (by kernel_rfl) rfl
  have hcmp : CmpLays Try.prog 30 #[] encT 3 cmpT g 0 d.size w := fun m os dk _ x y => ordT_any x.1.1 x.1.2 x.2 y.1.1 y.1.2 y.2 _
  have hH := holdsK_row h
  have hcon := AnyQ.slices_SortFunc sortT 3 Try.isAgg35 Try.sizeOf35 encT encT_len encT_one cmpT swo_cmpT 30 #[] g 0 cap d w eg hcmp hH h.1 (by omega)
  refine hcon.mono ?_
  rintro e w' ⟨he, d', n, os, hp, hs, rfl⟩
  obtain ⟨p1, p2⟩ := perm_all hp
  refine ⟨he, d', p1, p2, sorted_all (by rw [p1]; exact hs), ?_, grown_sorted d'⟩
  exact row_holdsK (lt_sortWorldK encT 3 w g 0 n d' os h.1) (holdsK_sortWorldK encT 3 w g 0 n d d' os h.1 hH p1)
end Go.Proofs.Ytpmfanglgkohjaa
