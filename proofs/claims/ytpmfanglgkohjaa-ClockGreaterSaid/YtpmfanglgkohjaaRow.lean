/-
  A list of ticks in a block of the call's own, as it is written in place; the library's sort over it. No statement is proved in this text; it holds for every input that its premises let by.
-/
import Derived.Test.YtpmfanglgkohjaaOrd
import Derived.Shelf.SlSortCmp.NoneTotal
import Derived.Laws.IdiomCopy
namespace Go.Proofs.Ytpmfanglgkohjaa
open Go.RowKit Go.Shelf Sets Clocks
/-- The library's sort as it stands in this program. -/
def sortT_ren : Go.Shelf.Ren := ⟨fun | 6 => 29 | 15 => 38 | 14 => 37 | 28 => 48 | 29 => 49 | 20 => 40 | 21 => 41 | 22 => 42 | 23 => 43 | 24 => 44 | 25 => 45 | 26 => 46 | 27 => 47 | 46 => 50 | 47 => 51 | 48 => 52 | 49 => 53 | 50 => 54 | 57 => 55 | n => n, fun | 22 => 24 | 24 => 35 | 25 => 59 | 3 => 3 | 39 => 65 | 0 => 0 | 53 => 76 | 55 => 78 | 4 => 4 | 46 => 69 | 45 => 68 | 50 => 73 | 5 => 5 | 9 => 9 | 66 => 79 | 70 => 83 | 76 => 85 | 77 => 86 | n => n, fun | n => n⟩
theorem sortT : Go.Proofs.SlLaysF0.n6 Try.prog sortT_ren := {
  mixed := by kernel_rfl
  f6 := ⟨Try.f29.name, by decide, Try.func29.trans (congrArg some (by kernel_rfl))⟩
  f14 := ⟨Try.f37.name, by decide, Try.func37.trans (congrArg some (by kernel_rfl))⟩
  f15 := Try.func38.trans (congrArg some (by kernel_rfl))
  f20 := ⟨Try.f40.name, by decide, Try.func40.trans (congrArg some (by kernel_rfl))⟩
  f21 := ⟨Try.f41.name, by decide, Try.func41.trans (congrArg some (by kernel_rfl))⟩
  f22 := ⟨Try.f42.name, by decide, Try.func42.trans (congrArg some (by kernel_rfl))⟩
  f23 := ⟨Try.f43.name, by decide, Try.func43.trans (congrArg some (by kernel_rfl))⟩
  f24 := ⟨Try.f44.name, by decide, Try.func44.trans (congrArg some (by kernel_rfl))⟩
  f25 := ⟨Try.f45.name, by decide, Try.func45.trans (congrArg some (by kernel_rfl))⟩
  f26 := ⟨Try.f46.name, by decide, Try.func46.trans (congrArg some (by kernel_rfl))⟩
  f27 := ⟨Try.f47.name, by decide, Try.func47.trans (congrArg some (by kernel_rfl))⟩
  f28 := Try.func48.trans (congrArg some (by kernel_rfl))
  f29 := Try.func49.trans (congrArg some (by kernel_rfl))
  f46 := ⟨Try.f50.name, by decide, Try.func50.trans (congrArg some (by kernel_rfl))⟩
  f47 := Try.func51.trans (congrArg some (by kernel_rfl))
  f48 := Try.func52.trans (congrArg some (by kernel_rfl))
  f49 := ⟨Try.f53.name, by decide, Try.func53.trans (congrArg some (by kernel_rfl))⟩
  f50 := ⟨Try.f54.name, by decide, Try.func54.trans (congrArg some (by kernel_rfl))⟩
  f57 := ⟨Try.f55.name, by decide, Try.func55.trans (congrArg some (by kernel_rfl))⟩
  t0 := Try.underlying0
  a0 := Try.isAgg0
  z0 := Try.sizeOf0
  v0 := Try.zeroValue0
  t3 := Try.underlying3
  a3 := Try.isAgg3
  z3 := Try.sizeOf3
  v3 := Try.zeroValue3
  t4 := Try.underlying4
  a4 := Try.isAgg4
  z4 := Try.sizeOf4
  v4 := Try.zeroValue4
  t5 := Try.underlying5
  a5 := Try.isAgg5
  z5 := Try.sizeOf5
  v5 := Try.zeroValue5
  t9 := Try.underlying9
  a9 := Try.isAgg9
  z9 := Try.sizeOf9
  v9 := Try.zeroValue9
  t22 := Try.underlying24
  a22 := Try.isAgg24
  z22 := Try.sizeOf24
  v22 := Try.zeroValue24
  t25 := Try.underlying59
  a25 := Try.isAgg59
  z25 := Try.sizeOf59
  v25 := Try.zeroValue59
  t39 := Try.underlying65
  a39 := Try.isAgg65
  z39 := Try.sizeOf65
  v39 := Try.zeroValue65
  t45 := Try.underlying68
  a45 := Try.isAgg68
  z45 := Try.sizeOf68
  v45 := Try.zeroValue68
  t46 := Try.underlying69
  a46 := Try.isAgg69
  z46 := Try.sizeOf69
  v46 := Try.zeroValue69
  t50 := Try.underlying73
  a50 := Try.isAgg73
  z50 := Try.sizeOf73
  v50 := Try.zeroValue73
  t53 := Try.underlying76
  a53 := Try.isAgg76
  z53 := Try.sizeOf76
  v53 := Try.zeroValue76
  t55 := Try.underlying78
  a55 := Try.isAgg78
  z55 := Try.sizeOf78
  v55 := Try.zeroValue78
  t66 := Try.underlying79
  a66 := Try.isAgg79
  z66 := Try.sizeOf79
  v66 := Try.zeroValue79
  t70 := Try.underlying83
  a70 := Try.isAgg83
  z70 := Try.sizeOf83
  v70 := Try.zeroValue83
  t76 := Try.underlying85
  a76 := Try.isAgg85
  z76 := Try.sizeOf85
  v76 := Try.zeroValue85
  t77 := Try.underlying86
  a77 := Try.isAgg86
  z77 := Try.sizeOf86
  v77 := Try.zeroValue86 }
/-- From the beginning of block g on the ticks of d lie, free to be written. -/
def RowAt (w : World) (g : Nat) (d : Array Tick) : Prop := g < w.heap.size ∧ ∀ k, k < d.size →
  (w.cell? ⟨g, k * 3, none⟩ = some (.int .i64 d[k]!.1.1) ∧ w.cell? ⟨g, k * 3 + 1, none⟩ = some (.int .i64 d[k]!.1.2) ∧ w.cell? ⟨g, k * 3 + 2, none⟩ = some (.int .i64 d[k]!.2)) ∧
  (w.frozen? ⟨g, k * 3, none⟩ = false ∧ w.frozen? ⟨g, k * 3 + 1, none⟩ = false ∧ w.frozen? ⟨g, k * 3 + 2, none⟩ = false)
theorem add_lit (g j : Nat) : (⟨g, 0, none⟩ : Addr).add j = ⟨g, j, none⟩ := by unfold Addr.add; split <;> simp_all
theorem rowAt_rcs {w : World} {g c : Nat} {d : Array Tick} (h : RowAt w g d) (hc : d.size ≤ c) : Rcs encT 3 w (.slice (some ⟨g, 0, none⟩) d.size c) d.toList := by
  refine ⟨some ⟨g, 0, none⟩, c, by simp, (fun h => by cases h), by simpa using hc, fun k hk => ⟨_, rfl, h.1, fun j u hu => ?_⟩⟩
  have hk2 : k < d.size := by simpa using hk
  obtain ⟨⟨c1, c2, c3⟩, _⟩ := h.2 k hk2
  rw [getElem!_pos d k hk2] at c1 c2 c3
  rw [add_lit]
  have hj : j < 3 := (List.getElem?_eq_some_iff.1 hu).1
  have he : d.toList[k] = d[k] := by simp
  rw [he] at hu
  match j, hj with
  | 0, _ => rw [← (Option.some.inj hu)]; exact c1
  | 1, _ => rw [← (Option.some.inj hu)]; exact c2
  | 2, _ => rw [← (Option.some.inj hu)]; exact c3
theorem rowAt_kept {w w' : World} {g : Nat} {d : Array Tick} (h : RowAt w g d) (hb : Below w.heap.size w w') : RowAt w' g d := by
  refine ⟨Nat.lt_of_lt_of_le h.1 hb.size, fun k hk => ?_⟩
  have hg := hb.block g h.1
  obtain ⟨⟨c1, c2, c3⟩, f1, f2, f3⟩ := h.2 k hk
  exact ⟨⟨(World.cell?_of_block hg).trans c1, (World.cell?_of_block hg).trans c2, (World.cell?_of_block hg).trans c3⟩, (World.frozen?_of_block hg).trans f1, (World.frozen?_of_block hg).trans f2, (World.frozen?_of_block hg).trans f3⟩
/-- A row of the call's own. -/
theorem rowAt_owns {w : World} {base g c : Nat} {d : Array Tick} (h : OwnsR encT 3 35 w base (.slice (some ⟨g, 0, none⟩) d.size c) d.toList) : RowAt w g d := by
  have hr := rcs_owns encT_len h
  rcases id h.2 with ⟨h1, _⟩ | ⟨g', cap, cur, h1, hb, hh, _⟩
  · cases h1
  · injection h1 with e1 e2 e3
    injection e1 with e1
    injection e1 with e1
    subst e1
    refine ⟨row_lt hh, fun k hk => ?_⟩
    have hk2 : k < d.toList.length := by simpa using hk
    obtain ⟨A, c', hv, _, _, hx⟩ := hr
    injection hv with a1 a2 a3
    subst a1
    obtain ⟨ad, e, _, hc⟩ := hx k hk2
    injection e with e
    subst e
    have he : d.toList[k] = d[k]! := by rw [getElem!_pos d k hk]; simp
    rw [he] at hc
    have c1 := hc 0 _ rfl
    have c2 := hc 1 _ rfl
    have c3 := hc 2 _ rfl
    rw [add_lit] at c1 c2 c3
    exact ⟨⟨c1, c2, c3⟩, by simp [World.frozen?, hh], by simp [World.frozen?, hh], by simp [World.frozen?, hh]⟩
theorem addr_ne {g i j : Nat} (h : i ≠ j) : (⟨g, i, none⟩ : Addr) ≠ ⟨g, j, none⟩ := fun e => h (by injection e)
theorem cell_past {w : World} {g i j : Nat} {v : Value} (h : i ≠ j) : (w.setCell ⟨g, i, none⟩ v).cell? ⟨g, j, none⟩ = w.cell? ⟨g, j, none⟩ := World.cell?_setCell_other _ _ _ _ (addr_ne h)
/-- One tick written. -/
theorem rowAt_set {w : World} {g : Nat} {d : Array Tick} (h : RowAt w g d) {i : Nat} (hi : i < d.size) (t : Tick) :
    RowAt (((w.setCell ⟨g, i * 3, none⟩ (.int .i64 t.1.1)).setCell ⟨g, i * 3 + 1, none⟩ (.int .i64 t.1.2)).setCell ⟨g, i * 3 + 2, none⟩ (.int .i64 t.2)) g (d.setIfInBounds i t) := by
  refine ⟨by simp only [World.size_setCell]; exact h.1, fun k hk => ?_⟩
  have hk2 : k < d.size := by simpa using hk
  obtain ⟨⟨c1, c2, c3⟩, f1, f2, f3⟩ := h.2 k hk2
  refine ⟨?_, by simp only [World.frozen?_setCell]; exact ⟨f1, f2, f3⟩⟩
  by_cases e : k = i
  · subst e
    rw [Go.Sort.getElem!_set_same d k t hk2]
    have s1 := World.cell?_setCell_same _ _ (.int .i64 t.1.1) c1
    have c2' : (w.setCell ⟨g, k * 3, none⟩ (.int .i64 t.1.1)).cell? ⟨g, k * 3 + 1, none⟩ = some (.int .i64 d[k]!.1.2) := by exact (cell_past (by omega)).trans (c2)
    have s2 := World.cell?_setCell_same _ _ (.int .i64 t.1.2) c2'
    have c3' : ((w.setCell ⟨g, k * 3, none⟩ (.int .i64 t.1.1)).setCell ⟨g, k * 3 + 1, none⟩ (.int .i64 t.1.2)).cell? ⟨g, k * 3 + 2, none⟩ = some (.int .i64 d[k]!.2) := by
      exact (cell_past (by omega)).trans ((cell_past (by omega)).trans (c3))
    have s3 := World.cell?_setCell_same _ _ (.int .i64 t.2) c3'
    refine ⟨?_, ?_, s3⟩
    · exact (cell_past (by omega)).trans ((cell_past (by omega)).trans (s1))
    · exact (cell_past (by omega)).trans (s2)
  · rw [Go.Sort.getElem!_set_other d i k t e]
    refine ⟨?_, ?_, ?_⟩
    · exact (cell_past (by omega)).trans ((cell_past (by omega)).trans ((cell_past (by omega)).trans (c1)))
    · exact (cell_past (by omega)).trans ((cell_past (by omega)).trans ((cell_past (by omega)).trans (c2)))
    · exact (cell_past (by omega)).trans ((cell_past (by omega)).trans ((cell_past (by omega)).trans (c3)))
theorem grown_three {a w : World} {g : Nat} (h : a.grownBy w (some g)) (i j k : Nat) (u v x : Value) : a.grownBy (((w.setCell ⟨g, i, none⟩ u).setCell ⟨g, j, none⟩ v).setCell ⟨g, k, none⟩ x) (some g) := by
  refine ⟨h.os, h.tape, h.output, by simp only [World.size_setCell]; exact h.size, fun m hm hne => ?_⟩
  have hmg : m ≠ g := fun e => hne (by rw [e])
  rw [Below.heap_setCell _ _ _ _ hmg, Below.heap_setCell _ _ _ _ hmg, Below.heap_setCell _ _ _ _ hmg]
  exact h.block m hm hne
theorem grown_below {a w w' : World} {g : Nat} (h : a.grownBy w (some g)) (hb : Below w.heap.size w w') : a.grownBy w' (some g) :=
  ⟨hb.os.trans h.os, hb.tape.trans h.tape, hb.output.trans h.output, Nat.le_trans h.size hb.size, fun k hk hne => (hb.block k (Nat.lt_of_lt_of_le hk h.size)).trans (h.block k hk hne)⟩
theorem grown_trans {a w w' : World} {g : Nat} (h : a.grownBy w (some g)) (k : w.grownBy w' (some g)) : a.grownBy w' (some g) :=
  ⟨k.os.trans h.os, k.tape.trans h.tape, k.output.trans h.output, Nat.le_trans h.size k.size, fun j hj hne => (k.block j (Nat.lt_of_lt_of_le hj h.size) hne).trans (h.block j hj hne)⟩
theorem heap_setCells (g : Nat) : ∀ (vs : List Value) (o : Nat) (w : World) (k : Nat), k ≠ g → (w.setCells g o vs).heap[k]? = w.heap[k]?
  | [], _, _, _, _ => rfl
  | v :: vs, o, w, k, h => by rw [World.setCells, heap_setCells g vs _ _ k h, Below.heap_setCell _ _ _ _ h]
theorem size_setCells (g : Nat) : ∀ (vs : List Value) (o : Nat) (w : World), (w.setCells g o vs).heap.size = w.heap.size
  | [], _, _ => rfl
  | v :: vs, o, w => by rw [World.setCells, size_setCells g vs, World.size_setCell]
theorem rest_setCells (g : Nat) : ∀ (vs : List Value) (o : Nat) (w : World), (w.setCells g o vs).os = w.os ∧ (w.setCells g o vs).tape = w.tape ∧ (w.setCells g o vs).output = w.output
  | [], _, _ => ⟨rfl, rfl, rfl⟩
  | v :: vs, o, w => by rw [World.setCells]; exact rest_setCells g vs _ _
theorem grown_setCells {a w : World} {g : Nat} (h : a.grownBy w (some g)) (o : Nat) (vs : List Value) : a.grownBy (w.setCells g o vs) (some g) := by
  obtain ⟨r1, r2, r3⟩ := rest_setCells g vs o w
  refine ⟨r1.trans h.os, r2.trans h.tape, r3.trans h.output, by rw [size_setCells]; exact h.size, fun m hm hne => ?_⟩
  rw [heap_setCells _ _ _ _ _ (fun e => hne (by rw [e]))]
  exact h.block m hm hne
theorem rowAt_front {w : World} {g : Nat} {d : Array Tick} (h : RowAt w g d) {i : Nat} (hi : i ≤ d.size) (vs : List Value) : RowAt (w.setCells g (i * 3) vs) g (d.extract 0 i) := by
  refine ⟨by rw [size_setCells]; exact h.1, fun k hk => ?_⟩
  have hk2 : k < i := by simp at hk; omega
  obtain ⟨⟨c1, c2, c3⟩, f1, f2, f3⟩ := h.2 k (by omega)
  have hg : (d.extract 0 i)[k]! = d[k]! := by
    rw [getElem!_pos _ k hk, getElem!_pos d k (by omega)]
    simp
  rw [hg]
  refine ⟨⟨?_, ?_, ?_⟩, by rw [World.frozen?_setCells, World.frozen?_setCells, World.frozen?_setCells]; exact ⟨f1, f2, f3⟩⟩
  · rw [World.cell?_setCells_out g vs _ w _ (fun _ _ => .inl (by show k * 3 < i * 3; omega))]; exact c1
  · rw [World.cell?_setCells_out g vs _ w _ (fun _ _ => .inl (by show k * 3 + 1 < i * 3; omega))]; exact c2
  · rw [World.cell?_setCells_out g vs _ w _ (fun _ _ => .inl (by show k * 3 + 2 < i * 3; omega))]; exact c3
/-- clear, from place i on. -/
theorem run_clear_rows {w : World} {g : Nat} {d : Array Tick} (h : RowAt w g d) {i : Nat} (hi : i < d.size) (c : Nat) (ty : TypeId) :
    ∃ vs, (Builtin.clear_ #[24] ty #[.slice (some ⟨g, i * 3, none⟩) (d.size - i) c]).run Try.prog w = .ok (.tuple #[]) (w.setCells g (i * 3) vs) := by
  have hz : ∀ w, (zeroValue 35).run Try.prog w = .ok (.agg #[.int .i64 0, .int .i64 0, .int .i64 0]) w := Try.zeroValue35
  obtain ⟨m, hm⟩ : ∃ m, d.size - i = m + 1 := ⟨d.size - i - 1, by omega⟩
  rw [hm]
  refine ⟨(Builtin.zeroCells #[.int .i64 0, .int .i64 0, .int .i64 0] (m + 1)).toList, ?_⟩
  have hlen : (Builtin.zeroCells #[.int .i64 0, .int .i64 0, .int .i64 0] (m + 1)).toList.length = (m + 1) * 3 := by simp [size_zeroCells]
  have cell : ∀ j, j < (m + 1) * 3 → (w.cell? ⟨g, i * 3 + j, none⟩).isSome = true ∧ w.frozen? ⟨g, i * 3 + j, none⟩ = false := by
    intro j hj
    obtain ⟨q, r, hr, rfl⟩ : ∃ q r, r < 3 ∧ j = q * 3 + r := ⟨j / 3, j % 3, Nat.mod_lt _ (by omega), by omega⟩
    obtain ⟨⟨c1, c2, c3⟩, f1, f2, f3⟩ := h.2 (i + q) (by omega)
    have e : i * 3 + (q * 3 + r) = (i + q) * 3 + r := by omega
    rw [e]
    match r, hr with
    | 0, _ => exact ⟨by rw [Nat.add_zero, c1]; rfl, f1⟩
    | 1, _ => exact ⟨by rw [c2]; rfl, f2⟩
    | 2, _ => exact ⟨by rw [c3]; rfl, f3⟩
  have hst := run_storeCells_cells (P := Try.prog) g (i * 3) (Builtin.zeroCells #[.int .i64 0, .int .i64 0, .int .i64 0] (m + 1)).toList 0 w (by rw [hlen]; simpa using fun j hj => (cell j hj).1) (by rw [hlen]; simpa using fun j hj => (cell j hj).2) (by
    intro v hv
    simp only [Builtin.zeroCells, Array.toList_map, List.mem_map] at hv
    obtain ⟨x, _, rfl⟩ := hv
    have h3 : x % 3 < 3 := Nat.mod_lt _ (by omega)
    show (#[Value.int .i64 0, .int .i64 0, .int .i64 0][x % 3]!).oneCell' = true
    generalize x % 3 = y at h3
    match y, h3 with
    | 0, _ => rfl
    | 1, _ => rfl
    | 2, _ => rfl)
  simp only [Nat.add_zero] at hst
  simp [Builtin.clear_, run_underlying Try.underlying24, hz, Value.cells, hst]
instance (s t : Tick) : Decidable (tlt s t) := by unfold tlt; infer_instance
theorem ltOf_cmpT (s t : Tick) : ltOf cmpT s t = decide (tlt s t) := by
  unfold ltOf
  rw [decide_eq_decide]
  exact cmpT_neg s t
end Go.Proofs.Ytpmfanglgkohjaa
