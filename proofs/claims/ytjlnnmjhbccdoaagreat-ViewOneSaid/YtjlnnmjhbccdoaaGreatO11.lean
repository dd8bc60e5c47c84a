/-
  Carried over and put together: contracts of this program's functions, and plain facts. No statement is proved in this text.
-/
import Derived.Shelf.SlSortCmp.NoneTotal
import Derived.Laws.IdiomCopy
import Derived.Lib.SliceRun
import Derived.Test.YtjlnnmjhbccdoaaGreatO03
import Derived.Test.YtjlnnmjhbccdoaaGreatO10
set_option maxRecDepth 20000
namespace Go.Proofs.YtjlnnmjhbccdoaaGreat
open Go.RowKit Go.Shelf Sets Clocks
def sortT_ren : Go.Shelf.Ren := ⟨fun | 6 => 167 | 15 => 186 | 14 => 185 | 28 => 199 | 29 => 200 | 20 => 191 | 21 => 192 | 22 => 193 | 23 => 194 | 24 => 195 | 25 => 196 | 26 => 197 | 27 => 198 | 46 => 204 | 47 => 205 | 48 => 206 | 49 => 207 | 50 => 208 | 57 => 210 | n => n, fun | 22 => 25 | 24 => 48 | 25 => 154 | 3 => 3 | 39 => 61 | 0 => 0 | 53 => 177 | 55 => 179 | 4 => 4 | 46 => 171 | 45 => 170 | 50 => 100 | 5 => 5 | 9 => 9 | 66 => 183 | 70 => 187 | 76 => 189 | 77 => 190 | n => n, fun | n => n⟩
theorem sortT : Go.Proofs.SlLaysF0.n6 Tryz.prog sortT_ren := {
 mixed := by kernel_rfl
 f6 := ⟨Tryz.f167.name, by decide, Tryz.func167.trans (congrArg some (by kernel_rfl))⟩
 f14 := ⟨Tryz.f185.name, by decide, Tryz.func185.trans (congrArg some (by kernel_rfl))⟩
 f15 := Tryz.func186.trans (congrArg some (by kernel_rfl))
 f20 := ⟨Tryz.f191.name, by decide, Tryz.func191.trans (congrArg some (by kernel_rfl))⟩
 f21 := ⟨Tryz.f192.name, by decide, Tryz.func192.trans (congrArg some (by kernel_rfl))⟩
 f22 := ⟨Tryz.f193.name, by decide, Tryz.func193.trans (congrArg some (by kernel_rfl))⟩
 f23 := ⟨Tryz.f194.name, by decide, Tryz.func194.trans (congrArg some (by kernel_rfl))⟩
 f24 := ⟨Tryz.f195.name, by decide, Tryz.func195.trans (congrArg some (by kernel_rfl))⟩
 f25 := ⟨Tryz.f196.name, by decide, Tryz.func196.trans (congrArg some (by kernel_rfl))⟩
 f26 := ⟨Tryz.f197.name, by decide, Tryz.func197.trans (congrArg some (by kernel_rfl))⟩
 f27 := ⟨Tryz.f198.name, by decide, Tryz.func198.trans (congrArg some (by kernel_rfl))⟩
 f28 := Tryz.func199.trans (congrArg some (by kernel_rfl))
 f29 := Tryz.func200.trans (congrArg some (by kernel_rfl))
 f46 := ⟨Tryz.f204.name, by decide, Tryz.func204.trans (congrArg some (by kernel_rfl))⟩
 f47 := Tryz.func205.trans (congrArg some (by kernel_rfl))
 f48 := Tryz.func206.trans (congrArg some (by kernel_rfl))
 f49 := ⟨Tryz.f207.name, by decide, Tryz.func207.trans (congrArg some (by kernel_rfl))⟩
 f50 := ⟨Tryz.f208.name, by decide, Tryz.func208.trans (congrArg some (by kernel_rfl))⟩
 f57 := ⟨Tryz.f210.name, by decide, Tryz.func210.trans (congrArg some (by kernel_rfl))⟩
 t0 := Tryz.underlying0
 a0 := Tryz.isAgg0
 z0 := Tryz.sizeOf0
 v0 := Tryz.zeroValue0
 t3 := Tryz.underlying3
 a3 := Tryz.isAgg3
 z3 := Tryz.sizeOf3
 v3 := Tryz.zeroValue3
 t4 := Tryz.underlying4
 a4 := Tryz.isAgg4
 z4 := Tryz.sizeOf4
 v4 := Tryz.zeroValue4
 t5 := Tryz.underlying5
 a5 := Tryz.isAgg5
 z5 := Tryz.sizeOf5
 v5 := Tryz.zeroValue5
 t9 := Tryz.underlying9
 a9 := Tryz.isAgg9
 z9 := Tryz.sizeOf9
 v9 := Tryz.zeroValue9
 t22 := Tryz.underlying25
 a22 := Tryz.isAgg25
 z22 := Tryz.sizeOf25
 v22 := Tryz.zeroValue25
 t25 := Tryz.underlying154
 a25 := Tryz.isAgg154
 z25 := Tryz.sizeOf154
 v25 := Tryz.zeroValue154
 t39 := Tryz.underlying61
 a39 := Tryz.isAgg61
 z39 := Tryz.sizeOf61
 v39 := Tryz.zeroValue61
 t45 := Tryz.underlying170
 a45 := Tryz.isAgg170
 z45 := Tryz.sizeOf170
 v45 := Tryz.zeroValue170
 t46 := Tryz.underlying171
 a46 := Tryz.isAgg171
 z46 := Tryz.sizeOf171
 v46 := Tryz.zeroValue171
 t50 := Tryz.underlying100
 a50 := Tryz.isAgg100
 z50 := Tryz.sizeOf100
 v50 := Tryz.zeroValue100
 t53 := Tryz.underlying177
 a53 := Tryz.isAgg177
 z53 := Tryz.sizeOf177
 v53 := Tryz.zeroValue177
 t55 := Tryz.underlying179
 a55 := Tryz.isAgg179
 z55 := Tryz.sizeOf179
 v55 := Tryz.zeroValue179
 t66 := Tryz.underlying183
 a66 := Tryz.isAgg183
 z66 := Tryz.sizeOf183
 v66 := Tryz.zeroValue183
 t70 := Tryz.underlying187
 a70 := Tryz.isAgg187
 z70 := Tryz.sizeOf187
 v70 := Tryz.zeroValue187
 t76 := Tryz.underlying189
 a76 := Tryz.isAgg189
 z76 := Tryz.sizeOf189
 v76 := Tryz.zeroValue189
 t77 := Tryz.underlying190
 a77 := Tryz.isAgg190
 z77 := Tryz.sizeOf190
 v77 := Tryz.zeroValue190 }
def RowAt (w : World) (g : Nat) (d : Array Tick) : Prop := g < w.heap.size ∧ ∀ k, k < d.size →
 (w.cell? ⟨g, k * 3, none⟩ = some (.int .i64 d[k]!.1.1) ∧ w.cell? ⟨g, k * 3 + 1, none⟩ = some (.int .i64 d[k]!.1.2) ∧ w.cell? ⟨g, k * 3 + 2, none⟩ = some (.int .i64 d[k]!.2)) ∧
 (w.frozen? ⟨g, k * 3, none⟩ = false ∧ w.frozen? ⟨g, k * 3 + 1, none⟩ = false ∧ w.frozen? ⟨g, k * 3 + 2, none⟩ = false)
theorem rowAt_rcs {w : World} {g c : Nat} {d : Array Tick} (h : RowAt w g d) (hc : d.size ≤ c) : Rcs encT 3 w (.slice (some ⟨g, 0, none⟩) d.size c) d.toList := by
 refine ⟨some ⟨g, 0, none⟩, c, by simp, (fun h => by cases h), by simpa using hc, fun k hk => ⟨_, rfl, h.1, fun j u hu => ?_⟩⟩
 have hk2 : k < d.size := by simpa using hk
 obtain ⟨⟨c1, c2, c3⟩, _⟩ := h.2 k hk2
 rw [getElem!_pos d k hk2] at c1 c2 c3
 rw [add_lit]
 have hj : j < 3 := (List.getElem?_eq_some_iff.1 hu).1
 have he : d.toList[k] = d[k] := by simp
 rw [he] at hu
 match j, hj with
 | 0, _ => rw [← (Option.some.inj hu)]; exact c1
 | 1, _ => rw [← (Option.some.inj hu)]; exact c2
 | 2, _ => rw [← (Option.some.inj hu)]; exact c3
theorem rowAt_kept {w w' : World} {g : Nat} {d : Array Tick} (h : RowAt w g d) (hb : Below w.heap.size w w') : RowAt w' g d := by
 refine ⟨Nat.lt_of_lt_of_le h.1 hb.size, fun k hk => ?_⟩
 have hg := hb.block g h.1
 obtain ⟨⟨c1, c2, c3⟩, f1, f2, f3⟩ := h.2 k hk
 exact ⟨⟨(World.cell?_of_block hg).trans c1, (World.cell?_of_block hg).trans c2, (World.cell?_of_block hg).trans c3⟩, (World.frozen?_of_block hg).trans f1, (World.frozen?_of_block hg).trans f2, (World.frozen?_of_block hg).trans f3⟩
theorem rowAt_owns {w : World} {base g c : Nat} {d : Array Tick} (h : OwnsR encT 3 48 w base (.slice (some ⟨g, 0, none⟩) d.size c) d.toList) : RowAt w g d := by
 have hr := rcs_owns encT_len h
 rcases id h.2 with ⟨h1, _⟩ | ⟨g', cap, cur, h1, hb, hh, _⟩
 ·cases h1
 ·injection h1 with e1 e2 e3
  injection e1 with e1
  injection e1 with e1
  subst e1
  refine ⟨row_lt hh, fun k hk => ?_⟩
  have hk2 : k < d.toList.length := by simpa using hk
  obtain ⟨A, c', hv, _, _, hx⟩ := hr
  injection hv with a1 a2 a3
  subst a1
  obtain ⟨ad, e, _, hc⟩ := hx k hk2
  injection e with e
  subst e
  have he : d.toList[k] = d[k]! := by rw [getElem!_pos d k hk]; simp
  rw [he] at hc
  have c1 := hc 0 _ rfl
  have c2 := hc 1 _ rfl
  have c3 := hc 2 _ rfl
  rw [add_lit] at c1 c2 c3
  exact ⟨⟨c1, c2, c3⟩, by simp [World.frozen?, hh], by simp [World.frozen?, hh], by simp [World.frozen?, hh]⟩
theorem addr_ne {g i j : Nat} (h : i ≠ j) : (⟨g, i, none⟩ : Addr) ≠ ⟨g, j, none⟩ := fun e => h (by injection e)
theorem cell_past {w : World} {g i j : Nat} {v : Value} (h : i ≠ j) : (w.setCell ⟨g, i, none⟩ v).cell? ⟨g, j, none⟩ = w.cell? ⟨g, j, none⟩ := World.cell?_setCell_other _ _ _ _ (addr_ne h)
theorem rowAt_set {w : World} {g : Nat} {d : Array Tick} (h : RowAt w g d) {i : Nat} (hi : i < d.size) (t : Tick) :
  RowAt (((w.setCell ⟨g, i * 3, none⟩ (.int .i64 t.1.1)).setCell ⟨g, i * 3 + 1, none⟩ (.int .i64 t.1.2)).setCell ⟨g, i * 3 + 2, none⟩ (.int .i64 t.2)) g (d.setIfInBounds i t) := by
 refine ⟨by simp only [World.size_setCell]; exact h.1, fun k hk => ?_⟩
 have hk2 : k < d.size := by simpa using hk
 obtain ⟨⟨c1, c2, c3⟩, f1, f2, f3⟩ := h.2 k hk2
 refine ⟨?_, by simp only [World.frozen?_setCell]; exact ⟨f1, f2, f3⟩⟩
 by_cases e : k = i
 ·subst e
  rw [Go.Sort.getElem!_set_same d k t hk2]
  have s1 := World.cell?_setCell_same _ _ (.int .i64 t.1.1) c1
  have c2' : (w.setCell ⟨g, k * 3, none⟩ (.int .i64 t.1.1)).cell? ⟨g, k * 3 + 1, none⟩ = some (.int .i64 d[k]!.1.2) := by exact (cell_past (by omega)).trans (c2)
  have s2 := World.cell?_setCell_same _ _ (.int .i64 t.1.2) c2'
  have c3' : ((w.setCell ⟨g, k * 3, none⟩ (.int .i64 t.1.1)).setCell ⟨g, k * 3 + 1, none⟩ (.int .i64 t.1.2)).cell? ⟨g, k * 3 + 2, none⟩ = some (.int .i64 d[k]!.2) := by
   exact (cell_past (by omega)).trans ((cell_past (by omega)).trans (c3))
  have s3 := World.cell?_setCell_same _ _ (.int .i64 t.2) c3'
  refine ⟨?_, ?_, s3⟩
  ·exact (cell_past (by omega)).trans ((cell_past (by omega)).trans (s1))
  ·exact (cell_past (by omega)).trans (s2)
 ·rw [Go.Sort.getElem!_set_other d i k t e]
  refine ⟨?_, ?_, ?_⟩
  ·exact (cell_past (by omega)).trans ((cell_past (by omega)).trans ((cell_past (by omega)).trans (c1)))
  ·exact (cell_past (by omega)).trans ((cell_past (by omega)).trans ((cell_past (by omega)).trans (c2)))
  ·exact (cell_past (by omega)).trans ((cell_past (by omega)).trans ((cell_past (by omega)).trans (c3)))
theorem grown_three {a w : World} {g : Nat} (h : a.grownBy w (some g)) (i j k : Nat) (u v x : Value) : a.grownBy (((w.setCell ⟨g, i, none⟩ u).setCell ⟨g, j, none⟩ v).setCell ⟨g, k, none⟩ x) (some g) := by
 refine ⟨h.os, h.tape, h.output, by simp only [World.size_setCell]; exact h.size, fun m hm hne => ?_⟩
 have hmg : m ≠ g := fun e => hne (by rw [e])
 rw [Below.heap_setCell _ _ _ _ hmg, Below.heap_setCell _ _ _ _ hmg, Below.heap_setCell _ _ _ _ hmg]
 exact h.block m hm hne
theorem rowAt_front {w : World} {g : Nat} {d : Array Tick} (h : RowAt w g d) {i : Nat} (hi : i ≤ d.size) (vs : List Value) : RowAt (w.setCells g (i * 3) vs) g (d.extract 0 i) := by
 refine ⟨by rw [size_setCells]; exact h.1, fun k hk => ?_⟩
 have hk2 : k < i := by simp at hk; omega
 obtain ⟨⟨c1, c2, c3⟩, f1, f2, f3⟩ := h.2 k (by omega)
 have hg : (d.extract 0 i)[k]! = d[k]! := by
  rw [getElem!_pos _ k hk, getElem!_pos d k (by omega)]
  simp
 rw [hg]
 refine ⟨⟨?_, ?_, ?_⟩, by rw [World.frozen?_setCells, World.frozen?_setCells, World.frozen?_setCells]; exact ⟨f1, f2, f3⟩⟩
 ·rw [World.cell?_setCells_out g vs _ w _ (fun _ _ => .inl (by show k * 3 < i * 3; omega))]; exact c1
 ·rw [World.cell?_setCells_out g vs _ w _ (fun _ _ => .inl (by show k * 3 + 1 < i * 3; omega))]; exact c2
 ·rw [World.cell?_setCells_out g vs _ w _ (fun _ _ => .inl (by show k * 3 + 2 < i * 3; omega))]; exact c3
theorem run_clear_rows {w : World} {g : Nat} {d : Array Tick} (h : RowAt w g d) {i : Nat} (hi : i < d.size) (c : Nat) (ty : TypeId) :
  ∃ vs, (Builtin.clear_ #[25] ty #[.slice (some ⟨g, i * 3, none⟩) (d.size - i) c]).run Tryz.prog w = .ok (.tuple #[]) (w.setCells g (i * 3) vs) := by
 have hz : ∀ w, (zeroValue 48).run Tryz.prog w = .ok (.agg #[.int .i64 0, .int .i64 0, .int .i64 0]) w := Tryz.zeroValue48
 obtain ⟨m, hm⟩ : ∃ m, d.size - i = m + 1 := ⟨d.size - i - 1, by omega⟩
 rw [hm]
 refine ⟨(Builtin.zeroCells #[.int .i64 0, .int .i64 0, .int .i64 0] (m + 1)).toList, ?_⟩
 have hlen : (Builtin.zeroCells #[.int .i64 0, .int .i64 0, .int .i64 0] (m + 1)).toList.length = (m + 1) * 3 := by simp [size_zeroCells]
 have cell : ∀ j, j < (m + 1) * 3 → (w.cell? ⟨g, i * 3 + j, none⟩).isSome = true ∧ w.frozen? ⟨g, i * 3 + j, none⟩ = false := by
  intro j hj
  obtain ⟨q, r, hr, rfl⟩ : ∃ q r, r < 3 ∧ j = q * 3 + r := ⟨j / 3, j % 3, Nat.mod_lt _ (by omega), by omega⟩
  obtain ⟨⟨c1, c2, c3⟩, f1, f2, f3⟩ := h.2 (i + q) (by omega)
  have e : i * 3 + (q * 3 + r) = (i + q) * 3 + r := by omega
  rw [e]
  match r, hr with
  | 0, _ => exact ⟨by rw [Nat.add_zero, c1]; rfl, f1⟩
  | 1, _ => exact ⟨by rw [c2]; rfl, f2⟩
  | 2, _ => exact ⟨by rw [c3]; rfl, f3⟩
 have hst := run_storeCells_cells (P := Tryz.prog) g (i * 3) (Builtin.zeroCells #[.int .i64 0, .int .i64 0, .int .i64 0] (m + 1)).toList 0 w (by rw [hlen]; simpa using fun j hj => (cell j hj).1) (by rw [hlen]; simpa using fun j hj => (cell j hj).2) (by
  intro v hv
  simp only [Builtin.zeroCells, Array.toList_map, List.mem_map] at hv
  obtain ⟨x, _, rfl⟩ := hv
  have h3 : x % 3 < 3 := Nat.mod_lt _ (by omega)
  show (#[Value.int .i64 0, .int .i64 0, .int .i64 0][x % 3]!).oneCell' = true
  generalize x % 3 = y at h3
  match y, h3 with
  | 0, _ => rfl
  | 1, _ => rfl
  | 2, _ => rfl)
 simp only [Nat.add_zero] at hst
 simp [Builtin.clear_, run_underlying Tryz.underlying25, hz, Value.cells, hst]
instance (s t : Tick) : Decidable (tlt s t) := by unfold tlt; infer_instance
theorem ltOf_cmpT (s t : Tick) : ltOf cmpT s t = decide (tlt s t) := by
 unfold ltOf
 rw [decide_eq_decide]
 exact cmpT_neg s t
end Go.Proofs.YtjlnnmjhbccdoaaGreat
namespace Go.Proofs.YtjlnnmjhbccdoaaGreat
open Go.RowKit Go.Shelf Go.Sort Sets Clocks
theorem swo_cmpT : Go.Sort.SWO (ltOf cmpT) where
 irrefl x := by rw [ltOf_cmpT]; exact decide_eq_false (tlt_irrefl x)
 trans x y z h k := by
  rw [ltOf_cmpT] at *
  exact decide_eq_true (tlt_trans (of_decide_eq_true h) (of_decide_eq_true k))
 ntrans x y z h k := by
  rw [ltOf_cmpT] at *
  exact decide_eq_false (tlt_ntrans (of_decide_eq_false h) (of_decide_eq_false k))
theorem holdsK_row {w : World} {g : Nat} {d : Array Tick} (h : RowAt w g d) : HoldsK encT 3 w g 0 d := by
 intro j hj
 rw [size_flatK] at hj
 rw [get_flatK _ _ _ _ hj]
 have h1 : j / 3 < d.size := by omega
 have h2 : j % 3 < 3 := Nat.mod_lt _ (by omega)
 obtain ⟨⟨c1, c2, c3⟩, f1, f2, f3⟩ := h.2 (j / 3) h1
 have e : 0 + j = j / 3 * 3 + j % 3 := by omega
 rw [e]
 generalize j % 3 = r at *
 generalize j / 3 = q at *
 match r, h2 with
 | 0, _ => exact ⟨c1, f1⟩
 | 1, _ => exact ⟨c2, f2⟩
 | 2, _ => exact ⟨c3, f3⟩
theorem row_holdsK {w : World} {g : Nat} {d : Array Tick} (hg : g < w.heap.size) (h : HoldsK encT 3 w g 0 d) : RowAt w g d := by
 refine ⟨hg, fun k hk => ?_⟩
 have h0 := h.cell hk (c := 0) (by omega)
 have h1 := h.cell hk (c := 1) (by omega)
 have h2 := h.cell hk (c := 2) (by omega)
 rw [Nat.zero_add] at h0 h1 h2
 exact ⟨⟨h0.1, h1.1, h2.1⟩, h0.2, h1.2, h2.2⟩
theorem grown_sorted {w : World} {g n : Nat} {os : Array Obj} (d : Array Tick) : w.grownBy (sortWorldK encT 3 w g 0 n d os) (some g) := by
 refine ⟨rfl, rfl, rfl, by simp [sortWorldK, Go.Sort.putRowK, Go.Sort.putRow, Go.Sort.mapBlock, Go.Sort.grow, Go.Sort.ahead], fun k hk hne => ?_⟩
 unfold sortWorldK
 rw [Go.Sort.heap_grow_old _ _ (by simpa [Go.Sort.putRowK, Go.Sort.putRow, Go.Sort.mapBlock, Go.Sort.ahead] using hk)]
 have : g ≠ k := fun e => hne (by rw [e])
 simp [Go.Sort.putRowK, Go.Sort.putRow, Go.Sort.mapBlock, Go.Sort.ahead, Array.getElem?_modify, this]
theorem perm_all {d d' : Array Tick} (h : Go.Sort.PermIn 0 d.size d d') : d'.size = d.size ∧ d'.toList.Perm d.toList := by
 obtain ⟨h1, _, h3⟩ := h
 refine ⟨h1, ?_⟩
 have e1 : d'.extract 0 d.size = d' := by rw [← h1]; simp
 have e2 : d.extract 0 d.size = d := by simp
 rwa [e1, e2] at h3
theorem sorted_all {d : Array Tick} (h : Go.Sort.SortedIn (ltOf cmpT) 0 d.size d) : d.toList.Pairwise fun s t => ¬ tlt t s := by
 rw [List.pairwise_iff_getElem]
 intro i j hi hj hij
 have hi2 : i < d.size := by simpa using hi
 have hj2 : j < d.size := by simpa using hj
 have := h i j (Nat.zero_le _) hij hj2
 rw [ltOf_cmpT, getElem!_pos d i hi2, getElem!_pos d j hj2] at this
 simpa using of_decide_eq_false this
theorem sort_any (g cap : Nat) (d : Array Tick) (w : World) (h : RowAt w g d) (hn : d.size ≤ 100000) :
  Calls Tryz.prog 167 #[.slice (some ⟨g, 0, none⟩) d.size cap, .func (.func 168) #[] #[]] w fun e w' => e = .returned (.tuple #[]) ∧ ∃ d', d'.size = d.size ∧ d'.toList.Perm d.toList ∧ (d'.toList.Pairwise fun s t => ¬ tlt t s) ∧ RowAt w' g d' ∧ w.grownBy w' (some g) := by
 have eg : ∀ args w, (callFunc 168 args).run Tryz.prog w = .ok (.enter 168 args) w := enters_of Tryz.func168 (by kernel_rfl) rfl
 have hcmp : CmpLays Tryz.prog 168 #[] encT 3 cmpT g 0 d.size w := fun m os dk _ x y => ordT_any x.1.1 x.1.2 x.2 y.1.1 y.1.2 y.2 _
 have hH := holdsK_row h
 have hcon := AnyQ.slices_SortFunc sortT 3 Tryz.isAgg48 Tryz.sizeOf48 encT encT_len encT_one cmpT swo_cmpT 168 #[] g 0 cap d w eg hcmp hH h.1 (by omega)
 refine hcon.mono ?_
 rintro e w' ⟨he, d', n, os, hp, hs, rfl⟩
 obtain ⟨p1, p2⟩ := perm_all hp
 refine ⟨he, d', p1, p2, sorted_all (by rw [p1]; exact hs), ?_, grown_sorted d'⟩
 exact row_holdsK (lt_sortWorldK encT 3 w g 0 n d' os h.1) (holdsK_sortWorldK encT 3 w g 0 n d d' os h.1 hH p1)
end Go.Proofs.YtjlnnmjhbccdoaaGreat
namespace Go.Proofs.YtjlnnmjhbccdoaaGreat
open Go.RowKit Sets Clocks
theorem info35 : (Tryz.prog.info? 48).map (fun i => (i.zero, i.size, i.bytes)) = some (some (.agg #[.int .i64 0, .int .i64 0, .int .i64 0]), 3, 0x18) := by kernel_rfl
theorem Rcs.tick {w w' : World} {A : Option Addr} {n c : Nat} {l : List Tick} (h : Rcs encT 3 w (.slice A n c) l) (hw : Below w.heap.size w w') {k : Nat} (hk : k < l.length) :
  ∃ ad, A = some ad ∧ w'.cell? (ad.add (k * 3)) = some (.int .i64 l[k].1.1) ∧ w'.cell? ⟨(ad.add (k * 3)).block, (ad.add (k * 3)).off + 1, none⟩ = some (.int .i64 l[k].1.2) ∧ w'.cell? ⟨(ad.add (k * 3)).block, (ad.add (k * 3)).off + 2, none⟩ = some (.int .i64 l[k].2) := by
 obtain ⟨ad, rfl⟩ := h.addr (by omega)
 exact ⟨ad, rfl, h.first hw hk rfl, h.cell hw hk 1 (by omega) rfl, h.cell hw hk 2 (by omega) rfl⟩
theorem clone_any (v : Value) (l : List Tick) (w : World) (h : Rcs encT 3 w v l) (hl : l.length ≤ 100000) :
  Calls Tryz.prog 165 #[v] w fun e w' => ∃ v', e = .returned v' ∧ OwnsR encT 3 48 w' w.heap.size v' l ∧ Below w.heap.size w w' := by
 have q24 : ∀ (w : World) (a : Option Addr) (n c n' c' : Nat), (binOp .eql 25 (.slice a n c) (.slice none n' c')).run Tryz.prog w = .ok (.bool a.isNone) w := fun w a n c n' c' => Lib.run_eql_slice_nil w _ _ a n c n' c' Tryz.underlying25
 rcases h.shape with ⟨rfl, rfl⟩ | ⟨ad, c, rfl, hc⟩
 ·go_enter Tryz.func165, Tryz.ntmps165
  go_wp2
  go_ret
  exact ⟨_, rfl, OwnsR.nil _ _ _, Below.refl _ _⟩
 ·have HI := Lib.hid h
  clear h
  go_enter Tryz.func165, Tryz.ntmps165
  go_wp2_with (at_builtin; refine wpList_append_recs 25 48 Tryz.underlying25 info35 rfl encT_len (by omega) encT_one (by omega) rfl (.tmp 5) (.tmp 6) rfl _ w.heap.size _ _ [] l rfl rfl (World.ownsRow_made w #[] 0 (Nat.le_refl _) (Nat.zero_le _) (by simp)) (HI.out.below ((Below.refl _ _).alloc (Nat.le_refl _) _)) (by simpa using hl) (by simp) ?_; intro v' w' h1 h2)
  go_wp2
  go_ret
  exact ⟨_, rfl, h1, ((Below.refl _ _).alloc (Nat.le_refl _) _).trans h2⟩
def FoundCLK (d : Array Tick) (r : Int) : Prop := (r = -1 ∧ ∀ j, j < d.size → 0 < d[j]!.2) ∨ ∃ k : Nat, r = k ∧ k < d.size ∧ d[k]!.2 ≤ 0 ∧ ∀ j, j < k → 0 < d[j]!.2
set_option maxHeartbeats 1000000 in
theorem index_anyCLK (v : Value) (d : Array Tick) (w : World) (h : Rcs encT 3 w v d.toList) (hl : d.size ≤ 100000) :
  Calls Tryz.prog 184 #[v, .func (.func 166) #[] #[]] w fun e w' => (∃ r, e = .returned (.int .i64 r) ∧ FoundCLK d r) ∧ Below w.heap.size w w' := by
 have HI := Lib.hid h
 obtain ⟨A, c, rfl, hz⟩ := h
 clear hz
 have hlen : d.toList.length = d.size := by simp
 rw [hlen] at HI ⊢
 go_enter Tryz.func184, Tryz.ntmps184
 go_wp2_with fail
 go_loopw [8] (fun s3 wr => ∃ k : Nat, k ≤ d.size ∧ s3 = .int .i64 k ∧ (∀ j, j < k → 0 < d[j]!.2) ∧ Below w.heap.size w wr) (fun s3 _ => d.size - (intOf s3).toNat)
 case atStart => exact ⟨0, by omega, rfl, fun j hj => absurd hj (by omega), Below.refl _ _⟩
 case round =>
  obtain ⟨k, hkl, rfl, ht, hw⟩ := hrel
  have HT := Lib.hid ht
  have HW := Lib.hid hw
  clear ht hw
  have i3 : (0 : Int) ≤ (k : Int) := by omega
  by_cases hlt : k < d.size
  ·have hd : decide ((k : Int) < (d.size : Int)) = true := by simp; omega
   have i4 : (k : Int) < (d.size : Int) := by omega
   obtain ⟨ad, rfl, c1, c2, c3⟩ := HI.out.tick HW.out (k := k) (by simpa using hlt)
   have HE := Lib.hid (show d.toList[k]'(by simpa using hlt) = d[k]! by rw [getElem!_pos d k hlt]; simp)
   rw [HE.out] at c1 c2 c3
   have HC := Lib.hid fun W => zeroN_any d[k]!.1.1 d[k]!.1.2 d[k]!.2 W
   by_cases hn : d[k]!.2 ≤ 0
   ·have hv : decide (d[k]!.2 ≤ 0) = true := decide_eq_true hn
    rw [hv] at HC
    have HF : Hid (FoundCLK d k) := Lib.hid (.inr ⟨k, rfl, hlt, hn, HT.out⟩)
    clear hv hn
    generalize d[k]!.1.1 = a at *
    generalize d[k]!.1.2 = i at *
    generalize d[k]!.2 = n at *
    go_wp2_with (go_at_call 166; refine (HC.out _).mono ?_; rintro e w1 ⟨rfl, hb⟩; have HB := Lib.hid (below_after HW.out hb (Nat.le_refl _)); clear hb)
    go_ret
    exact ⟨⟨_, rfl, HF.out⟩, HB.out⟩
   ·have hv : decide (d[k]!.2 ≤ 0) = false := decide_eq_false hn
    rw [hv] at HC
    have HF := Lib.hid (show ∀ j, j < k + 1 → 0 < d[j]!.2 from fun j hj => by
     by_cases e : j = k
     ·rw [e]; omega
     ·exact HT.out j (by omega))
    clear hv hn
    generalize d[k]!.1.1 = a at *
    generalize d[k]!.1.2 = i at *
    generalize d[k]!.2 = n at *
    go_wp2_with (go_at_call 166; refine (HC.out _).mono ?_; rintro e w1 ⟨rfl, hb⟩; have HB := Lib.hid (below_after HW.out hb (Nat.le_refl _)); clear hb)
    go_roundw
    case rel => exact ⟨k + 1, by omega, by go_num, HF.out, HB.out⟩
    case measure => simp [intOf]; omega
  ·have hd : decide ((k : Int) < (d.size : Int)) = false := by simp; omega
   have HF : Hid (FoundCLK d (-1)) := Lib.hid (.inl ⟨rfl, fun j hj => HT.out j (by omega)⟩)
   go_wp2_with fail
   go_ret
   exact ⟨⟨_, rfl, HF.out⟩, HW.out⟩
end Go.Proofs.YtjlnnmjhbccdoaaGreat
