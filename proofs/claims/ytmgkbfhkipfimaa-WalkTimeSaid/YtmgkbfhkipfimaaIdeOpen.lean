/-
  Carried over: contracts of this program's functions. No statement is proved in this text.
-/
import Derived.Lib.SmallJoins
import Derived.Deep.SlicePairs
import Derived.Test.YtmgkbfhkipfimaaIdeIds
set_option maxRecDepth 20000
set_option maxRecDepth 20000
namespace Go.Proofs.Ytmgkbfhkipfimaa
open Go.RowKit Go.WideShapes Go.ChangeShapes Go.ChangeAt
section
variable {H : Type} {enc : TypeId × Value → H}
theorem cells29 : Try.prog.cellsOf 27 = 1 := by kernel_rfl
theorem cells25 : Try.prog.cellsOf 24 = 2 := by kernel_rfl
theorem cells3 : Try.prog.cellsOf 3 = 1 := by kernel_rfl
theorem open_id {w : World} {b0 : Nat} {v : Value} {d : DataW H} {p : List MemPlace} (hv : Value.okWide Try.prog w .any b0 24 v) (h : DataW.Trod enc Try.prog w 0 (fun _ => true) true 24 v d p) :
    ∃ a i : Int, v = .agg #[.int .i64 a, .int .i64 i] := by
  obtain ⟨v0, v1, y0, y1, n, rfl, _, _, h0, h1⟩ := Joins.open_agg2 Try.underlying24 (by kernel_rfl) cells25 hv h
  obtain ⟨a, e0, _, _⟩ := DataW.trod_int Try.underlying3 h0
  obtain ⟨i, e1, _, _⟩ := DataW.trod_int Try.underlying3 h1
  injection e0 with e0
  injection e1 with e1
  exact ⟨a, i, by rw [e0, e1]⟩
theorem open_ids {w : World} {b0 : Nat} {v : Value} {d : DataW H} {p : List MemPlace} (hv : Value.okWide Try.prog w .any b0 27 v) (h : DataW.Trod enc Try.prog w 0 (fun _ => true) true 27 v d p) :
    ∃ l : List (Int × Int), Ids w v l := by
  obtain ⟨A, len, cap, rfl⟩ := okWide_slice Try.underlying27 hv
  obtain ⟨fuel, hf⟩ := h
  rcases Deep.open_slice_pairs Try.underlying27 Try.underlying24 cells25 rfl rfl cells3 cells3 hf with ⟨hc, _⟩ | ⟨a, len', cap', m, n, V0, V1, D0, D1, P0, P1, hc, _, hl, _, hm, _, hx⟩
  · have e : Value.slice A len cap = .slice none 0 0 := by simpa [Value.cells] using hc
    rw [e]
    exact ⟨[], Ids.nil w⟩
  · have e : Value.slice A len cap = .slice (some a) len' cap' := by simpa [Value.cells] using hc
    injection e with e1 e2 e3
    subst e1 e2 e3
    have hm2 : m = cap := by simpa using hm
    refine ⟨(List.range len).map fun i => (RowKit.intOf (V0 i), RowKit.intOf (V1 i)), some a, cap, by simp, (fun h => by cases h), by simpa using hl, fun k hk => ?_⟩
    have hk2 : k < len := by simpa using hk
    obtain ⟨h0, h1, t0, t1⟩ := hx k (by omega)
    obtain ⟨x, e0, _, _⟩ := DataW.trod_int Try.underlying3 t0
    obtain ⟨y, e1, _, _⟩ := DataW.trod_int Try.underlying3 t1
    injection e0 with e0
    injection e1 with e1
    rw [e0] at h0
    rw [e1, add_odd] at h1
    refine ⟨a, rfl, ?_, ?_, ?_⟩
    · have := World.block_lt_of_cell? w _ h0
      rwa [block_of_add] at this
    · rw [h0]
      simp [e0, RowKit.intOf]
    · rw [h1]
      simp [e1, RowKit.intOf]
end
end Go.Proofs.Ytmgkbfhkipfimaa
