/-
  Arguments opened: an ID by value, a clock. No statement is proved in this text.
-/
import Derived.Test.YtpmfanglgkohjaaWorks
import Derived.Lib.SmallJoins
namespace Go.Proofs.Ytpmfanglgkohjaa
open Go.RowKit Go.WideShapes Go.ChangeShapes Go.ChangeAt
section
variable {H : Type} {enc : TypeId × Value → H}
theorem cells24 : Try.prog.cellsOf 24 = 1 := by kernel_rfl
theorem cells28 : Try.prog.cellsOf 28 = 2 := by kernel_rfl
theorem cells35 : Try.prog.cellsOf 35 = 3 := by kernel_rfl
theorem cells3 : Try.prog.cellsOf 3 = 1 := by kernel_rfl
theorem open_id {w : World} {b0 : Nat} {v : Value} {d : DataW H} {p : List MemPlace} (hv : Value.okWide Try.prog w .any b0 28 v) (h : DataW.Trod enc Try.prog w 0 (fun _ => true) true 28 v d p) :
    ∃ a i : Int, v = .agg #[.int .i64 a, .int .i64 i] := by
  obtain ⟨v0, v1, y0, y1, n, rfl, _, _, h0, h1⟩ := Joins.open_agg2 Try.underlying28 (by kernel_rfl) cells28 hv h
  obtain ⟨a, e0, _, _⟩ := DataW.trod_int Try.underlying3 h0
  obtain ⟨i, e1, _, _⟩ := DataW.trod_int Try.underlying3 h1
  injection e0 with e0
  injection e1 with e1
  exact ⟨a, i, by rw [e0, e1]⟩
theorem elem_tick {w : World} {base : Nat} {spare : Nat → Bool} {held : Bool} (n : Nat) (cs : List Value) (d : DataW H × List MemPlace) (h : DataW.trod enc Try.prog w base spare held n 35 cs = some d) : ∃ r : Clocks.Tick, cs = encT r := by
  obtain ⟨y0, y1, n', _, hl, h0, h1⟩ := trod_struct2 Try.underlying35 h
  rw [cells35] at hl
  match cs, hl with
  | [a, b, c], _ =>
    rw [show Try.prog.cellsOf 28 = 2 from cells28] at h0
    rw [show Try.prog.cellsOf 3 = 1 from cells3] at h1
    obtain ⟨z0, z1, n2, _, _, k0, k1⟩ := trod_struct2 Try.underlying28 h0
    rw [show Try.prog.cellsOf 3 = 1 from cells3] at k0 k1
    obtain ⟨x, e0, _, _⟩ := DataW.trod_int Try.underlying3 k0
    obtain ⟨y, e1, _, _⟩ := DataW.trod_int Try.underlying3 k1
    obtain ⟨z, e2, _, _⟩ := DataW.trod_int Try.underlying3 h1
    simp at e0 e1 e2
    exact ⟨((x, y), z), by simp [encT, e0, e1, e2]⟩
theorem open_ticks {w : World} {b0 : Nat} {v : Value} {d : DataW H} {p : List MemPlace} (hv : Value.okWide Try.prog w .any b0 24 v) (h : DataW.Trod enc Try.prog w 0 (fun _ => true) true 24 v d p) :
    ∃ l : List Clocks.Tick, Rcs encT 3 w v l := by
  obtain ⟨A, len, cap, rfl⟩ := okWide_slice Try.underlying24 hv
  obtain ⟨fuel, hf⟩ := h
  obtain ⟨v', hc, l, hl⟩ := open_recs (enc := encT) (sz := 3) Try.underlying24 cells35 encT_len (fun n cs d h => elem_tick n cs d h) (by omega) hf
  have e : Value.slice A len cap = v' := by simpa [Value.cells] using hc
  rw [e]
  exact ⟨l, hl⟩
end
end Go.Proofs.Ytpmfanglgkohjaa
