/-
  Arguments opened: an ID, a step, a list of steps. No statement is proved in this text.
-/
import Derived.Test.YtgbbmhdkhhchhaaLnkJ
import Derived.Test.YtgbbmhdkhhchhaaBase
import Derived.Lib.SmallJoins
import Derived.Deep.SlicePairs
set_option maxRecDepth 20000
namespace Go.Proofs.Ytgbbmhdkhhchhaa
open Go Go.RowKit Go.WideShapes Go.ChangeShapes Go.ChangeAt
section
variable {H : Type} {enc : TypeId × Value → H}
theorem cells23 : Try.prog.cellsOf 23 = 2 := by kernel_rfl
theorem cells31 : Try.prog.cellsOf 31 = 7 := by kernel_rfl
theorem cells3 : Try.prog.cellsOf 3 = 1 := by kernel_rfl
theorem cells4 : Try.prog.cellsOf 4 = 1 := by kernel_rfl
theorem cells5 : Try.prog.cellsOf 5 = 1 := by kernel_rfl
theorem elem_id {w : World} {base : Nat} {spare : Nat → Bool} {held : Bool} (n : Nat) (cs : List Value) (d : DataW H × List MemPlace) (h : DataW.trod enc Try.prog w base spare held n 23 cs = some d) : ∃ a i : Int, cs = [.int .i64 a, .int .i64 i] ∧ (-9223372036854775808 ≤ a ∧ a ≤ 9223372036854775807) ∧ (-9223372036854775808 ≤ i ∧ i ≤ 9223372036854775807) := by
  obtain ⟨y0, y1, n', _, hl, h0, h1⟩ := trod_struct2 Try.underlying23 h
  rw [cells23] at hl
  match cs, hl with
  | [a, b], _ =>
    rw [show Try.prog.cellsOf 3 = 1 from cells3] at h0 h1
    obtain ⟨x, e0, _, w0⟩ := DataW.trod_int Try.underlying3 h0
    obtain ⟨y, e1, _, w1⟩ := DataW.trod_int Try.underlying3 h1
    simp at e0 e1
    exact ⟨x, y, by simp [e0, e1], in_i64 w0, in_i64 w1⟩
theorem open_id {w : World} {b0 : Nat} {v : Value} {d : DataW H} {p : List MemPlace} (hv : Value.okWide Try.prog w .any b0 23 v) (h : DataW.Trod enc Try.prog w 0 (fun _ => true) true 23 v d p) :
    ∃ a i : Int, v = .agg #[.int .i64 a, .int .i64 i] := by
  obtain ⟨cs, rfl, hsz⟩ := okWide_struct Try.underlying23 hv
  obtain ⟨fuel, hf⟩ := h
  obtain ⟨a, i, e, _⟩ := elem_id _ _ _ hf
  refine ⟨a, i, ?_⟩
  congr 1
  exact Array.toList_inj.1 (by simpa [Value.cells] using e)
theorem list_7 {l : List Value} (h : l.length = 7) : ∃ v0 v1 v2 v3 v4 v5 v6, l = [v0, v1, v2, v3, v4, v5, v6] := by
  match l, h with
  | [v0, v1, v2, v3, v4, v5, v6], _ => exact ⟨v0, v1, v2, v3, v4, v5, v6, rfl⟩
theorem elem_step {w : World} {base : Nat} {spare : Nat → Bool} {held : Bool} (n : Nat) (cs : List Value) (d : DataW H × List MemPlace) (h : DataW.trod enc Try.prog w base spare held n 31 cs = some d) : ∃ s : Sp, cs = encS s ∧ InS s := by
  obtain ⟨xs, n', _, _, hl, hlen, hf⟩ := DataW.trod_struct Try.underlying31 h
  rw [cells31] at hl
  obtain ⟨v0, v1, v2, v3, v4, v5, v6, rfl⟩ := list_7 hl
  match xs, hlen with
  | [y0, y1, y2, y3, y4], _ =>
    have h0 : DataW.trod enc Try.prog w base spare held n' 4 (([v0, v1, v2, v3, v4, v5, v6].drop 0).take (Try.prog.cellsOf 4)) = some y0 := hf 0 _ rfl
    have h1 : DataW.trod enc Try.prog w base spare held n' 5 (([v0, v1, v2, v3, v4, v5, v6].drop 1).take (Try.prog.cellsOf 5)) = some y1 := hf 1 _ rfl
    have h2 : DataW.trod enc Try.prog w base spare held n' 23 (([v0, v1, v2, v3, v4, v5, v6].drop 2).take (Try.prog.cellsOf 23)) = some y2 := hf 2 _ rfl
    have h3 : DataW.trod enc Try.prog w base spare held n' 23 (([v0, v1, v2, v3, v4, v5, v6].drop 4).take (Try.prog.cellsOf 23)) = some y3 := hf 3 _ rfl
    have h4 : DataW.trod enc Try.prog w base spare held n' 3 (([v0, v1, v2, v3, v4, v5, v6].drop 6).take (Try.prog.cellsOf 3)) = some y4 := hf 4 _ rfl
    rw [show Try.prog.cellsOf 4 = 1 from cells4] at h0
    rw [show Try.prog.cellsOf 5 = 1 from cells5] at h1
    rw [show Try.prog.cellsOf 23 = 2 from cells23] at h2 h3
    rw [show Try.prog.cellsOf 3 = 1 from cells3] at h4
    obtain ⟨q, e0, _⟩ := DataW.trod_bool Try.underlying4 h0
    obtain ⟨k, e1, _, _⟩ := DataW.trod_int Try.underlying5 h1
    obtain ⟨f1, f2, e2, r1, r2⟩ := elem_id _ _ _ h2
    obtain ⟨t1, t2, e3, _, _⟩ := elem_id _ _ _ h3
    obtain ⟨u, e4, _, w4⟩ := DataW.trod_int Try.underlying3 h4
    simp at e0 e1 e2 e3 e4
    obtain ⟨rfl, rfl⟩ := e2
    obtain ⟨rfl, rfl⟩ := e3
    subst e0 e1 e4
    exact ⟨⟨q, ⟨k, f1, f2, t1, t2, u⟩⟩, rfl, r1, r2, in_i64 w4⟩
theorem open_step {w : World} {b0 : Nat} {v : Value} {d : DataW H} {p : List MemPlace} (hv : Value.okWide Try.prog w .any b0 31 v) (h : DataW.Trod enc Try.prog w 0 (fun _ => true) true 31 v d p) :
    ∃ s : Sp, v = .agg #[.bool s.q, .int .u8 s.F.k, .int .i64 s.F.f1, .int .i64 s.F.f2, .int .i64 s.F.t1, .int .i64 s.F.t2, .int .i64 s.F.n] ∧ InS s := by
  obtain ⟨cs, rfl, hsz⟩ := okWide_struct Try.underlying31 hv
  obtain ⟨fuel, hf⟩ := h
  obtain ⟨s, e, hs⟩ := elem_step _ _ _ hf
  refine ⟨s, ?_, hs⟩
  congr 1
  exact Array.toList_inj.1 (by simpa [Value.cells, encS] using e)
theorem open_steps {w : World} {b0 : Nat} {v : Value} {d : DataW H} {p : List MemPlace} (hv : Value.okWide Try.prog w .any b0 24 v) (h : DataW.Trod enc Try.prog w 0 (fun _ => true) true 24 v d p) :
    ∃ l : List Sp, Rcs encS 7 w v l ∧ ∀ s ∈ l, InS s := by
  obtain ⟨A, len, cap, rfl⟩ := okWide_slice Try.underlying24 hv
  obtain ⟨fuel, hf⟩ := h
  obtain ⟨u, e, l, hl, hp⟩ := open_recs_with (enc := encS) (sz := 7) InS Try.underlying24 cells31 encS_len (fun n cs d h => elem_step n cs d h) (by omega) hf
  have e2 : Value.slice A len cap = u := by simpa [Value.cells] using e
  subst e2
  exact ⟨l, hl, hp⟩
end
end Go.Proofs.Ytgbbmhdkhhchhaa
