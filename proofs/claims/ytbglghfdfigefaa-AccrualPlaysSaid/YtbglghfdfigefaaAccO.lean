/-
  Arguments opened: a list of steps, a list of numbers; six arguments at once. No statement is proved in this text.
-/
import Derived.Test.YtbglghfdfigefaaAccB
import Derived.Test.YtbglghfdfigefaaBase
import Derived.Lib.SmallJoins
import Derived.Deep.SlicePairs
set_option maxRecDepth 20000
namespace Go.Proofs.Ytbglghfdfigefaa
open Go Go.RowKit Go.WideShapes Go.ChangeShapes Go.ChangeAt
section
variable {H : Type} {enc : TypeId × Value → H}
theorem cells39 : Try.prog.cellsOf 39 = 2 := by kernel_rfl
theorem cells3 : Try.prog.cellsOf 3 = 1 := by kernel_rfl
theorem cells5 : Try.prog.cellsOf 5 = 1 := by kernel_rfl
theorem elem_step {w : World} {base : Nat} {spare : Nat → Bool} {held : Bool} (n : Nat) (cs : List Value) (d : DataW H × List MemPlace) (h : DataW.trod enc Try.prog w base spare held n 39 cs = some d) : ∃ s : St, cs = encS s ∧ (-9223372036854775808 ≤ s.2 ∧ s.2 ≤ 9223372036854775807) := by
  obtain ⟨y0, y1, n', _, hl, h0, h1⟩ := trod_struct2 Try.underlying39 h
  rw [cells39] at hl
  match cs, hl with
  | [a, b], _ =>
    rw [show Try.prog.cellsOf 5 = 1 from cells5] at h0
    rw [show Try.prog.cellsOf 3 = 1 from cells3] at h1
    obtain ⟨x, e0, _, _⟩ := DataW.trod_int Try.underlying5 h0
    obtain ⟨y, e1, _, w1⟩ := DataW.trod_int Try.underlying3 h1
    simp at e0 e1
    exact ⟨(x, y), by simp [encS, e0, e1], in_i64 w1⟩
theorem open_steps {w : World} {b0 : Nat} {v : Value} {d : DataW H} {p : List MemPlace} (hv : Value.okWide Try.prog w .any b0 33 v) (h : DataW.Trod enc Try.prog w 0 (fun _ => true) true 33 v d p) :
    ∃ l : List St, Rcs encS 2 w v l ∧ ∀ s ∈ l, (-9223372036854775808 ≤ s.2 ∧ s.2 ≤ 9223372036854775807) := by
  obtain ⟨A, len, cap, rfl⟩ := okWide_slice Try.underlying33 hv
  obtain ⟨fuel, hf⟩ := h
  obtain ⟨u, e, l, hl, hp⟩ := open_recs_with (enc := encS) (sz := 2) _ Try.underlying33 cells39 encS_len (fun n cs d h => elem_step n cs d h) (by omega) hf
  have e2 : Value.slice A len cap = u := by simpa [Value.cells] using e
  subst e2
  exact ⟨l, hl, hp⟩
theorem open_nums {w : World} {b0 : Nat} {v : Value} {d : DataW H} {p : List MemPlace} (hv : Value.okWide Try.prog w .any b0 34 v) (h : DataW.Trod enc Try.prog w 0 (fun _ => true) true 34 v d p) :
    ∃ l : List Int, Rcs encN 1 w v l ∧ ∀ n ∈ l, (-9223372036854775808 ≤ n ∧ n ≤ 9223372036854775807) := by
  obtain ⟨A, len, cap, rfl⟩ := okWide_slice Try.underlying34 hv
  obtain ⟨fuel, hf⟩ := h
  obtain ⟨u, e, l, hl, hp⟩ := open_recs_with (enc := encN) (sz := 1) (fun n : Int => -9223372036854775808 ≤ n ∧ n ≤ 9223372036854775807) Try.underlying34 cells3 encN_len (fun n cs d h => by obtain ⟨q, e0, _, w0⟩ := DataW.trod_int Try.underlying3 h; exact ⟨q, e0, in_i64 w0⟩) (by omega) hf
  have e2 : Value.slice A len cap = u := by simpa [Value.cells] using e
  subst e2
  exact ⟨l, hl, hp⟩
theorem trodAll_six {w : World} {base : Nat} {spare : Nat → Bool} {held : Bool} {t0 t1 t2 t3 t4 t5 : TypeId} {args : Array Value} {ds : List (DataW H)} {ps : List MemPlace} (h : DataW.TrodAll enc Try.prog w base spare held [t0, t1, t2, t3, t4, t5] args.toList ds ps) :
    ∃ v0 v1 v2 v3 v4 v5 d0 d1 d2 d3 d4 d5 p0 p1 p2 p3 p4 p5, args = #[v0, v1, v2, v3, v4, v5] ∧ ds = [d0, d1, d2, d3, d4, d5] ∧ ps = p0 ++ p1 ++ p2 ++ p3 ++ p4 ++ p5 ∧ DataW.Trod enc Try.prog w base spare held t0 v0 d0 p0 ∧ DataW.Trod enc Try.prog w base spare held t1 v1 d1 p1 ∧ DataW.Trod enc Try.prog w base spare held t2 v2 d2 p2 ∧ DataW.Trod enc Try.prog w base spare held t3 v3 d3 p3 ∧ DataW.Trod enc Try.prog w base spare held t4 v4 d4 p4 ∧ DataW.Trod enc Try.prog w base spare held t5 v5 d5 p5 := by
  obtain ⟨v0, _, d0, _, p0, _, e, rfl, rfl, h0, r0⟩ := trodAll_cons h
  obtain ⟨v1, _, d1, _, p1, _, rfl, rfl, rfl, h1, r1⟩ := trodAll_cons r0
  obtain ⟨v2, _, d2, _, p2, _, rfl, rfl, rfl, h2, r2⟩ := trodAll_cons r1
  obtain ⟨v3, _, d3, _, p3, _, rfl, rfl, rfl, h3, r3⟩ := trodAll_cons r2
  obtain ⟨v4, _, d4, _, p4, _, rfl, rfl, rfl, h4, r4⟩ := trodAll_cons r3
  obtain ⟨v5, _, d5, _, p5, _, rfl, rfl, rfl, h5, r5⟩ := trodAll_cons r4
  obtain ⟨rfl, rfl, rfl⟩ := trodAll_nil r5
  exact ⟨v0, v1, v2, v3, v4, v5, d0, d1, d2, d3, d4, d5, p0, p1, p2, p3, p4, p5, by cases args; simp_all, rfl, by simp, h0, h1, h2, h3, h4, h5⟩
end
end Go.Proofs.Ytbglghfdfigefaa
