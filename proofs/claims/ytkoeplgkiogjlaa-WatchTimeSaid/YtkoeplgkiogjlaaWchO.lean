/-
  Arguments opened: a list of steps, an ID; six arguments at once. No statement is proved in this text.
-/
import Derived.Test.YtkoeplgkiogjlaaWchI
import Derived.Test.YtkoeplgkiogjlaaIdeBase
import Derived.Lib.SmallJoins
import Derived.Deep.SlicePairs
set_option maxRecDepth 20000
namespace Go.Proofs.Ytkoeplgkiogjlaa
open Go Go.RowKit Go.WideShapes Go.ChangeShapes Go.ChangeAt Sets
section
variable {H : Type} {enc : TypeId × Value → H}
theorem ce35 : Try.prog.cellsOf 35 = 2 := by kernel_rfl
theorem ce36 : Try.prog.cellsOf 36 = 1 := by kernel_rfl
theorem ce38 : Try.prog.cellsOf 38 = 5 := by kernel_rfl
theorem ce3 : Try.prog.cellsOf 3 = 1 := by kernel_rfl
theorem ce4 : Try.prog.cellsOf 4 = 1 := by kernel_rfl
def encP (q : Id2) : List Value := [.int .i64 q.1, .int .i64 q.2]
theorem encP_len (q : Id2) : (encP q).length = 2 := rfl
theorem elem_idW {w : World} {base : Nat} {spare : Nat → Bool} {held : Bool} (n : Nat) (cs : List Value) (d : DataW H × List MemPlace) (h : DataW.trod enc Try.prog w base spare held n 35 cs = some d) : ∃ q : Id2, cs = encP q ∧ In2 q := by
  obtain ⟨y0, y1, n', _, hl, h0, h1⟩ := trod_struct2 Try.underlying35 h
  rw [ce35] at hl
  match cs, hl with
  | [a, b], _ =>
    rw [show Try.prog.cellsOf 3 = 1 from ce3] at h0 h1
    obtain ⟨x, e0, _, w0⟩ := DataW.trod_int Try.underlying3 h0
    obtain ⟨y, e1, _, w1⟩ := DataW.trod_int Try.underlying3 h1
    simp at e0 e1
    exact ⟨(x, y), by simp [encP, e0, e1], in_i64 w0, in_i64 w1⟩
theorem ids_of_rcs {w : World} {v : Value} {l : List Id2} (h : Rcs encP 2 w v l) : Ids w v l := by
  obtain ⟨A, c, rfl, h0, hn, hx⟩ := h
  refine ⟨A, c, rfl, h0, hn, fun k hk => ?_⟩
  obtain ⟨ad, rfl, h2, h3⟩ := hx k hk
  refine ⟨ad, rfl, h2, h3 0 _ rfl, ?_⟩
  rw [← add_odd]
  exact h3 1 _ rfl
theorem elem_step {w : World} {base : Nat} {spare : Nat → Bool} {held : Bool} (n : Nat) (cs : List Value) (d : DataW H × List MemPlace) (h : DataW.trod enc Try.prog w base spare held n 38 cs = some d) : ∃ s : Sp, cs = encT s ∧ SpOk w s := by
  obtain ⟨y0, y1, y2, y3, n', _, hl, h0, h1, h2, h3⟩ := Joins.trod_struct4 Try.underlying38 h
  rw [ce38] at hl
  match cs, hl with
  | [a, b, c, d, e], _ =>
    rw [show Try.prog.cellsOf 4 = 1 from ce4] at h0
    rw [show Try.prog.cellsOf 35 = 2 from ce35] at h1
    rw [show Try.prog.cellsOf 36 = 1 from ce36] at h2
    rw [show Try.prog.cellsOf 3 = 1 from ce3] at h3
    obtain ⟨sh, e0, _⟩ := DataW.trod_bool Try.underlying4 h0
    obtain ⟨q, e1, hq⟩ := elem_idW _ _ _ h1
    obtain ⟨u, e2, l, hI, hP⟩ := open_recs_with (enc := encP) (sz := 2) In2 Try.underlying36 ce35 encP_len (fun n cs d h => elem_idW n cs d h) (by omega) h2
    obtain ⟨x, e3, _, w3⟩ := DataW.trod_int Try.underlying3 h3
    simp [encP] at e0 e1 e2 e3
    obtain ⟨A, cc, rfl, hz⟩ := id hI
    exact ⟨⟨sh, q, A, cc, l, x⟩, by simp [encT, e0, e1, e2, e3], ids_of_rcs hI, hq, hP, in_i64 w3⟩
theorem open_steps {w : World} {b0 : Nat} {v : Value} {d : DataW H} {p : List MemPlace} (hv : Value.okWide Try.prog w .any b0 22 v) (h : DataW.Trod enc Try.prog w 0 (fun _ => true) true 22 v d p) :
    ∃ l : List Sp, Rcs encT 5 w v l ∧ ∀ s ∈ l, SpOk w s := by
  obtain ⟨A, len, cap, rfl⟩ := okWide_slice Try.underlying22 hv
  obtain ⟨fuel, hf⟩ := h
  obtain ⟨u, e, l, hl, hp⟩ := open_recs_with (enc := encT) (sz := 5) _ Try.underlying22 ce38 encT_len (fun n cs d h => elem_step n cs d h) (by omega) hf
  have e2 : Value.slice A len cap = u := by simpa [Value.cells] using e
  subst e2
  exact ⟨l, hl, hp⟩
theorem open_id2 {w : World} {b0 : Nat} {v : Value} {d : DataW H} {p : List MemPlace} (hv : Value.okWide Try.prog w .any b0 35 v) (h : DataW.Trod enc Try.prog w 0 (fun _ => true) true 35 v d p) :
    ∃ a i : Int, v = .agg #[.int .i64 a, .int .i64 i] ∧ In2 (a, i) := by
  obtain ⟨v0, v1, y0, y1, n, rfl, _, _, h0, h1⟩ := Joins.open_agg2 Try.underlying35 (by kernel_rfl) ce35 hv h
  obtain ⟨a, e0, _, w0⟩ := DataW.trod_int Try.underlying3 h0
  obtain ⟨i, e1, _, w1⟩ := DataW.trod_int Try.underlying3 h1
  injection e0 with e0
  injection e1 with e1
  exact ⟨a, i, by rw [e0, e1], in_i64 w0, in_i64 w1⟩
theorem trodAll_six {w : World} {base : Nat} {spare : Nat → Bool} {held : Bool} {t0 t1 t2 t3 t4 t5 : TypeId} {args : Array Value} {ds : List (DataW H)} {ps : List MemPlace} (h : DataW.TrodAll enc Try.prog w base spare held [t0, t1, t2, t3, t4, t5] args.toList ds ps) :
    ∃ v0 v1 v2 v3 v4 v5 d0 d1 d2 d3 d4 d5 p0 p1 p2 p3 p4 p5, args = #[v0, v1, v2, v3, v4, v5] ∧ ds = [d0, d1, d2, d3, d4, d5] ∧ ps = p0 ++ p1 ++ p2 ++ p3 ++ p4 ++ p5 ∧ DataW.Trod enc Try.prog w base spare held t0 v0 d0 p0 ∧ DataW.Trod enc Try.prog w base spare held t1 v1 d1 p1 ∧ DataW.Trod enc Try.prog w base spare held t2 v2 d2 p2 ∧ DataW.Trod enc Try.prog w base spare held t3 v3 d3 p3 ∧ DataW.Trod enc Try.prog w base spare held t4 v4 d4 p4 ∧ DataW.Trod enc Try.prog w base spare held t5 v5 d5 p5 := by
  obtain ⟨v0, _, d0, _, p0, _, e, rfl, rfl, h0, r0⟩ := trodAll_cons h
  obtain ⟨v1, _, d1, _, p1, _, rfl, rfl, rfl, h1, r1⟩ := trodAll_cons r0
  obtain ⟨v2, _, d2, _, p2, _, rfl, rfl, rfl, h2, r2⟩ := trodAll_cons r1
  obtain ⟨v3, _, d3, _, p3, _, rfl, rfl, rfl, h3, r3⟩ := trodAll_cons r2
  obtain ⟨v4, _, d4, _, p4, _, rfl, rfl, rfl, h4, r4⟩ := trodAll_cons r3
  obtain ⟨v5, _, d5, _, p5, _, rfl, rfl, rfl, h5, r5⟩ := trodAll_cons r4
  obtain ⟨rfl, rfl, rfl⟩ := trodAll_nil r5
  exact ⟨v0, v1, v2, v3, v4, v5, d0, d1, d2, d3, d4, d5, p0, p1, p2, p3, p4, p5, by cases args; simp_all, rfl, by simp, h0, h1, h2, h3, h4, h5⟩
end
end Go.Proofs.Ytkoeplgkiogjlaa
