/-
  Arguments opened: an ID, a member, a list of members and floors, by value. No statement is proved in this text.
-/
import Derived.Test.YtciolhpkhblnbaaRest
import Derived.Lib.SmallJoins
import Derived.Deep.SlicePairs
namespace Go.Proofs.Ytciolhpkhblnbaa
open Go.RowKit Go.WideShapes Go.ChangeShapes Go.ChangeAt Ros
section
variable {H : Type} {enc : TypeId × Value → H}
theorem cells25 : Try.prog.cellsOf 25 = 1 := by kernel_rfl
theorem cells24 : Try.prog.cellsOf 24 = 1 := by kernel_rfl
theorem cells27 : Try.prog.cellsOf 27 = 2 := by kernel_rfl
theorem cells30 : Try.prog.cellsOf 30 = 2 := by kernel_rfl
theorem cells32 : Try.prog.cellsOf 32 = 4 := by kernel_rfl
theorem cells3 : Try.prog.cellsOf 3 = 1 := by kernel_rfl
theorem cells5 : Try.prog.cellsOf 5 = 1 := by kernel_rfl
theorem in_kind {k : IntKind} {v : Int} (h : (Lit.int k v).wf = true) : k.min ≤ v ∧ v ≤ k.max := by
  have hw : (decide (k.min ≤ v) && decide (v ≤ k.max)) = true := h
  rw [Bool.and_eq_true] at hw
  exact ⟨of_decide_eq_true hw.1, of_decide_eq_true hw.2⟩
/-- A member's numbers are of their kinds. -/
def InR (x : Mm) : Prop := -9223372036854775808 ≤ x.2.2 ∧ x.2.2 ≤ 9223372036854775807 ∧ 0 ≤ x.2.1 ∧ x.2.1 ≤ 255
theorem open_id {w : World} {b0 : Nat} {v : Value} {d : DataW H} {p : List MemPlace} (hv : Value.okWide Try.prog w .any b0 30 v) (h : DataW.Trod enc Try.prog w 0 (fun _ => true) true 30 v d p) :
    ∃ a i : Int, v = .agg #[.int .i64 a, .int .i64 i] := by
  obtain ⟨v0, v1, y0, y1, n, rfl, _, _, h0, h1⟩ := Joins.open_agg2 Try.underlying30 (by kernel_rfl) cells30 hv h
  obtain ⟨a, e0, _, _⟩ := DataW.trod_int Try.underlying3 h0
  obtain ⟨i, e1, _, _⟩ := DataW.trod_int Try.underlying3 h1
  injection e0 with e0
  injection e1 with e1
  exact ⟨a, i, by rw [e0, e1]⟩
theorem elem_id {w : World} {base : Nat} {spare : Nat → Bool} {held : Bool} (n : Nat) (cs : List Value) (d : DataW H × List MemPlace) (h : DataW.trod enc Try.prog w base spare held n 30 cs = some d) : ∃ r : Id2, cs = encI r := by
  obtain ⟨y0, y1, n', _, hl, h0, h1⟩ := trod_struct2 Try.underlying30 h
  rw [cells30] at hl
  match cs, hl with
  | [a, b], _ =>
    rw [show Try.prog.cellsOf 3 = 1 from cells3] at h0 h1
    obtain ⟨x, e0, _, _⟩ := DataW.trod_int Try.underlying3 h0
    obtain ⟨y, e1, _, _⟩ := DataW.trod_int Try.underlying3 h1
    simp at e0 e1
    exact ⟨(x, y), by simp [encI, e0, e1]⟩
theorem elem_mem {w : World} {base : Nat} {spare : Nat → Bool} {held : Bool} (n : Nat) (cs : List Value) (d : DataW H × List MemPlace) (h : DataW.trod enc Try.prog w base spare held n 32 cs = some d) : ∃ r : Mm, cs = encM r ∧ InR r := by
  obtain ⟨xs, n', _, _, hl, hlen, hf⟩ := DataW.trod_struct Try.underlying32 h
  rw [cells32] at hl
  match cs, hl, xs, hlen with
  | [a, b, c, s], _, [y0, y1, y2], _ =>
    have h0 : DataW.trod enc Try.prog w base spare held n' 30 (([a, b, c, s].drop 0).take (Try.prog.cellsOf 30)) = some y0 := hf 0 _ rfl
    have h1 : DataW.trod enc Try.prog w base spare held n' 5 (([a, b, c, s].drop 2).take (Try.prog.cellsOf 5)) = some y1 := hf 1 _ rfl
    have h2 : DataW.trod enc Try.prog w base spare held n' 3 (([a, b, c, s].drop 3).take (Try.prog.cellsOf 3)) = some y2 := hf 2 _ rfl
    rw [show Try.prog.cellsOf 30 = 2 from cells30] at h0
    rw [show Try.prog.cellsOf 5 = 1 from cells5] at h1
    rw [show Try.prog.cellsOf 3 = 1 from cells3] at h2
    obtain ⟨r, e0⟩ := elem_id _ _ _ h0
    obtain ⟨v, e1, _, wf1⟩ := DataW.trod_int Try.underlying5 h1
    obtain ⟨u, e2, _, wf2⟩ := DataW.trod_int Try.underlying3 h2
    simp [encI] at e0 e1 e2
    have k1 := in_kind wf1
    have k2 := in_kind wf2
    exact ⟨(r, v, u), by simp [encM, e0, e1, e2], k2.1, k2.2, k1.1, k1.2⟩
theorem open_mem {w : World} {b0 : Nat} {v : Value} {d : DataW H} {p : List MemPlace} (hv : Value.okWide Try.prog w .any b0 32 v) (h : DataW.Trod enc Try.prog w 0 (fun _ => true) true 32 v d p) :
    ∃ a i s n : Int, v = .agg #[.int .i64 a, .int .i64 i, .int .u8 s, .int .i64 n] ∧ InR ((a, i), s, n) := by
  obtain ⟨cs, rfl, hsz⟩ := okWide_struct Try.underlying32 hv
  obtain ⟨fuel, hf⟩ := h
  obtain ⟨⟨⟨a, i⟩, s, n⟩, e, hr⟩ := elem_mem _ _ _ hf
  refine ⟨a, i, s, n, ?_, hr⟩
  have : cs.toList = encM ((a, i), s, n) := by simpa [Value.cells] using e
  congr 1
  exact Array.toList_inj.1 this
theorem open_ls {w : World} {b0 : Nat} {v : Value} {d : DataW H} {p : List MemPlace} (hv : Value.okWide Try.prog w .any b0 27 v) (h : DataW.Trod enc Try.prog w 0 (fun _ => true) true 27 v d p) :
    ∃ L : Ls, LsAt w v L ∧ ∀ x ∈ L.1, InR x := by
  obtain ⟨v0, v1, y0, y1, n, rfl, _, _, h0, h1⟩ := Joins.open_agg2 Try.underlying27 (by kernel_rfl) cells27 hv h
  obtain ⟨s, e0, l, hl, hk⟩ := open_recs_with (enc := encM) (sz := 4) InR Try.underlying24 cells32 encM_len (fun n cs d h => elem_mem n cs d h) (by omega) h0
  obtain ⟨t, e1, f, hf⟩ := open_recs (enc := encI) (sz := 2) Try.underlying25 cells30 encI_len (fun n cs d h => elem_id n cs d h) (by omega) h1
  injection e0 with e0
  injection e1 with e1
  rw [e0, e1]
  exact ⟨(l, f), lsAt_of hl (ids_rcs hf), hk⟩
end
end Go.Proofs.Ytciolhpkhblnbaa
