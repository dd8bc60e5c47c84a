/-
  Arguments opened: a list of rows. No statement is proved in this text.
-/
import Derived.Test.YtofanciaacdjfaaOpen
import Derived.Test.YtofanciaacdjfaaMem
namespace Go.Proofs.Ytofanciaacdjfaa
open Go.RowKit Go.WideShapes Go.ChangeShapes Go.ChangeAt Sets RowSets
section
variable {H : Type} {enc : TypeId × Value → H}
theorem cells27 : Try.prog.cellsOf 27 = 1 := by kernel_rfl
theorem cells26 : Try.prog.cellsOf 26 = 4 := by kernel_rfl
theorem elem_id {w : World} {base : Nat} {spare : Nat → Bool} {held : Bool} (n : Nat) (cs : List Value) (d : DataW H × List MemPlace) (h : DataW.trod enc Try.prog w base spare held n 23 cs = some d) : ∃ r : Id2, cs = encI r := by
  obtain ⟨y0, y1, n', _, hl, h0, h1⟩ := trod_struct2 Try.underlying23 h
  rw [cells23] at hl
  match cs, hl with
  | [a, b], _ =>
    rw [show Try.prog.cellsOf 3 = 1 from cells3] at h0 h1
    obtain ⟨x, e0, _, _⟩ := DataW.trod_int Try.underlying3 h0
    obtain ⟨y, e1, _, _⟩ := DataW.trod_int Try.underlying3 h1
    simp at e0 e1
    exact ⟨(x, y), by simp [encI, e0, e1]⟩
/-- The places of the struct, and what is known of a row that came in. -/
def KnownW (w : World) (q : Raw) : Prop := (∃ m, Ids w (slc q) m) ∧ -9223372036854775808 ≤ q.2.1
theorem elem_row {w : World} {base : Nat} {spare : Nat → Bool} {held : Bool} (n : Nat) (cs : List Value) (d : DataW H × List MemPlace) (h : DataW.trod enc Try.prog w base spare held n 26 cs = some d) : ∃ q : Raw, cs = encW q ∧ KnownW w q := by
  obtain ⟨xs, n', _, _, hl, hlen, hf⟩ := DataW.trod_struct Try.underlying26 h
  rw [cells26] at hl
  match cs, hl, xs, hlen with
  | [a, b, c, s], _, [y0, y1, y2], _ =>
    have h0 : DataW.trod enc Try.prog w base spare held n' 23 (([a, b, c, s].drop 0).take (Try.prog.cellsOf 23)) = some y0 := hf 0 _ rfl
    have h1 : DataW.trod enc Try.prog w base spare held n' 3 (([a, b, c, s].drop 2).take (Try.prog.cellsOf 3)) = some y1 := hf 1 _ rfl
    have h2 : DataW.trod enc Try.prog w base spare held n' 24 (([a, b, c, s].drop 3).take (Try.prog.cellsOf 24)) = some y2 := hf 2 _ rfl
    rw [show Try.prog.cellsOf 23 = 2 from cells23] at h0
    rw [show Try.prog.cellsOf 3 = 1 from cells3] at h1
    rw [show Try.prog.cellsOf 24 = 1 from cells24] at h2
    obtain ⟨r, e0⟩ := elem_id _ _ _ h0
    obtain ⟨v, e1, _, wf⟩ := DataW.trod_int Try.underlying3 h1
    obtain ⟨s', e2, l, hl⟩ := open_recs (enc := encI) (sz := 2) Try.underlying24 cells23 encI_len (fun n cs d h => elem_id n cs d h) (by omega) h2
    have hI := ids_rcs hl
    obtain ⟨A, k, rfl, _⟩ := id hI
    simp [encI] at e0 e1 e2
    refine ⟨(r, v, A, l.length, k), by simp [encW, slc, e0, e1, e2], ⟨l, hI⟩, ?_⟩
    have : decide (IntKind.i64.min ≤ v) = true := by
      have hw : (decide (IntKind.i64.min ≤ v) && decide (v ≤ IntKind.i64.max)) = true := wf
      rw [Bool.and_eq_true] at hw
      exact hw.1
    have := of_decide_eq_true this
    exact this
theorem open_rows {w : World} {b0 : Nat} {v : Value} {d : DataW H} {p : List MemPlace} (hv : Value.okWide Try.prog w .any b0 27 v) (h : DataW.Trod enc Try.prog w 0 (fun _ => true) true 27 v d p) :
    ∃ l : List Row, RowsAt w v l ∧ ∀ r ∈ l, -9223372036854775808 ≤ r.2.1 := by
  obtain ⟨A, len, cap, rfl⟩ := okWide_slice Try.underlying27 hv
  obtain ⟨fuel, hf⟩ := h
  obtain ⟨v', hc, qs, hl, hk⟩ := open_recs_with (enc := encW) (sz := 4) (KnownW w) Try.underlying27 cells26 encW_len (fun n cs d h => elem_row n cs d h) (by omega) hf
  have e : Value.slice A len cap = v' := by simpa [Value.cells] using hc
  rw [e]
  obtain ⟨l, he⟩ := eachReads_of (qs := qs) fun q hq => (hk q hq).1
  refine ⟨l, ⟨qs, hl, he⟩, fun r hr => ?_⟩
  obtain ⟨k, hk2, rfl⟩ := List.mem_iff_getElem.1 hr
  have hq : k < qs.length := by rw [he.len]; exact hk2
  have := (he.at_ k hq hk2).2.1
  rw [← this]
  exact (hk _ (List.getElem_mem hq)).2
end
end Go.Proofs.Ytofanciaacdjfaa
