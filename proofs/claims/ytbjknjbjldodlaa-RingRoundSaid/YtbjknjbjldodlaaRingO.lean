/-
  Arguments opened: a list of bytes. No statement is proved in this text.
-/
import Derived.Test.YtbjknjbjldodlaaRingJ
import Derived.Test.YtbjknjbjldodlaaIdeOpen
import Derived.Test.YtbjknjbjldodlaaIdeBase
namespace Go.Proofs.Ytbjknjbjldodlaa
open Go.RowKit Go.WideShapes Go.ChangeShapes Go.ChangeAt
section
variable {H : Type} {enc : TypeId × Value → H}
theorem ce5 : Try.prog.cellsOf 5 = 1 := by kernel_rfl
theorem open_bytes {w : World} {b0 : Nat} {v : Value} {d : DataW H} {p : List MemPlace} (hv : Value.okWide Try.prog w .any b0 34 v) (h : DataW.Trod enc Try.prog w 0 (fun _ => true) true 34 v d p) :
    ∃ l : List Int, Rcs encU 1 w v l := by
  obtain ⟨A, len, cap, rfl⟩ := okWide_slice Try.underlying34 hv
  obtain ⟨fuel, hf⟩ := h
  obtain ⟨u, e, l, hl⟩ := open_recs (enc := encU) (sz := 1) Try.underlying34 ce5 encU_len (fun n cs d h => by obtain ⟨q, e0, _, _⟩ := DataW.trod_int Try.underlying5 h; exact ⟨q, e0⟩) (by omega) hf
  have e2 : Value.slice A len cap = u := by simpa [Value.cells] using e
  subst e2
  exact ⟨l, hl⟩
end
end Go.Proofs.Ytbjknjbjldodlaa
