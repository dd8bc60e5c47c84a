/-
  Carried over: contracts of this program's functions. No statement is proved in this text.
-/
import Derived.Test.YtbjknjbjldodlaaIdeRefB
set_option maxRecDepth 20000
namespace Go.Proofs.Ytbjknjbjldodlaa
open Go.RowKit Sets
/-- Is a slice longer than 200? -/
def bigV (v : Value) : Bool := decide (200 < lenOf v)
/-- Block g holds these slices. -/
def Lots (w : World) (g : Nat) (cs : List Value) : Prop := w.heap[g]? = some (.cells cs.toArray 25 (0, 0))
theorem lots_cell {w : World} {g : Nat} {cs : List Value} (h : Lots w g cs) {k : Nat} (hk : k < cs.length) : w.cell? ⟨g, k, none⟩ = some cs[k] := by
  unfold Lots at h
  rw [cell_of_row _ _ k _ _ _ h]
  simp [hk]
theorem big_take {cs : List Value} {k : Nat} (hk : k < cs.length) (h : (cs.take k).any bigV = false) (h2 : bigV cs[k] = false) : (cs.take (k + 1)).any bigV = false := by
  rw [List.take_succ_eq_append_getElem hk, List.any_append, h]
  simp [h2]
theorem big_yes {cs : List Value} {k : Nat} (hk : k < cs.length) (h2 : bigV cs[k] = true) : cs.any bigV = true := by
  rw [List.any_eq_true]
  exact ⟨cs[k], List.getElem_mem hk, h2⟩
end Go.Proofs.Ytbjknjbjldodlaa
