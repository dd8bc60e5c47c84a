/-
  Carried over: contracts of this program's functions. No statement is proved in this text.
-/
import Derived.Test.YtkoeplgkiogjlaaIdeSort
set_option maxRecDepth 20000
set_option maxRecDepth 20000
namespace Go.Proofs.Ytkoeplgkiogjlaa
open Go.RowKit Sets
theorem lists_after {l : List (Int × Int)} {w w1 w2 : World} {e : Ending} (hb : Below w.heap.size w w1) (h : Lists l w1 e w2) : Lists l w e w2 := by
  obtain ⟨v, he, hi, h2⟩ := h
  exact ⟨v, he, hi, below_after hb h2 (Nat.le_refl _)⟩
theorem set_any (v : Value) (l : List (Int × Int)) (w : World) (h : Ids w v l) (hl : l.length ≤ 40000) : Calls Try.prog 33 #[v] w (Lists (setOf l) w) := by
  have HI := Lib.hid h
  clear h
  go_enter Try.func33, Try.ntmps33
  go_wp2_with fail
  refine (sorted_ind l.length v l _ HI.out (Nat.le_refl _) hl).mono ?_
  rintro e w1 ⟨r, rfl, hi, hb⟩
  have H1 := Lib.hid hi
  have B1 := Lib.hid hb
  clear hi hb
  go_wp2_with fail
  go_ret
  exact ⟨r, rfl, H1.out, B1.out⟩
end Go.Proofs.Ytkoeplgkiogjlaa
