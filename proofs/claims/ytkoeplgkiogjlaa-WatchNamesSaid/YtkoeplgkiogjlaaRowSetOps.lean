/-
  Carried over: contracts of this program's functions. No statement is proved in this text.
-/
import Derived.Test.YtkoeplgkiogjlaaIdeSetOps
import Derived.Test.YtkoeplgkiogjlaaRowSort
set_option maxRecDepth 20000
set_option maxRecDepth 20000
namespace Go.Proofs.Ytkoeplgkiogjlaa
open Go.RowKit Sets
theorem set_new (v : Value) (l : List (Int × Int)) (w : World) (h : Ids w v l) (hl : l.length ≤ 40000) : Calls Try.prog 33 #[v] w (News (setOf l) w) := by
  have HI := Lib.hid h
  clear h
  go_enter Try.func33, Try.ntmps33
  go_wp2_with fail
  refine (sorted_new l.length v l _ HI.out (Nat.le_refl _) hl).mono ?_
  rintro e w1 ⟨r, rfl, hi, hb⟩
  have H1 := Lib.hid hi
  have B1 := Lib.hid hb
  clear hi hb
  go_wp2_with fail
  go_ret
  exact ⟨r, rfl, H1.out, B1.out⟩
theorem set_anyROW (v : Value) (l : List (Int × Int)) (w : World) (h : Ids w v l) (hl : l.length ≤ 40000) : Calls Try.prog 33 #[v] w (Lists (setOf l) w) := (set_new v l w h hl).mono fun _ _ h => h.lists
end Go.Proofs.Ytkoeplgkiogjlaa
