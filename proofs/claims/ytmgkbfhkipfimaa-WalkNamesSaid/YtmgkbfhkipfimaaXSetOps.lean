/-
  Carried over: contracts of this program's functions. No statement is proved in this text.
-/
import Derived.Deep.DeepCutAuto
import Derived.Test.YtmgkbfhkipfimaaIdeSetOps
import Derived.Test.YtmgkbfhkipfimaaXWalksD
set_option maxRecDepth 20000
namespace Go.Proofs.Ytmgkbfhkipfimaa
open Go.RowKit Sets
theorem same_any (v u : Value) (l m : List (Int × Int)) (w : World) (h : Ids w v l) (h2 : Ids w u m) (hl : l.length ≤ 40000) (hm : m.length ≤ 40000) :
    Calls Try.prog 23 #[v, u] w fun e w' => e = .returned (.bool (sameB (setOf l) (setOf m))) ∧ Below w.heap.size w w' := by
  have HI := Lib.hid h
  have HJ := Lib.hid h2
  have hl2 := setOf_len l
  clear h h2
  go_enter Try.func23, Try.ntmps23
  go_wp2_with fail
  refine (set_any v l _ HI.out hl).mono ?_
  rintro e w1 ⟨r, rfl, hi, hb⟩
  have H1 := Lib.hid hi
  have B1 := Lib.hid hb
  have J1 := Lib.hid (HJ.out.below hb)
  clear hi hb
  go_wp2_with fail
  refine (set_any u m _ J1.out hm).mono ?_
  rintro e w2 ⟨r2, rfl, hi, hb⟩
  have H2 := Lib.hid hi
  have B2 := Lib.hid (below_after B1.out hb (Nat.le_refl _))
  have K2 := Lib.hid (H1.out.below hb)
  clear hi hb
  go_wp2_with fail
  refine (equal_any r r2 _ _ _ K2.out H2.out (by omega)).mono ?_
  rintro e w3 ⟨rfl, hb⟩
  have B3 := Lib.hid (below_after B2.out hb (Nat.le_refl _))
  clear hb
  go_wp2_with fail
  go_ret
  exact ⟨rfl, B3.out⟩
end Go.Proofs.Ytmgkbfhkipfimaa
