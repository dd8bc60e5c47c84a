/-
  Carried over: contracts of this program's functions. No statement is proved in this text.
-/
import Derived.Test.YtmgkbfhkipfimaaIdeParts
import Derived.Test.YtmgkbfhkipfimaaIdeWalksD
import Derived.Test.YtmgkbfhkipfimaaIdeWalksC
import Derived.Test.YtmgkbfhkipfimaaIdeWalksB
import Derived.Test.YtmgkbfhkipfimaaRowIds
set_option maxRecDepth 20000
set_option maxRecDepth 20000
namespace Go.Proofs.Ytmgkbfhkipfimaa
open Go.RowKit
theorem elem24 : Try.prog.elem 27 = 24 := by kernel_rfl
theorem size23 (W : World) : (sizeOf 24).run Try.prog W = .ok 2 W := by kernel_rfl
theorem under24 : Try.prog.underlying 27 = some (.slice (Try.prog.elem 27)) := by rw [elem24]; exact Try.underlying27
/-- What stands from place k on. -/
theorem run_fromROW {w : World} {v : Value} {l : List (Int × Int)} (h : Ids w v l) (k : Nat) (hk : k ≤ l.length) :
    ∃ V, (∀ W, (Instr.slice 27 v (some (.int .i64 (k : Int))) none none).run Try.prog W = .ok V W) ∧ Ids w V (l.drop k) := by
  obtain ⟨A, c, rfl, h0, hc, hx⟩ := id h
  refine ⟨sliced A k l.length c 2, fun W => ?_, ?_⟩
  · rw [run_slice_l (w := W) (P := Try.prog) 27 A l.length c under24 .i64 (k : Int) (by omega) (by omega)]
    rw [elem24, size23]
    rfl
  · have := h.sliced hk (Nat.le_refl _)
    rwa [List.take_length] at this
/-- What stands ahead of place k. -/
theorem run_toROW {w : World} {v : Value} {l : List (Int × Int)} (h : Ids w v l) (k : Nat) (hk : k ≤ l.length) :
    ∃ V, (∀ W, (Instr.slice 27 v none (some (.int .i64 (k : Int))) none).run Try.prog W = .ok V W) ∧ Ids w V (l.take k) := by
  obtain ⟨A, c, rfl, h0, hc, hx⟩ := id h
  refine ⟨sliced A 0 k c 2, fun W => ?_, ?_⟩
  · rw [run_slice_h (w := W) (P := Try.prog) 27 A l.length c under24 .i64 (k : Int) (by omega) (by omega)]
    rw [elem24, size23]
    rfl
  · exact h.sliced (Nat.zero_le _) hk
/-- All but the first one of a list. -/
theorem run_tailROW {w : World} {v : Value} {x : Int × Int} {l : List (Int × Int)} (h : Ids w v (x :: l)) :
    ∃ V, (∀ W, (Instr.slice 27 v (some (.int .i64 1)) none none).run Try.prog W = .ok V W) ∧ Ids w V l := run_fromROW h 1 (by simp)
end Go.Proofs.Ytmgkbfhkipfimaa
