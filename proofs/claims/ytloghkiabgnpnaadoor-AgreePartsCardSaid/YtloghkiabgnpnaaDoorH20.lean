/-
  Carried over and put together: contracts of this program's functions, and plain facts. No statement is proved in this text.
-/
import Derived.Test.YtloghkiabgnpnaaDoorH19
namespace Go.Proofs.YtloghkiabgnpnaaDoor
open Go Go.RowKit
/-- A rank, as the statement has it: 9, where a status has none. -/
def rnk (s : Int) : Int := if Agr.rk s = 0 then 9 else Agr.rk s
theorem rank_any (s : Nat) (hs : s < 256) (w : World) : Calls Tryd.prog 28 #[.int .u8 s] w fun e w' => e = .returned (.int .i64 (rnk s)) ∧ Below w.heap.size w w' := by
  have hb := Lib.hid (fun o : Obj => (Below.refl w.heap.size w).alloc (Nat.le_refl _) o)
  by_cases h : s < 8
  · match s, h with
    | 0, _ =>
      go_enter Tryd.func28, Tryd.ntmps28
      go_wp2_with fail
      go_ret
      exact ⟨rfl, hb.out _⟩
    | 1, _ =>
      go_enter Tryd.func28, Tryd.ntmps28
      go_wp2_with fail
      go_ret
      exact ⟨rfl, hb.out _⟩
    | 2, _ =>
      go_enter Tryd.func28, Tryd.ntmps28
      go_wp2_with fail
      go_ret
      exact ⟨rfl, hb.out _⟩
    | 3, _ =>
      go_enter Tryd.func28, Tryd.ntmps28
      go_wp2_with fail
      go_ret
      exact ⟨rfl, hb.out _⟩
    | 4, _ =>
      go_enter Tryd.func28, Tryd.ntmps28
      go_wp2_with fail
      go_ret
      exact ⟨rfl, hb.out _⟩
    | 5, _ =>
      go_enter Tryd.func28, Tryd.ntmps28
      go_wp2_with fail
      go_ret
      exact ⟨rfl, hb.out _⟩
    | 6, _ =>
      go_enter Tryd.func28, Tryd.ntmps28
      go_wp2_with fail
      go_ret
      exact ⟨rfl, hb.out _⟩
    | 7, _ =>
      go_enter Tryd.func28, Tryd.ntmps28
      go_wp2_with fail
      go_ret
      exact ⟨rfl, hb.out _⟩
  · have h1 : rnk s = 9 := by
      unfold rnk Agr.rk
      rw [if_neg (show ¬ ((s : Int) = 3 ∨ (s : Int) = 4) by omega), if_neg (show ¬ (s : Int) = 2 by omega), if_neg (show ¬ (s : Int) = 1 by omega)]
      rfl
    have h2 : (7 : Int) < (s : Int) := by omega
    have h3 := decide_eq_true h2
    have h4 : ¬ ((s : Int) < 7) := by omega
    have h5 : ¬ ((s : Int) ≤ 7) := by omega
    go_enter Tryd.func28, Tryd.ntmps28
    go_wp2_with fail
    go_ret
    exact ⟨rfl, hb.out _⟩
end Go.Proofs.YtloghkiabgnpnaaDoor
