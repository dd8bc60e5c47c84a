/-
  A walk over a statement: the example, the bounds, nobody's watch. No statement is proved in this text; it holds for every input that its premises let by.
-/
import Derived.Test.YtkoeplgkiogjlaaWchK
set_option maxRecDepth 20000
namespace Go.Proofs.Ytkoeplgkiogjlaa
open Go Go.RowKit Sets Go.Maps Go.ChangeMaps Go.MapKept
theorem look_nil (A : Option Addr) (m c : Nat) (x : Int) (w : World) : Calls Try.prog 16 #[.pointer none, .slice A m c, .int .i64 x] w fun e w' => e = .returned (.slice none 0 0) ∧ Below w.heap.size w w' := by
  go_enter Try.func16, Try.ntmps16
  go_wp2_with fail
  go_ret
  exact ⟨rfl, Below.refl _ _⟩
theorem watched_nil (w : World) : Calls Try.prog 19 #[.pointer none] w fun e w' => e = .returned (.slice none 0 0) ∧ Below w.heap.size w w' := by
  go_enter Try.func19, Try.ntmps19
  go_wp2_with fail
  go_ret
  exact ⟨rfl, Below.refl _ _⟩
theorem wcopy_nil (w : World) : Calls Try.prog 12 #[.pointer none] w fun e w' => e = .returned (.pointer none) ∧ Below w.heap.size w w' := by
  go_enter Try.func12, Try.ntmps12
  go_wp2_with fail
  go_ret
  exact ⟨rfl, Below.refl _ _⟩
theorem wheard_nil (a i x : Int) (w : World) : Calls Try.prog 14 #[.pointer none, .agg #[.int .i64 a, .int .i64 i], .int .i64 x] w fun e w' => e = .returned (.bool false) ∧ Below w.heap.size w w' := by
  have B := Lib.hid (below_one w (.cells #[.int .i64 a, .int .i64 i] 35))
  go_enter Try.func14, Try.ntmps14
  go_wp2_with fail
  go_ret
  exact ⟨rfl, B.out⟩
set_option maxHeartbeats 4000000 in
theorem names_any (w : World) : Calls Try.prog 4 #[] w fun en w' => en = .returned (.bool true) ∧ Below w.heap.size w w' := by
  go_enter Try.func4, Try.ntmps4
  go_wp2_with fail
  (with_reducible refine (wnew_no 0 1 1 (by kernel_rfl) _).mono ?_)
  rintro en w1 ⟨rfl, hb⟩
  have B := Lib.hid hb
  clear hb
  go_wp2_with fail
  (with_reducible refine (wnew_no 3 2 1 (by kernel_rfl) _).mono ?_)
  rintro en w2 ⟨rfl, hb⟩
  have B := Lib.hid (below_after B.out hb (Nat.le_refl _))
  clear hb
  go_wp2_with fail
  (with_reducible refine (wnew_no 1 1 0 (by kernel_rfl) _).mono ?_)
  rintro en w3 ⟨rfl, hb⟩
  have B := Lib.hid (below_after B.out hb (Nat.le_refl _))
  clear hb
  go_wp2_with fail
  (with_reducible refine (Sit.new w _ B.out 1 1 1 (by kernel_rfl)).mono ?_)
  rintro en w4 ⟨p, S, rfl, h1, -, -⟩
  have Q := Lib.hid h1
  clear h1 B
  go_wp2_with fail
  have Q := Lib.hid (Q.out.keep (below_one w4 (.cells #[.int .i64 1, .int .i64 1] 35)))
  (with_reducible refine (look_nil _ _ _ 1 _).mono ?_)
  rintro en w5 ⟨rfl, hb⟩
  have Q := Lib.hid (Q.out.keep hb)
  clear hb
  go_wp2_with fail
  (with_reducible refine (watched_nil _).mono ?_)
  rintro en w6 ⟨rfl, hb⟩
  have Q := Lib.hid (Q.out.keep hb)
  clear hb
  go_wp2_with fail
  (with_reducible refine (wheard_nil _ _ 1 _).mono ?_)
  rintro en w7 ⟨rfl, hb⟩
  have Q := Lib.hid (Q.out.keep hb)
  clear hb
  go_wp2_with fail
  (with_reducible refine (wcopy_nil _).mono ?_)
  rintro en w8 ⟨rfl, hb⟩
  have Q := Lib.hid (Q.out.keep hb)
  clear hb
  go_wp2_with fail
  (with_reducible refine (Q.out.watched (by decide) rises_nil).mono ?_)
  rintro en w9 ⟨A, c, rfl, -, hb⟩
  have Q := Lib.hid (Q.out.keep hb)
  clear hb
  go_wp2_with fail
  (with_reducible refine (Q.out.look _ [] 5 (Ids.nil _) (by decide) (fun q hq => absurd hq (by simp)) (by decide)).mono ?_)
  rintro en w10 ⟨S2, A2, c2, rfl, h1, -, -⟩
  rw [show (lateL (withD (Dt.new 1 1 1) [] (fun _ => Dt.new 1 1 1) 5) 5 (setOf [])).length = 0 from rfl]
  have Q := Lib.hid h1
  clear h1
  go_wp2_with fail
  (with_reducible refine (awake_any _).mono ?_)
  rintro en w11 ⟨rfl, hb⟩
  have Q := Lib.hid (Q.out.keep hb)
  clear hb
  go_wp2_with fail
  go_ret
  exact ⟨rfl, Q.out.below⟩
end Go.Proofs.Ytkoeplgkiogjlaa
