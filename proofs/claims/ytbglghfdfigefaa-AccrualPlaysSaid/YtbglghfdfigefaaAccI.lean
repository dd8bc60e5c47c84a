/-
  A walk over the examples, which each statement asks first. No statement is proved in this text.
-/
import Derived.Test.YtbglghfdfigefaaAccH
set_option maxRecDepth 20000
namespace Go.Proofs.Ytbglghfdfigefaa
open Go Go.RowKit
set_option maxHeartbeats 1000000 in
theorem works_any (w : World) : Calls Try.prog 12 #[] w fun e w' => e = .returned (.bool true) ∧ Below w.heap.size w w' := by
  go_enter Try.func12, Try.ntmps12
  go_wp2_with fail
  (with_reducible refine (new_one w _ (Below.refl _ _) 3 10 2 (by decide)).mono ?_)
  rintro e w1 ⟨l, rfl, ho, -, -⟩
  have O := Lib.hid ho
  clear ho
  go_wp2_with fail
  (with_reducible refine (O.out.late 99).mono ?_)
  rintro e w2 ⟨rfl, hb⟩
  rw [show Dt.late (Dt.new 3 10 2) 99 = false from by decide]
  have O := Lib.hid (O.out.keep hb)
  clear hb
  go_wp2_with fail
  (with_reducible refine (O.out.start 5).mono ?_)
  rintro e w3 hd
  obtain ⟨rfl, h1⟩ := O.out.done (Dt.start_ok O.out.ok _) hd
  rw [show Dt.start (Dt.new 3 10 2) 5 = ⟨3, 10, 2, true, 5, []⟩ from rfl] at h1
  have O := Lib.hid h1
  clear hd h1
  go_wp2_with fail
  (with_reducible refine (O.out.late 15).mono ?_)
  rintro e w4 ⟨rfl, hb⟩
  rw [show Dt.late ⟨3, 10, 2, true, 5, []⟩ 15 = false from by decide]
  have O := Lib.hid (O.out.keep hb)
  clear hb
  go_wp2_with fail
  (with_reducible refine (O.out.late 16).mono ?_)
  rintro e w5 ⟨rfl, hb⟩
  rw [show Dt.late ⟨3, 10, 2, true, 5, []⟩ 16 = true from by decide]
  have O := Lib.hid (O.out.keep hb)
  clear hb
  go_wp2_with fail
  (with_reducible refine (O.out.limit).mono ?_)
  rintro e w6 ⟨rfl, hb⟩
  rw [show Dt.limit ⟨3, 10, 2, true, 5, []⟩ = 10 from by decide]
  have O := Lib.hid (O.out.keep hb)
  clear hb
  go_wp2_with fail
  (with_reducible refine (O.out.heard 6).mono ?_)
  rintro e w7 hd
  obtain ⟨rfl, h1⟩ := O.out.done (Dt.heard_ok O.out.ok _) hd
  rw [show Dt.heard ⟨3, 10, 2, true, 5, []⟩ 6 = ⟨3, 10, 2, true, 6, [1]⟩ from rfl] at h1
  have O := Lib.hid h1
  clear hd h1
  go_wp2_with fail
  (with_reducible refine (O.out.heard 8).mono ?_)
  rintro e w8 hd
  obtain ⟨rfl, h1⟩ := O.out.done (Dt.heard_ok O.out.ok _) hd
  rw [show Dt.heard ⟨3, 10, 2, true, 6, [1]⟩ 8 = ⟨3, 10, 2, true, 8, [1, 2]⟩ from rfl] at h1
  have O := Lib.hid h1
  clear hd h1
  go_wp2_with fail
  (with_reducible refine (O.out.heard 11).mono ?_)
  rintro e w9 hd
  obtain ⟨rfl, h1⟩ := O.out.done (Dt.heard_ok O.out.ok _) hd
  rw [show Dt.heard ⟨3, 10, 2, true, 8, [1, 2]⟩ 11 = ⟨3, 10, 2, true, 11, [2, 3]⟩ from rfl] at h1
  have O := Lib.hid h1
  clear hd h1
  go_wp2_with fail
  (with_reducible refine (O.out.limit).mono ?_)
  rintro e w10 ⟨rfl, hb⟩
  rw [show Dt.limit ⟨3, 10, 2, true, 11, [2, 3]⟩ = 5 from by decide]
  have O := Lib.hid (O.out.keep hb)
  clear hb
  go_wp2_with fail
  (with_reducible refine (O.out.late 16).mono ?_)
  rintro e w11 ⟨rfl, hb⟩
  rw [show Dt.late ⟨3, 10, 2, true, 11, [2, 3]⟩ 16 = false from by decide]
  have O := Lib.hid (O.out.keep hb)
  clear hb
  go_wp2_with fail
  (with_reducible refine (O.out.late 17).mono ?_)
  rintro e w12 ⟨rfl, hb⟩
  rw [show Dt.late ⟨3, 10, 2, true, 11, [2, 3]⟩ 17 = true from by decide]
  have O := Lib.hid (O.out.keep hb)
  clear hb
  go_wp2_with fail
  go_ret
  exact ⟨rfl, O.out.below⟩
  end Go.Proofs.Ytbglghfdfigefaa
