/-
  A walk over a statement: the examples, the bounds, times beyond their range, and what is done to nil. No statement is proved in this text.
-/
import Derived.Test.YtbglghfdfigefaaAccJ
set_option maxRecDepth 20000
namespace Go.Proofs.Ytbglghfdfigefaa
open Go Go.RowKit
def enc3 (x : Int × Int × Int) : List Value := [.int .i64 x.1, .int .i64 x.2.1, .int .i64 x.2.2]
theorem enc3_len (x : Int × Int × Int) : (enc3 x).length = 3 := rfl
def trip : List (Int × Int × Int) := [(0, 1, 1), (2, 1, 1), (1, 4097, 1), (1, 1, 0), (1, 1, 4097), (-1, -1, -1)]
theorem trip_no : ∀ x ∈ trip, newOk x.1 x.2.1 x.2.2 = false := by decide
set_option maxHeartbeats 4000000 in
theorem names_any (w : World) : Calls Try.prog 3 #[] w fun e w' => e = .returned (.bool true) ∧ Below w.heap.size w w' := by
  go_enter Try.func3, Try.ntmps3
  go_wp2_with fail
  (with_reducible refine (begin_nil _ _).mono ?_)
  rintro e w1 ⟨rfl, hb⟩
  have B := Lib.hid hb
  clear hb
  go_wp2_with fail
  (with_reducible refine (heard_nil _ _).mono ?_)
  rintro e w11 ⟨rfl, hb⟩
  have B := Lib.hid (below_after B.out hb (Nat.le_refl _))
  clear hb
  go_wp2_with fail
  (with_reducible refine (works_any _).mono ?_)
  rintro e w12 ⟨rfl, hb⟩
  have B := Lib.hid (below_after B.out hb (Nat.le_refl _))
  clear hb
  go_wp2_with fail
  (with_reducible refine (limit_nil _).mono ?_)
  rintro e w13 ⟨rfl, hb⟩
  have B := Lib.hid (below_after B.out hb (Nat.le_refl _))
  clear hb
  go_wp2_with fail
  (with_reducible refine (late_nil _ _).mono ?_)
  rintro e w14 ⟨rfl, hb⟩
  have B := Lib.hid (below_after B.out hb (Nat.le_refl _))
  clear hb
  go_wp2_with fail
  (with_reducible refine (copy_nil _).mono ?_)
  rintro e w15 ⟨rfl, hb⟩
  have B := Lib.hid (below_after B.out hb (Nat.le_refl _))
  clear hb
  go_wp2_with fail
  have HT := Lib.hid (rcs_lit (enc := enc3) enc3_len w15 trip #[.int .i64 0, .int .i64 1, .int .i64 1, .int .i64 2, .int .i64 1, .int .i64 1, .int .i64 1, .int .i64 4097, .int .i64 1, .int .i64 1, .int .i64 1, .int .i64 0, .int .i64 1, .int .i64 1, .int .i64 4097, .int .i64 (-1), .int .i64 (-1), .int .i64 (-1)] 28 rfl)
  have B2 := Lib.hid (below_after B.out (below_one w15 (.cells #[.int .i64 0, .int .i64 1, .int .i64 1, .int .i64 2, .int .i64 1, .int .i64 1, .int .i64 1, .int .i64 4097, .int .i64 1, .int .i64 1, .int .i64 1, .int .i64 0, .int .i64 1, .int .i64 1, .int .i64 4097, .int .i64 (-1), .int .i64 (-1), .int .i64 (-1)] 28)) (Nat.le_refl _))
  generalize hW0 : w15.alloc (.cells #[.int .i64 0, .int .i64 1, .int .i64 1, .int .i64 2, .int .i64 1, .int .i64 1, .int .i64 1, .int .i64 4097, .int .i64 1, .int .i64 1, .int .i64 1, .int .i64 0, .int .i64 1, .int .i64 1, .int .i64 4097, .int .i64 (-1), .int .i64 (-1), .int .i64 (-1)] 28) = w0 at *
  clear hW0
  have L6 := Lib.hid (show trip.length = 6 from rfl)
  go_loopw [42] (fun s42 wr => ∃ k : Nat, k ≤ 6 ∧ s42 = .int .i64 k ∧ Hid (Below w0.heap.size w0 wr)) (fun s42 _ => 6 - (intOf s42).toNat)
  case atStart => exact ⟨0, by omega, rfl, Lib.hid (Below.refl _ _)⟩
  case round =>
    obtain ⟨k, hk, rfl, HB⟩ := hrel
    have i3 : (0 : Int) ≤ (k : Int) := by omega
    by_cases hlt : k < 6
    · have hd : decide ((k : Int) < 6) = true := by simp; omega
      have i4 : (k : Int) < 6 := by omega
      have hlt2 : k < trip.length := by rw [L6.out]; exact hlt
      have hno := trip_no trip[k] (List.getElem_mem hlt2)
      have d0 := HT.out.first HB.out hlt2 (u := .int .i64 trip[k].1) rfl
      have d1 := HT.out.cell HB.out hlt2 1 (by decide) (u := .int .i64 trip[k].2.1) rfl
      have d2 := HT.out.cell HB.out hlt2 2 (by decide) (u := .int .i64 trip[k].2.2) rfl
      simp only [Addr.add_lit, Nat.zero_add] at d0 d1 d2
      generalize trip[k] = x at *
      have HN := Lib.hid hno
      have B3 := Lib.hid (below_after HB.out (below_one wr (.cells #[.int .i64 x.1, .int .i64 x.2.1, .int .i64 x.2.2] 28)) (Nat.le_refl _))
      clear hno hlt2
      go_wp2_with fail
      (with_reducible refine (new_no _ _ _ HN.out _).mono ?_)
      rintro e wn ⟨rfl, hb⟩
      have B4 := Lib.hid (below_after B3.out hb (Nat.le_refl _))
      clear hb
      go_wp2_with fail
      go_roundw
      case rel => exact ⟨k + 1, by omega, by go_num, B4⟩
      case measure => simp [intOf]; omega
    · obtain rfl : k = 6 := by omega
      have B := Lib.hid (below_after B2.out HB.out (Nat.le_refl _))
      clear HB HT B2
      go_wp2_with fail
      (with_reducible refine (new_one w _ B.out 1 4096 4096 (by decide)).mono ?_)
      rintro e wm ⟨l, rfl, ho, -, -⟩
      have O := Lib.hid ho
      clear ho
      go_wp2_with fail
      (with_reducible refine (O.out.heard (-9)).mono ?_)
      rintro e w61 hd
      obtain ⟨rfl, h1⟩ := O.out.done (Dt.heard_ok O.out.ok _) hd
      rw [show Dt.heard (Dt.new 1 4096 4096) (-9) = ⟨1, 4096, 4096, true, 0, []⟩ from rfl] at h1
      have O := Lib.hid h1
      clear hd h1
      go_wp2_with fail
      (with_reducible refine (O.out.late 4096).mono ?_)
      rintro e w62 ⟨rfl, hb⟩
      rw [show Dt.late ⟨1, 4096, 4096, true, 0, []⟩ 4096 = false from by decide]
      have O := Lib.hid (O.out.keep hb)
      clear hb
      go_wp2_with fail
      (with_reducible refine (O.out.late 4097).mono ?_)
      rintro e w63 ⟨rfl, hb⟩
      rw [show Dt.late ⟨1, 4096, 4096, true, 0, []⟩ 4097 = true from by decide]
      have O := Lib.hid (O.out.keep hb)
      clear hb
      go_wp2_with fail
      (with_reducible refine (O.out.start 50).mono ?_)
      rintro e w64 hd
      obtain ⟨rfl, h1⟩ := O.out.done (Dt.start_ok O.out.ok _) hd
      rw [show Dt.start ⟨1, 4096, 4096, true, 0, []⟩ 50 = ⟨1, 4096, 4096, true, 0, []⟩ from rfl] at h1
      have O := Lib.hid h1
      clear hd h1
      go_wp2_with fail
      (with_reducible refine (O.out.heard 7).mono ?_)
      rintro e w65 hd
      obtain ⟨rfl, h1⟩ := O.out.done (Dt.heard_ok O.out.ok _) hd
      rw [show Dt.heard ⟨1, 4096, 4096, true, 0, []⟩ 7 = ⟨1, 4096, 4096, true, 7, [7]⟩ from rfl] at h1
      have O := Lib.hid h1
      clear hd h1
      go_wp2_with fail
      (with_reducible refine (O.out.heard 3).mono ?_)
      rintro e w66 hd
      obtain ⟨rfl, h1⟩ := O.out.done (Dt.heard_ok O.out.ok _) hd
      rw [show Dt.heard ⟨1, 4096, 4096, true, 7, [7]⟩ 3 = ⟨1, 4096, 4096, true, 7, [7, 0]⟩ from rfl] at h1
      have O := Lib.hid h1
      clear hd h1
      go_wp2_with fail
      (with_reducible refine (O.out.limit).mono ?_)
      rintro e w67 ⟨rfl, hb⟩
      rw [show Dt.limit ⟨1, 4096, 4096, true, 7, [7, 0]⟩ = 7 from by decide]
      have O := Lib.hid (O.out.keep hb)
      clear hb
      go_wp2_with fail
      (with_reducible refine (O.out.late 14).mono ?_)
      rintro e w68 ⟨rfl, hb⟩
      rw [show Dt.late ⟨1, 4096, 4096, true, 7, [7, 0]⟩ 14 = false from by decide]
      have O := Lib.hid (O.out.keep hb)
      clear hb
      go_wp2_with fail
      (with_reducible refine (O.out.late 15).mono ?_)
      rintro e w69 ⟨rfl, hb⟩
      rw [show Dt.late ⟨1, 4096, 4096, true, 7, [7, 0]⟩ 15 = true from by decide]
      have O := Lib.hid (O.out.keep hb)
      clear hb
      go_wp2_with fail
      (with_reducible refine (O.out.late 2).mono ?_)
      rintro e w70 ⟨rfl, hb⟩
      rw [show Dt.late ⟨1, 4096, 4096, true, 7, [7, 0]⟩ 2 = false from by decide]
      have O := Lib.hid (O.out.keep hb)
      clear hb
      go_wp2_with fail
      (with_reducible refine (O.out.heard 1099511627781).mono ?_)
      rintro e w71 hd
      obtain ⟨rfl, h1⟩ := O.out.done (Dt.heard_ok O.out.ok _) hd
      rw [show Dt.heard ⟨1, 4096, 4096, true, 7, [7, 0]⟩ 1099511627781 = ⟨1, 4096, 4096, true, 1099511627776, [7, 0, 1099511627769]⟩ from rfl] at h1
      have O := Lib.hid h1
      clear hd h1
      go_wp2_with fail
      (with_reducible refine (O.out.limit).mono ?_)
      rintro e w72 ⟨rfl, hb⟩
      rw [show Dt.limit ⟨1, 4096, 4096, true, 1099511627776, [7, 0, 1099511627769]⟩ = 4096 from by decide]
      have O := Lib.hid (O.out.keep hb)
      clear hb
      go_wp2_with fail
      (with_reducible refine (O.out.late 4611686018427387904).mono ?_)
      rintro e w73 ⟨rfl, hb⟩
      rw [show Dt.late ⟨1, 4096, 4096, true, 1099511627776, [7, 0, 1099511627769]⟩ 4611686018427387904 = false from by decide]
      have O := Lib.hid (O.out.keep hb)
      clear hb
      go_wp2_with fail
      go_ret
      exact ⟨rfl, O.out.below⟩
end Go.Proofs.Ytbglghfdfigefaa
