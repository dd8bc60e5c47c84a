/-
  A walk over a statement: a row has each peer once, and no other one. No statement is proved in this text; it holds for every input that its premises let by.
-/
import Derived.Test.YtmgkbfhkipfimaaWlkW
import Derived.Test.YtmgkbfhkipfimaaXSetOps
set_option maxRecDepth 20000
namespace Go.Proofs.Ytmgkbfhkipfimaa
open Go Go.RowKit Sets
set_option maxHeartbeats 1000000 in
theorem lawRow_any (v : Value) (l : List Id2) (x : Int) (W : World) (h : Ids W v l) (hx : 0 ≤ x ∧ x < 4294967296) :
    Calls Try.prog 5 #[v, .int .u32 x] W fun e w' => e = .returned (.bool true) ∧ Below W.heap.size W w' := by
  obtain ⟨hx0, hx1⟩ := hx
  obtain ⟨d, rfl⟩ := Int.eq_ofNat_of_zero_le hx0
  have hd : d < 4294967296 := by omega
  have H := Lib.hid h
  obtain ⟨A, c, rfl, hz⟩ := h
  clear hz hx0 hx1
  go_enter Try.func5, Try.ntmps5
  go_wp2_with fail
  refine (works_any _).mono ?_
  rintro e w1 ⟨rfl, hb⟩
  have B1 := Lib.hid hb
  clear hb
  by_cases hl : 300 < l.length
  · have hdd : decide ((300 : Int) < (l.length : Int)) = true := decide_eq_true (by omega)
    go_wp2_with fail
    refine (works_any _).mono ?_
    rintro e w2 ⟨rfl, hb⟩
    have B2 := Lib.hid (below_after B1.out hb (Nat.le_refl _))
    go_wp2_with fail
    go_ret
    exact ⟨rfl, B2.out⟩
  · have hdd : decide ((300 : Int) < (l.length : Int)) = false := decide_eq_false (by omega)
    go_wp2_with fail
    refine (row_any _ l d _ (H.out.below B1.out) (by omega) hd).mono ?_
    rintro e w2 ⟨r, rfl, hr, hb⟩
    have R2 := Lib.hid hr.ids
    have B2 := Lib.hid (below_after B1.out hb (Nat.le_refl _))
    clear hr hb
    obtain ⟨A2, c2, rfl, hz⟩ := R2.out
    clear hz
    have R2 : Hid (Ids w2 (.slice A2 (setOf l).length c2) (rowP l d)) := Lib.hid (by have := R2.out; rwa [rowP_len] at this)
    rw [rowP_len]
    have hsl := setOf_len l
    have HP : Hid ((rowP l d).length ≤ 40000) := Lib.hid (by rw [rowP_len]; omega)
    have HS := Lib.hid (show sameB (setOf (rowP l d)) (setOf l) = true from decide_eq_true (set_rowP l d))
    go_wp2_with fail
    refine (set_any _ l _ (H.out.below B2.out) (by omega)).mono ?_
    rintro e w3 ⟨t, rfl, ht, hb⟩
    have R3 := Lib.hid (R2.out.below hb)
    have B3 := Lib.hid (below_after B2.out hb (Nat.le_refl _))
    obtain ⟨A3, c3, rfl, hz⟩ := ht
    clear hz hb R2
    generalize (setOf l).length = n at *
    go_wp2_with fail
    refine (same_any _ _ _ l _ R3.out (H.out.below B3.out) HP.out (by omega)).mono ?_
    rw [HS.out]
    rintro e w4 ⟨rfl, hb⟩
    have B4 := Lib.hid (below_after B3.out hb (Nat.le_refl _))
    go_wp2_with fail
    go_ret
    exact ⟨rfl, B4.out⟩
end Go.Proofs.Ytmgkbfhkipfimaa
