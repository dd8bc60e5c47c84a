/-
  A walk over what a clock says of an ID. No statement is proved in this text; it holds for every input that its premises let by.
-/
import Derived.Test.YtpmfanglgkohjaaMay
namespace Go.Proofs.Ytpmfanglgkohjaa
open Go.RowKit Sets Clocks
theorem says_snoc {l : List Tick} {k : Nat} (hk : k < l.length) (z : Id2) : says (l.take (k + 1)) z = if l[k].1 = z then max (says (l.take k) z) l[k].2 else says (l.take k) z := by
  rw [List.take_succ_eq_append_getElem hk, says_append]
  have h := says_pos (l.take k) z
  simp only [says]
  split <;> omega
set_option maxHeartbeats 2000000 in
theorem get_any (v : Value) (l : List Tick) (x y : Int) (w : World) (h : Rcs encT 3 w v l) (hl : l.length ≤ 100000) :
    Calls Try.prog 11 #[v, .agg #[.int .i64 x, .int .i64 y]] w fun e w' => e = .returned (.int .i64 (says l (x, y))) ∧ Below w.heap.size w w' := by
  have HI := Lib.hid h
  have HX0 := Lib.hid (box_new w x y)
  have HW0 := Lib.hid (show Below w.heap.size w (w.alloc (.cells #[.int .i64 x, .int .i64 y] 28)) from (Below.refl _ _).alloc (Nat.le_refl _) _)
  obtain ⟨A, c, rfl, hz⟩ := h
  clear hz
  go_enter Try.func11, Try.ntmps11
  go_wp2_with fail
  go_loopw [5, 10] (fun s5 s3 wr => ∃ k : Nat, k ≤ l.length ∧ s3 = .int .i64 k ∧ s5 = .int .i64 (says (l.take k) (x, y)) ∧ Hid (Box wr w.heap.size x y) ∧ Hid (Below w.heap.size w wr)) (fun _ s3 _ => l.length - (intOf s3).toNat)
  case atStart => exact ⟨0, by omega, rfl, by simp [says], HX0, HW0⟩
  case round =>
    obtain ⟨k, hkl, rfl, rfl, HX, HW⟩ := hrel
    have i3 : (0 : Int) ≤ (k : Int) := by omega
    by_cases hlt : k < l.length
    · have hdk : decide ((k : Int) < (l.length : Int)) = true := by simp; omega
      have i4 : (k : Int) < (l.length : Int) := by omega
      obtain ⟨ad, rfl, c1, c2, c3⟩ := HI.out.tick HW.out hlt
      have HS := Lib.hid (says_snoc hlt (x, y))
      have HB := Lib.hid (HW.out.alloc HW.out.size (.cells #[.int .i64 l[k].1.1, .int .i64 l[k].1.2, .int .i64 l[k].2] 35))
      have HX2 := Lib.hid (box_below HX.out ((Below.refl _ _).alloc (Nat.le_refl _) (.cells #[.int .i64 l[k].1.1, .int .i64 l[k].1.2, .int .i64 l[k].2] 35)))
      obtain ⟨b1, b2⟩ := box_cells HX2.out
      have HE : Hid (l[k].1 = (l[k].1.1, l[k].1.2)) := Lib.hid rfl
      rw [HE.out] at HS
      clear HE
      generalize l[k].1.1 = a at *
      generalize l[k].1.2 = i at *
      generalize l[k].2 = n at *
      generalize hg : says (l.take k) (x, y) = s at *
      clear hg
      have hmax := max_two s n
      by_cases h1 : a = x
      · subst h1
        by_cases h2 : i = y
        · subst h2
          rw [if_pos rfl] at HS
          generalize max s n = z at *
          go_wp2_with fail
          go_roundw
          case rel => exact ⟨k + 1, by omega, by go_num, by rw [HS.out], HX2, HB⟩
          case measure => simp [intOf]; omega
        · have h3 : (i == y) = false := by simpa using h2
          rw [if_neg (fun e => h2 (by injection e))] at HS
          go_wp2_with fail
          go_roundw
          case rel => exact ⟨k + 1, by omega, by go_num, by rw [HS.out], HX2, HB⟩
          case measure => simp [intOf]; omega
      · have h3 : (a == x) = false := by simpa using h1
        rw [if_neg (fun e => h1 (by injection e))] at HS
        go_wp2_with fail
        go_roundw
        case rel => exact ⟨k + 1, by omega, by go_num, by rw [HS.out], HX2, HB⟩
        case measure => simp [intOf]; omega
    · have hdk : decide ((k : Int) < (l.length : Int)) = false := by simp; omega
      have HF := Lib.hid (show says (l.take k) (x, y) = says l (x, y) by rw [List.take_of_length_le (by omega)])
      go_wp2_with fail
      go_ret
      exact ⟨ret_int HF.out, HW.out⟩
end Go.Proofs.Ytpmfanglgkohjaa
