/-
  Carried over: contracts of this program's functions. No statement is proved in this text.
-/
import Derived.Test.YtmgkbfhkipfimaaIdeWalksD
import Derived.Test.YtmgkbfhkipfimaaXWalksC
set_option maxRecDepth 20000
namespace Go.Proofs.Ytmgkbfhkipfimaa
open Go.RowKit
set_option maxHeartbeats 1000000 in
theorem index_any (v : Value) (l : List (Int × Int)) (a i : Int) (w : World) (h : Ids w v l) (hl : l.length ≤ 100000) :
    Calls Try.prog 41 #[v, .agg #[.int .i64 a, .int .i64 i]] w (Found (a, i) l w) := by
  obtain ⟨A, c, rfl, hz⟩ := id h
  clear hz
  have HI := Lib.hid h
  have HX := Lib.hid (box_new w a i)
  have HB := Lib.hid ((Below.refl w.heap.size w).alloc (Nat.le_refl _) (.cells #[.int .i64 a, .int .i64 i] 24))
  clear h
  go_enter Try.func41, Try.ntmps41
  go_wp2_with fail
  go_loopw [8] (fun s5 wr => ∃ k : Nat, k ≤ l.length ∧ s5 = .int .i64 k ∧ hasB (a, i) (l.take k) = false ∧ Box wr w.heap.size a i ∧ Below w.heap.size w wr) (fun s5 _ => l.length - (intOf s5).toNat)
  case atStart => exact ⟨0, by omega, rfl, hasB_none _ _, HX.out, HB.out⟩
  case round =>
    obtain ⟨k, hkl, rfl, ht, hx, hw⟩ := hrel
    have HW := Lib.hid hw
    have HT := Lib.hid ht
    have HY := Lib.hid hx
    clear hw ht hx
    by_cases hlt : k < l.length
    · have hd : decide ((k : Int) < (l.length : Int)) = true := by simp; omega
      have i3 : (0 : Int) ≤ (k : Int) := by omega
      have i4 : (k : Int) < (l.length : Int) := by omega
      obtain ⟨ad, rfl, c1, c2⟩ := HI.out.at_ HW.out hlt
      obtain ⟨c3, c4⟩ := box_cells HY.out
      have HN := Lib.hid fun e1 e2 => hasB_yes (a := a) (i := i) hlt e1 e2
      have HS := Lib.hid fun hn => hasB_next hlt HT.out hn
      generalize l[k].1 = b at *
      generalize l[k].2 = j at *
      by_cases hab : a = b
      · subst hab
        by_cases hij : i = j
        · subst hij
          have HF := Lib.hid (show decide ((0 : Int) ≤ (k : Int)) = hasB (a, i) l by rw [HN.out rfl rfl]; simp)
          clear HN HS
          go_wp2_with fail
          go_quiet (fail)
          go_wp2_with fail
          go_ret
          exact found HF.out (below_drewN HW.out)
        · have h2 : (i == j) = false := by simpa using hij
          have HF := Lib.hid (HS.out fun h => hij h.2.symm)
          clear HN HS
          go_wp2_with fail
          go_quiet (fail)
          go_wp2_with fail
          go_roundw
          case rel => exact ⟨k + 1, by omega, by go_num, HF.out, box_drewN HY.out, below_drewN HW.out⟩
          case measure => simp [intOf]; omega
      · have h2 : (a == b) = false := by simpa using hab
        have HF := Lib.hid (HS.out fun h => hab h.1.symm)
        clear HN HS
        go_wp2_with fail
        go_quiet (fail)
        go_wp2_with fail
        go_roundw
        case rel => exact ⟨k + 1, by omega, by go_num, HF.out, box_drewN HY.out, below_drewN HW.out⟩
        case measure => simp [intOf]; omega
    · have hd : decide ((k : Int) < (l.length : Int)) = false := by simp; omega
      have HS := Lib.hid (hasB_all (by omega) HT.out)
      go_wp2_with fail
      go_ret
      exact found (by rw [HS.out]; rfl) HW.out
theorem contains_any (v : Value) (l : List (Int × Int)) (a i : Int) (w : World) (h : Ids w v l) (hl : l.length ≤ 100000) :
    Calls Try.prog 35 #[v, .agg #[.int .i64 a, .int .i64 i]] w fun e w' => e = .returned (.bool (hasB (a, i) l)) ∧ Below w.heap.size w w' := by
  have HX := Lib.hid (box_new w a i)
  have HB := Lib.hid ((Below.refl w.heap.size w).alloc (Nat.le_refl _) (.cells #[.int .i64 a, .int .i64 i] 24))
  have HI := Lib.hid (h.below HB.out)
  clear h
  go_enter Try.func35, Try.ntmps35
  go_wp2_with fail
  refine (index_any v l a i _ HI.out hl).mono ?_
  rintro e w1 ⟨z, rfl, hz, hb⟩
  have HZ := Lib.hid hz
  have H1 := Lib.hid (below_after HB.out hb (Nat.le_refl _))
  clear hz hb
  by_cases h0 : 0 ≤ z
  · have hd := decide_eq_true h0
    have HR := Lib.hid (show true = hasB (a, i) l by rw [← HZ.out, hd])
    clear h0
    go_wp2_with fail
    go_ret
    exact ⟨ret_bool HR.out, H1.out⟩
  · have hd := decide_eq_false h0
    have HR := Lib.hid (show false = hasB (a, i) l by rw [← HZ.out, hd])
    clear h0
    go_wp2_with fail
    go_ret
    exact ⟨ret_bool HR.out, H1.out⟩
theorem has_any (v : Value) (l : List (Int × Int)) (a i : Int) (w : World) (h : Ids w v l) (hl : l.length ≤ 100000) :
    Calls Try.prog 24 #[v, .agg #[.int .i64 a, .int .i64 i]] w fun e w' => e = .returned (.bool (hasB (a, i) l)) ∧ Below w.heap.size w w' := by
  have HB := Lib.hid ((Below.refl w.heap.size w).alloc (Nat.le_refl _) (.cells #[.int .i64 a, .int .i64 i] 24))
  have HI := Lib.hid (h.below HB.out)
  clear h
  go_enter Try.func24, Try.ntmps24
  go_wp2_with fail
  refine (contains_any v l a i _ HI.out hl).mono ?_
  rintro e w1 ⟨rfl, hb⟩
  have H1 := Lib.hid (below_after HB.out hb (Nat.le_refl _))
  clear hb
  go_wp2_with fail
  go_ret
  exact ⟨rfl, H1.out⟩
end Go.Proofs.Ytmgkbfhkipfimaa
