/-
  Carried over: contracts of this program's functions. No statement is proved in this text.
-/
import Derived.Test.YtmgkbfhkipfimaaIdeWalksC
set_option maxRecDepth 20000
set_option maxRecDepth 20000
namespace Go.Proofs.Ytmgkbfhkipfimaa
open Go.RowKit
/-- Is an ID in a list? -/
def hasB (x : Int × Int) (l : List (Int × Int)) : Bool := decide (x ∈ l)
theorem hasB_yes {a i : Int} {l : List (Int × Int)} {k : Nat} (h : k < l.length) (e1 : l[k].1 = a) (e2 : l[k].2 = i) : hasB (a, i) l = true := by
  unfold hasB
  refine decide_eq_true ?_
  have : l[k] = (a, i) := Prod.ext e1 e2
  rw [← this]
  exact List.getElem_mem h
theorem hasB_next {a i : Int} {l : List (Int × Int)} {k : Nat} (h : k < l.length) (hn : hasB (a, i) (l.take k) = false) (hne : ¬ (l[k].1 = a ∧ l[k].2 = i)) : hasB (a, i) (l.take (k + 1)) = false := by
  unfold hasB at *
  have hn := of_decide_eq_false hn
  refine decide_eq_false fun hm => ?_
  rw [List.take_succ_eq_append_getElem h] at hm
  rcases List.mem_append.1 hm with e | e
  · exact hn e
  · have : (a, i) = l[k] := by simpa using e
    exact hne ⟨by rw [← this], by rw [← this]⟩
theorem hasB_none (x : Int × Int) (l : List (Int × Int)) : hasB x (l.take 0) = false := by simp [hasB]
theorem hasB_all {x : Int × Int} {l : List (Int × Int)} {k : Nat} (h : l.length ≤ k) (hn : hasB x (l.take k) = false) : hasB x l = false := by
  rwa [List.take_of_length_le h] at hn
theorem box_drewN {w : World} {g n : Nat} {a i : Int} (h : Box w g a i) : Box (w.drewN n) g a i := h
/-- A place in a list that has an ID, or a number below 0. -/
def Found (x : Int × Int) (l : List (Int × Int)) (w : World) (e : Ending) (w' : World) : Prop := ∃ z : Int, e = .returned (.int .i64 z) ∧ decide (0 ≤ z) = hasB x l ∧ Below w.heap.size w w'
theorem found {x : Int × Int} {l : List (Int × Int)} {w w' : World} {z : Int} (h : decide (0 ≤ z) = hasB x l) (hb : Below w.heap.size w w') : Found x l w (.returned (.int .i64 z)) w' := ⟨z, rfl, h, hb⟩
set_option maxHeartbeats 1000000 in
theorem refHas_any (v : Value) (l : List (Int × Int)) (a i : Int) (w : World) (h : Ids w v l) (hl : l.length ≤ 100000) :
    Calls Try.prog 30 #[v, .agg #[.int .i64 a, .int .i64 i]] w fun e w' => e = .returned (.bool (hasB (a, i) l)) ∧ Below w.heap.size w w' := by
  obtain ⟨A, c, rfl, hz⟩ := id h
  clear hz
  have HI := Lib.hid h
  have HX := Lib.hid (box_new w a i)
  have HB := Lib.hid ((Below.refl w.heap.size w).alloc (Nat.le_refl _) (.cells #[.int .i64 a, .int .i64 i] 24))
  clear h
  go_enter Try.func30, Try.ntmps30
  go_wp2_with fail
  go_loopw [5] (fun s5 wr => ∃ k : Nat, k ≤ l.length ∧ s5 = .int .i64 k ∧ hasB (a, i) (l.take k) = false ∧ Box wr w.heap.size a i ∧ Below w.heap.size w wr) (fun s5 _ => l.length - (intOf s5).toNat)
  case atStart => exact ⟨0, by omega, rfl, hasB_none _ _, HX.out, HB.out⟩
  case round =>
    obtain ⟨k, hkl, rfl, ht, hx, hw⟩ := hrel
    have HW := Lib.hid hw
    have HT := Lib.hid ht
    have HY := Lib.hid hx
    clear hw ht hx
    by_cases hlt : k < l.length
    · have hd : decide ((k : Int) < (l.length : Int)) = true := by simp; omega
      have i3 : (0 : Int) ≤ (k : Int) := by omega
      have i4 : (k : Int) < (l.length : Int) := by omega
      obtain ⟨ad, rfl, c1, c2⟩ := HI.out.at_ HW.out hlt
      obtain ⟨c3, c4⟩ := box_cells HY.out
      have HN := Lib.hid fun e1 e2 => hasB_yes (a := a) (i := i) hlt e1 e2
      have HS := Lib.hid fun hn => hasB_next hlt HT.out hn
      generalize l[k].1 = b at *
      generalize l[k].2 = j at *
      by_cases hab : b = a
      · subst hab
        by_cases hij : j = i
        · subst hij
          have HF := Lib.hid (HN.out rfl rfl)
          clear HN HS
          go_wp2_with fail
          go_quiet (fail)
          go_wp2_with fail
          go_ret
          exact ⟨ret_bool HF.out.symm, below_drewN HW.out⟩
        · have h2 : (j == i) = false := by simpa using hij
          have HF := Lib.hid (HS.out fun h => hij h.2)
          clear HN HS
          go_wp2_with fail
          go_quiet (fail)
          go_wp2_with fail
          go_roundw
          case rel => exact ⟨k + 1, by omega, by go_num, HF.out, box_drewN HY.out, below_drewN HW.out⟩
          case measure => simp [intOf]; omega
      · have h2 : (b == a) = false := by simpa using hab
        have HF := Lib.hid (HS.out fun h => hab h.1)
        clear HN HS
        go_wp2_with fail
        go_quiet (fail)
        go_wp2_with fail
        go_roundw
        case rel => exact ⟨k + 1, by omega, by go_num, HF.out, box_drewN HY.out, below_drewN HW.out⟩
        case measure => simp [intOf]; omega
    · have hd : decide ((k : Int) < (l.length : Int)) = false := by simp; omega
      have HS := Lib.hid (hasB_all (by omega) HT.out)
      go_wp2_with fail
      go_ret
      exact ⟨ret_bool HS.out.symm, HW.out⟩
end Go.Proofs.Ytmgkbfhkipfimaa
