/-
  Carried over: contracts of this program's functions. No statement is proved in this text.
-/
import Derived.Test.YtmgkbfhkipfimaaIdeWalksB
set_option maxRecDepth 20000
set_option maxRecDepth 20000
namespace Go.Proofs.Ytmgkbfhkipfimaa
open Go.RowKit
/-- Are two lists the same? -/
def sameB (l m : List (Int × Int)) : Bool := decide (l = m)
theorem sameB_len {l m : List (Int × Int)} (h : l.length ≠ m.length) : sameB l m = false := by
  unfold sameB
  exact decide_eq_false fun e => h (by rw [e])
theorem sameB_at {l m : List (Int × Int)} {k : Nat} (h : k < l.length) (h2 : k < m.length) (hn : ¬ (l[k].1 = m[k].1 ∧ l[k].2 = m[k].2)) : sameB l m = false := by
  unfold sameB
  refine decide_eq_false fun e => hn ?_
  subst e
  exact ⟨rfl, rfl⟩
theorem take_same {l m : List (Int × Int)} {k : Nat} (h : k < l.length) (h2 : k < m.length) (ht : l.take k = m.take k) (e1 : l[k].1 = m[k].1) (e2 : l[k].2 = m[k].2) : l.take (k + 1) = m.take (k + 1) := by
  rw [List.take_succ_eq_append_getElem h, List.take_succ_eq_append_getElem h2, ht, Prod.ext e1 e2]
theorem sameB_all {l m : List (Int × Int)} {k : Nat} (hl : l.length = m.length) (hk : l.length ≤ k) (ht : l.take k = m.take k) : sameB l m = true := by
  rw [List.take_of_length_le hk, List.take_of_length_le (by omega)] at ht
  unfold sameB
  exact decide_eq_true ht
set_option maxHeartbeats 1000000 in
theorem ids_any (v u : Value) (l m : List (Int × Int)) (w : World) (h : Ids w v l) (k : Ids w u m) (hl : l.length ≤ 100000) :
    Calls Try.prog 20 #[v, u] w fun e w' => e = .returned (.bool (sameB l m)) ∧ Below w.heap.size w w' := by
  obtain ⟨A, c, rfl, hz⟩ := id h
  obtain ⟨B, d, rfl, hz2⟩ := id k
  clear hz hz2
  have HI := Lib.hid h
  have HJ := Lib.hid k
  clear h k
  by_cases hlm : l.length = m.length
  · have hd : ((l.length : Int) != (m.length : Int)) = false := by simp; omega
    have HL := Lib.hid hlm
    go_enter Try.func20, Try.ntmps20
    clear hlm
    go_wp2_with fail
    clear hd
    go_loopw [5] (fun s5 wr => ∃ k : Nat, k ≤ l.length ∧ s5 = .int .i64 k ∧ l.take k = m.take k ∧ Below w.heap.size w wr) (fun s5 _ => l.length - (intOf s5).toNat)
    case atStart => exact ⟨0, by omega, rfl, rfl, Below.refl _ _⟩
    case round =>
      obtain ⟨k, hkl, rfl, ht, hw⟩ := hrel
      have HW := Lib.hid hw
      have HT := Lib.hid ht
      clear hw ht
      by_cases hlt : k < l.length
      · have hd : decide ((k : Int) < (l.length : Int)) = true := by simp; omega
        have hlt2 : k < m.length := by have := HL.out; omega
        have i3 : (0 : Int) ≤ (k : Int) := by omega
        have i4 : (k : Int) < (l.length : Int) := by omega
        have i5 : (k : Int) < (m.length : Int) := by omega
        obtain ⟨ad, rfl, c1, c2⟩ := HI.out.at_ HW.out hlt
        obtain ⟨ae, rfl, c3, c4⟩ := HJ.out.at_ HW.out hlt2
        have HN := Lib.hid fun hn => sameB_at hlt hlt2 hn
        have HS := Lib.hid fun e1 e2 => take_same hlt hlt2 HT.out e1 e2
        generalize l[k].1 = a at *
        generalize l[k].2 = i at *
        generalize m[k].1 = b at *
        generalize m[k].2 = j at *
        by_cases hab : a = b
        · subst hab
          by_cases hij : i = j
          · subst hij
            go_wp2_with fail
            go_quiet (fail)
            go_wp2_with fail
            go_roundw
            case rel => exact ⟨k + 1, by omega, by go_num, by first | exact HS.out rfl rfl | exact HS.out trivial trivial, below_drewN HW.out⟩
            case measure => simp [intOf]; omega
          · have h2 : (i == j) = false := by simpa using hij
            go_wp2_with fail
            go_quiet (fail)
            go_wp2_with fail
            go_ret
            exact ⟨ret_bool (HN.out fun h => hij h.2).symm, below_drewN HW.out⟩
        · have h2 : (a == b) = false := by simpa using hab
          go_wp2_with fail
          go_quiet (fail)
          go_wp2_with fail
          go_ret
          exact ⟨ret_bool (HN.out fun h => hab h.1).symm, below_drewN HW.out⟩
      · have hd : decide ((k : Int) < (l.length : Int)) = false := by simp; omega
        have HS := Lib.hid (sameB_all HL.out (by omega) HT.out)
        go_wp2_with fail
        go_ret
        exact ⟨ret_bool HS.out.symm, HW.out⟩
  · have hd : ((l.length : Int) != (m.length : Int)) = true := by simp; omega
    have HS := Lib.hid (sameB_len hlm)
    clear hlm
    go_enter Try.func20, Try.ntmps20
    go_wp2_with fail
    go_ret
    exact ⟨ret_bool HS.out.symm, Below.refl _ _⟩
end Go.Proofs.Ytmgkbfhkipfimaa
