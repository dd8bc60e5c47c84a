/-
  Walks over the library's search by a closure, and its way to strike elements out in place, over members and over IDs. No statement is proved in this text; it holds for every input that its premises let by.
-/
import Derived.Test.YtciolhpkhblnbaaRow
import Derived.Lib.SliceRun
import Derived.Lib.SlKept
import Derived.BigRegion
namespace Go.Proofs.Ytciolhpkhblnbaa
open Go Go.RowKit Ros
/-- What a search answers: the first place, or -1. -/
def FoundP {α : Type} (p : α → Bool) (l : List α) (r : Int) : Prop := (r = -1 ∧ ∀ x ∈ l, p x = false) ∨ ∃ k : Nat, ∃ h : k < l.length, r = k ∧ p l[k] = true ∧ ∀ x ∈ l.take k, p x = false
theorem foundP_next {α : Type} {p : α → Bool} {l : List α} {k : Nat} (hk : k < l.length) (h : ∀ x ∈ l.take k, p x = false) (hn : p l[k] = false) : ∀ x ∈ l.take (k + 1), p x = false := by
  intro x hx
  rw [List.take_succ_eq_append_getElem hk] at hx
  rcases List.mem_append.1 hx with h1 | h1
  · exact h x h1
  · rw [List.mem_singleton.1 h1]
    exact hn
theorem foundP_none {α : Type} {p : α → Bool} {l : List α} {k : Nat} (hk : l.length ≤ k) (h : ∀ x ∈ l.take k, p x = false) : FoundP p l (-1) := .inl ⟨rfl, by rwa [List.take_of_length_le hk] at h⟩
set_option maxHeartbeats 1000000 in
/-- slices.IndexFunc over IDs. -/
theorem indexI_any {K : Nat} {caps : Array Value} {p : Id2 → Bool} {S : World → Prop} (hP : AsksI K caps p S) (v : Value) (l : List Id2) (w : World) (h : Ids w v l) (hS : S w) (hl : l.length ≤ 100000) :
    Calls Try.prog 54 #[v, .func (.func K) #[] caps] w fun e w' => (∃ r, e = .returned (.int .i64 r) ∧ FoundP p l r) ∧ Below w.heap.size w w' := by
  have HP := Lib.hid hP
  have HI := Lib.hid h
  have HS0 := Lib.hid hS
  have hK := hP.enters
  obtain ⟨A, c, rfl, hz⟩ := h
  clear hz hP hS
  go_enter Try.func54, Try.ntmps54
  go_wp2_with fail
  go_loopw [8] (fun s3 wr => ∃ k : Nat, k ≤ l.length ∧ s3 = .int .i64 k ∧ Hid (∀ x ∈ l.take k, p x = false) ∧ Hid (S wr) ∧ Hid (Below w.heap.size w wr)) (fun s3 _ => l.length - (intOf s3).toNat)
  case atStart => exact ⟨0, by omega, rfl, Lib.hid (fun x hx => by simp at hx), HS0, Lib.hid (Below.refl _ _)⟩
  case round =>
    obtain ⟨k, hkl, rfl, HT, HS, HW⟩ := hrel
    have i3 : (0 : Int) ≤ (k : Int) := by omega
    by_cases hlt : k < l.length
    · have hd : decide ((k : Int) < (l.length : Int)) = true := by simp; omega
      have i4 : (k : Int) < (l.length : Int) := by omega
      obtain ⟨ad, rfl, c1, c2⟩ := HI.out.at_ HW.out hlt
      have HM : Hid (l[k] = (l[k].1, l[k].2)) := Lib.hid rfl
      have HC := Lib.hid fun W hs => HP.out.call l[k].1 l[k].2 W hs
      have H0 := Lib.hid fun h => foundP_next (p := p) hlt HT.out h
      have H1 := Lib.hid fun h => (show FoundP p l k from .inr ⟨k, hlt, rfl, h, HT.out⟩)
      rw [HM.out] at H0 H1
      clear HM
      generalize l[k].1 = a at *
      generalize l[k].2 = i at *
      cases hp : p (a, i)
      · rw [hp] at HC
        have HF := Lib.hid (H0.out hp)
        clear hp H0 H1
        go_wp2_with fail
        (with_reducible refine (HC.out _ HS.out).mono ?_)
        rintro e w1 ⟨rfl, hb⟩
        have HB := Lib.hid (below_after HW.out hb (Nat.le_refl _))
        have HS1 := Lib.hid (HP.out.kept _ _ HS.out hb)
        clear hb
        go_wp2_with fail
        go_roundw
        case rel => exact ⟨k + 1, by omega, by go_num, HF, HS1, HB⟩
        case measure => simp [intOf]; omega
      · rw [hp] at HC
        have HF := Lib.hid (H1.out hp)
        clear hp H0 H1
        go_wp2_with fail
        (with_reducible refine (HC.out _ HS.out).mono ?_)
        rintro e w1 ⟨rfl, hb⟩
        have HB := Lib.hid (below_after HW.out hb (Nat.le_refl _))
        clear hb
        go_wp2_with fail
        go_ret
        exact ⟨⟨_, rfl, HF.out⟩, HB.out⟩
    · have hd : decide ((k : Int) < (l.length : Int)) = false := by simp; omega
      have HF := Lib.hid (foundP_none (by omega) HT.out)
      go_wp2_with fail
      go_ret
      exact ⟨⟨_, rfl, HF.out⟩, HW.out⟩
set_option maxHeartbeats 1000000 in
/-- slices.IndexFunc over members. -/
theorem indexM_any {K : Nat} {caps : Array Value} {p : Mm → Bool} {S : World → Prop} {D : Mm → Prop} (hP : AsksM K caps p S D) (v : Value) (l : List Mm) (w : World) (h : Ms w v l) (hS : S w) (hl : l.length ≤ 100000) (hD : ∀ x ∈ l, D x) :
    Calls Try.prog 38 #[v, .func (.func K) #[] caps] w fun e w' => (∃ r, e = .returned (.int .i64 r) ∧ FoundP p l r) ∧ Below w.heap.size w w' := by
  have HP := Lib.hid hP
  have HI := Lib.hid h
  have HS0 := Lib.hid hS
  have HD := Lib.hid hD
  have hK := hP.enters
  obtain ⟨A, c, rfl, hz⟩ := h
  clear hz hP hS hD
  go_enter Try.func38, Try.ntmps38
  go_wp2_with fail
  go_loopw [8] (fun s3 wr => ∃ k : Nat, k ≤ l.length ∧ s3 = .int .i64 k ∧ Hid (∀ x ∈ l.take k, p x = false) ∧ Hid (S wr) ∧ Hid (Below w.heap.size w wr)) (fun s3 _ => l.length - (intOf s3).toNat)
  case atStart => exact ⟨0, by omega, rfl, Lib.hid (fun x hx => by simp at hx), HS0, Lib.hid (Below.refl _ _)⟩
  case round =>
    obtain ⟨k, hkl, rfl, HT, HS, HW⟩ := hrel
    have i3 : (0 : Int) ≤ (k : Int) := by omega
    by_cases hlt : k < l.length
    · have hd : decide ((k : Int) < (l.length : Int)) = true := by simp; omega
      have i4 : (k : Int) < (l.length : Int) := by omega
      obtain ⟨ad, rfl, c1, c2, c3, c4⟩ := Ms.at_ HI.out HW.out hlt
      have HM : Hid (l[k] = ((l[k].1.1, l[k].1.2), l[k].2.1, l[k].2.2)) := Lib.hid rfl
      have HC := Lib.hid fun W hs => HP.out.call l[k].1.1 l[k].1.2 l[k].2.1 l[k].2.2 W (HD.out _ (List.getElem_mem hlt)) hs
      have H0 := Lib.hid fun h => foundP_next (p := p) hlt HT.out h
      have H1 := Lib.hid fun h => (show FoundP p l k from .inr ⟨k, hlt, rfl, h, HT.out⟩)
      rw [HM.out] at H0 H1
      clear HM
      generalize l[k].1.1 = a at *
      generalize l[k].1.2 = i at *
      generalize l[k].2.1 = s at *
      generalize l[k].2.2 = n at *
      cases hp : p ((a, i), s, n)
      · rw [hp] at HC
        have HF := Lib.hid (H0.out hp)
        clear hp H0 H1
        go_wp2_with fail
        (with_reducible refine (HC.out _ HS.out).mono ?_)
        rintro e w1 ⟨rfl, hb⟩
        have HB := Lib.hid (below_after HW.out hb (Nat.le_refl _))
        have HS1 := Lib.hid (HP.out.kept _ _ HS.out hb)
        clear hb
        go_wp2_with fail
        go_roundw
        case rel => exact ⟨k + 1, by omega, by go_num, HF, HS1, HB⟩
        case measure => simp [intOf]; omega
      · rw [hp] at HC
        have HF := Lib.hid (H1.out hp)
        clear hp H0 H1
        go_wp2_with fail
        (with_reducible refine (HC.out _ HS.out).mono ?_)
        rintro e w1 ⟨rfl, hb⟩
        have HB := Lib.hid (below_after HW.out hb (Nat.le_refl _))
        clear hb
        go_wp2_with fail
        go_ret
        exact ⟨⟨_, rfl, HF.out⟩, HB.out⟩
    · have hd : decide ((k : Int) < (l.length : Int)) = false := by simp; omega
      have HF := Lib.hid (foundP_none (by omega) HT.out)
      go_wp2_with fail
      go_ret
      exact ⟨⟨_, rfl, HF.out⟩, HW.out⟩
end Go.Proofs.Ytciolhpkhblnbaa
