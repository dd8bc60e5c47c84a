/-
  Walks over the library's search by a closure, in rows and in IDs. No statement is proved in this text; it holds for every input that its premises let by.
-/
import Derived.Test.YtofanciaacdjfaaRow
import Derived.Lib.SliceRun
namespace Go.Proofs.Ytofanciaacdjfaa
open Go.RowKit Sets RowSets
/-- An element's cells. -/
theorem Rcs.raw {w w' : World} {A : Option Addr} {n c : Nat} {qs : List Raw} (h : Rcs encW 4 w (.slice A n c) qs) (hw : Below w.heap.size w w') {k : Nat} (hk : k < qs.length) :
    ∃ ad, A = some ad ∧ w'.cell? (ad.add (k * 4)) = some (.int .i64 qs[k].1.1) ∧ w'.cell? ⟨(ad.add (k * 4)).block, (ad.add (k * 4)).off + 1, none⟩ = some (.int .i64 qs[k].1.2) ∧ w'.cell? ⟨(ad.add (k * 4)).block, (ad.add (k * 4)).off + 2, none⟩ = some (.int .i64 qs[k].2.1) ∧ w'.cell? ⟨(ad.add (k * 4)).block, (ad.add (k * 4)).off + 3, none⟩ = some (.slice qs[k].2.2.1 qs[k].2.2.2.1 qs[k].2.2.2.2) := by
  obtain ⟨ad, rfl⟩ := h.addr (by omega)
  exact ⟨ad, rfl, h.first hw hk rfl, h.cell hw hk 1 (by omega) rfl, h.cell hw hk 2 (by omega) rfl, h.cell hw hk 3 (by omega) rfl⟩
/-- What a search answers: the first place, or -1. -/
def FoundP (p : Id2 → Bool) (l : List Id2) (r : Int) : Prop := (r = -1 ∧ ∀ x ∈ l, p x = false) ∨ ∃ k : Nat, ∃ h : k < l.length, r = k ∧ p l[k] = true ∧ ∀ x ∈ l.take k, p x = false
theorem foundP_next {p : Id2 → Bool} {l : List Id2} {k : Nat} (hk : k < l.length) (h : ∀ x ∈ l.take k, p x = false) (hn : p l[k] = false) : ∀ x ∈ l.take (k + 1), p x = false := by
  intro x hx
  rw [List.take_succ_eq_append_getElem hk] at hx
  rcases List.mem_append.1 hx with h1 | h1
  · exact h x h1
  · rw [List.mem_singleton.1 h1]
    exact hn
theorem foundP_none {p : Id2 → Bool} {l : List Id2} {k : Nat} (hk : l.length ≤ k) (h : ∀ x ∈ l.take k, p x = false) : FoundP p l (-1) := .inl ⟨rfl, by rwa [List.take_of_length_le hk] at h⟩
theorem foundP_any {p : Id2 → Bool} {l : List Id2} {r : Int} (h : FoundP p l r) : decide (0 ≤ r) = l.any p := by
  rcases h with ⟨rfl, h⟩ | ⟨k, hk, rfl, h1, _⟩
  · have : l.any p = false := by
      rw [List.any_eq_false]
      intro x hx
      rw [h x hx]
      simp
    rw [this]
    rfl
  · have : l.any p = true := List.any_eq_true.2 ⟨l[k], List.getElem_mem hk, h1⟩
    rw [this]
    simp
set_option maxHeartbeats 1000000 in
/-- slices.IndexFunc over rows. -/
theorem indexW_any {K : Nat} {caps : Array Value} {p : Id2 → Bool} {S : World → Prop} (hP : AsksW K caps p S) (v : Value) (qs : List Raw) (w : World) (h : Rcs encW 4 w v qs) (hS : S w) (hl : qs.length ≤ 100000) :
    Calls Try.prog 45 #[v, .func (.func K) #[] caps] w fun e w' => (∃ r, e = .returned (.int .i64 r) ∧ FoundP p (qs.map (·.1)) r) ∧ Below w.heap.size w w' := by
  have HP := Lib.hid hP
  have HI := Lib.hid h
  have HS0 := Lib.hid hS
  have hK := hP.enters
  obtain ⟨A, c, rfl, hz⟩ := h
  clear hz hP hS
  go_enter Try.func45, Try.ntmps45
  go_wp2_with fail
  go_loopw [8] (fun s3 wr => ∃ k : Nat, k ≤ qs.length ∧ s3 = .int .i64 k ∧ Hid (∀ x ∈ (qs.map (·.1)).take k, p x = false) ∧ Hid (S wr) ∧ Hid (Below w.heap.size w wr)) (fun s3 _ => qs.length - (intOf s3).toNat)
  case atStart => exact ⟨0, by omega, rfl, Lib.hid (fun x hx => by simp at hx), HS0, Lib.hid (Below.refl _ _)⟩
  case round =>
    obtain ⟨k, hkl, rfl, HT, HS, HW⟩ := hrel
    have i3 : (0 : Int) ≤ (k : Int) := by omega
    by_cases hlt : k < qs.length
    · have hd : decide ((k : Int) < (qs.length : Int)) = true := by simp; omega
      have i4 : (k : Int) < (qs.length : Int) := by omega
      obtain ⟨ad, rfl, c1, c2, c3, c4⟩ := HI.out.raw HW.out hlt
      have hkm : k < (qs.map (·.1)).length := by simpa using hlt
      have H0 := Lib.hid fun (h : p (qs[k].1.1, qs[k].1.2) = false) => foundP_next hkm HT.out (by rw [List.getElem_map]; exact h)
      have H1 := Lib.hid fun (h : p (qs[k].1.1, qs[k].1.2) = true) => (show FoundP p (qs.map (·.1)) k from .inr ⟨k, hkm, rfl, by rw [List.getElem_map]; exact h, HT.out⟩)
      have HC := Lib.hid fun W hs => HP.out.call qs[k].1.1 qs[k].1.2 qs[k].2.1 qs[k].2.2.1 qs[k].2.2.2.1 qs[k].2.2.2.2 W hs
      clear hkm
      generalize qs[k].1.1 = a at *
      generalize qs[k].1.2 = i at *
      generalize qs[k].2.1 = n at *
      generalize qs[k].2.2.1 = B at *
      generalize qs[k].2.2.2.1 = m at *
      generalize qs[k].2.2.2.2 = d at *
      cases hp : p (a, i)
      · rw [hp] at HC
        have HF := Lib.hid (H0.out hp)
        clear hp H0 H1
        go_wp2_with fail
        (with_reducible refine (HC.out _ HS.out).mono ?_)
        rintro e w1 ⟨rfl, hb⟩
        have HB := Lib.hid (below_after HW.out hb (Nat.le_refl _))
        have HS1 := Lib.hid (HP.out.kept _ _ HS.out hb)
        clear hb
        go_wp2_with fail
        go_roundw
        case rel => exact ⟨k + 1, by omega, by go_num, HF, HS1, HB⟩
        case measure => simp [intOf]; omega
      · rw [hp] at HC
        have HF := Lib.hid (H1.out hp)
        clear hp H0 H1
        go_wp2_with fail
        (with_reducible refine (HC.out _ HS.out).mono ?_)
        rintro e w1 ⟨rfl, hb⟩
        have HB := Lib.hid (below_after HW.out hb (Nat.le_refl _))
        clear hb
        go_wp2_with fail
        go_ret
        exact ⟨⟨_, rfl, HF.out⟩, HB.out⟩
    · have hd : decide ((k : Int) < (qs.length : Int)) = false := by simp; omega
      have HF := Lib.hid (foundP_none (by simp; omega) HT.out)
      go_wp2_with fail
      go_ret
      exact ⟨⟨_, rfl, HF.out⟩, HW.out⟩
set_option maxHeartbeats 1000000 in
/-- slices.IndexFunc over IDs. -/
theorem indexI_any {K : Nat} {caps : Array Value} {p : Id2 → Bool} {S : World → Prop} (hP : AsksI K caps p S) (v : Value) (l : List Id2) (w : World) (h : Ids w v l) (hS : S w) (hl : l.length ≤ 100000) :
    Calls Try.prog 58 #[v, .func (.func K) #[] caps] w fun e w' => (∃ r, e = .returned (.int .i64 r) ∧ FoundP p l r) ∧ Below w.heap.size w w' := by
  have HP := Lib.hid hP
  have HI := Lib.hid h
  have HS0 := Lib.hid hS
  have hK := hP.enters
  obtain ⟨A, c, rfl, hz⟩ := h
  clear hz hP hS
  go_enter Try.func58, Try.ntmps58
  go_wp2_with fail
  go_loopw [8] (fun s3 wr => ∃ k : Nat, k ≤ l.length ∧ s3 = .int .i64 k ∧ Hid (∀ x ∈ l.take k, p x = false) ∧ Hid (S wr) ∧ Hid (Below w.heap.size w wr)) (fun s3 _ => l.length - (intOf s3).toNat)
  case atStart => exact ⟨0, by omega, rfl, Lib.hid (fun x hx => by simp at hx), HS0, Lib.hid (Below.refl _ _)⟩
  case round =>
    obtain ⟨k, hkl, rfl, HT, HS, HW⟩ := hrel
    have i3 : (0 : Int) ≤ (k : Int) := by omega
    by_cases hlt : k < l.length
    · have hd : decide ((k : Int) < (l.length : Int)) = true := by simp; omega
      have i4 : (k : Int) < (l.length : Int) := by omega
      obtain ⟨ad, rfl, c1, c2⟩ := HI.out.at_ HW.out hlt
      have HM : Hid (l[k] = (l[k].1, l[k].2)) := Lib.hid rfl
      have HC := Lib.hid fun W hs => HP.out.call l[k].1 l[k].2 W hs
      have H0 := Lib.hid fun h => foundP_next hlt HT.out h
      have H1 := Lib.hid fun h => (show FoundP p l k from .inr ⟨k, hlt, rfl, h, HT.out⟩)
      rw [HM.out] at H0 H1
      clear HM
      generalize l[k].1 = a at *
      generalize l[k].2 = i at *
      cases hp : p (a, i)
      · rw [hp] at HC
        have HF := Lib.hid (H0.out hp)
        clear hp H0 H1
        go_wp2_with fail
        (with_reducible refine (HC.out _ HS.out).mono ?_)
        rintro e w1 ⟨rfl, hb⟩
        have HB := Lib.hid (below_after HW.out hb (Nat.le_refl _))
        have HS1 := Lib.hid (HP.out.kept _ _ HS.out hb)
        clear hb
        go_wp2_with fail
        go_roundw
        case rel => exact ⟨k + 1, by omega, by go_num, HF, HS1, HB⟩
        case measure => simp [intOf]; omega
      · rw [hp] at HC
        have HF := Lib.hid (H1.out hp)
        clear hp H0 H1
        go_wp2_with fail
        (with_reducible refine (HC.out _ HS.out).mono ?_)
        rintro e w1 ⟨rfl, hb⟩
        have HB := Lib.hid (below_after HW.out hb (Nat.le_refl _))
        clear hb
        go_wp2_with fail
        go_ret
        exact ⟨⟨_, rfl, HF.out⟩, HB.out⟩
    · have hd : decide ((k : Int) < (l.length : Int)) = false := by simp; omega
      have HF := Lib.hid (foundP_none (by omega) HT.out)
      go_wp2_with fail
      go_ret
      exact ⟨⟨_, rfl, HF.out⟩, HW.out⟩
/-- Are all IDs of a list valid? -/
def allV (l : List Id2) : Bool := !l.any badI
/-- slices.ContainsFunc over IDs, for one that may not be. -/
theorem containsBad_any (v : Value) (l : List Id2) (w : World) (h : Ids w v l) (hl : l.length ≤ 100000) :
    Calls Try.prog 42 #[v, .func (.func 43) #[] #[]] w fun e w' => e = .returned (.bool (l.any badI)) ∧ Below w.heap.size w w' := by
  have HI := Lib.hid h
  clear h
  go_enter Try.func42, Try.ntmps42
  go_wp2_with fail
  refine (indexI_any badI_asks v l _ HI.out trivial hl).mono ?_
  rintro e w1 ⟨⟨r, rfl, hr⟩, hb⟩
  have HR := Lib.hid (foundP_any hr)
  have HB := Lib.hid hb
  clear hr hb
  go_wp2_with fail
  go_ret
  exact ⟨ret_bool HR.out, HB.out⟩
theorem mayAll_any (v : Value) (l : List Id2) (w : World) (h : Ids w v l) (hl : l.length ≤ 100000) :
    Calls Try.prog 22 #[v] w fun e w' => e = .returned (.bool (allV l)) ∧ Below w.heap.size w w' := by
  have HI := Lib.hid h
  have HE : Hid (allV l = !l.any badI) := Lib.hid rfl
  clear h
  go_enter Try.func22, Try.ntmps22
  go_wp2_with fail
  refine (containsBad_any v l _ HI.out hl).mono ?_
  rintro e w1 ⟨rfl, hb⟩
  have HB := Lib.hid hb
  clear hb
  generalize l.any badI = z at *
  go_wp2_with fail
  go_ret
  exact ⟨ret_bool HE.out.symm, HB.out⟩
/-- The place of the row of an ID. -/
theorem find_any (v : Value) (qs : List Raw) (x y : Int) (w : World) (h : Rcs encW 4 w v qs) (hl : qs.length ≤ 100000) :
    Calls Try.prog 24 #[v, .agg #[.int .i64 x, .int .i64 y]] w fun e w' => (∃ r, e = .returned (.int .i64 r) ∧ FoundP (fun u => isI u (x, y)) (qs.map (·.1)) r) ∧ Below w.heap.size w w' := by
  have HB := Lib.hid (below_one w (.cells #[.int .i64 x, .int .i64 y] 23))
  have HI := Lib.hid (h.below HB.out)
  have HX := Lib.hid (box_new w x y)
  clear h
  go_enter Try.func24, Try.ntmps24
  go_wp2_with fail
  refine (indexW_any (isI_asks w.heap.size x y) v qs _ HI.out HX.out hl).mono ?_
  rintro e w1 ⟨⟨r, rfl, hr⟩, hb⟩
  have HR := Lib.hid hr
  have H1 := Lib.hid (below_after HB.out hb (Nat.le_refl _))
  clear hr hb
  go_wp2_with fail
  go_ret
  exact ⟨⟨r, rfl, HR.out⟩, H1.out⟩
end Go.Proofs.Ytofanciaacdjfaa
