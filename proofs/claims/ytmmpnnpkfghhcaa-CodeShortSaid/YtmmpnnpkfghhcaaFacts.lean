/-
  What is read of what was written, and the other way about, for IDs and lists: plain facts on bytes. No statement is proved in this text.
-/
import Derived.Test.YtmmpnnpkfghhcaaReadD
namespace Go.Proofs.Ytmmpnnpkfghhcaa
open Go.RowKit
theorem numS_zero (l : List UInt8) : numS l 0 = Code.num 0 0 l := rfl
theorem numS_bad (l : List UInt8) (f : Nat) (h : f ≠ 0) : numS l f = (0, f, l) := if_neg h
theorem numS_enc (n : Int) (t : List UInt8) (h0 : 0 ≤ n) (h : n ≤ 1099511627776) : numS (encI n ++ t) 0 = (n.toNat, 0, t) := Code.num_enc n.toNat t (by unfold Code.maxNumber; omega)
theorem numS_short (n : Int) (j : Nat) (h0 : 0 ≤ n) (h : n ≤ 1099511627776) (hj : j < (encI n).length) : numS ((encI n).take j) 0 = (0, 8, []) := Code.num_short n.toNat j (by unfold Code.maxNumber; omega) hj
theorem idP_of {l : List UInt8} {r1 r2 : Nat × Nat × List UInt8} (h1 : numS l 0 = r1) (h2 : numS r1.2.2 r1.2.1 = r2) : idP l = if idE r1 r2 = 0 then ((r1.1, r2.1), 0, r2.2.2) else ((0, 0), idE r1 r2, []) := by
  unfold idP
  rw [h1]
  simp only [h2]
theorem idP_enc (a i : Int) (t : List UInt8) (h : vid a i = true) : idP (encID (a, i) ++ t) = ((a.toNat, i.toNat), 0, t) := by
  have hv := vid_yes h
  rw [idP_of (r1 := (a.toNat, 0, encI i ++ t)) (r2 := (i.toNat, 0, t)) (by unfold encID; rw [List.append_assoc]; exact numS_enc a _ (by omega) (by omega)) (numS_enc i t (by omega) (by omega))]
  have e : idE (a.toNat, 0, encI i ++ t) (i.toNat, 0, t) = 0 := by
    unfold idE
    rw [if_pos rfl, if_pos]
    show vid (a.toNat : Int) (i.toNat : Int) = true
    rw [Int.toNat_of_nonneg (by omega), Int.toNat_of_nonneg (by omega)]
    exact h
  rw [if_pos e]
theorem idP_short (a i : Int) (j : Nat) (h : vid a i = true) (hj : j < (encID (a, i)).length) : idP ((encID (a, i)).take j) = ((0, 0), 8, []) := by
  have hv := vid_yes h
  unfold encID at hj ⊢
  simp only [List.length_append] at hj ⊢
  by_cases hj1 : j < (encI a).length
  · rw [List.take_append_of_le_length (by omega), idP_of (numS_short a j (by omega) (by omega) hj1) (numS_bad [] 8 (by decide))]
    rfl
  · rw [List.take_append, List.take_of_length_le (by omega), idP_of (numS_enc a _ (by omega) (by omega)) (numS_short i (j - (encI a).length) (by omega) (by omega) (by omega))]
    rfl
theorem idP_back {l : List UInt8} (h : (idP l).2.1 = 0) : vid ((idP l).1.1 : Int) ((idP l).1.2 : Int) = true ∧ encID (((idP l).1.1 : Int), ((idP l).1.2 : Int)) ++ (idP l).2.2 = l := by
  have h1 := idP_of (l := l) rfl rfl
  generalize hr1 : numS l 0 = r1 at *
  generalize hr2 : numS r1.2.2 r1.2.1 = r2 at *
  by_cases he : idE r1 r2 = 0
  · rw [if_pos he] at h1
    rw [h1]
    show vid (r1.1 : Int) (r2.1 : Int) = true ∧ encID ((r1.1 : Int), (r2.1 : Int)) ++ r2.2.2 = l
    unfold idE at he
    have z2 : r2.2.1 = 0 := by
      by_cases z : r2.2.1 = 0
      · exact z
      · rw [if_neg z] at he
        exact absurd he z
    rw [if_pos z2] at he
    have hv : vid (r1.1 : Int) (r2.1 : Int) = true := by
      cases hv : vid (r1.1 : Int) (r2.1 : Int)
      · rw [hv] at he; simp at he
      · rfl
    have z1 : r1.2.1 = 0 := by
      by_cases z : r1.2.1 = 0
      · exact z
      · rw [numS_bad _ _ z] at hr2
        rw [← hr2] at z2
        exact absurd z2 z
    refine ⟨hv, ?_⟩
    rw [z1] at hr2
    have e1 := Code.enc_num l (by rw [← numS_zero, hr1]; exact z1)
    have e2 := Code.enc_num r1.2.2 (by rw [← numS_zero, hr2]; exact z2)
    rw [← numS_zero, hr1] at e1
    rw [← numS_zero, hr2] at e2
    show (encI (r1.1 : Int) ++ encI (r2.1 : Int)) ++ r2.2.2 = l
    unfold encI
    rw [Int.toNat_natCast, Int.toNat_natCast, List.append_assoc, e2, e1]
  · rw [if_neg he] at h1
    rw [h1] at h
    exact absurd h he
theorem idP_bad {l : List UInt8} (h : (idP l).2.1 ≠ 0) : idP l = ((0, 0), (idP l).2.1, []) := by
  have h1 := idP_of (l := l) rfl rfl
  generalize numS l 0 = r1 at *
  generalize numS r1.2.2 r1.2.1 = r2 at *
  by_cases he : idE r1 r2 = 0
  · rw [if_pos he] at h1
    rw [h1] at h
    exact absurd rfl h
  · rw [if_neg he] at h1
    rw [h1]
theorem readN_enc : ∀ (l : List (Int × Int)) (t : List UInt8), allVid l = true → readN l.length (encAll l ++ t) = (l, 0, t)
  | [], t, _ => rfl
  | x :: l, t, h => by
    simp only [allVid, List.all_cons, Bool.and_eq_true] at h
    have hv := vid_yes h.1
    have e : idP (encAll (x :: l) ++ t) = ((x.1.toNat, x.2.toNat), 0, encAll l ++ t) := by
      show idP ((encID x ++ encAll l) ++ t) = _
      rw [List.append_assoc]
      exact idP_enc x.1 x.2 _ h.1
    have ih := readN_enc l t h.2
    rw [List.length_cons, readN]
    simp only [e, ih, if_true]
    rw [Int.toNat_of_nonneg (by omega), Int.toNat_of_nonneg (by omega)]
theorem readN_short : ∀ (l : List (Int × Int)) (j : Nat), allVid l = true → j < (encAll l).length → readN l.length ((encAll l).take j) = ([], 8, [])
  | [], j, _, hj => by simp [encAll] at hj
  | x :: l, j, h, hj => by
    simp only [allVid, List.all_cons, Bool.and_eq_true] at h
    rw [List.length_cons, readN]
    have e0 : encAll (x :: l) = encID x ++ encAll l := rfl
    rw [e0] at hj ⊢
    rw [List.length_append] at hj
    by_cases hj1 : j < (encID x).length
    · have e : idP ((encID x ++ encAll l).take j) = ((0, 0), 8, []) := by
        rw [List.take_append_of_le_length (by omega)]
        exact idP_short x.1 x.2 j h.1 hj1
      simp only [e]
      rfl
    · have e : idP ((encID x ++ encAll l).take j) = ((x.1.toNat, x.2.toNat), 0, (encAll l).take (j - (encID x).length)) := by
        rw [List.take_append, List.take_of_length_le (by omega)]
        exact idP_enc x.1 x.2 _ h.1
      have ih := readN_short l (j - (encID x).length) h.2 (by omega)
      simp only [e, ih]
      rfl
theorem readN_back : ∀ (n : Nat) (l : List UInt8), (readN n l).2.1 = 0 → (readN n l).1.length = n ∧ allVid (readN n l).1 = true ∧ encAll (readN n l).1 ++ (readN n l).2.2 = l
  | 0, l, _ => ⟨rfl, rfl, rfl⟩
  | n + 1, l, h => by
    rw [readN] at h ⊢
    simp only [] at h ⊢
    by_cases h1 : (idP l).2.1 = 0
    · rw [if_pos h1] at h ⊢
      by_cases h2 : (readN n (idP l).2.2).2.1 = 0
      · rw [if_pos h2] at h ⊢
        obtain ⟨i1, i2, i3⟩ := readN_back n _ h2
        obtain ⟨j1, j2⟩ := idP_back h1
        refine ⟨by simp [i1], ?_, ?_⟩
        · show ((vid _ _) && allVid _) = true
          rw [j1]
          exact i2
        · show (encID _ ++ encAll _) ++ _ = l
          rw [List.append_assoc, i3]
          exact j2
      · rw [if_neg h2] at h
        exact absurd h h2
    · rw [if_neg h1] at h
      exact absurd h h1
theorem idsP_enc (l : List (Int × Int)) (t : List UInt8) (hl : l.length ≤ 64) (ha : allVid l = true) (hr : risesB l = true) : idsP (encIDs l ++ t) = (l, 0, t) := by
  unfold idsP encIDs
  rw [List.append_assoc, numS_enc _ _ (by omega) (by omega)]
  simp only [Int.toNat_natCast, if_true]
  rw [if_neg (by omega), readN_enc l t ha]
  simp [hr]
theorem idsP_short (l : List (Int × Int)) (j : Nat) (hl : l.length ≤ 64) (ha : allVid l = true) (hj : j < (encIDs l).length) : idsP ((encIDs l).take j) = ([], 8, []) := by
  unfold encIDs at hj ⊢
  rw [List.length_append] at hj
  by_cases hj1 : j < (encI (l.length : Int)).length
  · rw [List.take_append_of_le_length (by omega)]
    unfold idsP
    rw [numS_short _ j (by omega) (by omega) hj1]
    rfl
  · rw [List.take_append, List.take_of_length_le (by omega)]
    unfold idsP
    rw [numS_enc _ _ (by omega) (by omega)]
    simp only [Int.toNat_natCast, if_true]
    rw [if_neg (by omega), readN_short l _ ha (by omega)]
    rfl
theorem idsP_back {l : List UInt8} (h : (idsP l).2.1 = 0) : (idsP l).1.length ≤ 64 ∧ allVid (idsP l).1 = true ∧ risesB (idsP l).1 = true ∧ encIDs (idsP l).1 ++ (idsP l).2.2 = l := by
  unfold idsP at h ⊢
  simp only [] at h ⊢
  by_cases h1 : (numS l 0).2.1 = 0
  · rw [if_pos h1] at h ⊢
    by_cases h2 : 64 < (numS l 0).1
    · rw [if_pos h2] at h
      exact absurd h (by decide)
    · rw [if_neg h2] at h ⊢
      by_cases h3 : (readN (numS l 0).1 (numS l 0).2.2).2.1 = 0
      · rw [if_pos h3] at h ⊢
        obtain ⟨i1, i2, i3⟩ := readN_back _ _ h3
        by_cases h4 : risesB (readN (numS l 0).1 (numS l 0).2.2).1 = true
        · rw [if_pos h4]
          refine ⟨(show (readN (numS l 0).1 (numS l 0).2.2).1.length ≤ 64 by omega), i2, h4, ?_⟩
          have e1 := Code.enc_num l h1
          show (encI _ ++ encAll _) ++ _ = l
          rw [List.append_assoc, i3, i1]
          exact e1
        · rw [if_neg h4] at h
          exact absurd h (by decide)
      · rw [if_neg h3] at h
        exact absurd h h3
  · rw [if_neg h1] at h
    exact absurd h h1
end Go.Proofs.Ytmmpnnpkfghhcaa
