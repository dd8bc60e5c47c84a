/-
  Plain mathematics of numbers as bytes, seven bits of a number in a byte: what is written, and what is read. Nothing of the program; no statement is proved in this text.
-/
namespace Go.Proofs.Ytmmpnnpkfghhcaa.Code
/-- The bytes of a number, with k more bytes at most. -/
def encF : Nat → Nat → List UInt8
  | 0, n => [UInt8.ofNat n]
  | k + 1, n => if n < 128 then [UInt8.ofNat n] else UInt8.ofNat (n % 128 + 128) :: encF k (n / 128)
def enc (n : Nat) : List UInt8 := encF 5 n
def maxNumber : Nat := 1099511627776
theorem encF_lo (k n : Nat) (h : n < 128) : encF k n = [UInt8.ofNat n] := by
  cases k with
  | zero => rfl
  | succ k => rw [encF, if_pos h]
theorem encF_hi (k n : Nat) (h : ¬ n < 128) : encF (k + 1) n = UInt8.ofNat (n % 128 + 128) :: encF k (n / 128) := by rw [encF, if_neg h]
theorem encF_len (k n : Nat) : 1 ≤ (encF k n).length ∧ (encF k n).length ≤ k + 1 := by
  induction k generalizing n with
  | zero => simp [encF]
  | succ k ih =>
    rw [encF]
    split
    · simp
    · have := ih (n / 128); simp; omega
theorem enc_len (n : Nat) : 1 ≤ (enc n).length ∧ (enc n).length ≤ 6 := encF_len 5 n
/-- What the reader of a number tells: the number and what is left, or what was wrong. -/
def num : Nat → Nat → List UInt8 → Nat × Nat × List UInt8
  | _, _, [] => (0, 8, [])
  | k, a, b :: l =>
    let s := a + b.toNat % 128 * 128 ^ k
    if maxNumber < s ∨ k = 6 ∨ (0 < k ∧ b.toNat = 0) then (0, 4, [])
    else if b.toNat < 128 then (s, 0, l) else num (k + 1) s l
theorem num_nil (k a : Nat) : num k a [] = (0, 8, []) := rfl
theorem num_bad (k a : Nat) (b : UInt8) (l : List UInt8) (h : maxNumber < a + b.toNat % 128 * 128 ^ k ∨ k = 6 ∨ (0 < k ∧ b.toNat = 0)) : num k a (b :: l) = (0, 4, []) := by
  rw [num, if_pos h]
theorem num_last (k a : Nat) (b : UInt8) (l : List UInt8) (h : ¬ (maxNumber < a + b.toNat % 128 * 128 ^ k ∨ k = 6 ∨ (0 < k ∧ b.toNat = 0))) (hb : b.toNat < 128) : num k a (b :: l) = (a + b.toNat % 128 * 128 ^ k, 0, l) := by
  rw [num, if_neg h, if_pos hb]
theorem num_on (k a : Nat) (b : UInt8) (l : List UInt8) (h : ¬ (maxNumber < a + b.toNat % 128 * 128 ^ k ∨ k = 6 ∨ (0 < k ∧ b.toNat = 0))) (hb : ¬ b.toNat < 128) : num k a (b :: l) = num (k + 1) (a + b.toNat % 128 * 128 ^ k) l := by
  rw [num, if_neg h, if_neg hb]
/-- The value of what is read is in range. -/
theorem num_le (k a : Nat) (l : List UInt8) : (num k a l).1 ≤ maxNumber ∧ (num k a l).2.2.length ≤ l.length ∧ ((num k a l).2.1 ≠ 0 → (num k a l).1 = 0 ∧ (num k a l).2.2 = []) := by
  induction l generalizing k a with
  | nil => simp [num]
  | cons b l ih =>
    rw [num]
    split
    · simp
    · split
      · rename_i h _
        simp
        omega
      · have := ih (k + 1) (a + b.toNat % 128 * 128 ^ k)
        simp only [List.length_cons]
        exact ⟨this.1, by omega, this.2.2⟩
/-- What was written is read. -/
theorem num_encF (f : Nat) : ∀ (k a n : Nat) (t : List UInt8), f + k ≤ 5 → n < 128 ^ (f + 1) → a + n * 128 ^ k ≤ maxNumber → (0 < k → 0 < n) → num k a (encF f n ++ t) = (a + n * 128 ^ k, 0, t) := by
  induction f with
  | zero =>
    intro k a n t hf hn ha hk
    have hn' : n < 128 := by simpa using hn
    have e : (UInt8.ofNat n).toNat = n := by rw [UInt8.toNat_ofNat']; omega
    rw [encF, List.singleton_append, num_last] <;> rw [e] <;> try rw [Nat.mod_eq_of_lt hn']
    · intro h; omega
    · exact hn'
  | succ f ih =>
    intro k a n t hf hn ha hk
    by_cases h : n < 128
    · have e : (UInt8.ofNat n).toNat = n := by rw [UInt8.toNat_ofNat']; omega
      rw [encF_lo _ _ h, List.singleton_append, num_last] <;> rw [e] <;> try rw [Nat.mod_eq_of_lt h]
      · intro h; omega
      · exact h
    · have e : (UInt8.ofNat (n % 128 + 128)).toNat = n % 128 + 128 := by rw [UInt8.toNat_ofNat']; omega
      have e2 : (n % 128 + 128) % 128 = n % 128 := by omega
      have hd : n = n % 128 + 128 * (n / 128) := by omega
      have hp : n * 128 ^ k = n % 128 * 128 ^ k + n / 128 * 128 ^ (k + 1) := by
        rw [Nat.pow_succ, Nat.mul_comm (128 ^ k) 128, ← Nat.mul_assoc, ← Nat.add_mul]
        congr 1
        omega
      rw [encF_hi _ _ h, List.cons_append, num_on]
      · rw [e, e2, ih (k + 1) _ (n / 128) t (by omega) (by rw [Nat.pow_succ] at hn; omega) (by rw [Nat.add_assoc, ← hp]; exact ha) (by omega), Nat.add_assoc, ← hp]
      · rw [e, e2]; intro h; omega
      · rw [e]; omega
theorem num_enc (n : Nat) (t : List UInt8) (h : n ≤ maxNumber) : num 0 0 (enc n ++ t) = (n, 0, t) := by
  rw [enc, num_encF 5 0 0 n t (by omega) (by unfold maxNumber at h; omega) (by simpa using h) (by omega)]
  simp
/-- What is read, written anew, are the bytes that were gone over. -/
theorem encF_num (l : List UInt8) : ∀ (k f a : Nat), f + k = 5 → (num k a l).2.1 = 0 → a ≤ (num k a l).1 ∧ ∃ m, (num k a l).1 = a + m * 128 ^ k ∧ (0 < k → 0 < m) ∧ encF f m ++ (num k a l).2.2 = l := by
  induction l with
  | nil => intro k f a _ h; simp [num] at h
  | cons b l ih =>
    intro k f a hk h
    by_cases h1 : maxNumber < a + b.toNat % 128 * 128 ^ k ∨ k = 6 ∨ (0 < k ∧ b.toNat = 0)
    · rw [num_bad _ _ _ _ h1] at h; simp at h
    · by_cases hb : b.toNat < 128
      · rw [num_last _ _ _ _ h1 hb]
        refine ⟨by simp, b.toNat, by rw [Nat.mod_eq_of_lt hb], by omega, ?_⟩
        rw [encF_lo _ _ hb]
        simp
      · rw [num_on _ _ _ _ h1 hb] at h ⊢
        have hb2 := b.toNat_lt
        cases f with
        | zero =>
          exfalso
          have hk5 : k = 5 := by omega
          subst hk5
          cases l with
          | nil => simp [num] at h
          | cons c l =>
            rw [num_bad _ _ _ _ (.inr (.inl rfl))] at h
            simp at h
        | succ f =>
          obtain ⟨h2, m, h3, h4, h5⟩ := ih (k + 1) f _ (by omega) h
          refine ⟨by omega, m * 128 + b.toNat % 128, ?_, ?_, ?_⟩
          · rw [h3, Nat.pow_succ, Nat.add_mul, Nat.mul_comm (128 ^ k) 128, Nat.mul_assoc]
            omega
          · have := h4 (by omega); omega
          · have hm := h4 (by omega)
            rw [encF_hi _ _ (by omega), show (m * 128 + b.toNat % 128) / 128 = m by omega, show (m * 128 + b.toNat % 128) % 128 + 128 = b.toNat by omega]
            simp [h5]
theorem enc_num (l : List UInt8) (h : (num 0 0 l).2.1 = 0) : enc (num 0 0 l).1 ++ (num 0 0 l).2.2 = l := by
  obtain ⟨_, m, h1, _, h2⟩ := encF_num l 0 5 0 rfl h
  rw [h1]
  simpa [enc] using h2
/-- Without its last bytes: bytes are missing. -/
theorem num_shortF (f : Nat) : ∀ (k a n j : Nat), f + k ≤ 5 → n < 128 ^ (f + 1) → a + n * 128 ^ k ≤ maxNumber → j < (encF f n).length → num k a ((encF f n).take j) = (0, 8, []) := by
  induction f with
  | zero =>
    intro k a n j _ _ _ hj
    obtain rfl : j = 0 := by simp [encF] at hj; exact hj
    simp [num]
  | succ f ih =>
    intro k a n j hf hn ha hj
    by_cases h : n < 128
    · rw [encF_lo _ _ h] at hj ⊢
      obtain rfl : j = 0 := by simpa using hj
      simp [num]
    · have e : (UInt8.ofNat (n % 128 + 128)).toNat = n % 128 + 128 := by rw [UInt8.toNat_ofNat']; omega
      have e2 : (n % 128 + 128) % 128 = n % 128 := by omega
      have hp : n * 128 ^ k = n % 128 * 128 ^ k + n / 128 * 128 ^ (k + 1) := by
        rw [Nat.pow_succ, Nat.mul_comm (128 ^ k) 128, ← Nat.mul_assoc, ← Nat.add_mul]
        congr 1
        omega
      rw [encF_hi _ _ h] at hj ⊢
      cases j with
      | zero => simp [num]
      | succ j =>
        rw [List.take_succ_cons, num_on]
        · rw [e, e2, ih (k + 1) _ (n / 128) j (by omega) (by rw [Nat.pow_succ] at hn; omega) (by rw [Nat.add_assoc, ← hp]; exact ha) (by simpa using hj)]
        · rw [e, e2]; intro h; omega
        · rw [e]; omega
theorem num_short (n j : Nat) (h : n ≤ maxNumber) (hj : j < (enc n).length) : num 0 0 ((enc n).take j) = (0, 8, []) :=
  num_shortF 5 0 0 n j (by omega) (by unfold maxNumber at h; omega) (by simpa using h) hj
/-- No number's bytes begin by another one's. -/
theorem enc_apart (a b : Nat) (ha : a ≤ maxNumber) (hb : b ≤ maxNumber) (t : List UInt8) (h : enc b = enc a ++ t) : a = b := by
  have h1 := num_enc a t ha
  have h2 := num_enc b [] hb
  rw [List.append_nil, h, h1] at h2
  exact (Prod.mk.inj h2).1
theorem encF_mono (f : Nat) : ∀ (a b : Nat), a ≤ b → (encF f a).length ≤ (encF f b).length := by
  induction f with
  | zero => intro a b _; simp [encF]
  | succ f ih =>
    intro a b h
    by_cases ha : a < 128
    · rw [encF_lo _ _ ha]
      have := encF_len (f + 1) b
      simpa using this.1
    · rw [encF_hi _ _ ha, encF_hi _ _ (by omega : ¬ b < 128)]
      have := ih (a / 128) (b / 128) (by omega)
      simpa using this
theorem enc_mono (a b : Nat) (h : a ≤ b) : (enc a).length ≤ (enc b).length := encF_mono 5 a b h
end Go.Proofs.Ytmmpnnpkfghhcaa.Code
