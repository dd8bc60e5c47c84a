/-
  Plain mathematics of the checksum of chapter 1 and of bent bytes: functions on natural numbers and lists of bytes, and their laws. No program is named here.
-/
namespace Go.Proofs.Ytmnpdllajplfeaa.Crc

/-- One bit shifted out of a state. -/
def sh1 (x : Nat) : Nat := if x % 2 = 1 then x / 2 ^^^ 3988292384 else x / 2
def sh (k : Nat) (x : Nat) : Nat := match k with
  | 0 => x
  | k + 1 => sh1 (sh k x)
/-- One byte taken in. -/
def step (x : Nat) (b : UInt8) : Nat := sh 8 (x ^^^ b.toNat)
def run (x : Nat) (l : List UInt8) : Nat := l.foldl step x
def inv (x : Nat) : Nat := 4294967295 - x
/-- The checksum of bytes of checksum s, and l behind them. -/
def add (s : Nat) (l : List UInt8) : Nat := inv (run (inv s) l)

theorem sh1_lt {x : Nat} (h : x < 4294967296) : sh1 x < 4294967296 := by
  unfold sh1
  split
  · have : x / 2 ^^^ 3988292384 < 2 ^ 32 := Nat.xor_lt_two_pow (by omega) (by omega)
    omega
  · omega
theorem sh_lt (k : Nat) {x : Nat} (h : x < 4294967296) : sh k x < 4294967296 := by
  induction k with
  | zero => exact h
  | succ k ih => exact sh1_lt ih
theorem xor_lt {x y : Nat} (h : x < 4294967296) (h' : y < 4294967296) : x ^^^ y < 4294967296 := by
  have : x ^^^ y < 2 ^ 32 := Nat.xor_lt_two_pow (by omega) (by omega)
  omega
theorem step_lt {x : Nat} (h : x < 4294967296) (b : UInt8) : step x b < 4294967296 :=
  sh_lt 8 (xor_lt h (by have := b.toNat_lt; omega))
theorem run_lt {x : Nat} (h : x < 4294967296) (l : List UInt8) : run x l < 4294967296 := by
  induction l generalizing x with
  | nil => exact h
  | cons b l ih => exact ih (step_lt h b)
theorem inv_lt (x : Nat) : inv x < 4294967296 := by unfold inv; omega
theorem inv_inv {x : Nat} (h : x < 4294967296) : inv (inv x) = x := by unfold inv; omega
theorem add_lt (s : Nat) (l : List UInt8) : add s l < 4294967296 := inv_lt _

theorem run_append (x : Nat) (a b : List UInt8) : run x (a ++ b) = run (run x a) b := by unfold run; rw [List.foldl_append]
theorem run_snoc (x : Nat) (a : List UInt8) (b : UInt8) : run x (a ++ [b]) = step (run x a) b := by rw [run_append]; rfl
theorem add_add (s : Nat) (a b : List UInt8) : add (add s a) b = add s (a ++ b) := by
  unfold add
  rw [inv_inv (run_lt (inv_lt s) a), run_append]
theorem add_nil {s : Nat} (h : s < 4294967296) : add s [] = s := by
  unfold add
  exact inv_inv h

/-! ### The state is shifted bit by bit: it may be parted by exclusive or. -/
theorem xor_mod_two (a b : Nat) : (a ^^^ b) % 2 = (a % 2 + b % 2) % 2 := by
  have h := Nat.testBit_xor a b 0
  simp only [Nat.testBit_zero] at h
  have ha := Nat.mod_two_eq_zero_or_one a
  have hb := Nat.mod_two_eq_zero_or_one b
  have hab := Nat.mod_two_eq_zero_or_one (a ^^^ b)
  rcases ha with ha | ha <;> rcases hb with hb | hb <;> rcases hab with hab | hab <;> simp [ha, hb, hab] at h ⊢
theorem xor_div_two (a b : Nat) : (a ^^^ b) / 2 = a / 2 ^^^ b / 2 := by
  apply Nat.eq_of_testBit_eq
  intro i
  simp [Nat.testBit_div_two, Nat.testBit_xor]
theorem sh1_xor (a b : Nat) : sh1 (a ^^^ b) = sh1 a ^^^ sh1 b := by
  have hm := xor_mod_two a b
  have hd := xor_div_two a b
  unfold sh1
  rw [hd, hm]
  rcases Nat.mod_two_eq_zero_or_one a with ha | ha <;> rcases Nat.mod_two_eq_zero_or_one b with hb | hb <;> simp [ha, hb]
  · rw [Nat.xor_assoc]
  · rw [Nat.xor_assoc, Nat.xor_assoc, Nat.xor_comm 3988292384]
  · have e : a / 2 ^^^ 3988292384 ^^^ (b / 2 ^^^ 3988292384) = a / 2 ^^^ b / 2 ^^^ (3988292384 ^^^ 3988292384) := by ac_rfl
    rw [e, Nat.xor_self, Nat.xor_zero]
theorem sh_xor (k a b : Nat) : sh k (a ^^^ b) = sh k a ^^^ sh k b := by
  induction k with
  | zero => rfl
  | succ k ih => show sh1 _ = sh1 _ ^^^ sh1 _; rw [ih, sh1_xor]
theorem sh1_two (y : Nat) : sh1 (2 * y) = y := by unfold sh1; rw [if_neg (by omega)]; omega
theorem sh1_zero : sh1 0 = 0 := rfl
theorem sh_zero (k : Nat) : sh k 0 = 0 := by
  induction k with
  | zero => rfl
  | succ k ih => show sh1 _ = 0; rw [ih]; rfl
theorem sh_add (j k x : Nat) : sh (j + k) x = sh j (sh k x) := by
  induction j with
  | zero => rw [Nat.zero_add]; rfl
  | succ j ih => rw [Nat.succ_add]; show sh1 _ = sh1 _; rw [ih]
theorem sh_pow (k y : Nat) : sh k (2 ^ k * y) = y := by
  induction k generalizing y with
  | zero => simp [sh]
  | succ k ih =>
    rw [sh_add k 1]
    show sh k (sh1 (2 ^ (k + 1) * y)) = y
    rw [Nat.pow_succ, show 2 ^ k * 2 * y = 2 * (2 ^ k * y) by rw [Nat.mul_comm (2 ^ k) 2, Nat.mul_assoc], sh1_two, ih]
theorem xor_high (y b : Nat) (hb : b < 256) : 256 * y ^^^ b = 256 * y + b := by
  apply Nat.eq_of_testBit_eq
  intro i
  have h := Nat.two_pow_add_eq_or_of_lt (i := 8) (b := b) (by omega) y
  rw [show (256 : Nat) = 2 ^ 8 by rfl, h, Nat.testBit_xor, Nat.testBit_or, Nat.testBit_two_pow_mul]
  by_cases hi : i < 8
  · simp [show ¬ 8 ≤ i by omega]
  · have : b.testBit i = false := Nat.testBit_lt_two_pow (Nat.lt_of_lt_of_le (show b < 2 ^ 8 by omega) (Nat.pow_le_pow_right (by omega) (by omega)))
    simp [this]
theorem parted (x : Nat) : x = 256 * (x / 256) ^^^ x % 256 := by rw [xor_high _ _ (Nat.mod_lt _ (by omega))]; omega
/-- A whole byte by one look at the table of what each lowest byte contributes. -/
theorem step_table (x : Nat) (b : UInt8) : step x b = x / 256 ^^^ sh 8 (x % 256 ^^^ b.toNat) := by
  unfold step
  conv => lhs; rw [parted x]
  rw [Nat.xor_assoc, sh_xor]
  have := sh_pow 8 (x / 256)
  rw [show (2 : Nat) ^ 8 = 256 by rfl] at this
  rw [this]

/-! ### Three texts put together. -/
theorem step_xor (x y : Nat) (a b : UInt8) : step (x ^^^ y) (a ^^^ b) = step x a ^^^ step y b := by
  unfold step
  rw [← sh_xor, UInt8.toNat_xor]
  congr 1
  ac_rfl
theorem run_xor (a b : List UInt8) (h : a.length = b.length) (x y : Nat) : run (x ^^^ y) (List.zipWith (· ^^^ ·) a b) = run x a ^^^ run y b := by
  induction a generalizing b x y with
  | nil => cases b with
    | nil => rfl
    | cons _ _ => simp at h
  | cons c a ih => cases b with
    | nil => simp at h
    | cons d b =>
      show run (step (x ^^^ y) (c ^^^ d)) _ = run (step x c) a ^^^ run (step y d) b
      rw [step_xor]
      exact ih b (by simpa using h) _ _
theorem run_xor3 (a b c : List UInt8) (h : a.length = b.length) (h' : a.length = c.length) (x : Nat) :
    run x (List.zipWith (· ^^^ ·) (List.zipWith (· ^^^ ·) a b) c) = run x a ^^^ run x b ^^^ run x c := by
  have e : x = x ^^^ x ^^^ x := by rw [Nat.xor_self, Nat.zero_xor]
  conv => lhs; rw [e]
  rw [run_xor _ c (by rw [List.length_zipWith]; omega), run_xor a b h]
theorem inv_xor {x : Nat} (h : x < 4294967296) : inv x = x ^^^ 4294967295 := by
  unfold inv
  apply Nat.eq_of_testBit_eq
  intro i
  rw [show 4294967295 - x = 2 ^ 32 - (x + 1) by omega, Nat.testBit_two_pow_sub_succ (by omega), Nat.testBit_xor, show 4294967295 = 2 ^ 32 - 1 by rfl, Nat.testBit_two_pow_sub_one]
  by_cases hi : i < 32
  · simp [hi]
  · have : x.testBit i = false := Nat.testBit_lt_two_pow (Nat.lt_of_lt_of_le (show x < 2 ^ 32 by omega) (Nat.pow_le_pow_right (by omega) (by omega)))
    simp [hi, this]
/-- P1.3. -/
theorem add_xor3 (a b c : List UInt8) (h : a.length = b.length) (h' : a.length = c.length) (s : Nat) :
    add s a ^^^ add s b ^^^ add s c = add s (List.zipWith (· ^^^ ·) (List.zipWith (· ^^^ ·) a b) c) := by
  unfold add
  rw [run_xor3 a b c h h', inv_xor (run_lt (inv_lt s) a), inv_xor (run_lt (inv_lt s) b), inv_xor (run_lt (inv_lt s) c), inv_xor (xor_lt (xor_lt (run_lt (inv_lt s) a) (run_lt (inv_lt s) b)) (run_lt (inv_lt s) c))]
  generalize run (inv s) a = A
  generalize run (inv s) b = B
  generalize run (inv s) c = C
  have e : A ^^^ 4294967295 ^^^ (B ^^^ 4294967295) ^^^ (C ^^^ 4294967295) = A ^^^ B ^^^ C ^^^ 4294967295 ^^^ (4294967295 ^^^ 4294967295) := by ac_rfl
  rw [e, Nat.xor_self, Nat.xor_zero]

/-! ### What differs within four bytes differs in its checksum. -/
theorem xor_zero_eq {x y : Nat} (h : x ^^^ y = 0) : x = y := by
  have e : x ^^^ y ^^^ y = 0 ^^^ y := by rw [h]
  rwa [Nat.xor_assoc, Nat.xor_self, Nat.xor_zero, Nat.zero_xor] at e
theorem sh1_eq_zero {x : Nat} (h : x < 4294967296) (h' : sh1 x = 0) : x = 0 := by
  unfold sh1 at h'
  split at h'
  · have : x / 2 = 3988292384 := xor_zero_eq h'
    omega
  · omega
theorem sh_eq_zero (k : Nat) {x : Nat} (h : x < 4294967296) (h' : sh k x = 0) : x = 0 := by
  induction k with
  | zero => exact h'
  | succ k ih => exact ih (sh1_eq_zero (sh_lt k h) h')
theorem sh_inj (k : Nat) {x y : Nat} (hx : x < 4294967296) (hy : y < 4294967296) (h : sh k x = sh k y) : x = y := by
  have : sh k (x ^^^ y) = 0 := by rw [sh_xor, h, Nat.xor_self]
  exact xor_zero_eq (sh_eq_zero k (xor_lt hx hy) this)
theorem step_inj {x y : Nat} (b : UInt8) (hx : x < 4294967296) (hy : y < 4294967296) (h : step x b = step y b) : x = y := by
  have hb := b.toNat_lt
  have e := sh_inj 8 (xor_lt hx (by omega)) (xor_lt hy (by omega)) h
  have e2 : x ^^^ b.toNat ^^^ b.toNat = y ^^^ b.toNat ^^^ b.toNat := by rw [e]
  rwa [Nat.xor_assoc, Nat.xor_assoc, Nat.xor_self, Nat.xor_zero, Nat.xor_zero] at e2
theorem run_inj (l : List UInt8) {x y : Nat} (hx : x < 4294967296) (hy : y < 4294967296) (h : run x l = run y l) : x = y := by
  induction l generalizing x y with
  | nil => exact h
  | cons b l ih => exact step_inj b hx hy (ih (step_lt hx b) (step_lt hy b) h)
/-- Bytes as a number, the lowest first. -/
def word : List UInt8 → Nat
  | [] => 0
  | b :: l => 256 * word l + b.toNat
theorem word_lt (l : List UInt8) : word l < 256 ^ l.length := by
  induction l with
  | nil => simp [word]
  | cons b l ih =>
    have := b.toNat_lt
    simp only [word, List.length_cons, Nat.pow_succ]
    omega
theorem word_inj (a b : List UInt8) (h : a.length = b.length) (e : word a = word b) : a = b := by
  induction a generalizing b with
  | nil => cases b with
    | nil => rfl
    | cons _ _ => simp at h
  | cons c a ih => cases b with
    | nil => simp at h
    | cons d b =>
      have h1 := c.toNat_lt
      have h2 := d.toNat_lt
      simp only [word] at e
      have e1 : c.toNat = d.toNat := by omega
      have e2 : word a = word b := by omega
      rw [ih b (by simpa using h) e2, UInt8.toNat_inj.1 e1]
theorem run_word (l : List UInt8) (x : Nat) : run x l = sh (8 * l.length) (x ^^^ word l) := by
  induction l generalizing x with
  | nil => simp [run, word, sh]
  | cons b l ih =>
    show run (step x b) l = _
    rw [ih]
    have e : step x b ^^^ word l = sh 8 (x ^^^ word (b :: l)) := by
      unfold step
      have hp := sh_pow 8 (word l)
      rw [show (2 : Nat) ^ 8 = 256 by rfl] at hp
      conv => lhs; rw [← hp]
      rw [← sh_xor]
      simp only [word]
      rw [← xor_high _ _ b.toNat_lt]
      congr 1
      ac_rfl
    rw [e, ← sh_add]
    congr 1
theorem run_four (a b : List UInt8) (h : a.length = b.length) (h4 : a.length ≤ 4) {x : Nat} (hx : x < 4294967296) (e : run x a = run x b) : a = b := by
  rw [run_word, run_word, ← h] at e
  have hp : 256 ^ a.length ≤ 256 ^ 4 := Nat.pow_le_pow_right (by omega) h4
  have ha := word_lt a
  have hb := word_lt b
  rw [← h] at hb
  have e1 := sh_inj _ (xor_lt hx (by omega)) (xor_lt hx (by omega)) e
  have e2 : x ^^^ (x ^^^ word a) = x ^^^ (x ^^^ word b) := by rw [e1]
  rw [← Nat.xor_assoc, ← Nat.xor_assoc, Nat.xor_self, Nat.zero_xor, Nat.zero_xor] at e2
  exact word_inj a b h e2
/-- P1.4. -/
theorem add_four (p a b q : List UInt8) (h : a.length = b.length) (h4 : a.length ≤ 4) (s : Nat) (e : add s (p ++ a ++ q) = add s (p ++ b ++ q)) : a = b := by
  unfold add at e
  have hl := fun l => run_lt (inv_lt s) l
  have e1 : run (inv s) (p ++ a ++ q) = run (inv s) (p ++ b ++ q) := by
    have h1 := hl (p ++ a ++ q)
    have h2 := hl (p ++ b ++ q)
    unfold inv at e h1 h2 ⊢
    omega
  rw [run_append, run_append (inv s) (p ++ b), run_append, run_append (inv s) p b] at e1
  exact run_four a b h h4 (hl p) (run_inj q (run_lt (hl p) a) (run_lt (hl p) b) e1)

/-! ### Bending. -/
/-- What the byte at distance d behind the place is changed by, when k bytes are gone over. -/
def key (k : Nat) (d : Int) (x : Nat) : UInt8 := if 0 ≤ d ∧ d < k then UInt8.ofNat (x / 256 ^ d.toNat) else 0
def bendTo (k : Nat) (l : List UInt8) (place : Int) (x : Nat) : List UInt8 := l.mapIdx fun i c => c ^^^ key k ((i : Int) - place) x
def bend (l : List UInt8) (place : Int) (x : Nat) : List UInt8 := bendTo 4 l place x
theorem bendTo_length (k : Nat) (l : List UInt8) (place : Int) (x : Nat) : (bendTo k l place x).length = l.length := by simp [bendTo]
theorem bendTo_get (k : Nat) (l : List UInt8) (place : Int) (x : Nat) (i : Nat) : (bendTo k l place x)[i]? = l[i]?.map (· ^^^ key k ((i : Int) - place) x) := by simp [bendTo]
theorem bendTo_zero (l : List UInt8) (place : Int) (x : Nat) : bendTo 0 l place x = l := by
  apply List.ext_getElem?
  intro i
  rw [bendTo_get]
  have : key 0 ((i : Int) - place) x = 0 := by unfold key; rw [if_neg (by omega)]
  rw [this]
  simp
theorem bendTo_other (k : Nat) (l : List UInt8) (place : Int) (x : Nat) (h : ¬ (0 ≤ place + k ∧ place + k < l.length)) : bendTo (k + 1) l place x = bendTo k l place x := by
  apply List.ext_getElem?
  intro i
  rw [bendTo_get, bendTo_get]
  by_cases hi : i < l.length
  · have : key (k + 1) ((i : Int) - place) x = key k ((i : Int) - place) x := by
      unfold key
      by_cases hd : 0 ≤ (i : Int) - place ∧ (i : Int) - place < k
      · rw [if_pos hd, if_pos (by omega)]
      · rw [if_neg hd, if_neg (by omega)]
    rw [this]
  · rw [List.getElem?_eq_none (by omega)]; rfl
theorem bendTo_set (k : Nat) (l : List UInt8) (place : Int) (x : Nat) (j : Nat) (hj : (j : Int) = place + k) (h : j < l.length) :
    bendTo (k + 1) l place x = (bendTo k l place x).set j ((bendTo k l place x).getD j 0 ^^^ UInt8.ofNat (x / 256 ^ k)) := by
  apply List.ext_getElem?
  intro i
  rw [bendTo_get]
  by_cases hi : j = i
  · subst hi
    rw [List.getElem?_set_self (by rw [bendTo_length]; exact h), List.getD, bendTo_get, List.getElem?_eq_getElem h]
    have e1 : key (k + 1) ((j : Int) - place) x = UInt8.ofNat (x / 256 ^ k) := by
      unfold key
      rw [if_pos (by omega), show ((j : Int) - place).toNat = k by omega]
    have e2 : key k ((j : Int) - place) x = 0 := by unfold key; rw [if_neg (by omega)]
    rw [e1, e2]
    simp
  · rw [List.getElem?_set_ne hi, bendTo_get]
    have : key (k + 1) ((i : Int) - place) x = key k ((i : Int) - place) x := by
      unfold key
      by_cases hd : 0 ≤ (i : Int) - place ∧ (i : Int) - place < k
      · rw [if_pos hd, if_pos (by omega)]
      · rw [if_neg hd, if_neg (by omega)]
    rw [this]
theorem bend_length (l : List UInt8) (place : Int) (x : Nat) : (bend l place x).length = l.length := bendTo_length 4 l place x
theorem bend_get (l : List UInt8) (place : Int) (x : Nat) (i : Nat) : (bend l place x)[i]? = l[i]?.map (· ^^^ key 4 ((i : Int) - place) x) := bendTo_get 4 l place x i
/-- P1.5. -/
theorem bend_bend (l : List UInt8) (place : Int) (x : Nat) : bend (bend l place x) place x = l := by
  apply List.ext_getElem?
  intro i
  rw [bend_get, bend_get]
  cases l[i]? with
  | none => rfl
  | some c => simp [UInt8.xor_assoc]
theorem bend_far (l : List UInt8) (place : Int) (x : Nat) (i : Nat) (h : (i : Int) < place ∨ place ≤ (i : Int) - 4) : (bend l place x)[i]? = l[i]? := by
  rw [bend_get]
  have : key 4 ((i : Int) - place) x = 0 := by unfold key; rw [if_neg (by omega)]
  rw [this]
  simp
theorem bend_comm (l : List UInt8) (a b : Int) (x y : Nat) : bend (bend l a x) b y = bend (bend l b y) a x := by
  apply List.ext_getElem?
  intro i
  rw [bend_get, bend_get, bend_get, bend_get]
  cases l[i]? with
  | none => rfl
  | some c =>
    simp only [Option.map_some, Option.some.injEq]
    rw [UInt8.xor_assoc, UInt8.xor_assoc, UInt8.xor_comm (key 4 ((i : Int) - a) x)]
end Go.Proofs.Ytmnpdllajplfeaa.Crc
