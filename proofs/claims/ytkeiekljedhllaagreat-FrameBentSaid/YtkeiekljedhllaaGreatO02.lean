/-
  Carried over and put together: contracts of this program's functions, and plain facts. No statement is proved in this text.
-/
import Derived.Test.YtkeiekljedhllaaGreatRows
import Derived.WalkKit
import Derived.WalkSpells
import Derived.WalkLawsBesides
import Derived.Deep.WholeRow
import Derived.Deep.LoopGhost
import Derived.Handy
import Derived.Lib.Hide
import Derived.Lib.ConvBytes
import Derived.Test.YtkeiekljedhllaaGreatO00
set_option maxRecDepth 20000
namespace Go.Proofs.YtkeiekljedhllaaGreat.Crc
/-- One bit shifted out of a state. -/
def sh1 (x : Nat) : Nat := if x % 2 = 1 then x / 2 ^^^ 3988292384 else x / 2
def sh (k : Nat) (x : Nat) : Nat := match k with
  | 0 => x
  | k + 1 => sh1 (sh k x)
/-- One byte taken in. -/
def step (x : Nat) (b : UInt8) : Nat := sh 8 (x ^^^ b.toNat)
def run (x : Nat) (l : List UInt8) : Nat := l.foldl step x
def inv (x : Nat) : Nat := 4294967295 - x
/-- The checksum of bytes of checksum s, and l behind them. -/
def add (s : Nat) (l : List UInt8) : Nat := inv (run (inv s) l)
theorem sh1_lt {x : Nat} (h : x < 4294967296) : sh1 x < 4294967296 := by
  unfold sh1
  split
  · have : x / 2 ^^^ 3988292384 < 2 ^ 32 := Nat.xor_lt_two_pow (by omega) (by omega)
    omega
  · omega
theorem sh_lt (k : Nat) {x : Nat} (h : x < 4294967296) : sh k x < 4294967296 := by
  induction k with
  | zero => exact h
  | succ k ih => exact sh1_lt ih
theorem xor_lt {x y : Nat} (h : x < 4294967296) (h' : y < 4294967296) : x ^^^ y < 4294967296 := by
  have : x ^^^ y < 2 ^ 32 := Nat.xor_lt_two_pow (by omega) (by omega)
  omega
theorem step_lt {x : Nat} (h : x < 4294967296) (b : UInt8) : step x b < 4294967296 :=
  sh_lt 8 (xor_lt h (by have := b.toNat_lt; omega))
theorem run_lt {x : Nat} (h : x < 4294967296) (l : List UInt8) : run x l < 4294967296 := by
  induction l generalizing x with
  | nil => exact h
  | cons b l ih => exact ih (step_lt h b)
theorem inv_lt (x : Nat) : inv x < 4294967296 := by unfold inv; omega
theorem inv_inv {x : Nat} (h : x < 4294967296) : inv (inv x) = x := by unfold inv; omega
theorem add_lt (s : Nat) (l : List UInt8) : add s l < 4294967296 := inv_lt _
theorem run_append (x : Nat) (a b : List UInt8) : run x (a ++ b) = run (run x a) b := by unfold run; rw [List.foldl_append]
theorem run_snoc (x : Nat) (a : List UInt8) (b : UInt8) : run x (a ++ [b]) = step (run x a) b := by rw [run_append]; rfl
theorem add_add (s : Nat) (a b : List UInt8) : add (add s a) b = add s (a ++ b) := by
  unfold add
  rw [inv_inv (run_lt (inv_lt s) a), run_append]
theorem xor_mod_two (a b : Nat) : (a ^^^ b) % 2 = (a % 2 + b % 2) % 2 := by
  have h := Nat.testBit_xor a b 0
  simp only [Nat.testBit_zero] at h
  have ha := Nat.mod_two_eq_zero_or_one a
  have hb := Nat.mod_two_eq_zero_or_one b
  have hab := Nat.mod_two_eq_zero_or_one (a ^^^ b)
  rcases ha with ha | ha <;> rcases hb with hb | hb <;> rcases hab with hab | hab <;> simp [ha, hb, hab] at h ⊢
theorem xor_div_two (a b : Nat) : (a ^^^ b) / 2 = a / 2 ^^^ b / 2 := by
  apply Nat.eq_of_testBit_eq
  intro i
  simp [Nat.testBit_div_two, Nat.testBit_xor]
theorem sh1_xor (a b : Nat) : sh1 (a ^^^ b) = sh1 a ^^^ sh1 b := by
  have hm := xor_mod_two a b
  have hd := xor_div_two a b
  unfold sh1
  rw [hd, hm]
  rcases Nat.mod_two_eq_zero_or_one a with ha | ha <;> rcases Nat.mod_two_eq_zero_or_one b with hb | hb <;> simp [ha, hb]
  · rw [Nat.xor_assoc]
  · rw [Nat.xor_assoc, Nat.xor_assoc, Nat.xor_comm 3988292384]
  · have e : a / 2 ^^^ 3988292384 ^^^ (b / 2 ^^^ 3988292384) = a / 2 ^^^ b / 2 ^^^ (3988292384 ^^^ 3988292384) := by ac_rfl
    rw [e, Nat.xor_self, Nat.xor_zero]
theorem sh_xor (k a b : Nat) : sh k (a ^^^ b) = sh k a ^^^ sh k b := by
  induction k with
  | zero => rfl
  | succ k ih => show sh1 _ = sh1 _ ^^^ sh1 _; rw [ih, sh1_xor]
theorem sh1_two (y : Nat) : sh1 (2 * y) = y := by unfold sh1; rw [if_neg (by omega)]; omega
theorem sh_add (j k x : Nat) : sh (j + k) x = sh j (sh k x) := by
  induction j with
  | zero => rw [Nat.zero_add]; rfl
  | succ j ih => rw [Nat.succ_add]; show sh1 _ = sh1 _; rw [ih]
theorem sh_pow (k y : Nat) : sh k (2 ^ k * y) = y := by
  induction k generalizing y with
  | zero => simp [sh]
  | succ k ih =>
    rw [sh_add k 1]
    show sh k (sh1 (2 ^ (k + 1) * y)) = y
    rw [Nat.pow_succ, show 2 ^ k * 2 * y = 2 * (2 ^ k * y) by rw [Nat.mul_comm (2 ^ k) 2, Nat.mul_assoc], sh1_two, ih]
theorem xor_high (y b : Nat) (hb : b < 256) : 256 * y ^^^ b = 256 * y + b := by
  apply Nat.eq_of_testBit_eq
  intro i
  have h := Nat.two_pow_add_eq_or_of_lt (i := 8) (b := b) (by omega) y
  rw [show (256 : Nat) = 2 ^ 8 by rfl, h, Nat.testBit_xor, Nat.testBit_or, Nat.testBit_two_pow_mul]
  by_cases hi : i < 8
  · simp [show ¬ 8 ≤ i by omega]
  · have : b.testBit i = false := Nat.testBit_lt_two_pow (Nat.lt_of_lt_of_le (show b < 2 ^ 8 by omega) (Nat.pow_le_pow_right (by omega) (by omega)))
    simp [this]
theorem parted (x : Nat) : x = 256 * (x / 256) ^^^ x % 256 := by rw [xor_high _ _ (Nat.mod_lt _ (by omega))]; omega
/-- A whole byte by one look at the tableCRC of what each lowest byte contributes. -/
theorem step_table (x : Nat) (b : UInt8) : step x b = x / 256 ^^^ sh 8 (x % 256 ^^^ b.toNat) := by
  unfold step
  conv => lhs; rw [parted x]
  rw [Nat.xor_assoc, sh_xor]
  have := sh_pow 8 (x / 256)
  rw [show (2 : Nat) ^ 8 = 256 by rfl] at this
  rw [this]
theorem step_xor (x y : Nat) (a b : UInt8) : step (x ^^^ y) (a ^^^ b) = step x a ^^^ step y b := by
  unfold step
  rw [← sh_xor, UInt8.toNat_xor]
  congr 1
  ac_rfl
theorem inv_xor {x : Nat} (h : x < 4294967296) : inv x = x ^^^ 4294967295 := by
  unfold inv
  apply Nat.eq_of_testBit_eq
  intro i
  rw [show 4294967295 - x = 2 ^ 32 - (x + 1) by omega, Nat.testBit_two_pow_sub_succ (by omega), Nat.testBit_xor, show 4294967295 = 2 ^ 32 - 1 by rfl, Nat.testBit_two_pow_sub_one]
  by_cases hi : i < 32
  · simp [hi]
  · have : x.testBit i = false := Nat.testBit_lt_two_pow (Nat.lt_of_lt_of_le (show x < 2 ^ 32 by omega) (Nat.pow_le_pow_right (by omega) (by omega)))
    simp [hi, this]
theorem xor_zero_eq {x y : Nat} (h : x ^^^ y = 0) : x = y := by
  have e : x ^^^ y ^^^ y = 0 ^^^ y := by rw [h]
  rwa [Nat.xor_assoc, Nat.xor_self, Nat.xor_zero, Nat.zero_xor] at e
theorem sh1_eq_zero {x : Nat} (h : x < 4294967296) (h' : sh1 x = 0) : x = 0 := by
  unfold sh1 at h'
  split at h'
  · have : x / 2 = 3988292384 := xor_zero_eq h'
    omega
  · omega
theorem sh_eq_zero (k : Nat) {x : Nat} (h : x < 4294967296) (h' : sh k x = 0) : x = 0 := by
  induction k with
  | zero => exact h'
  | succ k ih => exact ih (sh1_eq_zero (sh_lt k h) h')
theorem sh_inj (k : Nat) {x y : Nat} (hx : x < 4294967296) (hy : y < 4294967296) (h : sh k x = sh k y) : x = y := by
  have : sh k (x ^^^ y) = 0 := by rw [sh_xor, h, Nat.xor_self]
  exact xor_zero_eq (sh_eq_zero k (xor_lt hx hy) this)
theorem step_inj {x y : Nat} (b : UInt8) (hx : x < 4294967296) (hy : y < 4294967296) (h : step x b = step y b) : x = y := by
  have hb := b.toNat_lt
  have e := sh_inj 8 (xor_lt hx (by omega)) (xor_lt hy (by omega)) h
  have e2 : x ^^^ b.toNat ^^^ b.toNat = y ^^^ b.toNat ^^^ b.toNat := by rw [e]
  rwa [Nat.xor_assoc, Nat.xor_assoc, Nat.xor_self, Nat.xor_zero, Nat.xor_zero] at e2
theorem run_inj (l : List UInt8) {x y : Nat} (hx : x < 4294967296) (hy : y < 4294967296) (h : run x l = run y l) : x = y := by
  induction l generalizing x y with
  | nil => exact h
  | cons b l ih => exact step_inj b hx hy (ih (step_lt hx b) (step_lt hy b) h)
/-- Bytes as a number, the lowest first. -/
def word : List UInt8 → Nat
  | [] => 0
  | b :: l => 256 * word l + b.toNat
theorem word_lt (l : List UInt8) : word l < 256 ^ l.length := by
  induction l with
  | nil => simp [word]
  | cons b l ih =>
    have := b.toNat_lt
    simp only [word, List.length_cons, Nat.pow_succ]
    omega
theorem word_inj (a b : List UInt8) (h : a.length = b.length) (e : word a = word b) : a = b := by
  induction a generalizing b with
  | nil => cases b with
    | nil => rfl
    | cons _ _ => simp at h
  | cons c a ih => cases b with
    | nil => simp at h
    | cons d b =>
      have h1 := c.toNat_lt
      have h2 := d.toNat_lt
      simp only [word] at e
      have e1 : c.toNat = d.toNat := by omega
      have e2 : word a = word b := by omega
      rw [ih b (by simpa using h) e2, UInt8.toNat_inj.1 e1]
theorem run_word (l : List UInt8) (x : Nat) : run x l = sh (8 * l.length) (x ^^^ word l) := by
  induction l generalizing x with
  | nil => simp [run, word, sh]
  | cons b l ih =>
    show run (step x b) l = _
    rw [ih]
    have e : step x b ^^^ word l = sh 8 (x ^^^ word (b :: l)) := by
      unfold step
      have hp := sh_pow 8 (word l)
      rw [show (2 : Nat) ^ 8 = 256 by rfl] at hp
      conv => lhs; rw [← hp]
      rw [← sh_xor]
      simp only [word]
      rw [← xor_high _ _ b.toNat_lt]
      congr 1
      ac_rfl
    rw [e, ← sh_add]
    congr 1
theorem run_four (a b : List UInt8) (h : a.length = b.length) (h4 : a.length ≤ 4) {x : Nat} (hx : x < 4294967296) (e : run x a = run x b) : a = b := by
  rw [run_word, run_word, ← h] at e
  have hp : 256 ^ a.length ≤ 256 ^ 4 := Nat.pow_le_pow_right (by omega) h4
  have ha := word_lt a
  have hb := word_lt b
  rw [← h] at hb
  have e1 := sh_inj _ (xor_lt hx (by omega)) (xor_lt hx (by omega)) e
  have e2 : x ^^^ (x ^^^ word a) = x ^^^ (x ^^^ word b) := by rw [e1]
  rw [← Nat.xor_assoc, ← Nat.xor_assoc, Nat.xor_self, Nat.zero_xor, Nat.zero_xor] at e2
  exact word_inj a b h e2
/-- P1.4. -/
theorem add_four (p a b q : List UInt8) (h : a.length = b.length) (h4 : a.length ≤ 4) (s : Nat) (e : add s (p ++ a ++ q) = add s (p ++ b ++ q)) : a = b := by
  unfold add at e
  have hl := fun l => run_lt (inv_lt s) l
  have e1 : run (inv s) (p ++ a ++ q) = run (inv s) (p ++ b ++ q) := by
    have h1 := hl (p ++ a ++ q)
    have h2 := hl (p ++ b ++ q)
    unfold inv at e h1 h2 ⊢
    omega
  rw [run_append, run_append (inv s) (p ++ b), run_append, run_append (inv s) p b] at e1
  exact run_four a b h h4 (hl p) (run_inj q (run_lt (hl p) a) (run_lt (hl p) b) e1)
/-- What the byte at distance d behind the place is changed by, when k bytes are gone over. -/
def key (k : Nat) (d : Int) (x : Nat) : UInt8 := if 0 ≤ d ∧ d < k then UInt8.ofNat (x / 256 ^ d.toNat) else 0
def bendTo (k : Nat) (l : List UInt8) (place : Int) (x : Nat) : List UInt8 := l.mapIdx fun i c => c ^^^ key k ((i : Int) - place) x
def bend (l : List UInt8) (place : Int) (x : Nat) : List UInt8 := bendTo 4 l place x
theorem bendTo_length (k : Nat) (l : List UInt8) (place : Int) (x : Nat) : (bendTo k l place x).length = l.length := by simp [bendTo]
theorem bendTo_get (k : Nat) (l : List UInt8) (place : Int) (x : Nat) (i : Nat) : (bendTo k l place x)[i]? = l[i]?.map (· ^^^ key k ((i : Int) - place) x) := by simp [bendTo]
theorem bendTo_zero (l : List UInt8) (place : Int) (x : Nat) : bendTo 0 l place x = l := by
  apply List.ext_getElem?
  intro i
  rw [bendTo_get]
  have : key 0 ((i : Int) - place) x = 0 := by unfold key; rw [if_neg (by omega)]
  rw [this]
  simp
theorem bendTo_other (k : Nat) (l : List UInt8) (place : Int) (x : Nat) (h : ¬ (0 ≤ place + k ∧ place + k < l.length)) : bendTo (k + 1) l place x = bendTo k l place x := by
  apply List.ext_getElem?
  intro i
  rw [bendTo_get, bendTo_get]
  by_cases hi : i < l.length
  · have : key (k + 1) ((i : Int) - place) x = key k ((i : Int) - place) x := by
      unfold key
      by_cases hd : 0 ≤ (i : Int) - place ∧ (i : Int) - place < k
      · rw [if_pos hd, if_pos (by omega)]
      · rw [if_neg hd, if_neg (by omega)]
    rw [this]
  · rw [List.getElem?_eq_none (by omega)]; rfl
theorem bendTo_set (k : Nat) (l : List UInt8) (place : Int) (x : Nat) (j : Nat) (hj : (j : Int) = place + k) (h : j < l.length) :
    bendTo (k + 1) l place x = (bendTo k l place x).set j ((bendTo k l place x).getD j 0 ^^^ UInt8.ofNat (x / 256 ^ k)) := by
  apply List.ext_getElem?
  intro i
  rw [bendTo_get]
  by_cases hi : j = i
  · subst hi
    rw [List.getElem?_set_self (by rw [bendTo_length]; exact h), List.getD, bendTo_get, List.getElem?_eq_getElem h]
    have e1 : key (k + 1) ((j : Int) - place) x = UInt8.ofNat (x / 256 ^ k) := by
      unfold key
      rw [if_pos (by omega), show ((j : Int) - place).toNat = k by omega]
    have e2 : key k ((j : Int) - place) x = 0 := by unfold key; rw [if_neg (by omega)]
    rw [e1, e2]
    simp
  · rw [List.getElem?_set_ne hi, bendTo_get]
    have : key (k + 1) ((i : Int) - place) x = key k ((i : Int) - place) x := by
      unfold key
      by_cases hd : 0 ≤ (i : Int) - place ∧ (i : Int) - place < k
      · rw [if_pos hd, if_pos (by omega)]
      · rw [if_neg hd, if_neg (by omega)]
    rw [this]
theorem bend_length (l : List UInt8) (place : Int) (x : Nat) : (bend l place x).length = l.length := bendTo_length 4 l place x
theorem bend_get (l : List UInt8) (place : Int) (x : Nat) (i : Nat) : (bend l place x)[i]? = l[i]?.map (· ^^^ key 4 ((i : Int) - place) x) := bendTo_get 4 l place x i
theorem bend_far (l : List UInt8) (place : Int) (x : Nat) (i : Nat) (h : (i : Int) < place ∨ place ≤ (i : Int) - 4) : (bend l place x)[i]? = l[i]? := by
  rw [bend_get]
  have : key 4 ((i : Int) - place) x = 0 := by unfold key; rw [if_neg (by omega)]
  rw [this]
  simp
end Go.Proofs.YtkeiekljedhllaaGreat.Crc
namespace Go.Proofs.YtkeiekljedhllaaGreat
open Go.RowKit
theorem info38 : (Tryz.prog.info? 134).map (fun i => (i.zero, i.size)) = some (some (.agg (Array.replicate 256 (.int .u32 0))), 256) := by kernel_rfl
set_option maxHeartbeats 400000 in
theorem shiftBit_any (x : Nat) (w : World) (hx : x < 4294967296) :
    Calls Tryz.prog 103 #[.int .u32 x] w fun e w' => e = .returned (.int .u32 (Crc.sh1 x)) ∧ w = w' := by
  have e1 : bits .and .u32 (x : Int) 1 = ((x % 2 : Nat) : Int) := by
    have := u32_and_nat x 1 hx (by omega)
    rw [Nat.and_one_is_mod] at this
    exact this
  have e2 : bits .xor .u32 ((x : Int) / 2) 3988292384 = ((x / 2 ^^^ 3988292384 : Nat) : Int) := u32_xor_nat (x / 2) 3988292384 (by omega) (by omega)
  have E1 := Lib.hid e1
  have E2 := Lib.hid e2
  clear e1 e2
  go_enter Tryz.func103, Tryz.ntmps103
  go_wp2
  · have h : (bits BinOp.and IntKind.u32 (x : Int) 1 == 1) = true := by assumption
    rw [E1.out] at h
    go_ret
    refine ⟨ret_int ?_, rfl⟩
    rw [E2.out, Crc.sh1, if_pos (by simp at h; omega)]
  · have h : (bits BinOp.and IntKind.u32 (x : Int) 1 == 1) = false := by assumption
    rw [E1.out] at h
    go_ret
    refine ⟨ret_int ?_, rfl⟩
    rw [Crc.sh1, if_neg (by simp at h; omega)]
    omega
/-- The tableCRC as the code fills it: the first n places hold what each lowest byte contributes. -/
def tableCRC (n : Nat) : Array Value := ⟨(List.range 256).map fun j => .int .u32 ((if j < n then Crc.sh 8 j else 0 : Nat) : Int)⟩
theorem table_zero : tableCRC 0 = Array.replicate 256 (.int .u32 0) := by
  unfold tableCRC
  apply Array.ext'
  simp [List.map_const']
theorem table_size (n : Nat) : (tableCRC n).size = 256 := by simp [tableCRC]
theorem table_get (n j : Nat) (h : j < 256) : (tableCRC n)[j]? = some (.int .u32 ((if j < n then Crc.sh 8 j else 0 : Nat) : Int)) := by
  simp [tableCRC, h]
theorem table_set (n : Nat) : (tableCRC n).setIfInBounds n (.int .u32 (Crc.sh 8 n)) = tableCRC (n + 1) := by
  apply Array.ext_getElem?
  intro j
  by_cases h : j < 256
  · rw [table_get _ _ h, Array.getElem?_setIfInBounds, table_size]
    by_cases e : n = j
    · subst e
      rw [if_pos rfl, if_pos h, if_pos (by omega)]
    · rw [if_neg e, table_get _ _ h]
      by_cases h2 : j < n
      · rw [if_pos h2, if_pos (by omega)]
      · rw [if_neg h2, if_neg (by omega)]
  · rw [Array.getElem?_eq_none (by rw [Array.size_setIfInBounds, table_size]; omega), Array.getElem?_eq_none (by rw [table_size]; omega)]
theorem table_one (n : Nat) : (tableCRC n).all (·.oneCell') = true := by
  rw [Array.all_eq_true_iff_forall_mem]
  intro v hv
  simp only [tableCRC, List.mem_toArray, List.mem_map] at hv
  obtain ⟨j, _, rfl⟩ := hv
  rfl
theorem below_setRow {B : Nat} {a w : World} (h : Below B a w) {g : Nat} (hg : B ≤ g) (cs : Array Value) : Below B a (w.setRow g cs) :=
  ⟨h.os, h.tape, h.output, by simpa using h.size, fun i hi => (setRow_other w g i cs (by omega)).trans (h.block i hi)⟩
set_option maxHeartbeats 400000 in
set_option maxRecDepth 100000 in
theorem byteShares_any (w : World) :
    Calls Tryz.prog 93 #[] w fun e w' => e = .returned (.agg (tableCRC 256)) ∧ Below w.heap.size w w' := by
  have hv := (zero_of_info info38).1
  go_enter Tryz.func93, Tryz.ntmps93
  go_wp2
  rw [← table_zero]
  go_loopw [4] (fun s4 wx => ∃ i : Nat, i ≤ 256 ∧ s4 = .int .i64 i ∧ wx = (w.alloc (.cells (tableCRC 0) 134)).alloc (.cells (tableCRC i) 134)) (fun s4 _ => 256 - (intOf s4).toNat)
  case atStart => exact ⟨0, by omega, rfl, rfl⟩
  case round =>
    obtain ⟨i, hi, rfl, rfl⟩ := hrel
    by_cases hlt : i < 256
    · have hd : decide ((i : Int) < 256) = true := by simp; omega
      have hcell : (tableCRC i)[i]? = some (.int .u32 0) := by rw [table_get _ _ hlt, if_neg (by omega)]; rfl
      go_wp2
      go_loop [3, 9] (fun s3 s9 => ∃ k : Nat, k ≤ 8 ∧ s9 = .int .i64 k ∧ s3 = .int .u32 (Crc.sh k i)) (fun _ s9 => 8 - (intOf s9).toNat)
      case atStart => exact ⟨0, by omega, rfl, rfl⟩
      case round =>
        obtain ⟨k, hk, rfl, rfl⟩ := hrel
        by_cases hk8 : k < 8
        · go_wp2_with (go_at_call 103; refine (shiftBit_any _ _ (Crc.sh_lt k (by omega))).mono ?_; rintro e w' ⟨rfl, rfl⟩)
          go_round
          case rel => exact ⟨k + 1, by omega, by go_num, rfl⟩
          case measure => simp [intOf]; omega
        · obtain rfl : k = 8 := by omega
          go_wp2
          go_roundw
          case rel => exact ⟨i + 1, by omega, by go_num, by rw [table_set]⟩
          case measure => simp [intOf]; omega
    · obtain rfl : i = 256 := by omega
      have g0 : ((w.alloc (.cells (tableCRC 0) 134)).alloc (.cells (tableCRC 256) 134)).heap[w.heap.size]? = some (.cells (tableCRC 0) 134 (0, 0)) := heap_alloc2_old _ _ _
      have g1 : ((w.alloc (.cells (tableCRC 0) 134)).alloc (.cells (tableCRC 256) 134)).heap[w.heap.size + 1]? = some (.cells (tableCRC 256) 134 (0, 0)) := heap_alloc2_new _ _ _
      have hsz : (Tryz.prog.info? 134).map (·.size) = some (tableCRC 256).size := by rw [(zero_of_info info38).2, table_size]
      have G0 := Lib.hid g0
      have G1 := Lib.hid g1
      have HS := Lib.hid hsz
      clear g0 g1 hsz
      go_wp2_with (first
        | (refine wpList_load_row rfl 134 _ rfl (w.heap.size + 1) rfl 134 (tableCRC 256) (0, 0) _ G1.out Tryz.underlying134 rfl HS.out ?_)
        | (refine wpList_store_row rfl 134 _ _ rfl w.heap.size (tableCRC 256) rfl rfl 134 (tableCRC 0) G0.out HS.out (by rw [table_size, table_size]) (table_one _) ?_))
      have hb : Below w.heap.size w (((w.alloc (.cells (tableCRC 0) 134)).alloc (.cells (tableCRC 256) 134)).setRow w.heap.size (tableCRC 256)) :=
        below_setRow (((Below.refl _ _).alloc (Nat.le_refl _) _).alloc (by simp) _) (Nat.le_refl _) _
      have HB := Lib.hid hb
      clear hb
      exact bodyPost_ret (results_cell_row rfl _ _ w.heap.size 134 (tableCRC 256) (0, 0) _ rfl (setRow_heap _ _ _ _ _ _ G0.out) Tryz.underlying134 rfl HS.out) rfl ⟨rfl, HB.out⟩
end Go.Proofs.YtkeiekljedhllaaGreat
namespace Go.Proofs.YtkeiekljedhllaaGreat
open Go.RowKit
theorem xor_max (s : Nat) (hs : s < 4294967296) : bits .xor .u32 IntKind.u32.max (s : Int) = ((Crc.inv s : Nat) : Int) := by
  have h := u32_xor_nat 4294967295 s (by omega) hs
  rw [Nat.xor_comm, ← Crc.inv_xor hs] at h
  exact h
theorem byte_xor (x : Nat) (b : UInt8) : bits .xor .u8 ((x : Int) % 256) (b.toNat : Int) = ((x % 256 ^^^ b.toNat : Nat) : Int) := by
  have := u8_xor_nat (x % 256) b.toNat (by omega) b.toNat_lt
  exact this
theorem low_lt (x : Nat) (b : UInt8) : x % 256 ^^^ b.toNat < 256 := by
  have := b.toNat_lt
  have : x % 256 ^^^ b.toNat < 2 ^ 8 := Nat.xor_lt_two_pow (by omega) (by omega)
  omega
theorem step_xor (x : Nat) (b : UInt8) (hx : x < 4294967296) : bits .xor .u32 ((x : Int) / 256) ((Crc.sh 8 (x % 256 ^^^ b.toNat) : Nat) : Int) = ((Crc.step x b : Nat) : Int) := by
  have := u32_xor_nat (x / 256) (Crc.sh 8 (x % 256 ^^^ b.toNat)) (by omega) (Crc.sh_lt 8 (by have := low_lt x b; omega))
  rw [← Crc.step_table] at this
  exact this
theorem take_snocCRC (s : ByteArray) (k : Nat) (h : k < s.size) : s.data.toList.take (k + 1) = s.data.toList.take k ++ [s[k]] := by
  rw [List.take_succ_eq_append_getElem (by simpa using h)]; rfl
theorem run_take (x : Nat) (s : ByteArray) (k : Nat) (h : k < s.size) : Crc.run x (s.data.toList.take (k + 1)) = Crc.step (Crc.run x (s.data.toList.take k)) s[k] := by
  rw [take_snocCRC s k h, Crc.run_snoc]
theorem run_all (x : Nat) (s : ByteArray) : Crc.run x (s.data.toList.take s.size) = Crc.run x s.data.toList := by
  rw [List.take_of_length_le (by simp)]
def upTo (k : Nat) (l : List UInt8) : List UInt8 := if k = 0 then [] else l
set_option maxHeartbeats 1000000 in
set_option maxRecDepth 100000 in
theorem extend_any (s : Nat) (p : ByteArray) (b : Nat) (w : World) (hs : s < 4294967296) (hp : p.size ≤ 281474976710656) (hb : b < w.heap.size) (hcell : w.cell? ⟨b, 0, none⟩ = some (.string p)) :
    Calls Tryz.prog 70 #[.int .u32 s, .slice (some ⟨b, 0, none⟩) 1 1] w fun e w' => e = .returned (.int .u32 (Crc.add s p.data.toList)) ∧ Below w.heap.size w w' := by
  have hv := (zero_of_info info38).1
  go_enter Tryz.func70, Tryz.ntmps70
  go_wp2_with fail
  refine (byteShares_any _).mono ?_
  rintro e w1 ⟨rfl, hb1⟩
  have hc1 : w1.cell? ⟨b, 0, none⟩ = some (.string p) := (hb1.cell (p := ⟨b, 0, none⟩) hb).trans hcell
  have hbw : b < w1.heap.size := Nat.lt_of_lt_of_le hb hb1.size
  clear hcell
  rw [← table_zero] at hv
  have G0 := Lib.hid (heap_alloc_last w1 (.cells (tableCRC 0) 134))
  have HS : Hid ((Tryz.prog.info? 134).map (·.size) = some (tableCRC 256).size) := Lib.hid (by rw [(zero_of_info info38).2, table_size])
  have hsg : IntKind.u32.signed = false := rfl
  have hinv := xor_max s hs
  have hil := Crc.inv_lt s
  have HB : Hid (Below w.heap.size w (w1.alloc (.cells (tableCRC 256) 134))) := Lib.hid (hb1.alloc hb1.size _)
  clear hb1
  go_wp2_with (refine wpList_store_row rfl 134 _ _ rfl w1.heap.size (tableCRC 256) rfl rfl 134 (tableCRC 0) G0.out HS.out (by rw [table_size, table_size]) (table_one _) ?_; rw [World.setRow_alloc_new])
  clear hinv hv
  go_loop [6, 15] (fun s6 s15 => ∃ k : Nat, k ≤ 1 ∧ s15 = .int .i64 k ∧ s6 = .int .u32 (Crc.run (Crc.inv s) (upTo k p.data.toList))) (fun _ s15 => 1 - (intOf s15).toNat)
  case atStart => exact ⟨0, by omega, rfl, rfl⟩
  case round =>
    obtain ⟨k, hk, rfl, rfl⟩ := hrel
    by_cases hk1 : k < 1
    · obtain rfl : k = 0 := by omega
      have hd : decide (((0 : Nat) : Int) < 1) = true := rfl
      go_wp2
      go_loop [6, 21] (fun s6 s21 => ∃ j : Nat, j ≤ p.size ∧ s21 = .int .i64 j ∧ s6 = .int .u32 (Crc.run (Crc.inv s) (p.data.toList.take j))) (fun _ s21 => p.size - (intOf s21).toNat)
      case atStart => exact ⟨0, by omega, rfl, rfl⟩
      case round =>
        obtain ⟨j, hj, rfl, rfl⟩ := hrel
        have hrl := Crc.run_lt hil (p.data.toList.take j)
        by_cases hlt : j < p.size
        · have hd2 : decide ((j : Int) < (p.size : Int)) = true := by simp; omega
          have HR := Lib.hid (run_take (Crc.inv s) p j hlt)
          generalize Crc.run (Crc.inv s) (p.data.toList.take j) = x at *
          have e1 := byte_xor x p[j]
          have e2 := step_xor x p[j] hrl
          have hl := low_lt x p[j]
          have hcell := table_get 256 _ hl
          rw [if_pos hl] at hcell
          go_wp2
          go_round
          case rel => exact ⟨j + 1, by omega, by go_num, by rw [HR.out]⟩
          case measure => simp [intOf]; omega
        · obtain rfl : j = p.size := by omega
          go_wp2
          go_round
          case rel => exact ⟨1, by omega, by go_num, by rw [run_all]; rfl⟩
          case measure => simp [intOf]
    · obtain rfl : k = 1 := by omega
      have hrl := Crc.run_lt hil (upTo 1 p.data.toList)
      have hx2 := xor_max _ hrl
      go_wp2
      go_ret
      exact ⟨rfl, HB.out⟩
theorem below_alloc_of {w w1 : World} {o : Obj} (h : Below (w.alloc o).heap.size (w.alloc o) w1) : Below w.heap.size w w1 :=
  ((Below.refl _ _).alloc (Nat.le_refl _) o).trans (h.mono (by simp))
set_option maxHeartbeats 400000 in
theorem sum_any (p : ByteArray) (w : World) (hp : p.size ≤ 281474976710656) :
    Calls Tryz.prog 36 #[.string p] w fun e w' => e = .returned (.int .u32 (Crc.add 0 p.data.toList)) ∧ Below w.heap.size w w' := by
  go_enter Tryz.func36, Tryz.ntmps36
  go_wp2_with fail
  refine (extend_any 0 p w.heap.size _ (by omega) hp (by simp) (by rw [cell_of_row _ _ 0 _ _ _ (heap_alloc_last w _)]; rfl)).mono ?_
  rintro e w1 ⟨rfl, hb⟩
  have HB := Lib.hid (below_alloc_of hb)
  clear hb
  go_wp2_with fail
  go_ret
  exact ⟨rfl, HB.out⟩
end Go.Proofs.YtkeiekljedhllaaGreat
namespace Go.Proofs.YtkeiekljedhllaaGreat
open Go.RowKit
/-- The bytes that are bent, as they lie in the new block behind k rounds. -/
def Bent (w : World) (l : List UInt8) (a : Int) (x : Nat) (k : Nat) (wr : World) : Prop :=
  Below w.heap.size w wr ∧ ∀ i, i < l.length → wr.cell? ⟨w.heap.size, i, none⟩ = some (.int .u8 (((Crc.bendTo k l a x).getD i 0).toNat : Int)) ∧ wr.frozen? ⟨w.heap.size, i, none⟩ = false
theorem bent_start (w : World) (p : ByteArray) (a : Int) (x : Nat) : Bent w p.data.toList a x 0 (Lib.bytesWorld w 5 p) := by
  refine ⟨⟨rfl, rfl, rfl, by rw [Lib.bytesWorld_size]; omega, fun k hk => Lib.bytesWorld_at_old w 5 p k hk⟩, fun i hi => ⟨?_, ?_⟩⟩
  · rw [Crc.bendTo_zero]
    exact Lib.bytesWorld_cell w 5 p i (by simpa using hi)
  · have hsz : p.size ≤ (Lib.bytesCells w 5 p).size := by simp [Lib.bytesCells]
    have hi' : i < p.size := by simpa using hi
    simp [World.frozen?, Lib.bytesWorld_at_new]
    omega
theorem bent_other {w : World} {l : List UInt8} {a : Int} {x k : Nat} {wr : World} (h : Bent w l a x k wr) (hn : ¬ (0 ≤ a + k ∧ a + k < l.length)) : Bent w l a x (k + 1) wr := by
  unfold Bent
  rw [Crc.bendTo_other k l a x hn]
  exact h
theorem getD_set_self (l : List UInt8) (j : Nat) (v : UInt8) (h : j < l.length) : (l.set j v).getD j 0 = v := by simp [List.getD, h]
theorem getD_set_ne (l : List UInt8) {i j : Nat} (v : UInt8) (h : ¬ j = i) : (l.set j v).getD i 0 = l.getD i 0 := by simp [List.getD, List.getElem?_set_ne h]
theorem bent_set {w : World} {l : List UInt8} {a : Int} {x k : Nat} {wr : World} (h : Bent w l a x k wr) (j : Nat) (hj : (j : Int) = a + k) (hl : j < l.length) :
    Bent w l a x (k + 1) (wr.setCell ⟨w.heap.size, j, none⟩ (.int .u8 (((Crc.bendTo k l a x).getD j 0 ^^^ UInt8.ofNat (x / 256 ^ k)).toNat : Int))) := by
  unfold Bent
  rw [Crc.bendTo_set k l a x j hj hl]
  refine ⟨h.1.setCell (Nat.le_refl _) _, fun i hi => ⟨?_, by rw [World.frozen?_setCell]; exact (h.2 i hi).2⟩⟩
  by_cases e : j = i
  · subst e
    rw [World.cell?_setCell_same _ _ _ (h.2 j hi).1, getD_set_self _ _ _ (by rw [Crc.bendTo_length]; exact hl)]
  · rw [World.cell?_setCell_other _ ⟨w.heap.size, j, none⟩ ⟨w.heap.size, i, none⟩ _ (by simp), (h.2 i hi).1, getD_set_ne _ _ e]
theorem strOfNums_bytes (l : List UInt8) : strOfNums (l.map fun c => (c.toNat : Int)) = ⟨l.toArray⟩ := by
  unfold strOfNums
  congr 2
  rw [List.map_map]
  conv => rhs; rw [← List.map_id l]
  apply List.map_congr_left
  intro c _
  simp
theorem bent_back {w : World} {l : List UInt8} {a : Int} {x : Nat} {wr : World} (h : Bent w l a x 4 wr) (n c : Nat) (hn : n = l.length) :
    (convert 63 9 (.slice (some ⟨w.heap.size, 0, none⟩) n c)).run Tryz.prog wr = .ok (.string ⟨(Crc.bend l a x).toArray⟩) wr := by
  have := run_convert_bytes_arg (P := Tryz.prog) wr 63 5 Tryz.underlying63 Tryz.underlying5 w.heap.size 0 n c ((Crc.bend l a x).map fun c => (c.toNat : Int)) (by rw [List.length_map, Crc.bend_length, hn]) (fun i hi => by
    rw [Nat.zero_add, (h.2 i (by omega)).1]
    have hlt : i < (Crc.bendTo 4 l a x).length := by rw [Crc.bendTo_length]; omega
    simp [Crc.bend, List.getD, List.getElem?_eq_getElem hlt]) 9 Tryz.underlying9
  rw [strOfNums_bytes] at this
  exact this
theorem byte_bend (c : UInt8) (y : Nat) : bits .xor .u8 (c.toNat : Int) ((y : Int) % 256) = ((c ^^^ UInt8.ofNat y).toNat : Int) := by
  have := u8_xor_nat c.toNat (y % 256) c.toNat_lt (by omega)
  rw [UInt8.toNat_xor, UInt8.toNat_ofNat']
  exact this
set_option maxHeartbeats 400000 in
set_option maxRecDepth 100000 in
theorem bend_any (p : ByteArray) (a : Int) (x : Nat) (w : World) (hp : p.size ≤ 281474976710656) (ha : -9223372036854775808 ≤ a) (ha' : a ≤ 9223372036854775807) (hx : x < 4294967296) :
    Calls Tryz.prog 12 #[.string p, .int .i64 a, .int .u32 x] w fun e w' => e = .returned (.string ⟨(Crc.bend p.data.toList a x).toArray⟩) ∧ Below w.heap.size w w' := by
  have hconv := Lib.run_convert_string_bytes (P := Tryz.prog) w 9 63 5 p Tryz.underlying9 Tryz.underlying63 Tryz.underlying5
  go_enter Tryz.func12, Tryz.ntmps12
  go_wp2_with fail
  go_loopw [1, 2, 10] (fun s1 s2 s10 wr => ∃ k : Nat, k ≤ 4 ∧ s10 = .int .i64 k ∧ s1 = .int .i64 (wrap64 (a + k)) ∧ s2 = .int .u32 ((x / 256 ^ k : Nat) : Int) ∧ Bent w p.data.toList a x k wr) (fun _ _ s10 _ => 4 - (intOf s10).toNat)
  case atStart => exact ⟨0, by omega, rfl, by rw [IntWalk.wrap64_in _ ⟨by omega, by omega⟩]; go_num, by go_num, bent_start w p a x⟩
  case round =>
    obtain ⟨k, hk, rfl, rfl, rfl, hB⟩ := hrel
    by_cases hk4 : k < 4
    · have hd : decide ((k : Int) < 4) = true := by simp; omega
      have HD : Hid (x / 256 ^ k / 256 = x / 256 ^ (k + 1)) := Lib.hid (by rw [Nat.pow_succ, Nat.div_div_eq_div_mul])
      have hy : x / 256 ^ k < 4294967296 := Nat.lt_of_le_of_lt (Nat.div_le_self _ _) hx
      have hlen : p.data.toList.length = p.size := by simp
      by_cases hin : 0 ≤ a + k ∧ a + k < p.size
      · obtain ⟨j, hj⟩ := Int.eq_ofNat_of_zero_le hin.1
        have hjl : j < p.size := by omega
        have hw : wrap64 (a + k) = (j : Int) := by rw [IntWalk.wrap64_in _ ⟨by omega, by omega⟩]; exact hj
        have HN : Hid (wrap64 (a + (k + 1 : Nat)) = (j : Int) + 1) := Lib.hid (by rw [IntWalk.wrap64_in _ ⟨by omega, by omega⟩]; omega)
        have hc := (hB.2 j (by omega)).1
        have hf := (hB.2 j (by omega)).2
        have HB := Lib.hid (bent_set hB j hj.symm (by omega))
        have he := byte_bend ((Crc.bendTo k p.data.toList a x).getD j 0) (x / 256 ^ k)
        rw [hw]
        clear hw hB hj hin hlen hconv
        generalize x / 256 ^ k = y at *
        generalize (Crc.bendTo k p.data.toList a x).getD j 0 = c at *
        go_wp2
        go_roundw
        case rel => exact ⟨k + 1, by omega, by go_num, by rw [HN.out], by rw [← HD.out]; go_num, HB.out⟩
        case measure => simp [intOf]; omega
      · have HB := Lib.hid (bent_other hB (by rw [hlen]; exact hin))
        have hlo : -9223372036854775808 ≤ wrap64 (a + k) := by unfold wrap64; omega
        have hout : wrap64 (a + k) < 0 ∨ (p.size : Int) ≤ wrap64 (a + k) := by unfold wrap64; omega
        have HN : Hid (wrap64 (a + (k + 1 : Nat)) = wrap64 (wrap64 (a + k) + 1)) := Lib.hid (by unfold wrap64; omega)
        clear hB hin hlen hconv
        generalize x / 256 ^ k = y at *
        generalize wrap64 (a + k) = c at *
        rcases hout with h0 | h0
        · have HW : Hid (wrap64 (c + 1) = c + 1) := Lib.hid (IntWalk.wrap64_in _ ⟨by omega, by omega⟩)
          go_wp2
          go_roundw
          case rel => exact ⟨k + 1, by omega, by go_num, by rw [HN.out, HW.out], by rw [← HD.out]; go_num, HB.out⟩
          case measure => simp [intOf]; omega
        · have h1 : 0 ≤ c := by omega
          go_wp2
          go_roundw
          case rel => exact ⟨k + 1, by omega, by go_num, by rw [HN.out], by rw [← HD.out]; go_num, HB.out⟩
          case measure => simp [intOf]; omega
    · obtain rfl : k = 4 := by omega
      have hback := bent_back hB p.size (grownCap w p.size 0 5) (by simp)
      have HB := Lib.hid hB.1
      clear hB hconv
      go_wp2
      go_ret
      exact ⟨rfl, HB.out⟩
/-- The bytes of a text, bent. -/
def bendS (s : ByteArray) (a : Int) (x : Nat) : ByteArray := ⟨(Crc.bend s.data.toList a x).toArray⟩
theorem bendS_size (s : ByteArray) (a : Int) (x : Nat) : (bendS s a x).size = s.size := by
  show (Crc.bend s.data.toList a x).toArray.size = _
  simp [Crc.bend_length]
theorem bendS_data (s : ByteArray) (a : Int) (x : Nat) : (bendS s a x).data.toList = Crc.bend s.data.toList a x := rfl
theorem bendS_any (s : ByteArray) (a : Int) (x : Nat) (w : World) (hp : s.size ≤ 281474976710656) (ha : -9223372036854775808 ≤ a) (ha' : a ≤ 9223372036854775807) (hx : x < 4294967296) :
    Calls Tryz.prog 12 #[.string s, .int .i64 a, .int .u32 x] w fun e w' => e = .returned (.string (bendS s a x)) ∧ Below w.heap.size w w' := bend_any s a x w hp ha ha' hx
end Go.Proofs.YtkeiekljedhllaaGreat
namespace Go.Proofs.YtkeiekljedhllaaGreat.Code
/-- The bytes of a number, with k more bytes at most. -/
def encF : Nat → Nat → List UInt8
  | 0, n => [UInt8.ofNat n]
  | k + 1, n => if n < 128 then [UInt8.ofNat n] else UInt8.ofNat (n % 128 + 128) :: encF k (n / 128)
def enc (n : Nat) : List UInt8 := encF 5 n
def maxNumber : Nat := 1099511627776
theorem encF_lo (k n : Nat) (h : n < 128) : encF k n = [UInt8.ofNat n] := by
  cases k with
  | zero => rfl
  | succ k => rw [encF, if_pos h]
theorem encF_hi (k n : Nat) (h : ¬ n < 128) : encF (k + 1) n = UInt8.ofNat (n % 128 + 128) :: encF k (n / 128) := by rw [encF, if_neg h]
theorem encF_len (k n : Nat) : 1 ≤ (encF k n).length ∧ (encF k n).length ≤ k + 1 := by
  induction k generalizing n with
  | zero => simp [encF]
  | succ k ih =>
    rw [encF]
    split
    · simp
    · have := ih (n / 128); simp; omega
theorem enc_len (n : Nat) : 1 ≤ (enc n).length ∧ (enc n).length ≤ 6 := encF_len 5 n
/-- What the reader of a number tells: the number and what is left, or what was wrong. -/
def num : Nat → Nat → List UInt8 → Nat × Nat × List UInt8
  | _, _, [] => (0, 8, [])
  | k, a, b :: l =>
    let s := a + b.toNat % 128 * 128 ^ k
    if maxNumber < s ∨ k = 6 ∨ (0 < k ∧ b.toNat = 0) then (0, 4, [])
    else if b.toNat < 128 then (s, 0, l) else num (k + 1) s l
theorem num_nil (k a : Nat) : num k a [] = (0, 8, []) := rfl
theorem num_bad (k a : Nat) (b : UInt8) (l : List UInt8) (h : maxNumber < a + b.toNat % 128 * 128 ^ k ∨ k = 6 ∨ (0 < k ∧ b.toNat = 0)) : num k a (b :: l) = (0, 4, []) := by
  rw [num, if_pos h]
theorem num_last (k a : Nat) (b : UInt8) (l : List UInt8) (h : ¬ (maxNumber < a + b.toNat % 128 * 128 ^ k ∨ k = 6 ∨ (0 < k ∧ b.toNat = 0))) (hb : b.toNat < 128) : num k a (b :: l) = (a + b.toNat % 128 * 128 ^ k, 0, l) := by
  rw [num, if_neg h, if_pos hb]
theorem num_on (k a : Nat) (b : UInt8) (l : List UInt8) (h : ¬ (maxNumber < a + b.toNat % 128 * 128 ^ k ∨ k = 6 ∨ (0 < k ∧ b.toNat = 0))) (hb : ¬ b.toNat < 128) : num k a (b :: l) = num (k + 1) (a + b.toNat % 128 * 128 ^ k) l := by
  rw [num, if_neg h, if_neg hb]
/-- The value of what is read is in range. -/
theorem num_le (k a : Nat) (l : List UInt8) : (num k a l).1 ≤ maxNumber ∧ (num k a l).2.2.length ≤ l.length ∧ ((num k a l).2.1 ≠ 0 → (num k a l).1 = 0 ∧ (num k a l).2.2 = []) := by
  induction l generalizing k a with
  | nil => simp [num]
  | cons b l ih =>
    rw [num]
    split
    · simp
    · split
      · rename_i h _
        simp
        omega
      · have := ih (k + 1) (a + b.toNat % 128 * 128 ^ k)
        simp only [List.length_cons]
        exact ⟨this.1, by omega, this.2.2⟩
/-- What was written is read. -/
theorem num_encF (f : Nat) : ∀ (k a n : Nat) (t : List UInt8), f + k ≤ 5 → n < 128 ^ (f + 1) → a + n * 128 ^ k ≤ maxNumber → (0 < k → 0 < n) → num k a (encF f n ++ t) = (a + n * 128 ^ k, 0, t) := by
  induction f with
  | zero =>
    intro k a n t hf hn ha hk
    have hn' : n < 128 := by simpa using hn
    have e : (UInt8.ofNat n).toNat = n := by rw [UInt8.toNat_ofNat']; omega
    rw [encF, List.singleton_append, num_last] <;> rw [e] <;> try rw [Nat.mod_eq_of_lt hn']
    · intro h; omega
    · exact hn'
  | succ f ih =>
    intro k a n t hf hn ha hk
    by_cases h : n < 128
    · have e : (UInt8.ofNat n).toNat = n := by rw [UInt8.toNat_ofNat']; omega
      rw [encF_lo _ _ h, List.singleton_append, num_last] <;> rw [e] <;> try rw [Nat.mod_eq_of_lt h]
      · intro h; omega
      · exact h
    · have e : (UInt8.ofNat (n % 128 + 128)).toNat = n % 128 + 128 := by rw [UInt8.toNat_ofNat']; omega
      have e2 : (n % 128 + 128) % 128 = n % 128 := by omega
      have hd : n = n % 128 + 128 * (n / 128) := by omega
      have hp : n * 128 ^ k = n % 128 * 128 ^ k + n / 128 * 128 ^ (k + 1) := by
        rw [Nat.pow_succ, Nat.mul_comm (128 ^ k) 128, ← Nat.mul_assoc, ← Nat.add_mul]
        congr 1
        omega
      rw [encF_hi _ _ h, List.cons_append, num_on]
      · rw [e, e2, ih (k + 1) _ (n / 128) t (by omega) (by rw [Nat.pow_succ] at hn; omega) (by rw [Nat.add_assoc, ← hp]; exact ha) (by omega), Nat.add_assoc, ← hp]
      · rw [e, e2]; intro h; omega
      · rw [e]; omega
theorem num_enc (n : Nat) (t : List UInt8) (h : n ≤ maxNumber) : num 0 0 (enc n ++ t) = (n, 0, t) := by
  rw [enc, num_encF 5 0 0 n t (by omega) (by unfold maxNumber at h; omega) (by simpa using h) (by omega)]
  simp
end Go.Proofs.YtkeiekljedhllaaGreat.Code
