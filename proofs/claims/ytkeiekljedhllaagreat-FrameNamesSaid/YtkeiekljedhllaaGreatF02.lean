/-
  Carried over and put together: contracts of this program's functions, and plain facts. No statement is proved in this text.
-/
import Derived.Test.YtkeiekljedhllaaGreatRows
import Derived.WalkKit
import Derived.WalkSpells
import Derived.WalkLawsBesides
import Derived.Deep.WholeRow
import Derived.Deep.LoopGhost
import Derived.Handy
import Derived.Lib.Hide
import Derived.Lib.ConvBytes
import Derived.OwnWalk
import Derived.Deep.AppendLies
import Derived.Outline
import Derived.IntWalk
import Derived.Deep.RegionWith
import Derived.Deep.RegionHeld3
import Derived.BigQuiet
import Derived.Deep.QuietTactic
import Derived.Test.YtkeiekljedhllaaGreatF00
set_option maxRecDepth 20000
namespace Go.Proofs.YtkeiekljedhllaaGreat.Crc
/-- One bit shifted out of a state. -/
def sh1 (x : Nat) : Nat := if x % 2 = 1 then x / 2 ^^^ 3988292384 else x / 2
def sh (k : Nat) (x : Nat) : Nat := match k with
  | 0 => x
  | k + 1 => sh1 (sh k x)
/-- One byte taken in. -/
def step (x : Nat) (b : UInt8) : Nat := sh 8 (x ^^^ b.toNat)
def run (x : Nat) (l : List UInt8) : Nat := l.foldl step x
def inv (x : Nat) : Nat := 4294967295 - x
/-- The checksum of bytes of checksum s, and l behind them. -/
def add (s : Nat) (l : List UInt8) : Nat := inv (run (inv s) l)
theorem sh1_lt {x : Nat} (h : x < 4294967296) : sh1 x < 4294967296 := by
  unfold sh1
  split
  · have : x / 2 ^^^ 3988292384 < 2 ^ 32 := Nat.xor_lt_two_pow (by omega) (by omega)
    omega
  · omega
theorem sh_lt (k : Nat) {x : Nat} (h : x < 4294967296) : sh k x < 4294967296 := by
  induction k with
  | zero => exact h
  | succ k ih => exact sh1_lt ih
theorem xor_lt {x y : Nat} (h : x < 4294967296) (h' : y < 4294967296) : x ^^^ y < 4294967296 := by
  have : x ^^^ y < 2 ^ 32 := Nat.xor_lt_two_pow (by omega) (by omega)
  omega
theorem step_lt {x : Nat} (h : x < 4294967296) (b : UInt8) : step x b < 4294967296 :=
  sh_lt 8 (xor_lt h (by have := b.toNat_lt; omega))
theorem run_lt {x : Nat} (h : x < 4294967296) (l : List UInt8) : run x l < 4294967296 := by
  induction l generalizing x with
  | nil => exact h
  | cons b l ih => exact ih (step_lt h b)
theorem inv_lt (x : Nat) : inv x < 4294967296 := by unfold inv; omega
theorem inv_inv {x : Nat} (h : x < 4294967296) : inv (inv x) = x := by unfold inv; omega
theorem add_lt (s : Nat) (l : List UInt8) : add s l < 4294967296 := inv_lt _
theorem run_append (x : Nat) (a b : List UInt8) : run x (a ++ b) = run (run x a) b := by unfold run; rw [List.foldl_append]
theorem run_snoc (x : Nat) (a : List UInt8) (b : UInt8) : run x (a ++ [b]) = step (run x a) b := by rw [run_append]; rfl
theorem add_add (s : Nat) (a b : List UInt8) : add (add s a) b = add s (a ++ b) := by
  unfold add
  rw [inv_inv (run_lt (inv_lt s) a), run_append]
theorem xor_mod_two (a b : Nat) : (a ^^^ b) % 2 = (a % 2 + b % 2) % 2 := by
  have h := Nat.testBit_xor a b 0
  simp only [Nat.testBit_zero] at h
  have ha := Nat.mod_two_eq_zero_or_one a
  have hb := Nat.mod_two_eq_zero_or_one b
  have hab := Nat.mod_two_eq_zero_or_one (a ^^^ b)
  rcases ha with ha | ha <;> rcases hb with hb | hb <;> rcases hab with hab | hab <;> simp [ha, hb, hab] at h ⊢
theorem xor_div_two (a b : Nat) : (a ^^^ b) / 2 = a / 2 ^^^ b / 2 := by
  apply Nat.eq_of_testBit_eq
  intro i
  simp [Nat.testBit_div_two, Nat.testBit_xor]
theorem sh1_xor (a b : Nat) : sh1 (a ^^^ b) = sh1 a ^^^ sh1 b := by
  have hm := xor_mod_two a b
  have hd := xor_div_two a b
  unfold sh1
  rw [hd, hm]
  rcases Nat.mod_two_eq_zero_or_one a with ha | ha <;> rcases Nat.mod_two_eq_zero_or_one b with hb | hb <;> simp [ha, hb]
  · rw [Nat.xor_assoc]
  · rw [Nat.xor_assoc, Nat.xor_assoc, Nat.xor_comm 3988292384]
  · have e : a / 2 ^^^ 3988292384 ^^^ (b / 2 ^^^ 3988292384) = a / 2 ^^^ b / 2 ^^^ (3988292384 ^^^ 3988292384) := by ac_rfl
    rw [e, Nat.xor_self, Nat.xor_zero]
theorem sh_xor (k a b : Nat) : sh k (a ^^^ b) = sh k a ^^^ sh k b := by
  induction k with
  | zero => rfl
  | succ k ih => show sh1 _ = sh1 _ ^^^ sh1 _; rw [ih, sh1_xor]
theorem sh1_two (y : Nat) : sh1 (2 * y) = y := by unfold sh1; rw [if_neg (by omega)]; omega
theorem sh_add (j k x : Nat) : sh (j + k) x = sh j (sh k x) := by
  induction j with
  | zero => rw [Nat.zero_add]; rfl
  | succ j ih => rw [Nat.succ_add]; show sh1 _ = sh1 _; rw [ih]
theorem sh_pow (k y : Nat) : sh k (2 ^ k * y) = y := by
  induction k generalizing y with
  | zero => simp [sh]
  | succ k ih =>
    rw [sh_add k 1]
    show sh k (sh1 (2 ^ (k + 1) * y)) = y
    rw [Nat.pow_succ, show 2 ^ k * 2 * y = 2 * (2 ^ k * y) by rw [Nat.mul_comm (2 ^ k) 2, Nat.mul_assoc], sh1_two, ih]
theorem xor_high (y b : Nat) (hb : b < 256) : 256 * y ^^^ b = 256 * y + b := by
  apply Nat.eq_of_testBit_eq
  intro i
  have h := Nat.two_pow_add_eq_or_of_lt (i := 8) (b := b) (by omega) y
  rw [show (256 : Nat) = 2 ^ 8 by rfl, h, Nat.testBit_xor, Nat.testBit_or, Nat.testBit_two_pow_mul]
  by_cases hi : i < 8
  · simp [show ¬ 8 ≤ i by omega]
  · have : b.testBit i = false := Nat.testBit_lt_two_pow (Nat.lt_of_lt_of_le (show b < 2 ^ 8 by omega) (Nat.pow_le_pow_right (by omega) (by omega)))
    simp [this]
theorem parted (x : Nat) : x = 256 * (x / 256) ^^^ x % 256 := by rw [xor_high _ _ (Nat.mod_lt _ (by omega))]; omega
/-- A whole byte by one look at the tableCRC of what each lowest byte contributes. -/
theorem step_table (x : Nat) (b : UInt8) : step x b = x / 256 ^^^ sh 8 (x % 256 ^^^ b.toNat) := by
  unfold step
  conv => lhs; rw [parted x]
  rw [Nat.xor_assoc, sh_xor]
  have := sh_pow 8 (x / 256)
  rw [show (2 : Nat) ^ 8 = 256 by rfl] at this
  rw [this]
theorem step_xor (x y : Nat) (a b : UInt8) : step (x ^^^ y) (a ^^^ b) = step x a ^^^ step y b := by
  unfold step
  rw [← sh_xor, UInt8.toNat_xor]
  congr 1
  ac_rfl
theorem inv_xor {x : Nat} (h : x < 4294967296) : inv x = x ^^^ 4294967295 := by
  unfold inv
  apply Nat.eq_of_testBit_eq
  intro i
  rw [show 4294967295 - x = 2 ^ 32 - (x + 1) by omega, Nat.testBit_two_pow_sub_succ (by omega), Nat.testBit_xor, show 4294967295 = 2 ^ 32 - 1 by rfl, Nat.testBit_two_pow_sub_one]
  by_cases hi : i < 32
  · simp [hi]
  · have : x.testBit i = false := Nat.testBit_lt_two_pow (Nat.lt_of_lt_of_le (show x < 2 ^ 32 by omega) (Nat.pow_le_pow_right (by omega) (by omega)))
    simp [hi, this]
/-- What the byte at distance d behind the place is changed by, when k bytes are gone over. -/
def key (k : Nat) (d : Int) (x : Nat) : UInt8 := if 0 ≤ d ∧ d < k then UInt8.ofNat (x / 256 ^ d.toNat) else 0
end Go.Proofs.YtkeiekljedhllaaGreat.Crc
namespace Go.Proofs.YtkeiekljedhllaaGreat
open Go.RowKit
theorem info38 : (Tryz.prog.info? 134).map (fun i => (i.zero, i.size)) = some (some (.agg (Array.replicate 256 (.int .u32 0))), 256) := by kernel_rfl
set_option maxHeartbeats 400000 in
theorem shiftBit_any (x : Nat) (w : World) (hx : x < 4294967296) :
    Calls Tryz.prog 103 #[.int .u32 x] w fun e w' => e = .returned (.int .u32 (Crc.sh1 x)) ∧ w = w' := by
  have e1 : bits .and .u32 (x : Int) 1 = ((x % 2 : Nat) : Int) := by
    have := u32_and_nat x 1 hx (by omega)
    rw [Nat.and_one_is_mod] at this
    exact this
  have e2 : bits .xor .u32 ((x : Int) / 2) 3988292384 = ((x / 2 ^^^ 3988292384 : Nat) : Int) := u32_xor_nat (x / 2) 3988292384 (by omega) (by omega)
  have E1 := Lib.hid e1
  have E2 := Lib.hid e2
  clear e1 e2
  go_enter Tryz.func103, Tryz.ntmps103
  go_wp2
  · have h : (bits BinOp.and IntKind.u32 (x : Int) 1 == 1) = true := by assumption
    rw [E1.out] at h
    go_ret
    refine ⟨ret_int ?_, rfl⟩
    rw [E2.out, Crc.sh1, if_pos (by simp at h; omega)]
  · have h : (bits BinOp.and IntKind.u32 (x : Int) 1 == 1) = false := by assumption
    rw [E1.out] at h
    go_ret
    refine ⟨ret_int ?_, rfl⟩
    rw [Crc.sh1, if_neg (by simp at h; omega)]
    omega
/-- The tableCRC as the code fills it: the first n places hold what each lowest byte contributes. -/
def tableCRC (n : Nat) : Array Value := ⟨(List.range 256).map fun j => .int .u32 ((if j < n then Crc.sh 8 j else 0 : Nat) : Int)⟩
theorem table_zero : tableCRC 0 = Array.replicate 256 (.int .u32 0) := by
  unfold tableCRC
  apply Array.ext'
  simp [List.map_const']
theorem table_size (n : Nat) : (tableCRC n).size = 256 := by simp [tableCRC]
theorem table_get (n j : Nat) (h : j < 256) : (tableCRC n)[j]? = some (.int .u32 ((if j < n then Crc.sh 8 j else 0 : Nat) : Int)) := by
  simp [tableCRC, h]
theorem table_set (n : Nat) : (tableCRC n).setIfInBounds n (.int .u32 (Crc.sh 8 n)) = tableCRC (n + 1) := by
  apply Array.ext_getElem?
  intro j
  by_cases h : j < 256
  · rw [table_get _ _ h, Array.getElem?_setIfInBounds, table_size]
    by_cases e : n = j
    · subst e
      rw [if_pos rfl, if_pos h, if_pos (by omega)]
    · rw [if_neg e, table_get _ _ h]
      by_cases h2 : j < n
      · rw [if_pos h2, if_pos (by omega)]
      · rw [if_neg h2, if_neg (by omega)]
  · rw [Array.getElem?_eq_none (by rw [Array.size_setIfInBounds, table_size]; omega), Array.getElem?_eq_none (by rw [table_size]; omega)]
theorem table_one (n : Nat) : (tableCRC n).all (·.oneCell') = true := by
  rw [Array.all_eq_true_iff_forall_mem]
  intro v hv
  simp only [tableCRC, List.mem_toArray, List.mem_map] at hv
  obtain ⟨j, _, rfl⟩ := hv
  rfl
theorem below_setRow {B : Nat} {a w : World} (h : Below B a w) {g : Nat} (hg : B ≤ g) (cs : Array Value) : Below B a (w.setRow g cs) :=
  ⟨h.os, h.tape, h.output, by simpa using h.size, fun i hi => (setRow_other w g i cs (by omega)).trans (h.block i hi)⟩
set_option maxHeartbeats 400000 in
set_option maxRecDepth 100000 in
theorem byteShares_any (w : World) :
    Calls Tryz.prog 93 #[] w fun e w' => e = .returned (.agg (tableCRC 256)) ∧ Below w.heap.size w w' := by
  have hv := (zero_of_info info38).1
  go_enter Tryz.func93, Tryz.ntmps93
  go_wp2
  rw [← table_zero]
  go_loopw [4] (fun s4 wx => ∃ i : Nat, i ≤ 256 ∧ s4 = .int .i64 i ∧ wx = (w.alloc (.cells (tableCRC 0) 134)).alloc (.cells (tableCRC i) 134)) (fun s4 _ => 256 - (intOf s4).toNat)
  case atStart => exact ⟨0, by omega, rfl, rfl⟩
  case round =>
    obtain ⟨i, hi, rfl, rfl⟩ := hrel
    by_cases hlt : i < 256
    · have hd : decide ((i : Int) < 256) = true := by simp; omega
      have hcell : (tableCRC i)[i]? = some (.int .u32 0) := by rw [table_get _ _ hlt, if_neg (by omega)]; rfl
      go_wp2
      go_loop [3, 9] (fun s3 s9 => ∃ k : Nat, k ≤ 8 ∧ s9 = .int .i64 k ∧ s3 = .int .u32 (Crc.sh k i)) (fun _ s9 => 8 - (intOf s9).toNat)
      case atStart => exact ⟨0, by omega, rfl, rfl⟩
      case round =>
        obtain ⟨k, hk, rfl, rfl⟩ := hrel
        by_cases hk8 : k < 8
        · go_wp2_with (go_at_call 103; refine (shiftBit_any _ _ (Crc.sh_lt k (by omega))).mono ?_; rintro e w' ⟨rfl, rfl⟩)
          go_round
          case rel => exact ⟨k + 1, by omega, by go_num, rfl⟩
          case measure => simp [intOf]; omega
        · obtain rfl : k = 8 := by omega
          go_wp2
          go_roundw
          case rel => exact ⟨i + 1, by omega, by go_num, by rw [table_set]⟩
          case measure => simp [intOf]; omega
    · obtain rfl : i = 256 := by omega
      have g0 : ((w.alloc (.cells (tableCRC 0) 134)).alloc (.cells (tableCRC 256) 134)).heap[w.heap.size]? = some (.cells (tableCRC 0) 134 (0, 0)) := heap_alloc2_old _ _ _
      have g1 : ((w.alloc (.cells (tableCRC 0) 134)).alloc (.cells (tableCRC 256) 134)).heap[w.heap.size + 1]? = some (.cells (tableCRC 256) 134 (0, 0)) := heap_alloc2_new _ _ _
      have hsz : (Tryz.prog.info? 134).map (·.size) = some (tableCRC 256).size := by rw [(zero_of_info info38).2, table_size]
      have G0 := Lib.hid g0
      have G1 := Lib.hid g1
      have HS := Lib.hid hsz
      clear g0 g1 hsz
      go_wp2_with (first
        | (refine wpList_load_row rfl 134 _ rfl (w.heap.size + 1) rfl 134 (tableCRC 256) (0, 0) _ G1.out Tryz.underlying134 rfl HS.out ?_)
        | (refine wpList_store_row rfl 134 _ _ rfl w.heap.size (tableCRC 256) rfl rfl 134 (tableCRC 0) G0.out HS.out (by rw [table_size, table_size]) (table_one _) ?_))
      have hb : Below w.heap.size w (((w.alloc (.cells (tableCRC 0) 134)).alloc (.cells (tableCRC 256) 134)).setRow w.heap.size (tableCRC 256)) :=
        below_setRow (((Below.refl _ _).alloc (Nat.le_refl _) _).alloc (by simp) _) (Nat.le_refl _) _
      have HB := Lib.hid hb
      clear hb
      exact bodyPost_ret (results_cell_row rfl _ _ w.heap.size 134 (tableCRC 256) (0, 0) _ rfl (setRow_heap _ _ _ _ _ _ G0.out) Tryz.underlying134 rfl HS.out) rfl ⟨rfl, HB.out⟩
end Go.Proofs.YtkeiekljedhllaaGreat
namespace Go.Proofs.YtkeiekljedhllaaGreat
open Go.RowKit
theorem xor_max (s : Nat) (hs : s < 4294967296) : bits .xor .u32 IntKind.u32.max (s : Int) = ((Crc.inv s : Nat) : Int) := by
  have h := u32_xor_nat 4294967295 s (by omega) hs
  rw [Nat.xor_comm, ← Crc.inv_xor hs] at h
  exact h
theorem byte_xor (x : Nat) (b : UInt8) : bits .xor .u8 ((x : Int) % 256) (b.toNat : Int) = ((x % 256 ^^^ b.toNat : Nat) : Int) := by
  have := u8_xor_nat (x % 256) b.toNat (by omega) b.toNat_lt
  exact this
theorem low_lt (x : Nat) (b : UInt8) : x % 256 ^^^ b.toNat < 256 := by
  have := b.toNat_lt
  have : x % 256 ^^^ b.toNat < 2 ^ 8 := Nat.xor_lt_two_pow (by omega) (by omega)
  omega
theorem step_xor (x : Nat) (b : UInt8) (hx : x < 4294967296) : bits .xor .u32 ((x : Int) / 256) ((Crc.sh 8 (x % 256 ^^^ b.toNat) : Nat) : Int) = ((Crc.step x b : Nat) : Int) := by
  have := u32_xor_nat (x / 256) (Crc.sh 8 (x % 256 ^^^ b.toNat)) (by omega) (Crc.sh_lt 8 (by have := low_lt x b; omega))
  rw [← Crc.step_table] at this
  exact this
theorem take_snocCRC (s : ByteArray) (k : Nat) (h : k < s.size) : s.data.toList.take (k + 1) = s.data.toList.take k ++ [s[k]] := by
  rw [List.take_succ_eq_append_getElem (by simpa using h)]; rfl
theorem run_take (x : Nat) (s : ByteArray) (k : Nat) (h : k < s.size) : Crc.run x (s.data.toList.take (k + 1)) = Crc.step (Crc.run x (s.data.toList.take k)) s[k] := by
  rw [take_snocCRC s k h, Crc.run_snoc]
theorem run_all (x : Nat) (s : ByteArray) : Crc.run x (s.data.toList.take s.size) = Crc.run x s.data.toList := by
  rw [List.take_of_length_le (by simp)]
def upTo (k : Nat) (l : List UInt8) : List UInt8 := if k = 0 then [] else l
set_option maxHeartbeats 1000000 in
set_option maxRecDepth 100000 in
theorem extend_any (s : Nat) (p : ByteArray) (b : Nat) (w : World) (hs : s < 4294967296) (hp : p.size ≤ 281474976710656) (hb : b < w.heap.size) (hcell : w.cell? ⟨b, 0, none⟩ = some (.string p)) :
    Calls Tryz.prog 70 #[.int .u32 s, .slice (some ⟨b, 0, none⟩) 1 1] w fun e w' => e = .returned (.int .u32 (Crc.add s p.data.toList)) ∧ Below w.heap.size w w' := by
  have hv := (zero_of_info info38).1
  go_enter Tryz.func70, Tryz.ntmps70
  go_wp2_with fail
  refine (byteShares_any _).mono ?_
  rintro e w1 ⟨rfl, hb1⟩
  have hc1 : w1.cell? ⟨b, 0, none⟩ = some (.string p) := (hb1.cell (p := ⟨b, 0, none⟩) hb).trans hcell
  have hbw : b < w1.heap.size := Nat.lt_of_lt_of_le hb hb1.size
  clear hcell
  rw [← table_zero] at hv
  have G0 := Lib.hid (heap_alloc_last w1 (.cells (tableCRC 0) 134))
  have HS : Hid ((Tryz.prog.info? 134).map (·.size) = some (tableCRC 256).size) := Lib.hid (by rw [(zero_of_info info38).2, table_size])
  have hsg : IntKind.u32.signed = false := rfl
  have hinv := xor_max s hs
  have hil := Crc.inv_lt s
  have HB : Hid (Below w.heap.size w (w1.alloc (.cells (tableCRC 256) 134))) := Lib.hid (hb1.alloc hb1.size _)
  clear hb1
  go_wp2_with (refine wpList_store_row rfl 134 _ _ rfl w1.heap.size (tableCRC 256) rfl rfl 134 (tableCRC 0) G0.out HS.out (by rw [table_size, table_size]) (table_one _) ?_; rw [World.setRow_alloc_new])
  clear hinv hv
  go_loop [6, 15] (fun s6 s15 => ∃ k : Nat, k ≤ 1 ∧ s15 = .int .i64 k ∧ s6 = .int .u32 (Crc.run (Crc.inv s) (upTo k p.data.toList))) (fun _ s15 => 1 - (intOf s15).toNat)
  case atStart => exact ⟨0, by omega, rfl, rfl⟩
  case round =>
    obtain ⟨k, hk, rfl, rfl⟩ := hrel
    by_cases hk1 : k < 1
    · obtain rfl : k = 0 := by omega
      have hd : decide (((0 : Nat) : Int) < 1) = true := rfl
      go_wp2
      go_loop [6, 21] (fun s6 s21 => ∃ j : Nat, j ≤ p.size ∧ s21 = .int .i64 j ∧ s6 = .int .u32 (Crc.run (Crc.inv s) (p.data.toList.take j))) (fun _ s21 => p.size - (intOf s21).toNat)
      case atStart => exact ⟨0, by omega, rfl, rfl⟩
      case round =>
        obtain ⟨j, hj, rfl, rfl⟩ := hrel
        have hrl := Crc.run_lt hil (p.data.toList.take j)
        by_cases hlt : j < p.size
        · have hd2 : decide ((j : Int) < (p.size : Int)) = true := by simp; omega
          have HR := Lib.hid (run_take (Crc.inv s) p j hlt)
          generalize Crc.run (Crc.inv s) (p.data.toList.take j) = x at *
          have e1 := byte_xor x p[j]
          have e2 := step_xor x p[j] hrl
          have hl := low_lt x p[j]
          have hcell := table_get 256 _ hl
          rw [if_pos hl] at hcell
          go_wp2
          go_round
          case rel => exact ⟨j + 1, by omega, by go_num, by rw [HR.out]⟩
          case measure => simp [intOf]; omega
        · obtain rfl : j = p.size := by omega
          go_wp2
          go_round
          case rel => exact ⟨1, by omega, by go_num, by rw [run_all]; rfl⟩
          case measure => simp [intOf]
    · obtain rfl : k = 1 := by omega
      have hrl := Crc.run_lt hil (upTo 1 p.data.toList)
      have hx2 := xor_max _ hrl
      go_wp2
      go_ret
      exact ⟨rfl, HB.out⟩
theorem below_alloc_of {w w1 : World} {o : Obj} (h : Below (w.alloc o).heap.size (w.alloc o) w1) : Below w.heap.size w w1 :=
  ((Below.refl _ _).alloc (Nat.le_refl _) o).trans (h.mono (by simp))
set_option maxHeartbeats 400000 in
theorem sum_any (p : ByteArray) (w : World) (hp : p.size ≤ 281474976710656) :
    Calls Tryz.prog 36 #[.string p] w fun e w' => e = .returned (.int .u32 (Crc.add 0 p.data.toList)) ∧ Below w.heap.size w w' := by
  go_enter Tryz.func36, Tryz.ntmps36
  go_wp2_with fail
  refine (extend_any 0 p w.heap.size _ (by omega) hp (by simp) (by rw [cell_of_row _ _ 0 _ _ _ (heap_alloc_last w _)]; rfl)).mono ?_
  rintro e w1 ⟨rfl, hb⟩
  have HB := Lib.hid (below_alloc_of hb)
  clear hb
  go_wp2_with fail
  go_ret
  exact ⟨rfl, HB.out⟩
end Go.Proofs.YtkeiekljedhllaaGreat
namespace Go.Proofs.YtkeiekljedhllaaGreat
open Go.RowKit
theorem strOfNums_bytes (l : List UInt8) : strOfNums (l.map fun c => (c.toNat : Int)) = ⟨l.toArray⟩ := by
  unfold strOfNums
  congr 2
  rw [List.map_map]
  conv => rhs; rw [← List.map_id l]
  apply List.map_congr_left
  intro c _
  simp
end Go.Proofs.YtkeiekljedhllaaGreat
namespace Go.Proofs.YtkeiekljedhllaaGreat.Code
/-- The bytes of a number, with k more bytes at most. -/
def encF : Nat → Nat → List UInt8
  | 0, n => [UInt8.ofNat n]
  | k + 1, n => if n < 128 then [UInt8.ofNat n] else UInt8.ofNat (n % 128 + 128) :: encF k (n / 128)
def enc (n : Nat) : List UInt8 := encF 5 n
def maxNumber : Nat := 1099511627776
theorem encF_lo (k n : Nat) (h : n < 128) : encF k n = [UInt8.ofNat n] := by
  cases k with
  | zero => rfl
  | succ k => rw [encF, if_pos h]
theorem encF_hi (k n : Nat) (h : ¬ n < 128) : encF (k + 1) n = UInt8.ofNat (n % 128 + 128) :: encF k (n / 128) := by rw [encF, if_neg h]
theorem encF_len (k n : Nat) : 1 ≤ (encF k n).length ∧ (encF k n).length ≤ k + 1 := by
  induction k generalizing n with
  | zero => simp [encF]
  | succ k ih =>
    rw [encF]
    split
    · simp
    · have := ih (n / 128); simp; omega
theorem enc_len (n : Nat) : 1 ≤ (enc n).length ∧ (enc n).length ≤ 6 := encF_len 5 n
/-- What the reader of a number tells: the number and what is left, or what was wrong. -/
def num : Nat → Nat → List UInt8 → Nat × Nat × List UInt8
  | _, _, [] => (0, 8, [])
  | k, a, b :: l =>
    let s := a + b.toNat % 128 * 128 ^ k
    if maxNumber < s ∨ k = 6 ∨ (0 < k ∧ b.toNat = 0) then (0, 4, [])
    else if b.toNat < 128 then (s, 0, l) else num (k + 1) s l
theorem num_nil (k a : Nat) : num k a [] = (0, 8, []) := rfl
theorem num_bad (k a : Nat) (b : UInt8) (l : List UInt8) (h : maxNumber < a + b.toNat % 128 * 128 ^ k ∨ k = 6 ∨ (0 < k ∧ b.toNat = 0)) : num k a (b :: l) = (0, 4, []) := by
  rw [num, if_pos h]
theorem num_last (k a : Nat) (b : UInt8) (l : List UInt8) (h : ¬ (maxNumber < a + b.toNat % 128 * 128 ^ k ∨ k = 6 ∨ (0 < k ∧ b.toNat = 0))) (hb : b.toNat < 128) : num k a (b :: l) = (a + b.toNat % 128 * 128 ^ k, 0, l) := by
  rw [num, if_neg h, if_pos hb]
theorem num_on (k a : Nat) (b : UInt8) (l : List UInt8) (h : ¬ (maxNumber < a + b.toNat % 128 * 128 ^ k ∨ k = 6 ∨ (0 < k ∧ b.toNat = 0))) (hb : ¬ b.toNat < 128) : num k a (b :: l) = num (k + 1) (a + b.toNat % 128 * 128 ^ k) l := by
  rw [num, if_neg h, if_neg hb]
/-- The value of what is read is in range. -/
theorem num_le (k a : Nat) (l : List UInt8) : (num k a l).1 ≤ maxNumber ∧ (num k a l).2.2.length ≤ l.length ∧ ((num k a l).2.1 ≠ 0 → (num k a l).1 = 0 ∧ (num k a l).2.2 = []) := by
  induction l generalizing k a with
  | nil => simp [num]
  | cons b l ih =>
    rw [num]
    split
    · simp
    · split
      · rename_i h _
        simp
        omega
      · have := ih (k + 1) (a + b.toNat % 128 * 128 ^ k)
        simp only [List.length_cons]
        exact ⟨this.1, by omega, this.2.2⟩
/-- What was written is read. -/
theorem num_encF (f : Nat) : ∀ (k a n : Nat) (t : List UInt8), f + k ≤ 5 → n < 128 ^ (f + 1) → a + n * 128 ^ k ≤ maxNumber → (0 < k → 0 < n) → num k a (encF f n ++ t) = (a + n * 128 ^ k, 0, t) := by
  induction f with
  | zero =>
    intro k a n t hf hn ha hk
    have hn' : n < 128 := by simpa using hn
    have e : (UInt8.ofNat n).toNat = n := by rw [UInt8.toNat_ofNat']; omega
    rw [encF, List.singleton_append, num_last] <;> rw [e] <;> try rw [Nat.mod_eq_of_lt hn']
    · intro h; omega
    · exact hn'
  | succ f ih =>
    intro k a n t hf hn ha hk
    by_cases h : n < 128
    · have e : (UInt8.ofNat n).toNat = n := by rw [UInt8.toNat_ofNat']; omega
      rw [encF_lo _ _ h, List.singleton_append, num_last] <;> rw [e] <;> try rw [Nat.mod_eq_of_lt h]
      · intro h; omega
      · exact h
    · have e : (UInt8.ofNat (n % 128 + 128)).toNat = n % 128 + 128 := by rw [UInt8.toNat_ofNat']; omega
      have e2 : (n % 128 + 128) % 128 = n % 128 := by omega
      have hd : n = n % 128 + 128 * (n / 128) := by omega
      have hp : n * 128 ^ k = n % 128 * 128 ^ k + n / 128 * 128 ^ (k + 1) := by
        rw [Nat.pow_succ, Nat.mul_comm (128 ^ k) 128, ← Nat.mul_assoc, ← Nat.add_mul]
        congr 1
        omega
      rw [encF_hi _ _ h, List.cons_append, num_on]
      · rw [e, e2, ih (k + 1) _ (n / 128) t (by omega) (by rw [Nat.pow_succ] at hn; omega) (by rw [Nat.add_assoc, ← hp]; exact ha) (by omega), Nat.add_assoc, ← hp]
      · rw [e, e2]; intro h; omega
      · rw [e]; omega
theorem num_enc (n : Nat) (t : List UInt8) (h : n ≤ maxNumber) : num 0 0 (enc n ++ t) = (n, 0, t) := by
  rw [enc, num_encF 5 0 0 n t (by omega) (by unfold maxNumber at h; omega) (by simpa using h) (by omega)]
  simp
end Go.Proofs.YtkeiekljedhllaaGreat.Code
namespace Go.Proofs.YtkeiekljedhllaaGreat
open Go.RowKit
theorem info5 : (Tryz.prog.info? 5).map (fun i => (i.zero, i.size, i.bytes)) = some (some (.int .u8 0), 1, 1) := by kernel_rfl
/-- Bytes as they lie in memory. -/
def bts (l : List UInt8) : List Value := l.map fun c => .int .u8 (c.toNat : Int)
theorem bts_append (a b : List UInt8) : bts (a ++ b) = bts a ++ bts b := by simp [bts]
/-- The slice v is the call's own, and holds the bytes l. -/
def OwnsC (w : World) (base : Nat) (v : Value) (l : List UInt8) : Prop := w.ownsRow base 5 1 v l.length (bts l)
theorem owns_nilCOD (w : World) (base : Nat) : OwnsC w base (.slice none 0 0) [] := World.ownsRow_nil w base 5 1
theorem owns_more {w : World} {base n : Nat} {v : Value} {l : List UInt8} {b : UInt8} {x : Int} (h : w.ownsRow base 5 1 v n (bts l ++ [.int .u8 x])) (hn : n = l.length + 1) (hx : x = (b.toNat : Int)) : OwnsC w base v (l ++ [b]) := by
  unfold OwnsC
  rw [bts_append, List.length_append]
  subst hn hx
  exact h
theorem OwnsC.below {w w' : World} {base : Nat} {v : Value} {l : List UInt8} (h : OwnsC w base v l) (hb : Below w.heap.size w w') : OwnsC w' base v l :=
  World.ownsRow.kept h ⟨hb.os, hb.tape, hb.output, hb.size, fun k hk _ => hb.block k hk⟩ (row := none) (by cases hv : v.ownBlock <;> simp)
/-- From world w, slice v, to world w', slice v': but for new blocks nothing was written but v's own block, and v' lies there, or in a new one. -/
structure Wrote (w : World) (v : Value) (w' : World) (v' : Value) : Prop where
  grown : w.grownBy w' v.ownBlock
  lies : v'.ownBlock = v.ownBlock ∨ ∃ g, v'.ownBlock = some g ∧ w.heap.size ≤ g
theorem Wrote.refl (w : World) (v : Value) : Wrote w v w v := ⟨⟨rfl, rfl, rfl, Nat.le_refl _, fun _ _ _ => rfl⟩, .inl rfl⟩
theorem Wrote.trans {w w1 w2 : World} {v v1 v2 : Value} (h : Wrote w v w1 v1) (k : Wrote w1 v1 w2 v2) : Wrote w v w2 v2 := by
  refine ⟨⟨k.grown.os.trans h.grown.os, k.grown.tape.trans h.grown.tape, k.grown.output.trans h.grown.output, Nat.le_trans h.grown.size k.grown.size, fun i hi hne => ?_⟩, ?_⟩
  · rw [k.grown.block i (Nat.lt_of_lt_of_le hi h.grown.size) ?_, h.grown.block i hi hne]
    rcases h.lies with e | ⟨g, e, hg⟩
    · rw [e]; exact hne
    · rw [e]; intro e2; injection e2; omega
  · rcases k.lies with e | ⟨g, e, hg⟩
    · rcases h.lies with e2 | ⟨g, e2, hg⟩
      · exact .inl (e.trans e2)
      · exact .inr ⟨g, e.trans e2, hg⟩
    · exact .inr ⟨g, e, Nat.le_trans h.grown.size hg⟩
theorem Wrote.below {w w' : World} {v v' : Value} {base n : Nat} {xs : List Value} (h : Wrote w v w' v') (ho : w.ownsRow base 5 1 v n xs) (hb : base ≤ w.heap.size) : Below base w w' :=
  (Below.refl base w).grown h.grown hb fun k hk => (World.ownsRow.lt ho k hk).1
/-- append of one byte that has just been put into a row of its own. -/
theorem wpList_push {ops : Array Oper} {rest : List Oper} {o : Oper} {a : Act} {Q : Exit → Act → World → Prop} (hgd : o.guard = none) (s x : Operand)
    (ho : o.op = .call { callee := .builtin .append, args := #[s, x], argTypes := #[63, 63] })
    (wr : World) (base : Nat) (v : Value) (l : List UInt8) (b : UInt8) (y : Int) (hs : a.eval s = v) (hx : a.eval x = .slice (some ⟨wr.heap.size, 0, none⟩) 1 1)
    (hown : OwnsC wr base v l) (hy : y = (b.toNat : Int)) (hl : l.length ≤ 100000) (hb : base ≤ wr.heap.size)
    (h : ∀ v' w', OwnsC w' base v' (l ++ [b]) → Wrote wr v w' v' → wpList Tryz.prog ops Q rest (a.put o.dst v') w') :
    wpList Tryz.prog ops Q (o :: rest) a (wr.alloc (.cells #[.int .u8 y] 5)) := by
  obtain ⟨i0, hi, hz0, hz1, hz2⟩ := info_parts info5
  have hown1 : (wr.alloc (.cells #[.int .u8 y] 5)).ownsRow base 5 1 v l.length (bts l) := World.ownsRow.alloc hown _
  refine wpList_append_lies _ hgd s x 63 ho base 5 i0 (.int .u8 0) 1 1 Tryz.underlying63 hi hz0 hz1 hz2 rfl (by decide) v l.length (bts l) hs hown1 ⟨wr.heap.size, 0, none⟩ 1 1 [.int .u8 y] hx rfl
    (fun j u hu => ?_) (by simp [Value.oneCell']) (by decide) (by unfold maxLen; omega) (by omega) (by simp; omega) _ rfl ?_
  · cases j with
    | zero =>
      simp at hu
      subst hu
      show (wr.alloc (.cells #[.int .u8 y] 5)).cell? ⟨wr.heap.size, 0, none⟩ = _
      rw [cell_of_row _ _ 0 _ _ _ (heap_alloc_new wr _)]
      rfl
    | succ j => simp at hu
  · intro g cap w' h1 h2 h3 _
    refine h _ w' (owns_more h1 rfl hy) ⟨⟨h2.os, h2.tape, h2.output, by have := h2.size; simp at this; omega, fun k hk hne => (h2.block k (by simp; omega) hne).trans (Below.heap_alloc wr _ k hk)⟩, ?_⟩
    rcases h3 with e | e
    · exact .inl e.symm
    · exact .inr ⟨g, rfl, by rw [e]; simp⟩
/-- What addNum leaves. -/
def Added (base : Nat) (v : Value) (l : List UInt8) (w : World) (e : Ending) (w' : World) : Prop := ∃ v', e = .returned v' ∧ OwnsC w' base v' l ∧ Wrote w v w' v'
theorem byte_lo (m : Nat) (h : m < 128) : (m : Int) = ((UInt8.ofNat m).toNat : Int) := by rw [UInt8.toNat_ofNat']; omega
theorem byte_hi (m : Nat) : (m : Int) % 128 + 128 = ((UInt8.ofNat (m % 128 + 128)).toNat : Int) := by rw [UInt8.toNat_ofNat']; omega
set_option maxHeartbeats 400000 in
theorem addNum_any (base : Nat) (v : Value) (l : List UInt8) (n : Nat) (w : World) (hown : OwnsC w base v l) (hb : base ≤ w.heap.size) (hl : l.length ≤ 2000) (hn : n ≤ 1099511627776) :
    Calls Tryz.prog 91 #[v, .int .i64 n] w (Added base v (l ++ Code.enc n) w) := by
  go_enter Tryz.func91, Tryz.ntmps91
  go_wp2
  go_loopw [0, 1] (fun s0 s1 wr => ∃ (f m : Nat) (xs : List UInt8), f ≤ 5 ∧ m < 128 ^ (f + 1) ∧ xs.length + f ≤ l.length + 5 ∧ s1 = .int .i64 m ∧ xs ++ Code.encF f m = l ++ Code.enc n ∧ OwnsC wr base s0 xs ∧ Wrote w v wr s0) (fun _ s1 _ => (intOf s1).toNat)
  case atStart => exact ⟨5, n, l, by omega, by omega, by omega, rfl, rfl, hown, Wrote.refl _ _⟩
  case round =>
    obtain ⟨f, m, xs, hf, hm, hx, rfl, he, ho, hw⟩ := hrel
    have HE := Lib.hid he
    have HO := Lib.hid ho
    have HW := Lib.hid hw
    have HM := Lib.hid hm
    have HB := Lib.hid (Nat.le_trans hb hw.grown.size)
    have hm2 : m ≤ 4398046511104 := by
      have : 128 ^ (f + 1) ≤ 128 ^ 6 := Nat.pow_le_pow_right (by omega) (by omega)
      omega
    clear he ho hw hm hown hb
    by_cases hlt : m < 128
    · have hd : decide ((128 : Int) ≤ (m : Int)) = false := by simp; omega
      go_wp2_with (at_builtin; refine wpList_push rfl (.tmp 16) (.tmp 19) rfl wr base u0 xs (UInt8.ofNat m) _ rfl rfl HO.out (byte_lo m hlt) (by omega) HB.out ?_; intro v' w' h1 h2)
      go_ret
      exact ⟨v', rfl, by rw [← HE.out, Code.encF_lo _ _ hlt]; exact h1, HW.out.trans h2⟩
    · have hd : decide ((128 : Int) ≤ (m : Int)) = true := by simp; omega
      have HF : Hid (∃ g, f = g + 1) := Lib.hid (by
        cases f with
        | zero => exact absurd HM.out (by omega)
        | succ g => exact ⟨g, rfl⟩)
      go_wp2_with (at_builtin; refine wpList_push rfl (.tmp 7) (.tmp 12) rfl wr base u0 xs (UInt8.ofNat (m % 128 + 128)) _ rfl rfl HO.out (byte_hi m) (by omega) HB.out ?_; intro v' w' h1 h2)
      obtain ⟨g, rfl⟩ := HF.out
      have h3 := HE.out
      rw [Code.encF_hi _ _ hlt] at h3
      go_roundw
      case rel => exact ⟨g, m / 128, xs ++ [UInt8.ofNat (m % 128 + 128)], by omega, by have := HM.out; rw [Nat.pow_succ] at this; omega, by simp; omega, by go_num, by rw [← h3]; simp, h1, HW.out.trans h2⟩
      case measure => simp [intOf]; omega
/-- The bytes of a number that came as an Int. -/
def encICOD (n : Int) : List UInt8 := Code.enc n.toNat
theorem encI_lenCOD (n : Int) : 1 ≤ (encICOD n).length ∧ (encICOD n).length ≤ 6 := Code.enc_len _
theorem addNum_int (base : Nat) (v : Value) (l : List UInt8) (n : Int) (w : World) (hown : OwnsC w base v l) (hb : base ≤ w.heap.size) (hl : l.length ≤ 2000) (h0 : 0 ≤ n) (hn : n ≤ 1099511627776) :
    Calls Tryz.prog 91 #[v, .int .i64 n] w (Added base v (l ++ encICOD n) w) := by
  obtain ⟨m, rfl⟩ := Int.eq_ofNat_of_zero_le h0
  unfold encICOD
  rw [Int.toNat_natCast]
  exact addNum_any base v l m w hown hb hl (by omega)
end Go.Proofs.YtkeiekljedhllaaGreat
namespace Go.Proofs.YtkeiekljedhllaaGreat
open Go.RowKit
/-- A text of bytes. -/
def bs (l : List UInt8) : ByteArray := ⟨l.toArray⟩
theorem bs_size (l : List UInt8) : (bs l).size = l.length := by simp [bs, ByteArray.size]
theorem owns_text {w : World} {base : Nat} {v : Value} {l : List UInt8} (h : OwnsC w base v l) (hl : 0 < l.length) : (convert 63 9 v).run Tryz.prog w = .ok (.string (bs l)) w := by
  obtain ⟨g, cap, hv, _⟩ := World.ownsRow.form h hl
  have hc := World.ownsRow.cells h (g := g) (by rw [hv]; rfl)
  subst hv
  have := run_convert_bytes_arg (P := Tryz.prog) w 63 5 Tryz.underlying63 Tryz.underlying5 g 0 l.length cap (l.map fun c => (c.toNat : Int)) (by simp) (fun i hi => by
    have h2 : (bts l)[i]? = some (.int .u8 ((l[i]).toNat : Int)) := by simp [bts, hi]
    have := hc i _ h2
    rw [Nat.zero_add]
    have e : (⟨g, 0, none⟩ : Addr).add i = ⟨g, i, none⟩ := by unfold Addr.add; split <;> simp_all
    rw [e] at this
    simpa [hi] using this) 9 Tryz.underlying9
  rw [strOfNums_bytes] at this
  exact this
theorem numB (n : Int) (w : World) (h : n < 0 ∨ 1099511627776 < n) (s : ByteArray) :
    Calls Tryz.prog 68 #[.string s, .int .i64 n] w fun e w' => e = .returned (.tuple #[.string s, .int .i64 1]) ∧ w = w' := by
  rcases h with h | h
  · go_enter Tryz.func68, Tryz.ntmps68
    go_wp2_with fail
    go_ret2
    exact ⟨rfl, rfl⟩
  · have h0 : ¬ n < 0 := by omega
    go_enter Tryz.func68, Tryz.ntmps68
    go_wp2_with fail
    go_ret2
    exact ⟨rfl, rfl⟩
theorem num_yes (n : Int) (w : World) (h0 : 0 ≤ n) (h : n ≤ 1099511627776) (s : ByteArray) (hs : s.size ≤ 140737488351232) :
    Calls Tryz.prog 68 #[.string s, .int .i64 n] w fun e w' => e = .returned (.tuple #[.string (s ++ bs (encICOD n)), .int .i64 0]) ∧ Below w.heap.size w w' := by
  go_enter Tryz.func68, Tryz.ntmps68
  go_wp2_with fail
  refine (addNum_int w.heap.size _ [] n _ (owns_nilCOD _ _) (by omega) (by simp) h0 h).mono ?_
  rintro e w1 ⟨v, rfl, h1, h2⟩
  rw [List.nil_append] at h1
  have hc := owns_text h1 (encI_lenCOD n).1
  have H2 := Lib.hid (h2.below (owns_nilCOD w w.heap.size) (Nat.le_refl _))
  clear h1 h2
  have hz : (bs (encICOD n)).size ≤ 6 := by rw [bs_size]; exact (encI_lenCOD n).2
  go_wp2_with fail
  go_ret2
  exact ⟨rfl, H2.out⟩
/-- May an ID be? -/
def vidCOD (a i : Int) : Bool := decide (1 ≤ a ∧ a ≤ 12 ∧ 1 ≤ i ∧ i ≤ 1048576)
theorem vid_yes {a i : Int} (h : vidCOD a i = true) : 1 ≤ a ∧ a ≤ 12 ∧ 1 ≤ i ∧ i ≤ 1048576 := by simpa [vidCOD] using h
theorem valid_any (a i : Int) (w : World) :
    Calls Tryz.prog 107 #[.agg #[.int .i64 a, .int .i64 i]] w fun e w' => e = .returned (.bool (vidCOD a i)) ∧ Below w.heap.size w w' := by
  by_cases h1 : 1 ≤ a
  · by_cases h2 : a ≤ 12
    · by_cases h3 : 1 ≤ i
      · by_cases h4 : i ≤ 1048576
        · have h5 := Lib.hid (show vidCOD a i = true by simp [vidCOD]; omega)
          go_enter Tryz.func107, Tryz.ntmps107
          go_wp2_with fail
          go_ret
          exact ⟨by rw [h5.out]; rfl, (Below.refl _ _).alloc (Nat.le_refl _) _⟩
        · have h5 := Lib.hid (show vidCOD a i = false by simp [vidCOD]; omega)
          go_enter Tryz.func107, Tryz.ntmps107
          go_wp2_with fail
          go_ret
          exact ⟨by rw [h5.out]; rfl, (Below.refl _ _).alloc (Nat.le_refl _) _⟩
      · have h5 := Lib.hid (show vidCOD a i = false by simp [vidCOD]; omega)
        go_enter Tryz.func107, Tryz.ntmps107
        go_wp2_with fail
        go_ret
        exact ⟨by rw [h5.out]; rfl, (Below.refl _ _).alloc (Nat.le_refl _) _⟩
    · have h5 := Lib.hid (show vidCOD a i = false by simp [vidCOD]; omega)
      go_enter Tryz.func107, Tryz.ntmps107
      go_wp2_with fail
      go_ret
      exact ⟨by rw [h5.out]; rfl, (Below.refl _ _).alloc (Nat.le_refl _) _⟩
  · have h5 := Lib.hid (show vidCOD a i = false by simp [vidCOD]; omega)
    go_enter Tryz.func107, Tryz.ntmps107
    go_wp2_with fail
    go_ret
    exact ⟨by rw [h5.out]; rfl, (Below.refl _ _).alloc (Nat.le_refl _) _⟩
theorem less_anyCOD (a i b j : Int) (w : World) :
    Calls Tryz.prog 109 #[.agg #[.int .i64 a, .int .i64 i], .agg #[.int .i64 b, .int .i64 j]] w fun e w' => e = .returned (.bool (lss a i b j)) ∧ Below w.heap.size w w' := by
  have hb := Lib.hid (fun o o' : Obj => (((Below.refl w.heap.size w).alloc (Nat.le_refl _) o).alloc (by simp) o'))
  by_cases h1 : a < b
  · have h5 := Lib.hid (show lss a i b j = true by simp [lss]; omega)
    go_enter Tryz.func109, Tryz.ntmps109
    go_wp2_with fail
    go_ret
    exact ⟨by rw [h5.out]; rfl, hb.out _ _⟩
  · by_cases h2 : a = b
    · subst h2
      by_cases h3 : i < j
      · have h5 := Lib.hid (show lss a i a j = true by simp [lss]; omega)
        go_enter Tryz.func109, Tryz.ntmps109
        go_wp2_with fail
        go_ret
        exact ⟨by rw [h5.out]; rfl, hb.out _ _⟩
      · have h5 := Lib.hid (show lss a i a j = false by simp [lss]; omega)
        go_enter Tryz.func109, Tryz.ntmps109
        go_wp2_with fail
        go_ret
        exact ⟨by rw [h5.out]; rfl, hb.out _ _⟩
    · have h5 := Lib.hid (show lss a i b j = false by simp [lss]; omega)
      have h3 : (a == b) = false := by simpa using h2
      go_enter Tryz.func109, Tryz.ntmps109
      go_wp2_with fail
      go_ret
      exact ⟨by rw [h5.out]; rfl, hb.out _ _⟩
end Go.Proofs.YtkeiekljedhllaaGreat
