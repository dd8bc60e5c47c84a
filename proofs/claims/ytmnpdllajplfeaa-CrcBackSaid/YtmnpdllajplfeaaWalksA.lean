/-
  Walks over the code of package crc: what each of its functions returns, as plain functions on bytes and numbers. No statement is proved in this text; it holds for every input that its premises let by.
-/
import Derived.Test.YtmnpdllajplfeaaRows
import Derived.Test.YtmnpdllajplfeaaMath
import Derived.WalkKit
import Derived.WalkSpells
import Derived.WalkLawsBesides
import Derived.Deep.WholeRow
import Derived.Deep.LoopGhost
import Derived.Handy
import Derived.Lib.Hide
namespace Go.Proofs.Ytmnpdllajplfeaa
open Go.RowKit
theorem info38 : (Try.prog.info? 38).map (fun i => (i.zero, i.size)) = some (some (.agg (Array.replicate 256 (.int .u32 0))), 256) := by kernel_rfl
theorem ret_int {k : IntKind} {a b : Int} (h : a = b) : Ending.returned (.int k a) = .returned (.int k b) := by rw [h]
set_option maxHeartbeats 400000 in
theorem shiftBit_any (x : Nat) (w : World) (hx : x < 4294967296) :
    Calls Try.prog 20 #[.int .u32 x] w fun e w' => e = .returned (.int .u32 (Crc.sh1 x)) ∧ w = w' := by
  have e1 : bits .and .u32 (x : Int) 1 = ((x % 2 : Nat) : Int) := by
    have := u32_and_nat x 1 hx (by omega)
    rw [Nat.and_one_is_mod] at this
    exact this
  have e2 : bits .xor .u32 ((x : Int) / 2) 3988292384 = ((x / 2 ^^^ 3988292384 : Nat) : Int) := u32_xor_nat (x / 2) 3988292384 (by omega) (by omega)
  have E1 := Lib.hid e1
  have E2 := Lib.hid e2
  clear e1 e2
  go_enter Try.func20, Try.ntmps20
  go_wp2
  · have h : (bits BinOp.and IntKind.u32 (x : Int) 1 == 1) = true := by assumption
    rw [E1.out] at h
    go_ret
    refine ⟨ret_int ?_, rfl⟩
    rw [E2.out, Crc.sh1, if_pos (by simp at h; omega)]
  · have h : (bits BinOp.and IntKind.u32 (x : Int) 1 == 1) = false := by assumption
    rw [E1.out] at h
    go_ret
    refine ⟨ret_int ?_, rfl⟩
    rw [Crc.sh1, if_neg (by simp at h; omega)]
    omega

/-- The table as the code fills it: the first n places hold what each lowest byte contributes. -/
def table (n : Nat) : Array Value := ⟨(List.range 256).map fun j => .int .u32 ((if j < n then Crc.sh 8 j else 0 : Nat) : Int)⟩
theorem table_zero : table 0 = Array.replicate 256 (.int .u32 0) := by
  unfold table
  apply Array.ext'
  simp [List.map_const']
theorem table_size (n : Nat) : (table n).size = 256 := by simp [table]
theorem table_get (n j : Nat) (h : j < 256) : (table n)[j]? = some (.int .u32 ((if j < n then Crc.sh 8 j else 0 : Nat) : Int)) := by
  simp [table, h]
theorem table_set (n : Nat) : (table n).setIfInBounds n (.int .u32 (Crc.sh 8 n)) = table (n + 1) := by
  apply Array.ext_getElem?
  intro j
  by_cases h : j < 256
  · rw [table_get _ _ h, Array.getElem?_setIfInBounds, table_size]
    by_cases e : n = j
    · subst e
      rw [if_pos rfl, if_pos h, if_pos (by omega)]
    · rw [if_neg e, table_get _ _ h]
      by_cases h2 : j < n
      · rw [if_pos h2, if_pos (by omega)]
      · rw [if_neg h2, if_neg (by omega)]
  · rw [Array.getElem?_eq_none (by rw [Array.size_setIfInBounds, table_size]; omega), Array.getElem?_eq_none (by rw [table_size]; omega)]
theorem table_one (n : Nat) : (table n).all (·.oneCell') = true := by
  rw [Array.all_eq_true_iff_forall_mem]
  intro v hv
  simp only [table, List.mem_toArray, List.mem_map] at hv
  obtain ⟨j, _, rfl⟩ := hv
  rfl

theorem below_setRow {B : Nat} {a w : World} (h : Below B a w) {g : Nat} (hg : B ≤ g) (cs : Array Value) : Below B a (w.setRow g cs) :=
  ⟨h.os, h.tape, h.output, by simpa using h.size, fun i hi => (setRow_other w g i cs (by omega)).trans (h.block i hi)⟩
set_option maxHeartbeats 400000 in
set_option maxRecDepth 100000 in
theorem byteShares_any (w : World) :
    Calls Try.prog 19 #[] w fun e w' => e = .returned (.agg (table 256)) ∧ Below w.heap.size w w' := by
  have hv := (zero_of_info info38).1
  go_enter Try.func19, Try.ntmps19
  go_wp2
  rw [← table_zero]
  go_loopw [4] (fun s4 wx => ∃ i : Nat, i ≤ 256 ∧ s4 = .int .i64 i ∧ wx = (w.alloc (.cells (table 0) 38)).alloc (.cells (table i) 38)) (fun s4 _ => 256 - (intOf s4).toNat)
  case atStart => exact ⟨0, by omega, rfl, rfl⟩
  case round =>
    obtain ⟨i, hi, rfl, rfl⟩ := hrel
    by_cases hlt : i < 256
    · have hd : decide ((i : Int) < 256) = true := by simp; omega
      have hcell : (table i)[i]? = some (.int .u32 0) := by rw [table_get _ _ hlt, if_neg (by omega)]; rfl
      go_wp2
      go_loop [3, 9] (fun s3 s9 => ∃ k : Nat, k ≤ 8 ∧ s9 = .int .i64 k ∧ s3 = .int .u32 (Crc.sh k i)) (fun _ s9 => 8 - (intOf s9).toNat)
      case atStart => exact ⟨0, by omega, rfl, rfl⟩
      case round =>
        obtain ⟨k, hk, rfl, rfl⟩ := hrel
        by_cases hk8 : k < 8
        · go_wp2_with (go_at_call 20; refine (shiftBit_any _ _ (Crc.sh_lt k (by omega))).mono ?_; rintro e w' ⟨rfl, rfl⟩)
          go_round
          case rel => exact ⟨k + 1, by omega, by go_num, rfl⟩
          case measure => simp [intOf]; omega
        · obtain rfl : k = 8 := by omega
          go_wp2
          go_roundw
          case rel => exact ⟨i + 1, by omega, by go_num, by rw [table_set]⟩
          case measure => simp [intOf]; omega
    · obtain rfl : i = 256 := by omega
      have g0 : ((w.alloc (.cells (table 0) 38)).alloc (.cells (table 256) 38)).heap[w.heap.size]? = some (.cells (table 0) 38 (0, 0)) := heap_alloc2_old _ _ _
      have g1 : ((w.alloc (.cells (table 0) 38)).alloc (.cells (table 256) 38)).heap[w.heap.size + 1]? = some (.cells (table 256) 38 (0, 0)) := heap_alloc2_new _ _ _
      have hsz : (Try.prog.info? 38).map (·.size) = some (table 256).size := by rw [(zero_of_info info38).2, table_size]
      have G0 := Lib.hid g0
      have G1 := Lib.hid g1
      have HS := Lib.hid hsz
      clear g0 g1 hsz
      go_wp2_with (first
        | (refine wpList_load_row rfl 38 _ rfl (w.heap.size + 1) rfl 38 (table 256) (0, 0) _ G1.out Try.underlying38 rfl HS.out ?_)
        | (refine wpList_store_row rfl 38 _ _ rfl w.heap.size (table 256) rfl rfl 38 (table 0) G0.out HS.out (by rw [table_size, table_size]) (table_one _) ?_))
      have hb : Below w.heap.size w (((w.alloc (.cells (table 0) 38)).alloc (.cells (table 256) 38)).setRow w.heap.size (table 256)) :=
        below_setRow (((Below.refl _ _).alloc (Nat.le_refl _) _).alloc (by simp) _) (Nat.le_refl _) _
      have HB := Lib.hid hb
      clear hb
      exact bodyPost_ret (results_cell_row rfl _ _ w.heap.size 38 (table 256) (0, 0) _ rfl (setRow_heap _ _ _ _ _ _ G0.out) Try.underlying38 rfl HS.out) rfl ⟨rfl, HB.out⟩
end Go.Proofs.Ytmnpdllajplfeaa
