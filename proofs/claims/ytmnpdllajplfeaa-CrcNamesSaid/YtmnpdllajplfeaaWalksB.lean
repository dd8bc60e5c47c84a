/-
  Walks over the code of package crc, continued: the checksum of one piece, Sum and Add. No statement is proved in this text; it holds for every input that its premises let by.
-/
import Derived.Test.YtmnpdllajplfeaaWalksA
namespace Go.Proofs.Ytmnpdllajplfeaa
open Go.RowKit
theorem xor_max (s : Nat) (hs : s < 4294967296) : bits .xor .u32 IntKind.u32.max (s : Int) = ((Crc.inv s : Nat) : Int) := by
  have h := u32_xor_nat 4294967295 s (by omega) hs
  rw [Nat.xor_comm, ← Crc.inv_xor hs] at h
  exact h
theorem byte_xor (x : Nat) (b : UInt8) : bits .xor .u8 ((x : Int) % 256) (b.toNat : Int) = ((x % 256 ^^^ b.toNat : Nat) : Int) := by
  have := u8_xor_nat (x % 256) b.toNat (by omega) b.toNat_lt
  exact this
theorem low_lt (x : Nat) (b : UInt8) : x % 256 ^^^ b.toNat < 256 := by
  have := b.toNat_lt
  have : x % 256 ^^^ b.toNat < 2 ^ 8 := Nat.xor_lt_two_pow (by omega) (by omega)
  omega
theorem step_xor (x : Nat) (b : UInt8) (hx : x < 4294967296) : bits .xor .u32 ((x : Int) / 256) ((Crc.sh 8 (x % 256 ^^^ b.toNat) : Nat) : Int) = ((Crc.step x b : Nat) : Int) := by
  have := u32_xor_nat (x / 256) (Crc.sh 8 (x % 256 ^^^ b.toNat)) (by omega) (Crc.sh_lt 8 (by have := low_lt x b; omega))
  rw [← Crc.step_table] at this
  exact this
theorem take_snoc (s : ByteArray) (k : Nat) (h : k < s.size) : s.data.toList.take (k + 1) = s.data.toList.take k ++ [s[k]] := by
  rw [List.take_succ_eq_append_getElem (by simpa using h)]; rfl
theorem run_take (x : Nat) (s : ByteArray) (k : Nat) (h : k < s.size) : Crc.run x (s.data.toList.take (k + 1)) = Crc.step (Crc.run x (s.data.toList.take k)) s[k] := by
  rw [take_snoc s k h, Crc.run_snoc]
theorem run_all (x : Nat) (s : ByteArray) : Crc.run x (s.data.toList.take s.size) = Crc.run x s.data.toList := by
  rw [List.take_of_length_le (by simp)]
def upTo (k : Nat) (l : List UInt8) : List UInt8 := if k = 0 then [] else l
set_option maxHeartbeats 1000000 in
set_option maxRecDepth 100000 in
theorem extend_any (s : Nat) (p : ByteArray) (b : Nat) (w : World) (hs : s < 4294967296) (hp : p.size ≤ 281474976710656) (hb : b < w.heap.size) (hcell : w.cell? ⟨b, 0, none⟩ = some (.string p)) :
    Calls Try.prog 17 #[.int .u32 s, .slice (some ⟨b, 0, none⟩) 1 1] w fun e w' => e = .returned (.int .u32 (Crc.add s p.data.toList)) ∧ Below w.heap.size w w' := by
  have hv := (zero_of_info info38).1
  go_enter Try.func17, Try.ntmps17
  go_wp2_with fail
  refine (byteShares_any _).mono ?_
  rintro e w1 ⟨rfl, hb1⟩
  have hc1 : w1.cell? ⟨b, 0, none⟩ = some (.string p) := (hb1.cell (p := ⟨b, 0, none⟩) hb).trans hcell
  have hbw : b < w1.heap.size := Nat.lt_of_lt_of_le hb hb1.size
  clear hcell
  rw [← table_zero] at hv
  have G0 := Lib.hid (heap_alloc_last w1 (.cells (table 0) 38))
  have HS : Hid ((Try.prog.info? 38).map (·.size) = some (table 256).size) := Lib.hid (by rw [(zero_of_info info38).2, table_size])
  have hsg : IntKind.u32.signed = false := rfl
  have hinv := xor_max s hs
  have hil := Crc.inv_lt s
  have HB : Hid (Below w.heap.size w (w1.alloc (.cells (table 256) 38))) := Lib.hid (hb1.alloc hb1.size _)
  clear hb1
  go_wp2_with (refine wpList_store_row rfl 38 _ _ rfl w1.heap.size (table 256) rfl rfl 38 (table 0) G0.out HS.out (by rw [table_size, table_size]) (table_one _) ?_; rw [World.setRow_alloc_new])
  clear hinv hv
  go_loop [6, 15] (fun s6 s15 => ∃ k : Nat, k ≤ 1 ∧ s15 = .int .i64 k ∧ s6 = .int .u32 (Crc.run (Crc.inv s) (upTo k p.data.toList))) (fun _ s15 => 1 - (intOf s15).toNat)
  case atStart => exact ⟨0, by omega, rfl, rfl⟩
  case round =>
    obtain ⟨k, hk, rfl, rfl⟩ := hrel
    by_cases hk1 : k < 1
    · obtain rfl : k = 0 := by omega
      have hd : decide (((0 : Nat) : Int) < 1) = true := rfl
      go_wp2
      go_loop [6, 21] (fun s6 s21 => ∃ j : Nat, j ≤ p.size ∧ s21 = .int .i64 j ∧ s6 = .int .u32 (Crc.run (Crc.inv s) (p.data.toList.take j))) (fun _ s21 => p.size - (intOf s21).toNat)
      case atStart => exact ⟨0, by omega, rfl, rfl⟩
      case round =>
        obtain ⟨j, hj, rfl, rfl⟩ := hrel
        have hrl := Crc.run_lt hil (p.data.toList.take j)
        by_cases hlt : j < p.size
        · have hd2 : decide ((j : Int) < (p.size : Int)) = true := by simp; omega
          have HR := Lib.hid (run_take (Crc.inv s) p j hlt)
          generalize Crc.run (Crc.inv s) (p.data.toList.take j) = x at *
          have e1 := byte_xor x p[j]
          have e2 := step_xor x p[j] hrl
          have hl := low_lt x p[j]
          have hcell := table_get 256 _ hl
          rw [if_pos hl] at hcell
          go_wp2
          go_round
          case rel => exact ⟨j + 1, by omega, by go_num, by rw [HR.out]⟩
          case measure => simp [intOf]; omega
        · obtain rfl : j = p.size := by omega
          go_wp2
          go_round
          case rel => exact ⟨1, by omega, by go_num, by rw [run_all]; rfl⟩
          case measure => simp [intOf]
    · obtain rfl : k = 1 := by omega
      have hrl := Crc.run_lt hil (upTo 1 p.data.toList)
      have hx2 := xor_max _ hrl
      go_wp2
      go_ret
      exact ⟨rfl, HB.out⟩

theorem below_alloc_of {w w1 : World} {o : Obj} (h : Below (w.alloc o).heap.size (w.alloc o) w1) : Below w.heap.size w w1 :=
  ((Below.refl _ _).alloc (Nat.le_refl _) o).trans (h.mono (by simp))
set_option maxHeartbeats 400000 in
theorem add_any (s : Nat) (p : ByteArray) (w : World) (hs : s < 4294967296) (hp : p.size ≤ 281474976710656) :
    Calls Try.prog 11 #[.int .u32 s, .string p] w fun e w' => e = .returned (.int .u32 (Crc.add s p.data.toList)) ∧ Below w.heap.size w w' := by
  go_enter Try.func11, Try.ntmps11
  go_wp2_with fail
  refine (extend_any s p w.heap.size _ hs hp (by simp) (by rw [cell_of_row _ _ 0 _ _ _ (heap_alloc_last w _)]; rfl)).mono ?_
  rintro e w1 ⟨rfl, hb⟩
  have HB := Lib.hid (below_alloc_of hb)
  clear hb
  go_wp2_with fail
  go_ret
  exact ⟨rfl, HB.out⟩
set_option maxHeartbeats 400000 in
theorem sum_any (p : ByteArray) (w : World) (hp : p.size ≤ 281474976710656) :
    Calls Try.prog 12 #[.string p] w fun e w' => e = .returned (.int .u32 (Crc.add 0 p.data.toList)) ∧ Below w.heap.size w w' := by
  go_enter Try.func12, Try.ntmps12
  go_wp2_with fail
  refine (extend_any 0 p w.heap.size _ (by omega) hp (by simp) (by rw [cell_of_row _ _ 0 _ _ _ (heap_alloc_last w _)]; rfl)).mono ?_
  rintro e w1 ⟨rfl, hb⟩
  have HB := Lib.hid (below_alloc_of hb)
  clear hb
  go_wp2_with fail
  go_ret
  exact ⟨rfl, HB.out⟩
end Go.Proofs.Ytmnpdllajplfeaa
