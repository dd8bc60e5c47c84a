/-
  Walks over the document's own answers for layer 1: its sums. No statement is proved in this text; it holds for every input that its premises let by.
-/
import Derived.Test.YtmnpdllajplfeaaWalksC
import Derived.Test.YtmnpdllajplfeaaBase
namespace Go.Proofs.Ytmnpdllajplfeaa
open Go.RowKit
theorem poly_xor (y : Nat) (hy : y < 4294967296) : bits .xor .u32 (y : Int) 3988292384 = ((y ^^^ 3988292384 : Nat) : Int) := u32_xor_nat y 3988292384 hy (by omega)
theorem byte_in (x : Nat) (b : UInt8) (hx : x < 4294967296) : bits .xor .u32 (x : Int) (b.toNat : Int) = ((x ^^^ b.toNat : Nat) : Int) := u32_xor_nat x b.toNat hx (by have := b.toNat_lt; omega)
set_option maxHeartbeats 400000 in
set_option maxRecDepth 100000 in
theorem refAdd_any (s : Nat) (p : ByteArray) (w : World) (hs : s < 4294967296) (hp : p.size ≤ 281474976710656) :
    Calls Try.prog 15 #[.int .u32 s, .string p] w fun e w' => e = .returned (.int .u32 (Crc.add s p.data.toList)) ∧ w = w' := by
  have hsg : IntKind.u32.signed = false := rfl
  have hinv := xor_max s hs
  have hil := Crc.inv_lt s
  go_enter Try.func15, Try.ntmps15
  go_wp2
  clear hinv
  go_loop [5, 6] (fun s5 s6 => ∃ i : Nat, i ≤ p.size ∧ s6 = .int .i64 i ∧ s5 = .int .u32 (Crc.run (Crc.inv s) (p.data.toList.take i))) (fun _ s6 => p.size - (intOf s6).toNat)
  case atStart => exact ⟨0, by omega, rfl, rfl⟩
  case round =>
    obtain ⟨i, hi, rfl, rfl⟩ := hrel
    have hrl := Crc.run_lt hil (p.data.toList.take i)
    by_cases hlt : i < p.size
    · have hd : decide ((i : Int) < (p.size : Int)) = true := by simp; omega
      have HR := Lib.hid (run_take (Crc.inv s) p i hlt)
      generalize Crc.run (Crc.inv s) (p.data.toList.take i) = x at *
      have hbb : (p[i].toNat : Int) % 4294967296 = (p[i].toNat : Int) := by have := p[i].toNat_lt; omega
      have e1 := byte_in x p[i] hrl
      have hxb : x ^^^ p[i].toNat < 4294967296 := Crc.xor_lt hrl (by have := p[i].toNat_lt; omega)
      have HS : Hid (Crc.sh 8 (x ^^^ p[i].toNat) = Crc.step x p[i]) := Lib.hid rfl
      go_wp2
      generalize x ^^^ p[i].toNat = y at *
      clear e1 hbb
      go_loop [5, 7] (fun s5 s7 => ∃ k : Nat, k ≤ 8 ∧ s7 = .int .i64 k ∧ s5 = .int .u32 (Crc.sh k y)) (fun _ s7 => 8 - (intOf s7).toNat)
      case atStart => exact ⟨0, by omega, rfl, rfl⟩
      case round =>
        obtain ⟨k, hk, rfl, rfl⟩ := hrel
        by_cases hk8 : k < 8
        · have hd2 : decide ((k : Int) < 8) = true := by simp; omega
          have hz := Crc.sh_lt k hxb
          have HN : Hid (Crc.sh (k + 1) y = Crc.sh1 (Crc.sh k y)) := Lib.hid rfl
          generalize Crc.sh k y = z at *
          by_cases hodd : z % 2 = 1
          · have ht : ((z : Int) % 2 == 1) = true := by simp; omega
            have e2 := poly_xor (z / 2) (by omega)
            have HV : Hid (Crc.sh1 z = z / 2 ^^^ 3988292384) := Lib.hid (by unfold Crc.sh1; rw [if_pos hodd])
            clear hodd
            go_wp2
            go_round
            case rel => exact ⟨k + 1, by omega, by go_num, by rw [HN.out, HV.out]; exact congrArg _ e2⟩
            case measure => simp [intOf]; omega
          · have ht : ((z : Int) % 2 == 1) = false := by simp; omega
            have HV : Hid (Crc.sh1 z = z / 2) := Lib.hid (by unfold Crc.sh1; rw [if_neg hodd])
            clear hodd
            go_wp2
            go_round
            case rel => exact ⟨k + 1, by omega, by go_num, by rw [HN.out, HV.out]; go_num⟩
            case measure => simp [intOf]; omega
        · obtain rfl : k = 8 := by omega
          go_wp2
          go_round
          case rel => exact ⟨i + 1, by omega, by go_num, by rw [HR.out, ← HS.out]⟩
          case measure => simp [intOf]; omega
    · obtain rfl : i = p.size := by omega
      have hrx := run_all (Crc.inv s) p
      rw [hrx]
      rw [hrx] at hrl
      clear hrx
      have hx2 := xor_max _ hrl
      go_wp2
      go_ret
      exact ⟨rfl, rfl⟩
set_option maxHeartbeats 400000 in
theorem refSum_any (p : ByteArray) (w : World) (hp : p.size ≤ 281474976710656) :
    Calls Try.prog 14 #[.string p] w fun e w' => e = .returned (.int .u32 (Crc.add 0 p.data.toList)) ∧ w = w' := by
  go_enter Try.func14, Try.ntmps14
  go_wp2_with fail
  refine (refAdd_any 0 p _ (by omega) hp).mono ?_
  rintro e w1 ⟨rfl, rfl⟩
  go_wp2_with fail
  go_ret
  exact ⟨rfl, rfl⟩
end Go.Proofs.Ytmnpdllajplfeaa
