/-
  Walks over the document's own answers for layer 1: a text, bent. No statement is proved in this text; it holds for every input that its premises let by.
-/
import Derived.Test.YtmnpdllajplfeaaWalksE
namespace Go.Proofs.Ytmnpdllajplfeaa
open Go.RowKit
/-- The first i bytes of a text. -/
def headS (s : ByteArray) (i : Nat) : ByteArray := ⟨(s.data.toList.take i).toArray⟩
theorem headS_zero (s : ByteArray) : headS s 0 = ⟨#[]⟩ := by simp [headS]
theorem headS_size (s : ByteArray) (i : Nat) : (headS s i).size ≤ s.size := by
  show (s.data.toList.take i).toArray.size ≤ _
  simp
  omega
theorem headS_next (s : ByteArray) (i : Nat) : headS s i ++ s.extract i (i + 1) = headS s (i + 1) := by
  apply WideShapes.bytes_inj
  rw [concat_bytes]
  have e : (s.extract i (i + 1)).data.toList = (s.data.toList.drop i).take 1 := by simp [List.extract_eq_take_drop]
  rw [e]
  show s.data.toList.take i ++ (s.data.toList.drop i).take 1 = s.data.toList.take (i + 1)
  rw [List.take_add]
theorem headS_all (s : ByteArray) (a : Int) (x : Nat) (h : (Crc.bend s.data.toList a x).take s.size = s.data.toList.take s.size) : headS s s.size = bendS s a x := by
  apply WideShapes.bytes_inj
  show s.data.toList.take s.size = Crc.bend s.data.toList a x
  rw [← h, List.take_of_length_le (by rw [Crc.bend_length]; simp)]
theorem before_next (l : List UInt8) (a : Int) (x : Nat) (i : Nat) (h : (Crc.bend l a x).take i = l.take i) (hn : ¬ (a ≤ i ∧ (i : Int) - 4 < a)) : (Crc.bend l a x).take (i + 1) = l.take (i + 1) := by
  rw [List.take_add_one, List.take_add_one, h, Crc.bend_far _ _ _ _ (by omega)]
theorem bent_here (s : ByteArray) (a : Int) (x : Nat) (i : Nat) (c : UInt8) (h : (Crc.bend s.data.toList a x).take i = s.data.toList.take i) (hr : (⟨#[c]⟩ : ByteArray) ++ restS s a x (i + 1) = restS s a x i) :
    headS s i ++ ⟨#[c]⟩ ++ restS s a x (i + 1) = bendS s a x := by
  apply WideShapes.bytes_inj
  rw [concat_bytes, concat_bytes, List.append_assoc, ← concat_bytes, hr]
  show s.data.toList.take i ++ (Crc.bend s.data.toList a x).drop i = Crc.bend s.data.toList a x
  rw [← h, List.take_append_drop]
set_option maxHeartbeats 400000 in
set_option maxRecDepth 100000 in
theorem refBend_any (s : ByteArray) (a : Int) (x0 : Nat) (w : World) (hs : s.size ≤ 140737488351232) (ha : -9223372036854775808 ≤ a) (ha' : a ≤ 9223372036854775807) (hx : x0 < 4294967296) :
    Calls Try.prog 16 #[.string s, .int .i64 a, .int .u32 x0] w fun e w' => e = .returned (.string (bendS s a x0)) ∧ Below w.heap.size w w' := by
  go_enter Try.func16, Try.ntmps16
  go_wp2_with fail
  go_loop [2, 7, 8] (fun s2 s7 s8 => ∃ i : Nat, i ≤ s.size ∧ s8 = .int .i64 i ∧ s2 = .int .u32 x0 ∧ s7 = .string (headS s i) ∧ Hid ((Crc.bend s.data.toList a x0).take i = s.data.toList.take i)) (fun _ _ s8 => s.size - (intOf s8).toNat)
  case atStart => exact ⟨0, by omega, rfl, rfl, by rw [headS_zero], Lib.hid rfl⟩
  case round =>
    obtain ⟨i, hi, rfl, rfl, rfl, HT⟩ := hrel
    by_cases hlt : i < s.size
    · have hd : decide ((i : Int) < (s.size : Int)) = true := by simp; omega
      by_cases hhit : a ≤ i ∧ (i : Int) - 4 < a
      · obtain ⟨hai, hnear⟩ := hhit
        have d1 : decide (a ≤ (i : Int)) = true := by simp; omega
        have d2 : decide ((i : Int) - 4 < a) = true := by simp; omega
        have hsz := headS_size s i
        have HB := Lib.hid fun c => bent_here s a x0 i c HT.out
        have HR := Lib.hid (restS_next s a x0 i hlt hai hnear)
        clear HT
        generalize headS s i = O at *
        go_wp2_with fail
        go_loop [2, 10] (fun s2 s10 => ∃ m : Nat, a + m ≤ i ∧ s10 = .int .i64 (a + m) ∧ s2 = .int .u32 ((x0 / 256 ^ m : Nat) : Int)) (fun _ s10 => (i - intOf s10).toNat)
        case atStart => exact ⟨0, by omega, by go_num, by simp⟩
        case round =>
          obtain ⟨m, hm, rfl, rfl⟩ := hrel
          have HX : Hid (x0 / 256 ^ m / 256 = x0 / 256 ^ (m + 1)) := Lib.hid (by rw [Nat.pow_succ, Nat.div_div_eq_div_mul])
          have hxl : x0 / 256 ^ m < 4294967296 := Nat.lt_of_le_of_lt (Nat.div_le_self _ _) hx
          by_cases hmi : a + m < i
          · have d3 : decide (a + (m : Int) < (i : Int)) = true := by simp; omega
            generalize x0 / 256 ^ m = y at *
            go_wp2_with fail
            go_round
            case rel => exact ⟨m + 1, by omega, by go_num, by rw [← HX.out]; go_num⟩
            case measure => simp [intOf]; omega
          · have hmm : ((i : Int) - a).toNat = m := by omega
            have hx1 : x0 / 256 ^ m / 256 = x0 / 256 ^ (((i + 1 : Nat) : Int) - a).toNat := by
              rw [Nat.div_div_eq_div_mul, ← Nat.pow_succ]
              congr 2
              omega
            have HI := Lib.hid fun W => (rest_any s a x0 (by omega) hx s.size (i + 1) (x0 / 256 ^ m / 256) W (by omega) (by omega) (by omega) hx1 : Calls Try.prog 18 #[.string s, .int .i64 ((i : Int) + 1), .int .i64 a, .int .u32 (((x0 / 256 ^ m : Nat) : Int) / 256)] W fun e w' => e = .returned (.string (restS s a x0 (i + 1))) ∧ Below W.heap.size W w')
            rw [hmm] at HR
            clear hx1 HX hmm
            generalize x0 / 256 ^ m = x at *
            obtain ⟨c, hc⟩ : ∃ c : UInt8, c = s[i] ^^^ UInt8.ofNat x := ⟨_, rfl⟩
            have he := byte_bend s[i] x
            rw [← hc] at he HR
            have HE := Lib.hid (HB.out c HR.out)
            have hone := one_byte c
            clear hc HB HR
            have hrs := restS_size s a x0 (i + 1)
            have hone1 : (⟨#[c]⟩ : ByteArray).size = 1 := rfl
            have t1 : (x : Int).tmod 256 = (x : Int) % 256 := Int.tmod_eq_emod_of_nonneg (by omega)
            have t2 : IntKind.u8.wrap ((x : Int) % 256) = (x : Int) % 256 := by rw [IntKind.wrap_u8]; omega
            have t3 : IntKind.i64.wrap ((i : Int) + 1) = (i : Int) + 1 := IntWalk.i64_in _ ⟨by omega, by omega⟩
            have t4 : IntKind.u32.wrap ((x : Int) / 256) = (x : Int) / 256 := by rw [IntKind.wrap_u32]; omega
            go_wp2_with fail
            go_region_with ((go_at_call 18; refine (HI.out _).mono ?_; rintro e w' ⟨rfl, hb⟩; have hcc := old_cells hb))
            all_goals
              clear hcc he hone t1 t2 t3 t4
              go_wp2_with fail
              go_ret
              exact ⟨ret_str HE.out, by first | exact below_a hb | exact below_b hb⟩
      · have hsz := headS_size s i
        have HN := Lib.hid (headS_next s i)
        have HM := Lib.hid (before_next _ a x0 i HT.out hhit)
        generalize headS s i = O at *
        by_cases h1 : a ≤ i
        · have h2 : ¬ (i : Int) - 4 < a := fun h => hhit ⟨h1, h⟩
          have d1 : decide (a ≤ (i : Int)) = true := by simp; omega
          have d2 : decide ((i : Int) - 4 < a) = false := by simp; omega
          clear hhit
          go_wp2_with fail
          go_round
          case rel => exact ⟨i + 1, by omega, by go_num, rfl, by rw [HN.out], HM⟩
          case measure => simp [intOf]; omega
        · have d1 : decide (a ≤ (i : Int)) = false := by simp; omega
          clear hhit
          go_wp2_with fail
          go_round
          case rel => exact ⟨i + 1, by omega, by go_num, rfl, by rw [HN.out], HM⟩
          case measure => simp [intOf]; omega
    · obtain rfl : i = s.size := by omega
      have HE := Lib.hid (headS_all s a x0 HT.out)
      clear HT
      go_wp2_with fail
      go_ret
      exact ⟨ret_str HE.out, Below.refl _ _⟩
end Go.Proofs.Ytmnpdllajplfeaa
