/-
  Walks over the code of package crc, continued: Bend, and the first question of each statement. No statement is proved in this text; it holds for every input that its premises let by.
-/
import Derived.Test.YtmnpdllajplfeaaWalksB
import Derived.Lib.ConvBytes
namespace Go.Proofs.Ytmnpdllajplfeaa
open Go.RowKit
/-- The bytes that are bent, as they lie in the new block behind k rounds. -/
def Bent (w : World) (l : List UInt8) (a : Int) (x : Nat) (k : Nat) (wr : World) : Prop :=
  Below w.heap.size w wr ∧ ∀ i, i < l.length → wr.cell? ⟨w.heap.size, i, none⟩ = some (.int .u8 (((Crc.bendTo k l a x).getD i 0).toNat : Int)) ∧ wr.frozen? ⟨w.heap.size, i, none⟩ = false
theorem bent_start (w : World) (p : ByteArray) (a : Int) (x : Nat) : Bent w p.data.toList a x 0 (Lib.bytesWorld w 5 p) := by
  refine ⟨⟨rfl, rfl, rfl, by rw [Lib.bytesWorld_size]; omega, fun k hk => Lib.bytesWorld_at_old w 5 p k hk⟩, fun i hi => ⟨?_, ?_⟩⟩
  · rw [Crc.bendTo_zero]
    exact Lib.bytesWorld_cell w 5 p i (by simpa using hi)
  · have hsz : p.size ≤ (Lib.bytesCells w 5 p).size := by simp [Lib.bytesCells]
    have hi' : i < p.size := by simpa using hi
    simp [World.frozen?, Lib.bytesWorld_at_new]
    omega
theorem bent_other {w : World} {l : List UInt8} {a : Int} {x k : Nat} {wr : World} (h : Bent w l a x k wr) (hn : ¬ (0 ≤ a + k ∧ a + k < l.length)) : Bent w l a x (k + 1) wr := by
  unfold Bent
  rw [Crc.bendTo_other k l a x hn]
  exact h
theorem getD_set_self (l : List UInt8) (j : Nat) (v : UInt8) (h : j < l.length) : (l.set j v).getD j 0 = v := by simp [List.getD, h]
theorem getD_set_ne (l : List UInt8) {i j : Nat} (v : UInt8) (h : ¬ j = i) : (l.set j v).getD i 0 = l.getD i 0 := by simp [List.getD, List.getElem?_set_ne h]
theorem bent_set {w : World} {l : List UInt8} {a : Int} {x k : Nat} {wr : World} (h : Bent w l a x k wr) (j : Nat) (hj : (j : Int) = a + k) (hl : j < l.length) :
    Bent w l a x (k + 1) (wr.setCell ⟨w.heap.size, j, none⟩ (.int .u8 (((Crc.bendTo k l a x).getD j 0 ^^^ UInt8.ofNat (x / 256 ^ k)).toNat : Int))) := by
  unfold Bent
  rw [Crc.bendTo_set k l a x j hj hl]
  refine ⟨h.1.setCell (Nat.le_refl _) _, fun i hi => ⟨?_, by rw [World.frozen?_setCell]; exact (h.2 i hi).2⟩⟩
  by_cases e : j = i
  · subst e
    rw [World.cell?_setCell_same _ _ _ (h.2 j hi).1, getD_set_self _ _ _ (by rw [Crc.bendTo_length]; exact hl)]
  · rw [World.cell?_setCell_other _ ⟨w.heap.size, j, none⟩ ⟨w.heap.size, i, none⟩ _ (by simp), (h.2 i hi).1, getD_set_ne _ _ e]
theorem strOfNums_bytes (l : List UInt8) : strOfNums (l.map fun c => (c.toNat : Int)) = ⟨l.toArray⟩ := by
  unfold strOfNums
  congr 2
  rw [List.map_map]
  conv => rhs; rw [← List.map_id l]
  apply List.map_congr_left
  intro c _
  simp
theorem bent_back {w : World} {l : List UInt8} {a : Int} {x : Nat} {wr : World} (h : Bent w l a x 4 wr) (n c : Nat) (hn : n = l.length) :
    (convert 29 9 (.slice (some ⟨w.heap.size, 0, none⟩) n c)).run Try.prog wr = .ok (.string ⟨(Crc.bend l a x).toArray⟩) wr := by
  have := run_convert_bytes_arg (P := Try.prog) wr 29 5 Try.underlying29 Try.underlying5 w.heap.size 0 n c ((Crc.bend l a x).map fun c => (c.toNat : Int)) (by rw [List.length_map, Crc.bend_length, hn]) (fun i hi => by
    rw [Nat.zero_add, (h.2 i (by omega)).1]
    have hlt : i < (Crc.bendTo 4 l a x).length := by rw [Crc.bendTo_length]; omega
    simp [Crc.bend, List.getD, List.getElem?_eq_getElem hlt]) 9 Try.underlying9
  rw [strOfNums_bytes] at this
  exact this
theorem byte_bend (c : UInt8) (y : Nat) : bits .xor .u8 (c.toNat : Int) ((y : Int) % 256) = ((c ^^^ UInt8.ofNat y).toNat : Int) := by
  have := u8_xor_nat c.toNat (y % 256) c.toNat_lt (by omega)
  rw [UInt8.toNat_xor, UInt8.toNat_ofNat']
  exact this
set_option maxHeartbeats 400000 in
set_option maxRecDepth 100000 in
theorem bend_any (p : ByteArray) (a : Int) (x : Nat) (w : World) (hp : p.size ≤ 281474976710656) (ha : -9223372036854775808 ≤ a) (ha' : a ≤ 9223372036854775807) (hx : x < 4294967296) :
    Calls Try.prog 13 #[.string p, .int .i64 a, .int .u32 x] w fun e w' => e = .returned (.string ⟨(Crc.bend p.data.toList a x).toArray⟩) ∧ Below w.heap.size w w' := by
  have hconv := Lib.run_convert_string_bytes (P := Try.prog) w 9 29 5 p Try.underlying9 Try.underlying29 Try.underlying5
  go_enter Try.func13, Try.ntmps13
  go_wp2_with fail
  go_loopw [1, 2, 10] (fun s1 s2 s10 wr => ∃ k : Nat, k ≤ 4 ∧ s10 = .int .i64 k ∧ s1 = .int .i64 (wrap64 (a + k)) ∧ s2 = .int .u32 ((x / 256 ^ k : Nat) : Int) ∧ Bent w p.data.toList a x k wr) (fun _ _ s10 _ => 4 - (intOf s10).toNat)
  case atStart => exact ⟨0, by omega, rfl, by rw [IntWalk.wrap64_in _ ⟨by omega, by omega⟩]; go_num, by go_num, bent_start w p a x⟩
  case round =>
    obtain ⟨k, hk, rfl, rfl, rfl, hB⟩ := hrel
    by_cases hk4 : k < 4
    · have hd : decide ((k : Int) < 4) = true := by simp; omega
      have HD : Hid (x / 256 ^ k / 256 = x / 256 ^ (k + 1)) := Lib.hid (by rw [Nat.pow_succ, Nat.div_div_eq_div_mul])
      have hy : x / 256 ^ k < 4294967296 := Nat.lt_of_le_of_lt (Nat.div_le_self _ _) hx
      have hlen : p.data.toList.length = p.size := by simp
      by_cases hin : 0 ≤ a + k ∧ a + k < p.size
      · obtain ⟨j, hj⟩ := Int.eq_ofNat_of_zero_le hin.1
        have hjl : j < p.size := by omega
        have hw : wrap64 (a + k) = (j : Int) := by rw [IntWalk.wrap64_in _ ⟨by omega, by omega⟩]; exact hj
        have HN : Hid (wrap64 (a + (k + 1 : Nat)) = (j : Int) + 1) := Lib.hid (by rw [IntWalk.wrap64_in _ ⟨by omega, by omega⟩]; omega)
        have hc := (hB.2 j (by omega)).1
        have hf := (hB.2 j (by omega)).2
        have HB := Lib.hid (bent_set hB j hj.symm (by omega))
        have he := byte_bend ((Crc.bendTo k p.data.toList a x).getD j 0) (x / 256 ^ k)
        rw [hw]
        clear hw hB hj hin hlen hconv
        generalize x / 256 ^ k = y at *
        generalize (Crc.bendTo k p.data.toList a x).getD j 0 = c at *
        go_wp2
        go_roundw
        case rel => exact ⟨k + 1, by omega, by go_num, by rw [HN.out], by rw [← HD.out]; go_num, HB.out⟩
        case measure => simp [intOf]; omega
      · have HB := Lib.hid (bent_other hB (by rw [hlen]; exact hin))
        have hlo : -9223372036854775808 ≤ wrap64 (a + k) := by unfold wrap64; omega
        have hout : wrap64 (a + k) < 0 ∨ (p.size : Int) ≤ wrap64 (a + k) := by unfold wrap64; omega
        have HN : Hid (wrap64 (a + (k + 1 : Nat)) = wrap64 (wrap64 (a + k) + 1)) := Lib.hid (by unfold wrap64; omega)
        clear hB hin hlen hconv
        generalize x / 256 ^ k = y at *
        generalize wrap64 (a + k) = c at *
        rcases hout with h0 | h0
        · have HW : Hid (wrap64 (c + 1) = c + 1) := Lib.hid (IntWalk.wrap64_in _ ⟨by omega, by omega⟩)
          go_wp2
          go_roundw
          case rel => exact ⟨k + 1, by omega, by go_num, by rw [HN.out, HW.out], by rw [← HD.out]; go_num, HB.out⟩
          case measure => simp [intOf]; omega
        · have h1 : 0 ≤ c := by omega
          go_wp2
          go_roundw
          case rel => exact ⟨k + 1, by omega, by go_num, by rw [HN.out], by rw [← HD.out]; go_num, HB.out⟩
          case measure => simp [intOf]; omega
    · obtain rfl : k = 4 := by omega
      have hback := bent_back hB p.size (grownCap w p.size 0 5) (by simp)
      have HB := Lib.hid hB.1
      clear hB hconv
      go_wp2
      go_ret
      exact ⟨rfl, HB.out⟩

theorem sum_empty (w : World) : Calls Try.prog 12 #[.string ⟨#[]⟩] w fun e w' => e = .returned (.int .u32 0) ∧ Below w.heap.size w w' :=
  (sum_any ⟨#[]⟩ w (by decide)).mono fun _ _ ⟨he, hb⟩ => ⟨he.trans (ret_int (by decide +kernel)), hb⟩
theorem sum_nine (w : World) : Calls Try.prog 12 #[.string ⟨#[49, 50, 51, 52, 53, 54, 55, 56, 57]⟩] w fun e w' => e = .returned (.int .u32 3421780262) ∧ Below w.heap.size w w' :=
  (sum_any ⟨#[49, 50, 51, 52, 53, 54, 55, 56, 57]⟩ w (by decide)).mono fun _ _ ⟨he, hb⟩ => ⟨he.trans (ret_int (by decide +kernel)), hb⟩
theorem bend_same (a : Int) (x : Nat) (w : World) (h : (a = 1 ∧ x = 0) ∨ (a = 4 ∧ x = 9)) : Calls Try.prog 13 #[.string ⟨#[97, 98, 99, 100]⟩, .int .i64 a, .int .u32 x] w fun e w' => e = .returned (.string ⟨#[97, 98, 99, 100]⟩) ∧ Below w.heap.size w w' :=
  (bend_any ⟨#[97, 98, 99, 100]⟩ a x w (by decide) (by omega) (by omega) (by omega)).mono fun _ _ ⟨he, hb⟩ => ⟨by
    rw [he]
    rcases h with ⟨rfl, rfl⟩ | ⟨rfl, rfl⟩
    · rw [show Crc.bend (⟨#[97, 98, 99, 100]⟩ : ByteArray).data.toList 1 0 = [97, 98, 99, 100] by decide +kernel]
    · rw [show Crc.bend (⟨#[97, 98, 99, 100]⟩ : ByteArray).data.toList 4 9 = [97, 98, 99, 100] by decide +kernel], hb⟩
theorem below_then {w w1 w2 : World} (h : Below w.heap.size w w1) (k : Below w1.heap.size w1 w2) : Below w.heap.size w w2 := h.trans (k.mono h.size)
set_option maxHeartbeats 400000 in
set_option maxRecDepth 100000 in
theorem works_any (w : World) : Calls Try.prog 10 #[] w fun e w' => e = .returned (.bool true) ∧ Below w.heap.size w w' := by
  go_enter Try.func10, Try.ntmps10
  go_wp2_with fail
  refine (sum_empty _).mono ?_
  rintro e w1 ⟨rfl, h1⟩
  have H1 := Lib.hid h1
  clear h1
  go_wp2_with fail
  refine (sum_nine _).mono ?_
  rintro e w2 ⟨rfl, h2⟩
  have H2 := Lib.hid (below_then H1.out h2)
  clear H1 h2
  go_wp2_with fail
  refine (bend_same 1 0 _ (by omega)).mono ?_
  rintro e w3 ⟨rfl, h3⟩
  have H3 := Lib.hid (below_then H2.out h3)
  clear H2 h3
  go_wp2_with fail
  refine (bend_same 4 9 _ (by omega)).mono ?_
  rintro e w4 ⟨rfl, h4⟩
  have H4 := Lib.hid (below_then H3.out h4)
  clear H3 h4
  go_wp2_with fail
  go_ret
  exact ⟨rfl, H4.out⟩
theorem in_wrap (n : Int) : -9223372036854775808 ≤ wrap64 n ∧ wrap64 n ≤ 9223372036854775807 := by unfold wrap64; omega
/-- Bend of bytes that stand as a list. -/
theorem bend_list (l : List UInt8) (a : Int) (x : Nat) (w : World) (hp : l.length ≤ 281474976710656) (ha : -9223372036854775808 ≤ a) (ha' : a ≤ 9223372036854775807) (hx : x < 4294967296) :
    Calls Try.prog 13 #[.string ⟨l.toArray⟩, .int .i64 a, .int .u32 x] w fun e w' => e = .returned (.string ⟨(Crc.bend l a x).toArray⟩) ∧ Below w.heap.size w w' :=
  bend_any ⟨l.toArray⟩ a x w (by simpa [ByteArray.size] using hp) ha ha' hx
/-- The bytes of a text, bent. -/
def bendS (s : ByteArray) (a : Int) (x : Nat) : ByteArray := ⟨(Crc.bend s.data.toList a x).toArray⟩
theorem bendS_size (s : ByteArray) (a : Int) (x : Nat) : (bendS s a x).size = s.size := by
  show (Crc.bend s.data.toList a x).toArray.size = _
  simp [Crc.bend_length]
theorem bendS_bendS (s : ByteArray) (a : Int) (x : Nat) : bendS (bendS s a x) a x = s := by
  unfold bendS
  rw [Crc.bend_bend]
theorem bendS_data (s : ByteArray) (a : Int) (x : Nat) : (bendS s a x).data.toList = Crc.bend s.data.toList a x := rfl
theorem bendS_any (s : ByteArray) (a : Int) (x : Nat) (w : World) (hp : s.size ≤ 281474976710656) (ha : -9223372036854775808 ≤ a) (ha' : a ≤ 9223372036854775807) (hx : x < 4294967296) :
    Calls Try.prog 13 #[.string s, .int .i64 a, .int .u32 x] w fun e w' => e = .returned (.string (bendS s a x)) ∧ Below w.heap.size w w' := bend_any s a x w hp ha ha' hx
theorem bendS_far (s : ByteArray) (a : Int) (x : Nat) (i : Nat) (hi : i < s.size) (hi' : i < (bendS s a x).size) (h : (i : Int) < a ∨ a ≤ (i : Int) - 4) : (bendS s a x)[i] = s[i] := by
  have := Crc.bend_far s.data.toList a x i h
  rw [← bendS_data] at this
  rw [List.getElem?_eq_getElem (by simpa using hi'), List.getElem?_eq_getElem (by simpa using hi)] at this
  exact Option.some.inj this
end Go.Proofs.Ytmnpdllajplfeaa
