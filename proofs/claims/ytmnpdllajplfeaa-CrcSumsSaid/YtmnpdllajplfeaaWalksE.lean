/-
  Walks over the document's own answers for layer 1: what is left of a text, bent. No statement is proved in this text; it holds for every input that its premises let by.
-/
import Derived.Test.YtmnpdllajplfeaaWalksD
import Derived.Deep.RegionWith
import Derived.Deep.RegionHeld3
namespace Go.Proofs.Ytmnpdllajplfeaa
open Go.RowKit
/-- What is left of a text from place i on, bent. -/
def restS (s : ByteArray) (a : Int) (x : Nat) (i : Nat) : ByteArray := ⟨((Crc.bend s.data.toList a x).drop i).toArray⟩
theorem concat_bytes (a b : ByteArray) : (a ++ b).data.toList = a.data.toList ++ b.data.toList := by simp
theorem restS_end (s : ByteArray) (a : Int) (x : Nat) (i : Nat) (h : s.size ≤ i) : restS s a x i = ⟨#[]⟩ := by
  unfold restS
  rw [List.drop_of_length_le (by rw [Crc.bend_length]; simpa using h)]
theorem restS_size (s : ByteArray) (a : Int) (x : Nat) (i : Nat) : (restS s a x i).size ≤ s.size := by
  show ((Crc.bend s.data.toList a x).drop i).toArray.size ≤ _
  simp [Crc.bend_length]
theorem restS_far (s : ByteArray) (a : Int) (x : Nat) (i : Nat) (h : a ≤ (i : Int) - 4) : restS s a x i = s.extract i s.size := by
  apply WideShapes.bytes_inj
  have e : (s.extract i s.size).data.toList = s.data.toList.drop i := by
    simp [List.extract_eq_take_drop]
    exact List.take_of_length_le (by simp)
  rw [e]
  show (Crc.bend s.data.toList a x).drop i = s.data.toList.drop i
  apply List.ext_getElem?
  intro j
  rw [List.getElem?_drop, List.getElem?_drop, Crc.bend_far _ _ _ _ (by omega)]
theorem restS_next (s : ByteArray) (a : Int) (x : Nat) (i : Nat) (hi : i < s.size) (h : a ≤ i) (h' : (i : Int) - 4 < a) :
    (⟨#[s[i] ^^^ UInt8.ofNat (x / 256 ^ ((i : Int) - a).toNat)]⟩ : ByteArray) ++ restS s a x (i + 1) = restS s a x i := by
  apply WideShapes.bytes_inj
  have hl : i < (Crc.bend s.data.toList a x).length := by rw [Crc.bend_length]; simpa using hi
  have e : (Crc.bend s.data.toList a x)[i]? = some (s[i] ^^^ UInt8.ofNat (x / 256 ^ ((i : Int) - a).toNat)) := by
    rw [Crc.bend_get, List.getElem?_eq_getElem (by simpa using hi)]
    unfold Crc.key
    rw [if_pos (by omega)]
    rfl
  rw [List.getElem?_eq_getElem hl] at e
  have e2 := Option.some.inj e
  rw [concat_bytes]
  show [s[i] ^^^ UInt8.ofNat (x / 256 ^ ((i : Int) - a).toNat)] ++ (Crc.bend s.data.toList a x).drop (i + 1) = (Crc.bend s.data.toList a x).drop i
  rw [List.drop_eq_getElem_cons hl, e2]
  rfl
theorem one_byte (c : UInt8) (b : Nat) (w : World) (h : w.cell? ⟨b, 0, none⟩ = some (.int .u8 (c.toNat : Int))) :
    (convert 29 9 (.slice (some ⟨b, 0, none⟩) 1 1)).run Try.prog w = .ok (.string ⟨#[c]⟩) w := by
  have := run_convert_bytes_arg (P := Try.prog) w 29 5 Try.underlying29 Try.underlying5 b 0 1 1 [(c.toNat : Int)] rfl (fun i hi => by
    obtain rfl : i = 0 := by omega
    exact h) 9 Try.underlying9
  have e := strOfNums_bytes [c]
  simp only [List.map_cons, List.map_nil] at e
  rw [e] at this
  exact this
theorem ret_str {a b : ByteArray} (h : a = b) : Ending.returned (.string a) = .returned (.string b) := by rw [h]
theorem below_a {w w1 : World} {o : Obj} (hb : Below (w.alloc o).drew.heap.size (w.alloc o).drew w1) : Below w.heap.size w w1 := by
  have h : Below w.heap.size w (w.alloc o).drew := ((Below.refl _ _).alloc (Nat.le_refl _) o).drew
  exact h.trans (hb.mono h.size)
theorem below_b {w w1 : World} {o : Obj} (hb : Below w.drew.heap.size w.drew w1) : Below w.heap.size w (w1.alloc o) := by
  have h : Below w.heap.size w w.drew := (Below.refl _ _).drew
  have h2 := h.trans (hb.mono h.size)
  exact h2.alloc h2.size o
theorem old_cells {W w1 : World} (hb : Below W.heap.size W w1) : ∀ b o, b < W.heap.size → w1.cell? ⟨b, o, none⟩ = W.cell? ⟨b, o, none⟩ := fun b o h => hb.cell (p := ⟨b, o, none⟩) h
set_option maxHeartbeats 400000 in
set_option maxRecDepth 100000 in
theorem rest_any (s : ByteArray) (a : Int) (x0 : Nat) (hs : s.size ≤ 281474976710656) (hx : x0 < 4294967296) (n : Nat) :
    ∀ (i x : Nat) (w : World), s.size - i ≤ n → a ≤ i → i ≤ s.size → x = x0 / 256 ^ ((i : Int) - a).toNat →
    Calls Try.prog 18 #[.string s, .int .i64 i, .int .i64 a, .int .u32 x] w fun e w' => e = .returned (.string (restS s a x0 i)) ∧ Below w.heap.size w w' := by
  induction n with
  | zero =>
    intro i x w hn hai his hxx
    have HE := Lib.hid (restS_end s a x0 i (by omega))
    have hge : (s.size : Int) ≤ (i : Int) := by omega
    clear hxx
    go_enter Try.func18, Try.ntmps18
    go_wp2_with fail
    go_ret
    exact ⟨ret_str HE.out.symm, Below.refl _ _⟩
  | succ n ih =>
    intro i x w hn hai his hxx
    by_cases hlt : i < s.size
    · by_cases hfar : a ≤ (i : Int) - 4
      · have HE := Lib.hid (restS_far s a x0 i hfar)
        clear hxx ih
        go_enter Try.func18, Try.ntmps18
        go_wp2_with fail
        go_ret
        exact ⟨ret_str HE.out.symm, Below.refl _ _⟩
      · have hnear : (i : Int) - 4 < a := by omega
        have HE := Lib.hid (restS_next s a x0 i hlt hai hnear)
        have hxl : x < 4294967296 := by rw [hxx]; exact Nat.lt_of_le_of_lt (Nat.div_le_self _ _) hx
        rw [← hxx] at HE
        have hx1 : x / 256 = x0 / 256 ^ (((i + 1 : Nat) : Int) - a).toNat := by
          rw [hxx, Nat.div_div_eq_div_mul, ← Nat.pow_succ]
          congr 2
          omega
        have HI := Lib.hid fun W => (ih (i + 1) (x / 256) W (by omega) (by omega) (by omega) hx1 : Calls Try.prog 18 #[.string s, .int .i64 ((i : Int) + 1), .int .i64 a, .int .u32 ((x : Int) / 256)] W fun e w' => e = .returned (.string (restS s a x0 (i + 1))) ∧ Below W.heap.size W w')
        clear ih hxx hx1 hfar
        obtain ⟨c, hc⟩ : ∃ c : UInt8, c = s[i] ^^^ UInt8.ofNat x := ⟨_, rfl⟩
        have he := byte_bend s[i] x
        rw [← hc] at he HE
        have hone := one_byte c
        clear hc
        have hrs := restS_size s a x0 (i + 1)
        have hone1 : (⟨#[c]⟩ : ByteArray).size = 1 := rfl
        have t1 : (x : Int).tmod 256 = (x : Int) % 256 := Int.tmod_eq_emod_of_nonneg (by omega)
        have t2 : IntKind.u8.wrap ((x : Int) % 256) = (x : Int) % 256 := by rw [IntKind.wrap_u8]; omega
        have t3 : IntKind.i64.wrap ((i : Int) + 1) = (i : Int) + 1 := IntWalk.i64_in _ ⟨by omega, by omega⟩
        have t4 : IntKind.u32.wrap ((x : Int) / 256) = (x : Int) / 256 := by rw [IntKind.wrap_u32]; omega
        go_enter Try.func18, Try.ntmps18
        go_wp2_with fail
        go_region_with ((go_at_call 18; refine (HI.out _).mono ?_; rintro e w' ⟨rfl, hb⟩; have hcc := old_cells hb))
        all_goals
          clear hcc he hone t1 t2 t3 t4
          go_wp2_with fail
          go_ret
          exact ⟨ret_str HE.out, by first | exact below_a hb | exact below_b hb⟩
    · have HE := Lib.hid (restS_end s a x0 i (by omega))
      have hge : (s.size : Int) ≤ (i : Int) := by omega
      clear hxx ih
      go_enter Try.func18, Try.ntmps18
      go_wp2_with fail
      go_ret
      exact ⟨ret_str HE.out.symm, Below.refl _ _⟩
end Go.Proofs.Ytmnpdllajplfeaa
