/-
  Walks over the document's own answers for layer 2: what is written. No statement is proved in this text; it holds for every input that its premises let by.
-/
import Derived.Test.YtmmpnnpkfghhcaaApart
namespace Go.Proofs.Ytmmpnnpkfghhcaa
open Go.RowKit
theorem bs_join (l m : List UInt8) : bs l ++ bs m = bs (l ++ m) := WideShapes.bytes_inj (by simp [bs])
theorem one_text (w : World) (b : UInt8) (y : Int) (hy : y = (b.toNat : Int)) : (convert 51 9 (.slice (some ⟨w.heap.size, 0, none⟩) 1 1)).run Try.prog (w.alloc (.cells #[.int .u8 y] 5)) = .ok (.string (bs [b])) (w.alloc (.cells #[.int .u8 y] 5)) := by
  subst hy
  have := run_convert_bytes_arg (P := Try.prog) (w.alloc (.cells #[.int .u8 (b.toNat : Int)] 5)) 51 5 Try.underlying51 Try.underlying5 w.heap.size 0 1 1 [(b.toNat : Int)] rfl (fun i hi => by
    obtain rfl : i = 0 := by omega
    rw [cell_of_row _ _ 0 _ _ _ (heap_alloc_new w _)]
    rfl) 9 Try.underlying9
  have e := strOfNums_bytes [b]
  simp only [List.map_cons, List.map_nil] at e
  rw [e] at this
  exact this
theorem text_cons (t : ByteArray) (b : UInt8) (l : List UInt8) : t ++ bs (b :: l) = t ++ bs [b] ++ bs l := WideShapes.bytes_inj (by simp [bs])
theorem text_size (t : ByteArray) (l : List UInt8) : (t ++ bs l).size = t.size + l.length := by
  rw [ByteArray.size_append, bs_size]
theorem refNumB (n : Int) (w : World) (h : n < 0 ∨ 1099511627776 < n) (s : ByteArray) :
    Calls Try.prog 10 #[.string s, .int .i64 n] w fun e w' => e = .returned (.tuple #[.string s, .int .i64 1]) ∧ w = w' := by
  rcases h with h | h
  · go_enter Try.func10, Try.ntmps10
    go_wp2_with fail
    go_ret2
    exact ⟨rfl, rfl⟩
  · have h0 : ¬ n < 0 := by omega
    go_enter Try.func10, Try.ntmps10
    go_wp2_with fail
    go_ret2
    exact ⟨rfl, rfl⟩
set_option maxHeartbeats 400000 in
theorem refNum_nat (n : Nat) (w : World) (h : n ≤ 1099511627776) (s : ByteArray) (hs : s.size ≤ 1000000) :
    Calls Try.prog 10 #[.string s, .int .i64 n] w fun e w' => e = .returned (.tuple #[.string (s ++ bs (Code.enc n)), .int .i64 0]) ∧ Below w.heap.size w w' := by
  go_enter Try.func10, Try.ntmps10
  go_wp2_with fail
  go_loopw [0, 1] (fun s0 s1 wr => ∃ (f m : Nat) (t : ByteArray), f ≤ 5 ∧ m < 128 ^ (f + 1) ∧ t.size + f ≤ s.size + 5 ∧ s1 = .int .i64 m ∧ s0 = .string t ∧ t ++ bs (Code.encF f m) = s ++ bs (Code.enc n) ∧ Below w.heap.size w wr) (fun _ s1 _ => (intOf s1).toNat)
  case atStart => exact ⟨5, n, s, by omega, by omega, by omega, rfl, rfl, rfl, Below.refl _ _⟩
  case round =>
    obtain ⟨f, m, t, hf, hm, hx, rfl, rfl, he, hw⟩ := hrel
    have HE := Lib.hid he
    have HW := Lib.hid hw
    have HM := Lib.hid hm
    have hm2 : m ≤ 4398046511104 := by
      have : 128 ^ (f + 1) ≤ 128 ^ 6 := Nat.pow_le_pow_right (by omega) (by omega)
      omega
    clear he hw hm
    have hb1 : ∀ b, (bs [b]).size = 1 := fun b => bs_size [b]
    by_cases hlt : m < 128
    · have hd : decide ((127 : Int) < (m : Int)) = false := by simp; omega
      have hc := one_text wr (UInt8.ofNat m) _ (byte_lo m hlt)
      have hb2 := hb1 (UInt8.ofNat m)
      have HT := Lib.hid (show t ++ bs [UInt8.ofNat m] = s ++ bs (Code.enc n) by rw [← HE.out, Code.encF_lo _ _ hlt])
      clear hb1
      go_wp2_with fail
      go_ret2
      exact ⟨ret_pair HT.out rfl, HW.out.alloc HW.out.size _⟩
    · have hd : decide ((127 : Int) < (m : Int)) = true := by simp; omega
      have HF : Hid (∃ g, f = g + 1) := Lib.hid (by
        cases f with
        | zero => exact absurd HM.out (by omega)
        | succ g => exact ⟨g, rfl⟩)
      have hy := byte_hi m
      have HG := Lib.hid (Eq.refl (UInt8.ofNat (m % 128 + 128)))
      obtain ⟨c, hcc⟩ : ∃ c, c = UInt8.ofNat (m % 128 + 128) := ⟨_, rfl⟩
      rw [← hcc] at hy
      have HC := Lib.hid hcc
      clear hcc HG
      have hc := one_text wr c _ hy
      have hb2 := hb1 c
      clear hb1 hy
      go_wp2_with fail
      obtain ⟨g, rfl⟩ := HF.out
      have h3 := HE.out
      rw [Code.encF_hi _ _ hlt, text_cons, ← HC.out] at h3
      go_roundw
      case rel => exact ⟨g, m / 128, t ++ bs [c], by omega, by have := HM.out; rw [Nat.pow_succ] at this; omega, by rw [text_size]; simp; omega, by go_num, rfl, h3, HW.out.alloc HW.out.size _⟩
      case measure => simp [intOf]; omega
theorem refNum_any (n : Int) (w : World) (h0 : 0 ≤ n) (h : n ≤ 1099511627776) (s : ByteArray) (hs : s.size ≤ 1000000) :
    Calls Try.prog 10 #[.string s, .int .i64 n] w fun e w' => e = .returned (.tuple #[.string (s ++ bs (encI n)), .int .i64 0]) ∧ Below w.heap.size w w' := by
  obtain ⟨m, rfl⟩ := Int.eq_ofNat_of_zero_le h0
  unfold encI
  rw [Int.toNat_natCast]
  exact refNum_nat m w (by omega) s hs
theorem may_any (a i : Int) (w : World) :
    Calls Try.prog 25 #[.agg #[.int .i64 a, .int .i64 i]] w fun e w' => e = .returned (.bool (vid a i)) ∧ Below w.heap.size w w' := by
  by_cases h1 : 1 ≤ a
  · by_cases h2 : a ≤ 12
    · by_cases h3 : 1 ≤ i
      · by_cases h4 : i ≤ 1048576
        · have h5 := Lib.hid (show vid a i = true by simp [vid]; omega)
          go_enter Try.func25, Try.ntmps25
          go_wp2_with fail
          go_ret
          exact ⟨by rw [h5.out]; rfl, (Below.refl _ _).alloc (Nat.le_refl _) _⟩
        · have h5 := Lib.hid (show vid a i = false by simp [vid]; omega)
          go_enter Try.func25, Try.ntmps25
          go_wp2_with fail
          go_ret
          exact ⟨by rw [h5.out]; rfl, (Below.refl _ _).alloc (Nat.le_refl _) _⟩
      · have h5 := Lib.hid (show vid a i = false by simp [vid]; omega)
        go_enter Try.func25, Try.ntmps25
        go_wp2_with fail
        go_ret
        exact ⟨by rw [h5.out]; rfl, (Below.refl _ _).alloc (Nat.le_refl _) _⟩
    · have h5 := Lib.hid (show vid a i = false by simp [vid]; omega)
      go_enter Try.func25, Try.ntmps25
      go_wp2_with fail
      go_ret
      exact ⟨by rw [h5.out]; rfl, (Below.refl _ _).alloc (Nat.le_refl _) _⟩
  · have h5 := Lib.hid (show vid a i = false by simp [vid]; omega)
    go_enter Try.func25, Try.ntmps25
    go_wp2_with fail
    go_ret
    exact ⟨by rw [h5.out]; rfl, (Below.refl _ _).alloc (Nat.le_refl _) _⟩
theorem refIDB (a i : Int) (s : ByteArray) (w : World) (hv : vid a i = false) :
    Calls Try.prog 12 #[.string s, .agg #[.int .i64 a, .int .i64 i]] w fun e w' => e = .returned (.tuple #[.string s, .int .i64 4]) ∧ Below w.heap.size w w' := by
  have HV := Lib.hid hv
  clear hv
  go_enter Try.func12, Try.ntmps12
  go_wp2_with fail
  refine (may_any _ _ _).mono ?_
  rintro e w1 ⟨rfl, h⟩
  rw [HV.out]
  have H1 := Lib.hid (below_boxed (Below.refl w.heap.size w) h (Nat.le_refl _))
  clear h
  go_wp2_with fail
  go_ret2
  exact ⟨rfl, H1.out⟩
theorem refID_any (a i : Int) (s : ByteArray) (w : World) (hv : vid a i = true) (hs : s.size ≤ 900000) :
    Calls Try.prog 12 #[.string s, .agg #[.int .i64 a, .int .i64 i]] w fun e w' => e = .returned (.tuple #[.string (s ++ bs (encID (a, i))), .int .i64 0]) ∧ Below w.heap.size w w' := by
  have HV := Lib.hid hv
  have HB := Lib.hid (vid_yes hv)
  clear hv
  have HX := Lib.hid (box_new w a i)
  go_enter Try.func12, Try.ntmps12
  go_wp2_with fail
  refine (may_any _ _ _).mono ?_
  rintro e w1 ⟨rfl, h⟩
  rw [HV.out]
  have hx1 : Box w1 w.heap.size a i := (h.block w.heap.size (by simp)).trans HX.out
  have HX1 := Lib.hid hx1
  have H1 := Lib.hid (below_boxed (Below.refl w.heap.size w) h (Nat.le_refl _))
  clear h hx1
  obtain ⟨c1, c2⟩ := box_cells HX1.out
  go_wp2_with fail
  refine (refNum_any a _ (by have := HB.out; omega) (by have := HB.out; omega) s (by omega)).mono ?_
  rintro e w2 ⟨rfl, h⟩
  have hx2 : Box w2 w.heap.size a i := (h.block w.heap.size (box_lt HX1.out)).trans HX1.out
  have HX2 := Lib.hid hx2
  have H2 := Lib.hid (below_after H1.out h (Nat.le_refl _))
  clear h hx2 c1 c2
  obtain ⟨c1, c2⟩ := box_cells HX2.out
  have hz := (encI_len a).2
  have hz2 := text_size s (encI a)
  have hz3 : (s ++ bs (encI a)).size ≤ 1000000 := by omega
  clear hz2
  go_wp2_with fail
  refine (refNum_any i _ (by have := HB.out; omega) (by have := HB.out; omega) _ hz3).mono ?_
  rintro e w3 ⟨rfl, h⟩
  have H3 := Lib.hid (below_after H2.out h (Nat.le_refl _))
  clear h c1 c2
  go_wp2_with fail
  go_ret2
  exact ⟨ret_pair (WideShapes.bytes_inj (by simp [bs, encID])) rfl, H3.out⟩
end Go.Proofs.Ytmmpnnpkfghhcaa
