/-
  PROVED HERE: for any three texts, CrcTogether of package coveylaw01 returns true and leaves its arguments as they were: of three texts, cut to one length, the sums put together are the sum of the texts put together. No condition.
-/
import Derived.Test.YtmnpdllajplfeaaWalksC
import Derived.Test.YtmnpdllajplfeaaBase
import Derived.Deep.RegionHeld3
namespace Go.Proofs.Ytmnpdllajplfeaa
open Go.RowKit
theorem min_three (a b c : Nat) (w : World) : (Builtin.min_ #[3, 3, 3] 3 #[.int .i64 (a : Int), .int .i64 (b : Int), .int .i64 (c : Int)]).run Try.prog w = .ok (.int .i64 ((min (min a b) c : Nat) : Int)) w := by
  have h2 : ∀ x y : Nat, Builtin.min2 (.int .i64 (x : Int)) (.int .i64 (y : Int)) = pure (.int .i64 ((min x y : Nat) : Int)) := by
    intro x y
    show pure (Value.int .i64 (if (y : Int) < (x : Int) then (y : Int) else (x : Int))) = _
    by_cases h : (y : Int) < (x : Int)
    · rw [if_pos h, show min x y = y by omega]
    · rw [if_neg h, show min x y = x by omega]
  simp [Builtin.min_, h2, List.foldlM, Sem.run_pure]
theorem info5 : (Try.prog.info? 5).map (fun i => (i.zero, i.size, i.bytes)) = some (some (.int .u8 0), 1, 1) := by kernel_rfl
theorem make_bytes (n : Nat) (h : n ≤ 281474976710656) (w : World) :
    (Instr.makeSlice 29 (.int .i64 (n : Int)) (.int .i64 (n : Int))).run Try.prog w = .ok (.slice (some ⟨w.heap.size, 0, none⟩) n n) (w.alloc (.cells (madeCells #[.int .u8 0] n) 5)) := by
  obtain ⟨i, hi, hz, hs, hby⟩ := info_parts info5
  have := run_make (P := Try.prog) w 29 5 i _ Try.underlying29 hi hz .i64 .i64 n n (by omega) (by omega) (by rw [hby]; omega) (by omega)
  rw [hs] at this
  simpa [Value.cells] using this
/-- Block B holds n bytes: the first k of them are z's, the others 0; what was there before w is as it was. -/
def Mix (w : World) (B n : Nat) (z : Nat → UInt8) (k : Nat) (wr : World) : Prop :=
  Below w.heap.size w wr ∧ w.heap.size ≤ B ∧ ∀ i, i < n → wr.cell? ⟨B, i, none⟩ = some (.int .u8 ((if i < k then z i else 0).toNat : Int)) ∧ wr.frozen? ⟨B, i, none⟩ = false
theorem mix_start {w w1 : World} (h : Below w.heap.size w w1) (n : Nat) (z : Nat → UInt8) : Mix w w1.heap.size n z 0 (w1.alloc (.cells (madeCells #[.int .u8 0] n) 5)) := by
  refine ⟨h.alloc h.size _, h.size, fun i hi => ⟨?_, ?_⟩⟩
  · rw [cell_of_row _ _ _ _ _ _ (heap_alloc_last w1 _)]
    simp [madeCells, hi, Nat.mod_one]
  · exact frozen_of_row _ _ _ _ _ (heap_alloc_last w1 _)
theorem mix_set {w : World} {B n : Nat} {z : Nat → UInt8} {k : Nat} {wr : World} (h : Mix w B n z k wr) : Mix w B n z (k + 1) (wr.setCell ⟨B, k, none⟩ (.int .u8 ((z k).toNat : Int))) := by
  refine ⟨h.1.setCell h.2.1 _, h.2.1, fun i hi => ⟨?_, by rw [World.frozen?_setCell]; exact (h.2.2 i hi).2⟩⟩
  by_cases e : k = i
  · subst e
    rw [World.cell?_setCell_same _ _ _ (h.2.2 k hi).1, if_pos (by omega)]
  · rw [World.cell?_setCell_other _ ⟨B, k, none⟩ ⟨B, i, none⟩ _ (by simp), (h.2.2 i hi).1]
    by_cases h2 : i < k
    · rw [if_pos h2, if_pos (by omega)]
    · rw [if_neg h2, if_neg (by omega)]
theorem mix_below {w : World} {B n : Nat} {z : Nat → UInt8} {k : Nat} {wr w2 : World} (h : Mix w B n z k wr) (hb : Below wr.heap.size wr w2) : Mix w B n z k w2 := by
  refine ⟨below_then h.1 hb, h.2.1, fun i hi => ?_⟩
  have hc := (h.2.2 i hi).1
  have hlt := block_lt_of_cell hc
  exact ⟨(hb.cell (p := ⟨B, i, none⟩) hlt).trans hc, (hb.frozen (p := ⟨B, i, none⟩) hlt).trans (h.2.2 i hi).2⟩
theorem mix_drew {w : World} {B n : Nat} {z : Nat → UInt8} {k : Nat} {wr : World} (h : Mix w B n z k wr) : Mix w B n z k wr.drew :=
  ⟨h.1.drew, h.2.1, h.2.2⟩
/-- The three bytes put together. -/
def mixed (a b c : ByteArray) (i : Nat) : UInt8 := a.data.toList.getD i 0 ^^^ b.data.toList.getD i 0 ^^^ c.data.toList.getD i 0
theorem byte_xor2 (x y : UInt8) : bits .xor .u8 (x.toNat : Int) (y.toNat : Int) = ((x ^^^ y).toNat : Int) := by
  rw [UInt8.toNat_xor]
  exact u8_xor_nat x.toNat y.toNat x.toNat_lt y.toNat_lt
theorem byte_at (s : ByteArray) (k : Nat) (h : k < s.size) : s.data.toList.getD k 0 = s[k] := by
  rw [List.getD, List.getElem?_eq_getElem (by simpa using h)]
  rfl
theorem mixed_at (a b c : ByteArray) (k : Nat) (ha : k < a.size) (hb : k < b.size) (hc : k < c.size) : (mixed a b c k).toNat = a[k].toNat ^^^ b[k].toNat ^^^ c[k].toNat := by
  unfold mixed
  rw [byte_at a k ha, byte_at b k hb, byte_at c k hc, UInt8.toNat_xor, UInt8.toNat_xor]
/-- The bytes put together, as a text. -/
def mixedS (a b c : ByteArray) (n : Nat) : ByteArray := ⟨((List.range n).map (mixed a b c)).toArray⟩
theorem mixedS_size (a b c : ByteArray) (n : Nat) : (mixedS a b c n).size = n := by
  show ((List.range n).map (mixed a b c)).toArray.size = n
  simp
theorem mix_back {w : World} {B n : Nat} {a b c : ByteArray} {wr : World} (h : Mix w B n (mixed a b c) n wr) :
    (convert 29 9 (.slice (some ⟨B, 0, none⟩) n n)).run Try.prog wr = .ok (.string (mixedS a b c n)) wr := by
  have := run_convert_bytes_arg (P := Try.prog) wr 29 5 Try.underlying29 Try.underlying5 B 0 n n (((List.range n).map (mixed a b c)).map fun c => (c.toNat : Int)) (by simp) (fun i hi => by
    rw [Nat.zero_add, (h.2.2 i hi).1, if_pos hi]
    simp [List.getD, hi]) 9 Try.underlying9
  rw [strOfNums_bytes] at this
  exact this
theorem sum_mix {w : World} {B n k : Nat} {z : Nat → UInt8} (p : ByteArray) (hp : p.size ≤ 281474976710656) (wr : World) (h : Mix w B n z k wr) :
    Calls Try.prog 12 #[.string p] wr fun e w' => e = .returned (.int .u32 (Crc.add 0 p.data.toList)) ∧ Mix w B n z k w' :=
  (sum_any p wr hp).mono fun _ _ ⟨he, hb⟩ => ⟨he, mix_below h hb⟩
theorem together_sums (a b c : ByteArray) (n : Nat) (ha : n ≤ a.size) (hb : n ≤ b.size) (hc : n ≤ c.size) :
    bits .xor .u32 (bits .xor .u32 ((Crc.add 0 (a.extract 0 n).data.toList : Nat) : Int) ((Crc.add 0 (b.extract 0 n).data.toList : Nat) : Int)) ((Crc.add 0 (c.extract 0 n).data.toList : Nat) : Int) = ((Crc.add 0 (mixedS a b c n).data.toList : Nat) : Int) := by
  rw [u32_xor_nat _ _ (Crc.add_lt _ _) (Crc.add_lt _ _), u32_xor_nat _ _ (Crc.xor_lt (Crc.add_lt _ _) (Crc.add_lt _ _)) (Crc.add_lt _ _), Crc.add_xor3 _ _ _ (by simp; omega) (by simp; omega)]
  congr 2
  apply List.ext_getElem
  · simp [mixedS]; omega
  · intro i h1 h2
    have hi : i < n := by simpa [mixedS] using h2
    have ga : i < a.data.size := by show i < a.size; omega
    have gb : i < b.data.size := by show i < b.size; omega
    have gc : i < c.data.size := by show i < c.size; omega
    simp [mixedS, mixed, Array.getElem?_eq_getElem ga, Array.getElem?_eq_getElem gb, Array.getElem?_eq_getElem gc]
theorem together_takes (a b c : ByteArray) (n : Nat) (ha : n ≤ a.size) (hb : n ≤ b.size) (hc : n ≤ c.size) :
    bits .xor .u32 (bits .xor .u32 ((Crc.add 0 (a.data.toList.take n) : Nat) : Int) ((Crc.add 0 (b.data.toList.take n) : Nat) : Int)) ((Crc.add 0 (c.data.toList.take n) : Nat) : Int) = ((Crc.add 0 (mixedS a b c n).data.toList : Nat) : Int) := by
  have e : ∀ s : ByteArray, (s.extract 0 n).data.toList = s.data.toList.take n := fun s => by simp
  have := together_sums a b c n ha hb hc
  rw [e, e, e] at this
  exact this
theorem ret_same {x y : Int} (h : x = y) : Ending.returned (.bool (x == y)) = .returned (.bool true) := by rw [h]; simp
theorem Mix.below {w : World} {B n : Nat} {z : Nat → UInt8} {k : Nat} {wr : World} (h : Mix w B n z k wr) : Below w.heap.size w wr := h.1
set_option maxHeartbeats 400000 in
set_option maxRecDepth 100000 in
theorem together_any (a b c : ByteArray) (w : World) (ha : a.size ≤ 140737488351232) (hb : b.size ≤ 140737488351232) (hc : c.size ≤ 140737488351232) :
    Calls Try.prog 6 #[.string a, .string b, .string c] w fun e w' => e = .returned (.bool true) ∧ Below w.heap.size w w' := by
  by_cases hl : a.size + b.size + c.size ≤ 20000
  · go_enter Try.func6, Try.ntmps6
    go_wp2_with fail
    refine (works_any _).mono ?_
    rintro e w1 ⟨rfl, h⟩
    have hmin := min_three a.size b.size c.size
    have hna : min (min a.size b.size) c.size ≤ a.size := by omega
    have hnb : min (min a.size b.size) c.size ≤ b.size := by omega
    have hnc : min (min a.size b.size) c.size ≤ c.size := by omega
    generalize min (min a.size b.size) c.size = n at *
    have hmk := make_bytes n (by omega)
    have HM := Lib.hid (mix_start h n (mixed a b c))
    clear h
    go_wp2_with fail
    clear hmk hmin
    go_loopw [9] (fun s9 wr => ∃ k : Nat, k ≤ n ∧ s9 = .int .i64 k ∧ Hid (Mix w w1.heap.size n (mixed a b c) k wr)) (fun s9 _ => n - (intOf s9).toNat)
    case atStart => exact ⟨0, by omega, rfl, HM⟩
    case round =>
      obtain ⟨k, hk, rfl, HK⟩ := hrel
      by_cases hlt : k < n
      · have hd : decide ((k : Int) < (n : Int)) = true := by simp; omega
        have hka : k < a.size := by omega
        have hkb : k < b.size := by omega
        have hkc : k < c.size := by omega
        have hcell := (HK.out.2.2 k hlt).1
        have hfrz := (HK.out.2.2 k hlt).2
        have e1 := byte_xor2 a[k] b[k]
        have e2 := byte_xor2 (a[k] ^^^ b[k]) c[k]
        rw [UInt8.toNat_xor] at e1
        rw [UInt8.toNat_xor, UInt8.toNat_xor] at e2
        have HZ := Lib.hid (mixed_at a b c k hka hkb hkc)
        go_wp2_with fail
        go_region
        go_wp2
        go_roundw
        case rel => exact ⟨k + 1, by omega, by go_num, Lib.hid (by rw [← HZ.out]; exact mix_drew (mix_set HK.out))⟩
        case measure => simp [intOf]; omega
      · obtain rfl : k = n := by omega
        have HX := Lib.hid (together_takes a b c k hna hnb hnc)
        have sa : (a.extract 0 k).size ≤ 281474976710656 := by simp; omega
        have sb : (b.extract 0 k).size ≤ 281474976710656 := by simp; omega
        have sc : (c.extract 0 k).size ≤ 281474976710656 := by simp; omega
        have sd := mixedS_size a b c k
        have hn0 : (0 : Int) ≤ (k : Int) := by omega
        have HA := Lib.hid fun w' h => sum_mix (a.extract 0 k) sa w' (h : Mix w w1.heap.size k (mixed a b c) k w')
        have HB := Lib.hid fun w' h => sum_mix (b.extract 0 k) sb w' (h : Mix w w1.heap.size k (mixed a b c) k w')
        have HD := Lib.hid fun w' h => sum_mix (c.extract 0 k) sc w' (h : Mix w w1.heap.size k (mixed a b c) k w')
        have HE := Lib.hid fun w' h => sum_mix (mixedS a b c k) (by omega) w' (h : Mix w w1.heap.size k (mixed a b c) k w')
        clear HM
        go_wp2_with fail
        go_region_held3 (fun w' => (convert 29 9 (.slice (some ⟨w1.heap.size, 0, none⟩) k k)).run Try.prog w' = .ok (.string (mixedS a b c k)) w' ∧ Mix w w1.heap.size k (mixed a b c) k w')
          (first | exact ⟨mix_back (mix_drew HK.out), mix_drew HK.out⟩ | exact ⟨mix_back (by assumption), by assumption⟩)
          (first | (go_at_call 12; (with_reducible refine (HA.out _ (by go_split_ands; assumption)).mono ?_); rintro e w' ⟨rfl, hm⟩) | (go_at_call 12; (with_reducible refine (HB.out _ (by go_split_ands; assumption)).mono ?_); rintro e w' ⟨rfl, hm⟩) | (go_at_call 12; (with_reducible refine (HD.out _ (by go_split_ands; assumption)).mono ?_); rintro e w' ⟨rfl, hm⟩) | (go_at_call 12; (with_reducible refine (HE.out _ (by go_split_ands; assumption)).mono ?_); rintro e w' ⟨rfl, hm⟩))
        go_wp2_with fail
        go_ret
        exact ⟨ret_same HX.out, Mix.below (by assumption)⟩
  · have hl' : (20000 : Int) < (a.size : Int) + (b.size : Int) + (c.size : Int) := by omega
    go_enter Try.func6, Try.ntmps6
    go_wp2_with fail
    refine (works_any _).mono ?_
    rintro e w1 ⟨rfl, h⟩
    have H1 := Lib.hid h
    clear h
    go_wp2_with fail
    refine (works_any _).mono ?_
    rintro e w2 ⟨rfl, h⟩
    have H2 := Lib.hid (below_then H1.out h)
    clear H1 h
    go_wp2_with fail
    go_ret
    exact ⟨rfl, H2.out⟩
section
open Go.ChangeShapes Go.WideShapes Go.ChangeAt
open Go.ChangeMaps (open_string)
set_option maxRecDepth 100000 in
theorem together_lifted (os : Os) (started : os.Started) (H : Type) (enc : TypeId × Value → H) :
    ReturnsInHanded {} Try.checked os 6 .any (Rows.crcTogetherSpec.pre6 enc Try.prog Try.f6 Rows.crcTogetherRow.domain false) (Rows.crcTogetherSpec.post enc Try.prog Try.f6 false true false false) := by
  refine returnsInHanded_of_change_sized (C := Try.checked) Try.own started (by kernel_rfl) Try.func6
    (ChangeSpec.witness6 (enc := enc) (C := Try.checked) false ⟨#[], #[.string ⟨#[]⟩, .string ⟨#[]⟩, .string ⟨#[]⟩], []⟩ 8 (by kernel_rfl) (by kernel_rfl) (by kernel_rfl) (by kernel_rfl)) ?_
  intro W base args ds gs before hval0 hW _ hsz0 _
  have hval : ∀ (j : Nat) t v, Try.f6.params[j]? = some t → args[j]? = some v → Value.okWide Try.prog W .any base t v := hval0
  have hsz : (DataW.weightsEach Try.prog (Try.f6.params.toList ++ Rows.crcTogetherSpec.plain.varTypes Try.prog) (ds ++ gs)).all (· ≤ reachBytes) = true := hsz0
  have hW' := hW
  obtain ⟨p, q, hA0, hV, rfl, _, _⟩ := hW
  have hA : DataW.TrodAll enc Try.prog W 0 (fun _ => true) true Try.f6.params.toList args.toList ds p := hA0
  rw [Try.params6] at hA hval hsz
  obtain ⟨v0, v1, v2, d0, d1, d2, p0, p1, p2, rfl, rfl, rfl, h0, h1, h2⟩ := trodAll_three hA
  obtain ⟨rfl, rfl⟩ := trodVars_none hV
  obtain ⟨x0, rfl, rfl, rfl, _⟩ := open_string Try.underlying9 (hval 0 9 v0 rfl rfl) h0
  obtain ⟨x1, rfl, rfl, rfl, _⟩ := open_string Try.underlying9 (hval 1 9 v1 rfl rfl) h1
  obtain ⟨x2, rfl, rfl, rfl, _⟩ := open_string Try.underlying9 (hval 2 9 v2 rfl rfl) h2
  have r0 : x0.size ≤ 140737488351232 := by have := sized_string hsz (j := 0) (t := 9) rfl rfl; rw [reach_is] at this; simpa using this
  have r1 : x1.size ≤ 140737488351232 := by have := sized_string hsz (j := 1) (t := 9) rfl rfl; rw [reach_is] at this; simpa using this
  have r2 : x2.size ≤ 140737488351232 := by have := sized_string hsz (j := 2) (t := 9) rfl rfl; rw [reach_is] at this; simpa using this
  refine (together_any x0 x1 x2 W r0 r1 r2).mono fun e W' ⟨he, hb⟩ => ?_
  subst he
  exact ⟨_, rfl, law_post hW' rfl (by kernel_rfl) Try.underlying4 rfl (by unfold Legible; kernel_rfl) hb⟩
/-- The statement. -/
theorem together_holds : Rows.CrcTogetherSaid :=
  OpenClaim.holds_of_wide 6 Try.f6 rfl rfl rfl rfl rfl rfl rfl ⟨rfl, rfl, rfl, rfl, rfl⟩ rfl rfl rfl rfl rfl (by kernel_rfl) Try.func6 (by kernel_rfl)
    (of_decide_eq_true (by kernel_rfl)) (by unfold Func.isWrapper; first | (rw [if_pos (by decide +kernel)]; kernel_rfl) | (rw [if_neg (by decide +kernel)]; exact ⟨rfl, rfl⟩))
    (fun os started H enc _ => together_lifted os started H enc)
end
end Go.Proofs.Ytmnpdllajplfeaa
