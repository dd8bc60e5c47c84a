/-
  Walks over the library's Grow from nil, and Concat, over members and over IDs: what is answered lies in new memory. No statement is proved in this text; it holds for every input that its premises let by.
-/
import Derived.Test.YtciolhpkhblnbaaDel
import Derived.Lib.AppendZerosOnto
import Derived.Lib.AppendZeros
namespace Go.Proofs.Ytciolhpkhblnbaa
open Go Go.RowKit Ros
/-- Block g holds these slices. -/
def Lots (w : World) (g t : Nat) (cs : List Value) : Prop := w.heap[g]? = some (.cells cs.toArray t (0, 0))
theorem lots_cell {w : World} {g t : Nat} {cs : List Value} (h : Lots w g t cs) {k : Nat} (hk : k < cs.length) : w.cell? ⟨g, k, none⟩ = some cs[k] := by
  unfold Lots at h
  rw [cell_of_row _ _ k _ _ _ h]
  simp [hk]
theorem lots_below {w w' : World} {g t : Nat} {cs : List Value} (h : Lots w g t cs) (hb : Below w.heap.size w w') : Lots w' g t cs := (hb.block _ (row_lt h)).trans h
theorem info25 : (Try.prog.info? 30).map (fun i => (i.zero, i.size, i.bytes)) = some (some (.agg #[.int .i64 0, .int .i64 0]), 2, 16) := info30
theorem flat_take {α : Type} {ls : List (List α)} {k : Nat} (hk : k < ls.length) : (ls.take (k + 1)).flatten = (ls.take k).flatten ++ ls[k] := by
  rw [List.take_succ_eq_append_getElem hk, List.flatten_append]
  simp
/-- How many there are in the first k lists. -/
def tot {α : Type} (ls : List (List α)) (k : Nat) : Nat := (ls.take k).flatten.length
theorem tot_next {α : Type} {ls : List (List α)} {k : Nat} (hk : k < ls.length) : tot ls (k + 1) = tot ls k + ls[k].length := by
  unfold tot
  rw [flat_take hk, List.length_append]
theorem flat_len_le {α : Type} (ls : List (List α)) (k : Nat) : (ls.take k).flatten.length ≤ ls.flatten.length := by
  have : ls.flatten = (ls.take k).flatten ++ (ls.drop k).flatten := by rw [← List.flatten_append, List.take_append_drop]
  rw [this, List.length_append]
  omega
set_option maxHeartbeats 1000000 in
/-- slices.Grow of nil. -/
theorem growI_any (n : Nat) (w : World) (hn : n ≤ 100000) :
    Calls Try.prog 55 #[.slice none 0 0, .int .i64 n] w fun e w' => ∃ V, e = .returned V ∧ OwnsR encI 2 30 w' w.heap.size V [] ∧ Below w.heap.size w w' := by
  have h1 : decide ((n : Int) < 0) = false := by simp
  by_cases hp : 0 < n
  · obtain ⟨i0, hi, hz0, hz1, hz2⟩ := info_parts info30
    have hr : ∀ T, (Builtin.append_ #[25, 3] T #[.slice none 0 0, .int .i64 n]).run Try.prog w = .ok (.slice (some ⟨w.heap.size, 0, none⟩) n (grownCap w n 0 30)) (w.drew.alloc (.cells (Builtin.zeroCells (Value.agg #[.int .i64 0, .int .i64 0]).cells n ++ Builtin.zeroCells (Value.agg #[.int .i64 0, .int .i64 0]).cells (grownCap w n 0 30 - n)) 30)) := fun T =>
      Lib.run_append_nil_zeros w 25 3 T 30 i0 _ .i64 .i64 Try.underlying25 Try.underlying3 hi hz0 n hp (by omega) (by omega) (by rw [hz2]; omega)
    have hc1 : n ≤ grownCap w n 0 30 := grownCap_ge w _ _ _
    have hc2 : grownCap w n 0 30 ≤ maxLen := grownCap_le_maxLen w n 0 30 (by unfold maxLen; omega)
    have HO : Hid (OwnsR encI 2 30 (w.drew.alloc (.cells (Builtin.zeroCells (Value.agg #[.int .i64 0, .int .i64 0]).cells n ++ Builtin.zeroCells (Value.agg #[.int .i64 0, .int .i64 0]).cells (grownCap w n 0 30 - n)) 30)) w.heap.size (.slice (some ⟨w.heap.size, 0, none⟩) 0 (grownCap w n 0 30)) []) := Lib.hid (World.ownsRow_made w.drew _ _ (Nat.le_refl _) hc2 (by simp [Builtin.zeroCells, Value.cells]; omega))
    have HB : Hid (Below w.heap.size w (w.drew.alloc (.cells (Builtin.zeroCells (Value.agg #[.int .i64 0, .int .i64 0]).cells n ++ Builtin.zeroCells (Value.agg #[.int .i64 0, .int .i64 0]).cells (grownCap w n 0 30 - n)) 30))) := Lib.hid ((Below.drew (Below.refl _ w)).alloc (Nat.le_refl _) _)
    generalize grownCap w n 0 30 = G at *
    generalize Builtin.zeroCells (Value.agg #[.int .i64 0, .int .i64 0]).cells n ++ Builtin.zeroCells (Value.agg #[.int .i64 0, .int .i64 0]).cells (G - n) = R at *
    have h2 : decide ((n : Int) > 0) = true := by simpa using hp
    have h2' : decide (0 < (n : Int)) = true := by simpa using hp
    have hw : IntKind.i64.wrap (n : Int) = n := IntWalk.i64_in _ ⟨by omega, by omega⟩
    clear hi hz0 hz1 hz2 hc2
    go_enter Try.func55, Try.ntmps55
    go_wp2_with (at_builtin; refine Lib.wpList_append_run _ rfl _ _ _ _ rfl _ _ rfl rfl _ _ (hr _) ?_)
    go_ret
    exact ⟨_, rfl, HO.out, HB.out⟩
  · obtain rfl : n = 0 := by omega
    have HO : Hid (OwnsR encI 2 30 w w.heap.size (.slice none 0 0) []) := Lib.hid (OwnsR.nil _ _ _)
    go_enter Try.func55, Try.ntmps55
    go_wp2_with fail
    go_ret
    exact ⟨_, rfl, HO.out, Below.refl _ _⟩
set_option maxHeartbeats 4000000 in
/-- slices.Concat. -/
theorem concatI_any (g : Nat) (cs : List Value) (ls : List (List Id2)) (w : World) {tt : Nat} (h : Lots w g tt cs) (hcl : cs.length = ls.length) (hs : ∀ (k : Nat) (hk : k < cs.length) (hk' : k < ls.length), Rcs encI 2 w cs[k] ls[k]) (hn : cs.length ≤ 10) (hl : ls.flatten.length ≤ 50000) :
    Calls Try.prog 45 #[.slice (some ⟨g, 0, none⟩) cs.length cs.length] w fun e w' => ∃ V, e = .returned V ∧ OwnsR encI 2 30 w' w.heap.size V ls.flatten ∧ Below w.heap.size w w' := by
  have HI := Lib.hid h
  have HS := Lib.hid hs
  have HL : Hid (∀ k, tot ls k ≤ 50000) := Lib.hid (fun k => Nat.le_trans (flat_len_le ls k) hl)
  clear h hs
  go_enter Try.func45, Try.ntmps45
  go_wp2_with fail
  go_loop [3, 11] (fun s3 s11 => ∃ k : Nat, k ≤ cs.length ∧ s11 = .int .i64 k ∧ s3 = .int .i64 (tot ls k)) (fun _ s11 => cs.length - (intOf s11).toNat)
  case atStart => exact ⟨0, by omega, rfl, by simp [tot]⟩
  case round =>
    obtain ⟨k, hkl, rfl, rfl⟩ := hrel
    have i3 : (0 : Int) ≤ (k : Int) := by omega
    by_cases hlt : k < cs.length
    · have hd : decide ((k : Int) < (cs.length : Int)) = true := by simp; omega
      have i4 : (k : Int) < (cs.length : Int) := by omega
      obtain ⟨A, c, hv, hz⟩ := HS.out k hlt (by omega)
      have c1 := lots_cell HI.out hlt
      rw [hv] at c1
      clear hz hv
      have hm := HL.out (k + 1)
      have hT := tot_next (ls := ls) (k := k) (by omega)
      rw [hT] at hm
      have HT := Lib.hid hT
      clear hT
      generalize (ls[k]'(by omega)).length = q at *
      generalize tot ls k = p at *
      have hw : IntKind.i64.wrap ((p : Int) + (q : Int)) = (p : Int) + (q : Int) := IntWalk.i64_in _ ⟨by omega, by omega⟩
      have hd2 : decide ((p : Int) + (q : Int) < 0) = false := by simp; omega
      go_wp2_with fail
      go_round
      case rel => exact ⟨k + 1, by omega, by go_num, by rw [HT.out, Int.natCast_add]⟩
      case measure => simp [intOf]; omega
    · have hd : decide ((k : Int) < (cs.length : Int)) = false := by simp; omega
      have hm := HL.out k
      generalize tot ls k = p at *
      go_wp2_with fail
      refine (growI_any _ _ (by omega)).mono ?_
      rintro e w1 ⟨V0, rfl, hO, hb⟩
      have HB := Lib.hid hb
      have HO := Lib.hid hO
      have HI1 := Lib.hid (lots_below HI.out hb)
      have HS1 := Lib.hid fun k hk hk' => (HS.out k hk hk').below hb
      clear hb hO hd
      go_wp2_with fail
      go_loopw [6, 27] (fun s6 s27 wr => ∃ k : Nat, k ≤ cs.length ∧ s27 = .int .i64 k ∧ Hid (OwnsR encI 2 30 wr w.heap.size s6 (ls.take k).flatten) ∧ Hid (Below w.heap.size w wr)) (fun _ s27 _ => cs.length - (intOf s27).toNat)
      case atStart => exact ⟨0, by omega, rfl, Lib.hid (by simpa using HO.out), HB⟩
      case round =>
        obtain ⟨k, hkl, rfl, HO, HW⟩ := hrel
        have i3 : (0 : Int) ≤ (k : Int) := by omega
        by_cases hlt : k < cs.length
        · have hd : decide ((k : Int) < (cs.length : Int)) = true := by simp; omega
          have i4 : (k : Int) < (cs.length : Int) := by omega
          have hR := (HS.out k hlt (by omega)).below HW.out
          have HR := Lib.hid hR
          obtain ⟨A, c, hv, _⟩ := hR
          have c1 := lots_cell (lots_below HI.out HW.out) hlt
          rw [hv] at c1 HR
          have HT := Lib.hid (flat_take (ls := ls) (k := k) (by omega))
          have HM := Lib.hid (show (ls.take k).flatten.length + (ls[k]'(by omega)).length ≤ 100000 from (Nat.le_trans (Nat.le_of_eq (tot_next (ls := ls) (k := k) (by omega)).symm) (Nat.le_trans (HL.out (k + 1)) (by omega))))
          have hbs := HW.out.size
          go_wp2_with (at_builtin; refine wpList_append_recs (enc := encI) (sz := 2) 25 30 Try.underlying25 info30 rfl encI_len (by omega) encI_one (by omega) rfl (.tmp 31) (.tmp 32) rfl wr w.heap.size _ _ (ls.take k).flatten (ls[k]'(by omega)) rfl rfl HO.out HR.out HM.out hbs ?_; intro v' w' hO' hB'; have HO' := Lib.hid hO'; have HB' := Lib.hid (HW.out.trans hB'); clear hO' hB')
          go_roundw
          case rel => exact ⟨k + 1, by omega, by go_num, by rw [HT.out]; exact HO', HB'⟩
          case measure => simp [intOf]; omega
        · have hd : decide ((k : Int) < (cs.length : Int)) = false := by simp; omega
          have HF := Lib.hid (show (ls.take k).flatten = ls.flatten by rw [List.take_of_length_le (by omega)])
          go_wp2_with fail
          go_ret
          exact ⟨_, rfl, by rw [← HF.out]; exact HO.out, HW.out⟩
set_option maxHeartbeats 1000000 in
/-- slices.Grow of nil. -/
theorem growM_any (n : Nat) (w : World) (hn : n ≤ 100000) :
    Calls Try.prog 53 #[.slice none 0 0, .int .i64 n] w fun e w' => ∃ V, e = .returned V ∧ OwnsR encM 4 32 w' w.heap.size V [] ∧ Below w.heap.size w w' := by
  have h1 : decide ((n : Int) < 0) = false := by simp
  by_cases hp : 0 < n
  · obtain ⟨i0, hi, hz0, hz1, hz2⟩ := info_parts info32
    have hr : ∀ T, (Builtin.append_ #[24, 3] T #[.slice none 0 0, .int .i64 n]).run Try.prog w = .ok (.slice (some ⟨w.heap.size, 0, none⟩) n (grownCap w n 0 32)) (w.drew.alloc (.cells (Builtin.zeroCells (Value.agg #[.int .i64 0, .int .i64 0, .int .u8 0, .int .i64 0]).cells n ++ Builtin.zeroCells (Value.agg #[.int .i64 0, .int .i64 0, .int .u8 0, .int .i64 0]).cells (grownCap w n 0 32 - n)) 32)) := fun T =>
      Lib.run_append_nil_zeros w 24 3 T 32 i0 _ .i64 .i64 Try.underlying24 Try.underlying3 hi hz0 n hp (by omega) (by omega) (by rw [hz2]; omega)
    have hc1 : n ≤ grownCap w n 0 32 := grownCap_ge w _ _ _
    have hc2 : grownCap w n 0 32 ≤ maxLen := grownCap_le_maxLen w n 0 32 (by unfold maxLen; omega)
    have HO : Hid (OwnsR encM 4 32 (w.drew.alloc (.cells (Builtin.zeroCells (Value.agg #[.int .i64 0, .int .i64 0, .int .u8 0, .int .i64 0]).cells n ++ Builtin.zeroCells (Value.agg #[.int .i64 0, .int .i64 0, .int .u8 0, .int .i64 0]).cells (grownCap w n 0 32 - n)) 32)) w.heap.size (.slice (some ⟨w.heap.size, 0, none⟩) 0 (grownCap w n 0 32)) []) := Lib.hid (World.ownsRow_made w.drew _ _ (Nat.le_refl _) hc2 (by simp [Builtin.zeroCells, Value.cells]; omega))
    have HB : Hid (Below w.heap.size w (w.drew.alloc (.cells (Builtin.zeroCells (Value.agg #[.int .i64 0, .int .i64 0, .int .u8 0, .int .i64 0]).cells n ++ Builtin.zeroCells (Value.agg #[.int .i64 0, .int .i64 0, .int .u8 0, .int .i64 0]).cells (grownCap w n 0 32 - n)) 32))) := Lib.hid ((Below.drew (Below.refl _ w)).alloc (Nat.le_refl _) _)
    generalize grownCap w n 0 32 = G at *
    generalize Builtin.zeroCells (Value.agg #[.int .i64 0, .int .i64 0, .int .u8 0, .int .i64 0]).cells n ++ Builtin.zeroCells (Value.agg #[.int .i64 0, .int .i64 0, .int .u8 0, .int .i64 0]).cells (G - n) = R at *
    have h2 : decide ((n : Int) > 0) = true := by simpa using hp
    have h2' : decide (0 < (n : Int)) = true := by simpa using hp
    have hw : IntKind.i64.wrap (n : Int) = n := IntWalk.i64_in _ ⟨by omega, by omega⟩
    clear hi hz0 hz1 hz2 hc2
    go_enter Try.func53, Try.ntmps53
    go_wp2_with (at_builtin; refine Lib.wpList_append_run _ rfl _ _ _ _ rfl _ _ rfl rfl _ _ (hr _) ?_)
    go_ret
    exact ⟨_, rfl, HO.out, HB.out⟩
  · obtain rfl : n = 0 := by omega
    have HO : Hid (OwnsR encM 4 32 w w.heap.size (.slice none 0 0) []) := Lib.hid (OwnsR.nil _ _ _)
    go_enter Try.func53, Try.ntmps53
    go_wp2_with fail
    go_ret
    exact ⟨_, rfl, HO.out, Below.refl _ _⟩
set_option maxHeartbeats 4000000 in
/-- slices.Concat. -/
theorem concatM_any (g : Nat) (cs : List Value) (ls : List (List Mm)) (w : World) {tt : Nat} (h : Lots w g tt cs) (hcl : cs.length = ls.length) (hs : ∀ (k : Nat) (hk : k < cs.length) (hk' : k < ls.length), Rcs encM 4 w cs[k] ls[k]) (hn : cs.length ≤ 10) (hl : ls.flatten.length ≤ 50000) :
    Calls Try.prog 41 #[.slice (some ⟨g, 0, none⟩) cs.length cs.length] w fun e w' => ∃ V, e = .returned V ∧ OwnsR encM 4 32 w' w.heap.size V ls.flatten ∧ Below w.heap.size w w' := by
  have HI := Lib.hid h
  have HS := Lib.hid hs
  have HL : Hid (∀ k, tot ls k ≤ 50000) := Lib.hid (fun k => Nat.le_trans (flat_len_le ls k) hl)
  clear h hs
  go_enter Try.func41, Try.ntmps41
  go_wp2_with fail
  go_loop [3, 11] (fun s3 s11 => ∃ k : Nat, k ≤ cs.length ∧ s11 = .int .i64 k ∧ s3 = .int .i64 (tot ls k)) (fun _ s11 => cs.length - (intOf s11).toNat)
  case atStart => exact ⟨0, by omega, rfl, by simp [tot]⟩
  case round =>
    obtain ⟨k, hkl, rfl, rfl⟩ := hrel
    have i3 : (0 : Int) ≤ (k : Int) := by omega
    by_cases hlt : k < cs.length
    · have hd : decide ((k : Int) < (cs.length : Int)) = true := by simp; omega
      have i4 : (k : Int) < (cs.length : Int) := by omega
      obtain ⟨A, c, hv, hz⟩ := HS.out k hlt (by omega)
      have c1 := lots_cell HI.out hlt
      rw [hv] at c1
      clear hz hv
      have hm := HL.out (k + 1)
      have hT := tot_next (ls := ls) (k := k) (by omega)
      rw [hT] at hm
      have HT := Lib.hid hT
      clear hT
      generalize (ls[k]'(by omega)).length = q at *
      generalize tot ls k = p at *
      have hw : IntKind.i64.wrap ((p : Int) + (q : Int)) = (p : Int) + (q : Int) := IntWalk.i64_in _ ⟨by omega, by omega⟩
      have hd2 : decide ((p : Int) + (q : Int) < 0) = false := by simp; omega
      go_wp2_with fail
      go_round
      case rel => exact ⟨k + 1, by omega, by go_num, by rw [HT.out, Int.natCast_add]⟩
      case measure => simp [intOf]; omega
    · have hd : decide ((k : Int) < (cs.length : Int)) = false := by simp; omega
      have hm := HL.out k
      generalize tot ls k = p at *
      go_wp2_with fail
      refine (growM_any _ _ (by omega)).mono ?_
      rintro e w1 ⟨V0, rfl, hO, hb⟩
      have HB := Lib.hid hb
      have HO := Lib.hid hO
      have HI1 := Lib.hid (lots_below HI.out hb)
      have HS1 := Lib.hid fun k hk hk' => (HS.out k hk hk').below hb
      clear hb hO hd
      go_wp2_with fail
      go_loopw [6, 27] (fun s6 s27 wr => ∃ k : Nat, k ≤ cs.length ∧ s27 = .int .i64 k ∧ Hid (OwnsR encM 4 32 wr w.heap.size s6 (ls.take k).flatten) ∧ Hid (Below w.heap.size w wr)) (fun _ s27 _ => cs.length - (intOf s27).toNat)
      case atStart => exact ⟨0, by omega, rfl, Lib.hid (by simpa using HO.out), HB⟩
      case round =>
        obtain ⟨k, hkl, rfl, HO, HW⟩ := hrel
        have i3 : (0 : Int) ≤ (k : Int) := by omega
        by_cases hlt : k < cs.length
        · have hd : decide ((k : Int) < (cs.length : Int)) = true := by simp; omega
          have i4 : (k : Int) < (cs.length : Int) := by omega
          have hR := (HS.out k hlt (by omega)).below HW.out
          have HR := Lib.hid hR
          obtain ⟨A, c, hv, _⟩ := hR
          have c1 := lots_cell (lots_below HI.out HW.out) hlt
          rw [hv] at c1 HR
          have HT := Lib.hid (flat_take (ls := ls) (k := k) (by omega))
          have HM := Lib.hid (show (ls.take k).flatten.length + (ls[k]'(by omega)).length ≤ 100000 from (Nat.le_trans (Nat.le_of_eq (tot_next (ls := ls) (k := k) (by omega)).symm) (Nat.le_trans (HL.out (k + 1)) (by omega))))
          have hbs := HW.out.size
          go_wp2_with (at_builtin; refine wpList_append_recs (enc := encM) (sz := 4) 24 32 Try.underlying24 info32 rfl encM_len (by omega) encM_one (by omega) rfl (.tmp 31) (.tmp 32) rfl wr w.heap.size _ _ (ls.take k).flatten (ls[k]'(by omega)) rfl rfl HO.out HR.out HM.out hbs ?_; intro v' w' hO' hB'; have HO' := Lib.hid hO'; have HB' := Lib.hid (HW.out.trans hB'); clear hO' hB')
          go_roundw
          case rel => exact ⟨k + 1, by omega, by go_num, by rw [HT.out]; exact HO', HB'⟩
          case measure => simp [intOf]; omega
        · have hd : decide ((k : Int) < (cs.length : Int)) = false := by simp; omega
          have HF := Lib.hid (show (ls.take k).flatten = ls.flatten by rw [List.take_of_length_le (by omega)])
          go_wp2_with fail
          go_ret
          exact ⟨_, rfl, by rw [← HF.out]; exact HO.out, HW.out⟩
end Go.Proofs.Ytciolhpkhblnbaa
