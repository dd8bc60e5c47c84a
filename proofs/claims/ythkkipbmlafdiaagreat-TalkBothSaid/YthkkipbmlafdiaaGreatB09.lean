/-
  Contracts and plain facts.
-/
import Derived.Test.YthkkipbmlafdiaaGreatOy
import Derived.Lib.AppendZerosOnto
import Derived.Lib.AppendZeros
import Derived.Deep.DeepCutAuto
import Derived.Test.YthkkipbmlafdiaaGreatB08
set_option maxRecDepth 20000
namespace Go.Proofs.YthkkipbmlafdiaaGreat
section
open Go Go.RowKit Ros
def Lots (w : World) (g t : Nat) (cs : List Value) : Prop := w.heap[g]? = some (.cells cs.toArray t (0, 0))
theorem lots_cell {w : World} {g t : Nat} {cs : List Value} (h : Lots w g t cs) {k : Nat} (hk : k < cs.length) : w.cell? ⟨g, k, none⟩ = some cs[k] := by
 unfold Lots at h;rw [cell_of_row _ _ k _ _ _ h];simp [hk]
theorem lots_below {w w' : World} {g t : Nat} {cs : List Value} (h : Lots w g t cs) (hb : Below w.heap.size w w') : Lots w' g t cs := (hb.block _ (row_lt h)).trans h
theorem flat_take {α : Type} {ls : List (List α)} {k : Nat} (hk : k < ls.length) : (ls.take (k + 1)).flatten = (ls.take k).flatten ++ ls[k] := by
 rw [List.take_succ_eq_append_getElem hk, List.flatten_append];simp
def tot {α : Type} (ls : List (List α)) (k : Nat) : Nat := (ls.take k).flatten.length
theorem tot_next {α : Type} {ls : List (List α)} {k : Nat} (hk : k < ls.length) : tot ls (k + 1) = tot ls k + ls[k].length := by
 unfold tot;rw [flat_take hk, List.length_append]
theorem flat_len_le {α : Type} (ls : List (List α)) (k : Nat) : (ls.take k).flatten.length ≤ ls.flatten.length := by
 have : ls.flatten = (ls.take k).flatten ++ (ls.drop k).flatten := by rw [← List.flatten_append, List.take_append_drop]
 rw [this, List.length_append];omega
set_option maxHeartbeats 1000000 in
theorem growI_any (n : Nat) (w : World) (hn : n ≤ 100000) :
  Calls Tryz.prog 158 #[.slice none 0 0, .int .i64 n] w fun e w' => ∃ V, e = .returned V ∧ OwnsR encI 2 29 w' w.heap.size V [] ∧ Below w.heap.size w w' := by
 have h1 : decide ((n : Int) < 0) = false := by simp
 by_cases hp : 0 < n
 ·obtain ⟨i0, hi, hz0, hz1, hz2⟩ := info_parts info30
  have hr : ∀ T, (Builtin.append_ #[23, 3] T #[.slice none 0 0, .int .i64 n]).run Tryz.prog w = .ok (.slice (some ⟨w.heap.size, 0, none⟩) n (grownCap w n 0 29)) (w.drew.alloc (.cells (Builtin.zeroCells (Value.agg #[.int .i64 0, .int .i64 0]).cells n ++ Builtin.zeroCells (Value.agg #[.int .i64 0, .int .i64 0]).cells (grownCap w n 0 29 - n)) 29)) := fun T =>
   Lib.run_append_nil_zeros w 23 3 T 29 i0 _ .i64 .i64 Tryz.underlying23 Tryz.underlying3 hi hz0 n hp (by omega) (by omega) (by rw [hz2]; omega)
  have hc1 : n ≤ grownCap w n 0 29 := grownCap_ge w _ _ _
  have hc2 : grownCap w n 0 29 ≤ maxLen := grownCap_le_maxLen w n 0 29 (by unfold maxLen; omega)
  have HO : Hid (OwnsR encI 2 29 (w.drew.alloc (.cells (Builtin.zeroCells (Value.agg #[.int .i64 0, .int .i64 0]).cells n ++ Builtin.zeroCells (Value.agg #[.int .i64 0, .int .i64 0]).cells (grownCap w n 0 29 - n)) 29)) w.heap.size (.slice (some ⟨w.heap.size, 0, none⟩) 0 (grownCap w n 0 29)) []) := hd_ (World.ownsRow_made w.drew _ _ (Nat.le_refl _) hc2 (by simp [Builtin.zeroCells, Value.cells]; omega))
  have HB : Hid (Below w.heap.size w (w.drew.alloc (.cells (Builtin.zeroCells (Value.agg #[.int .i64 0, .int .i64 0]).cells n ++ Builtin.zeroCells (Value.agg #[.int .i64 0, .int .i64 0]).cells (grownCap w n 0 29 - n)) 29))) := hd_ ((Below.drew (Below.refl _ w)).alloc (Nat.le_refl _) _)
  generalize grownCap w n 0 29 = G at *;generalize Builtin.zeroCells (Value.agg #[.int .i64 0, .int .i64 0]).cells n ++ Builtin.zeroCells (Value.agg #[.int .i64 0, .int .i64 0]).cells (G - n) = R at *;have h2 : decide ((n : Int) > 0) = true := by simpa using hp
  have h2' : decide (0 < (n : Int)) = true := by simpa using hp
  have hw : IntKind.i64.wrap (n : Int) = n := IntWalk.i64_in _ ⟨by omega, by omega⟩
  clear hi hz0 hz1 hz2 hc2;go_enter Tryz.func158, Tryz.ntmps158
  go_wp2_with (at_builtin; refine Lib.wpList_append_run _ rfl _ _ _ _ rfl _ _ rfl rfl _ _ (hr _) ?_)
  go_ret;exact ⟨_, rfl, HO.out, HB.out⟩
 ·obtain rfl : n = 0 := by omega
  have HO : Hid (OwnsR encI 2 29 w w.heap.size (.slice none 0 0) []) := hd_ (OwnsR.nil _ _ _)
  go_enter Tryz.func158, Tryz.ntmps158
  go_wp2_with fail;go_ret;exact ⟨_, rfl, HO.out, Below.refl _ _⟩
set_option maxHeartbeats 4000000 in
theorem concatI_any (g : Nat) (cs : List Value) (ls : List (List Id2)) (w : World) {tt : Nat} (h : Lots w g tt cs) (hcl : cs.length = ls.length) (hs : ∀ (k : Nat) (hk : k < cs.length) (hk' : k < ls.length), Rcs encI 2 w cs[k] ls[k]) (hn : cs.length ≤ 10) (hl : ls.flatten.length ≤ 50000) :
  Calls Tryz.prog 118 #[.slice (some ⟨g, 0, none⟩) cs.length cs.length] w fun e w' => ∃ V, e = .returned V ∧ OwnsR encI 2 29 w' w.heap.size V ls.flatten ∧ Below w.heap.size w w' := by
 have HI := hd_ h;have HS := hd_ hs;have HL : Hid (∀ k, tot ls k ≤ 50000) := hd_ (fun k => Nat.le_trans (flat_len_le ls k) hl)
 clear h hs;go_enter Tryz.func118, Tryz.ntmps118
 go_wp2_with fail;go_loop [3, 11] (fun s3 s11 => ∃ k : Nat, k ≤ cs.length ∧ s11 = .int .i64 k ∧ s3 = .int .i64 (tot ls k)) (fun _ s11 => cs.length - (intOf s11).toNat)
 case atStart => exact ⟨0, by omega, rfl, by simp [tot]⟩
 case round =>
  obtain ⟨k, hkl, rfl, rfl⟩ := hrel;have i3 : (0 : Int) ≤ (k : Int) := by omega
  by_cases hlt : k < cs.length
  ·have hd : decide ((k : Int) < (cs.length : Int)) = true := by simp; omega
   have i4 : (k : Int) < (cs.length : Int) := by omega
   obtain ⟨A, c, hv, hz⟩ := HS.out k hlt (by omega)
   have c1 := lots_cell HI.out hlt;rw [hv] at c1;clear hz hv;have hm := HL.out (k + 1);have hT := tot_next (ls := ls) (k := k) (by omega)
   rw [hT] at hm;have HT := hd_ hT;clear hT;generalize (ls[k]'(by omega)).length = q at *
   generalize tot ls k = p at *;have hw : IntKind.i64.wrap ((p : Int) + (q : Int)) = (p : Int) + (q : Int) := IntWalk.i64_in _ ⟨by omega, by omega⟩
   have hd2 : decide ((p : Int) + (q : Int) < 0) = false := by simp; omega
   go_wp2_with fail;go_round
   case rel => exact ⟨k + 1, by omega, by go_num, by rw [HT.out, Int.natCast_add]⟩
   case measure => simp [intOf]; omega
  ·have hd : decide ((k : Int) < (cs.length : Int)) = false := by simp; omega
   have hm := HL.out k;generalize tot ls k = p at *;go_wp2_with fail;refine (growI_any _ _ (by omega)).mono ?_
   rintro e w1 ⟨V0, rfl, hO, hb⟩;have HB := hd_ hb;have HO := hd_ hO;have HI1 := hd_ (lots_below HI.out hb);have HS1 := hd_ fun k hk hk' => (HS.out k hk hk').below hb
   clear hb hO hd;go_wp2_with fail;go_loopw [6, 27] (fun s6 s27 wr => ∃ k : Nat, k ≤ cs.length ∧ s27 = .int .i64 k ∧ Hid (OwnsR encI 2 29 wr w.heap.size s6 (ls.take k).flatten) ∧ Hid (Below w.heap.size w wr)) (fun _ s27 _ => cs.length - (intOf s27).toNat)
   case atStart => exact ⟨0, by omega, rfl, hd_ (by simpa using HO.out), HB⟩
   case round =>
    obtain ⟨k, hkl, rfl, HO, HW⟩ := hrel;have i3 : (0 : Int) ≤ (k : Int) := by omega
    by_cases hlt : k < cs.length
    ·have hd : decide ((k : Int) < (cs.length : Int)) = true := by simp; omega
     have i4 : (k : Int) < (cs.length : Int) := by omega
     have hR := (HS.out k hlt (by omega)).below HW.out
     have HR := hd_ hR;obtain ⟨A, c, hv, _⟩ := hR;have c1 := lots_cell (lots_below HI.out HW.out) hlt;rw [hv] at c1 HR;have HT := hd_ (flat_take (ls := ls) (k := k) (by omega))
     have HM := hd_ (show (ls.take k).flatten.length + (ls[k]'(by omega)).length ≤ 100000 from (Nat.le_trans (Nat.le_of_eq (tot_next (ls := ls) (k := k) (by omega)).symm) (Nat.le_trans (HL.out (k + 1)) (by omega))))
     have hbs := HW.out.size;go_wp2_with (at_builtin; refine wpList_append_recs (enc := encI) (sz := 2) 23 29 Tryz.underlying23 info30 rfl encI_len (by omega) encI_one (by omega) rfl (.tmp 31) (.tmp 32) rfl wr w.heap.size _ _ (ls.take k).flatten (ls[k]'(by omega)) rfl rfl HO.out HR.out HM.out hbs ?_; intro v' w' hO' hB'; have HO' := hd_ hO'; have HB' := hd_ (HW.out.trans hB'); clear hO' hB')
     go_roundw
     case rel => exact ⟨k + 1, by omega, by go_num, by rw [HT.out]; exact HO', HB'⟩
     case measure => simp [intOf]; omega
    ·have hd : decide ((k : Int) < (cs.length : Int)) = false := by simp; omega
     have HF := hd_ (show (ls.take k).flatten = ls.flatten by rw [List.take_of_length_le (by omega)])
     go_wp2_with fail;go_ret;exact ⟨_, rfl, by rw [← HF.out]; exact HO.out, HW.out⟩
set_option maxHeartbeats 1000000 in
theorem growM_any (n : Nat) (w : World) (hn : n ≤ 100000) :
  Calls Tryz.prog 157 #[.slice none 0 0, .int .i64 n] w fun e w' => ∃ V, e = .returned V ∧ OwnsR encM 4 31 w' w.heap.size V [] ∧ Below w.heap.size w w' := by
 have h1 : decide ((n : Int) < 0) = false := by simp
 by_cases hp : 0 < n
 ·obtain ⟨i0, hi, hz0, hz1, hz2⟩ := info_parts info32
  have hr : ∀ T, (Builtin.append_ #[22, 3] T #[.slice none 0 0, .int .i64 n]).run Tryz.prog w = .ok (.slice (some ⟨w.heap.size, 0, none⟩) n (grownCap w n 0 31)) (w.drew.alloc (.cells (Builtin.zeroCells (Value.agg #[.int .i64 0, .int .i64 0, .int .u8 0, .int .i64 0]).cells n ++ Builtin.zeroCells (Value.agg #[.int .i64 0, .int .i64 0, .int .u8 0, .int .i64 0]).cells (grownCap w n 0 31 - n)) 31)) := fun T =>
   Lib.run_append_nil_zeros w 22 3 T 31 i0 _ .i64 .i64 Tryz.underlying22 Tryz.underlying3 hi hz0 n hp (by omega) (by omega) (by rw [hz2]; omega)
  have hc1 : n ≤ grownCap w n 0 31 := grownCap_ge w _ _ _
  have hc2 : grownCap w n 0 31 ≤ maxLen := grownCap_le_maxLen w n 0 31 (by unfold maxLen; omega)
  have HO : Hid (OwnsR encM 4 31 (w.drew.alloc (.cells (Builtin.zeroCells (Value.agg #[.int .i64 0, .int .i64 0, .int .u8 0, .int .i64 0]).cells n ++ Builtin.zeroCells (Value.agg #[.int .i64 0, .int .i64 0, .int .u8 0, .int .i64 0]).cells (grownCap w n 0 31 - n)) 31)) w.heap.size (.slice (some ⟨w.heap.size, 0, none⟩) 0 (grownCap w n 0 31)) []) := hd_ (World.ownsRow_made w.drew _ _ (Nat.le_refl _) hc2 (by simp [Builtin.zeroCells, Value.cells]; omega))
  have HB : Hid (Below w.heap.size w (w.drew.alloc (.cells (Builtin.zeroCells (Value.agg #[.int .i64 0, .int .i64 0, .int .u8 0, .int .i64 0]).cells n ++ Builtin.zeroCells (Value.agg #[.int .i64 0, .int .i64 0, .int .u8 0, .int .i64 0]).cells (grownCap w n 0 31 - n)) 31))) := hd_ ((Below.drew (Below.refl _ w)).alloc (Nat.le_refl _) _)
  generalize grownCap w n 0 31 = G at *;generalize Builtin.zeroCells (Value.agg #[.int .i64 0, .int .i64 0, .int .u8 0, .int .i64 0]).cells n ++ Builtin.zeroCells (Value.agg #[.int .i64 0, .int .i64 0, .int .u8 0, .int .i64 0]).cells (G - n) = R at *;have h2 : decide ((n : Int) > 0) = true := by simpa using hp
  have h2' : decide (0 < (n : Int)) = true := by simpa using hp
  have hw : IntKind.i64.wrap (n : Int) = n := IntWalk.i64_in _ ⟨by omega, by omega⟩
  clear hi hz0 hz1 hz2 hc2;go_enter Tryz.func157, Tryz.ntmps157
  go_wp2_with (at_builtin; refine Lib.wpList_append_run _ rfl _ _ _ _ rfl _ _ rfl rfl _ _ (hr _) ?_)
  go_ret;exact ⟨_, rfl, HO.out, HB.out⟩
 ·obtain rfl : n = 0 := by omega
  have HO : Hid (OwnsR encM 4 31 w w.heap.size (.slice none 0 0) []) := hd_ (OwnsR.nil _ _ _)
  go_enter Tryz.func157, Tryz.ntmps157
  go_wp2_with fail;go_ret;exact ⟨_, rfl, HO.out, Below.refl _ _⟩
set_option maxHeartbeats 4000000 in
theorem concatM_any (g : Nat) (cs : List Value) (ls : List (List Mm)) (w : World) {tt : Nat} (h : Lots w g tt cs) (hcl : cs.length = ls.length) (hs : ∀ (k : Nat) (hk : k < cs.length) (hk' : k < ls.length), Rcs encM 4 w cs[k] ls[k]) (hn : cs.length ≤ 10) (hl : ls.flatten.length ≤ 50000) :
  Calls Tryz.prog 115 #[.slice (some ⟨g, 0, none⟩) cs.length cs.length] w fun e w' => ∃ V, e = .returned V ∧ OwnsR encM 4 31 w' w.heap.size V ls.flatten ∧ Below w.heap.size w w' := by
 have HI := hd_ h;have HS := hd_ hs;have HL : Hid (∀ k, tot ls k ≤ 50000) := hd_ (fun k => Nat.le_trans (flat_len_le ls k) hl)
 clear h hs;go_enter Tryz.func115, Tryz.ntmps115
 go_wp2_with fail;go_loop [3, 11] (fun s3 s11 => ∃ k : Nat, k ≤ cs.length ∧ s11 = .int .i64 k ∧ s3 = .int .i64 (tot ls k)) (fun _ s11 => cs.length - (intOf s11).toNat)
 case atStart => exact ⟨0, by omega, rfl, by simp [tot]⟩
 case round =>
  obtain ⟨k, hkl, rfl, rfl⟩ := hrel;have i3 : (0 : Int) ≤ (k : Int) := by omega
  by_cases hlt : k < cs.length
  ·have hd : decide ((k : Int) < (cs.length : Int)) = true := by simp; omega
   have i4 : (k : Int) < (cs.length : Int) := by omega
   obtain ⟨A, c, hv, hz⟩ := HS.out k hlt (by omega)
   have c1 := lots_cell HI.out hlt;rw [hv] at c1;clear hz hv;have hm := HL.out (k + 1);have hT := tot_next (ls := ls) (k := k) (by omega)
   rw [hT] at hm;have HT := hd_ hT;clear hT;generalize (ls[k]'(by omega)).length = q at *
   generalize tot ls k = p at *;have hw : IntKind.i64.wrap ((p : Int) + (q : Int)) = (p : Int) + (q : Int) := IntWalk.i64_in _ ⟨by omega, by omega⟩
   have hd2 : decide ((p : Int) + (q : Int) < 0) = false := by simp; omega
   go_wp2_with fail;go_round
   case rel => exact ⟨k + 1, by omega, by go_num, by rw [HT.out, Int.natCast_add]⟩
   case measure => simp [intOf]; omega
  ·have hd : decide ((k : Int) < (cs.length : Int)) = false := by simp; omega
   have hm := HL.out k;generalize tot ls k = p at *;go_wp2_with fail;refine (growM_any _ _ (by omega)).mono ?_
   rintro e w1 ⟨V0, rfl, hO, hb⟩;have HB := hd_ hb;have HO := hd_ hO;have HI1 := hd_ (lots_below HI.out hb);have HS1 := hd_ fun k hk hk' => (HS.out k hk hk').below hb
   clear hb hO hd;go_wp2_with fail;go_loopw [6, 27] (fun s6 s27 wr => ∃ k : Nat, k ≤ cs.length ∧ s27 = .int .i64 k ∧ Hid (OwnsR encM 4 31 wr w.heap.size s6 (ls.take k).flatten) ∧ Hid (Below w.heap.size w wr)) (fun _ s27 _ => cs.length - (intOf s27).toNat)
   case atStart => exact ⟨0, by omega, rfl, hd_ (by simpa using HO.out), HB⟩
   case round =>
    obtain ⟨k, hkl, rfl, HO, HW⟩ := hrel;have i3 : (0 : Int) ≤ (k : Int) := by omega
    by_cases hlt : k < cs.length
    ·have hd : decide ((k : Int) < (cs.length : Int)) = true := by simp; omega
     have i4 : (k : Int) < (cs.length : Int) := by omega
     have hR := (HS.out k hlt (by omega)).below HW.out
     have HR := hd_ hR;obtain ⟨A, c, hv, _⟩ := hR;have c1 := lots_cell (lots_below HI.out HW.out) hlt;rw [hv] at c1 HR;have HT := hd_ (flat_take (ls := ls) (k := k) (by omega))
     have HM := hd_ (show (ls.take k).flatten.length + (ls[k]'(by omega)).length ≤ 100000 from (Nat.le_trans (Nat.le_of_eq (tot_next (ls := ls) (k := k) (by omega)).symm) (Nat.le_trans (HL.out (k + 1)) (by omega))))
     have hbs := HW.out.size;go_wp2_with (at_builtin; refine wpList_append_recs (enc := encM) (sz := 4) 22 31 Tryz.underlying22 info32 rfl encM_len (by omega) encM_one (by omega) rfl (.tmp 31) (.tmp 32) rfl wr w.heap.size _ _ (ls.take k).flatten (ls[k]'(by omega)) rfl rfl HO.out HR.out HM.out hbs ?_; intro v' w' hO' hB'; have HO' := hd_ hO'; have HB' := hd_ (HW.out.trans hB'); clear hO' hB')
     go_roundw
     case rel => exact ⟨k + 1, by omega, by go_num, by rw [HT.out]; exact HO', HB'⟩
     case measure => simp [intOf]; omega
    ·have hd : decide ((k : Int) < (cs.length : Int)) = false := by simp; omega
     have HF := hd_ (show (ls.take k).flatten = ls.flatten by rw [List.take_of_length_le (by omega)])
     go_wp2_with fail;go_ret;exact ⟨_, rfl, by rw [← HF.out]; exact HO.out, HW.out⟩
end
section
open Go Go.RowKit Ros
theorem max_two (a b : Int) (w : World) : (Builtin.max_ #[3, 3] 3 #[.int .i64 a, .int .i64 b]).run Tryz.prog w = .ok (.int .i64 (max a b)) w := by
 have h2 : ∀ x y : Int, Builtin.max2 (.int .i64 x) (.int .i64 y) = pure (.int .i64 (max x y)) := by
  intro x y;show pure (Value.int .i64 (if x < y then y else x)) = _
  by_cases h : x < y
  ·rw [if_pos h, show max x y = y by omega]
  ·rw [if_neg h, show max x y = x by omega]
 simp [Builtin.max_, h2, List.foldlM, Sem.run_pure]
theorem max_two8 (a b : Int) (w : World) : (Builtin.max_ #[5, 5] 5 #[.int .u8 a, .int .u8 b]).run Tryz.prog w = .ok (.int .u8 (max a b)) w := by
 have h2 : ∀ x y : Int, Builtin.max2 (.int .u8 x) (.int .u8 y) = pure (.int .u8 (max x y)) := by
  intro x y;show pure (Value.int .u8 (if x < y then y else x)) = _
  by_cases h : x < y
  ·rw [if_pos h, show max x y = y by omega]
  ·rw [if_neg h, show max x y = x by omega]
 simp [Builtin.max_, h2, List.foldlM, Sem.run_pure]
theorem min_two (a b : Int) (w : World) : (Builtin.min_ #[3, 3] 3 #[.int .i64 a, .int .i64 b]).run Tryz.prog w = .ok (.int .i64 (min a b)) w := by
 have h2 : ∀ x y : Int, Builtin.min2 (.int .i64 x) (.int .i64 y) = pure (.int .i64 (min x y)) := by
  intro x y;show pure (Value.int .i64 (if y < x then y else x)) = _
  by_cases h : y < x
  ·rw [if_pos h, show min x y = y by omega]
  ·rw [if_neg h, show min x y = x by omega]
 simp [Builtin.min_, h2, List.foldlM, Sem.run_pure]
theorem elder_any (a b : Int) (w : World) :
  Calls Tryz.prog 160 #[.int .i64 a, .int .i64 b] w fun e w' => e = .returned (.int .i64 (elder a b)) ∧ w = w' := by
 have hm := max_two b 0 w;have hn := min_two a b w;by_cases h1 : a ≤ 0
 ·have HE := hd_ (show elder a b = max b 0 by unfold elder; rw [if_pos h1])
  go_enter Tryz.func160, Tryz.ntmps160
  go_wp2_with fail;go_ret;exact ⟨ret_int HE.out.symm, rfl⟩
 ·by_cases h2 : b ≤ 0
  ·have HE := hd_ (show elder a b = a by unfold elder; rw [if_neg h1, if_pos h2])
   go_enter Tryz.func160, Tryz.ntmps160
   go_wp2_with fail;go_ret;exact ⟨ret_int HE.out.symm, rfl⟩
  ·have HE := hd_ (show elder a b = min a b by unfold elder; rw [if_neg h1, if_neg h2])
   go_enter Tryz.func160, Tryz.ntmps160
   go_wp2_with fail;go_ret;exact ⟨ret_int HE.out.symm, rfl⟩
theorem grown_drew {a w : World} {r : Option Nat} (h : a.grownBy w r) : a.grownBy w.drew r := ⟨h.os, h.tape, h.output, h.size, h.block⟩
theorem arr_at (L : Nat → Int) (j : Nat) (hj : j < (List.map L (List.range 13)).toArray.size) : (List.map L (List.range 13)).toArray[j] = L j := by simp
theorem lives_set {w : World} {g k : Nat} {L : Nat → Int} (h : Lives w g L) (hk : k < 13) (i : Int) : Lives (w.setCell ⟨g, k, none⟩ (.int .i64 (max (L k) i))) g (raise L ((k : Int), i)) := by
 refine ⟨by rw [World.size_setCell]; exact h.1, fun j hj => ?_⟩
 have := rowAtR_set (enc := fun x : Int => [.int .i64 x]) (sz := 1) (fun _ => rfl) (w := w) (g := g) (d := (List.map L (List.range 13)).toArray) ⟨h.1, fun q hq m u hu => by
  have hq' : q < 13 := by simpa using hq
  have hm : m = 0 := by
   have := (List.getElem?_eq_some_iff.1 hu).1
   simpa using this
  subst hm
  have e : (List.map L (List.range 13)).toArray[q]! = L q := by
   rw [getElem!_pos _ q hq];simp
  rw [e] at hu;rw [← Option.some.inj hu, Nat.mul_one, Nat.add_zero];exact h.2 q hq'⟩ (i := k) (by simpa using hk) (max (L k) i)
 have h2 := this.2 j (by simpa using hj) 0 (.int .i64 (raise L ((k : Int), i) j)) (by
  have e : ((List.map L (List.range 13)).toArray.setIfInBounds k (max (L k) i))[j]! = raise L ((k : Int), i) j := by
   rw [getElem!_pos _ j (by simpa using hj)]
   by_cases e : j = k
   ·subst e
    rw [Array.getElem_setIfInBounds_self, raise_yes (x := ((j : Int), i)) rfl]
   ·rw [Array.getElem_setIfInBounds_ne (by simpa using hj) (fun h => e h.symm), raise_no (x := ((k : Int), i)) (by show ¬ (k : Int) = (j : Int); omega)]
    exact arr_at L j _
  rw [e];rfl)
 rw [Nat.mul_one, Nat.mul_one, Nat.add_zero] at h2;exact h2
set_option maxHeartbeats 4000000 in
theorem raise_any (g k : Nat) (L : Nat → Int) (i : Int) (w : World) (h : Lives w g L) (hk : k < 13) :
  Calls Tryz.prog 159 #[.pointer (some ⟨g, 0, none⟩), .agg #[.int .i64 k, .int .i64 i]] w fun e w' => e = .returned (.tuple #[]) ∧ Lives w' g (raise L ((k : Int), i)) ∧ w.grownBy w' (some g) := by
 have HB := hd_ (ad_ w (.cells #[.int .i64 k, .int .i64 i] 29));have HX := hd_ (ao_ w k i);have HL := hd_ (lives_below h HB.out);have HS := hd_ (fun W (hW : Lives W g L) => lives_set hW hk i)
 have HG := hd_ (am_ (World.grownBy.refl w (some g)) HB.out);have hm := fun W => max_two (L k) i W
 obtain ⟨c1, f1⟩ := HL.out.2 k hk;obtain ⟨c2, c3⟩ := ae_ HX.out;have p1 : (0 : Int) ≤ (k : Int) := by omega
 have p2 : (k : Int) < 13 := by omega
 generalize L k = z at *;clear h;go_enter Tryz.func159, Tryz.ntmps159
 go_wp2_with fail;go_region
 all_goals
  go_wp2_with fail;go_end0
  refine ⟨rfl, ?_, ?_⟩
  ·exact HS.out _ HL.out
  ·exact grown_drew (grown_setCells HG.out k [_])
set_option maxHeartbeats 1000000 in
theorem gone_anyROS (g k : Nat) (L : Nat → Int) (i : Int) (w : World) (h : Lives w g L) (hk : k < 13) :
  Calls Tryz.prog 122 #[.pointer (some ⟨g, 0, none⟩), .agg #[.int .i64 k, .int .i64 i]] w fun e w' => e = .returned (.bool (decide (i ≤ L k))) ∧ Below w.heap.size w w' := by
 have HB := hd_ (ad_ w (.cells #[.int .i64 k, .int .i64 i] 29));have HX := hd_ (ao_ w k i);have HL := hd_ (lives_below h HB.out);obtain ⟨c1, f1⟩ := HL.out.2 k hk;obtain ⟨c2, c3⟩ := ae_ HX.out;have p1 : (0 : Int) ≤ (k : Int) := by omega
 have p2 : (k : Int) < 13 := by omega
 generalize L k = z at *;clear h;go_enter Tryz.func122, Tryz.ntmps122
 go_wp2_with fail;go_quiet (fail)
 go_wp2_with fail;go_ret;exact ⟨rfl, below_drewN HB.out⟩
theorem gone_asks (X g : Nat) (L : Nat → Int) : AsksM 121 #[.pointer (some ⟨X, 0, none⟩)] (goneM L) (fun W => One W X 117 (.pointer (some ⟨g, 0, none⟩)) ∧ Lives W g L) (fun x => 0 ≤ x.1.1 ∧ x.1.1 < 13) where
 enters := fun args W => enters_fn Tryz.func121 (by kernel_rfl) rfl args W
 kept _ _ h hb := ⟨a0_ h.1 hb, lives_below h.2 hb⟩
 call a i s n W hc hS := by
  have hc1 : 0 ≤ a := hc.1
  have hc2 : a < 13 := hc.2
  obtain ⟨k, rfl⟩ : ∃ k : Nat, a = (k : Int) := ⟨a.toNat, by omega⟩
  have HB := hd_ (ad_ W (.cells #[.int .i64 k, .int .i64 i, .int .u8 s, .int .i64 n] 31));have HO := hd_ (a0_ hS.1 HB.out);have HL := hd_ (lives_below hS.2 HB.out);have HM := hd_ (mbox_new W k i s n);have HR := hd_ (show goneM L (((k : Int), i), s, n) = decide (i ≤ L k) by unfold goneM; simp)
  have hk : k < 13 := by omega
  clear hS hc;have c0 := one_cell HO.out;obtain ⟨c1, c2, c3, c4⟩ := aw_ HM.out;go_enter Tryz.func121, Tryz.ntmps121
  go_wp2_with fail;refine (gone_anyROS g k L i _ HL.out hk).mono ?_
  rintro e w1 ⟨rfl, hb⟩;have H1 := hd_ (ba_ HB.out hb);clear hb;go_wp2_with fail;go_ret;exact ⟨af_ HR.out.symm, H1.out⟩
end
section
open Go Go.RowKit Ros
def zeroL : Nat → Int := fun _ => 0
theorem lives_zero {W : World} {n : Nat} (h : W.heap[n]? = some (.cells #[.int .i64 0, .int .i64 0, .int .i64 0, .int .i64 0, .int .i64 0, .int .i64 0, .int .i64 0, .int .i64 0, .int .i64 0, .int .i64 0, .int .i64 0, .int .i64 0, .int .i64 0] 150 (0, 0))) : Lives W n zeroL := by
 refine ⟨row_lt h, fun k hk => ⟨?_, by simp [World.frozen?, h]⟩⟩
 rw [cell_of_row _ _ k _ _ _ h];match k, hk with
 | 0, _ => rfl
 | 1, _ => rfl
 | 2, _ => rfl
 | 3, _ => rfl
 | 4, _ => rfl
 | 5, _ => rfl
 | 6, _ => rfl
 | 7, _ => rfl
 | 8, _ => rfl
 | 9, _ => rfl
 | 10, _ => rfl
 | 11, _ => rfl
 | 12, _ => rfl
theorem lives_new (w : World) : Lives (w.alloc (.cells #[.int .i64 0, .int .i64 0, .int .i64 0, .int .i64 0, .int .i64 0, .int .i64 0, .int .i64 0, .int .i64 0, .int .i64 0, .int .i64 0, .int .i64 0, .int .i64 0, .int .i64 0] 150)) w.heap.size zeroL := lives_zero (heap_alloc_new w _)
def given (gs : List Id2) : Nat → Int := gs.foldl raise zeroL
theorem given_next {gs : List Id2} {k : Nat} (hk : k < gs.length) : given (gs.take (k + 1)) = raise (given (gs.take k)) gs[k] := by
 unfold given;rw [List.take_succ_eq_append_getElem hk, List.foldl_append];rfl
theorem newest_next {ms : List Mm} {k : Nat} (hk : k < ms.length) : newest (ms.take (k + 1)) = raise (newest (ms.take k)) ms[k].1 := by
 unfold newest;rw [List.take_succ_eq_append_getElem hk, List.foldl_append];rfl
def lower (nw : Nat → Int) (ms : List Mm) (L : Nat → Int) : Nat → Int := ms.foldl (raiseIf nw) L
theorem lower_next {nw L : Nat → Int} {ms : List Mm} {k : Nat} (hk : k < ms.length) : lower nw (ms.take (k + 1)) L = raiseIf nw (lower nw (ms.take k) L) ms[k] := by
 unfold lower;rw [List.take_succ_eq_append_getElem hk, List.foldl_append];rfl
theorem floors_is (ms : List Mm) (gs : List Id2) : floors ms gs = lower (newest ms) ms (given gs) := rfl
set_option maxHeartbeats 4000000 in
theorem raised_any (v u : Value) (l : List Mm) (gs : List Id2) (w : World) (h : Ms w v l) (k : Ids w u gs) (hl : l.length ≤ 100000) (hg : gs.length ≤ 100000) (hc : AllC l) (hv : AllV gs) :
  Calls Tryz.prog 120 #[v, u] w fun e w' => ∃ F, e = .returned (.pointer (some ⟨F, 0, none⟩)) ∧ w.heap.size ≤ F ∧ Lives w' F (floors l gs) ∧ Below w.heap.size w w' := by
 have HI := hd_ h;have HG := hd_ k;have HC := hd_ hc;have HV := hd_ hv;obtain ⟨A, c, rfl, hz⟩ := h;obtain ⟨D, d, rfl, hy⟩ := k;clear hz hy hc hv;have HN := hd_ (lives_below (lives_new w) (ad_ _ (.cells #[.int .i64 0, .int .i64 0, .int .i64 0, .int .i64 0, .int .i64 0, .int .i64 0, .int .i64 0, .int .i64 0, .int .i64 0, .int .i64 0, .int .i64 0, .int .i64 0, .int .i64 0] 150)));have HF := hd_ (show Lives ((w.alloc (.cells #[.int .i64 0, .int .i64 0, .int .i64 0, .int .i64 0, .int .i64 0, .int .i64 0, .int .i64 0, .int .i64 0, .int .i64 0, .int .i64 0, .int .i64 0, .int .i64 0, .int .i64 0] 150)).alloc (.cells #[.int .i64 0, .int .i64 0, .int .i64 0, .int .i64 0, .int .i64 0, .int .i64 0, .int .i64 0, .int .i64 0, .int .i64 0, .int .i64 0, .int .i64 0, .int .i64 0, .int .i64 0] 150)) (w.heap.size + 1) zeroL by simpa using lives_new (w.alloc (.cells #[.int .i64 0, .int .i64 0, .int .i64 0, .int .i64 0, .int .i64 0, .int .i64 0, .int .i64 0, .int .i64 0, .int .i64 0, .int .i64 0, .int .i64 0, .int .i64 0, .int .i64 0] 150)))
 have HB := hd_ (below_two w (.cells #[.int .i64 0, .int .i64 0, .int .i64 0, .int .i64 0, .int .i64 0, .int .i64 0, .int .i64 0, .int .i64 0, .int .i64 0, .int .i64 0, .int .i64 0, .int .i64 0, .int .i64 0] 150) (.cells #[.int .i64 0, .int .i64 0, .int .i64 0, .int .i64 0, .int .i64 0, .int .i64 0, .int .i64 0, .int .i64 0, .int .i64 0, .int .i64 0, .int .i64 0, .int .i64 0, .int .i64 0] 150));go_enter Tryz.func120, Tryz.ntmps120
 go_wp2_with fail;go_loopw [15] (fun s15 wr => ∃ k : Nat, k ≤ gs.length ∧ s15 = .int .i64 k ∧ Hid (Lives wr w.heap.size zeroL) ∧ Hid (Lives wr (w.heap.size + 1) (given (gs.take k))) ∧ Hid (Below w.heap.size w wr)) (fun s15 _ => gs.length - (intOf s15).toNat)
 case atStart => exact ⟨0, by omega, rfl, HN, HF, HB⟩
 case round =>
  obtain ⟨k, hkl, rfl, HN, HF, HW⟩ := hrel;have i3 : (0 : Int) ≤ (k : Int) := by omega
  by_cases hlt : k < gs.length
  ·have hd : decide ((k : Int) < (gs.length : Int)) = true := by simp; omega
   have i4 : (k : Int) < (gs.length : Int) := by omega
   obtain ⟨ad, rfl, c1, c2⟩ := HG.out.at_ HW.out hlt;have HT := hd_ (given_next hlt);obtain ⟨v1, v2, v3, v4⟩ := vid_iff.1 (HV.out _ (List.getElem_mem hlt));obtain ⟨a, ha⟩ : ∃ a : Nat, gs[k].1 = (a : Int) := ⟨gs[k].1.toNat, by omega⟩
   have HE := hd_ (show gs[k] = ((a : Int), gs[k].2) from Prod.ext ha rfl)
   have hk13 : a < 13 := by omega
   rw [HE.out] at HT;rw [ha] at c1;generalize gs[k].2 = i at *;have X0 := hd_ (lives_below HF.out (ad_ _ (.cells #[.int .i64 a, .int .i64 i] 29)));have X1 := hd_ (lives_below HN.out (ad_ _ (.cells #[.int .i64 a, .int .i64 i] 29)));have XB := hd_ (HW.out.trans ((ad_ wr (.cells #[.int .i64 a, .int .i64 i] 29)).mono HW.out.size));clear v1 v2 v3 v4 ha HE;go_wp2_with fail;refine (raise_any (w.heap.size + 1) a _ i _ X0.out hk13).mono ?_
   rintro e w1 ⟨rfl, hL, hb⟩;have F1 := hd_ hL;have N1 := hd_ (lives_grown X1.out hb (by omega))
   have B1 := hd_ (XB.out.trans (aj_ hb (by omega) XB.out.size))
   clear hL hb c1 c2;go_wp2_with fail;go_roundw
   case rel => exact ⟨k + 1, by omega, by go_num, N1, by rw [HT.out]; exact F1, B1⟩
   case measure => simp [intOf]; omega
  ·have hd : decide ((k : Int) < (gs.length : Int)) = false := by simp; omega
   have HF : Hid (Lives wr (w.heap.size + 1) (given gs)) := by have := HF.out; rw [List.take_of_length_le (by omega)] at this; exact hd_ this
   clear HG HV;go_wp2_with fail;go_loopw [24] (fun s24 wr => ∃ k : Nat, k ≤ l.length ∧ s24 = .int .i64 k ∧ Hid (Lives wr w.heap.size (newest (l.take k))) ∧ Hid (Lives wr (w.heap.size + 1) (given gs)) ∧ Hid (Below w.heap.size w wr)) (fun s24 _ => l.length - (intOf s24).toNat)
   case atStart => exact ⟨0, by omega, rfl, HN, HF, HW⟩
   case round =>
    obtain ⟨k, hkl, rfl, HN, HF, HW⟩ := hrel;have i3 : (0 : Int) ≤ (k : Int) := by omega
    by_cases hlt : k < l.length
    ·have hd : decide ((k : Int) < (l.length : Int)) = true := by simp; omega
     have i4 : (k : Int) < (l.length : Int) := by omega
     obtain ⟨ad, rfl, c1, c2, c3, c4⟩ := Ms.at_ HI.out HW.out hlt;have HT := hd_ (newest_next hlt);obtain ⟨⟨v1, v2, v3, v4⟩, _⟩ := cnt_iff.1 (HC.out _ (List.getElem_mem hlt));obtain ⟨a, ha⟩ : ∃ a : Nat, l[k].1.1 = (a : Int) := ⟨l[k].1.1.toNat, by omega⟩
     have HE := hd_ (show l[k].1 = ((a : Int), l[k].1.2) from Prod.ext ha rfl)
     have hk13 : a < 13 := by omega
     rw [HE.out] at HT;rw [ha] at c1;clear ha HE;generalize l[k].1.2 = i at *;generalize l[k].2.1 = s at *;generalize l[k].2.2 = n at *;have X0 := hd_ (lives_below HF.out (ad_ _ (.cells #[.int .i64 a, .int .i64 i, .int .u8 s, .int .i64 n] 31)));have X1 := hd_ (lives_below HN.out (ad_ _ (.cells #[.int .i64 a, .int .i64 i, .int .u8 s, .int .i64 n] 31)));have XB := hd_ (HW.out.trans ((ad_ wr (.cells #[.int .i64 a, .int .i64 i, .int .u8 s, .int .i64 n] 31)).mono HW.out.size));clear v1 v2 v3 v4;go_wp2_with fail;refine (raise_any w.heap.size a _ i _ X1.out hk13).mono ?_
     rintro e w1 ⟨rfl, hL, hb⟩;have N1 := hd_ hL;have F1 := hd_ (lives_grown X0.out hb (by omega))
     have B1 := hd_ (XB.out.trans (aj_ hb (by omega) XB.out.size))
     clear hL hb c1 c2 c3 c4;go_wp2_with fail;go_roundw
     case rel => exact ⟨k + 1, by omega, by go_num, by rw [HT.out]; exact N1, F1, B1⟩
     case measure => simp [intOf]; omega
    ·have hd : decide ((k : Int) < (l.length : Int)) = false := by simp; omega
     have HN : Hid (Lives wr w.heap.size (newest l)) := by have := HN.out; rw [List.take_of_length_le (by omega)] at this; exact hd_ this
     have HFl := hd_ (floors_is l gs);generalize newest l = nw at *;generalize given gs = L0 at *;go_wp2_with fail;go_loopw [34] (fun s34 wr => ∃ k : Nat, k ≤ l.length ∧ s34 = .int .i64 k ∧ Hid (Lives wr w.heap.size nw) ∧ Hid (Lives wr (w.heap.size + 1) (lower nw (l.take k) L0)) ∧ Hid (Below w.heap.size w wr)) (fun s34 _ => l.length - (intOf s34).toNat)
     case atStart => exact ⟨0, by omega, rfl, HN, HF, HW⟩
     case round =>
      obtain ⟨k, hkl, rfl, HN, HF, HW⟩ := hrel;have i3 : (0 : Int) ≤ (k : Int) := by omega
      by_cases hlt : k < l.length
      ·have hd : decide ((k : Int) < (l.length : Int)) = true := by simp; omega
       have i4 : (k : Int) < (l.length : Int) := by omega
       obtain ⟨ad, rfl, c1, c2, c3, c4⟩ := Ms.at_ HI.out HW.out hlt;have HT := hd_ (lower_next (nw := nw) (L := L0) hlt);obtain ⟨⟨v1, v2, v3, v4⟩, _⟩ := cnt_iff.1 (HC.out _ (List.getElem_mem hlt));obtain ⟨a, ha⟩ : ∃ a : Nat, l[k].1.1 = (a : Int) := ⟨l[k].1.1.toNat, by omega⟩
       have HE := hd_ (show l[k] = (((a : Int), l[k].1.2), l[k].2.1, l[k].2.2) from Prod.ext (Prod.ext ha rfl) rfl)
       have hk13 : a < 13 := by omega
       have ha0 : (0 : Int) ≤ (a : Int) := by omega
       have ha1 : (a : Int) < 13 := by omega
       rw [HE.out] at HT;rw [ha] at c1;clear ha HE;generalize l[k].1.2 = i at *;generalize l[k].2.1 = s at *;generalize l[k].2.2 = n at *;have X0 := hd_ (lives_below HF.out (ad_ _ (.cells #[.int .i64 a, .int .i64 i, .int .u8 s, .int .i64 n] 31)));have X1 := hd_ (lives_below HN.out (ad_ _ (.cells #[.int .i64 a, .int .i64 i, .int .u8 s, .int .i64 n] 31)));have XM := hd_ (mbox_new wr a i s n);have XB := hd_ (HW.out.trans ((ad_ wr (.cells #[.int .i64 a, .int .i64 i, .int .u8 s, .int .i64 n] 31)).mono HW.out.size));obtain ⟨q1, q2⟩ := X1.out.2 a hk13;obtain ⟨m1, m2, m3, m4⟩ := aw_ XM.out;have HO : Hid (isOld nw (((a : Int), i), s, n) = (decide (s = 7) || decide (i < nw a))) := hd_ (by unfold isOld; simp)
       clear v1 v2 v3 v4;generalize nw a = z at *;by_cases h7 : s = 7
       ·subst h7
        have HU := hd_ (show raiseIf nw (lower nw (l.take k) L0) (((a : Int), i), (7 : Int), n) = raise (lower nw (l.take k) L0) ((a : Int), i) by unfold raiseIf; rw [HO.out]; rfl)
        go_wp2_with fail;go_quiet (fail)
        go_wp2_with fail;refine (raise_any (w.heap.size + 1) a _ i _ (by exact X0.out) hk13).mono ?_
        rintro e w1 ⟨rfl, hL, hb⟩;have F1 := hd_ hL;have N1 := hd_ (lives_grown (by exact X1.out) hb (by omega))
        have B1 := hd_ ((below_drewN XB.out).trans (aj_ hb (by omega) XB.out.size))
        clear hL hb c1 c2 c3 c4 q1 q2 m1 m2 m3 m4;go_wp2_with fail;go_roundw
        case rel => exact ⟨k + 1, by omega, by go_num, N1, by rw [HT.out, HU.out]; exact F1, B1⟩
        case measure => simp [intOf]; omega
       ·have h8 : (s == 7) = false := by simpa using h7
        by_cases hi : i < z
        ·have hi2 : decide (i < z) = true := decide_eq_true hi
         have HU := hd_ (show raiseIf nw (lower nw (l.take k) L0) (((a : Int), i), s, n) = raise (lower nw (l.take k) L0) ((a : Int), i) by unfold raiseIf; rw [HO.out]; simp [hi])
         clear h7 hi;go_wp2_with fail;go_quiet (fail)
         go_wp2_with fail;refine (raise_any (w.heap.size + 1) a _ i _ (by exact X0.out) hk13).mono ?_
         rintro e w1 ⟨rfl, hL, hb⟩;have F1 := hd_ hL;have N1 := hd_ (lives_grown (by exact X1.out) hb (by omega))
         have B1 := hd_ ((below_drewN XB.out).trans (aj_ hb (by omega) XB.out.size))
         clear hL hb c1 c2 c3 c4 q1 q2 m1 m2 m3 m4;go_wp2_with fail;go_roundw
         case rel => exact ⟨k + 1, by omega, by go_num, N1, by rw [HT.out, HU.out]; exact F1, B1⟩
         case measure => simp [intOf]; omega
        ·have hi2 : decide (i < z) = false := decide_eq_false hi
         have HU := hd_ (show raiseIf nw (lower nw (l.take k) L0) (((a : Int), i), s, n) = lower nw (l.take k) L0 by unfold raiseIf; rw [HO.out]; simp [hi, h7])
         clear h7 hi;go_wp2_with fail;go_quiet (fail)
         go_wp2_with fail;go_roundw
         case rel => exact ⟨k + 1, by omega, by go_num, X1, by rw [HT.out, HU.out]; exact X0, hd_ (below_drewN XB.out)⟩
         case measure => simp [intOf]; omega
      ·have hd : decide ((k : Int) < (l.length : Int)) = false := by simp; omega
       have HF : Hid (Lives wr (w.heap.size + 1) (lower nw l L0)) := by have := HF.out; rw [List.take_of_length_le (by omega)] at this; exact hd_ this
       go_wp2_with fail;go_ret;exact ⟨_, rfl, by omega, by rw [HFl.out]; exact HF.out, HW.out⟩
end
section
open Go Go.RowKit Ros
def listPart (L : Nat → Int) (k : Nat) : List Id2 := (List.range k).filterMap fun j => if 0 < L j then some ((j : Int), L j) else none
theorem listPart_yes {L : Nat → Int} {k : Nat} (h : 0 < L k) : listPart L (k + 1) = listPart L k ++ [((k : Int), L k)] := by
 unfold listPart;rw [List.range_succ, List.filterMap_append];simp [h]
theorem listPart_no {L : Nat → Int} {k : Nat} (h : ¬ 0 < L k) : listPart L (k + 1) = listPart L k := by
 unfold listPart;rw [List.range_succ, List.filterMap_append];simp [h]
theorem listPart_len (L : Nat → Int) (k : Nat) : (listPart L k).length ≤ k := by
 unfold listPart;have := List.length_filterMap_le (fun j : Nat => if 0 < L j then some ((j : Int), L j) else none) (List.range k)
 simpa using this
theorem listF_is (L : Nat → Int) : listPart L 13 = listF L := rfl
set_option maxHeartbeats 4000000 in
theorem list_any (g : Nat) (L : Nat → Int) (w : World) (h : Lives w g L) :
  Calls Tryz.prog 124 #[.pointer (some ⟨g, 0, none⟩)] w fun e w' => ∃ V, e = .returned V ∧ Owns w' w.heap.size V (listF L) ∧ Below w.heap.size w w' := by
 have HL := hd_ h;clear h;go_enter Tryz.func124, Tryz.ntmps124
 go_wp2_with (at_make; refine wpList_make_roomROS _ rfl _ rfl 12 rfl (by omega) (by omega) ?_; intro v1 w1 h1 h2; have HO := hd_ h1; have HB := hd_ h2; clear h1 h2)
 go_loopw [3, 8] (fun s3 s8 wr => ∃ k : Nat, k ≤ 13 ∧ s8 = .int .i64 k ∧ Hid (Owns wr w.heap.size s3 (listPart L k)) ∧ Hid (Below w.heap.size w wr)) (fun _ s8 _ => 13 - (intOf s8).toNat)
 case atStart => exact ⟨0, by omega, rfl, HO, HB⟩
 case round =>
  obtain ⟨k, hkl, rfl, HO, HW⟩ := hrel;have i3 : (0 : Int) ≤ (k : Int) := by omega
  by_cases hlt : k < 13
  ·have hd : decide ((k : Int) < 13) = true := by simp; omega
   have i4 : (k : Int) < 13 := by omega
   have HL1 := hd_ (lives_below HL.out HW.out);obtain ⟨c1, f1⟩ := HL1.out.2 k hlt;have HS := hd_ HW.out.size;have HP := hd_ (Nat.le_trans (listPart_len L k) hkl);by_cases hp : 0 < L k
   ·have HT := hd_ (listPart_yes hp)
    have hd2 : decide (L k > 0) = true := by simpa using hp
    have hd3 : decide (0 < L k) = true := by simpa using hp
    generalize L k = z at *;clear hp f1;go_wp2_with fail;go_quiet (fail)
    have HO1 := hd_ fun n => HO.out.below (below_drewN (n := n) (Below.refl _ _))
    go_wp2_with (at_builtin; refine wpList_append_oneROS rfl (.tmp 16) (.tmp 20) rfl _ w.heap.size _ _ k z rfl rfl (HO1.out _) (by have := HP.out; omega) HS.out ?_; intro v' w' h1 h2; have O2 := hd_ h1; have B2 := hd_ ((below_drewN HW.out).trans h2); clear h1 h2)
    go_roundw
    case rel => exact ⟨k + 1, by omega, by go_num, by rw [HT.out]; exact O2, B2⟩
    case measure => simp [intOf]; omega
   ·have HT := hd_ (listPart_no hp)
    have hd2 : decide (L k > 0) = false := by simpa using hp
    have hd3 : decide (0 < L k) = false := by simpa using hp
    generalize L k = z at *;clear hp f1;go_wp2_with fail;go_quiet (fail)
    have HO1 := hd_ fun n => HO.out.below (below_drewN (n := n) (Below.refl _ _))
    go_wp2_with fail;go_roundw
    case rel => exact ⟨k + 1, by omega, by go_num, by rw [HT.out]; exact hd_ (HO1.out _), hd_ (below_drewN HW.out)⟩
    case measure => simp [intOf]; omega
  ·obtain rfl : k = 13 := by omega
   have HF := hd_ (listF_is L);go_wp2_with fail;go_ret;exact ⟨_, rfl, by rw [← HF.out]; exact HO.out, HW.out⟩
end
end Go.Proofs.YthkkipbmlafdiaaGreat
