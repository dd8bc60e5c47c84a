/-
  A walk over the statements' own way to write clocks. No statement is proved in this text; it holds for every input that its premises let by.
-/
import Derived.Test.YtpmfanglgkohjaaTicks
namespace Go.Proofs.Ytpmfanglgkohjaa
open Go.RowKit Sets Clocks
/-- Block g holds the numbers of these ticks. -/
def Lits (w : World) (g : Nat) (ps : List Tick) : Prop := w.heap[g]? = some (.cells (flatR encT ps).toArray 3 (0, 0))
theorem lits_cell {w : World} {g : Nat} {ps : List Tick} (h : Lits w g ps) {k : Nat} (hk : k < ps.length) : w.cell? ⟨g, k * 3, none⟩ = some (.int .i64 ps[k].1.1) ∧ w.cell? ⟨g, k * 3 + 1, none⟩ = some (.int .i64 ps[k].1.2) ∧ w.cell? ⟨g, k * 3 + 2, none⟩ = some (.int .i64 ps[k].2) := by
  unfold Lits at h
  have h0 := flatR_at encT_len ps k hk 0 _ rfl
  have h1 := flatR_at encT_len ps k hk 1 _ rfl
  have h2 := flatR_at encT_len ps k hk 2 _ rfl
  refine ⟨?_, ?_, ?_⟩
  · rw [cell_of_row _ _ _ _ _ _ h]
    simpa using h0
  · rw [cell_of_row _ _ _ _ _ _ h]
    simpa using h1
  · rw [cell_of_row _ _ _ _ _ _ h]
    simpa using h2
theorem lits_below {w w' : World} {g : Nat} {ps : List Tick} (h : Lits w g ps) (hb : Below w.heap.size w w') : Lits w' g ps := (hb.block g (row_lt h)).trans h
theorem take_snoc' {ps : List Tick} {k : Nat} (hk : k < ps.length) : ps.take k ++ [((ps[k].1.1, ps[k].1.2), ps[k].2)] = ps.take (k + 1) := by
  rw [List.take_succ_eq_append_getElem hk]
/-- append of one tick, in a region that draws its order. -/
theorem step_append_tick {ops : Array Oper} {o : Oper} {a : Act} {K : Act → World → Prop} {Q : Exit → Act → World → Prop} {E : Prop} (hgd : o.guard = none) (s x : Operand)
    (ho : o.op = .call { callee := .builtin .append, args := #[s, x], argTypes := #[24, 24] })
    (W : World) (base : Nat) (v : Value) (d : List Tick) (p q n : Int) (g : Nat) (hs : a.eval s = v) (hx : a.eval x = .slice (some ⟨g, 0, none⟩) 1 1)
    (hown : OwnsR encT 3 35 W base v d) (hX : TBox W g p q n) (hl : d.length ≤ 99999) (hb : base ≤ W.heap.size)
    (h : ∀ v' w', OwnsR encT 3 35 w' base v' (d ++ [((p, q), n)]) → Below base W w' → K (a.put o.dst v') w') :
    if Region.wanted o (yielded ops a.tmps) = true then Oper.wp Try.prog o a W K Q else E := by
  obtain ⟨i0, hi, hz0, hz1, hz2⟩ := info_parts info35
  refine step_append_lies W hgd s x 24 ho base 35 i0 (.agg #[.int .i64 0, .int .i64 0, .int .i64 0]) 3 24 Try.underlying24 hi hz0 hz1 hz2 rfl (by decide) v d.length (flatR encT d) hs hown ⟨g, 0, none⟩ 1 1 (encT ((p, q), n)) hx rfl
    (fun j u hu => ?_) (encT_one _) (by decide) (by unfold maxLen; omega) (by omega) hb W.heap.size rfl ?_
  · obtain ⟨c1, c2, c3⟩ := tbox_cells hX
    have hj : j < 3 := (List.getElem?_eq_some_iff.1 hu).1
    rw [add_lit]
    match j, hj with
    | 0, _ => rw [← (Option.some.inj hu)]; exact c1
    | 1, _ => rw [← (Option.some.inj hu)]; exact c2
    | 2, _ => rw [← (Option.some.inj hu)]; exact c3
  · intro g' cap w' h1 h2 _ _
    refine h _ w' ?_ ((Below.refl base W).grown h2 hb fun k hk => (World.ownsRow.lt hown k hk).1)
    unfold OwnsR
    rw [flatR_append, List.length_append]
    have e : flatR encT [((p, q), n)] = encT ((p, q), n) := by simp [flatR]
    rw [e]
    exact h1
set_option maxHeartbeats 2000000 in
theorem of_any (g n : Nat) (ps : List Tick) (w : World) (h : Lits w g ps) (hn : n = ps.length * 3) (hl : n ≤ 100) :
    Calls Try.prog 10 #[.slice (some ⟨g, 0, none⟩) n n] w (Lists ps w) := by
  have HI := Lib.hid h
  have HN := Lib.hid hn
  clear h hn
  go_enter Try.func10, Try.ntmps10
  go_wp2_with fail
  go_loopw [3, 4] (fun s3 s4 wr => ∃ k j : Nat, k ≤ ps.length ∧ j = k * 3 ∧ s4 = .int .i64 j ∧ OwnsR encT 3 35 wr w.heap.size s3 (ps.take k) ∧ Below w.heap.size w wr) (fun _ s4 _ => n - (intOf s4).toNat)
  case atStart => exact ⟨0, 0, by omega, rfl, rfl, OwnsR.nil _ _ _, Below.refl _ _⟩
  case round =>
    obtain ⟨k, j, hkl, hj, rfl, ho, hw⟩ := hrel
    have HW := Lib.hid hw
    have HO := Lib.hid ho
    have HJ := Lib.hid hj
    have hjn : j ≤ n := by have := HN.out; omega
    have i3 : (0 : Int) ≤ (j : Int) := by omega
    have hz : (ps.take k).length ≤ 100 := by have := HN.out; simp; omega
    by_cases hlt : k < ps.length
    · have hlt2 : j + 2 < n := by have := HN.out; omega
      have i4 : (j : Int) < (n : Int) := by omega
      have i5 : (j : Int) + 1 < (n : Int) := by omega
      have i5' : (j : Int) + 2 < (n : Int) := by omega
      have i6 : (0 : Int) ≤ (j : Int) + 1 := by omega
      have i6' : (0 : Int) ≤ (j : Int) + 2 := by omega
      have i7 : ((j : Int) + 1).toNat = j + 1 := by omega
      have i7' : ((j : Int) + 2).toNat = j + 2 := by omega
      have i8 : IntKind.i64.wrap ((j : Int) + 1) = (j : Int) + 1 := IntWalk.i64_in _ ⟨by omega, by omega⟩
      have i8' : IntKind.i64.wrap ((j : Int) + 2) = (j : Int) + 2 := IntWalk.i64_in _ ⟨by omega, by omega⟩
      have i9 : IntKind.i64.wrap ((j : Int) + 3) = (j : Int) + 3 := IntWalk.i64_in _ ⟨by omega, by omega⟩
      have hd : decide ((j : Int) + 2 < (n : Int)) = true := by simp; omega
      have HS := Lib.hid fun w' (hb : Below w.heap.size w w') => And.intro (lits_cell (lits_below HI.out hb) hlt) (Lib.hid hb)
      have HT := Lib.hid (take_snoc' hlt)
      rw [← hj] at HS
      generalize ps[k].1.1 = a at *
      generalize ps[k].1.2 = i at *
      generalize ps[k].2 = z at *
      clear hj hw ho
      go_wp2_with fail
      have M0 := Lib.hid (show OwnsR encT 3 35 (wr.alloc (.cells #[.int .i64 a, .int .i64 i, .int .i64 z] 35)).drew w.heap.size u3 (ps.take k) from HO.out.below (((Below.refl _ _).alloc (Nat.le_refl _) _).drew))
      have M1 := Lib.hid (show TBox (wr.alloc (.cells #[.int .i64 a, .int .i64 i, .int .i64 z] 35)).drew wr.heap.size a i z from tbox_new wr a i z)
      have M2 := Lib.hid (show w.heap.size ≤ (wr.alloc (.cells #[.int .i64 a, .int .i64 i, .int .i64 z] 35)).drew.heap.size by have := HW.out.size; simp; omega)
      have M3 := Lib.hid (show Below w.heap.size w (wr.alloc (.cells #[.int .i64 a, .int .i64 i, .int .i64 z] 35)).drew from (HW.out.alloc HW.out.size _).drew)
      go_region_held3 (fun w' => (w'.cell? ⟨g, j, none⟩ = some (.int .i64 a) ∧ w'.cell? ⟨g, j + 1, none⟩ = some (.int .i64 i) ∧ w'.cell? ⟨g, j + 2, none⟩ = some (.int .i64 z)) ∧ Hid (Below w.heap.size w w'))
        (first | exact HS.out _ HW.out.drew | exact HS.out _ M3.out | exact HS.out _ (HW.out.drew.alloc HW.out.size _) | exact HS.out _ HK.out)
        ((refine step_append_tick (by rfl) (.tmp 12) (.tmp 29) (by rfl) _ w.heap.size u3 _ a i z wr.heap.size (by rfl) (by rfl) M0.out M1.out (by omega) M2.out ?_; intro v7 w7 h1 h2; have O7 := Lib.hid h1; have HK := Lib.hid (M3.out.trans h2); clear h1 h2))
      go_wp2_with fail
      go_roundw
      case rel => exact ⟨k + 1, j + 3, by omega, by have := HJ.out; omega, by go_num, by rw [← HT.out]; exact O7.out, HK.out⟩
      case measure => simp [intOf]; omega
    · have hd : decide ((j : Int) + 2 < (n : Int)) = false := by have := HN.out; simp; omega
      have i8' : IntKind.i64.wrap ((j : Int) + 2) = (j : Int) + 2 := IntWalk.i64_in _ ⟨by omega, by omega⟩
      have HE := Lib.hid (show Rcs encT 3 wr u3 ps by have := rcs_owns encT_len HO.out; rwa [List.take_of_length_le (by omega)] at this)
      clear hj hw ho
      go_wp2_with fail
      go_ret
      exact ⟨_, rfl, HE.out, HW.out⟩
end Go.Proofs.Ytpmfanglgkohjaa
