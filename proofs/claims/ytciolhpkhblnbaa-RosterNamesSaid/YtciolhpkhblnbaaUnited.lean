/-
  A walk over what unites members, address by address. No statement is proved in this text; it holds for every input that its premises let by.
-/
import Derived.Test.YtciolhpkhblnbaaList
import Derived.Deep.RegionLaw
import Derived.StillTailTactics
namespace Go.Proofs.Ytciolhpkhblnbaa
open Go Go.RowKit Ros
/-- An array of what is known of each address. -/
def arrOf (A : Nat → Mm) : Array Mm := ((List.range 13).map A).toArray
theorem arrOf_size (A : Nat → Mm) : (arrOf A).size = 13 := by simp [arrOf]
theorem arrOf_get (A : Nat → Mm) {j : Nat} (hj : j < 13) : (arrOf A)[j]! = A j := by
  rw [getElem!_pos _ j (by rw [arrOf_size]; exact hj)]
  simp [arrOf]
theorem arrOf_toList (A : Nat → Mm) : (arrOf A).toList = (List.range 13).map A := by simp [arrOf]
def zeroM : Nat → Mm := fun _ => ((0, 0), 0, 0)
theorem arrOf_put {A : Nat → Mm} {a : Nat} (ha : a < 13) (i s n : Int) : (arrOf A).setIfInBounds a (((a : Int), i), max (A a).2.1 s, elder (A a).2.2 n) = arrOf (putM A (((a : Int), i), s, n)) := by
  apply Array.ext_getElem?
  intro j
  by_cases hj : j < 13
  · rw [Array.getElem?_eq_getElem (by simp [arrOf_size]; exact hj), Array.getElem?_eq_getElem (by simp [arrOf_size]; exact hj)]
    congr 1
    by_cases e : j = a
    · subst e
      rw [Array.getElem_setIfInBounds_self]
      simp [arrOf, putM]
    · rw [Array.getElem_setIfInBounds_ne (by simpa [arrOf_size] using hj) (fun h => e h.symm)]
      have : ¬ (j : Int) = (a : Int) := by omega
      simp [arrOf, putM, this]
  · rw [Array.getElem?_eq_none (by simp [arrOf_size]; omega), Array.getElem?_eq_none (by simp [arrOf_size]; omega)]
theorem byAddr_next {ms : List Mm} {k : Nat} (hk : k < ms.length) : byAddr (ms.take (k + 1)) = putM (byAddr (ms.take k)) ms[k] := by
  unfold byAddr
  rw [List.take_succ_eq_append_getElem hk, List.foldl_append]
  rfl
theorem united_is (ms : List Mm) : (arrOf (byAddr ms)).toList.filter (fun t => !noM t) = united ms := by rw [arrOf_toList]; rfl
theorem arr_zero {W : World} {n : Nat} (h : W.heap[n]? = some (.cells #[.int .i64 0, .int .i64 0, .int .u8 0, .int .i64 0, .int .i64 0, .int .i64 0, .int .u8 0, .int .i64 0, .int .i64 0, .int .i64 0, .int .u8 0, .int .i64 0, .int .i64 0, .int .i64 0, .int .u8 0, .int .i64 0, .int .i64 0, .int .i64 0, .int .u8 0, .int .i64 0, .int .i64 0, .int .i64 0, .int .u8 0, .int .i64 0, .int .i64 0, .int .i64 0, .int .u8 0, .int .i64 0, .int .i64 0, .int .i64 0, .int .u8 0, .int .i64 0, .int .i64 0, .int .i64 0, .int .u8 0, .int .i64 0, .int .i64 0, .int .i64 0, .int .u8 0, .int .i64 0, .int .i64 0, .int .i64 0, .int .u8 0, .int .i64 0, .int .i64 0, .int .i64 0, .int .u8 0, .int .i64 0, .int .i64 0, .int .i64 0, .int .u8 0, .int .i64 0] 78 (0, 0))) : RowAtR encM 4 W n (arrOf zeroM) := by
  have ho : OwnsR encM 4 78 W n (.slice (some ⟨n, 0, none⟩) (arrOf zeroM).size 13) (arrOf zeroM).toList := ⟨rfl, .inr ⟨n, 13, _, rfl, Nat.le_refl _, h, by decide, by decide, rfl, rfl⟩⟩
  exact rowAtR_owns encM_len ho
theorem arr_new (w : World) : RowAtR encM 4 (w.alloc (.cells #[.int .i64 0, .int .i64 0, .int .u8 0, .int .i64 0, .int .i64 0, .int .i64 0, .int .u8 0, .int .i64 0, .int .i64 0, .int .i64 0, .int .u8 0, .int .i64 0, .int .i64 0, .int .i64 0, .int .u8 0, .int .i64 0, .int .i64 0, .int .i64 0, .int .u8 0, .int .i64 0, .int .i64 0, .int .i64 0, .int .u8 0, .int .i64 0, .int .i64 0, .int .i64 0, .int .u8 0, .int .i64 0, .int .i64 0, .int .i64 0, .int .u8 0, .int .i64 0, .int .i64 0, .int .i64 0, .int .u8 0, .int .i64 0, .int .i64 0, .int .i64 0, .int .u8 0, .int .i64 0, .int .i64 0, .int .i64 0, .int .u8 0, .int .i64 0, .int .i64 0, .int .i64 0, .int .u8 0, .int .i64 0, .int .i64 0, .int .i64 0, .int .u8 0, .int .i64 0] 78)) w.heap.size (arrOf zeroM) := arr_zero (heap_alloc_new w _)
/-- A list that lies in new memory, free to be written. -/
def Lies (b0 : Nat) (w : World) (V : Value) (l : List Mm) : Prop := ∃ (d : Array Mm) (g c : Nat), V = .slice (some ⟨g, 0, none⟩) d.size c ∧ d.size ≤ c ∧ b0 ≤ g ∧ RowAtR encM 4 w g d ∧ d.toList = l
theorem Lies.reads {b0 : Nat} {w : World} {V : Value} {l : List Mm} (h : Lies b0 w V l) : Ms w V l := by
  obtain ⟨d, g, c, rfl, hc, _, hr, rfl⟩ := h
  exact rowAtR_rcs hr hc
theorem Lies.below {b0 : Nat} {w w' : World} {V : Value} {l : List Mm} (h : Lies b0 w V l) (hb : Below w.heap.size w w') : Lies b0 w' V l := by
  obtain ⟨d, g, c, hv, hc, hg, hr, hl⟩ := h
  exact ⟨d, g, c, hv, hc, hg, rowAtR_kept hr hb, hl⟩
theorem Lies.mono {b0 b1 : Nat} {w : World} {V : Value} {l : List Mm} (h : Lies b0 w V l) (hb : b1 ≤ b0) : Lies b1 w V l := by
  obtain ⟨d, g, c, hv, hc, hg, hr, hl⟩ := h
  exact ⟨d, g, c, hv, hc, by omega, hr, hl⟩
theorem rowAtR_grown {w w' : World} {g r : Nat} {d : Array Mm} (h : RowAtR encM 4 w g d) (hb : w.grownBy w' (some r)) (hg : g ≠ r) : RowAtR encM 4 w' g d := rowAtR_block h hb.size (hb.block g h.1 (by simpa using fun e => hg e))
/-- A region that draws its order, of reads and of calls that leave the world as it is, with a tail behind them: what is known of the world, and no more. -/
theorem still_tail {P : Program} {id : Nat} {Q : Exit → Act → World → Prop} {a : Act} {w : World} {l : List Oper} (n : Nat) (hm : P.follows .mixedOrders = true) (hB : Region.lexTailB .any l.toArray n = true) (F : World → Prop) (hF : F w.drew)
    (h : ∀ w2, F w2 → wpStill P l.toArray w2 (fun a' => wpList P l.toArray Q (l.drop n) a' w2) (l.take n) a) : (Code.region id l.toArray true).wp P Q a w := wp_region_still_tail n hm hB (h _ hF)
set_option maxHeartbeats 4000000 in
theorem united_any (v : Value) (l : List Mm) (w : World) (h : Ms w v l) (hl : l.length ≤ 100000) (hc : AllC l) :
    Calls Try.prog 50 #[v] w fun e w' => ∃ V, e = .returned V ∧ Lies w.heap.size w' V (united l) ∧ Below w.heap.size w w' := by
  have HI := Lib.hid h
  have HC := Lib.hid hc
  obtain ⟨A, c, rfl, hz⟩ := h
  clear hz hc
  have HA := Lib.hid (arr_new w)
  have HB := Lib.hid (below_one w (.cells #[.int .i64 0, .int .i64 0, .int .u8 0, .int .i64 0, .int .i64 0, .int .i64 0, .int .u8 0, .int .i64 0, .int .i64 0, .int .i64 0, .int .u8 0, .int .i64 0, .int .i64 0, .int .i64 0, .int .u8 0, .int .i64 0, .int .i64 0, .int .i64 0, .int .u8 0, .int .i64 0, .int .i64 0, .int .i64 0, .int .u8 0, .int .i64 0, .int .i64 0, .int .i64 0, .int .u8 0, .int .i64 0, .int .i64 0, .int .i64 0, .int .u8 0, .int .i64 0, .int .i64 0, .int .i64 0, .int .u8 0, .int .i64 0, .int .i64 0, .int .i64 0, .int .u8 0, .int .i64 0, .int .i64 0, .int .i64 0, .int .u8 0, .int .i64 0, .int .i64 0, .int .i64 0, .int .u8 0, .int .i64 0, .int .i64 0, .int .i64 0, .int .u8 0, .int .i64 0] 78))
  go_enter Try.func50, Try.ntmps50
  go_wp2_with fail
  go_loopw [9] (fun s9 wr => ∃ k : Nat, k ≤ l.length ∧ s9 = .int .i64 k ∧ Hid (RowAtR encM 4 wr w.heap.size (arrOf (byAddr (l.take k)))) ∧ Hid (Below w.heap.size w wr)) (fun s9 _ => l.length - (intOf s9).toNat)
  case atStart => exact ⟨0, by omega, rfl, HA, HB⟩
  case round =>
    obtain ⟨k, hkl, rfl, HA, HW⟩ := hrel
    have i3 : (0 : Int) ≤ (k : Int) := by omega
    by_cases hlt : k < l.length
    · have hd : decide ((k : Int) < (l.length : Int)) = true := by simp; omega
      have i4 : (k : Int) < (l.length : Int) := by omega
      obtain ⟨ad, rfl, c1, c2, c3, c4⟩ := Ms.at_ HI.out HW.out hlt
      have HT := Lib.hid (byAddr_next hlt)
      obtain ⟨⟨v1, v2, v3, v4⟩, _⟩ := cnt_iff.1 (HC.out _ (List.getElem_mem hlt))
      obtain ⟨a, ha⟩ : ∃ a : Nat, l[k].1.1 = (a : Int) := ⟨l[k].1.1.toNat, by omega⟩
      have HE := Lib.hid (show l[k] = (((a : Int), l[k].1.2), l[k].2.1, l[k].2.2) from Prod.ext (Prod.ext ha rfl) rfl)
      have hk13 : a < 13 := by omega
      have ha0 : (0 : Int) ≤ (a : Int) := by omega
      have ha1 : (a : Int) < 13 := by omega
      rw [HE.out] at HT
      rw [ha] at c1
      clear ha HE
      generalize l[k].1.2 = i at *
      generalize l[k].2.1 = s at *
      generalize l[k].2.2 = n at *
      have HP := Lib.hid (arrOf_put (A := byAddr (l.take k)) hk13 i s n)
      rw [← HT.out] at HP
      have A1 := Lib.hid (rowAtR_kept HA.out (below_one _ (.cells #[.int .i64 a, .int .i64 i, .int .u8 s, .int .i64 n] 32)))
      have hcell := A1.out.mem (k := a) (by rw [arrOf_size]; exact hk13)
      rw [arrOf_get _ hk13] at hcell
      generalize byAddr (l.take k) = AA at *
      have hAE : AA a = (((AA a).1.1, (AA a).1.2), (AA a).2.1, (AA a).2.2) := rfl
      generalize (AA a).1.1 = p at *
      generalize (AA a).1.2 = q at *
      generalize (AA a).2.1 = t at *
      generalize (AA a).2.2 = m at *
      clear hAE
      obtain ⟨⟨r1, r2, r3, r4⟩, f1, f2, f3, f4⟩ := hcell
      clear f1 f2 f3 f4
      have XM := Lib.hid (mbox_below (mbox_new wr a i s n) (below_one _ (.cells #[.int .i64 p, .int .i64 q, .int .u8 t, .int .i64 m] 32)))
      have XN : Hid (MBox ((wr.alloc (.cells #[.int .i64 a, .int .i64 i, .int .u8 s, .int .i64 n] 32)).alloc (.cells #[.int .i64 p, .int .i64 q, .int .u8 t, .int .i64 m] 32)) (wr.heap.size + 1) p q t m) := Lib.hid (by simpa using mbox_new (wr.alloc (.cells #[.int .i64 a, .int .i64 i, .int .u8 s, .int .i64 n] 32)) p q t m)
      have A2 := Lib.hid (rowAtR_kept A1.out (below_one _ (.cells #[.int .i64 p, .int .i64 q, .int .u8 t, .int .i64 m] 32)))
      have B2 := Lib.hid (HW.out.trans ((below_two wr (.cells #[.int .i64 a, .int .i64 i, .int .u8 s, .int .i64 n] 32) (.cells #[.int .i64 p, .int .i64 q, .int .u8 t, .int .i64 m] 32)).mono HW.out.size))
      obtain ⟨m1, m2, m3, m4⟩ := mbox_cells XM.out
      have hm8 := fun W => max_two8 t s W
      have R3 := Lib.hid (fun W (hW : RowAtR encM 4 W w.heap.size (arrOf AA)) => rowM_set hW (i := a) (by rw [arrOf_size]; exact hk13) a i (max t s) (elder m n))
      rw [HP.out] at R3
      have HEl := Lib.hid fun W => (elder_any m n W).mono fun e w' (h : e = _ ∧ W = w') => And.intro h.1 h.2.symm
      clear v1 v2 v3 v4
      go_wp2_with fail
      refine still_tail 17 (Checked.mixed Try.checked) (by kernel_rfl) (fun w2 => MBox w2 wr.heap.size a i s n ∧ MBox w2 (wr.heap.size + 1) p q t m ∧ RowAtR encM 4 w2 w.heap.size (arrOf AA) ∧ Below w.heap.size w w2) ⟨XM.out, XN.out, A2.out, below_drewN (n := 1) B2.out⟩ ?_
      rintro w2 ⟨Y1, Y2, Y3, Y4⟩
      have Y3h := Lib.hid Y3
      have Y4h := Lib.hid Y4
      obtain ⟨m1, m2, m3, m4⟩ := mbox_cells Y1
      obtain ⟨n1, n2, n3, n4⟩ := mbox_cells Y2
      obtain ⟨⟨b1, b2, b3, b4⟩, f1, f2, f3, f4⟩ := Y3.mem (k := a) (by rw [arrOf_size]; exact hk13)
      clear Y1 Y2 Y3 Y4 XM XN A2 B2
      simp only [List.take_succ_cons, List.take_zero, List.drop_succ_cons, List.drop_zero]
      repeat still_step
      still_call (HEl.out _)
      repeat still_step
      refine wpStill_nil ?_
      go_wp2
      go_roundw
      case rel => exact ⟨k + 1, by omega, by go_num, Lib.hid (R3.out _ Y3h.out), Lib.hid (below_setM Y4h.out (Nat.le_refl _) _ _ _ _ _)⟩
      case measure => simp [intOf]; omega
    · have hd : decide ((k : Int) < (l.length : Int)) = false := by simp; omega
      have HA : Hid (RowAtR encM 4 wr w.heap.size (arrOf (byAddr l))) := by have := HA.out; rw [List.take_of_length_le (by omega)] at this; exact Lib.hid this
      have HU := Lib.hid (united_is l)
      generalize byAddr l = AA at *
      go_wp2_with fail
      have hs := arrOf_size AA
      refine (show Calls Try.prog 40 #[.slice (some ⟨w.heap.size, 0, none⟩) 13 13, .func (.func 58) #[] #[]] _ _ from hs ▸ (deleteM_any noM_asks w.heap.size 13 (fun _ _ _ _ => trivial) (arrOf AA) _ HA.out trivial (by rw [hs]; omega) (by rw [hs]; omega) (fun _ _ => trivial))).mono ?_
      rintro e w1 ⟨d', rfl, hd', hsz, hR, hb⟩
      have HD := Lib.hid hd'
      have HR := Lib.hid hR
      have H1 := Lib.hid (HW.out.trans (below_grown hb (Nat.le_refl _) HW.out.size))
      have HS : d'.size ≤ 13 := by omega
      clear hd' hR hb hsz hs
      go_wp2_with fail
      go_ret
      exact ⟨_, rfl, ⟨d', _, 13, rfl, HS, Nat.le_refl _, HR.out, HD.out.trans HU.out⟩, H1.out⟩
end Go.Proofs.Ytciolhpkhblnbaa
