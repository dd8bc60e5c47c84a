/-
  Walks over the document's own links: an ID fenced. No statement is proved in this text.
-/
import Derived.Test.YtgbbmhdkhhchhaaLnkR
import Derived.Deep.Cut
import Derived.StillTailTactics
set_option maxRecDepth 20000
namespace Go.Proofs.Ytgbbmhdkhhchhaa
open Go Go.RowKit
theorem rbox_free {w : World} {g : Nat} {M : Int → Pr} (h : RBox w g M) (o : Nat) : w.frozen? ⟨g, o, none⟩ = false := by
  obtain ⟨cs, h1, _⟩ := h
  simp [World.frozen?, h1]
/-- One number of an address is another one's. -/
def part (p : Pr) (j : Nat) (v : Int) : Pr := match j with
  | 0 => ⟨v, p.fe, p.be, p.re⟩
  | 1 => ⟨p.nw, v, p.be, p.re⟩
  | 2 => ⟨p.nw, p.fe, v, p.re⟩
  | _ => ⟨p.nw, p.fe, p.be, v⟩
theorem rbox_set {w : World} {g : Nat} {M : Int → Pr} (h : RBox w g M) {k : Nat} (hk : k < 13) (j : Nat) (hj : j < 4) (v : Int) : RBox (w.setCell ⟨g, k * 4 + j, none⟩ (.int .i64 v)) g (put M k (part (M k) j v)) := by
  obtain ⟨cs, h1, h2, h3⟩ := h
  refine ⟨cs.setIfInBounds (k * 4 + j) (.int .i64 v), heap_setCell_same _ _ _ _ _ _ h1, by simp [h2], fun i hi => ?_⟩
  obtain ⟨a0, a1, a2, a3⟩ := h3 i hi
  by_cases e : i = k
  · subst e
    rw [put_same]
    match j, hj with
    | 0, _ =>
      refine ⟨?_, ?_, ?_, ?_⟩
      · simp [part, Array.getElem?_setIfInBounds, h2]; omega
      · rw [Array.getElem?_setIfInBounds, if_neg (by omega)]; exact a1
      · rw [Array.getElem?_setIfInBounds, if_neg (by omega)]; exact a2
      · rw [Array.getElem?_setIfInBounds, if_neg (by omega)]; exact a3
    | 1, _ =>
      refine ⟨?_, ?_, ?_, ?_⟩
      · rw [Array.getElem?_setIfInBounds, if_neg (by omega)]; exact a0
      · simp [part, Array.getElem?_setIfInBounds, h2]; omega
      · rw [Array.getElem?_setIfInBounds, if_neg (by omega)]; exact a2
      · rw [Array.getElem?_setIfInBounds, if_neg (by omega)]; exact a3
    | 2, _ =>
      refine ⟨?_, ?_, ?_, ?_⟩
      · rw [Array.getElem?_setIfInBounds, if_neg (by omega)]; exact a0
      · rw [Array.getElem?_setIfInBounds, if_neg (by omega)]; exact a1
      · simp [part, Array.getElem?_setIfInBounds, h2]; omega
      · rw [Array.getElem?_setIfInBounds, if_neg (by omega)]; exact a3
    | 3, _ =>
      refine ⟨?_, ?_, ?_, ?_⟩
      · rw [Array.getElem?_setIfInBounds, if_neg (by omega)]; exact a0
      · rw [Array.getElem?_setIfInBounds, if_neg (by omega)]; exact a1
      · rw [Array.getElem?_setIfInBounds, if_neg (by omega)]; exact a2
      · simp [part, Array.getElem?_setIfInBounds, h2]; omega
  · rw [put_other M _ (by omega)]
    refine ⟨?_, ?_, ?_, ?_⟩
    · rw [Array.getElem?_setIfInBounds, if_neg (by omega)]; exact a0
    · rw [Array.getElem?_setIfInBounds, if_neg (by omega)]; exact a1
    · rw [Array.getElem?_setIfInBounds, if_neg (by omega)]; exact a2
    · rw [Array.getElem?_setIfInBounds, if_neg (by omega)]; exact a3
theorem put_id (M : Int → Pr) (a : Int) : put M a (M a) = M := by
  funext k
  by_cases e : k = a
  · subst e
    exact put_same _ _ _
  · exact put_other _ _ e
theorem put_put (M : Int → Pr) (a : Int) (p q : Pr) : put (put M a p) a q = put M a q := by
  funext k
  by_cases e : k = a
  · subst e
    rw [put_same, put_same]
  · rw [put_other _ _ e, put_other _ _ e, put_other _ _ e]
/-- A method that changes the document's links has answered. -/
def RDid (v : Value) (g : Nat) (M : Int → Pr) (w : World) (e : Ending) (w' : World) : Prop := e = .returned v ∧ RBox w' g M ∧ Ch w w' g none none
theorem Ch.cell {w w' : World} {g : Nat} (h : Ch w w' g none none) (o : Nat) (v : Value) : Ch w (w'.setCell ⟨g, o, none⟩ v) g none none :=
  ⟨h.os, h.tape, h.output, by simpa [World.setCell] using h.size, fun k hk hl hm => (Below.heap_setCell _ _ _ _ hl).trans (h.block k hk hl hm), h.lies⟩
set_option maxHeartbeats 1000000 in
theorem refFence_is (r : Int) (M' : Int → Pr) (w : World) (g : Nat) (M : Int → Pr) (h : RBox w g M) (a i : Int) (hr : fenceE a i = r) (hM : fenceM M a i = M') :
    Calls Try.prog 14 #[.pointer (some ⟨g, 0, none⟩), .agg #[.int .i64 a, .int .i64 i]] w (RDid (.int .i64 r) g M' w) := by
  have B1 := Lib.hid (below_one w (.cells #[.int .i64 a, .int .i64 i] 23))
  have X1 := Lib.hid (box_new w a i)
  have R1 := Lib.hid (rbox_below h B1.out)
  have HR := Lib.hid hr
  have HM2 := Lib.hid hM
  clear h hr hM
  by_cases hm : mayI a i = true
  · obtain ⟨⟨m1, m2⟩, m3, m4⟩ := mayI_true hm
    obtain ⟨k, rfl⟩ := Int.eq_ofNat_of_zero_le (show 0 ≤ a by omega)
    have HM := Lib.hid hm
    have HR0 := Lib.hid (show r = 0 by rw [← HR.out]; unfold fenceE; rw [if_pos hm])
    have HMM := Lib.hid (show M' = put M k ⟨(M k).nw, max (M k).fe i, (M k).be, (M k).re⟩ by rw [← HM2.out]; unfold fenceM; rw [if_pos hm])
    have k1 : (0 : Int) ≤ (k : Int) := by omega
    have k2 : (k : Int) < 13 := by omega
    have HK := Lib.hid (show k < 13 by omega)
    clear hm HR HM2
    go_enter Try.func14, Try.ntmps14
    go_wp2_with fail
    generalize hW : World.alloc _ _ = w1 at *
    clear hW
    (with_reducible refine (refMay_is true k i HM.out _).mono ?_)
    rintro e w2 ⟨rfl, hb⟩
    have X2 := Lib.hid (box_below X1.out hb (box_lt X1.out))
    have R2 := Lib.hid (rbox_below R1.out hb)
    have B2 := Lib.hid (B1.out.trans (hb.mono B1.out.size))
    clear hb X1 R1 B1
    obtain ⟨b0, b1⟩ := box_cells X2.out
    obtain ⟨c0, c1, c2, c3⟩ := rbox_cells R2.out HK.out
    by_cases hi : (M k).fe < i
    · have hg : decide ((M k).fe < i) = true := by simpa using hi
      have HMX := Lib.hid (show M' = put M k (part (M k) 1 i) by rw [HMM.out, show max (M k).fe i = i by omega]; rfl)
      clear hi HMM
      go_wp2_with fail
      go_quiet (fail)
      go_wp2_with fail
      generalize hW : World.drewN _ _ = w3
      have X3 := Lib.hid (show Box w3 w.heap.size k i from by rw [← hW]; exact X2.out)
      have R3 := Lib.hid (show RBox w3 g M from by rw [← hW]; exact rbox_same R2.out rfl)
      have C3 := Lib.hid (show Ch w w3.drew g none none from by rw [← hW]; exact Ch.below (below_drewN (n := 1) (below_drewN B2.out)) g none)
      clear hW b0 b1 c0 c1 c2 c3 X2 R2 B2
      obtain ⟨b0, b1⟩ := box_cells X3.out
      go_still_tail 9, (by kernel_rfl)
      change wpList _ _ _ _ _ w3.drew
      have R4 := Lib.hid (rbox_set (show RBox w3.drew g M from rbox_same R3.out rfl) HK.out 1 (by omega) i)
      have C4 := Lib.hid (C3.out.cell (k * 4 + 1) (.int .i64 i))
      have f1 := rbox_free (show RBox w3.drew g M from rbox_same R3.out rfl) (k * 4 + 1)
      obtain ⟨-, c1, -⟩ := rbox_cells (show RBox w3.drew g M from rbox_same R3.out rfl) HK.out
      generalize w3.drew = w4 at *
      clear b0 b1 X3 R3 C3
      go_wp2_with fail
      go_ret
      rw [HR0.out, HMX.out]
      exact ⟨rfl, R4.out, C4.out⟩
    · have hg : decide ((M k).fe < i) = false := by simpa using hi
      have HMX := Lib.hid (show M' = M by rw [HMM.out, show max (M k).fe i = (M k).fe by omega]; exact put_id M k)
      clear hi HMM
      go_wp2_with fail
      go_quiet (fail)
      go_wp2_with fail
      go_ret
      rw [HR0.out, HMX.out]
      exact ⟨rfl, rbox_same R2.out rfl, Ch.below (below_drewN B2.out) g none⟩
  · have HM := Lib.hid (show mayI a i = false by simpa using hm)
    have HR0 := Lib.hid (show r = 4 by rw [← HR.out]; unfold fenceE; rw [HM.out]; rfl)
    have HMM := Lib.hid (show M' = M by rw [← HM2.out]; unfold fenceM; rw [HM.out]; rfl)
    clear hm HR HM2
    go_enter Try.func14, Try.ntmps14
    go_wp2_with fail
    generalize hW : World.alloc _ _ = w1 at *
    clear hW
    (with_reducible refine (refMay_is false a i HM.out _).mono ?_)
    rintro e w2 ⟨rfl, hb⟩
    have R2 := Lib.hid (rbox_below R1.out hb)
    have B2 := Lib.hid (B1.out.trans (hb.mono B1.out.size))
    clear hb
    go_wp2_with fail
    go_ret
    rw [HR0.out, HMM.out]
    exact ⟨rfl, R2.out, Ch.below B2.out g none⟩
end Go.Proofs.Ytgbbmhdkhhchhaa
