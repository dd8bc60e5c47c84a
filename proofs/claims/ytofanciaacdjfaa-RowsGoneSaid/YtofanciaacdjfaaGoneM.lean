/-
  What holds between two rounds of the loop that strikes IDs out of each row's list. No statement is proved in this text.
-/
import Derived.Test.YtofanciaacdjfaaGoneH
import Derived.Test.YtofanciaacdjfaaSetR
namespace Go.Proofs.Ytofanciaacdjfaa
open Go Go.RowKit Sets RowSets
/-- A row without those that are removed. -/
def strike (fl : List Id2) (r : Row) : Row := (r.1, r.2.1, keepN fl r.2.2)
theorem ownBlock_slc {q : Raw} {b : Nat} (h : ∀ ad, q.2.2.1 = some ad → ad.block ≠ b) : (slc q).ownBlock ≠ some b := by
  unfold slc
  rcases hq : q.2.2.1 with _ | ad
  · exact fun e => by cases e
  · intro e
    have : ad.block = b := by
      have e2 : some ad.block = some b := e
      exact Option.some.inj e2
    exact h ad hq this
structure GInv (fl : List Id2) (g : Nat) (dF : Array Raw) (lf : List Row) (k : Nat) (dk : Array Raw) (w : World) : Prop where
  size : dk.size = dF.size
  len : dF.size = lf.length
  row : RowAtR encW 4 w g dk
  same : ∀ j, j < dF.size → dk[j]!.2.2.1 = dF[j]!.2.2.1
  done : ∀ j (h : j < lf.length), j < k → LiesB g w dk[j]! (strike fl lf[j])
  left : ∀ j (h : j < lf.length), k ≤ j → dk[j]! = dF[j]! ∧ OwnRow w (g + 1) dF[j]! lf[j]
theorem GInv.below {fl : List Id2} {g : Nat} {dF : Array Raw} {lf : List Row} {k : Nat} {dk : Array Raw} {w w' : World} (h : GInv fl g dF lf k dk w) (hb : Below w.heap.size w w') : GInv fl g dF lf k dk w' :=
  ⟨h.size, h.len, rowAtR_kept h.row hb, h.same, fun j hj hk => (h.done j hj hk).below hb, fun j hj hk => ⟨(h.left j hj hk).1, (h.left j hj hk).2.1, (h.left j hj hk).2.2.1, OwnsR.below (h.left j hj hk).2.2.2 hb⟩⟩
theorem GInv.step {fl : List Id2} {g : Nat} {dF : Array Raw} {lf : List Row} {k : Nat} {dk : Array Raw} {w w5 : World} (h : GInv fl g dF lf k dk w) (hk : k < lf.length) {b : Nat} (hb : w.grownBy w5 (some b))
    (hne : ∀ j, j < dF.size → j ≠ k → ∀ ad, dF[j]!.2.2.1 = some ad → ad.block ≠ b) (hrow : RowAtR encW 4 w5 g dk) {B : Option Addr} {m c : Nat} (hB : B = dF[k]!.2.2.1) (hBg : ∀ ad, B = some ad → g < ad.block) (hN : Ids w5 (.slice B m c) (keepN fl lf[k].2.2)) :
    GInv fl g dF lf (k + 1) (dk.setIfInBounds k (dk[k]!.1, dk[k]!.2.1, B, m, c)) (w5.setCell ⟨g, k * 4 + 3, none⟩ (.slice B m c)) := by
  have hkd : k < dk.size := by rw [h.size, h.len]; exact hk
  have hgr : w5.grownBy (w5.setCell ⟨g, k * 4 + 3, none⟩ (.slice B m c)) (some g) := grown_setCells (World.grownBy.refl _ _) (k * 4 + 3) [.slice B m c]
  have get_k : (dk.setIfInBounds k (dk[k]!.1, dk[k]!.2.1, B, m, c))[k]! = (dk[k]!.1, dk[k]!.2.1, B, m, c) := by
    rw [getElem!_pos _ k (by simpa using hkd), Array.getElem_setIfInBounds_self]
  have get_j : ∀ j, j < dk.size → j ≠ k → (dk.setIfInBounds k (dk[k]!.1, dk[k]!.2.1, B, m, c))[j]! = dk[j]! := fun j hj e => by
    rw [getElem!_pos _ j (by simpa using hj), Array.getElem_setIfInBounds_ne _ (fun h => e h.symm), getElem!_pos dk j hj]
  refine ⟨by simp [h.size], h.len, rowW_not hrow hkd B m c, fun j hj => ?_, fun j hj hjk => ?_, fun j hj hjk => ?_⟩
  · by_cases e : j = k
    · subst e
      rw [get_k]
      exact hB
    · rw [get_j j (by rw [h.size]; exact hj) e]
      exact h.same j hj
  · by_cases e : j = k
    · subst e
      rw [get_k]
      have hl := h.left j hj (Nat.le_refl _)
      have hq : dk[j]! = dF[j]! := hl.1
      have hlb : LiesB g w5 (dk[j]!.1, dk[j]!.2.1, B, m, c) (strike fl lf[j]) := ⟨by rw [hq]; exact hl.2.1, by rw [hq]; exact hl.2.2.1, hN, hBg⟩
      exact hlb.grown hgr fun ad ha => by have := hBg ad ha; omega
    · have hjd : j < dF.size := by rw [h.len]; exact hj
      rw [get_j j (by rw [h.size]; exact hjd) e]
      have hd := h.done j hj (by omega)
      have h1 := hd.grown hb fun ad ha => hne j hjd e ad (by rw [← h.same j hjd]; exact ha)
      exact h1.grown hgr fun ad ha => by have := hd.2.2.2 ad ha; omega
  · have e : j ≠ k := by omega
    have hjd : j < dF.size := by rw [h.len]; exact hj
    rw [get_j j (by rw [h.size]; exact hjd) e]
    obtain ⟨q1, q2⟩ := h.left j hj (by omega)
    refine ⟨q1, q2.1, q2.2.1, ?_⟩
    have h1 := OwnsR.grown q2.2.2 hb (ownBlock_slc (hne j hjd e))
    exact OwnsR.grown h1 hgr (ownsR_ne h1 (Nat.lt_succ_self g))
/-- At the end. -/
theorem GInv.rows {fl : List Id2} {g : Nat} {dF : Array Raw} {lf : List Row} {k c : Nat} {dk : Array Raw} {w : World} (h : GInv fl g dF lf k dk w) (hk : lf.length ≤ k) (hc : dF.size ≤ c) : RowsAt w (.slice (some ⟨g, 0, none⟩) dF.size c) (lf.map (strike fl)) := by
  have hr := rowAtR_rcs (c := c) h.row (by rw [h.size]; exact hc)
  rw [h.size] at hr
  refine ⟨dk.toList, hr, ?_⟩
  have hl : dk.toList.length = (lf.map (strike fl)).length := by simp [h.size, h.len]
  have gen : ∀ (qs : List Raw) (l : List Row), qs.length = l.length → (∀ j (h1 : j < qs.length) (h2 : j < l.length), Reads w qs[j] l[j]) → EachReads w qs l := by
    intro qs
    induction qs with
    | nil => intro l e _; cases l with
      | nil => trivial
      | cons _ _ => simp at e
    | cons q qs ih => intro l e hh; cases l with
      | nil => simp at e
      | cons r l => exact ⟨hh 0 (by simp) (by simp), ih l (by simpa using e) fun j h1 h2 => by have := hh (j + 1) (by simpa using h1) (by simpa using h2); simpa using this⟩
  refine gen _ _ hl fun j h1 h2 => ?_
  have hj : j < lf.length := by simpa using h2
  have hjd : j < dk.size := by simpa using h1
  have hd := h.done j hj (by omega)
  have e1 : dk.toList[j] = dk[j]! := by rw [getElem!_pos dk j hjd]; simp
  rw [e1, List.getElem_map]
  exact ⟨hd.1, hd.2.1, hd.2.2.1⟩
theorem gone_is (fl : List Id2) (l : List Row) : (l.filter fun r => !rem fl r.1).map (strike fl) = gone fl l := rfl
/-- At the start. -/
theorem gInv_start {fl : List Id2} {g : Nat} {d' : Array Raw} {lf : List Row} {w : World} (hr : RowAtR encW 4 w g d') (ho : EachOwn w (g + 1) d'.toList lf) : GInv fl g d' lf 0 d' w := by
  have hlen : d'.size = lf.length := by have := ho.len; simpa using this
  refine ⟨rfl, hlen, hr, fun _ _ => rfl, fun j _ h => absurd h (by omega), fun j hj _ => ⟨rfl, ?_⟩⟩
  have hjd : j < d'.toList.length := by simp; omega
  have := ho.at_ j hjd hj
  have e1 : d'.toList[j] = d'[j]! := by rw [getElem!_pos d' j (by omega)]; simp
  rw [e1] at this
  exact this
/-- No two lists lie in one block. -/
theorem apart_ne {d : Array Raw} (h : d.toList.Pairwise Apart) {i j : Nat} (hi : i < d.size) (hj : j < d.size) (hne : i ≠ j) {a b : Addr} (ha : d[i]!.2.2.1 = some a) (hb : d[j]!.2.2.1 = some b) : a.block ≠ b.block := by
  have key : ∀ {i j : Nat}, i < j → j < d.size → ∀ {a b : Addr}, d[i]!.2.2.1 = some a → d[j]!.2.2.1 = some b → a.block ≠ b.block := by
    intro i j hij hj a b ha hb e
    have := List.pairwise_iff_getElem.1 h i j (by simp; omega) (by simpa using hj) hij
    have e1 : d.toList[i]'(by simp; omega) = d[i]! := by rw [getElem!_pos d i (by omega)]; simp
    have e2 : d.toList[j]'(by simpa using hj) = d[j]! := by rw [getElem!_pos d j hj]; simp
    rw [e1, e2] at this
    refine this a.block (by unfold slc; rw [ha]; rfl) ?_
    unfold slc
    rw [hb, e]
    rfl
  rcases Nat.lt_or_gt_of_ne hne with h1 | h1
  · exact key h1 hj ha hb
  · exact fun e => key h1 hi hb ha e.symm
end Go.Proofs.Ytofanciaacdjfaa
