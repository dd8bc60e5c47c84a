/-
  Carried over and put together: contracts of this program's functions, and plain facts. No statement is proved in this text.
-/
import Derived.Laws.EntriesVeiled
import Derived.Lib.SlKept
import Derived.BigRegion
import Derived.Test.YtkeiekljedhllaaGreatF07
import Derived.Test.YtkeiekljedhllaaGreatF12
set_option maxRecDepth 20000
namespace Go.Proofs.YtkeiekljedhllaaGreat
open Go Go.RowKit Sets RowSets
/-- A row without those that are removed. -/
def strike (fl : List Id2) (r : Row) : Row := (r.1, r.2.1, keepN fl r.2.2)
theorem ownBlock_slc {q : Raw} {b : Nat} (h : ∀ ad, q.2.2.1 = some ad → ad.block ≠ b) : (slc q).ownBlock ≠ some b := by
  unfold slc
  rcases hq : q.2.2.1 with _ | ad
  · exact fun e => by cases e
  · intro e
    have : ad.block = b := by
      have e2 : some ad.block = some b := e
      exact Option.some.inj e2
    exact h ad hq this
structure GInv (fl : List Id2) (g : Nat) (dF : Array Raw) (lf : List Row) (k : Nat) (dk : Array Raw) (w : World) : Prop where
  size : dk.size = dF.size
  len : dF.size = lf.length
  row : RowAtR encW 4 w g dk
  same : ∀ j, j < dF.size → dk[j]!.2.2.1 = dF[j]!.2.2.1
  done : ∀ j (h : j < lf.length), j < k → LiesB g w dk[j]! (strike fl lf[j])
  left : ∀ j (h : j < lf.length), k ≤ j → dk[j]! = dF[j]! ∧ OwnRow w (g + 1) dF[j]! lf[j]
theorem GInv.below {fl : List Id2} {g : Nat} {dF : Array Raw} {lf : List Row} {k : Nat} {dk : Array Raw} {w w' : World} (h : GInv fl g dF lf k dk w) (hb : Below w.heap.size w w') : GInv fl g dF lf k dk w' :=
  ⟨h.size, h.len, rowAtR_kept h.row hb, h.same, fun j hj hk => (h.done j hj hk).below hb, fun j hj hk => ⟨(h.left j hj hk).1, (h.left j hj hk).2.1, (h.left j hj hk).2.2.1, OwnsR.below (h.left j hj hk).2.2.2 hb⟩⟩
theorem GInv.step {fl : List Id2} {g : Nat} {dF : Array Raw} {lf : List Row} {k : Nat} {dk : Array Raw} {w w5 : World} (h : GInv fl g dF lf k dk w) (hk : k < lf.length) {b : Nat} (hb : w.grownBy w5 (some b))
    (hne : ∀ j, j < dF.size → j ≠ k → ∀ ad, dF[j]!.2.2.1 = some ad → ad.block ≠ b) (hrow : RowAtR encW 4 w5 g dk) {B : Option Addr} {m c : Nat} (hB : B = dF[k]!.2.2.1) (hBg : ∀ ad, B = some ad → g < ad.block) (hN : Ids w5 (.slice B m c) (keepN fl lf[k].2.2)) :
    GInv fl g dF lf (k + 1) (dk.setIfInBounds k (dk[k]!.1, dk[k]!.2.1, B, m, c)) (w5.setCell ⟨g, k * 4 + 3, none⟩ (.slice B m c)) := by
  have hkd : k < dk.size := by rw [h.size, h.len]; exact hk
  have hgr : w5.grownBy (w5.setCell ⟨g, k * 4 + 3, none⟩ (.slice B m c)) (some g) := grown_setCells (World.grownBy.refl _ _) (k * 4 + 3) [.slice B m c]
  have get_k : (dk.setIfInBounds k (dk[k]!.1, dk[k]!.2.1, B, m, c))[k]! = (dk[k]!.1, dk[k]!.2.1, B, m, c) := by
    rw [getElem!_pos _ k (by simpa using hkd), Array.getElem_setIfInBounds_self]
  have get_j : ∀ j, j < dk.size → j ≠ k → (dk.setIfInBounds k (dk[k]!.1, dk[k]!.2.1, B, m, c))[j]! = dk[j]! := fun j hj e => by
    rw [getElem!_pos _ j (by simpa using hj), Array.getElem_setIfInBounds_ne _ (fun h => e h.symm), getElem!_pos dk j hj]
  refine ⟨by simp [h.size], h.len, rowW_not hrow hkd B m c, fun j hj => ?_, fun j hj hjk => ?_, fun j hj hjk => ?_⟩
  · by_cases e : j = k
    · subst e
      rw [get_k]
      exact hB
    · rw [get_j j (by rw [h.size]; exact hj) e]
      exact h.same j hj
  · by_cases e : j = k
    · subst e
      rw [get_k]
      have hl := h.left j hj (Nat.le_refl _)
      have hq : dk[j]! = dF[j]! := hl.1
      have hlb : LiesB g w5 (dk[j]!.1, dk[j]!.2.1, B, m, c) (strike fl lf[j]) := ⟨by rw [hq]; exact hl.2.1, by rw [hq]; exact hl.2.2.1, hN, hBg⟩
      exact hlb.grown hgr fun ad ha => by have := hBg ad ha; omega
    · have hjd : j < dF.size := by rw [h.len]; exact hj
      rw [get_j j (by rw [h.size]; exact hjd) e]
      have hd := h.done j hj (by omega)
      have h1 := hd.grown hb fun ad ha => hne j hjd e ad (by rw [← h.same j hjd]; exact ha)
      exact h1.grown hgr fun ad ha => by have := hd.2.2.2 ad ha; omega
  · have e : j ≠ k := by omega
    have hjd : j < dF.size := by rw [h.len]; exact hj
    rw [get_j j (by rw [h.size]; exact hjd) e]
    obtain ⟨q1, q2⟩ := h.left j hj (by omega)
    refine ⟨q1, q2.1, q2.2.1, ?_⟩
    have h1 := OwnsR.grown q2.2.2 hb (ownBlock_slc (hne j hjd e))
    exact OwnsR.grown h1 hgr (ownsR_ne h1 (Nat.lt_succ_self g))
/-- At the end. -/
theorem GInv.rows {fl : List Id2} {g : Nat} {dF : Array Raw} {lf : List Row} {k c : Nat} {dk : Array Raw} {w : World} (h : GInv fl g dF lf k dk w) (hk : lf.length ≤ k) (hc : dF.size ≤ c) : RowsAt w (.slice (some ⟨g, 0, none⟩) dF.size c) (lf.map (strike fl)) := by
  have hr := rowAtR_rcs (c := c) h.row (by rw [h.size]; exact hc)
  rw [h.size] at hr
  refine ⟨dk.toList, hr, ?_⟩
  have hl : dk.toList.length = (lf.map (strike fl)).length := by simp [h.size, h.len]
  have gen : ∀ (qs : List Raw) (l : List Row), qs.length = l.length → (∀ j (h1 : j < qs.length) (h2 : j < l.length), Reads w qs[j] l[j]) → EachReads w qs l := by
    intro qs
    induction qs with
    | nil => intro l e _; cases l with
      | nil => trivial
      | cons _ _ => simp at e
    | cons q qs ih => intro l e hh; cases l with
      | nil => simp at e
      | cons r l => exact ⟨hh 0 (by simp) (by simp), ih l (by simpa using e) fun j h1 h2 => by have := hh (j + 1) (by simpa using h1) (by simpa using h2); simpa using this⟩
  refine gen _ _ hl fun j h1 h2 => ?_
  have hj : j < lf.length := by simpa using h2
  have hjd : j < dk.size := by simpa using h1
  have hd := h.done j hj (by omega)
  have e1 : dk.toList[j] = dk[j]! := by rw [getElem!_pos dk j hjd]; simp
  rw [e1, List.getElem_map]
  exact ⟨hd.1, hd.2.1, hd.2.2.1⟩
theorem gone_is (fl : List Id2) (l : List Row) : (l.filter fun r => !rem fl r.1).map (strike fl) = gone fl l := rfl
/-- At the start. -/
theorem gInv_start {fl : List Id2} {g : Nat} {d' : Array Raw} {lf : List Row} {w : World} (hr : RowAtR encW 4 w g d') (ho : EachOwn w (g + 1) d'.toList lf) : GInv fl g d' lf 0 d' w := by
  have hlen : d'.size = lf.length := by have := ho.len; simpa using this
  refine ⟨rfl, hlen, hr, fun _ _ => rfl, fun j _ h => absurd h (by omega), fun j hj _ => ⟨rfl, ?_⟩⟩
  have hjd : j < d'.toList.length := by simp; omega
  have := ho.at_ j hjd hj
  have e1 : d'.toList[j] = d'[j]! := by rw [getElem!_pos d' j (by omega)]; simp
  rw [e1] at this
  exact this
/-- No two lists lie in one block. -/
theorem apart_ne {d : Array Raw} (h : d.toList.Pairwise Apart) {i j : Nat} (hi : i < d.size) (hj : j < d.size) (hne : i ≠ j) {a b : Addr} (ha : d[i]!.2.2.1 = some a) (hb : d[j]!.2.2.1 = some b) : a.block ≠ b.block := by
  have key : ∀ {i j : Nat}, i < j → j < d.size → ∀ {a b : Addr}, d[i]!.2.2.1 = some a → d[j]!.2.2.1 = some b → a.block ≠ b.block := by
    intro i j hij hj a b ha hb e
    have := List.pairwise_iff_getElem.1 h i j (by simp; omega) (by simpa using hj) hij
    have e1 : d.toList[i]'(by simp; omega) = d[i]! := by rw [getElem!_pos d i (by omega)]; simp
    have e2 : d.toList[j]'(by simpa using hj) = d[j]! := by rw [getElem!_pos d j hj]; simp
    rw [e1, e2] at this
    refine this a.block (by unfold slc; rw [ha]; rfl) ?_
    unfold slc
    rw [hb, e]
    rfl
  rcases Nat.lt_or_gt_of_ne hne with h1 | h1
  · exact key h1 hj ha hb
  · exact fun e => key h1 hi hb ha e.symm
end Go.Proofs.YtkeiekljedhllaaGreat
namespace Go.Proofs.YtkeiekljedhllaaGreat
open Go Go.RowKit Sets RowSets
theorem ids_grownB {w w' : World} {A : Option Addr} {n c b : Nat} {l : List Id2} (h : Ids w (.slice A n c) l) (hb : w.grownBy w' (some b)) (hne : ∀ ad, A = some ad → ad.block ≠ b) : Ids w' (.slice A n c) l := by
  obtain ⟨A', c', hv, h0, hc, hk⟩ := h
  refine ⟨A', c', hv, h0, hc, fun k hlt => ?_⟩
  obtain ⟨ad, rfl, h1, c1, c2⟩ := hk k hlt
  have e : A = some ad := by injection hv
  have hbl := hb.block ad.block h1 (fun h => hne ad e (by first | exact (Option.some.inj h).symm | exact Option.some.inj h))
  refine ⟨ad, rfl, Nat.lt_of_lt_of_le h1 hb.size, ?_, ?_⟩
  · rw [World.cell?_of_block (w := w) (by rw [block_of_add]; exact hbl)]
    exact c1
  · rw [World.cell?_of_block (w := w) (by show w'.heap[(ad.add (k * 2)).block]? = _; rw [block_of_add]; exact hbl)]
    exact c2
theorem FloorsAt.grown {X b : Nat} {s : List Id2} {A : Option Addr} {c : Nat} {W W' : World} (h : FloorsAt X s A c W) (hg : W.grownBy W' (some b)) (hX : X < b) (hA : ∀ ad, A = some ad → ad.block < b) : FloorsAt X s A c W' :=
  ⟨(hg.block X (one_lt h.1) (fun e => by have := Option.some.inj e; omega)).trans h.1, ids_grownB h.2 hg fun ad e => by have := hA ad e; omega⟩
theorem FloorsW.grown {X Y b : Nat} {s : List Id2} {A : Option Addr} {c : Nat} {W W' : World} (h : FloorsW X Y s A c W) (hg : W.grownBy W' (some b)) (hX : X < b) (hY : Y < b) (hA : ∀ ad, A = some ad → ad.block < b) : FloorsW X Y s A c W' :=
  ⟨(hg.block Y (one_lt h.1) (fun e => by have := Option.some.inj e; omega)).trans h.1, h.2.grown hg hX hA⟩
theorem FloorsW.at_ {X Y : Nat} {s : List Id2} {A : Option Addr} {c : Nat} {W : World} (h : FloorsW X Y s A c W) : FloorsAt X s A c W := h.2
theorem FloorsW.fn {X Y : Nat} {s : List Id2} {A : Option Addr} {c : Nat} {W : World} (h : FloorsW X Y s A c W) : One W Y 58 (.func (.func 52) #[] #[.pointer (some ⟨X, 0, none⟩)]) := h.1
theorem GInv.gt {fl : List Id2} {g : Nat} {dF : Array Raw} {lf : List Row} {k : Nat} {dk : Array Raw} {w : World} (h : GInv fl g dF lf k dk w) (j : Nat) (hj : j < dF.size) (ad : Addr) (ha : dF[j]!.2.2.1 = some ad) : g < ad.block := by
  have hjl : j < lf.length := by rw [← h.len]; exact hj
  rcases Nat.lt_or_ge j k with h1 | h1
  · exact (h.done j hjl h1).2.2.2 ad (by rw [h.same j hj]; exact ha)
  · have := (World.ownsRow.lt (h.left j hjl h1).2.2.2 ad.block (by unfold slc; rw [ha]; rfl)).1
    omega
set_option maxHeartbeats 8000000 in
set_option maxRecDepth 100000 in
theorem gone_any (v vf : Value) (l : List Row) (fl : List Id2) (w : World) (h : RowsAt w v l) (hf : Ids w vf fl) (hl : l.length ≤ 5000) (hn : ∀ r ∈ l, r.2.2.length ≤ 40000) (hfl : fl.length ≤ 40000) :
    Calls Tryz.prog 29 #[v, vf] w fun e w' => ∃ V, e = .returned V ∧ RowsAt w' V (gone fl l) ∧ Below w.heap.size w w' := by
  have HH := Lib.hid h
  have HF := Lib.hid hf
  have HN := Lib.hid hn
  obtain ⟨A0, c0, rfl, _⟩ := id hf
  have BX := Lib.hid (below_one w (.cells #[.slice A0 fl.length c0] 29))
  have O0 := Lib.hid (one_new w 29 (.slice A0 fl.length c0))
  have I0 := Lib.hid (HF.out.below BX.out)
  have f1 := one_cell O0.out
  have f2 := one_free O0.out
  clear h hf hn
  go_enter Tryz.func29, Tryz.ntmps29
  go_wp2_with fail
  (with_reducible refine (set_new _ fl _ I0.out hfl).mono ?_)
  rintro e w1 ⟨vs, rfl, hi, hb⟩
  have O := Lib.hid (ownsI_of hi)
  obtain ⟨A, c, rfl, _⟩ := id (rcs_owns encI_len O.out)
  have O1 := Lib.hid (one_below O0.out hb)
  have B1 := Lib.hid (below_after BX.out hb (Nat.le_refl _))
  clear hi hb f1 f2
  have f1 := one_cell O1.out
  have f2 := one_free O1.out
  have gS : w1.grownBy (w1.setCell ⟨w.heap.size, 0, none⟩ (.slice A (setOf fl).length c)) (some w.heap.size) := grown_setCells (World.grownBy.refl _ _) 0 [.slice A (setOf fl).length c]
  have FS := Lib.hid (show FloorsAt w.heap.size (setOf fl) A c (w1.setCell ⟨w.heap.size, 0, none⟩ (.slice A (setOf fl).length c)) from ⟨one_set O1.out _, ownsI_ids (OwnsR.grown O.out gS (ownsR_ne O.out (by simp)))⟩)
  have BS := Lib.hid (show Below w.heap.size w (w1.setCell ⟨w.heap.size, 0, none⟩ (.slice A (setOf fl).length c)) from below_setCells B1.out (Nat.le_refl _) 0 [.slice A (setOf fl).length c])
  have HA := Lib.hid fun ad (e : A = some ad) => (show ad.block < (w1.setCell ⟨w.heap.size, 0, none⟩ (.slice A (setOf fl).length c)).heap.size by
    rw [World.size_setCell]
    exact (World.ownsRow.lt O.out ad.block (by rw [e]; rfl)).2)
  have HX := Lib.hid (show w.heap.size < (w1.setCell ⟨w.heap.size, 0, none⟩ (.slice A (setOf fl).length c)).heap.size by
    rw [World.size_setCell]
    exact one_lt O1.out)
  clear gS
  go_upto_region 2 with fail
  clear f1 f2
  generalize w1.setCell ⟨w.heap.size, 0, none⟩ (.slice A (setOf fl).length c) = ws at *
  have FW := Lib.hid (show FloorsW w.heap.size ws.heap.size (setOf fl) A c (ws.alloc (.cells #[.func (.func 52) #[] #[.pointer (some ⟨w.heap.size, 0, none⟩)]] 58)) from ⟨one_new ws 58 _, FS.out.below (below_one _ _)⟩)
  have BY := Lib.hid (below_after BS.out (below_one ws (.cells #[.func (.func 52) #[] #[.pointer (some ⟨w.heap.size, 0, none⟩)]] 58)) (Nat.le_refl _))
  have HQ := Lib.hid (goneI_asks w.heap.size fl (setOf fl) A c (rises_setOf fl) (mem_setOf fl) (by have := setOf_len fl; omega))
  have HP := Lib.hid (goneW_asks w.heap.size ws.heap.size fl (setOf fl) A c (rises_setOf fl) (mem_setOf fl) (by have := setOf_len fl; omega))
  clear O I0 O0 O1 B1 BX HF FS
  go_wp2_with fail
  (with_reducible refine (copiedAll_any v l _ (HH.out.below BY.out) hl (fun r hr => by have := HN.out r hr; omega)).mono ?_)
  rintro e w3 ⟨g, d, rfl, hg, hr, ho, ha, hb⟩
  have hg2 : ws.heap.size < g := by simp at hg; omega
  have HG := Lib.hid hg2
  have F3 := Lib.hid (FW.out.below hb)
  have B3 := Lib.hid (below_after BY.out hb (Nat.le_refl _))
  have R3 := Lib.hid hr
  have E3 := Lib.hid ho
  have A3 := Lib.hid ha
  have hds : d.size ≤ 5000 := by have := ho.len; simp at this; omega
  have HS3 := Lib.hid fun W W' (h : FloorsW w.heap.size ws.heap.size (setOf fl) A c W) (hgr : W.grownBy W' (some g)) => h.grown hgr (by have := HX.out; have := HG.out; omega) HG.out (fun ad e => by have := HA.out ad e; have := HG.out; omega)
  clear hg hr ho ha hb hg2
  go_wp2_with fail
  (with_reducible refine (deleteW_any HP.out g d.size HS3.out d _ R3.out F3.out (Nat.le_refl _) (by omega)).mono ?_)
  rintro e w4 ⟨d', rfl, hd, hle, hr, hgr⟩
  have R4 := Lib.hid hr
  have E4 := Lib.hid (show EachOwn w4 (g + 1) d'.toList (l.filter fun r => !rem fl r.1) by rw [hd]; exact eachOwn_filter (p := rem fl) (E3.out.grown hgr (Nat.lt_succ_self g)))
  have A4 := Lib.hid (show d'.toList.Pairwise Apart by rw [hd]; exact List.Pairwise.filter _ A3.out)
  have F4 := Lib.hid (HS3.out _ _ F3.out hgr)
  have B4 := Lib.hid (show Below w.heap.size w w4 from B3.out.trans (below_grown hgr (by have := HX.out; have := HG.out; omega) B3.out.size))
  have HLE := Lib.hid hle
  have HLN : Hid (∀ r ∈ l.filter (fun r => !rem fl r.1), r.2.2.length ≤ 40000) := Lib.hid fun r hr => HN.out r (List.mem_filter.1 hr).1
  have HGI := Lib.hid (gone_is fl l)
  generalize hlf : (l.filter fun r => !rem fl r.1) = lf at *
  have GI := Lib.hid (gInv_start (fl := fl) R4.out E4.out)
  have hds2 : d'.size ≤ 5000 := by have := HLE.out; omega
  have HD := Lib.hid GI.out.len
  clear hd hle hr hgr hlf E3 A3 R3 F3 E4
  go_wp2_with fail
  go_loopw [18] (fun s18 wr => ∃ k : Nat, ∃ dk : Array Raw, k ≤ d'.size ∧ s18 = .int .i64 k ∧ Hid (GInv fl g d' lf k dk wr) ∧ Hid (FloorsW w.heap.size ws.heap.size (setOf fl) A c wr) ∧ Hid (Below w.heap.size w wr)) (fun s18 _ => d'.size - (intOf s18).toNat)
  case atStart => exact ⟨0, d', by omega, rfl, GI, F4, B4⟩
  case round =>
    obtain ⟨k, dk, hkl, rfl, HI, HFW, HW⟩ := hrel
    have i3 : (0 : Int) ≤ (k : Int) := by omega
    by_cases hlt : k < d'.size
    · have hdk : decide ((k : Int) < (d'.size : Int)) = true := decide_eq_true (by omega)
      have i4 : (k : Int) < (d'.size : Int) := by omega
      have hkl2 : k < lf.length := by have := HD.out; omega
      have hkd : k < dk.size := by rw [HI.out.size]; exact hlt
      obtain ⟨hq, hown⟩ := HI.out.left k hkl2 (Nat.le_refl _)
      obtain ⟨⟨r1, r2, r3, r4⟩, _⟩ := HI.out.row.row hkd
      have OW := Lib.hid (show OwnsI wr (g + 1) (.slice dk[k]!.2.2.1 dk[k]!.2.2.2.1 dk[k]!.2.2.2.2) lf[k].2.2 from by rw [hq]; exact hown.2.2)
      have HB0 := Lib.hid (show dk[k]!.2.2.1 = d'[k]!.2.2.1 by rw [hq])
      have HCL := Lib.hid fun W (h : RowAtR encW 4 W g dk) => (show (∃ z, W.cell? ⟨g, k * 4 + 3, none⟩ = some z) ∧ W.frozen? ⟨g, k * 4 + 3, none⟩ = false from ⟨⟨_, (h.row hkd).1.2.2.2⟩, (h.row hkd).2.2.2.2⟩)
      clear hq hown hkd
      generalize dk[k]!.1.1 = a at *
      generalize dk[k]!.1.2 = i at *
      generalize dk[k]!.2.1 = n at *
      generalize dk[k]!.2.2.1 = Bq at *
      generalize dk[k]!.2.2.2.1 = mq at *
      generalize dk[k]!.2.2.2.2 = cq at *
      rcases ownsR_split OW.out with ⟨e, hn0⟩ | ⟨b, cap, e, hb1, hb2⟩
      · injection e with e1 e2 e3
        subst e1 e2 e3
        have HN0 := Lib.hid (show keepN fl lf[k].2.2 = [] by rw [List.eq_nil_of_length_eq_zero hn0]; rfl)
        have BXk := Lib.hid (below_one wr (.cells #[.int .i64 a, .int .i64 i, .int .i64 n, .slice none 0 0] 37))
        have FX := Lib.hid (HFW.out.below BXk.out)
        have XX := Lib.hid (wbox_new wr a i n (.slice none 0 0))
        obtain ⟨_, _, _, x4⟩ := wbox_cells XX.out
        have fY := one_cell FX.out.fn
        clear hn0
        go_wp2_with fail
        (with_reducible refine (deleteI_nil HQ.out _ FX.out.at_).mono ?_)
        rintro e w5 ⟨rfl, hb⟩
        have B5 := Lib.hid (below_after BXk.out hb (Nat.le_refl _))
        have I5 := Lib.hid (HI.out.below B5.out)
        have F5 := Lib.hid (HFW.out.below B5.out)
        obtain ⟨⟨z, s4⟩, t4⟩ := HCL.out _ I5.out.row
        have ST := Lib.hid (I5.out.step hkl2 (b := g) (World.grownBy.refl w5 (some g)) (fun j hj _ ad ha => by have := I5.out.gt j hj ad ha; omega) I5.out.row (B := none) (m := 0) (c := 0) HB0.out (fun ad h => by cases h) (by rw [HN0.out]; exact Ids.nil _))
        have F6 := Lib.hid (F5.out.grown (grown_setCells (World.grownBy.refl w5 (some g)) (k * 4 + 3) [.slice none 0 0]) (by have := HX.out; have := HG.out; omega) HG.out (fun ad e => by have := HA.out ad e; have := HG.out; omega))
        have B6 := Lib.hid (below_setCells (below_after HW.out B5.out (Nat.le_refl _)) (show w.heap.size ≤ g by have := HX.out; have := HG.out; omega) (k * 4 + 3) [.slice none 0 0])
        clear hb r1 r2 r3 r4 x4 fY
        go_wp2_with fail
        go_roundw
        case rel => exact ⟨k + 1, _, by omega, by go_num, ST, F6, B6⟩
        case measure => simp [intOf]; omega
      · injection e with e1 e2 e3
        subst e1 e2 e3
        obtain ⟨dI, hdI⟩ : ∃ dI : Array Id2, dI = lf[k].2.2.toArray := ⟨_, rfl⟩
        have hsz : dI.size = lf[k].2.2.length := by rw [hdI]; simp
        have HTL := Lib.hid (show dI.toList = lf[k].2.2 by rw [hdI])
        have RI := Lib.hid (rowAtR_owns encI_len (w := wr) (base := g + 1) (g := b) (c := cq) (d := dI) (by rw [hsz, HTL.out]; exact OW.out))
        have hgb := (World.ownsRow.lt OW.out b rfl).1
        have hIL : dI.size ≤ 40000 := by rw [hsz]; exact HLN.out _ (List.getElem_mem hkl2)
        rw [← hsz] at r4 hb2
        clear OW hsz hdI
        have BXk := Lib.hid (below_one wr (.cells #[.int .i64 a, .int .i64 i, .int .i64 n, .slice (some ⟨b, 0, none⟩) dI.size cq] 37))
        have FX := Lib.hid (HFW.out.below BXk.out)
        have XX := Lib.hid (wbox_new wr a i n (.slice (some ⟨b, 0, none⟩) dI.size cq))
        have IX := Lib.hid (HI.out.below BXk.out)
        obtain ⟨_, _, _, x4⟩ := wbox_cells XX.out
        have fY := one_cell FX.out.fn
        go_wp2_with fail
        (with_reducible refine (deleteI_any HQ.out b cq (fun W W' h hgr => h.grown hgr (by have := HX.out; have := HG.out; omega) (fun ad e => by have := HA.out ad e; have := HG.out; omega)) dI _ (rowAtR_kept RI.out BXk.out) FX.out.at_ hb2 (by omega)).mono ?_)
        rintro e w5 ⟨d2, rfl, hd2, hle2, hr2, hg2⟩
        have hrow := rowAtR_block IX.out.row hg2.size (hg2.block g IX.out.row.1 (fun e => by have := Option.some.inj e; omega))
        obtain ⟨⟨z, s4⟩, t4⟩ := HCL.out _ hrow
        have HID := Lib.hid (show Ids w5 (.slice (some ⟨b, 0, none⟩) d2.size cq) (keepN fl lf[k].2.2) from by
          have h1 := ids_rcs (rowAtR_rcs (c := cq) hr2 (by omega))
          rw [hd2, HTL.out] at h1
          exact h1)
        have ST := Lib.hid (IX.out.step hkl2 (b := b) hg2 (fun j hj hne ad ha => apart_ne A4.out hj hlt hne ha HB0.out.symm) hrow (B := some ⟨b, 0, none⟩) (m := d2.size) (c := cq) HB0.out (fun ad h => by cases h; exact hgb) HID.out)
        have F5 := Lib.hid (FX.out.grown hg2 (by have := HX.out; have := HG.out; omega) (by have := HG.out; omega) (fun ad e => by have := HA.out ad e; have := HG.out; omega))
        have F6 := Lib.hid (F5.out.grown (grown_setCells (World.grownBy.refl w5 (some g)) (k * 4 + 3) [.slice (some ⟨b, 0, none⟩) d2.size cq]) (by have := HX.out; have := HG.out; omega) HG.out (fun ad e => by have := HA.out ad e; have := HG.out; omega))
        have B5 := Lib.hid (show Below w.heap.size w w5 from (below_after HW.out BXk.out (Nat.le_refl _)).trans (below_grown hg2 (by have := HX.out; have := HG.out; omega) (below_after HW.out BXk.out (Nat.le_refl _)).size))
        have B6 := Lib.hid (below_setCells B5.out (show w.heap.size ≤ g by have := HX.out; have := HG.out; omega) (k * 4 + 3) [.slice (some ⟨b, 0, none⟩) d2.size cq])
        clear hd2 hle2 hr2 hg2 hrow r1 r2 r3 r4 x4 fY
        go_wp2_with fail
        go_roundw
        case rel => exact ⟨k + 1, _, by omega, by go_num, ST, F6, B6⟩
        case measure => simp [intOf]; omega
    · have hdk : decide ((k : Int) < (d'.size : Int)) = false := decide_eq_false (by omega)
      have HR := Lib.hid (show RowsAt wr (.slice (some ⟨g, 0, none⟩) d'.size d.size) (gone fl l) by rw [← HGI.out]; exact HI.out.rows (by have := HD.out; omega) HLE.out)
      go_wp2_with fail
      go_ret
      exact ⟨_, rfl, HR.out, HW.out⟩
end Go.Proofs.YtkeiekljedhllaaGreat
namespace Go.Proofs.YtkeiekljedhllaaGreat
open Go.RowKit Sets Clocks
theorem may_any' (a i : Int) (w : World) (b : Bool) (h : vidCLK a i = b) : Calls Tryz.prog 16 #[.agg #[.int .i64 a, .int .i64 i]] w fun e w' => e = .returned (.bool b) ∧ Below w.heap.size w w' := by
  rw [← h]
  exact may_anyCLK a i w
/-- May a tick be in a valid clock? -/
def okT (t : Tick) : Bool := vidCLK t.1.1 t.1.2 && (decide (1 ≤ t.2) && decide (t.2 ≤ 1099511627776))
/-- Do the IDs rise? -/
def risesT : List Tick → Bool
  | x :: y :: l => lss x.1.1 x.1.2 y.1.1 y.1.2 && risesT (y :: l)
  | _ => true
theorem risesT_take {l : List Tick} : ∀ {k : Nat} (h : k + 1 < l.length), risesT (l.take (k + 2)) = (risesT (l.take (k + 1)) && lss l[k].1.1 l[k].1.2 l[k+1].1.1 l[k+1].1.2) := by
  induction l with
  | nil => intro k h; simp at h
  | cons x l ih =>
    intro k h
    cases l with
    | nil => simp at h
    | cons y l =>
      cases k with
      | zero => simp [risesT]
      | succ k =>
        have := ih (k := k) (by simpa using h)
        simp only [List.take_succ_cons, risesT] at this ⊢
        rw [this, Bool.and_assoc]
        rfl
theorem risesT_not {l : List Tick} : ∀ {k : Nat} (h : k + 1 < l.length), lss l[k].1.1 l[k].1.2 l[k+1].1.1 l[k+1].1.2 = false → risesT l = false := by
  induction l with
  | nil => intro k h; simp at h
  | cons x l ih =>
    intro k h hv
    cases l with
    | nil => simp at h
    | cons y l =>
      cases k with
      | zero => simp only [risesT, Bool.and_eq_false_iff]; exact .inl hv
      | succ k => simp only [risesT, Bool.and_eq_false_iff]; exact .inr (ih (k := k) (by simpa using h) hv)
theorem risesT_one (l : List Tick) : risesT (l.take 1) = true := by
  cases l <;> rfl
/-- Is a clock valid? -/
def mayBCLK (l : List Tick) : Bool := decide (l.length ≤ 64) && (l.all okT && risesT l)
theorem mayB_longCLK {l : List Tick} (h : 64 < l.length) : mayBCLK l = false := by
  unfold mayBCLK
  rw [decide_eq_false (by omega)]
  rfl
theorem mayB_bad {l : List Tick} {k : Nat} (hk : k < l.length) (h : okT l[k] = false) : mayBCLK l = false := by
  unfold mayBCLK
  have : l.all okT = false := by
    rw [← Bool.not_eq_true, List.all_eq_true]
    exact fun h2 => by rw [h2 _ (List.getElem_mem hk)] at h; cases h
  rw [this]
  simp
theorem mayB_turn {l : List Tick} {k : Nat} (hk : k + 1 < l.length) (h : lss l[k].1.1 l[k].1.2 l[k+1].1.1 l[k+1].1.2 = false) : mayBCLK l = false := by
  unfold mayBCLK
  rw [risesT_not hk h]
  simp
theorem mayB_yesCLK {l : List Tick} (h : l.length ≤ 64) (h1 : l.all okT = true) (h2 : risesT l = true) : mayBCLK l = true := by
  unfold mayBCLK
  rw [decide_eq_true h, h1, h2]
  rfl
theorem all_more {l : List Tick} {k : Nat} (hk : k < l.length) (h : (l.take k).all okT = true) (h2 : okT l[k] = true) : (l.take (k + 1)).all okT = true := by
  rw [List.take_succ_eq_append_getElem hk, List.all_append, h]
  simp [h2]
set_option maxHeartbeats 4000000 in
theorem mayClock_any (v : Value) (l : List Tick) (w : World) (h : Rcs encT 3 w v l) (hl : l.length ≤ 100000) :
    Calls Tryz.prog 27 #[v] w fun e w' => e = .returned (.bool (mayBCLK l)) ∧ Below w.heap.size w w' := by
  have HI := Lib.hid h
  obtain ⟨A, c, rfl, hz⟩ := h
  clear hz
  by_cases h64 : 64 < l.length
  · have HF := Lib.hid (mayB_longCLK h64)
    have hd : decide ((64 : Int) < (l.length : Int)) = true := by simp; omega
    go_enter Tryz.func27, Tryz.ntmps27
    go_wp2_with fail
    go_ret
    exact ⟨ret_bool HF.out.symm, Below.refl _ _⟩
  · have hd : decide ((64 : Int) < (l.length : Int)) = false := by simp; omega
    go_enter Tryz.func27, Tryz.ntmps27
    go_wp2_with fail
    go_loopw [10] (fun s3 wr => ∃ k : Nat, k ≤ l.length ∧ s3 = .int .i64 k ∧ Hid ((l.take k).all okT = true) ∧ Hid (risesT (l.take k) = true) ∧ Hid (Below w.heap.size w wr)) (fun s3 _ => l.length - (intOf s3).toNat)
    case atStart => exact ⟨0, by omega, rfl, Lib.hid (by simp), Lib.hid (by simp [risesT]), Lib.hid (Below.refl _ _)⟩
    case round =>
      obtain ⟨k, hkl, rfl, HA, HR, HW⟩ := hrel
      have i3 : (0 : Int) ≤ (k : Int) := by omega
      by_cases hlt : k < l.length
      · have hdk : decide ((k : Int) < (l.length : Int)) = true := by simp; omega
        have i4 : (k : Int) < (l.length : Int) := by omega
        obtain ⟨ad, rfl, c1, c2, c3⟩ := HI.out.tick HW.out hlt
        have HN := Lib.hid fun h => mayB_bad hlt h
        have HO := Lib.hid fun h => all_more hlt HA.out h
        have HX := Lib.hid (tbox_new wr l[k].1.1 l[k].1.2 l[k].2)
        have HB := Lib.hid (HW.out.alloc HW.out.size (.cells #[.int .i64 l[k].1.1, .int .i64 l[k].1.2, .int .i64 l[k].2] 27))
        have HL : Hid (∀ q, k = q + 1 → ∀ (hq : q < l.length) W, Calls Tryz.prog 47 #[.agg #[.int .i64 l[q].1.1, .int .i64 l[q].1.2], .agg #[.int .i64 l[k].1.1, .int .i64 l[k].1.2]] W fun e w' => e = .returned (.bool (lss l[q].1.1 l[q].1.2 l[k].1.1 l[k].1.2)) ∧ Below W.heap.size W w') := Lib.hid fun q _ hq W => less_anyCLK _ _ _ _ W
        have HT : Hid (∀ q, k = q + 1 → ∀ (hq : q < l.length), (lss l[q].1.1 l[q].1.2 l[k].1.1 l[k].1.2 = false → mayBCLK l = false) ∧ (lss l[q].1.1 l[q].1.2 l[k].1.1 l[k].1.2 = true → risesT (l.take (k + 1)) = true)) := Lib.hid (by
          intro q e hq
          subst e
          exact ⟨fun h => mayB_turn hlt h, fun h => by rw [risesT_take hlt, HR.out, h]; rfl⟩)
        have HK : Hid (okT l[k] = (vidCLK l[k].1.1 l[k].1.2 && (decide (1 ≤ l[k].2) && decide (l[k].2 ≤ 1099511627776)))) := Lib.hid rfl
        rw [HK.out] at HN HO
        clear HK
        generalize l[k].1.1 = a at *
        generalize l[k].1.2 = i at *
        generalize l[k].2 = n at *
        have HM := Lib.hid fun W b h => may_any' a i W b h
        cases hv : vidCLK a i
        · have HF := Lib.hid (HN.out (by rw [hv]; rfl))
          have HV := Lib.hid hv
          clear hv
          go_wp2_with fail
          (with_reducible refine (HM.out _ _ HV.out).mono ?_)
          rintro e w2 ⟨rfl, hb⟩
          have B2 := Lib.hid (below_after HB.out hb (Nat.le_refl _))
          clear hb
          go_wp2_with fail
          go_ret
          exact ⟨ret_bool HF.out.symm, B2.out⟩
        · by_cases hn1 : n < 1
          · have HF := Lib.hid (HN.out (by rw [decide_eq_false (show ¬ 1 ≤ n by omega)]; simp))
            have hdn : decide (n < 1) = true := decide_eq_true hn1
            have HV := Lib.hid hv
            clear hv
            go_wp2_with fail
            (with_reducible refine (HM.out _ _ HV.out).mono ?_)
            rintro e w2 ⟨rfl, hb⟩
            have B2 := Lib.hid (below_after HB.out hb (Nat.le_refl _))
            have X2 := Lib.hid (tbox_below HX.out hb)
            clear hb c1 c2 c3
            obtain ⟨c1, c2, c3⟩ := tbox_cells X2.out
            go_wp2_with fail
            go_ret
            exact ⟨ret_bool HF.out.symm, B2.out⟩
          · have hdn : decide (n < 1) = false := decide_eq_false hn1
            by_cases hn2 : 1099511627776 < n
            · have HF := Lib.hid (HN.out (by rw [decide_eq_false (show ¬ n ≤ 1099511627776 by omega)]; simp))
              have hdm : decide (1099511627776 < n) = true := decide_eq_true hn2
              have HV := Lib.hid hv
              clear hv
              go_wp2_with fail
              (with_reducible refine (HM.out _ _ HV.out).mono ?_)
              rintro e w2 ⟨rfl, hb⟩
              have B2 := Lib.hid (below_after HB.out hb (Nat.le_refl _))
              have X2 := Lib.hid (tbox_below HX.out hb)
              clear hb c1 c2 c3
              obtain ⟨c1, c2, c3⟩ := tbox_cells X2.out
              go_wp2_with fail
              go_ret
              exact ⟨ret_bool HF.out.symm, B2.out⟩
            · have HG := Lib.hid (HO.out (by rw [hv, decide_eq_true (show 1 ≤ n by omega), decide_eq_true (show n ≤ 1099511627776 by omega)]; rfl))
              have hdm : decide (1099511627776 < n) = false := decide_eq_false hn2
              have HV := Lib.hid hv
              clear hv
              rcases Nat.eq_zero_or_pos k with hk0 | hk0
              · have HR1 := Lib.hid (show risesT (l.take (k + 1)) = true by rw [hk0]; exact risesT_one l)
                have hdz : decide ((0 : Int) < (k : Int)) = false := decide_eq_false (by omega)
                have hdz2 : decide (0 < k) = false := decide_eq_false (by omega)
                clear HL HT hk0
                go_wp2_with fail
                (with_reducible refine (HM.out _ _ HV.out).mono ?_)
                rintro e w2 ⟨rfl, hb⟩
                have B2 := Lib.hid (below_after HB.out hb (Nat.le_refl _))
                have X2 := Lib.hid (tbox_below HX.out hb)
                clear hb c1 c2 c3
                obtain ⟨c1, c2, c3⟩ := tbox_cells X2.out
                go_wp2_with fail
                refine wp_region_held_drew (S := fun w' => Hid (Below w.heap.size w w')) (by kernel_rfl) ?_ (fun hHeld => ?_)
                · exact Lib.hid B2.out.drew
                (refine wpAnyH_take (i := 0) (oi := ⟨_, _, _, _, _, _⟩) (v := ?_) rfl (by kernel_rfl) (by kernel_rfl) (by kernel_rfl) (fun _ _ _ h => h) (Or.inl ⟨by rfl, ?_⟩) (by assumption) ?_; rotate_left 1; · (intro w hSw; (try dsimp only at hSw); go_simp; all_goals with_reducible rfl))
                try simp only [Act.put, List.setIfInBounds_toArray, List.set_cons_zero, List.set_cons_succ]
                (refine wpAnyH_take (i := 1) (oi := ⟨_, _, _, _, _, _⟩) (v := ?_) rfl (by kernel_rfl) (by kernel_rfl) (by kernel_rfl) (fun _ _ _ h => h) (Or.inl ⟨by rfl, ?_⟩) (by assumption) ?_; rotate_left 1; · (intro w hSw; (try dsimp only at hSw); go_simp; all_goals with_reducible rfl))
                try simp only [Act.put, List.setIfInBounds_toArray, List.set_cons_zero, List.set_cons_succ]
                (refine wpAnyH_take (i := 2) (oi := ⟨_, _, _, _, _, _⟩) (v := ?_) rfl (by kernel_rfl) (by kernel_rfl) (by kernel_rfl) (fun _ _ _ h => h) (Or.inl ⟨by rfl, ?_⟩) (by assumption) ?_; rotate_left 1; · (intro w hSw; (try dsimp only at hSw); go_simp; all_goals with_reducible rfl))
                try simp only [Act.put, List.setIfInBounds_toArray, List.set_cons_zero, List.set_cons_succ]
                refine wpAnyH_take (i := 3) (oi := ⟨_, _, _, _, _, _⟩) (v := undef) rfl (by kernel_rfl) (by kernel_rfl) (by kernel_rfl) (fun _ _ _ h => h) (Or.inr ⟨by kernel_rfl, rfl⟩) (by assumption) ?_
                try simp only [Act.put, List.setIfInBounds_toArray, List.set_cons_zero, List.set_cons_succ]
                refine wpAnyH_take (i := 4) (oi := ⟨_, _, _, _, _, _⟩) (v := undef) rfl (by kernel_rfl) (by kernel_rfl) (by kernel_rfl) (fun _ _ _ h => h) (Or.inr ⟨by kernel_rfl, rfl⟩) (by assumption) ?_
                try simp only [Act.put, List.setIfInBounds_toArray, List.set_cons_zero, List.set_cons_succ]
                refine wpAnyH_take (i := 5) (oi := ⟨_, _, _, _, _, _⟩) (v := undef) rfl (by kernel_rfl) (by kernel_rfl) (by kernel_rfl) (fun _ _ _ h => h) (Or.inr ⟨by kernel_rfl, rfl⟩) (by assumption) ?_
                try simp only [Act.put, List.setIfInBounds_toArray, List.set_cons_zero, List.set_cons_succ]
                refine wpAnyH_take (i := 6) (oi := ⟨_, _, _, _, _, _⟩) (v := undef) rfl (by kernel_rfl) (by kernel_rfl) (by kernel_rfl) (fun _ _ _ h => h) (Or.inr ⟨by kernel_rfl, rfl⟩) (by assumption) ?_
                try simp only [Act.put, List.setIfInBounds_toArray, List.set_cons_zero, List.set_cons_succ]
                refine wpAnyH_take (i := 7) (oi := ⟨_, _, _, _, _, _⟩) (v := undef) rfl (by kernel_rfl) (by kernel_rfl) (by kernel_rfl) (fun _ _ _ h => h) (Or.inr ⟨by kernel_rfl, rfl⟩) (by assumption) ?_
                try simp only [Act.put, List.setIfInBounds_toArray, List.set_cons_zero, List.set_cons_succ]
                refine wpAnyH_take (i := 8) (oi := ⟨_, _, _, _, _, _⟩) (v := undef) rfl (by kernel_rfl) (by kernel_rfl) (by kernel_rfl) (fun _ _ _ h => h) (Or.inr ⟨by kernel_rfl, rfl⟩) (by assumption) ?_
                try simp only [Act.put, List.setIfInBounds_toArray, List.set_cons_zero, List.set_cons_succ]
                refine wpAnyH_take (i := 9) (oi := ⟨_, _, _, _, _, _⟩) (v := undef) rfl (by kernel_rfl) (by kernel_rfl) (by kernel_rfl) (fun _ _ _ h => h) (Or.inr ⟨by kernel_rfl, rfl⟩) (by assumption) ?_
                try simp only [Act.put, List.setIfInBounds_toArray, List.set_cons_zero, List.set_cons_succ]
                refine wpAnyH_take (i := 10) (oi := ⟨_, _, _, _, _, _⟩) (v := undef) rfl (by kernel_rfl) (by kernel_rfl) (by kernel_rfl) (fun _ _ _ h => h) (Or.inr ⟨by kernel_rfl, rfl⟩) (by assumption) ?_
                try simp only [Act.put, List.setIfInBounds_toArray, List.set_cons_zero, List.set_cons_succ]
                refine wpAnyH_take (i := 11) (oi := ⟨_, _, _, _, _, _⟩) (v := undef) rfl (by kernel_rfl) (by kernel_rfl) (by kernel_rfl) (fun _ _ _ h => h) (Or.inr ⟨by kernel_rfl, rfl⟩) (by assumption) ?_
                try simp only [Act.put, List.setIfInBounds_toArray, List.set_cons_zero, List.set_cons_succ]
                refine wpAnyH_take (i := 12) (oi := ⟨_, _, _, _, _, _⟩) (v := undef) rfl (by kernel_rfl) (by kernel_rfl) (by kernel_rfl) (fun _ _ _ h => h) (Or.inr ⟨by kernel_rfl, rfl⟩) (by assumption) ?_
                try simp only [Act.put, List.setIfInBounds_toArray, List.set_cons_zero, List.set_cons_succ]
                (refine wpAnyH_take (i := 13) (oi := ⟨_, _, _, _, _, _⟩) (v := ?_) rfl (by kernel_rfl) (by kernel_rfl) (by kernel_rfl) (fun _ _ _ h => h) (Or.inl ⟨by rfl, ?_⟩) (by assumption) ?_; rotate_left 1; · (intro w hSw; (try dsimp only at hSw); go_simp; all_goals with_reducible rfl))
                try simp only [Act.put, List.setIfInBounds_toArray, List.set_cons_zero, List.set_cons_succ]
                refine wpAnyH_done (by kernel_rfl) ?_ _
                go_wp2_with fail
                go_roundw
                case rel => exact ⟨k + 1, by omega, by go_num, HG, HR1, by assumption⟩
                case measure => simp [intOf]; omega
              · obtain ⟨q, rfl⟩ : ∃ q, k = q + 1 := ⟨k - 1, by omega⟩
                have hq : q < l.length := by omega
                have HS : Hid (∀ w', Below w.heap.size w w' → w'.cell? (ad.add (q * 3)) = some (.int .i64 l[q].1.1) ∧ w'.cell? ⟨(ad.add (q * 3)).block, (ad.add (q * 3)).off + 1, none⟩ = some (.int .i64 l[q].1.2)) := Lib.hid fun w' hb => ⟨HI.out.first hb hq rfl, HI.out.cell hb hq 1 (by omega) rfl⟩
                have HLL := Lib.hid (HL.out q rfl hq)
                have HTT := Lib.hid (HT.out q rfl hq)
                clear HL HT
                have i5 : (0 : Int) ≤ (q : Int) := by omega
                have i6 : (q : Int) < (l.length : Int) := by omega
                have i7 : ((q : Int) + 1).toNat = q + 1 := by omega
                have i8 : IntKind.i64.wrap ((q : Int) + 1 - 1) = (q : Int) := by rw [IntWalk.i64_in _ ⟨by omega, by omega⟩]; omega
                have i9 : IntKind.i64.wrap (q : Int) = (q : Int) := IntWalk.i64_in _ ⟨by omega, by omega⟩
                have hd0 : decide ((0 : Int) < (q : Int) + 1) = true := decide_eq_true (by omega)
                generalize l[q].1.1 = a0 at *
                generalize l[q].1.2 = i0 at *
                generalize l[q].2 = n0 at *
                cases hs : lss a0 i0 a i
                all_goals
                  rw [hs] at HTT HLL
                  clear hs
                  go_wp2_with fail
                  (with_reducible refine (HM.out _ _ HV.out).mono ?_)
                  rintro e w2 ⟨rfl, hb⟩
                  have B2 := Lib.hid (below_after HB.out hb (Nat.le_refl _))
                  have X2 := Lib.hid (tbox_below HX.out hb)
                  clear hb c1 c2 c3
                  obtain ⟨c1, c2, c3⟩ := tbox_cells X2.out
                  go_wp2_with fail
                  have HQ := Lib.hid fun w' (hb : Below w2.heap.size w2 w') => And.intro (HS.out w' (below_after B2.out hb (Nat.le_refl _))) (tbox_cells (tbox_below X2.out hb))
                  clear c1 c2 c3
                  go_region_held3 (fun w' => (w'.cell? (ad.add (q * 3)) = some (.int .i64 a0) ∧ w'.cell? ⟨(ad.add (q * 3)).block, (ad.add (q * 3)).off + 1, none⟩ = some (.int .i64 i0)) ∧ (w'.cell? ⟨wr.heap.size, 0, none⟩ = some (.int .i64 a) ∧ w'.cell? ⟨wr.heap.size, 1, none⟩ = some (.int .i64 i)) ∧ Hid (Below w2.heap.size w2 w'))
                    (first | exact ⟨(HQ.out _ (Below.refl _ _).drew).1, ⟨(HQ.out _ (Below.refl _ _).drew).2.1, (HQ.out _ (Below.refl _ _).drew).2.2.1⟩, Lib.hid (Below.refl _ _).drew⟩ | exact ⟨(HQ.out _ HJ.out).1, ⟨(HQ.out _ HJ.out).2.1, (HQ.out _ HJ.out).2.2.1⟩, HJ⟩)
                    (first | (go_at_call 47; (with_reducible refine (HLL.out _).mono ?_); rintro e w' ⟨rfl, hb⟩; have HJ := Lib.hid (below_after (Below.refl _ _).drew hb (Nat.le_refl _)); clear hb))
                  have B3 := Lib.hid (below_after B2.out HJ.out (Nat.le_refl _))
                  go_wp2_with fail
                · go_ret
                  exact ⟨ret_bool (HTT.out.1 (by simp)).symm, B3.out⟩
                · go_roundw
                  case rel => exact ⟨q + 1 + 1, by omega, by go_num, HG, Lib.hid (HTT.out.2 (by simp)), B3⟩
                  case measure => simp [intOf]; omega
      · have hdk : decide ((k : Int) < (l.length : Int)) = false := by simp; omega
        have HF := Lib.hid (mayB_yesCLK (l := l) (by omega) (by have := HA.out; rwa [List.take_of_length_le (by omega)] at this) (by have := HR.out; rwa [List.take_of_length_le (by omega)] at this))
        go_wp2_with fail
        go_ret
        exact ⟨ret_bool HF.out.symm, HW.out⟩
end Go.Proofs.YtkeiekljedhllaaGreat
