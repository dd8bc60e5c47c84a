/-
  Contracts and plain facts.
-/
import Derived.Test.YthkkipbmlafdiaaGreatOy
import Derived.Laws.EntriesVeiled
import Derived.Test.YthkkipbmlafdiaaGreatB22
import Derived.Test.YthkkipbmlafdiaaGreatB23
import Derived.Test.YthkkipbmlafdiaaGreatB24
set_option maxRecDepth 20000
namespace Go.Proofs.YthkkipbmlafdiaaGreat
section
open Go Go.RowKit Sets RowSets
def strike (fl : List Id2) (r : Row) : Row := (r.1, r.2.1, keepN fl r.2.2)
theorem ownBlock_slc {q : Raw} {b : Nat} (h : ∀ ad, q.2.2.1 = some ad → ad.block ≠ b) : (slc q).ownBlock ≠ some b := by
 unfold slc;rcases hq : q.2.2.1 with _ | ad
 ·exact fun e => by cases e
 ·intro e
  have : ad.block = b := by
   have e2 : some ad.block = some b := e
   exact Option.some.inj e2
  exact h ad hq this
structure GInv (fl : List Id2) (g : Nat) (dF : Array Raw) (lf : List Row) (k : Nat) (dk : Array Raw) (w : World) : Prop where
 size : dk.size = dF.size
 len : dF.size = lf.length
 row : RowAtR encW 4 w g dk
 same : ∀ j, j < dF.size → dk[j]!.2.2.1 = dF[j]!.2.2.1
 done : ∀ j (h : j < lf.length), j < k → LiesB g w dk[j]! (strike fl lf[j])
 left : ∀ j (h : j < lf.length), k ≤ j → dk[j]! = dF[j]! ∧ OwnRow w (g + 1) dF[j]! lf[j]
theorem GInv.below {fl : List Id2} {g : Nat} {dF : Array Raw} {lf : List Row} {k : Nat} {dk : Array Raw} {w w' : World} (h : GInv fl g dF lf k dk w) (hb : Below w.heap.size w w') : GInv fl g dF lf k dk w' :=
 ⟨h.size, h.len, rowAtR_kept h.row hb, h.same, fun j hj hk => (h.done j hj hk).below hb, fun j hj hk => ⟨(h.left j hj hk).1, (h.left j hj hk).2.1, (h.left j hj hk).2.2.1, OwnsR.below (h.left j hj hk).2.2.2 hb⟩⟩
theorem GInv.step {fl : List Id2} {g : Nat} {dF : Array Raw} {lf : List Row} {k : Nat} {dk : Array Raw} {w w5 : World} (h : GInv fl g dF lf k dk w) (hk : k < lf.length) {b : Nat} (hb : w.grownBy w5 (some b))
  (hne : ∀ j, j < dF.size → j ≠ k → ∀ ad, dF[j]!.2.2.1 = some ad → ad.block ≠ b) (hrow : RowAtR encW 4 w5 g dk) {B : Option Addr} {m c : Nat} (hB : B = dF[k]!.2.2.1) (hBg : ∀ ad, B = some ad → g < ad.block) (hN : Ids w5 (.slice B m c) (keepN fl lf[k].2.2)) :
  GInv fl g dF lf (k + 1) (dk.setIfInBounds k (dk[k]!.1, dk[k]!.2.1, B, m, c)) (w5.setCell ⟨g, k * 4 + 3, none⟩ (.slice B m c)) := by
 have hkd : k < dk.size := by rw [h.size, h.len]; exact hk
 have hgr : w5.grownBy (w5.setCell ⟨g, k * 4 + 3, none⟩ (.slice B m c)) (some g) := grown_setCells (World.grownBy.refl _ _) (k * 4 + 3) [.slice B m c]
 have get_k : (dk.setIfInBounds k (dk[k]!.1, dk[k]!.2.1, B, m, c))[k]! = (dk[k]!.1, dk[k]!.2.1, B, m, c) := by
  rw [getElem!_pos _ k (by simpa using hkd), Array.getElem_setIfInBounds_self]
 have get_j : ∀ j, j < dk.size → j ≠ k → (dk.setIfInBounds k (dk[k]!.1, dk[k]!.2.1, B, m, c))[j]! = dk[j]! := fun j hj e => by
  rw [getElem!_pos _ j (by simpa using hj), Array.getElem_setIfInBounds_ne _ (fun h => e h.symm), getElem!_pos dk j hj]
 refine ⟨by simp [h.size], h.len, rowW_not hrow hkd B m c, fun j hj => ?_, fun j hj hjk => ?_, fun j hj hjk => ?_⟩
 ·by_cases e : j = k
  ·subst e
   rw [get_k];exact hB
  ·rw [get_j j (by rw [h.size]; exact hj) e]
   exact h.same j hj
 ·by_cases e : j = k
  ·subst e
   rw [get_k];have hl := h.left j hj (Nat.le_refl _);have hq : dk[j]! = dF[j]! := hl.1
   have hlb : LiesB g w5 (dk[j]!.1, dk[j]!.2.1, B, m, c) (strike fl lf[j]) := ⟨by rw [hq]; exact hl.2.1, by rw [hq]; exact hl.2.2.1, hN, hBg⟩
   exact hlb.grown hgr fun ad ha => by have := hBg ad ha; omega
  ·have hjd : j < dF.size := by rw [h.len]; exact hj
   rw [get_j j (by rw [h.size]; exact hjd) e]
   have hd := h.done j hj (by omega)
   have h1 := hd.grown hb fun ad ha => hne j hjd e ad (by rw [← h.same j hjd]; exact ha)
   exact h1.grown hgr fun ad ha => by have := hd.2.2.2 ad ha; omega
 ·have e : j ≠ k := by omega
  have hjd : j < dF.size := by rw [h.len]; exact hj
  rw [get_j j (by rw [h.size]; exact hjd) e]
  obtain ⟨q1, q2⟩ := h.left j hj (by omega)
  refine ⟨q1, q2.1, q2.2.1, ?_⟩
  have h1 := OwnsR.grown q2.2.2 hb (ownBlock_slc (hne j hjd e));exact OwnsR.grown h1 hgr (ownsR_ne h1 (Nat.lt_succ_self g))
theorem GInv.rows {fl : List Id2} {g : Nat} {dF : Array Raw} {lf : List Row} {k c : Nat} {dk : Array Raw} {w : World} (h : GInv fl g dF lf k dk w) (hk : lf.length ≤ k) (hc : dF.size ≤ c) : RowsAt w (.slice (some ⟨g, 0, none⟩) dF.size c) (lf.map (strike fl)) := by
 have hr := rowAtR_rcs (c := c) h.row (by rw [h.size]; exact hc)
 rw [h.size] at hr;refine ⟨dk.toList, hr, ?_⟩
 have hl : dk.toList.length = (lf.map (strike fl)).length := by simp [h.size, h.len]
 have gen : ∀ (qs : List Raw) (l : List Row), qs.length = l.length → (∀ j (h1 : j < qs.length) (h2 : j < l.length), Reads w qs[j] l[j]) → EachReads w qs l := by
  intro qs;induction qs with
  | nil => intro l e _; cases l with
   | nil => trivial
   | cons _ _ => simp at e
  | cons q qs ih => intro l e hh; cases l with
   | nil => simp at e
   | cons r l => exact ⟨hh 0 (by simp) (by simp), ih l (by simpa using e) fun j h1 h2 => by have := hh (j + 1) (by simpa using h1) (by simpa using h2); simpa using this⟩
 refine gen _ _ hl fun j h1 h2 => ?_
 have hj : j < lf.length := by simpa using h2
 have hjd : j < dk.size := by simpa using h1
 have hd := h.done j hj (by omega)
 have e1 : dk.toList[j] = dk[j]! := by rw [getElem!_pos dk j hjd]; simp
 rw [e1, List.getElem_map];exact ⟨hd.1, hd.2.1, hd.2.2.1⟩
theorem gone_is (fl : List Id2) (l : List Row) : (l.filter fun r => !rem fl r.1).map (strike fl) = gone fl l := rfl
theorem gInv_start {fl : List Id2} {g : Nat} {d' : Array Raw} {lf : List Row} {w : World} (hr : RowAtR encW 4 w g d') (ho : EachOwn w (g + 1) d'.toList lf) : GInv fl g d' lf 0 d' w := by
 have hlen : d'.size = lf.length := by have := ho.len; simpa using this
 refine ⟨rfl, hlen, hr, fun _ _ => rfl, fun j _ h => absurd h (by omega), fun j hj _ => ⟨rfl, ?_⟩⟩
 have hjd : j < d'.toList.length := by simp; omega
 have := ho.at_ j hjd hj
 have e1 : d'.toList[j] = d'[j]! := by rw [getElem!_pos d' j (by omega)]; simp
 rw [e1] at this;exact this
theorem apart_ne {d : Array Raw} (h : d.toList.Pairwise Apart) {i j : Nat} (hi : i < d.size) (hj : j < d.size) (hne : i ≠ j) {a b : Addr} (ha : d[i]!.2.2.1 = some a) (hb : d[j]!.2.2.1 = some b) : a.block ≠ b.block := by
 have key : ∀ {i j : Nat}, i < j → j < d.size → ∀ {a b : Addr}, d[i]!.2.2.1 = some a → d[j]!.2.2.1 = some b → a.block ≠ b.block := by
  intro i j hij hj a b ha hb e;have := List.pairwise_iff_getElem.1 h i j (by simp; omega) (by simpa using hj) hij
  have e1 : d.toList[i]'(by simp; omega) = d[i]! := by rw [getElem!_pos d i (by omega)]; simp
  have e2 : d.toList[j]'(by simpa using hj) = d[j]! := by rw [getElem!_pos d j hj]; simp
  rw [e1, e2] at this;refine this a.block (by unfold slc; rw [ha]; rfl) ?_
  unfold slc;rw [hb, e];rfl
 rcases Nat.lt_or_gt_of_ne hne with h1 | h1
 ·exact key h1 hj ha hb
 ·exact fun e => key h1 hi hb ha e.symm
end
section
open Go Go.RowKit Sets RowSets
theorem ids_grownB {w w' : World} {A : Option Addr} {n c b : Nat} {l : List Id2} (h : Ids w (.slice A n c) l) (hb : w.grownBy w' (some b)) (hne : ∀ ad, A = some ad → ad.block ≠ b) : Ids w' (.slice A n c) l := by
 obtain ⟨A', c', hv, h0, hc, hk⟩ := h;refine ⟨A', c', hv, h0, hc, fun k hlt => ?_⟩
 obtain ⟨ad, rfl, h1, c1, c2⟩ := hk k hlt;have e : A = some ad := by injection hv
 have hbl := hb.block ad.block h1 (fun h => hne ad e (by first | exact (Option.some.inj h).symm | exact Option.some.inj h))
 refine ⟨ad, rfl, Nat.lt_of_lt_of_le h1 hb.size, ?_, ?_⟩
 ·rw [World.cell?_of_block (w := w) (by rw [block_of_add]; exact hbl)]
  exact c1
 ·rw [World.cell?_of_block (w := w) (by show w'.heap[(ad.add (k * 2)).block]? = _; rw [block_of_add]; exact hbl)]
  exact c2
theorem FloorsAt.grown {X b : Nat} {s : List Id2} {A : Option Addr} {c : Nat} {W W' : World} (h : FloorsAt X s A c W) (hg : W.grownBy W' (some b)) (hX : X < b) (hA : ∀ ad, A = some ad → ad.block < b) : FloorsAt X s A c W' :=
 ⟨(hg.block X (one_lt h.1) (fun e => by have := Option.some.inj e; omega)).trans h.1, ids_grownB h.2 hg fun ad e => by have := hA ad e; omega⟩
theorem FloorsW.grown {X Y b : Nat} {s : List Id2} {A : Option Addr} {c : Nat} {W W' : World} (h : FloorsW X Y s A c W) (hg : W.grownBy W' (some b)) (hX : X < b) (hY : Y < b) (hA : ∀ ad, A = some ad → ad.block < b) : FloorsW X Y s A c W' :=
 ⟨(hg.block Y (one_lt h.1) (fun e => by have := Option.some.inj e; omega)).trans h.1, h.2.grown hg hX hA⟩
theorem FloorsW.at_ {X Y : Nat} {s : List Id2} {A : Option Addr} {c : Nat} {W : World} (h : FloorsW X Y s A c W) : FloorsAt X s A c W := h.2
theorem FloorsW.fn {X Y : Nat} {s : List Id2} {A : Option Addr} {c : Nat} {W : World} (h : FloorsW X Y s A c W) : One W Y 76 (.func (.func 100) #[] #[.pointer (some ⟨X, 0, none⟩)]) := h.1
theorem GInv.gt {fl : List Id2} {g : Nat} {dF : Array Raw} {lf : List Row} {k : Nat} {dk : Array Raw} {w : World} (h : GInv fl g dF lf k dk w) (j : Nat) (hj : j < dF.size) (ad : Addr) (ha : dF[j]!.2.2.1 = some ad) : g < ad.block := by
 have hjl : j < lf.length := by rw [← h.len]; exact hj
 rcases Nat.lt_or_ge j k with h1 | h1
 ·exact (h.done j hjl h1).2.2.2 ad (by rw [h.same j hj]; exact ha)
 ·have := (World.ownsRow.lt (h.left j hjl h1).2.2.2 ad.block (by unfold slc; rw [ha]; rfl)).1
  omega
set_option maxHeartbeats 8000000 in
set_option maxRecDepth 100000 in
theorem gone_any (v vf : Value) (l : List Row) (fl : List Id2) (w : World) (h : RowsAt w v l) (hf : Ids w vf fl) (hl : l.length ≤ 1000) (hn : ∀ r ∈ l, r.2.2.length ≤ 40000) (hfl : fl.length ≤ 40000) :
  Calls Tryz.prog 48 #[v, vf] w fun e w' => ∃ V, e = .returned V ∧ RowsAt w' V (gone fl l) ∧ Below w.heap.size w w' := by
 have HH := hd_ h;have HF := hd_ hf;have HN := hd_ hn;obtain ⟨A0, c0, rfl, _⟩ := id hf;have BX := hd_ (ad_ w (.cells #[.slice A0 fl.length c0] 23));have O0 := hd_ (one_new w 23 (.slice A0 fl.length c0));have I0 := hd_ (HF.out.below BX.out);have f1 := one_cell O0.out;have f2 := one_free O0.out;clear h hf hn;go_enter Tryz.func48, Tryz.ntmps48
 go_wp2_with fail;(with_reducible refine (set_new _ fl _ I0.out hfl).mono ?_)
 rintro e w1 ⟨vs, rfl, hi, hb⟩;have O := hd_ (ownsI_of hi);obtain ⟨A, c, rfl, _⟩ := id (rcs_owns encI_len O.out);have O1 := hd_ (a0_ O0.out hb);have B1 := hd_ (ba_ BX.out hb);clear hi hb f1 f2;have f1 := one_cell O1.out;have f2 := one_free O1.out;have gS : w1.grownBy (w1.setCell ⟨w.heap.size, 0, none⟩ (.slice A (setOf fl).length c)) (some w.heap.size) := grown_setCells (World.grownBy.refl _ _) 0 [.slice A (setOf fl).length c]
 have FS := hd_ (show FloorsAt w.heap.size (setOf fl) A c (w1.setCell ⟨w.heap.size, 0, none⟩ (.slice A (setOf fl).length c)) from ⟨one_set O1.out _, ownsI_ids (OwnsR.grown O.out gS (ownsR_ne O.out (by simp)))⟩)
 have BS := hd_ (show Below w.heap.size w (w1.setCell ⟨w.heap.size, 0, none⟩ (.slice A (setOf fl).length c)) from below_setCells B1.out (Nat.le_refl _) 0 [.slice A (setOf fl).length c])
 have HA := hd_ fun ad (e : A = some ad) => (show ad.block < (w1.setCell ⟨w.heap.size, 0, none⟩ (.slice A (setOf fl).length c)).heap.size by
  rw [World.size_setCell];exact (World.ownsRow.lt O.out ad.block (by rw [e]; rfl)).2)
 have HX := hd_ (show w.heap.size < (w1.setCell ⟨w.heap.size, 0, none⟩ (.slice A (setOf fl).length c)).heap.size by
  rw [World.size_setCell];exact one_lt O1.out)
 clear gS;go_upto_region 2 with fail;clear f1 f2;generalize w1.setCell ⟨w.heap.size, 0, none⟩ (.slice A (setOf fl).length c) = ws at *;have FW := hd_ (show FloorsW w.heap.size ws.heap.size (setOf fl) A c (ws.alloc (.cells #[.func (.func 100) #[] #[.pointer (some ⟨w.heap.size, 0, none⟩)]] 76)) from ⟨one_new ws 76 _, FS.out.below (ad_ _ _)⟩)
 have BY := hd_ (ah_ BS.out (ad_ ws (.cells #[.func (.func 100) #[] #[.pointer (some ⟨w.heap.size, 0, none⟩)]] 76)) (Nat.le_refl _));have HQ := hd_ (goneI_asks w.heap.size fl (setOf fl) A c (rises_setOf fl) (mem_setOf fl) (by have := setOf_len fl; omega))
 have HP := hd_ (goneW_asks w.heap.size ws.heap.size fl (setOf fl) A c (rises_setOf fl) (mem_setOf fl) (by have := setOf_len fl; omega))
 clear O I0 O0 O1 B1 BX HF FS;go_wp2_with fail;(with_reducible refine (copiedAll_any v l _ (HH.out.below BY.out) hl (fun r hr => by have := HN.out r hr; omega)).mono ?_)
 rintro e w3 ⟨g, d, rfl, hg, hr, ho, ha, hb⟩;have hg2 : ws.heap.size < g := by simp at hg; omega
 have HG := hd_ hg2;have F3 := hd_ (FW.out.below hb);have B3 := hd_ (ba_ BY.out hb);have R3 := hd_ hr;have E3 := hd_ ho;have A3 := hd_ ha;have hds : d.size ≤ 1000 := by have := ho.len; simp at this; omega
 have HS3 := hd_ fun W W' (h : FloorsW w.heap.size ws.heap.size (setOf fl) A c W) (hgr : W.grownBy W' (some g)) => h.grown hgr (by have := HX.out; have := HG.out; omega) HG.out (fun ad e => by have := HA.out ad e; have := HG.out; omega)
 clear hg hr ho ha hb hg2;go_wp2_with fail;(with_reducible refine (deleteW_any HP.out g d.size HS3.out d _ R3.out F3.out (Nat.le_refl _) (by omega)).mono ?_)
 rintro e w4 ⟨d', rfl, hd, hle, hr, hgr⟩;have R4 := hd_ hr;have E4 := hd_ (show EachOwn w4 (g + 1) d'.toList (l.filter fun r => !rem fl r.1) by rw [hd]; exact eachOwn_filter (p := rem fl) (E3.out.grown hgr (Nat.lt_succ_self g)))
 have A4 := hd_ (show d'.toList.Pairwise Apart by rw [hd]; exact List.Pairwise.filter _ A3.out)
 have F4 := hd_ (HS3.out _ _ F3.out hgr);have B4 := hd_ (show Below w.heap.size w w4 from B3.out.trans (aj_ hgr (by have := HX.out; have := HG.out; omega) B3.out.size))
 have HLE := hd_ hle;have HLN : Hid (∀ r ∈ l.filter (fun r => !rem fl r.1), r.2.2.length ≤ 40000) := hd_ fun r hr => HN.out r (List.mem_filter.1 hr).1
 have HGI := hd_ (gone_is fl l);generalize hlf : (l.filter fun r => !rem fl r.1) = lf at *
 have GI := hd_ (gInv_start (fl := fl) R4.out E4.out);have hds2 : d'.size ≤ 1000 := by have := HLE.out; omega
 have HD := hd_ GI.out.len;clear hd hle hr hgr hlf E3 A3 R3 F3 E4;go_wp2_with fail;go_loopw [18] (fun s18 wr => ∃ k : Nat, ∃ dk : Array Raw, k ≤ d'.size ∧ s18 = .int .i64 k ∧ Hid (GInv fl g d' lf k dk wr) ∧ Hid (FloorsW w.heap.size ws.heap.size (setOf fl) A c wr) ∧ Hid (Below w.heap.size w wr)) (fun s18 _ => d'.size - (intOf s18).toNat)
 case atStart => exact ⟨0, d', by omega, rfl, GI, F4, B4⟩
 case round =>
  obtain ⟨k, dk, hkl, rfl, HI, HFW, HW⟩ := hrel;have i3 : (0 : Int) ≤ (k : Int) := by omega
  by_cases hlt : k < d'.size
  ·have hdk : decide ((k : Int) < (d'.size : Int)) = true := decide_eq_true (by omega)
   have i4 : (k : Int) < (d'.size : Int) := by omega
   have hkl2 : k < lf.length := by have := HD.out; omega
   have hkd : k < dk.size := by rw [HI.out.size]; exact hlt
   obtain ⟨hq, hown⟩ := HI.out.left k hkl2 (Nat.le_refl _);obtain ⟨⟨r1, r2, r3, r4⟩, _⟩ := HI.out.row.row hkd;have OW := hd_ (show OwnsI wr (g + 1) (.slice dk[k]!.2.2.1 dk[k]!.2.2.2.1 dk[k]!.2.2.2.2) lf[k].2.2 from by rw [hq]; exact hown.2.2)
   have HB0 := hd_ (show dk[k]!.2.2.1 = d'[k]!.2.2.1 by rw [hq])
   have HCL := hd_ fun W (h : RowAtR encW 4 W g dk) => (show (∃ z, W.cell? ⟨g, k * 4 + 3, none⟩ = some z) ∧ W.frozen? ⟨g, k * 4 + 3, none⟩ = false from ⟨⟨_, (h.row hkd).1.2.2.2⟩, (h.row hkd).2.2.2.2⟩)
   clear hq hown hkd;generalize dk[k]!.1.1 = a at *;generalize dk[k]!.1.2 = i at *;generalize dk[k]!.2.1 = n at *;generalize dk[k]!.2.2.1 = Bq at *;generalize dk[k]!.2.2.2.1 = mq at *;generalize dk[k]!.2.2.2.2 = cq at *;rcases ownsR_split OW.out with ⟨e, hn0⟩ | ⟨b, cap, e, hb1, hb2⟩
   ·injection e with e1 e2 e3
    subst e1 e2 e3;have HN0 := hd_ (show keepN fl lf[k].2.2 = [] by rw [List.eq_nil_of_length_eq_zero hn0]; rfl)
    have BXk := hd_ (ad_ wr (.cells #[.int .i64 a, .int .i64 i, .int .i64 n, .slice none 0 0] 68));have FX := hd_ (HFW.out.below BXk.out);have XX := hd_ (av_ wr a i n (.slice none 0 0));obtain ⟨_, _, _, x4⟩ := ai_ XX.out;have fY := one_cell FX.out.fn;clear hn0;go_wp2_with fail;(with_reducible refine (deleteI_nil HQ.out _ FX.out.at_).mono ?_)
    rintro e w5 ⟨rfl, hb⟩;have B5 := hd_ (ba_ BXk.out hb);have I5 := hd_ (HI.out.below B5.out);have F5 := hd_ (HFW.out.below B5.out);obtain ⟨⟨z, s4⟩, t4⟩ := HCL.out _ I5.out.row;have ST := hd_ (I5.out.step hkl2 (b := g) (World.grownBy.refl w5 (some g)) (fun j hj _ ad ha => by have := I5.out.gt j hj ad ha; omega) I5.out.row (B := none) (m := 0) (c := 0) HB0.out (fun ad h => by cases h) (by rw [HN0.out]; exact Ids.nil _))
    have F6 := hd_ (F5.out.grown (grown_setCells (World.grownBy.refl w5 (some g)) (k * 4 + 3) [.slice none 0 0]) (by have := HX.out; have := HG.out; omega) HG.out (fun ad e => by have := HA.out ad e; have := HG.out; omega))
    have B6 := hd_ (below_setCells (ba_ HW.out B5.out) (show w.heap.size ≤ g by have := HX.out; have := HG.out; omega) (k * 4 + 3) [.slice none 0 0])
    clear hb r1 r2 r3 r4 x4 fY;go_wp2_with fail;go_roundw
    case rel => exact ⟨k + 1, _, by omega, by go_num, ST, F6, B6⟩
    case measure => simp [intOf]; omega
   ·injection e with e1 e2 e3
    subst e1 e2 e3;obtain ⟨dI, hdI⟩ : ∃ dI : Array Id2, dI = lf[k].2.2.toArray := ⟨_, rfl⟩;have hsz : dI.size = lf[k].2.2.length := by rw [hdI]; simp
    have HTL := hd_ (show dI.toList = lf[k].2.2 by rw [hdI])
    have RI := hd_ (rowAtR_owns encI_len (w := wr) (base := g + 1) (g := b) (c := cq) (d := dI) (by rw [hsz, HTL.out]; exact OW.out))
    have hgb := (World.ownsRow.lt OW.out b rfl).1;have hIL : dI.size ≤ 40000 := by rw [hsz]; exact HLN.out _ (List.getElem_mem hkl2)
    rw [← hsz] at r4 hb2;clear OW hsz hdI;have BXk := hd_ (ad_ wr (.cells #[.int .i64 a, .int .i64 i, .int .i64 n, .slice (some ⟨b, 0, none⟩) dI.size cq] 68));have FX := hd_ (HFW.out.below BXk.out);have XX := hd_ (av_ wr a i n (.slice (some ⟨b, 0, none⟩) dI.size cq));have IX := hd_ (HI.out.below BXk.out);obtain ⟨_, _, _, x4⟩ := ai_ XX.out;have fY := one_cell FX.out.fn;go_wp2_with fail;(with_reducible refine (deleteI_any HQ.out b cq (fun W W' h hgr => h.grown hgr (by have := HX.out; have := HG.out; omega) (fun ad e => by have := HA.out ad e; have := HG.out; omega)) dI _ (rowAtR_kept RI.out BXk.out) FX.out.at_ hb2 (by omega)).mono ?_)
    rintro e w5 ⟨d2, rfl, hd2, hle2, hr2, hg2⟩;have hrow := rowAtR_block IX.out.row hg2.size (hg2.block g IX.out.row.1 (fun e => by have := Option.some.inj e; omega))
    obtain ⟨⟨z, s4⟩, t4⟩ := HCL.out _ hrow
    have HID := hd_ (show Ids w5 (.slice (some ⟨b, 0, none⟩) d2.size cq) (keepN fl lf[k].2.2) from by
     have h1 := ids_rcs (rowAtR_rcs (c := cq) hr2 (by omega))
     rw [hd2, HTL.out] at h1;exact h1)
    have ST := hd_ (IX.out.step hkl2 (b := b) hg2 (fun j hj hne ad ha => apart_ne A4.out hj hlt hne ha HB0.out.symm) hrow (B := some ⟨b, 0, none⟩) (m := d2.size) (c := cq) HB0.out (fun ad h => by cases h; exact hgb) HID.out)
    have F5 := hd_ (FX.out.grown hg2 (by have := HX.out; have := HG.out; omega) (by have := HG.out; omega) (fun ad e => by have := HA.out ad e; have := HG.out; omega))
    have F6 := hd_ (F5.out.grown (grown_setCells (World.grownBy.refl w5 (some g)) (k * 4 + 3) [.slice (some ⟨b, 0, none⟩) d2.size cq]) (by have := HX.out; have := HG.out; omega) HG.out (fun ad e => by have := HA.out ad e; have := HG.out; omega))
    have B5 := hd_ (show Below w.heap.size w w5 from (ba_ HW.out BXk.out).trans (aj_ hg2 (by have := HX.out; have := HG.out; omega) (ba_ HW.out BXk.out).size))
    have B6 := hd_ (below_setCells B5.out (show w.heap.size ≤ g by have := HX.out; have := HG.out; omega) (k * 4 + 3) [.slice (some ⟨b, 0, none⟩) d2.size cq])
    clear hd2 hle2 hr2 hg2 hrow r1 r2 r3 r4 x4 fY;go_wp2_with fail;go_roundw
    case rel => exact ⟨k + 1, _, by omega, by go_num, ST, F6, B6⟩
    case measure => simp [intOf]; omega
  ·have hdk : decide ((k : Int) < (d'.size : Int)) = false := decide_eq_false (by omega)
   have HR := hd_ (show RowsAt wr (.slice (some ⟨g, 0, none⟩) d'.size d.size) (gone fl l) by rw [← HGI.out]; exact HI.out.rows (by have := HD.out; omega) HLE.out)
   go_wp2_with fail;go_ret;exact ⟨_, rfl, HR.out, HW.out⟩
end
section
open Go Go.RowKit Sets RowSets
attribute [local go_sem] Oper.semAt_some
set_option maxHeartbeats 8000000 in
theorem join_rows (vA vB : Value) (la lb : List Row) (w : World) (hA : RowsAt w vA la) (hB : RowsAt w vB lb) (ua : Up la) (ub : Up lb) (sa : Small la) (sb : Small lb) :
  Calls Tryz.prog 58 #[vA, vB] w fun e w' => ∃ v', e = .returned v' ∧ RowsAt w' v' (joinR la lb) ∧ Below w.heap.size w w' := by
 obtain ⟨qa, ha, ra⟩ := hA;obtain ⟨qb, hb, rb⟩ := hB;have HA := hd_ ha;have HB := hd_ hb;have hla := hd_ ra.len;have hlb := hd_ rb.len;have hqa : qa.length ≤ 1000 := by have := sa.1; have := hla.out; omega
 have hqb : qb.length ≤ 1000 := by have := sb.1; have := hlb.out; omega
 have hll := hd_ (show (join (ids la) (ids lb)).length ≤ 2000 by
  have h1 := len_join (ids la) (ids lb);have h2 : (ids la).length = la.length := by simp [ids]
  have h3 : (ids lb).length = lb.length := by simp [ids]
  have := sa.1
  have := sb.1
  omega)
 obtain ⟨A0, c0, rfl, hz⟩ := ha;obtain ⟨A1, c1, rfl, hz2⟩ := hb;clear hz hz2;refine (callsIn_wide (n := 0)).1 ?_
 refine callsIn_of_wp_marks Tryz.func58 rfl trivial ?_
 simp only [Tryz.ntmps58, List.size_toArray, List.length_cons, List.length_nil, Nat.reduceAdd, Nat.reduceSub, Array.replicate_succ, Array.replicate_zero, List.push_toArray, List.append_toArray, List.nil_append, List.cons_append];gi_wp2_with (gi_at_make; refine wpListIn_make_spelled (enc := encW) 24 68 Tryz.underlying24 infoW (by omega) _ rfl (.tmp 12) rfl _ rfl (by omega) (by omega) ?_; intro cap w1 h1 h2; have O1 := hd_ h1; have B1 := hd_ h2; clear h1 h2)
 have X2 := hd_ (one_new w1 24 (.slice (some ⟨w.heap.size, 0, none⟩) 0 cap));have K2 := hd_ (ad_ w1 (.cells #[.slice (some ⟨w.heap.size, 0, none⟩) 0 cap] 24));have hX0 : w.heap.size < w1.heap.size := (World.ownsRow.lt O1.out w.heap.size rfl).2
 have B2 := hd_ (B1.out.trans (K2.out.mono B1.out.size));have O2 := hd_ (O1.out.below K2.out);have hs2 : w1.heap.size < (w1.alloc (.cells #[.slice (some ⟨w.heap.size, 0, none⟩) 0 cap] 24)).heap.size := one_lt X2.out
 refine ⟨trivial, rfl, callsIn_wide.2 ((pairs_any A0 A1 qa.length qb.length c0 c1 _).mono ?_)⟩
 rintro e w3 ⟨rfl, hTA, hTB, hb⟩;have X3 := hd_ (a0_ X2.out hb);have O3 := hd_ (O2.out.below hb);have B3 := hd_ (ba_ B2.out hb);have TA := hd_ hTA;have TB := hd_ hTB;have hs3 : w1.heap.size < w3.heap.size := Nat.lt_of_lt_of_le hs2 hb.size
 generalize (w1.alloc (.cells #[.slice (some ⟨w.heap.size, 0, none⟩) 0 cap] 24)).heap.size = tA at *;clear hTA hTB hb X2 K2 O2 O1 B1 B2 hs2;generalize w1.heap.size = X at *;gi_wp2
 refine wp_each (P := Tryz.prog) (gf := 162) (lb := #[.pointer (some ⟨tA, 0, none⟩), .pointer (some ⟨tA + 1, 0, none⟩)]) rfl (enters_fn Tryz.func162 (by kernel_rfl) rfl)
  (pairs_seq tA (tA + 1) (join (ids la) (ids lb)).length _ _ qa qb la lb w w3 B3.out TA.out TB.out HA.out HB.out ra rb ua ub sa sb (Nat.le_refl _)) (fun _ => rfl) B3.out.size (JoinI X w3.heap.size w.heap.size) ?start (fun hi pre A B h hg => h.loop hs3 hg) ?round ?done
 case start =>
  intro hi W hhi hb;refine ⟨some ⟨w.heap.size, 0, none⟩, 0, cap, [], a0_ X3.out hb, rfl, O3.out.below hb, trivial, fun g hg => ?_, fun q hq => absurd hq (by simp), fun h => ?_, hhi⟩
  ·injection hg with hg
   left
   rw [← hg];show w.heap.size < w3.heap.size
   omega
  ·injection h with h
   have : w.heap.size = X := h
   omega
 case done =>
  intro hi xs W hS hI hb hD;obtain ⟨Av, n, c, qs, hX, hn, hO, hE, _⟩ := hI
  have hj : joinedRows xs = joinR la lb := by
   rw [← joinR_pairs ua ub, ← hS];unfold joinedRows optsP;rw [List.map_map];rfl
  rw [hj] at hE;have cX := one_cell hX;have HO := hd_ hO;have HE := hd_ hE.reads;have HBW := hd_ (B3.out.trans hb);clear hX hO hE hS hj;gi_wp2
  refine ⟨by simp, .inl ⟨_, _, rfl, run_takeDeferred hD, ?_⟩⟩
  refine ⟨_, results_tmp rfl _ _ _, _, rfl, RowsAt.cells ⟨qs, rcs_owns encW_len HO.out, HE.out⟩ (cells_deferred hD (grownBy_putObj' _ _ _)), ?_⟩
  exact HBW.out.grown (grownBy_putObj' _ _ _) HBW.out.size fun k hk => by injection hk with hk; rw [← hk]; exact B3.out.size
 case round =>
  intro hi pre x A hhi hA hI hPr hN ⟨r, hl⟩;have e : ∀ t : Array Value, ((#[17, 18] : Array Tmp).zip (encP x)).foldl (fun t (p, v) => t.setIfInBounds p v) t = (t.setIfInBounds 17 (.pointer x.1.1)).setIfInBounds 18 (.pointer x.2.1) := fun t => by simp [encP]
  rw [e];simp only [List.setIfInBounds_toArray, List.set_cons_zero, List.set_cons_succ];clear e;gi_wp2
  refine ⟨⟨Below.refl _ _, Span.refl _ _ _, rfl⟩, trivial, fun C hC => ?_⟩
  have hI2 := hI.loop hs3 hC;have hcc := cells_loop hl hC;obtain ⟨Av, n, c, qs, h1, h2, h3, h4, h5, h6, h7, h8⟩ := hI2;have H1 := hd_ h1;have H2 := hd_ h2;have H3 := hd_ h3;have H4 := hd_ h4;have H5 := hd_ h5;have H6 := hd_ h6;have H7 := hd_ h7;have hiC : hi ≤ C.heap.size := Nat.le_trans hA hC.size
  have hqn : qs.length ≤ 50000 := by
   have e1 := h4.len;have e2 : (joinedRows pre).length = pre.length := by simp [joinedRows]
   have := hll.out
   omega
  have HC := hd_ fun W (hb : Below C.heap.size C W) => joined_any x.1.1 x.2.1 x.1.2 x.2.2 W ((hPr.1.cells hcc).below hb) ((hPr.2.1.cells hcc).below hb) hPr.2.2.1 hPr.2.2.2.1 hPr.2.2.2.2
  have HR : Hid (joinedO x.1.2 x.2.2 = (((joinedO x.1.2 x.2.2).1.1, (joinedO x.1.2 x.2.2).1.2), (joinedO x.1.2 x.2.2).2.1, (joinedO x.1.2 x.2.2).2.2)) := hd_ rfl
  have hxs : w.heap.size < X := hX0
  clear h1 h2 h3 h4 h5 h6 h7 hI hPr hl hcc;refine wpIn_block ?_
  refine wpIn_region_of_any (by kernel_rfl) (fun ⟨a, w, h⟩ => h) (no_defer (by kernel_rfl)) ?_
  have cX : C.drew.cell? ⟨X, 0, none⟩ = some (.slice Av n c) := one_cell (show One C.drew X 24 _ from H1.out)
  (refine wpAny_take (i := 1) (oi := ⟨_, _, _, _, _, _⟩) (v := ?_) rfl (by kernel_rfl) (by kernel_rfl) (by kernel_rfl) (fun _ _ _ h => h) (Or.inl ⟨by rfl, ?_⟩) ?_; rotate_left 1; · (intro w; go_simp; all_goals with_reducible rfl))
  (try simp only [Act.put, si0, si1, si2]);(refine wpAny_take (i := 2) (oi := ⟨_, _, _, _, _, _⟩) (v := ?_) rfl (by kernel_rfl) (by kernel_rfl) (by kernel_rfl) (fun _ _ _ h => h) (Or.inl ⟨by rfl, ?_⟩) ?_; rotate_left 1; · (intro w; go_simp; all_goals with_reducible rfl))
  (try simp only [Act.put, si0, si1, si2]);refine wpAny_ready (rs := [0, 3]) (by kernel_rfl) (by simp) ?_
  refine (AllReady.cons (o := ⟨_, _, _, _, _, _⟩) rfl (fun K hK => ?_) (AllReady.cons (o := ⟨_, _, _, _, _, _⟩) rfl (fun K hK => ?_) AllReady.nil))
  ·skip
   go_simp;refine hK _ _ ?_
   clear hK K;(try simp only [Act.put, si0, si1, si2]);refine wpAny_ready (rs := [3]) (by kernel_rfl) (by simp) ?_
   refine (AllReady.cons (o := ⟨_, _, _, _, _, _⟩) rfl (fun K hK => ?_) AllReady.nil)
   go_simp;go_at_call 126
   with_reducible refine (HC.out _ (Below.refl _ _).drew).mono ?_
   rintro e w5 ⟨B, m', k', rfl, ho, hb⟩;have K5 := hd_ (show Below C.heap.size C w5 from (Below.refl _ _).drew.trans hb)
   have Q5 := hd_ (show OwnsI w5 C.heap.size (.slice B m' k') (joinedO x.1.2 x.2.2).2.2 from ho)
   clear ho hb cX;have cX : w5.cell? ⟨X, 0, none⟩ = some (.slice Av n c) := one_cell (a0_ H1.out K5.out)
   refine hK _ _ ?_
   clear hK K;(try simp only [Act.put, si0, si1, si2]);refine wpAny_ready (rs := [4]) (by kernel_rfl) (by simp) ?_
   refine (AllReady.cons (o := ⟨_, _, _, _, _, _⟩) rfl (fun K hK => ?_) AllReady.nil)
   go_simp;refine hK _ _ ?_
   clear hK K;(try simp only [Act.put, si0, si1, si2]);have N6 := hd_ (ad_ w5 (.cells #[.int .i64 (joinedO x.1.2 x.2.2).1.1, .int .i64 (joinedO x.1.2 x.2.2).1.2, .int .i64 (joinedO x.1.2 x.2.2).2.1, .slice B m' k'] 68));have K6 := hd_ (K5.out.trans (N6.out.mono K5.out.size));have Q6 := hd_ (OwnsR.below Q5.out N6.out);have X6 := hd_ (av_ w5 (joinedO x.1.2 x.2.2).1.1 (joinedO x.1.2 x.2.2).1.2 (joinedO x.1.2 x.2.2).2.1 (.slice B m' k'));have O6 := hd_ (OwnsR.below H3.out K6.out);clear cX;have cX := one_cell (a0_ H1.out K6.out);refine wpAny_ready (rs := [5]) (by kernel_rfl) (by simp) ?_
   refine (AllReady.cons (o := ⟨_, _, _, _, _, _⟩) rfl (fun K hK => ?_) AllReady.nil)
   refine step_pushW rfl (.tmp 19) (.tmp 23) rfl _ w.heap.size Av n c w5.heap.size qs (joinedO x.1.2 x.2.2).1.1 (joinedO x.1.2 x.2.2).1.2 (joinedO x.1.2 x.2.2).2.1 B m' k' H2.out rfl rfl O6.out X6.out hqn (Nat.le_trans (by omega) K6.out.size) ?_
   intro g cap' w7 p1 p2 p3 p4;have E7 := hd_ (join_end (x := x) (pre := pre) (by omega) hs3 h8 hiC H1.out H2.out H3.out H4.out H5.out H6.out H7.out K6.out HR.out Q6.out p1 p2 p3)
   have X7 := hd_ (show One w7 X 24 (.slice Av n c) from (p2.block X (one_lt (a0_ H1.out K6.out)) (fun e => H7.out e.symm)).trans (a0_ H1.out K6.out))
   clear p1 p2 p3 p4 cX;have cX := one_cell X7.out;have fX := one_free X7.out;refine hK _ _ ?_
   clear hK K;(try simp only [Act.put, si0, si1, si2]);refine wpAny_ready (rs := [6]) (by kernel_rfl) (by simp) ?_
   refine (AllReady.cons (o := ⟨_, _, _, _, _, _⟩) rfl (fun K hK => ?_) AllReady.nil)
   go_simp;refine hK _ _ ?_
   clear hK K;(try simp only [Act.put, si0, si1, si2]);refine wpAny_done (by kernel_rfl) ?_ _
   exact E7.out
  ·skip
   go_simp;go_at_call 126
   with_reducible refine (HC.out _ (Below.refl _ _).drew).mono ?_
   rintro e w5 ⟨B, m', k', rfl, ho, hb⟩;have K5 := hd_ (show Below C.heap.size C w5 from (Below.refl _ _).drew.trans hb)
   have Q5 := hd_ (show OwnsI w5 C.heap.size (.slice B m' k') (joinedO x.1.2 x.2.2).2.2 from ho)
   clear ho hb cX;have cX : w5.cell? ⟨X, 0, none⟩ = some (.slice Av n c) := one_cell (a0_ H1.out K5.out)
   refine hK _ _ ?_
   clear hK K;(try simp only [Act.put, si0, si1, si2]);refine wpAny_ready (rs := [0, 4]) (by kernel_rfl) (by simp) ?_
   refine (AllReady.cons (o := ⟨_, _, _, _, _, _⟩) rfl (fun K hK => ?_) (AllReady.cons (o := ⟨_, _, _, _, _, _⟩) rfl (fun K hK => ?_) AllReady.nil))
   ·skip
    go_simp;refine hK _ _ ?_
    clear hK K;(try simp only [Act.put, si0, si1, si2]);refine wpAny_ready (rs := [4]) (by kernel_rfl) (by simp) ?_
    refine (AllReady.cons (o := ⟨_, _, _, _, _, _⟩) rfl (fun K hK => ?_) AllReady.nil)
    go_simp;refine hK _ _ ?_
    clear hK K;(try simp only [Act.put, si0, si1, si2]);have N6 := hd_ (ad_ w5 (.cells #[.int .i64 (joinedO x.1.2 x.2.2).1.1, .int .i64 (joinedO x.1.2 x.2.2).1.2, .int .i64 (joinedO x.1.2 x.2.2).2.1, .slice B m' k'] 68));have K6 := hd_ (K5.out.trans (N6.out.mono K5.out.size));have Q6 := hd_ (OwnsR.below Q5.out N6.out);have X6 := hd_ (av_ w5 (joinedO x.1.2 x.2.2).1.1 (joinedO x.1.2 x.2.2).1.2 (joinedO x.1.2 x.2.2).2.1 (.slice B m' k'));have O6 := hd_ (OwnsR.below H3.out K6.out);clear cX;have cX := one_cell (a0_ H1.out K6.out);refine wpAny_ready (rs := [5]) (by kernel_rfl) (by simp) ?_
    refine (AllReady.cons (o := ⟨_, _, _, _, _, _⟩) rfl (fun K hK => ?_) AllReady.nil)
    refine step_pushW rfl (.tmp 19) (.tmp 23) rfl _ w.heap.size Av n c w5.heap.size qs (joinedO x.1.2 x.2.2).1.1 (joinedO x.1.2 x.2.2).1.2 (joinedO x.1.2 x.2.2).2.1 B m' k' H2.out rfl rfl O6.out X6.out hqn (Nat.le_trans (by omega) K6.out.size) ?_
    intro g cap' w7 p1 p2 p3 p4;have E7 := hd_ (join_end (x := x) (pre := pre) (by omega) hs3 h8 hiC H1.out H2.out H3.out H4.out H5.out H6.out H7.out K6.out HR.out Q6.out p1 p2 p3)
    have X7 := hd_ (show One w7 X 24 (.slice Av n c) from (p2.block X (one_lt (a0_ H1.out K6.out)) (fun e => H7.out e.symm)).trans (a0_ H1.out K6.out))
    clear p1 p2 p3 p4 cX;have cX := one_cell X7.out;have fX := one_free X7.out;refine hK _ _ ?_
    clear hK K;(try simp only [Act.put, si0, si1, si2]);refine wpAny_ready (rs := [6]) (by kernel_rfl) (by simp) ?_
    refine (AllReady.cons (o := ⟨_, _, _, _, _, _⟩) rfl (fun K hK => ?_) AllReady.nil)
    go_simp;refine hK _ _ ?_
    clear hK K;(try simp only [Act.put, si0, si1, si2]);refine wpAny_done (by kernel_rfl) ?_ _
    exact E7.out
   ·skip
    go_simp;refine hK _ _ ?_
    clear hK K;(try simp only [Act.put, si0, si1, si2]);have N6 := hd_ (ad_ w5 (.cells #[.int .i64 (joinedO x.1.2 x.2.2).1.1, .int .i64 (joinedO x.1.2 x.2.2).1.2, .int .i64 (joinedO x.1.2 x.2.2).2.1, .slice B m' k'] 68));have K6 := hd_ (K5.out.trans (N6.out.mono K5.out.size));have Q6 := hd_ (OwnsR.below Q5.out N6.out);have X6 := hd_ (av_ w5 (joinedO x.1.2 x.2.2).1.1 (joinedO x.1.2 x.2.2).1.2 (joinedO x.1.2 x.2.2).2.1 (.slice B m' k'));have O6 := hd_ (OwnsR.below H3.out K6.out);clear cX;have cX := one_cell (a0_ H1.out K6.out);refine wpAny_ready (rs := [0]) (by kernel_rfl) (by simp) ?_
    refine (AllReady.cons (o := ⟨_, _, _, _, _, _⟩) rfl (fun K hK => ?_) AllReady.nil)
    go_simp;refine hK _ _ ?_
    clear hK K;(try simp only [Act.put, si0, si1, si2]);refine wpAny_ready (rs := [5]) (by kernel_rfl) (by simp) ?_
    refine (AllReady.cons (o := ⟨_, _, _, _, _, _⟩) rfl (fun K hK => ?_) AllReady.nil)
    refine step_pushW rfl (.tmp 19) (.tmp 23) rfl _ w.heap.size Av n c w5.heap.size qs (joinedO x.1.2 x.2.2).1.1 (joinedO x.1.2 x.2.2).1.2 (joinedO x.1.2 x.2.2).2.1 B m' k' H2.out rfl rfl O6.out X6.out hqn (Nat.le_trans (by omega) K6.out.size) ?_
    intro g cap' w7 p1 p2 p3 p4;have E7 := hd_ (join_end (x := x) (pre := pre) (by omega) hs3 h8 hiC H1.out H2.out H3.out H4.out H5.out H6.out H7.out K6.out HR.out Q6.out p1 p2 p3)
    have X7 := hd_ (show One w7 X 24 (.slice Av n c) from (p2.block X (one_lt (a0_ H1.out K6.out)) (fun e => H7.out e.symm)).trans (a0_ H1.out K6.out))
    clear p1 p2 p3 p4 cX;have cX := one_cell X7.out;have fX := one_free X7.out;refine hK _ _ ?_
    clear hK K;(try simp only [Act.put, si0, si1, si2]);refine wpAny_ready (rs := [6]) (by kernel_rfl) (by simp) ?_
    refine (AllReady.cons (o := ⟨_, _, _, _, _, _⟩) rfl (fun K hK => ?_) AllReady.nil)
    go_simp;refine hK _ _ ?_
    clear hK K;(try simp only [Act.put, si0, si1, si2]);refine wpAny_done (by kernel_rfl) ?_ _
    exact E7.out
end
end Go.Proofs.YthkkipbmlafdiaaGreat
