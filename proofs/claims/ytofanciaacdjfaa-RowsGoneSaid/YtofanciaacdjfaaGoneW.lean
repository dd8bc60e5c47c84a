/-
  A walk over rows without those that are removed. No statement is proved in this text; it holds for every input that its premises let by.
-/
import Derived.Test.YtofanciaacdjfaaGoneM
import Derived.Test.YtofanciaacdjfaaJoinR
import Derived.Laws.EntriesVeiled
namespace Go.Proofs.Ytofanciaacdjfaa
open Go Go.RowKit Sets RowSets
theorem ids_grownB {w w' : World} {A : Option Addr} {n c b : Nat} {l : List Id2} (h : Ids w (.slice A n c) l) (hb : w.grownBy w' (some b)) (hne : ∀ ad, A = some ad → ad.block ≠ b) : Ids w' (.slice A n c) l := by
  obtain ⟨A', c', hv, h0, hc, hk⟩ := h
  refine ⟨A', c', hv, h0, hc, fun k hlt => ?_⟩
  obtain ⟨ad, rfl, h1, c1, c2⟩ := hk k hlt
  have e : A = some ad := by injection hv
  have hbl := hb.block ad.block h1 (fun h => hne ad e (by first | exact (Option.some.inj h).symm | exact Option.some.inj h))
  refine ⟨ad, rfl, Nat.lt_of_lt_of_le h1 hb.size, ?_, ?_⟩
  · rw [World.cell?_of_block (w := w) (by rw [block_of_add]; exact hbl)]
    exact c1
  · rw [World.cell?_of_block (w := w) (by show w'.heap[(ad.add (k * 2)).block]? = _; rw [block_of_add]; exact hbl)]
    exact c2
theorem FloorsAt.grown {X b : Nat} {s : List Id2} {A : Option Addr} {c : Nat} {W W' : World} (h : FloorsAt X s A c W) (hg : W.grownBy W' (some b)) (hX : X < b) (hA : ∀ ad, A = some ad → ad.block < b) : FloorsAt X s A c W' :=
  ⟨(hg.block X (one_lt h.1) (fun e => by have := Option.some.inj e; omega)).trans h.1, ids_grownB h.2 hg fun ad e => by have := hA ad e; omega⟩
theorem FloorsW.grown {X Y b : Nat} {s : List Id2} {A : Option Addr} {c : Nat} {W W' : World} (h : FloorsW X Y s A c W) (hg : W.grownBy W' (some b)) (hX : X < b) (hY : Y < b) (hA : ∀ ad, A = some ad → ad.block < b) : FloorsW X Y s A c W' :=
  ⟨(hg.block Y (one_lt h.1) (fun e => by have := Option.some.inj e; omega)).trans h.1, h.2.grown hg hX hA⟩
theorem FloorsW.at_ {X Y : Nat} {s : List Id2} {A : Option Addr} {c : Nat} {W : World} (h : FloorsW X Y s A c W) : FloorsAt X s A c W := h.2
theorem FloorsW.fn {X Y : Nat} {s : List Id2} {A : Option Addr} {c : Nat} {W : World} (h : FloorsW X Y s A c W) : One W Y 47 (.func (.func 33) #[] #[.pointer (some ⟨X, 0, none⟩)]) := h.1
theorem GInv.gt {fl : List Id2} {g : Nat} {dF : Array Raw} {lf : List Row} {k : Nat} {dk : Array Raw} {w : World} (h : GInv fl g dF lf k dk w) (j : Nat) (hj : j < dF.size) (ad : Addr) (ha : dF[j]!.2.2.1 = some ad) : g < ad.block := by
  have hjl : j < lf.length := by rw [← h.len]; exact hj
  rcases Nat.lt_or_ge j k with h1 | h1
  · exact (h.done j hjl h1).2.2.2 ad (by rw [h.same j hj]; exact ha)
  · have := (World.ownsRow.lt (h.left j hjl h1).2.2.2 ad.block (by unfold slc; rw [ha]; rfl)).1
    omega
set_option maxHeartbeats 8000000 in
set_option maxRecDepth 100000 in
theorem gone_any (v vf : Value) (l : List Row) (fl : List Id2) (w : World) (h : RowsAt w v l) (hf : Ids w vf fl) (hl : l.length ≤ 1000) (hn : ∀ r ∈ l, r.2.2.length ≤ 40000) (hfl : fl.length ≤ 40000) :
    Calls Try.prog 16 #[v, vf] w fun e w' => ∃ V, e = .returned V ∧ RowsAt w' V (gone fl l) ∧ Below w.heap.size w w' := by
  have HH := Lib.hid h
  have HF := Lib.hid hf
  have HN := Lib.hid hn
  obtain ⟨A0, c0, rfl, _⟩ := id hf
  have BX := Lib.hid (below_one w (.cells #[.slice A0 fl.length c0] 24))
  have O0 := Lib.hid (one_new w 24 (.slice A0 fl.length c0))
  have I0 := Lib.hid (HF.out.below BX.out)
  have f1 := one_cell O0.out
  have f2 := one_free O0.out
  clear h hf hn
  go_enter Try.func16, Try.ntmps16
  go_wp2_with fail
  (with_reducible refine (set_new _ fl _ I0.out hfl).mono ?_)
  rintro e w1 ⟨vs, rfl, hi, hb⟩
  have O := Lib.hid (ownsI_of hi)
  obtain ⟨A, c, rfl, _⟩ := id (rcs_owns encI_len O.out)
  have O1 := Lib.hid (one_below O0.out hb)
  have B1 := Lib.hid (below_after BX.out hb (Nat.le_refl _))
  clear hi hb f1 f2
  have f1 := one_cell O1.out
  have f2 := one_free O1.out
  have gS : w1.grownBy (w1.setCell ⟨w.heap.size, 0, none⟩ (.slice A (setOf fl).length c)) (some w.heap.size) := grown_setCells (World.grownBy.refl _ _) 0 [.slice A (setOf fl).length c]
  have FS := Lib.hid (show FloorsAt w.heap.size (setOf fl) A c (w1.setCell ⟨w.heap.size, 0, none⟩ (.slice A (setOf fl).length c)) from ⟨one_set O1.out _, ownsI_ids (OwnsR.grown O.out gS (ownsR_ne O.out (by simp)))⟩)
  have BS := Lib.hid (show Below w.heap.size w (w1.setCell ⟨w.heap.size, 0, none⟩ (.slice A (setOf fl).length c)) from below_setCells B1.out (Nat.le_refl _) 0 [.slice A (setOf fl).length c])
  have HA := Lib.hid fun ad (e : A = some ad) => (show ad.block < (w1.setCell ⟨w.heap.size, 0, none⟩ (.slice A (setOf fl).length c)).heap.size by
    rw [World.size_setCell]
    exact (World.ownsRow.lt O.out ad.block (by rw [e]; rfl)).2)
  have HX := Lib.hid (show w.heap.size < (w1.setCell ⟨w.heap.size, 0, none⟩ (.slice A (setOf fl).length c)).heap.size by
    rw [World.size_setCell]
    exact one_lt O1.out)
  clear gS
  go_upto_region 2 with fail
  clear f1 f2
  generalize w1.setCell ⟨w.heap.size, 0, none⟩ (.slice A (setOf fl).length c) = ws at *
  have FW := Lib.hid (show FloorsW w.heap.size ws.heap.size (setOf fl) A c (ws.alloc (.cells #[.func (.func 33) #[] #[.pointer (some ⟨w.heap.size, 0, none⟩)]] 47)) from ⟨one_new ws 47 _, FS.out.below (below_one _ _)⟩)
  have BY := Lib.hid (below_after BS.out (below_one ws (.cells #[.func (.func 33) #[] #[.pointer (some ⟨w.heap.size, 0, none⟩)]] 47)) (Nat.le_refl _))
  have HQ := Lib.hid (goneI_asks w.heap.size fl (setOf fl) A c (rises_setOf fl) (mem_setOf fl) (by have := setOf_len fl; omega))
  have HP := Lib.hid (goneW_asks w.heap.size ws.heap.size fl (setOf fl) A c (rises_setOf fl) (mem_setOf fl) (by have := setOf_len fl; omega))
  clear O I0 O0 O1 B1 BX HF FS
  go_wp2_with fail
  (with_reducible refine (copiedAll_any v l _ (HH.out.below BY.out) hl (fun r hr => by have := HN.out r hr; omega)).mono ?_)
  rintro e w3 ⟨g, d, rfl, hg, hr, ho, ha, hb⟩
  have hg2 : ws.heap.size < g := by simp at hg; omega
  have HG := Lib.hid hg2
  have F3 := Lib.hid (FW.out.below hb)
  have B3 := Lib.hid (below_after BY.out hb (Nat.le_refl _))
  have R3 := Lib.hid hr
  have E3 := Lib.hid ho
  have A3 := Lib.hid ha
  have hds : d.size ≤ 1000 := by have := ho.len; simp at this; omega
  have HS3 := Lib.hid fun W W' (h : FloorsW w.heap.size ws.heap.size (setOf fl) A c W) (hgr : W.grownBy W' (some g)) => h.grown hgr (by have := HX.out; have := HG.out; omega) HG.out (fun ad e => by have := HA.out ad e; have := HG.out; omega)
  clear hg hr ho ha hb hg2
  go_wp2_with fail
  (with_reducible refine (deleteW_any HP.out g d.size HS3.out d _ R3.out F3.out (Nat.le_refl _) (by omega)).mono ?_)
  rintro e w4 ⟨d', rfl, hd, hle, hr, hgr⟩
  have R4 := Lib.hid hr
  have E4 := Lib.hid (show EachOwn w4 (g + 1) d'.toList (l.filter fun r => !rem fl r.1) by rw [hd]; exact eachOwn_filter (p := rem fl) (E3.out.grown hgr (Nat.lt_succ_self g)))
  have A4 := Lib.hid (show d'.toList.Pairwise Apart by rw [hd]; exact List.Pairwise.filter _ A3.out)
  have F4 := Lib.hid (HS3.out _ _ F3.out hgr)
  have B4 := Lib.hid (show Below w.heap.size w w4 from B3.out.trans (below_grown hgr (by have := HX.out; have := HG.out; omega) B3.out.size))
  have HLE := Lib.hid hle
  have HLN : Hid (∀ r ∈ l.filter (fun r => !rem fl r.1), r.2.2.length ≤ 40000) := Lib.hid fun r hr => HN.out r (List.mem_filter.1 hr).1
  have HGI := Lib.hid (gone_is fl l)
  generalize hlf : (l.filter fun r => !rem fl r.1) = lf at *
  have GI := Lib.hid (gInv_start (fl := fl) R4.out E4.out)
  have hds2 : d'.size ≤ 1000 := by have := HLE.out; omega
  have HD := Lib.hid GI.out.len
  clear hd hle hr hgr hlf E3 A3 R3 F3 E4
  go_wp2_with fail
  go_loopw [18] (fun s18 wr => ∃ k : Nat, ∃ dk : Array Raw, k ≤ d'.size ∧ s18 = .int .i64 k ∧ Hid (GInv fl g d' lf k dk wr) ∧ Hid (FloorsW w.heap.size ws.heap.size (setOf fl) A c wr) ∧ Hid (Below w.heap.size w wr)) (fun s18 _ => d'.size - (intOf s18).toNat)
  case atStart => exact ⟨0, d', by omega, rfl, GI, F4, B4⟩
  case round =>
    obtain ⟨k, dk, hkl, rfl, HI, HFW, HW⟩ := hrel
    have i3 : (0 : Int) ≤ (k : Int) := by omega
    by_cases hlt : k < d'.size
    · have hdk : decide ((k : Int) < (d'.size : Int)) = true := decide_eq_true (by omega)
      have i4 : (k : Int) < (d'.size : Int) := by omega
      have hkl2 : k < lf.length := by have := HD.out; omega
      have hkd : k < dk.size := by rw [HI.out.size]; exact hlt
      obtain ⟨hq, hown⟩ := HI.out.left k hkl2 (Nat.le_refl _)
      obtain ⟨⟨r1, r2, r3, r4⟩, _⟩ := HI.out.row.row hkd
      have OW := Lib.hid (show OwnsI wr (g + 1) (.slice dk[k]!.2.2.1 dk[k]!.2.2.2.1 dk[k]!.2.2.2.2) lf[k].2.2 from by rw [hq]; exact hown.2.2)
      have HB0 := Lib.hid (show dk[k]!.2.2.1 = d'[k]!.2.2.1 by rw [hq])
      have HCL := Lib.hid fun W (h : RowAtR encW 4 W g dk) => (show (∃ z, W.cell? ⟨g, k * 4 + 3, none⟩ = some z) ∧ W.frozen? ⟨g, k * 4 + 3, none⟩ = false from ⟨⟨_, (h.row hkd).1.2.2.2⟩, (h.row hkd).2.2.2.2⟩)
      clear hq hown hkd
      generalize dk[k]!.1.1 = a at *
      generalize dk[k]!.1.2 = i at *
      generalize dk[k]!.2.1 = n at *
      generalize dk[k]!.2.2.1 = Bq at *
      generalize dk[k]!.2.2.2.1 = mq at *
      generalize dk[k]!.2.2.2.2 = cq at *
      rcases ownsR_split OW.out with ⟨e, hn0⟩ | ⟨b, cap, e, hb1, hb2⟩
      · injection e with e1 e2 e3
        subst e1 e2 e3
        have HN0 := Lib.hid (show keepN fl lf[k].2.2 = [] by rw [List.eq_nil_of_length_eq_zero hn0]; rfl)
        have BXk := Lib.hid (below_one wr (.cells #[.int .i64 a, .int .i64 i, .int .i64 n, .slice none 0 0] 26))
        have FX := Lib.hid (HFW.out.below BXk.out)
        have XX := Lib.hid (wbox_new wr a i n (.slice none 0 0))
        obtain ⟨_, _, _, x4⟩ := wbox_cells XX.out
        have fY := one_cell FX.out.fn
        clear hn0
        go_wp2_with fail
        (with_reducible refine (deleteI_nil HQ.out _ FX.out.at_).mono ?_)
        rintro e w5 ⟨rfl, hb⟩
        have B5 := Lib.hid (below_after BXk.out hb (Nat.le_refl _))
        have I5 := Lib.hid (HI.out.below B5.out)
        have F5 := Lib.hid (HFW.out.below B5.out)
        obtain ⟨⟨z, s4⟩, t4⟩ := HCL.out _ I5.out.row
        have ST := Lib.hid (I5.out.step hkl2 (b := g) (World.grownBy.refl w5 (some g)) (fun j hj _ ad ha => by have := I5.out.gt j hj ad ha; omega) I5.out.row (B := none) (m := 0) (c := 0) HB0.out (fun ad h => by cases h) (by rw [HN0.out]; exact Ids.nil _))
        have F6 := Lib.hid (F5.out.grown (grown_setCells (World.grownBy.refl w5 (some g)) (k * 4 + 3) [.slice none 0 0]) (by have := HX.out; have := HG.out; omega) HG.out (fun ad e => by have := HA.out ad e; have := HG.out; omega))
        have B6 := Lib.hid (below_setCells (below_after HW.out B5.out (Nat.le_refl _)) (show w.heap.size ≤ g by have := HX.out; have := HG.out; omega) (k * 4 + 3) [.slice none 0 0])
        clear hb r1 r2 r3 r4 x4 fY
        go_wp2_with fail
        go_roundw
        case rel => exact ⟨k + 1, _, by omega, by go_num, ST, F6, B6⟩
        case measure => simp [intOf]; omega
      · injection e with e1 e2 e3
        subst e1 e2 e3
        obtain ⟨dI, hdI⟩ : ∃ dI : Array Id2, dI = lf[k].2.2.toArray := ⟨_, rfl⟩
        have hsz : dI.size = lf[k].2.2.length := by rw [hdI]; simp
        have HTL := Lib.hid (show dI.toList = lf[k].2.2 by rw [hdI])
        have RI := Lib.hid (rowAtR_owns encI_len (w := wr) (base := g + 1) (g := b) (c := cq) (d := dI) (by rw [hsz, HTL.out]; exact OW.out))
        have hgb := (World.ownsRow.lt OW.out b rfl).1
        have hIL : dI.size ≤ 40000 := by rw [hsz]; exact HLN.out _ (List.getElem_mem hkl2)
        rw [← hsz] at r4 hb2
        clear OW hsz hdI
        have BXk := Lib.hid (below_one wr (.cells #[.int .i64 a, .int .i64 i, .int .i64 n, .slice (some ⟨b, 0, none⟩) dI.size cq] 26))
        have FX := Lib.hid (HFW.out.below BXk.out)
        have XX := Lib.hid (wbox_new wr a i n (.slice (some ⟨b, 0, none⟩) dI.size cq))
        have IX := Lib.hid (HI.out.below BXk.out)
        obtain ⟨_, _, _, x4⟩ := wbox_cells XX.out
        have fY := one_cell FX.out.fn
        go_wp2_with fail
        (with_reducible refine (deleteI_any HQ.out b cq (fun W W' h hgr => h.grown hgr (by have := HX.out; have := HG.out; omega) (fun ad e => by have := HA.out ad e; have := HG.out; omega)) dI _ (rowAtR_kept RI.out BXk.out) FX.out.at_ hb2 (by omega)).mono ?_)
        rintro e w5 ⟨d2, rfl, hd2, hle2, hr2, hg2⟩
        have hrow := rowAtR_block IX.out.row hg2.size (hg2.block g IX.out.row.1 (fun e => by have := Option.some.inj e; omega))
        obtain ⟨⟨z, s4⟩, t4⟩ := HCL.out _ hrow
        have HID := Lib.hid (show Ids w5 (.slice (some ⟨b, 0, none⟩) d2.size cq) (keepN fl lf[k].2.2) from by
          have h1 := ids_rcs (rowAtR_rcs (c := cq) hr2 (by omega))
          rw [hd2, HTL.out] at h1
          exact h1)
        have ST := Lib.hid (IX.out.step hkl2 (b := b) hg2 (fun j hj hne ad ha => apart_ne A4.out hj hlt hne ha HB0.out.symm) hrow (B := some ⟨b, 0, none⟩) (m := d2.size) (c := cq) HB0.out (fun ad h => by cases h; exact hgb) HID.out)
        have F5 := Lib.hid (FX.out.grown hg2 (by have := HX.out; have := HG.out; omega) (by have := HG.out; omega) (fun ad e => by have := HA.out ad e; have := HG.out; omega))
        have F6 := Lib.hid (F5.out.grown (grown_setCells (World.grownBy.refl w5 (some g)) (k * 4 + 3) [.slice (some ⟨b, 0, none⟩) d2.size cq]) (by have := HX.out; have := HG.out; omega) HG.out (fun ad e => by have := HA.out ad e; have := HG.out; omega))
        have B5 := Lib.hid (show Below w.heap.size w w5 from (below_after HW.out BXk.out (Nat.le_refl _)).trans (below_grown hg2 (by have := HX.out; have := HG.out; omega) (below_after HW.out BXk.out (Nat.le_refl _)).size))
        have B6 := Lib.hid (below_setCells B5.out (show w.heap.size ≤ g by have := HX.out; have := HG.out; omega) (k * 4 + 3) [.slice (some ⟨b, 0, none⟩) d2.size cq])
        clear hd2 hle2 hr2 hg2 hrow r1 r2 r3 r4 x4 fY
        go_wp2_with fail
        go_roundw
        case rel => exact ⟨k + 1, _, by omega, by go_num, ST, F6, B6⟩
        case measure => simp [intOf]; omega
    · have hdk : decide ((k : Int) < (d'.size : Int)) = false := decide_eq_false (by omega)
      have HR := Lib.hid (show RowsAt wr (.slice (some ⟨g, 0, none⟩) d'.size d.size) (gone fl l) by rw [← HGI.out]; exact HI.out.rows (by have := HD.out; omega) HLE.out)
      go_wp2_with fail
      go_ret
      exact ⟨_, rfl, HR.out, HW.out⟩
end Go.Proofs.Ytofanciaacdjfaa
