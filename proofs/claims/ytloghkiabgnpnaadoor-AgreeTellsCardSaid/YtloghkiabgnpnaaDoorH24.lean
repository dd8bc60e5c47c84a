/-
  Carried over and put together: contracts of this program's functions, and plain facts. No statement is proved in this text.
-/
import Derived.Test.YtloghkiabgnpnaaDoorH23
namespace Go.Proofs.YtloghkiabgnpnaaDoor
open Go Go.RowKit
set_option maxHeartbeats 4000000 in
theorem refPutL_any (v : Value) (l : List Sets.Id2) (y1 y2 : Int) (w : World) (h : Ids w v l) (hl : l.length ≤ 100000) : Calls Tryd.prog 47 #[v, .agg #[.int .i64 y1, .int .i64 y2]] w (Lists (Sets.ins (y1, y2) (Sets.setOf l)) w) := by
  have q := below_one w (.cells #[.int .i64 y1, .int .i64 y2] 32)
  have BB := Lib.hid q
  have X1 := Lib.hid (box_new w y1 y2)
  have HI := Lib.hid (h.below q)
  have HLs := Lib.hid (Nat.le_trans (Sets.setOf_len l) hl)
  clear q h
  go_enter Tryd.func47, Tryd.ntmps47
  go_upto_region 1 with fail
  generalize w.alloc (.cells #[.int .i64 y1, .int .i64 y2] 32) = w1 at *
  obtain ⟨gi, hgi⟩ : ∃ g, g = w.heap.size := ⟨_, rfl⟩
  rw [← hgi] at X1
  rw [← hgi]
  clear hgi
  have HQ := Lib.hid fun w' (hb : Below w1.heap.size w1 w') => (show (w'.cell? ⟨gi, 0, none⟩ = some (.int .i64 y1) ∧ w'.cell? ⟨gi, 1, none⟩ = some (.int .i64 y2)) ∧ Hid (Below w1.heap.size w1 w') from ⟨box_cells (box_below X1.out hb), Lib.hid hb⟩)
  go_region_held3 (fun w' => (w'.cell? ⟨gi, 0, none⟩ = some (.int .i64 y1) ∧ w'.cell? ⟨gi, 1, none⟩ = some (.int .i64 y2)) ∧ Hid (Below w1.heap.size w1 w'))
    (first | exact HQ.out _ (Below.refl _ _).drew | exact HQ.out _ HK2.out | exact HQ.out _ HK1.out)
    (first | (go_at_call 62; (with_reducible refine (refSet_any _ l _ (HI.out.below (Below.refl _ _).drew) (Nat.le_trans hl (by omega))).mono ?_); rintro e wk ⟨vs, rfl, hs, hb⟩; have HK1 := Lib.hid (below_after (Below.refl _ _).drew hb (Nat.le_refl _)); have HS := Lib.hid hs; clear hs hb) | (go_at_call 61; (with_reducible refine (refPut_any _ (Sets.setOf l) y1 y2 _ HS.out (Nat.le_trans HLs.out (by omega))).mono ?_); rintro e wk ⟨vp, rfl, hp, hb⟩; have HK2 := Lib.hid (below_after HK1.out hb (Nat.le_refl _)); have HP := Lib.hid hp; clear hp hb))
  go_wp2_with fail
  go_ret
  exact ⟨_, rfl, HP.out, below_after BB.out HK2.out (Nat.le_refl _)⟩
/-- All that are not reached, of the first k members. -/
def nrK (m : List Agr.Mm) (rs : List Agr.Row) (k : Nat) : List Sets.Id2 := Sets.setOf ((idsM (m.take k)).filter fun y => Agr.notB m rs y)
theorem nrK_yes {m : List Agr.Mm} {rs : List Agr.Row} {k : Nat} (hk : k < m.length) (h : Agr.notB m rs m[k].1 = true) : nrK m rs (k + 1) = Sets.ins m[k].1 (Sets.setOf (nrK m rs k)) := by
  refine Sets.rises_ext (Sets.rises_setOf _) (Sets.rises_ins _ _ (Sets.rises_setOf _)) fun y => ?_
  unfold nrK idsM
  rw [List.take_succ_eq_append_getElem hk, List.map_append, List.filter_append, Sets.mem_ins, Sets.mem_setOf, Sets.mem_setOf, Sets.mem_setOf, List.mem_append]
  simp [h]
  exact Or.comm
theorem nrK_no {m : List Agr.Mm} {rs : List Agr.Row} {k : Nat} (hk : k < m.length) (h : Agr.notB m rs m[k].1 = false) : nrK m rs (k + 1) = nrK m rs k := by
  unfold nrK idsM
  rw [List.take_succ_eq_append_getElem hk, List.map_append, List.filter_append]
  simp [h]
theorem nrK_all {m : List Agr.Mm} {rs : List Agr.Row} {k : Nat} (hk : m.length ≤ k) : nrK m rs k = Agr.nr m rs := by
  unfold nrK
  rw [List.take_of_length_le hk]
  exact Agr.refNr_is m rs
theorem nrK_len (m : List Agr.Mm) (rs : List Agr.Row) (k : Nat) : (nrK m rs k).length ≤ m.length := by
  unfold nrK idsM
  refine Nat.le_trans (Sets.setOf_len _) (Nat.le_trans (List.length_filter_le _ _) ?_)
  rw [List.length_map]
  exact List.length_take_le' _ _
theorem mcell_at {w w' : World} {A : Option Addr} {n c : Nat} {l : List Agr.Mm} (h : Ms w (.slice A n c) l) (hw : Below w.heap.size w w') {k : Nat} (hk : k < l.length) {ad : Addr} (hA : A = some ad) :
    w'.cell? (ad.add (k * 4)) = some (.int .i64 l[k].1.1) ∧ w'.cell? ⟨(ad.add (k * 4)).block, (ad.add (k * 4)).off + 1, none⟩ = some (.int .i64 l[k].1.2) := by
  obtain ⟨ad', e, c1, c2, -⟩ := h.at_ hw hk
  rw [hA] at e
  obtain rfl := Option.some.inj e
  exact ⟨c1, c2⟩
set_option maxHeartbeats 8000000 in
theorem refNR_any (v : Value) (V : Vw) (w : World) (h : VAt w v V) (hV : FitA V) : Calls Tryd.prog 22 #[v] w (Lists (Agr.nr V.m V.r) w) := by
  obtain ⟨a, b, c, d, e, rfl, hr⟩ := h
  have G1 := Lib.hid (agV_new hr)
  have BB := Lib.hid (below_one w (.cells #[.slice a.1 a.2.1 a.2.2, .slice b.1 b.2.1 b.2.2, .slice c.1 c.2.1 c.2.2, .slice d.1 d.2.1 d.2.2, .slice e.1 e.2.1 e.2.2] 29))
  have HV := Lib.hid hV
  have HN := Lib.hid (rcs_len hr.m)
  have hnl : a.2.1 ≤ 1000 := by rw [HN.out]; exact hV.m
  clear hr hV
  obtain ⟨p0, p1, p2, p3, p4⟩ := vbox_cells G1.out.x
  go_enter Tryd.func22, Tryd.ntmps22
  go_wp2_with fail
  clear p0 p1 p2 p3 p4
  generalize w.alloc (.cells #[.slice a.1 a.2.1 a.2.2, .slice b.1 b.2.1 b.2.2, .slice c.1 c.2.1 c.2.2, .slice d.1 d.2.1 d.2.2, .slice e.1 e.2.1 e.2.2] 29) = w1 at *
  obtain ⟨g, hg⟩ : ∃ g, g = w.heap.size := ⟨_, rfl⟩
  rw [← hg] at G1
  rw [← hg]
  clear hg
  go_loopw [3, 4] (fun s3 s4 wr => ∃ k : Nat, s4 = .int .i64 k ∧ k ≤ a.2.1 ∧ Hid (Ids wr s3 (nrK V.m V.r k)) ∧ Hid (Below w1.heap.size w1 wr)) (fun _ s4 _ => a.2.1 - (intOf s4).toNat)
  case atStart => exact ⟨0, rfl, by omega, Lib.hid (Ids.nil _), Lib.hid (Below.refl _ _)⟩
  case round =>
    obtain ⟨k, rfl, hk, HI, HB⟩ := hrel
    rename World => wr
    obtain ⟨p0, p1, p2, p3, p4⟩ := vbox_cells (G1.out.below HB.out).x
    by_cases hlt : k < a.2.1
    · have hd : decide (k < a.2.1) = true := decide_eq_true hlt
      have i3 : (0 : Int) ≤ (k : Int) := by omega
      have i4 : (k : Int) < (a.2.1 : Int) := by omega
      have hkm : k < V.m.length := by have := HN.out; omega
      obtain ⟨ad, hA, -⟩ := G1.out.r.m.at_ (Below.refl _ _) hkm
      have HQ0 := Lib.hid fun w' (hb : Below w1.heap.size w1 w') => mcell_at G1.out.r.m hb hkm hA
      have HYes := Lib.hid fun h => nrK_yes (rs := V.r) hkm h
      have HNo := Lib.hid fun h => nrK_no (rs := V.r) hkm h
      have HE : Hid (V.m[k].1 = (V.m[k].1.1, V.m[k].1.2)) := Lib.hid rfl
      rw [HE.out] at HYes HNo
      clear HE
      generalize V.m[k].1.1 = x1 at *
      generalize V.m[k].1.2 = x2 at *
      clear hkm
      have HNot := Lib.hid fun W (hb : Below w1.heap.size w1 W) => refNot_any _ V x1 x2 W (G1.out.below hb).at_ HV.out
      generalize Agr.notB V.m V.r (x1, x2) = nb at *
      have HQ := Lib.hid fun w' (hb : Below w1.heap.size w1 w') => (show (w'.cell? ⟨g, 0, none⟩ = some (.slice a.1 a.2.1 a.2.2) ∧ w'.cell? ⟨g, 1, none⟩ = some (.slice b.1 b.2.1 b.2.2) ∧ w'.cell? ⟨g, 2, none⟩ = some (.slice c.1 c.2.1 c.2.2) ∧ w'.cell? ⟨g, 3, none⟩ = some (.slice d.1 d.2.1 d.2.2) ∧ w'.cell? ⟨g, 4, none⟩ = some (.slice e.1 e.2.1 e.2.2)) ∧ (w'.cell? (ad.add (k * 4)) = some (.int .i64 x1) ∧ w'.cell? ⟨(ad.add (k * 4)).block, (ad.add (k * 4)).off + 1, none⟩ = some (.int .i64 x2)) ∧ Hid (Below w1.heap.size w1 w') from ⟨vbox_cells (G1.out.below hb).x, HQ0.out w' hb, Lib.hid hb⟩)
      have HC : Hid (Value.slice a.1 a.2.1 a.2.2 = Value.slice (some ad) a.2.1 a.2.2) := Lib.hid (by rw [hA])
      rw [HC.out] at HQ p0 HNot
      clear hA HQ0
      go_upto_region 5 with fail
      clear p0 p1 p2 p3 p4
      have HK0 := Lib.hid HB.out.drew
      go_region_held3 (fun w' => (w'.cell? ⟨g, 0, none⟩ = some (.slice (some ad) a.2.1 a.2.2) ∧ w'.cell? ⟨g, 1, none⟩ = some (.slice b.1 b.2.1 b.2.2) ∧ w'.cell? ⟨g, 2, none⟩ = some (.slice c.1 c.2.1 c.2.2) ∧ w'.cell? ⟨g, 3, none⟩ = some (.slice d.1 d.2.1 d.2.2) ∧ w'.cell? ⟨g, 4, none⟩ = some (.slice e.1 e.2.1 e.2.2)) ∧ (w'.cell? (ad.add (k * 4)) = some (.int .i64 x1) ∧ w'.cell? ⟨(ad.add (k * 4)).block, (ad.add (k * 4)).off + 1, none⟩ = some (.int .i64 x2)) ∧ Hid (Below w1.heap.size w1 w'))
        (first | exact HQ.out _ HK1.out | exact HQ.out _ HK0.out)
        (first | (go_at_call 39; (with_reducible refine (HNot.out _ HK0.out).mono ?_); rintro e wk ⟨rfl, hb⟩; have HK1 := Lib.hid (below_after HK0.out hb (Nat.le_refl _)); have I1 := Lib.hid ((HI.out.below (Below.refl _ _).drew).below hb); clear hb))
      rename World => wk
      obtain ⟨⟨p0, p1, p2, p3, p4⟩, ⟨c1, c2⟩, -⟩ := HQ.out _ HK1.out
      rcases nb with _ | _
      · have HN2 := Lib.hid (HNo.out rfl)
        go_wp2_with fail
        go_roundw
        case rel => exact ⟨k + 1, by go_num, by omega, Lib.hid (by rw [HN2.out]; exact I1.out), HK1⟩
        case measure => simp [intOf]; omega
      · have HN2 := Lib.hid (HYes.out rfl)
        have HLk := Lib.hid (Nat.le_trans (nrK_len V.m V.r k) HV.out.m)
        go_wp2_with fail
        (with_reducible refine (refPutL_any _ (nrK V.m V.r k) x1 x2 wk I1.out (Nat.le_trans HLk.out (by omega))).mono ?_)
        rintro e5 w5 ⟨v5, rfl, hi, hb⟩
        have HK2 := Lib.hid (below_after HK1.out hb (Nat.le_refl _))
        have I2 := Lib.hid hi
        clear hi hb
        go_wp2_with fail
        go_roundw
        case rel => exact ⟨k + 1, by go_num, by omega, Lib.hid (by rw [HN2.out]; exact I2.out), HK2⟩
        case measure => simp [intOf]; omega
    · have hd : decide (k < a.2.1) = false := decide_eq_false hlt
      have HR := Lib.hid (nrK_all (m := V.m) (rs := V.r) (k := k) (by have := HN.out; omega))
      go_wp2_with fail
      go_ret
      exact ⟨_, rfl, by rw [← HR.out]; exact HI.out, below_after BB.out HB.out (Nat.le_refl _)⟩
set_option maxHeartbeats 4000000 in
theorem refReached_any (v : Value) (V : Vw) (y1 y2 : Int) (w : World) (h : VAt w v V) (hV : FitA V) : Calls Tryd.prog 23 #[v, .agg #[.int .i64 y1, .int .i64 y2]] w fun e w' => e = .returned (.bool (Agr.reachedB V.m V.r (y1, y2))) ∧ Below w.heap.size w w' := by
  obtain ⟨a, b, c, d, e, rfl, hr⟩ := h
  have q1 := below_one w (.cells #[.slice a.1 a.2.1 a.2.2, .slice b.1 b.2.1 b.2.2, .slice c.1 c.2.1 c.2.2, .slice d.1 d.2.1 d.2.2, .slice e.1 e.2.1 e.2.2] 29)
  have q2 := below_one (w.alloc (.cells #[.slice a.1 a.2.1 a.2.2, .slice b.1 b.2.1 b.2.2, .slice c.1 c.2.1 c.2.2, .slice d.1 d.2.1 d.2.2, .slice e.1 e.2.1 e.2.2] 29)) (.cells #[.int .i64 y1, .int .i64 y2] 32)
  have G1 := Lib.hid ((agV_new hr).below q2)
  have X1 := Lib.hid (box_new (w.alloc (.cells #[.slice a.1 a.2.1 a.2.2, .slice b.1 b.2.1 b.2.2, .slice c.1 c.2.1 c.2.2, .slice d.1 d.2.1 d.2.2, .slice e.1 e.2.1 e.2.2] 29)) y1 y2)
  have BB := Lib.hid (below_after q1 q2 (Nat.le_refl _))
  have HZ := Lib.hid (show (w.alloc (.cells #[.slice a.1 a.2.1 a.2.2, .slice b.1 b.2.1 b.2.2, .slice c.1 c.2.1 c.2.2, .slice d.1 d.2.1 d.2.2, .slice e.1 e.2.1 e.2.2] 29)).heap.size = w.heap.size + 1 by simp)
  have HV := Lib.hid hV
  clear hr q1 q2 hV
  rw [HZ.out] at X1
  obtain ⟨p0, p1, p2, p3, p4⟩ := vbox_cells G1.out.x
  obtain ⟨i0, i1⟩ := box_cells X1.out
  go_enter Tryd.func23, Tryd.ntmps23
  go_wp2_with fail
  clear p0 p1 p2 p3 p4 i0 i1
  generalize (w.alloc (.cells #[.slice a.1 a.2.1 a.2.2, .slice b.1 b.2.1 b.2.2, .slice c.1 c.2.1 c.2.2, .slice d.1 d.2.1 d.2.2, .slice e.1 e.2.1 e.2.2] 29)).alloc (.cells #[.int .i64 y1, .int .i64 y2] 32) = w1 at *
  obtain ⟨g, hg⟩ : ∃ g, g = w.heap.size := ⟨_, rfl⟩
  obtain ⟨gi, hgi⟩ : ∃ g, g = w.heap.size + 1 := ⟨_, rfl⟩
  rw [← hg] at G1
  rw [← hgi] at X1
  rw [← hgi, ← hg]
  clear HZ hg hgi
  (with_reducible refine (refStatus_any _ V y1 y2 w1 G1.out.at_ (Nat.le_trans HV.out.m (by omega))).mono ?_)
  rintro e2 w2 ⟨rfl, hb⟩
  have G2 := Lib.hid (G1.out.below hb)
  have X2 := Lib.hid (box_below X1.out hb)
  have B2 := Lib.hid (below_after BB.out hb (Nat.le_refl _))
  clear hb G1 X1 BB
  have HKs : Hid (statV V.m (y1, y2) = .tuple #[.int .u8 (Agr.st V.m (y1, y2)), .bool (Agr.isMem V.m (y1, y2))]) := Lib.hid rfl
  have HRs : Hid (Agr.reachedB V.m V.r (y1, y2) = (Agr.isMem V.m (y1, y2) && !Agr.notB V.m V.r (y1, y2))) := Lib.hid rfl
  rw [HKs.out]
  clear HKs
  generalize Agr.st V.m (y1, y2) = sT at *
  generalize Agr.isMem V.m (y1, y2) = sI at *
  obtain ⟨p0, p1, p2, p3, p4⟩ := vbox_cells G2.out.x
  obtain ⟨i0, i1⟩ := box_cells X2.out
  rcases sI with _ | _
  · go_wp2_with fail
    go_ret
    exact ⟨by rw [HRs.out]; rfl, B2.out⟩
  · go_wp2_with fail
    clear p0 p1 p2 p3 p4 i0 i1
    (with_reducible refine (refNot_any _ V y1 y2 w2 G2.out.at_ HV.out).mono ?_)
    rintro e3 w3 ⟨rfl, hb⟩
    have B3 := Lib.hid (below_after B2.out hb (Nat.le_refl _))
    clear hb
    generalize Agr.notB V.m V.r (y1, y2) = nb at *
    rcases nb with _ | _
    · go_wp2_with fail
      go_ret
      exact ⟨by rw [HRs.out]; rfl, B3.out⟩
    · go_wp2_with fail
      go_ret
      exact ⟨by rw [HRs.out]; rfl, B3.out⟩
end Go.Proofs.YtloghkiabgnpnaaDoor
namespace Go.Proofs.YtloghkiabgnpnaaDoor
open Go Go.RowKit
theorem all_next {α : Type} {p : α → Bool} {l : List α} {k : Nat} (hk : k < l.length) (h : (l.take k).all p = true) (hp : p l[k] = true) : (l.take (k + 1)).all p = true := by
  rw [List.take_succ_eq_append_getElem hk, List.all_append, h]
  simp [hp]
theorem any_next {α : Type} (p : α → Bool) {l : List α} {k : Nat} (hk : k < l.length) : (l.take (k + 1)).any p = ((l.take k).any p || p l[k]) := by
  rw [List.take_succ_eq_append_getElem hk, List.any_append]
  simp
theorem all_not {α : Type} {p : α → Bool} {l : List α} {k : Nat} (hk : k < l.length) (hp : p l[k] = false) : l.all p = false := by
  rw [List.all_eq_false]
  exact ⟨l[k], List.getElem_mem hk, by rw [hp]; simp⟩
theorem okA_is {m : List Agr.Mm} {rs : List Agr.Row} {s : List Sets.Id2} {x : Agr.Mm} : Agr.okA m rs s x = ((!Agr.voterB (Agr.st m x.1) || hasB x.1 s) && (!Agr.notB m rs x.1 || !Agr.awaitB (Agr.st m x.1))) := rfl
theorem okR_is {m : List Agr.Mm} {rs : List Agr.Row} {s : List Sets.Id2} {x : Agr.Mm} : Agr.okR m rs s x = (!(Agr.voterB (Agr.st m x.1) && !Agr.notB m rs x.1) || hasB x.1 s) := rfl
set_option maxHeartbeats 8000000 in
theorem refAll_any (v : Value) (V : Vw) (w : World) (h : VAt w v V) (hV : FitA V) : Calls Tryd.prog 25 #[v] w fun e w' => e = .returned (.bool (Agr.allB V.m V.r V.s)) ∧ Below w.heap.size w w' := by
  obtain ⟨a, b, c, d, e, rfl, hr⟩ := h
  have G1 := Lib.hid (agV_new hr)
  have BB := Lib.hid (below_one w (.cells #[.slice a.1 a.2.1 a.2.2, .slice b.1 b.2.1 b.2.2, .slice c.1 c.2.1 c.2.2, .slice d.1 d.2.1 d.2.2, .slice e.1 e.2.1 e.2.2] 29))
  have HV := Lib.hid hV
  have HN := Lib.hid (rcs_len hr.m)
  have hnl : a.2.1 ≤ 1000 := by rw [HN.out]; exact hV.m
  clear hr hV
  obtain ⟨p0, p1, p2, p3, p4⟩ := vbox_cells G1.out.x
  go_enter Tryd.func25, Tryd.ntmps25
  go_wp2_with fail
  clear p0 p1 p2 p3 p4
  generalize w.alloc (.cells #[.slice a.1 a.2.1 a.2.2, .slice b.1 b.2.1 b.2.2, .slice c.1 c.2.1 c.2.2, .slice d.1 d.2.1 d.2.2, .slice e.1 e.2.1 e.2.2] 29) = w1 at *
  obtain ⟨g, hg⟩ : ∃ g, g = w.heap.size := ⟨_, rfl⟩
  rw [← hg] at G1
  rw [← hg]
  clear hg
  have HML : Hid (V.m.length ≤ 100000) := Lib.hid (Nat.le_trans HV.out.m (by omega))
  have HSL : Hid (V.s.length ≤ 1000000) := Lib.hid (Nat.le_trans HV.out.s (by omega))
  go_loopw [3, 4] (fun s3 s4 wr => ∃ (k : Nat) (so : Bool), s4 = .int .i64 k ∧ s3 = .bool so ∧ k ≤ a.2.1 ∧ Hid ((V.m.take k).all (Agr.okA V.m V.r V.s) = true) ∧ Hid (so = (V.m.take k).any fun x => Agr.voterB (Agr.st V.m x.1)) ∧ Hid (Below w1.heap.size w1 wr)) (fun _ s4 _ => a.2.1 - (intOf s4).toNat)
  case atStart => exact ⟨0, false, rfl, rfl, by omega, Lib.hid rfl, Lib.hid rfl, Lib.hid (Below.refl _ _)⟩
  case round =>
    obtain ⟨k, so, rfl, rfl, hk, HF, HSo, HB⟩ := hrel
    rename World => wr
    obtain ⟨p0, p1, p2, p3, p4⟩ := vbox_cells (G1.out.below HB.out).x
    by_cases hlt : k < a.2.1
    · skip
      have hd : decide (k < a.2.1) = true := decide_eq_true hlt
      have i3 : (0 : Int) ≤ (k : Int) := by omega
      have i4 : (k : Int) < (a.2.1 : Int) := by omega
      have hkm : k < V.m.length := by have := HN.out; omega
      obtain ⟨ad, hA, c1, c2, -⟩ := G1.out.r.m.at_ HB.out hkm
      have p0' := p0.trans (show some (Value.slice a.1 a.2.1 a.2.2) = some (Value.slice (some ad) a.2.1 a.2.2) by rw [hA])
      clear p0 hA
      have HGo := Lib.hid fun (h : Agr.okA V.m V.r V.s V.m[k] = true) => all_next hkm HF.out h
      have HStop := Lib.hid fun (h : Agr.okA V.m V.r V.s V.m[k] = false) => (show Agr.allB V.m V.r V.s = false by rw [← Agr.refAll_is]; unfold Agr.refAll; rw [all_not hkm h]; rfl)
      have HSm := Lib.hid (any_next (fun x => Agr.voterB (Agr.st V.m x.1)) hkm)
      rw [okA_is] at HGo HStop
      have HE : Hid (V.m[k].1 = (V.m[k].1.1, V.m[k].1.2)) := Lib.hid rfl
      rw [HE.out] at HGo HStop HSm
      clear HE
      generalize V.m[k].1.1 = x1 at *
      generalize V.m[k].1.2 = x2 at *
      clear hkm
      have q := below_one wr (.cells #[.int .i64 x1, .int .i64 x2] 32)
      have HK0 := Lib.hid (below_after HB.out q (Nat.le_refl _))
      have XB := Lib.hid (box_new wr x1 x2)

      obtain ⟨p0'', p1', p2', p3', p4'⟩ := vbox_cells (G1.out.below HK0.out).x
      obtain ⟨i0, i1⟩ := box_cells XB.out
      clear q
      go_wp2_with fail
      clear p0' p0'' p1 p2 p3 p4 p1' p2' p3' p4' i0 i1 c1 c2
      generalize wr.alloc (.cells #[.int .i64 x1, .int .i64 x2] 32) = wx at *
      obtain ⟨gx, hgx⟩ : ∃ g, g = wr.heap.size := ⟨_, rfl⟩
      rw [← hgx] at XB
      rw [← hgx]
      clear hgx
      (with_reducible refine (refStatus_any _ V x1 x2 wx (G1.out.below HK0.out).at_ HML.out).mono ?_)
      rintro e2 w2 ⟨rfl, hb⟩
      have HK1 := Lib.hid (below_after HK0.out hb (Nat.le_refl _))
      have X1 := Lib.hid (box_below XB.out hb)

      clear hb XB HK0
      have HKs : Hid (statV V.m (x1, x2) = .tuple #[.int .u8 (Agr.st V.m (x1, x2)), .bool (Agr.isMem V.m (x1, x2))]) := Lib.hid rfl
      rw [HKs.out]
      clear HKs
      generalize Agr.isMem V.m (x1, x2) = sI at *
      generalize Agr.st V.m (x1, x2) = sT at *
      have HNot := Lib.hid fun W (hb : Below w1.heap.size w1 W) => refNot_any _ V x1 x2 W (G1.out.below hb).at_ HV.out
      generalize Agr.notB V.m V.r (x1, x2) = nb at *
      have HHas := Lib.hid fun W (hb : Below w1.heap.size w1 W) => refHas_any _ V.s x1 x2 W (G1.out.below hb).r.s HSL.out
      generalize hasB (x1, x2) V.s = hs at *
      by_cases hvt : sT = 3 ∨ sT = 4
      · have hvb : Agr.voterB sT = true := by unfold Agr.voterB; rcases hvt with rfl | rfl <;> rfl
        have hab : Agr.awaitB sT = true := Agr.voter_await hvb
        rw [hvb, hab] at HGo HStop
        rw [hvb] at HSm
        have HSn := Lib.hid (HSm.out.trans (Bool.or_true _))
        clear hvb hab HSm
        rcases hvt with rfl | rfl
        all_goals
          obtain ⟨p0, p1, p2, p3, p4⟩ := vbox_cells (G1.out.below HK1.out).x
          obtain ⟨i0, i1⟩ := box_cells X1.out
          go_wp2_with fail
          clear p0 p1 p2 p3 p4 i0 i1
          (with_reducible refine (HHas.out _ HK1.out).mono ?_)
          rintro e5 w5 ⟨rfl, hb⟩
          have HK2 := Lib.hid (below_after HK1.out hb (Nat.le_refl _))
          have X2 := Lib.hid (box_below X1.out hb)
          clear hb
          rcases hs with _ | _
          · have HR := Lib.hid (HStop.out (by simp))
            go_wp2_with fail
            go_ret
            exact ⟨by rw [HR.out]; rfl, below_after BB.out HK2.out (Nat.le_refl _)⟩
          · obtain ⟨p0, p1, p2, p3, p4⟩ := vbox_cells (G1.out.below HK2.out).x
            obtain ⟨i0, i1⟩ := box_cells X2.out
            go_wp2_with fail
            clear p0 p1 p2 p3 p4 i0 i1
            (with_reducible refine (HNot.out _ HK2.out).mono ?_)
            rintro e6 w6 ⟨rfl, hb⟩
            have HK3 := Lib.hid (below_after HK2.out hb (Nat.le_refl _))
            clear hb
            rcases nb with _ | _
            · have HF2 := Lib.hid (HGo.out (by simp))
              go_wp2_with fail
              go_roundw
              case rel => exact ⟨k + 1, true, by go_num, rfl, by omega, HF2, Lib.hid HSn.out.symm, HK3⟩
              case measure => simp [intOf]; omega
            · have HR := Lib.hid (HStop.out (by simp))
              go_wp2_with fail
              go_ret
              exact ⟨by rw [HR.out]; rfl, below_after BB.out HK3.out (Nat.le_refl _)⟩
      · have hvb : Agr.voterB sT = false := by unfold Agr.voterB; rw [decide_eq_false (fun e => hvt (.inl e)), decide_eq_false (fun e => hvt (.inr e))]; rfl
        have h3 : (sT == 3) = false := by simp; omega
        have h4 : (sT == 4) = false := by simp; omega
        rw [hvb] at HGo HStop HSm
        have HSn := Lib.hid (HSm.out.trans (Bool.or_false _))
        clear hvb HSm hvt
        obtain ⟨p0, p1, p2, p3, p4⟩ := vbox_cells (G1.out.below HK1.out).x
        obtain ⟨i0, i1⟩ := box_cells X1.out
        go_wp2_with fail
        clear p0 p1 p2 p3 p4 i0 i1
        (with_reducible refine (HNot.out _ HK1.out).mono ?_)
        rintro e6 w6 ⟨rfl, hb⟩
        have HK3 := Lib.hid (below_after HK1.out hb (Nat.le_refl _))
        clear hb
        rcases nb with _ | _
        · have HF2 := Lib.hid (HGo.out (by simp))
          go_wp2_with fail
          go_roundw
          case rel => exact ⟨k + 1, so, by go_num, rfl, by omega, HF2, Lib.hid (HSo.out.trans HSn.out.symm), HK3⟩
          case measure => simp [intOf]; omega
        · by_cases h6 : sT = 6
          · have HF2 := Lib.hid (HGo.out (by rw [h6]; rfl))
            subst h6
            go_wp2_with fail
            go_roundw
            case rel => exact ⟨k + 1, so, by go_num, rfl, by omega, HF2, Lib.hid (HSo.out.trans HSn.out.symm), HK3⟩
            case measure => simp [intOf]; omega
          · by_cases h5 : sT = 5
            · have HF2 := Lib.hid (HGo.out (by rw [h5]; rfl))
              subst h5
              go_wp2_with fail
              go_roundw
              case rel => exact ⟨k + 1, so, by go_num, rfl, by omega, HF2, Lib.hid (HSo.out.trans HSn.out.symm), HK3⟩
              case measure => simp [intOf]; omega
            · have hn6 : (sT == 6) = false := by simpa using h6
              have hn5 : (sT == 5) = false := by simpa using h5
              have hm6 : (sT != 6) = true := by simpa using h6
              have hm5 : (sT != 5) = true := by simpa using h5
              have HR := Lib.hid (HStop.out (by unfold Agr.awaitB; rw [decide_eq_false h6, decide_eq_false h5]; rfl))
              go_wp2_with fail
              go_ret
              exact ⟨by rw [HR.out]; rfl, below_after BB.out HK3.out (Nat.le_refl _)⟩
    · have hd : decide (k < a.2.1) = false := decide_eq_false hlt
      have HR : Hid (so = Agr.allB V.m V.r V.s) := Lib.hid (by
        have h1 := HF.out
        have h2 := HSo.out
        rw [List.take_of_length_le (by have := HN.out; omega)] at h1 h2
        rw [h2, ← Agr.refAll_is]
        unfold Agr.refAll
        rw [h1]
        rfl)
      go_wp2_with fail
      go_ret
      exact ⟨by rw [← HR.out]; rfl, below_after BB.out HB.out (Nat.le_refl _)⟩
set_option maxHeartbeats 8000000 in
theorem refReaching_any (v : Value) (V : Vw) (w : World) (h : VAt w v V) (hV : FitA V) : Calls Tryd.prog 27 #[v] w fun e w' => e = .returned (.bool (Agr.reachB V.m V.r V.s)) ∧ Below w.heap.size w w' := by
  obtain ⟨a, b, c, d, e, rfl, hr⟩ := h
  have G1 := Lib.hid (agV_new hr)
  have BB := Lib.hid (below_one w (.cells #[.slice a.1 a.2.1 a.2.2, .slice b.1 b.2.1 b.2.2, .slice c.1 c.2.1 c.2.2, .slice d.1 d.2.1 d.2.2, .slice e.1 e.2.1 e.2.2] 29))
  have HV := Lib.hid hV
  have HN := Lib.hid (rcs_len hr.m)
  have hnl : a.2.1 ≤ 1000 := by rw [HN.out]; exact hV.m
  clear hr hV
  obtain ⟨p0, p1, p2, p3, p4⟩ := vbox_cells G1.out.x
  go_enter Tryd.func27, Tryd.ntmps27
  go_wp2_with fail
  clear p0 p1 p2 p3 p4
  generalize w.alloc (.cells #[.slice a.1 a.2.1 a.2.2, .slice b.1 b.2.1 b.2.2, .slice c.1 c.2.1 c.2.2, .slice d.1 d.2.1 d.2.2, .slice e.1 e.2.1 e.2.2] 29) = w1 at *
  obtain ⟨g, hg⟩ : ∃ g, g = w.heap.size := ⟨_, rfl⟩
  rw [← hg] at G1
  rw [← hg]
  clear hg
  have HML : Hid (V.m.length ≤ 100000) := Lib.hid (Nat.le_trans HV.out.m (by omega))
  have HSL : Hid (V.s.length ≤ 1000000) := Lib.hid (Nat.le_trans HV.out.s (by omega))
  go_loopw [3, 4] (fun s3 s4 wr => ∃ (k : Nat) (so : Bool), s4 = .int .i64 k ∧ s3 = .bool so ∧ k ≤ a.2.1 ∧ Hid ((V.m.take k).all (Agr.okR V.m V.r V.s) = true) ∧ Hid (so = (V.m.take k).any fun x => Agr.voterB (Agr.st V.m x.1) && !Agr.notB V.m V.r x.1) ∧ Hid (Below w1.heap.size w1 wr)) (fun _ s4 _ => a.2.1 - (intOf s4).toNat)
  case atStart => exact ⟨0, false, rfl, rfl, by omega, Lib.hid rfl, Lib.hid rfl, Lib.hid (Below.refl _ _)⟩
  case round =>
    obtain ⟨k, so, rfl, rfl, hk, HF, HSo, HB⟩ := hrel
    rename World => wr
    obtain ⟨p0, p1, p2, p3, p4⟩ := vbox_cells (G1.out.below HB.out).x
    by_cases hlt : k < a.2.1
    · skip
      have hd : decide (k < a.2.1) = true := decide_eq_true hlt
      have i3 : (0 : Int) ≤ (k : Int) := by omega
      have i4 : (k : Int) < (a.2.1 : Int) := by omega
      have hkm : k < V.m.length := by have := HN.out; omega
      obtain ⟨ad, hA, c1, c2, -⟩ := G1.out.r.m.at_ HB.out hkm
      have p0' := p0.trans (show some (Value.slice a.1 a.2.1 a.2.2) = some (Value.slice (some ad) a.2.1 a.2.2) by rw [hA])
      clear p0 hA
      have HGo := Lib.hid fun (h : Agr.okR V.m V.r V.s V.m[k] = true) => all_next hkm HF.out h
      have HStop := Lib.hid fun (h : Agr.okR V.m V.r V.s V.m[k] = false) => (show Agr.reachB V.m V.r V.s = false by rw [← Agr.refReach_is]; unfold Agr.refReach; rw [all_not hkm h]; rfl)
      have HSm := Lib.hid (any_next (fun x => Agr.voterB (Agr.st V.m x.1) && !Agr.notB V.m V.r x.1) hkm)
      rw [okR_is] at HGo HStop
      have HE : Hid (V.m[k].1 = (V.m[k].1.1, V.m[k].1.2)) := Lib.hid rfl
      rw [HE.out] at HGo HStop HSm
      clear HE
      generalize V.m[k].1.1 = x1 at *
      generalize V.m[k].1.2 = x2 at *
      clear hkm
      have q := below_one wr (.cells #[.int .i64 x1, .int .i64 x2] 32)
      have HK0 := Lib.hid (below_after HB.out q (Nat.le_refl _))
      have XB := Lib.hid (box_new wr x1 x2)

      obtain ⟨p0'', p1', p2', p3', p4'⟩ := vbox_cells (G1.out.below HK0.out).x
      obtain ⟨i0, i1⟩ := box_cells XB.out
      clear q
      go_wp2_with fail
      clear p0' p0'' p1 p2 p3 p4 p1' p2' p3' p4' i0 i1 c1 c2
      generalize wr.alloc (.cells #[.int .i64 x1, .int .i64 x2] 32) = wx at *
      obtain ⟨gx, hgx⟩ : ∃ g, g = wr.heap.size := ⟨_, rfl⟩
      rw [← hgx] at XB
      rw [← hgx]
      clear hgx
      (with_reducible refine (refStatus_any _ V x1 x2 wx (G1.out.below HK0.out).at_ HML.out).mono ?_)
      rintro e2 w2 ⟨rfl, hb⟩
      have HK1 := Lib.hid (below_after HK0.out hb (Nat.le_refl _))
      have X1 := Lib.hid (box_below XB.out hb)

      clear hb XB HK0
      have HKs : Hid (statV V.m (x1, x2) = .tuple #[.int .u8 (Agr.st V.m (x1, x2)), .bool (Agr.isMem V.m (x1, x2))]) := Lib.hid rfl
      rw [HKs.out]
      clear HKs
      generalize Agr.isMem V.m (x1, x2) = sI at *
      generalize Agr.st V.m (x1, x2) = sT at *
      have HNot := Lib.hid fun W (hb : Below w1.heap.size w1 W) => refNot_any _ V x1 x2 W (G1.out.below hb).at_ HV.out
      generalize Agr.notB V.m V.r (x1, x2) = nb at *
      have HHas := Lib.hid fun W (hb : Below w1.heap.size w1 W) => refHas_any _ V.s x1 x2 W (G1.out.below hb).r.s HSL.out
      generalize hasB (x1, x2) V.s = hs at *
      by_cases hvt : sT = 3 ∨ sT = 4
      · have hvb : Agr.voterB sT = true := by unfold Agr.voterB; rcases hvt with rfl | rfl <;> rfl
        rw [hvb] at HGo HStop HSm
        clear hvb
        rcases hvt with rfl | rfl
        all_goals
          obtain ⟨p0, p1, p2, p3, p4⟩ := vbox_cells (G1.out.below HK1.out).x
          obtain ⟨i0, i1⟩ := box_cells X1.out
          go_wp2_with fail
          clear p0 p1 p2 p3 p4 i0 i1
          (with_reducible refine (HNot.out _ HK1.out).mono ?_)
          rintro e5 w5 ⟨rfl, hb⟩
          have HK2 := Lib.hid (below_after HK1.out hb (Nat.le_refl _))
          have X2 := Lib.hid (box_below X1.out hb)
          clear hb
          rcases nb with _ | _
          · have HSn := Lib.hid (HSm.out.trans (Bool.or_true _))
            obtain ⟨p0, p1, p2, p3, p4⟩ := vbox_cells (G1.out.below HK2.out).x
            obtain ⟨i0, i1⟩ := box_cells X2.out
            go_wp2_with fail
            clear p0 p1 p2 p3 p4 i0 i1
            (with_reducible refine (HHas.out _ HK2.out).mono ?_)
            rintro e6 w6 ⟨rfl, hb⟩
            have HK3 := Lib.hid (below_after HK2.out hb (Nat.le_refl _))
            clear hb
            rcases hs with _ | _
            · have HR := Lib.hid (HStop.out (by simp))
              go_wp2_with fail
              go_ret
              exact ⟨by rw [HR.out]; rfl, below_after BB.out HK3.out (Nat.le_refl _)⟩
            · have HF2 := Lib.hid (HGo.out (by simp))
              go_wp2_with fail
              go_roundw
              case rel => exact ⟨k + 1, true, by go_num, rfl, by omega, HF2, Lib.hid HSn.out.symm, HK3⟩
              case measure => simp [intOf]; omega
          · have HSn := Lib.hid (HSm.out.trans (Bool.or_false _))
            have HF2 := Lib.hid (HGo.out (by simp))
            go_wp2_with fail
            go_roundw
            case rel => exact ⟨k + 1, so, by go_num, rfl, by omega, HF2, Lib.hid (HSo.out.trans HSn.out.symm), HK2⟩
            case measure => simp [intOf]; omega
      · have hvb : Agr.voterB sT = false := by unfold Agr.voterB; rw [decide_eq_false (fun e => hvt (.inl e)), decide_eq_false (fun e => hvt (.inr e))]; rfl
        have h3 : (sT == 3) = false := by simp; omega
        have h4 : (sT == 4) = false := by simp; omega
        rw [hvb] at HGo HStop HSm
        have HSn := Lib.hid (HSm.out.trans (Bool.or_false _))
        have HF2 := Lib.hid (HGo.out (by simp))
        clear hvb HSm hvt
        go_wp2_with fail
        go_roundw
        case rel => exact ⟨k + 1, so, by go_num, rfl, by omega, HF2, Lib.hid (HSo.out.trans HSn.out.symm), HK1⟩
        case measure => simp [intOf]; omega
    · have hd : decide (k < a.2.1) = false := decide_eq_false hlt
      have HR : Hid (so = Agr.reachB V.m V.r V.s) := Lib.hid (by
        have h1 := HF.out
        have h2 := HSo.out
        rw [List.take_of_length_le (by have := HN.out; omega)] at h1 h2
        rw [h2, ← Agr.refReach_is]
        unfold Agr.refReach
        rw [h1]
        rfl)
      go_wp2_with fail
      go_ret
      exact ⟨by rw [← HR.out]; rfl, below_after BB.out HB.out (Nat.le_refl _)⟩
end Go.Proofs.YtloghkiabgnpnaaDoor
