/-
  Carried over and put together: contracts of this program's functions, and plain facts. No statement is proved in this text.
-/
import Derived.Lib.SmallJoins
import Derived.Deep.SlicePairs
import Derived.RegionTactic
import Derived.Orders
import Derived.Below
import Derived.Lib.Hide
import Derived.Test.YtloghkiabgnpnaaDoorH04
import Derived.Test.YtloghkiabgnpnaaDoorH14
namespace Go.Proofs.YtloghkiabgnpnaaDoor
open Go Go.RowKit
/-- The table of ranks holds what the program's text lays there. -/
def Tabs (w : World) : Prop := (w.cell? ⟨0, 0, none⟩ = some (.int .u8 3) ∧ w.cell? ⟨0, 1, none⟩ = some (.int .u8 4) ∧ w.cell? ⟨0, 2, none⟩ = some (.int .u8 2) ∧ w.cell? ⟨0, 3, none⟩ = some (.int .u8 2) ∧ w.cell? ⟨0, 4, none⟩ = some (.int .u8 1) ∧ w.cell? ⟨0, 5, none⟩ = some (.int .u8 1)) ∧ 0 < w.heap.size
theorem Tabs.below {w w' : World} (h : Tabs w) (hb : Below w.heap.size w w') : Tabs w' := by
  obtain ⟨⟨h0, h1, h2, h3, h4, h5⟩, hs⟩ := h
  exact ⟨⟨(hb.cell hs).trans h0, (hb.cell hs).trans h1, (hb.cell hs).trans h2, (hb.cell hs).trans h3, (hb.cell hs).trans h4, (hb.cell hs).trans h5⟩, Nat.lt_of_lt_of_le hs hb.size⟩
/-- What is answered: an ID, and whether there is one. -/
def leadV (o : Option Sets.Id2) : Value := .tuple #[.agg #[.int .i64 (o.getD (0, 0)).1, .int .i64 (o.getD (0, 0)).2], .bool o.isSome]
theorem owns_head {w : World} {base g n c : Nat} {x y : Int} {t : List Sets.Id2} (h : Owns w base (.slice (some ⟨g, 0, none⟩) n c) ((x, y) :: t)) : w.cell? ⟨g, 0, none⟩ = some (.int .i64 x) ∧ w.cell? ⟨g, 1, none⟩ = some (.int .i64 y) := by
  have h1 := flat_at ((x, y) :: t) 0 (by simp)
  exact ⟨World.ownsRow.cells h (g := g) rfl 0 _ h1.1, World.ownsRow.cells h (g := g) rfl 1 _ h1.2⟩
/-- The ranks, one behind the other. -/
def rkA (k : Nat) : Int := if k = 0 then 3 else if k = 1 then 2 else 1
def rkZ (k : Nat) : Int := if k = 0 then 4 else if k = 1 then 2 else 1
/-- Nobody of the ranks ahead is reached. -/
def Nobody (m : List Agr.Mm) (rs : List Agr.Row) (k : Nat) : Prop := ∀ j, j < k → Agr.ofRank m rs (rkA j) (rkZ j) = []
theorem nobody_next {m : List Agr.Mm} {rs : List Agr.Row} {k : Nat} (h : Nobody m rs k) (e : Agr.ofRank m rs (rkA k) (rkZ k) = []) : Nobody m rs (k + 1) := by
  intro j hj
  by_cases c : j = k
  · subst c; exact e
  · exact h j (by omega)
theorem nobody_lead {m : List Agr.Mm} {rs : List Agr.Row} {k : Nat} (hk : k < 3) (h : Nobody m rs k) {y : Sets.Id2} {t : List Sets.Id2} (e : Agr.ofRank m rs (rkA k) (rkZ k) = y :: t) : Agr.leadO m rs = some y := by
  unfold Agr.leadO
  match k, hk with
  | 0, _ =>
    change Agr.ofRank m rs 3 4 = _ at e
    rw [e]
  | 1, _ =>
    have h0 : Agr.ofRank m rs 3 4 = [] := h 0 (by omega)
    change Agr.ofRank m rs 2 2 = _ at e
    rw [h0, e]
  | 2, _ =>
    have h0 : Agr.ofRank m rs 3 4 = [] := h 0 (by omega)
    have h1 : Agr.ofRank m rs 2 2 = [] := h 1 (by omega)
    change Agr.ofRank m rs 1 1 = _ at e
    rw [h0, h1, e]
theorem nobody_none {m : List Agr.Mm} {rs : List Agr.Row} (h : Nobody m rs 3) : Agr.leadO m rs = none := by
  have h0 : Agr.ofRank m rs 3 4 = [] := h 0 (by omega)
  have h1 : Agr.ofRank m rs 2 2 = [] := h 1 (by omega)
  have h2 : Agr.ofRank m rs 1 1 = [] := h 2 (by omega)
  unfold Agr.leadO
  rw [h0, h1, h2]
theorem two_cases (k : Nat) : k = 0 ∨ k = 1 ∨ k = 2 ∨ 3 ≤ k := by omega
set_option maxHeartbeats 8000000 in
theorem leader_any (v : Value) (V : Vw) (w : World) (h : VAt w v V) (hV : FitA V) (ht : Tabs w) :
    Calls Tryd.prog 18 #[v] w fun e w' => e = .returned (leadV (Agr.leadO V.m V.r)) ∧ Below w.heap.size w w' := by
  obtain ⟨a, b, c, d, e, rfl, hr⟩ := h
  have q1 := below_one w (.cells #[.slice a.1 a.2.1 a.2.2, .slice b.1 b.2.1 b.2.2, .slice c.1 c.2.1 c.2.2, .slice d.1 d.2.1 d.2.2, .slice e.1 e.2.1 e.2.2] 29)
  have q2 := below_one (w.alloc (.cells #[.slice a.1 a.2.1 a.2.2, .slice b.1 b.2.1 b.2.2, .slice c.1 c.2.1 c.2.2, .slice d.1 d.2.1 d.2.2, .slice e.1 e.2.1 e.2.2] 29)) (.cells #[.int .i64 0, .int .i64 0] 32)
  have G1 := Lib.hid ((agV_new hr).below q2)
  have X1 := Lib.hid (box_new (w.alloc (.cells #[.slice a.1 a.2.1 a.2.2, .slice b.1 b.2.1 b.2.2, .slice c.1 c.2.1 c.2.2, .slice d.1 d.2.1 d.2.2, .slice e.1 e.2.1 e.2.2] 29)) 0 0)
  have BB := Lib.hid (below_after q1 q2 (Nat.le_refl _))
  have T1 := Lib.hid ((ht.below q1).below q2)
  have HV := Lib.hid hV
  have HZ := Lib.hid (show (w.alloc (.cells #[.slice a.1 a.2.1 a.2.2, .slice b.1 b.2.1 b.2.2, .slice c.1 c.2.1 c.2.2, .slice d.1 d.2.1 d.2.2, .slice e.1 e.2.1 e.2.2] 29)).heap.size = w.heap.size + 1 by simp)
  clear hr hV q1 q2 ht
  rw [HZ.out] at X1
  obtain ⟨p0, p1, p2, p3, p4⟩ := vbox_cells G1.out.x
  go_enter Tryd.func18, Tryd.ntmps18
  go_wp2_with fail
  generalize (w.alloc (.cells #[.slice a.1 a.2.1 a.2.2, .slice b.1 b.2.1 b.2.2, .slice c.1 c.2.1 c.2.2, .slice d.1 d.2.1 d.2.2, .slice e.1 e.2.1 e.2.2] 29)).alloc (.cells #[.int .i64 0, .int .i64 0] 32) = w1 at *
  obtain ⟨g, hg⟩ : ∃ g, g = w.heap.size := ⟨_, rfl⟩
  obtain ⟨gi, hgi⟩ : ∃ g, g = w.heap.size + 1 := ⟨_, rfl⟩
  rw [← hg] at G1
  rw [← hgi] at X1
  rw [← hgi, ← hg]
  have hgi2 : w.heap.size ≤ gi := by omega
  clear HZ p0 p1 p2 p3 p4 hg hgi
  (with_reducible refine (notReached_any _ V w1 G1.out.at_ HV.out).mono ?_)
  rintro e2 w2 ⟨vn, rfl, ho, hb⟩
  have G2 := Lib.hid (G1.out.below hb)
  have X2 := Lib.hid (box_below X1.out hb)
  have T2 := Lib.hid (T1.out.below hb)
  have B2 := Lib.hid (below_after BB.out hb (Nat.le_refl _))
  have N2 := Lib.hid (ids_of_owns ho)
  clear ho hb G1 X1 T1 BB
  obtain ⟨⟨t0, t1, t2, t3, t4, t5⟩, -⟩ := T2.out
  go_wp2_with fail
  clear t0 t1 t2 t3 t4 t5
  go_loopw [12] (fun s12 wr => ∃ k : Nat, s12 = .int .i64 k ∧ k ≤ 3 ∧ Hid (Nobody V.m V.r k) ∧ Hid (Below w2.heap.size w2 wr)) (fun s12 _ => 3 - (intOf s12).toNat)
  case atStart => exact ⟨0, rfl, by omega, Lib.hid (fun j hj => by omega), Lib.hid (Below.refl _ _)⟩
  case round =>
    obtain ⟨k, rfl, hk, HN, HB⟩ := hrel
    have G3 := Lib.hid (G2.out.below HB.out)
    have X3 := Lib.hid (box_below X2.out HB.out)
    have N3 := Lib.hid (N2.out.below HB.out)
    have B3 := Lib.hid (below_after B2.out HB.out (Nat.le_refl _))
    have HAll : Hid (∀ (A Z : Int), Below wr.heap.size wr (wr.alloc (.cells #[.int .u8 A, .int .u8 Z] 62)) ∧ RBox (wr.alloc (.cells #[.int .u8 A, .int .u8 Z] 62)) wr.heap.size A Z) := Lib.hid fun A Z => ⟨below_one _ _, heap_alloc_new wr _⟩
    have HFin : Hid (∀ (n : Nat) (y : Sets.Id2) (t : List Sets.Id2), n < 3 → Nobody V.m V.r n → Agr.ofRank V.m V.r (rkA n) (rkZ n) = y :: t → leadV (some y) = leadV (Agr.leadO V.m V.r)) := Lib.hid fun n y t hn h1 h2 => by rw [nobody_lead hn h1 h2]
    rcases two_cases k with rfl | rfl | rfl | h3
    case inr.inr.inr =>
      obtain rfl : k = 3 := by omega
      have HL := Lib.hid (nobody_none HN.out)
      obtain ⟨f1, f2⟩ := box_free X3.out
      obtain ⟨x1, x2⟩ := box_cells X3.out
      go_wp2_with fail
      have X9 := box_set X3.out 0 0
      obtain ⟨q0, q1⟩ := box_cells X9
      refine bodyPost_ret (v := leadV none) (by simp [results, Tryd.results18, go_sem, q0, q1, leadV]) rfl ?_
      exact ⟨by rw [HL.out], below_setCells B3.out hgi2 0 [_, _]⟩
    case inl =>
      obtain ⟨hq1, hq2⟩ := HAll.out 3 4
      have G4 := Lib.hid (G3.out.below hq1)
      have X4 := Lib.hid (box_below X3.out hq1)
      have N4 := Lib.hid (N3.out.below hq1)
      have B4 := Lib.hid (below_after B3.out hq1 (Nat.le_refl _))
      have Z4 := Lib.hid (below_after HB.out hq1 (Nat.le_refl _))
      have R4 := Lib.hid hq2
      clear hq1 hq2 G3 X3 N3 B3 HB HAll
      obtain ⟨p0, p1, p2, p3, p4⟩ := vbox_cells G4.out.x
      have hix : ∀ W, Sem.run Tryd.prog (Instr.index 63 (.agg #[.int .u8 3, .int .u8 4, .int .u8 2, .int .u8 2, .int .u8 1, .int .u8 1]) (.int .i64 0)) W = .ok (.agg #[.int .u8 3, .int .u8 4]) W := fun W => by kernel_rfl
      go_wp2_with fail
      clear hix
      obtain ⟨X, hX⟩ : ∃ X, X = wr.heap.size := ⟨_, rfl⟩
      rw [← hX] at R4
      rw [← hX]
      generalize wr.alloc (.cells #[.int .u8 3, .int .u8 4] 62) = w4 at *
      clear p0 p1 p2 p3 p4 hX
      (with_reducible refine (agrChosen_any (rank_asks X 3 4) _ V w4 G4.out.at_ R4.out (Nat.le_trans HV.out.m (by omega))).mono ?_)
      rintro e5 w5 ⟨v5, rfl, ho, hb⟩
      have I5 := Lib.hid (ids_of_owns ho)
      have N5 := Lib.hid (N4.out.below hb)
      have X5 := Lib.hid (box_below X4.out hb)
      have B5 := Lib.hid (below_after B4.out hb (Nat.le_refl _))
      have Z5 := Lib.hid (below_after Z4.out hb (Nat.le_refl _))
      clear ho hb G4 X4 N4 B4 Z4 R4
      go_wp2_with fail
      (with_reducible refine (without_new _ _ _ _ w5 I5.out N5.out (Nat.le_trans (Agr.chosen_len _ _) (Nat.le_trans HV.out.m (by omega))) (Nat.le_trans (Agr.nr_len _ _) (Nat.le_trans HV.out.m (by omega)))).mono ?_)
      rintro e6 w6 ⟨v6, rfl, ho, hb⟩
      have X6 := Lib.hid (box_below X5.out hb)
      have B6 := Lib.hid (below_after B5.out hb (Nat.le_refl _))
      have Z6 := Lib.hid (below_after Z5.out hb (Nat.le_refl _))
      have HO : Hid (Owns w6 w5.heap.size v6 (Agr.ofRank V.m V.r (rkA 0) (rkZ 0))) := Lib.hid ho
      clear ho hb X5 B5 Z5 I5 N5
      rcases hof : Agr.ofRank V.m V.r (rkA 0) (rkZ 0) with _ | ⟨⟨y1, y2⟩, t⟩
      · have HN2 := Lib.hid (nobody_next HN.out hof)
        rw [hof] at HO
        obtain ⟨A, n, c', rfl, hn⟩ := owns_len HO.out
        obtain rfl : n = 0 := by simpa using hn
        clear hof hn HO
        go_wp2_with fail
        go_roundw
        case rel => exact ⟨1, rfl, by omega, HN2, Z6⟩
        case measure => simp [intOf]
      · have HL := Lib.hid (HFin.out 0 (y1, y2) t (by omega) HN.out hof)
        rw [hof] at HO
        rcases owns_split HO.out with ⟨-, hn⟩ | ⟨gg, cap, rfl, -, -⟩
        · simp at hn
        obtain ⟨o0, o1⟩ := owns_head HO.out
        have hd : decide (0 < t.length + 1) = true := by simp
        have hd2 : (0 : Int) < (t.length : Int) + 1 := by omega
        obtain ⟨f1, f2⟩ := box_free X6.out
        obtain ⟨x1, x2⟩ := box_cells X6.out
        clear hof HO
        go_wp2_with fail
        have X9 := box_set X6.out y1 y2
        obtain ⟨q0, q1⟩ := box_cells X9
        refine bodyPost_ret (v := leadV (some (y1, y2))) (by simp [results, Tryd.results18, go_sem, q0, q1, leadV]) rfl ?_
        exact ⟨by rw [HL.out], below_setCells B6.out hgi2 0 [_, _]⟩
    case inr.inl =>
      obtain ⟨hq1, hq2⟩ := HAll.out 2 2
      have G4 := Lib.hid (G3.out.below hq1)
      have X4 := Lib.hid (box_below X3.out hq1)
      have N4 := Lib.hid (N3.out.below hq1)
      have B4 := Lib.hid (below_after B3.out hq1 (Nat.le_refl _))
      have Z4 := Lib.hid (below_after HB.out hq1 (Nat.le_refl _))
      have R4 := Lib.hid hq2
      clear hq1 hq2 G3 X3 N3 B3 HB HAll
      obtain ⟨p0, p1, p2, p3, p4⟩ := vbox_cells G4.out.x
      have hix : ∀ W, Sem.run Tryd.prog (Instr.index 63 (.agg #[.int .u8 3, .int .u8 4, .int .u8 2, .int .u8 2, .int .u8 1, .int .u8 1]) (.int .i64 1)) W = .ok (.agg #[.int .u8 2, .int .u8 2]) W := fun W => by kernel_rfl
      go_wp2_with fail
      clear hix
      obtain ⟨X, hX⟩ : ∃ X, X = wr.heap.size := ⟨_, rfl⟩
      rw [← hX] at R4
      rw [← hX]
      generalize wr.alloc (.cells #[.int .u8 2, .int .u8 2] 62) = w4 at *
      clear p0 p1 p2 p3 p4 hX
      (with_reducible refine (agrChosen_any (rank_asks X 2 2) _ V w4 G4.out.at_ R4.out (Nat.le_trans HV.out.m (by omega))).mono ?_)
      rintro e5 w5 ⟨v5, rfl, ho, hb⟩
      have I5 := Lib.hid (ids_of_owns ho)
      have N5 := Lib.hid (N4.out.below hb)
      have X5 := Lib.hid (box_below X4.out hb)
      have B5 := Lib.hid (below_after B4.out hb (Nat.le_refl _))
      have Z5 := Lib.hid (below_after Z4.out hb (Nat.le_refl _))
      clear ho hb G4 X4 N4 B4 Z4 R4
      go_wp2_with fail
      (with_reducible refine (without_new _ _ _ _ w5 I5.out N5.out (Nat.le_trans (Agr.chosen_len _ _) (Nat.le_trans HV.out.m (by omega))) (Nat.le_trans (Agr.nr_len _ _) (Nat.le_trans HV.out.m (by omega)))).mono ?_)
      rintro e6 w6 ⟨v6, rfl, ho, hb⟩
      have X6 := Lib.hid (box_below X5.out hb)
      have B6 := Lib.hid (below_after B5.out hb (Nat.le_refl _))
      have Z6 := Lib.hid (below_after Z5.out hb (Nat.le_refl _))
      have HO : Hid (Owns w6 w5.heap.size v6 (Agr.ofRank V.m V.r (rkA 1) (rkZ 1))) := Lib.hid ho
      clear ho hb X5 B5 Z5 I5 N5
      rcases hof : Agr.ofRank V.m V.r (rkA 1) (rkZ 1) with _ | ⟨⟨y1, y2⟩, t⟩
      · have HN2 := Lib.hid (nobody_next HN.out hof)
        rw [hof] at HO
        obtain ⟨A, n, c', rfl, hn⟩ := owns_len HO.out
        obtain rfl : n = 0 := by simpa using hn
        clear hof hn HO
        go_wp2_with fail
        go_roundw
        case rel => exact ⟨2, rfl, by omega, HN2, Z6⟩
        case measure => simp [intOf]
      · have HL := Lib.hid (HFin.out 1 (y1, y2) t (by omega) HN.out hof)
        rw [hof] at HO
        rcases owns_split HO.out with ⟨-, hn⟩ | ⟨gg, cap, rfl, -, -⟩
        · simp at hn
        obtain ⟨o0, o1⟩ := owns_head HO.out
        have hd : decide (0 < t.length + 1) = true := by simp
        have hd2 : (0 : Int) < (t.length : Int) + 1 := by omega
        obtain ⟨f1, f2⟩ := box_free X6.out
        obtain ⟨x1, x2⟩ := box_cells X6.out
        clear hof HO
        go_wp2_with fail
        have X9 := box_set X6.out y1 y2
        obtain ⟨q0, q1⟩ := box_cells X9
        refine bodyPost_ret (v := leadV (some (y1, y2))) (by simp [results, Tryd.results18, go_sem, q0, q1, leadV]) rfl ?_
        exact ⟨by rw [HL.out], below_setCells B6.out hgi2 0 [_, _]⟩
    case inr.inr.inl =>
      obtain ⟨hq1, hq2⟩ := HAll.out 1 1
      have G4 := Lib.hid (G3.out.below hq1)
      have X4 := Lib.hid (box_below X3.out hq1)
      have N4 := Lib.hid (N3.out.below hq1)
      have B4 := Lib.hid (below_after B3.out hq1 (Nat.le_refl _))
      have Z4 := Lib.hid (below_after HB.out hq1 (Nat.le_refl _))
      have R4 := Lib.hid hq2
      clear hq1 hq2 G3 X3 N3 B3 HB HAll
      obtain ⟨p0, p1, p2, p3, p4⟩ := vbox_cells G4.out.x
      have hix : ∀ W, Sem.run Tryd.prog (Instr.index 63 (.agg #[.int .u8 3, .int .u8 4, .int .u8 2, .int .u8 2, .int .u8 1, .int .u8 1]) (.int .i64 2)) W = .ok (.agg #[.int .u8 1, .int .u8 1]) W := fun W => by kernel_rfl
      go_wp2_with fail
      clear hix
      obtain ⟨X, hX⟩ : ∃ X, X = wr.heap.size := ⟨_, rfl⟩
      rw [← hX] at R4
      rw [← hX]
      generalize wr.alloc (.cells #[.int .u8 1, .int .u8 1] 62) = w4 at *
      clear p0 p1 p2 p3 p4 hX
      (with_reducible refine (agrChosen_any (rank_asks X 1 1) _ V w4 G4.out.at_ R4.out (Nat.le_trans HV.out.m (by omega))).mono ?_)
      rintro e5 w5 ⟨v5, rfl, ho, hb⟩
      have I5 := Lib.hid (ids_of_owns ho)
      have N5 := Lib.hid (N4.out.below hb)
      have X5 := Lib.hid (box_below X4.out hb)
      have B5 := Lib.hid (below_after B4.out hb (Nat.le_refl _))
      have Z5 := Lib.hid (below_after Z4.out hb (Nat.le_refl _))
      clear ho hb G4 X4 N4 B4 Z4 R4
      go_wp2_with fail
      (with_reducible refine (without_new _ _ _ _ w5 I5.out N5.out (Nat.le_trans (Agr.chosen_len _ _) (Nat.le_trans HV.out.m (by omega))) (Nat.le_trans (Agr.nr_len _ _) (Nat.le_trans HV.out.m (by omega)))).mono ?_)
      rintro e6 w6 ⟨v6, rfl, ho, hb⟩
      have X6 := Lib.hid (box_below X5.out hb)
      have B6 := Lib.hid (below_after B5.out hb (Nat.le_refl _))
      have Z6 := Lib.hid (below_after Z5.out hb (Nat.le_refl _))
      have HO : Hid (Owns w6 w5.heap.size v6 (Agr.ofRank V.m V.r (rkA 2) (rkZ 2))) := Lib.hid ho
      clear ho hb X5 B5 Z5 I5 N5
      rcases hof : Agr.ofRank V.m V.r (rkA 2) (rkZ 2) with _ | ⟨⟨y1, y2⟩, t⟩
      · have HN2 := Lib.hid (nobody_next HN.out hof)
        rw [hof] at HO
        obtain ⟨A, n, c', rfl, hn⟩ := owns_len HO.out
        obtain rfl : n = 0 := by simpa using hn
        clear hof hn HO
        go_wp2_with fail
        go_roundw
        case rel => exact ⟨3, rfl, by omega, HN2, Z6⟩
        case measure => simp [intOf]
      · have HL := Lib.hid (HFin.out 2 (y1, y2) t (by omega) HN.out hof)
        rw [hof] at HO
        rcases owns_split HO.out with ⟨-, hn⟩ | ⟨gg, cap, rfl, -, -⟩
        · simp at hn
        obtain ⟨o0, o1⟩ := owns_head HO.out
        have hd : decide (0 < t.length + 1) = true := by simp
        have hd2 : (0 : Int) < (t.length : Int) + 1 := by omega
        obtain ⟨f1, f2⟩ := box_free X6.out
        obtain ⟨x1, x2⟩ := box_cells X6.out
        clear hof HO
        go_wp2_with fail
        have X9 := box_set X6.out y1 y2
        obtain ⟨q0, q1⟩ := box_cells X9
        refine bodyPost_ret (v := leadV (some (y1, y2))) (by simp [results, Tryd.results18, go_sem, q0, q1, leadV]) rfl ?_
        exact ⟨by rw [HL.out], below_setCells B6.out hgi2 0 [_, _]⟩
end Go.Proofs.YtloghkiabgnpnaaDoor
set_option maxRecDepth 20000
namespace Go.Proofs.YtloghkiabgnpnaaDoor
open Go.RowKit Go.WideShapes Go.ChangeShapes Go.ChangeAt
section
variable {H : Type} {enc : TypeId × Value → H}
theorem cells24 : Tryd.prog.cellsOf 25 = 1 := by kernel_rfl
theorem cells23 : Tryd.prog.cellsOf 32 = 2 := by kernel_rfl
theorem cells3 : Tryd.prog.cellsOf 3 = 1 := by kernel_rfl
theorem open_id {w : World} {b0 : Nat} {v : Value} {d : DataW H} {p : List MemPlace} (hv : Value.okWide Tryd.prog w .any b0 32 v) (h : DataW.Trod enc Tryd.prog w 0 (fun _ => true) true 32 v d p) :
    ∃ a i : Int, v = .agg #[.int .i64 a, .int .i64 i] := by
  obtain ⟨v0, v1, y0, y1, n, rfl, _, _, h0, h1⟩ := Joins.open_agg2 Tryd.underlying32 (by kernel_rfl) cells23 hv h
  obtain ⟨a, e0, _, _⟩ := DataW.trod_int Tryd.underlying3 h0
  obtain ⟨i, e1, _, _⟩ := DataW.trod_int Tryd.underlying3 h1
  injection e0 with e0
  injection e1 with e1
  exact ⟨a, i, by rw [e0, e1]⟩
theorem open_ids {w : World} {b0 : Nat} {v : Value} {d : DataW H} {p : List MemPlace} (hv : Value.okWide Tryd.prog w .any b0 25 v) (h : DataW.Trod enc Tryd.prog w 0 (fun _ => true) true 25 v d p) :
    ∃ l : List (Int × Int), Ids w v l := by
  obtain ⟨A, len, cap, rfl⟩ := okWide_slice Tryd.underlying25 hv
  obtain ⟨fuel, hf⟩ := h
  rcases Deep.open_slice_pairs Tryd.underlying25 Tryd.underlying32 cells23 rfl rfl cells3 cells3 hf with ⟨hc, _⟩ | ⟨a, len', cap', m, n, V0, V1, D0, D1, P0, P1, hc, _, hl, _, hm, _, hx⟩
  · have e : Value.slice A len cap = .slice none 0 0 := by simpa [Value.cells] using hc
    rw [e]
    exact ⟨[], Ids.nil w⟩
  · have e : Value.slice A len cap = .slice (some a) len' cap' := by simpa [Value.cells] using hc
    injection e with e1 e2 e3
    subst e1 e2 e3
    have hm2 : m = cap := by simpa using hm
    refine ⟨(List.range len).map fun i => (RowKit.intOf (V0 i), RowKit.intOf (V1 i)), some a, cap, by simp, (fun h => by cases h), by simpa using hl, fun k hk => ?_⟩
    have hk2 : k < len := by simpa using hk
    obtain ⟨h0, h1, t0, t1⟩ := hx k (by omega)
    obtain ⟨x, e0, _, _⟩ := DataW.trod_int Tryd.underlying3 t0
    obtain ⟨y, e1, _, _⟩ := DataW.trod_int Tryd.underlying3 t1
    injection e0 with e0
    injection e1 with e1
    rw [e0] at h0
    rw [e1, add_odd] at h1
    refine ⟨a, rfl, ?_, ?_, ?_⟩
    · have := World.block_lt_of_cell? w _ h0
      rwa [block_of_add] at this
    · rw [h0]
      simp [e0, RowKit.intOf]
    · rw [h1]
      simp [e1, RowKit.intOf]
end
end Go.Proofs.YtloghkiabgnpnaaDoor
set_option maxRecDepth 20000
namespace Go.Proofs.YtloghkiabgnpnaaDoor
open Go Go.RowKit
section
variable {P : Program} {ops : Array Oper} {Q : Exit → Act → World → Prop} {F : Nat → Value → World → Prop} {G : World → Prop} {a0 : Act}
/-- What stands when some operations have come up. -/
structure Stood (F : Nat → Value → World → Prop) (G : World → Prop) (ops : Array Oper) (a0 : Act) (listed : Array Bool) (a : Act) (w : World) : Prop where
  held : G w
  defers : a.defers = a0.defers
  size : a.tmps.size = a0.tmps.size
  old : ∀ s : Tmp, (∀ (i : Nat) (o : Oper), ops[i]? = some o → o.dst ≠ some s) → a.tmps.getD s undef = a0.tmps.getD s undef
  new : ∀ (i : Nat) (o : Oper) (s : Tmp), listed.getD i false = true → ops[i]? = some o → o.dst = some s → F i (a.tmps.getD s undef) w
/-- What one operation owes. -/
def Owes (P : Program) (ops : Array Oper) (Q : Exit → Act → World → Prop) (F : Nat → Value → World → Prop) (G : World → Prop) (a0 : Act) (i : Nat) (o : Oper) : Prop :=
  ∀ a w, G w → (∀ s : Tmp, (∀ (i : Nat) (o : Oper), ops[i]? = some o → o.dst ≠ some s) → a.tmps.getD s undef = a0.tmps.getD s undef) →
    (∀ (j : Nat) (o' : Oper) (s : Tmp), (o.after.any fun e => e.on == j && Region.binds .any e) = true → ops[j]? = some o' → o'.dst = some s → F j (a.tmps.getD s undef) w) →
    ∀ K : Act → World → Prop, (∀ v w', G w' → Below w.heap.size w w' → F i v w' → K (a.put o.dst v) w') →
    if Region.wanted o (yielded ops a.tmps) = true then Oper.wp P o a w K Q else K (a.put o.dst undef) w
theorem put_getD_other (a : Act) (d : Option Tmp) (v : Value) (s : Nat) (h : d ≠ some s) : (a.put d v).tmps.getD s undef = a.tmps.getD s undef := by
  cases d with
  | none => rfl
  | some d =>
    have hd : d ≠ s := fun e => h (by rw [e])
    simp [Act.put, Array.getD_eq_getD_getElem?, Array.getElem?_setIfInBounds_ne hd]
theorem put_getD_self (a : Act) (v : Value) (s : Nat) (h : s < a.tmps.size) : (a.put (some s) v).tmps.getD s undef = v := by
  simp [Act.put, h]
theorem put_size (a : Act) (d : Option Tmp) (v : Value) : (a.put d v).tmps.size = a.tmps.size := by
  cases d <;> simp [Act.put]
theorem put_defers (a : Act) (d : Option Tmp) (v : Value) : (a.put d v).defers = a.defers := by
  cases d <;> rfl
theorem all_listed {listed : Array Bool} (hs : listed.size = ops.size) (hasc : ∀ (i : Nat) (o : Oper), ops[i]? = some o → ∀ e ∈ o.after, e.on < i) (hr : Region.ready .any ops listed = []) : ∀ i, i < ops.size → listed.getD i false = true := by
  intro i
  induction i using Nat.strongRecOn with
  | _ i ih =>
    intro hi
    rcases hl : listed.getD i false with _ | _
    · exfalso
      have h1 := List.filter_eq_nil_iff.1 hr i (List.mem_range.2 hi)
      apply h1
      have h2 : listed.getD i true = false := by
        rw [Array.getD_eq_getD_getElem?] at hl ⊢
        rw [Array.getElem?_eq_getElem (by omega)] at hl ⊢
        exact hl
      rw [h2, Array.getElem?_eq_getElem hi]
      simp only [Bool.not_false, Option.map_some, Option.getD_some, Bool.true_and]
      rw [Array.all_eq_true_iff_forall_mem]
      intro e he
      have hlt := hasc i ops[i] (Array.getElem?_eq_getElem hi) e he
      rw [ih e.on hlt (by omega)]
      simp
    · rfl
theorem wpAny_facts (hasc : ∀ (i : Nat) (o : Oper), ops[i]? = some o → ∀ e ∈ o.after, e.on < i) (hdst : ∀ (i j : Nat) (o o' : Oper) (s : Tmp), ops[i]? = some o → ops[j]? = some o' → o.dst = some s → o'.dst = some s → i = j) (hin : ∀ (i : Nat) (o : Oper) (s : Tmp), ops[i]? = some o → o.dst = some s → s < a0.tmps.size)
    (mono : ∀ i v w w', F i v w → Below w.heap.size w w' → F i v w')
    (step : ∀ (i : Nat) (o : Oper), ops[i]? = some o → Owes P ops Q F G a0 i o)
    (fin : ∀ a w, Stood F G ops a0 (Array.replicate ops.size true) a w → Q .normal a w) :
    ∀ (fuel : Nat) (listed : Array Bool) (a : Act) (w : World), listed.size = ops.size → listed.toList.countP (fun b => !b) ≤ fuel → Stood F G ops a0 listed a w → wpAny P .any ops Q fuel listed a w := by
  have last : ∀ (listed : Array Bool) (a : Act) (w : World), listed.size = ops.size → Stood F G ops a0 listed a w → Region.ready .any ops listed = [] → Q .normal a w := fun listed a w hs h hr =>
    fin a w ⟨h.held, h.defers, h.size, h.old, fun i o s _ ho hd => h.new i o s (all_listed hs hasc hr i (by
      rcases Nat.lt_or_ge i ops.size with h1 | h1
      · exact h1
      · rw [Array.getElem?_eq_none h1] at ho; cases ho)) ho hd⟩
  intro fuel
  induction fuel with
  | zero =>
    intro listed a w hs hc h
    have hr : Region.ready .any ops listed = [] := by
      refine List.filter_eq_nil_iff.2 fun i hi => ?_
      have hi2 : i < listed.toList.length := by rw [Array.length_toList, hs]; exact List.mem_range.1 hi
      have h0 := List.countP_eq_zero.1 (Nat.le_zero.1 hc) listed.toList[i] (List.getElem_mem hi2)
      have h1 : listed.getD i true = true := by
        rw [Array.getD_eq_getD_getElem?, Array.getElem?_eq_getElem (by simpa using hi2)]
        simpa using h0
      rw [h1]
      simp
    exact ⟨hr, last listed a w hs h hr⟩
  | succ fuel ih =>
    intro listed a w hs hc h
    refine ⟨last listed a w hs h, fun i hi => ?_⟩
    obtain ⟨hi1, hi2⟩ := List.mem_filter.1 hi
    have hi3 : i < ops.size := List.mem_range.1 hi1
    rw [Bool.and_eq_true, Bool.not_eq_true', Array.getElem?_eq_getElem hi3, Option.map_some, Option.getD_some] at hi2
    obtain ⟨hl, hall⟩ := hi2
    have ho : ops[i]? = some ops[i] := Array.getElem?_eq_getElem hi3
    have hil : i < listed.toList.length := by rw [Array.length_toList, hs]; exact hi3
    have hlf : listed.toList[i] = false := by
      rw [Array.getD_eq_getD_getElem?, Array.getElem?_eq_getElem (by omega)] at hl
      simpa using hl
    have hcnt : (listed.setIfInBounds i true).toList.countP (fun b => !b) ≤ fuel := by
      rw [Array.toList_setIfInBounds, List.countP_set hil, hlf]
      simp only [Bool.not_false, if_true, Bool.not_true, Bool.false_eq_true, if_false]
      omega
    have key : ∀ v w', G w' → Below w.heap.size w w' → F i v w' → wpAny P .any ops Q fuel (listed.setIfInBounds i true) (a.put ops[i].dst v) w' := by
      intro v w' hG hb hF
      refine ih _ _ _ (by simpa using hs) hcnt ⟨hG, (put_defers _ _ _).trans h.defers, (put_size _ _ _).trans h.size, fun s hn => (put_getD_other _ _ _ _ (hn i _ ho)).trans (h.old s hn), fun j o s hj hoj hd => ?_⟩
      by_cases e : j = i
      · subst e
        obtain rfl := Option.some.inj (ho.symm.trans hoj)
        rw [hd, put_getD_self _ _ _ (by rw [h.size]; exact hin _ _ _ hoj hd)]
        exact hF
      · rw [put_getD_other _ _ _ _ (fun e2 => e (hdst j i o ops[i] s hoj ho hd e2))]
        refine mono _ _ _ _ (h.new j o s ?_ hoj hd) hb
        rw [Array.getD_eq_getD_getElem?, Array.getElem?_setIfInBounds_ne (fun e2 => e e2.symm)] at hj
        rw [Array.getD_eq_getD_getElem?]
        exact hj
    have hst := step i ops[i] ho a w h.held h.old (fun j o' s hj hoj hd => h.new j o' s (by
      obtain ⟨e, he, h2⟩ := Array.any_eq_true'.1 hj
      rw [Bool.and_eq_true, beq_iff_eq] at h2
      have h3 := (Array.all_eq_true_iff_forall_mem.1 hall) e he
      rw [h2.2, h2.1] at h3
      simpa using h3) hoj hd) (wpAny P .any ops Q fuel (listed.setIfInBounds i true)) key
    unfold wpOp
    rw [ho]
    show if Region.wanted ops[i] (yielded ops a.tmps) = true then _ else _
    split
    · rename_i hw; rw [if_pos hw] at hst; exact .inl hst
    · rename_i hw; rw [if_neg hw] at hst; exact hst
/-- The region, by facts of its slots. -/
theorem wp_region_facts {id : Nat} {w0 : World} (hm : P.follows .mixedOrders = true) (F : Nat → Value → World → Prop) (G : World → Prop)
    (hasc : (List.range ops.size).all (fun i => ((ops[i]?).map fun o => o.after.all fun e => decide (e.on < i)).getD true) = true)
    (hdst : (List.range ops.size).all (fun i => (List.range ops.size).all fun j => decide (i = j) || ((ops[i]?).bind (·.dst)).isNone || ((ops[i]?).bind (·.dst)) != ((ops[j]?).bind (·.dst))) = true)
    (hin : (List.range ops.size).all (fun i => (((ops[i]?).bind (·.dst)).map fun s => decide (s < a0.tmps.size)).getD true) = true)
    (mono : ∀ i v w w', F i v w → Below w.heap.size w w' → F i v w')
    (hG : G w0.drew)
    (step : ∀ (i : Nat) (o : Oper), ops[i]? = some o → Owes P ops Q F G a0 i o)
    (fin : ∀ a w, G w → a.defers = a0.defers → a.tmps.size = a0.tmps.size → (∀ s : Tmp, (∀ (i : Nat) (o : Oper), ops[i]? = some o → o.dst ≠ some s) → a.tmps.getD s undef = a0.tmps.getD s undef) → (∀ (i : Nat) (o : Oper) (s : Tmp), ops[i]? = some o → o.dst = some s → F i (a.tmps.getD s undef) w) → Q .normal a w) :
    (Code.region id ops true).wp P Q a0 w0 := by
  have lt : ∀ {i : Nat} {o : Oper}, ops[i]? = some o → i < ops.size := fun {i o} ho => by
    rcases Nat.lt_or_ge i ops.size with h1 | h1
    · exact h1
    · rw [Array.getElem?_eq_none h1] at ho; cases ho
  refine wp_region_any hm (wpAny_facts (F := F) (G := G) (a0 := a0) ?_ ?_ ?_ mono step (fun a w h => fin a w h.held h.defers h.size h.old fun i o s ho hd => h.new i o s (by simp [lt ho]) ho hd) _ _ _ _ (by simp) (Nat.le_trans List.countP_le_length (by simp)) ⟨hG, rfl, rfl, fun _ _ => rfl, fun i o s hi ho _ => ?_⟩)
  · intro i o ho e he
    have := List.all_eq_true.1 hasc i (List.mem_range.2 (lt ho))
    rw [ho] at this
    simpa using (Array.all_eq_true_iff_forall_mem.1 this) e he
  · intro i j o o' s ho ho' hd hd'
    have := List.all_eq_true.1 (List.all_eq_true.1 hdst i (List.mem_range.2 (lt ho))) j (List.mem_range.2 (lt ho'))
    rw [ho, ho'] at this
    simp [hd, hd'] at this
    exact this
  · intro i o s ho hd
    have := List.all_eq_true.1 hin i (List.mem_range.2 (lt ho))
    rw [ho] at this
    simpa [hd] using this
  · rw [Array.getD_eq_getD_getElem?] at hi
    simp [lt ho] at hi
/-- The truth value in a value. -/
def boolOf : Value → Option Bool
  | .bool b => some b
  | _ => none
/-- Is an operation's guard met? (ds: the operations' slots.) -/
def met (ds : List (Option Tmp)) (o : Oper) (a : Act) : Bool :=
  match o.guard with
  | none => true
  | some (k, b) => match ds.getD k none with
    | some s => boolOf (a.tmps.getD s undef) == some b
    | none => false
theorem met_wanted {l : List Oper} {a : Act} (o : Oper) : Region.wanted o (yielded l.toArray a.tmps) = met (l.map (·.dst)) o a := by
  unfold Region.wanted met
  rcases o.guard with _ | ⟨k, b⟩
  · rfl
  · have h1 : (l.map (·.dst)).getD k none = (l.toArray[k]?).bind (·.dst) := by
      rw [List.getD_eq_getElem?_getD, List.getElem?_map, List.getElem?_toArray]
      rcases l[k]? with _ | o' <;> rfl
    dsimp only
    rw [h1]
    unfold yielded
    rcases (l.toArray[k]?).bind (·.dst) with _ | s
    · rfl
    · show _ = (boolOf (a.tmps.getD s undef) == some b)
      rw [Array.getD_eq_getD_getElem?]
      simp only [Option.bind_some]
      rcases a.tmps[s]? with _ | v
      · rfl
      · cases v <;> rfl
/-- What one operation owes, by the slots of the others. -/
def Due (P : Program) (ds : List (Option Tmp)) (Q : Exit → Act → World → Prop) (F : Nat → Value → World → Prop) (G : World → Prop) (a0 : Act) (i : Nat) (o : Oper) : Prop :=
  ∀ a w, G w → (∀ s : Tmp, ds.contains (some s) = false → a.tmps.getD s undef = a0.tmps.getD s undef) →
    (∀ (j : Nat) (s : Tmp), (o.after.any fun e => e.on == j && Region.binds .any e) = true → ds.getD j none = some s → F j (a.tmps.getD s undef) w) →
    ∀ K : Act → World → Prop, (∀ v w', G w' → Below w.heap.size w w' → F i v w' → K (a.put o.dst v) w') →
    if met ds o a = true then Oper.wp P o a w K Q else K (a.put o.dst undef) w
/-- What all owe, from the k-th on. -/
def AllDue (P : Program) (ds : List (Option Tmp)) (Q : Exit → Act → World → Prop) (F : Nat → Value → World → Prop) (G : World → Prop) (a0 : Act) : Nat → List Oper → Prop
  | _, [] => True
  | k, o :: r => Due P ds Q F G a0 k o ∧ AllDue P ds Q F G a0 (k + 1) r
theorem AllDue.nil {ds : List (Option Tmp)} {k : Nat} : AllDue P ds Q F G a0 k [] := trivial
theorem AllDue.cons {ds : List (Option Tmp)} {k : Nat} {o : Oper} {r : List Oper} (h : Due P ds Q F G a0 k o) (hr : AllDue P ds Q F G a0 (k + 1) r) : AllDue P ds Q F G a0 k (o :: r) := ⟨h, hr⟩
theorem AllDue.at_ {ds : List (Option Tmp)} : ∀ {l : List Oper} {k i : Nat} {o : Oper}, AllDue P ds Q F G a0 k l → l[i]? = some o → Due P ds Q F G a0 (k + i) o
  | [], _, _, _, _, h => by simp at h
  | o' :: r, k, 0, o, h, ho => by
    simp at ho
    subst ho
    exact h.1
  | o' :: r, k, i + 1, o, h, ho => by
    have := AllDue.at_ (i := i) h.2 (by simpa using ho)
    rwa [show k + 1 + i = k + (i + 1) by omega] at this
/-- A region that draws its order, by facts of its slots: F i is said of the value of the i-th operation, G of the world. -/
theorem wp_region_due {l : List Oper} {id : Nat} {w0 : World} (hm : P.follows .mixedOrders = true) (ds : List (Option Tmp)) (F : Nat → Value → World → Prop) (G : World → Prop) (hds : ds = l.map (·.dst))
    (hasc : (List.range l.toArray.size).all (fun i => ((l.toArray[i]?).map fun o => o.after.all fun e => decide (e.on < i)).getD true) = true)
    (hdst : (List.range l.toArray.size).all (fun i => (List.range l.toArray.size).all fun j => decide (i = j) || ((l.toArray[i]?).bind (·.dst)).isNone || ((l.toArray[i]?).bind (·.dst)) != ((l.toArray[j]?).bind (·.dst))) = true)
    (hin : (List.range l.toArray.size).all (fun i => (((l.toArray[i]?).bind (·.dst)).map fun s => decide (s < a0.tmps.size)).getD true) = true)
    (mono : ∀ i v w w', F i v w → Below w.heap.size w w' → F i v w')
    (hG : G w0.drew)
    (step : AllDue P ds Q F G a0 0 l)
    (fin : ∀ a w, G w → a.defers = a0.defers → a.tmps.size = a0.tmps.size → (∀ s : Tmp, ds.contains (some s) = false → a.tmps.getD s undef = a0.tmps.getD s undef) → (∀ (i : Nat) (s : Tmp), ds.getD i none = some s → F i (a.tmps.getD s undef) w) → Q .normal a w) :
    (Code.region id l.toArray true).wp P Q a0 w0 := by
  have atd : ∀ {j : Nat} {o : Oper}, l.toArray[j]? = some o → ds.getD j none = o.dst := fun {j o} h => by
    rw [List.getElem?_toArray] at h
    rw [hds, List.getD_eq_getElem?_getD, List.getElem?_map, h]
    rfl
  have old' : ∀ {a : Act}, (∀ s : Tmp, (∀ (i : Nat) (o : Oper), l.toArray[i]? = some o → o.dst ≠ some s) → a.tmps.getD s undef = a0.tmps.getD s undef) → ∀ s : Tmp, ds.contains (some s) = false → a.tmps.getD s undef = a0.tmps.getD s undef := fun {a} h s hs => h s fun i o ho hd => by
    have : some s ∈ ds := by
      rw [hds]
      exact List.mem_map.2 ⟨o, List.mem_of_getElem? (by rw [← List.getElem?_toArray]; exact ho), hd⟩
    rw [List.contains_iff_mem.2 this] at hs
    cases hs
  refine wp_region_facts hm F G hasc hdst hin mono hG (fun i o ho => ?_) (fun a w h1 h2 h3 h4 h5 => fin a w h1 h2 h3 (old' h4) fun i s hs => ?_)
  · intro a w hGw hold hf K hK
    rw [met_wanted, ← hds]
    have hd := step.at_ (i := i) (by rw [← List.getElem?_toArray]; exact ho)
    rw [Nat.zero_add] at hd
    refine hd a w hGw (old' hold) (fun j s hj hs => ?_) K hK
    rcases h : l.toArray[j]? with _ | o'
    · rw [hds, List.getD_eq_getElem?_getD, List.getElem?_map] at hs
      rw [List.getElem?_toArray] at h
      rw [h] at hs
      cases hs
    · exact hf j o' s hj h (by rw [← atd h]; exact hs)
  · rcases h : l.toArray[i]? with _ | o'
    · rw [hds, List.getD_eq_getElem?_getD, List.getElem?_map] at hs
      rw [List.getElem?_toArray] at h
      rw [h] at hs
      cases hs
    · exact h5 i o' s h (by rw [← atd h]; exact hs)
/-- An operation without a guard, or with one that is met. -/
theorem due_met {ds : List (Option Tmp)} {i : Nat} {o : Oper}
    (hg : o.guard = none ∨ ∃ k b s, o.guard = some (k, b) ∧ ds.getD k none = some s ∧ (o.after.any fun e => e.on == k && Region.binds .any e) = true ∧ ∀ v w, F k v w → v = .bool b)
    (h : ∀ a w, G w → (∀ s : Tmp, ds.contains (some s) = false → a.tmps.getD s undef = a0.tmps.getD s undef) →
      (∀ (j : Nat) (s : Tmp), (o.after.any fun e => e.on == j && Region.binds .any e) = true → ds.getD j none = some s → F j (a.tmps.getD s undef) w) →
      ∀ K : Act → World → Prop, (∀ v w', G w' → Below w.heap.size w w' → F i v w' → K (a.put o.dst v) w') → Oper.wp P o a w K Q) : Due P ds Q F G a0 i o := by
  intro a w hG hold hf K hK
  have hm : met ds o a = true := by
    unfold met
    rcases hg with hg | ⟨k, b, s, hg, hs, ha, hv⟩
    · rw [hg]
    · rw [hg]
      have := hv _ _ (hf k s ha hs)
      simp only [hs, this, boolOf, beq_self_eq_true]
  rw [if_pos hm]
  exact h a w hG hold hf K hK
/-- An operation whose guard is not met. -/
theorem due_not {ds : List (Option Tmp)} {i k : Nat} {o : Oper} {b : Bool} {s : Tmp} (hg : o.guard = some (k, b)) (hs : ds.getD k none = some s) (ha : (o.after.any fun e => e.on == k && Region.binds .any e) = true) (hv : ∀ v w, F k v w → v = .bool (!b)) (hu : ∀ w, F i undef w) : Due P ds Q F G a0 i o := by
  intro a w hG hold hf K hK
  have hm : met ds o a = false := by
    unfold met
    rw [hg]
    have := hv _ _ (hf k s ha hs)
    simp only [hs, this, boolOf]
    cases b <;> rfl
  rw [hm, if_neg (by decide)]
  exact hK _ _ hG (Below.refl _ _) (hu w)
end
end Go.Proofs.YtloghkiabgnpnaaDoor
