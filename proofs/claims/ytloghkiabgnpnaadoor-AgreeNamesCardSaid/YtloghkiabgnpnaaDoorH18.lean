/-
  Carried over and put together: contracts of this program's functions, and plain facts. No statement is proved in this text.
-/
import Derived.Test.YtloghkiabgnpnaaDoorH16
import Derived.Test.YtloghkiabgnpnaaDoorH17
namespace Go.Proofs.YtloghkiabgnpnaaDoor
open Go Go.RowKit
theorem u8s_lit (w : World) (l : List Int) : U8s (w.alloc (.cells (l.map fun n => .int .u8 n).toArray 5)) (.slice (some ⟨w.heap.size, 0, none⟩) l.length l.length) l := rcs_lit encU_len w l _ 5 (by
  induction l with
  | nil => rfl
  | cons x l ih => simp [flatR, encU] at ih ⊢; exact ih)
theorem nums_lit (w : World) (l : List Int) : Nums (w.alloc (.cells (l.map fun n => .int .i64 n).toArray 3)) (.slice (some ⟨w.heap.size, 0, none⟩) l.length l.length) l := rcs_lit encN_len w l _ 3 (by
  induction l with
  | nil => rfl
  | cons x l ih => simp [flatR, encN] at ih ⊢; exact ih)
theorem Tabs.kp {w w' : World} (h : Tabs w) (hk : Kp w w') : Tabs w' := by
  obtain ⟨⟨h0, h1, h2, h3, h4, h5⟩, hs⟩ := h
  have hh : ∀ (i : Nat) u, w.cell? ⟨0, i, none⟩ = some u → w'.cell? ⟨0, i, none⟩ = some u := fun i u h => hk.2 ⟨0, 0, none⟩ ⟨0, i, none⟩ rfl ⟨_, _, h0⟩ u h
  exact ⟨⟨hh 0 _ h0, hh 1 _ h1, hh 2 _ h2, hh 3 _ h3, hh 4 _ h4, hh 5 _ h5⟩, Nat.lt_of_lt_of_le hs hk.1⟩
theorem kp_cell {w : World} {g : Nat} {a b c d e : SL} (h : VBox w g a b c d e) (i : Nat) (v : Value) : Kp w (w.setCell ⟨g, i, none⟩ v) := by
  refine ⟨by simp [World.setCell], fun x y hxy ⟨k, n, hc⟩ u hu => ?_⟩
  by_cases e : x.block = g
  · exfalso
    unfold VBox at h
    rw [← e] at h
    unfold World.cell? at hc
    rw [h] at hc
    simp at hc
    have hm := List.mem_of_getElem? hc.2
    simp at hm
  · have hne : y.block ≠ g := fun e2 => e (hxy.trans e2)
    have hh : (w.setCell ⟨g, i, none⟩ v).heap[y.block]? = w.heap[y.block]? := by
      simp [World.setCell, Array.getElem?_modify]
      intro e2
      exact absurd e2.symm hne
    rw [World.cell?_of_block hh]
    exact hu
theorem vbox_put0 {w : World} {g : Nat} {a b c d e : SL} (h : VBox w g a b c d e) (x : SL) : VBox (w.setCell ⟨g, 0, none⟩ (.slice x.1 x.2.1 x.2.2)) g x b c d e := by
  unfold VBox at *
  simp [World.setCell, Array.getElem?_modify, h]
theorem vbox_put2 {w : World} {g : Nat} {a b c d e : SL} (h : VBox w g a b c d e) (x : SL) : VBox (w.setCell ⟨g, 2, none⟩ (.slice x.1 x.2.1 x.2.2)) g a b x d e := by
  unfold VBox at *
  simp [World.setCell, Array.getElem?_modify, h]
theorem vbox_put4 {w : World} {g : Nat} {a b c d e : SL} (h : VBox w g a b c d e) (x : SL) : VBox (w.setCell ⟨g, 4, none⟩ (.slice x.1 x.2.1 x.2.2)) g a b c d x := by
  unfold VBox at *
  simp [World.setCell, Array.getElem?_modify, h]
theorem vbox_beside {w : World} {g x : Nat} {a b c d e : SL} (h : VBox w g a b c d e) (hx : g ≠ x) (i : Nat) (v : Value) : VBox (w.setCell ⟨x, i, none⟩ v) g a b c d e := by
  unfold VBox at *
  simp [World.setCell, Array.getElem?_modify, h]
  intro e2
  exact absurd e2.symm hx
/-- A list of rows that was just made, of one row. -/
theorem rows_one {w : World} {a i n : Int} {s : SL} {l : List Sets.Id2} (h : Ids w (.slice s.1 s.2.1 s.2.2) l) : RowsAt (w.alloc (.cells #[.int .i64 a, .int .i64 i, .int .i64 n, .slice s.1 s.2.1 s.2.2] 37)) (.slice (some ⟨w.heap.size, 0, none⟩) 1 1) [((a, i), n, l)] :=
  ⟨[((a, i), n, s.1, s.2.1, s.2.2)], rcs_lit encW_len w [((a, i), n, s.1, s.2.1, s.2.2)] _ 37 rfl, ⟨⟨rfl, rfl, h.below (below_one _ _)⟩, trivial⟩⟩
abbrev nl : SL := (none, 0, 0)
theorem below_put {b0 : Nat} {a w : World} {g : Nat} (h : Below b0 a w) (hg : b0 ≤ g) (i : Nat) (v : Value) : Below b0 a (w.setCell ⟨g, i, none⟩ v) := h.setCell hg _

set_option maxHeartbeats 8000000 in
theorem works_any (w : World) (ht : Tabs w) : Calls Tryd.prog 10 #[] w fun e w' => e = .returned (.bool true) ∧ Below w.heap.size w w' := by
  have HT := Lib.hid ht
  clear ht
  have HB := Lib.hid (Below.refl w.heap.size w)
  go_enter Tryd.func10, Tryd.ntmps10
  go_wp2_with fail
  have hq := below_one w (.cells #[.int .u8 3, .int .u8 3] 5)
  have F1 := Lib.hid (HT.out.below hq)
  clear HT
  have F2 := Lib.hid (below_after HB.out hq (Nat.le_refl _))
  clear HB
  clear hq
  have F3 := Lib.hid (show U8s (w.alloc (.cells #[.int .u8 3, .int .u8 3] 5)) (.slice (some ⟨w.heap.size, 0, none⟩) 2 2) [3, 3] from u8s_lit w [3, 3])
  (with_reducible refine (membersOf_any _ [3, 3] _ F3.out (by decide)).mono ?_)
  rintro e5 w4 ⟨v1, rfl, hm, hb⟩
  have F6 := Lib.hid (F1.out.below hb)
  clear F1
  have F7 := Lib.hid (below_after F2.out hb (Nat.le_refl _))
  clear F2
  have F8 := Lib.hid (F3.out.below hb)
  clear F3
  clear hb
  clear F8
  obtain ⟨a1, rfl⟩ := sl_rcs hm
  have F9 := Lib.hid (hm)
  clear hm
  go_wp2_with fail
  have hq := below_one w4 (.cells #[.int .i64 1, .int .i64 2] 3)
  have F10 := Lib.hid (F6.out.below hq)
  clear F6
  have F11 := Lib.hid (below_after F7.out hq (Nat.le_refl _))
  clear F7
  have F12 := Lib.hid (F9.out.below hq)
  clear F9
  clear hq
  have F13 := Lib.hid (show Nums (w4.alloc (.cells #[.int .i64 1, .int .i64 2] 3)) (.slice (some ⟨w4.heap.size, 0, none⟩) 2 2) [1, 2] from nums_lit w4 [1, 2])
  (with_reducible refine (allOf_any _ [1, 2] _ F13.out (by decide)).mono ?_)
  rintro e15 w14 ⟨v2, rfl, ho, hb⟩
  have F16 := Lib.hid (F10.out.below hb)
  clear F10
  have F17 := Lib.hid (below_after F11.out hb (Nat.le_refl _))
  clear F11
  have F18 := Lib.hid (F12.out.below hb)
  clear F12
  have F19 := Lib.hid (F13.out.below hb)
  clear F13
  clear hb
  clear F19
  have hi := ids_of_owns ho
  obtain ⟨e1, rfl⟩ := sl_ids hi
  have F20 := Lib.hid (hi)
  clear ho hi
  go_wp2_with fail
  have hsz := F17.out.size
  have hq := below_one w14 (.cells #[.slice a1.1 a1.2.1 a1.2.2, .slice none 0 0, .slice none 0 0, .slice none 0 0, .slice e1.1 e1.2.1 e1.2.2] 29)
  have F21 := Lib.hid (F16.out.below hq)
  clear F16
  have F22 := Lib.hid (below_after F17.out hq (Nat.le_refl _))
  clear F17
  have F23 := Lib.hid (F18.out.below hq)
  clear F18
  have F24 := Lib.hid (F20.out.below hq)
  clear F20
  clear hq
  have F25 := Lib.hid (show VBox (w14.alloc (.cells #[.slice a1.1 a1.2.1 a1.2.2, .slice none 0 0, .slice none 0 0, .slice none 0 0, .slice e1.1 e1.2.1 e1.2.2] 29)) w14.heap.size a1 nl nl nl e1 from vbox_new w14 a1 nl nl nl e1)
  obtain ⟨g1, hg1⟩ : ∃ g, g = w14.heap.size := ⟨_, rfl⟩
  rw [← hg1] at F25
  rw [← hg1]
  have hw1 : w.heap.size ≤ g1 := by omega
  clear hsz
  generalize w14.alloc (.cells #[.slice a1.1 a1.2.1 a1.2.2, .slice none 0 0, .slice none 0 0, .slice none 0 0, .slice e1.1 e1.2.1 e1.2.2] 29) = W1 at *
  clear hg1
  (with_reducible refine (tells_any _ (⟨membersOf [3, 3], [], [], [], allOf [1, 2]⟩ : Vw) true true 1 _ [] _ (vAt_of F23.out (Ids.nil _) (RowsAt.nil _) (Rcs.nil _) F24.out) ⟨by decide, by decide, by decide, by decide +kernel⟩ F21.out (Rcs.nil _) (by decide) ⟨by kernel_rfl, by kernel_rfl, by kernel_rfl, by kernel_rfl, by kernel_rfl⟩).mono ?_)
  rintro e27 w26 ⟨rfl, hb⟩
  have F28 := Lib.hid (F21.out.below hb)
  clear F21
  have F29 := Lib.hid (below_after F22.out hb (Nat.le_refl _))
  clear F22
  have F30 := Lib.hid (F23.out.below hb)
  clear F23
  have F31 := Lib.hid (F24.out.below hb)
  clear F24
  have F32 := Lib.hid (vbox_below F25.out hb)
  clear F25
  clear hb
  go_wp2_with fail
  (with_reducible refine (of_any 2 _).mono ?_)
  rintro e34 w33 ⟨rfl, hb⟩
  have F35 := Lib.hid (F28.out.below hb)
  clear F28
  have F36 := Lib.hid (below_after F29.out hb (Nat.le_refl _))
  clear F29
  have F37 := Lib.hid (F30.out.below hb)
  clear F30
  have F38 := Lib.hid (F31.out.below hb)
  clear F31
  have F39 := Lib.hid (vbox_below F32.out hb)
  clear F32
  clear hb
  go_wp2_with fail
  have hq := below_one w33 (.cells #[.int .i64 1] 3)
  have F40 := Lib.hid (F35.out.below hq)
  clear F35
  have F41 := Lib.hid (below_after F36.out hq (Nat.le_refl _))
  clear F36
  have F42 := Lib.hid (F37.out.below hq)
  clear F37
  have F43 := Lib.hid (F38.out.below hq)
  clear F38
  have F44 := Lib.hid (vbox_below F39.out hq)
  clear F39
  clear hq
  have F45 := Lib.hid (show Nums (w33.alloc (.cells #[.int .i64 1] 3)) (.slice (some ⟨w33.heap.size, 0, none⟩) 1 1) [1] from nums_lit w33 [1])
  (with_reducible refine (allOf_any _ [1] _ F45.out (by decide)).mono ?_)
  rintro e47 w46 ⟨v3, rfl, ho, hb⟩
  have F48 := Lib.hid (F40.out.below hb)
  clear F40
  have F49 := Lib.hid (below_after F41.out hb (Nat.le_refl _))
  clear F41
  have F50 := Lib.hid (F42.out.below hb)
  clear F42
  have F51 := Lib.hid (F43.out.below hb)
  clear F43
  have F52 := Lib.hid (vbox_below F44.out hb)
  clear F44
  have F53 := Lib.hid (F45.out.below hb)
  clear F45
  clear hb
  clear F53
  have hi := ids_of_owns ho
  obtain ⟨n1, rfl⟩ := sl_ids hi
  have F54 := Lib.hid (hi)
  clear ho hi
  have hsz := F49.out.size
  have hr := rows_one (a := 2) (i := 1) (n := 1) F54.out
  clear F54
  have hq := below_one w46 (.cells #[.int .i64 2, .int .i64 1, .int .i64 1, .slice n1.1 n1.2.1 n1.2.2] 37)
  have F55 := Lib.hid (F48.out.below hq)
  clear F48
  have F56 := Lib.hid (below_after F49.out hq (Nat.le_refl _))
  clear F49
  have F57 := Lib.hid (F50.out.below hq)
  clear F50
  have F58 := Lib.hid (F51.out.below hq)
  clear F51
  have F59 := Lib.hid (vbox_below F52.out hq)
  clear F52
  clear hq
  have F60 := Lib.hid (hr)
  clear hr
  obtain ⟨r1, hr1⟩ : ∃ r : SL, r = (some ⟨w46.heap.size, 0, none⟩, 1, 1) := ⟨_, rfl⟩
  have HR1 := Lib.hid (show (Value.slice (some ⟨w46.heap.size, 0, none⟩) 1 1) = .slice r1.1 r1.2.1 r1.2.2 by rw [hr1])
  have hr := F60.out
  clear F60
  rw [HR1.out] at hr
  have F61 := Lib.hid (hr)
  clear hr hr1
  obtain ⟨p0, p1, p2, p3, p4⟩ := vbox_cells F59.out
  obtain ⟨q0, q1, q2, q3, q4⟩ := vbox_free F59.out
  dsimp only [nl] at p0 p1 p2 p3 p4
  go_upto_region 5 with fail
  clear p0 p1 p2 p3 p4 q0 q1 q2 q3 q4
  rw [HR1.out]
  clear HR1
  have hk := kp_cell F59.out 2 (.slice r1.1 r1.2.1 r1.2.2)
  have F62 := Lib.hid (F55.out.kp hk)
  clear F55
  have F63 := Lib.hid (below_put F56.out hw1 2 (.slice r1.1 r1.2.1 r1.2.2))
  clear F56
  have F64 := Lib.hid (Ms.kp F57.out hk)
  clear F57
  have F65 := Lib.hid (F58.out.kp hk)
  clear F58
  have F66 := Lib.hid (vbox_put2 F59.out r1)
  clear F59
  have F67 := Lib.hid (F61.out.kp hk)
  clear F61
  clear hk
  generalize ((w46.alloc (.cells #[.int .i64 2, .int .i64 1, .int .i64 1, .slice n1.1 n1.2.1 n1.2.2] 37)).setCell ⟨g1, 2, none⟩ (.slice r1.1 r1.2.1 r1.2.2)) = W3 at *
  clear hsz
  have hsz := F63.out.size
  have hg12 : g1 < W3.heap.size := vbox_lt F66.out
  obtain ⟨p0, p1, p2, p3, p4⟩ := vbox_cells F66.out
  obtain ⟨q0, q1, q2, q3, q4⟩ := vbox_free F66.out
  dsimp only [nl] at p0 p1 p2 p3 p4
  go_upto_region 6 with fail
  clear p0 p1 p2 p3 p4 q0 q1 q2 q3 q4
  have hq := below_one W3 (.cells #[.slice a1.1 a1.2.1 a1.2.2, .slice none 0 0, .slice r1.1 r1.2.1 r1.2.2, .slice none 0 0, .slice e1.1 e1.2.1 e1.2.2] 29)
  have F68 := Lib.hid (F62.out.below hq)
  clear F62
  have F69 := Lib.hid (below_after F63.out hq (Nat.le_refl _))
  clear F63
  have F70 := Lib.hid (F64.out.below hq)
  clear F64
  have F71 := Lib.hid (F65.out.below hq)
  clear F65
  have F72 := Lib.hid (vbox_below F66.out hq)
  clear F66
  have F73 := Lib.hid (F67.out.below hq)
  clear F67
  clear hq
  have F74 := Lib.hid (show VBox (W3.alloc (.cells #[.slice a1.1 a1.2.1 a1.2.2, .slice none 0 0, .slice r1.1 r1.2.1 r1.2.2, .slice none 0 0, .slice e1.1 e1.2.1 e1.2.2] 29)) W3.heap.size a1 nl r1 nl e1 from vbox_new W3 a1 nl r1 nl e1)
  obtain ⟨g2, hg2⟩ : ∃ g, g = W3.heap.size := ⟨_, rfl⟩
  rw [← hg2] at F74
  rw [← hg2]
  have hw2 : w.heap.size ≤ g2 := by omega
  have hne : g1 ≠ g2 := by omega
  clear hsz hg12
  generalize W3.alloc (.cells #[.slice a1.1 a1.2.1 a1.2.2, .slice none 0 0, .slice r1.1 r1.2.1 r1.2.2, .slice none 0 0, .slice e1.1 e1.2.1 e1.2.2] 29) = W4 at *
  clear hg2
  go_wp2_with fail
  have hq := below_one W4 (.cells #[.int .u8 3, .int .u8 6] 5)
  have F75 := Lib.hid (F68.out.below hq)
  clear F68
  have F76 := Lib.hid (below_after F69.out hq (Nat.le_refl _))
  clear F69
  have F77 := Lib.hid (F70.out.below hq)
  clear F70
  have F78 := Lib.hid (F71.out.below hq)
  clear F71
  have F79 := Lib.hid (vbox_below F72.out hq)
  clear F72
  have F80 := Lib.hid (F73.out.below hq)
  clear F73
  have F81 := Lib.hid (vbox_below F74.out hq)
  clear F74
  clear hq
  have F82 := Lib.hid (show U8s (W4.alloc (.cells #[.int .u8 3, .int .u8 6] 5)) (.slice (some ⟨W4.heap.size, 0, none⟩) 2 2) [3, 6] from u8s_lit W4 [3, 6])
  (with_reducible refine (membersOf_any _ [3, 6] _ F82.out (by decide)).mono ?_)
  rintro e84 w83 ⟨v4, rfl, hm, hb⟩
  have F85 := Lib.hid (F75.out.below hb)
  clear F75
  have F86 := Lib.hid (below_after F76.out hb (Nat.le_refl _))
  clear F76
  have F87 := Lib.hid (F77.out.below hb)
  clear F77
  have F88 := Lib.hid (F78.out.below hb)
  clear F78
  have F89 := Lib.hid (vbox_below F79.out hb)
  clear F79
  have F90 := Lib.hid (F80.out.below hb)
  clear F80
  have F91 := Lib.hid (vbox_below F81.out hb)
  clear F81
  have F92 := Lib.hid (F82.out.below hb)
  clear F82
  clear hb
  clear F92
  obtain ⟨a2, rfl⟩ := sl_rcs hm
  have F93 := Lib.hid (hm)
  clear hm
  obtain ⟨p0, p1, p2, p3, p4⟩ := vbox_cells F91.out
  obtain ⟨q0, q1, q2, q3, q4⟩ := vbox_free F91.out
  dsimp only [nl] at p0 p1 p2 p3 p4
  go_upto_region 7 with fail
  clear p0 p1 p2 p3 p4 q0 q1 q2 q3 q4
  have hk := kp_cell F91.out 0 (.slice a2.1 a2.2.1 a2.2.2)
  have F94 := Lib.hid (F85.out.kp hk)
  clear F85
  have F95 := Lib.hid (below_put F86.out hw2 0 (.slice a2.1 a2.2.1 a2.2.2))
  clear F86
  have F96 := Lib.hid (Ms.kp F87.out hk)
  clear F87
  have F97 := Lib.hid (F88.out.kp hk)
  clear F88
  have F98 := Lib.hid (vbox_beside F89.out hne 0 (.slice a2.1 a2.2.1 a2.2.2))
  clear F89
  have F99 := Lib.hid (F90.out.kp hk)
  clear F90
  have F100 := Lib.hid (vbox_put0 F91.out a2)
  clear F91
  have F101 := Lib.hid (Ms.kp F93.out hk)
  clear F93
  clear hk
  generalize w83.setCell ⟨g2, 0, none⟩ (.slice a2.1 a2.2.1 a2.2.2) = W5 at *
  have HQ := Lib.hid fun w' (hb : Below W5.heap.size W5 w') => (show (w'.cell? ⟨g1, 0, none⟩ = some (.slice a1.1 a1.2.1 a1.2.2) ∧ w'.cell? ⟨g1, 1, none⟩ = some (.slice none 0 0) ∧ w'.cell? ⟨g1, 2, none⟩ = some (.slice r1.1 r1.2.1 r1.2.2) ∧ w'.cell? ⟨g1, 3, none⟩ = some (.slice none 0 0) ∧ w'.cell? ⟨g1, 4, none⟩ = some (.slice e1.1 e1.2.1 e1.2.2)) ∧ (w'.cell? ⟨g2, 0, none⟩ = some (.slice a2.1 a2.2.1 a2.2.2) ∧ w'.cell? ⟨g2, 1, none⟩ = some (.slice none 0 0) ∧ w'.cell? ⟨g2, 2, none⟩ = some (.slice r1.1 r1.2.1 r1.2.2) ∧ w'.cell? ⟨g2, 3, none⟩ = some (.slice none 0 0) ∧ w'.cell? ⟨g2, 4, none⟩ = some (.slice e1.1 e1.2.1 e1.2.2)) ∧ Hid (Below W5.heap.size W5 w') from ⟨vbox_cells (vbox_below F98.out hb), vbox_cells (vbox_below F100.out hb), Lib.hid hb⟩)
  have HA := Lib.hid fun u W (hb : Below W5.heap.size W5 W) (hn : Nums W u [1]) => tells_any _ (⟨membersOf [3, 3], [], [((2, 1), 1, allOf [1])], [], allOf [1, 2]⟩ : Vw) false true 2 u [1] W (vAt_of (F96.out.below hb) (Ids.nil _) (F99.out.below hb) (Rcs.nil _) (F97.out.below hb)) ⟨by decide, by decide, by decide, by decide +kernel⟩ (F94.out.below hb) hn (by decide) ⟨by kernel_rfl, by kernel_rfl, by kernel_rfl, by kernel_rfl, by kernel_rfl⟩
  have HC2 := Lib.hid fun W => of_any 1 W
  have HRB : Hid (Agr.reachedB (membersOf [3, 6]) [((2, 1), 1, allOf [1])] (1, 1) = true) := Lib.hid (by kernel_rfl)
  have HC := Lib.hid fun W (hb : Below W5.heap.size W5 W) => reached_any _ (⟨membersOf [3, 6], [], [((2, 1), 1, allOf [1])], [], allOf [1, 2]⟩ : Vw) 1 1 W (vAt_of (F101.out.below hb) (Ids.nil _) (F99.out.below hb) (Rcs.nil _) (F97.out.below hb)) ⟨by decide, by decide, by decide, by decide +kernel⟩
  have HD := Lib.hid fun W (hb : Below W5.heap.size W5 W) => tells_any _ (⟨membersOf [3, 6], [], [((2, 1), 1, allOf [1])], [], allOf [1, 2]⟩ : Vw) true true 1 _ [] W (vAt_of (F101.out.below hb) (Ids.nil _) (F99.out.below hb) (Rcs.nil _) (F97.out.below hb)) ⟨by decide, by decide, by decide, by decide +kernel⟩ (F94.out.below hb) (Rcs.nil _) (by decide) ⟨by kernel_rfl, by kernel_rfl, by kernel_rfl, by kernel_rfl, by kernel_rfl⟩
  have HN0 := Lib.hid (show Nums (W5.alloc (.cells #[.int .i64 1] 3)) (.slice (some ⟨W5.heap.size, 0, none⟩) 1 1) [1] from nums_lit W5 [1])
  have HB0 := Lib.hid (below_one W5 (.cells #[.int .i64 1] 3))
  go_region_held3 (fun w' => (w'.cell? ⟨g1, 0, none⟩ = some (.slice a1.1 a1.2.1 a1.2.2) ∧ w'.cell? ⟨g1, 1, none⟩ = some (.slice none 0 0) ∧ w'.cell? ⟨g1, 2, none⟩ = some (.slice r1.1 r1.2.1 r1.2.2) ∧ w'.cell? ⟨g1, 3, none⟩ = some (.slice none 0 0) ∧ w'.cell? ⟨g1, 4, none⟩ = some (.slice e1.1 e1.2.1 e1.2.2)) ∧ (w'.cell? ⟨g2, 0, none⟩ = some (.slice a2.1 a2.2.1 a2.2.2) ∧ w'.cell? ⟨g2, 1, none⟩ = some (.slice none 0 0) ∧ w'.cell? ⟨g2, 2, none⟩ = some (.slice r1.1 r1.2.1 r1.2.2) ∧ w'.cell? ⟨g2, 3, none⟩ = some (.slice none 0 0) ∧ w'.cell? ⟨g2, 4, none⟩ = some (.slice e1.1 e1.2.1 e1.2.2)) ∧ Hid (Below W5.heap.size W5 w'))
    (first | exact HQ.out _ (Below.refl _ _).drew | exact HQ.out _ HK4.out | exact HQ.out _ HK3.out | exact HQ.out _ HK2.out | exact HQ.out _ HK1.out | exact HQ.out _ HB0.out | exact HQ.out _ HB0.out.drew)
    (first | (go_at_call 11; (with_reducible refine (HA.out _ _ (by first | exact HB0.out | exact HB0.out.drew) (by first | exact HN0.out | exact HN0.out.below (Below.refl _ _).drew)).mono ?_); rintro e wk ⟨rfl, hb⟩; have HK1 := Lib.hid (below_after (by first | exact HB0.out | exact HB0.out.drew) hb (Nat.le_refl _)); clear hb) | (go_at_call 13; (with_reducible refine (HC2.out _).mono ?_); rintro e wk ⟨rfl, hb⟩; have HK2 := Lib.hid (below_after HK1.out hb (Nat.le_refl _)); clear hb) | (go_at_call 12; (with_reducible refine (HC.out _ HK2.out).mono ?_); rw [HRB.out]; rintro e wk ⟨rfl, hb⟩; have HK3 := Lib.hid (below_after HK2.out hb (Nat.le_refl _)); clear hb) | (go_at_call 11; (with_reducible refine (HD.out _ HK3.out).mono ?_); rintro e wk ⟨rfl, hb⟩; have HK4 := Lib.hid (below_after HK3.out hb (Nat.le_refl _)); clear hb))
  go_wp2_with fail
  go_ret
  exact ⟨rfl, below_after F95.out HK4.out (Nat.le_refl _)⟩
end Go.Proofs.YtloghkiabgnpnaaDoor
