/-
  The examples, walked. No statement is proved in this text.
-/
import Derived.Test.YtciolhpkhblnbaaLaws
import Derived.Test.YtciolhpkhblnbaaFinds
import Derived.Test.YtciolhpkhblnbaaOpen
namespace Go.Proofs.Ytciolhpkhblnbaa
open Go Go.RowKit Ros
theorem ids_lit (W : World) (l : List Id2) : Ids (W.alloc (.cells (flatR encI l).toArray 30)) (.slice (some ⟨W.heap.size, 0, none⟩) l.length l.length) l := ids_rcs (rcs_lit encI_len W l _ 30 (by simp))
/-- Two lists that may not be. -/
def Bad (W : World) (p : Value × Value) : Prop := ∃ A n c B m d, ∃ L : Ls, p = (.slice A n c, .slice B m d) ∧ Ms W (.slice A n c) L.1 ∧ Ids W (.slice B m d) L.2 ∧ mayB L.1 L.2 = false ∧ LenOk L
theorem Bad.below {W W' : World} {p : Value × Value} (h : Bad W p) (hb : Below W.heap.size W W') : Bad W' p := by
  obtain ⟨A, n, c, B, m, d, L, rfl, h1, h2, h3, h4⟩ := h
  exact ⟨A, n, c, B, m, d, L, rfl, h1.below hb, h2.below hb, h3, h4⟩
set_option maxHeartbeats 16000000 in
set_option maxRecDepth 100000 in
theorem rosterNames_any (w : World) : Calls Try.prog 3 #[] w fun e w' => e = .returned (.bool true) ∧ Below w.heap.size w w' := by
  go_enter Try.func3, Try.ntmps3
  go_wp2_with fail
  refine (works_any _).mono ?_
  rintro e w1 ⟨rfl, hb⟩
  have B1 := Lib.hid hb
  clear hb
  go_wp2_with fail
  (with_reducible refine (one_any _ _ _ _ _).mono ?_)
  rintro e w2 ⟨rfl, hb⟩
  have B3 := Lib.hid (below_after B1.out hb (Nat.le_refl _))
  clear B1 hb
  have hq := below_one w2 (.cells #[.int .i64 1, .int .i64 3, .int .u8 7, .int .i64 9] 32)
  have B4 := Lib.hid (below_after B3.out hq (Nat.le_refl _))
  clear B3
  clear hq
  have F5 : Hid (Ms (w2.alloc (.cells #[.int .i64 1, .int .i64 3, .int .u8 7, .int .i64 9] 32)) (.slice (some ⟨w2.heap.size, 0, none⟩) 1 1) [((1, 3), 7, 9)]) := Lib.hid (ms_lit _ [((1, 3), 7, 9)])
  go_wp2_with fail
  (with_reducible refine (of_any _ [((1, 3), 7, 9)] _ F5.out).mono ?_)
  rintro e w6 ⟨V22, rfl, hi, hb⟩
  have F7 := Lib.hid (F5.out.below hb)
  clear F5
  have B8 := Lib.hid (below_after B4.out hb (Nat.le_refl _))
  clear B4 hb
  have F9 := Lib.hid hi
  clear hi
  go_wp2_with fail
  (with_reducible refine (one_any _ _ _ _ _).mono ?_)
  rintro e w10 ⟨rfl, hb⟩
  clear F7
  have F11 := Lib.hid (F9.out.below hb)
  clear F9
  have B12 := Lib.hid (below_after B8.out hb (Nat.le_refl _))
  clear B8 hb
  go_wp2_with fail
  (with_reducible refine (one_any _ _ _ _ _).mono ?_)
  rintro e w13 ⟨rfl, hb⟩
  have F14 := Lib.hid (F11.out.below hb)
  clear F11
  have B15 := Lib.hid (below_after B12.out hb (Nat.le_refl _))
  clear B12 hb
  have hq := below_one w13 (.cells #[.int .i64 1, .int .i64 2, .int .u8 3, .int .i64 1, .int .i64 1, .int .i64 4, .int .u8 2, .int .i64 0] 32)
  have F16 := Lib.hid (F14.out.below hq)
  clear F14
  have B17 := Lib.hid (below_after B15.out hq (Nat.le_refl _))
  clear B15
  clear hq
  have F18 : Hid (Ms (w13.alloc (.cells #[.int .i64 1, .int .i64 2, .int .u8 3, .int .i64 1, .int .i64 1, .int .i64 4, .int .u8 2, .int .i64 0] 32)) (.slice (some ⟨w13.heap.size, 0, none⟩) 2 2) [((1, 2), 3, 1), ((1, 4), 2, 0)]) := Lib.hid (ms_lit _ [((1, 2), 3, 1), ((1, 4), 2, 0)])
  go_wp2_with fail
  (with_reducible refine (of_any _ [((1, 2), 3, 1), ((1, 4), 2, 0)] _ F18.out).mono ?_)
  rintro e w19 ⟨V26, rfl, hi, hb⟩
  have F20 := Lib.hid (F16.out.below hb)
  clear F16
  have F21 := Lib.hid (F18.out.below hb)
  clear F18
  have B22 := Lib.hid (below_after B17.out hb (Nat.le_refl _))
  clear B17 hb
  have F23 := Lib.hid hi
  clear hi
  go_wp2_with fail
  (with_reducible refine (one_any _ _ _ _ _).mono ?_)
  rintro e w24 ⟨rfl, hb⟩
  have F25 := Lib.hid (F20.out.below hb)
  clear F20
  clear F21
  have F26 := Lib.hid (F23.out.below hb)
  clear F23
  have B27 := Lib.hid (below_after B22.out hb (Nat.le_refl _))
  clear B22 hb
  have hq := below_one w24 (.cells #[.int .i64 1, .int .i64 4, .int .u8 2, .int .i64 0] 32)
  have F28 := Lib.hid (F25.out.below hq)
  clear F25
  have F29 := Lib.hid (F26.out.below hq)
  clear F26
  have B30 := Lib.hid (below_after B27.out hq (Nat.le_refl _))
  clear B27
  clear hq
  have F31 : Hid (Ms (w24.alloc (.cells #[.int .i64 1, .int .i64 4, .int .u8 2, .int .i64 0] 32)) (.slice (some ⟨w24.heap.size, 0, none⟩) 1 1) [((1, 4), 2, 0)]) := Lib.hid (ms_lit _ [((1, 4), 2, 0)])
  go_wp2_with fail
  (with_reducible refine (low_any _ _ _).mono ?_)
  rintro e w32 ⟨V29, rfl, hi, hb⟩
  have F33 := Lib.hid (F28.out.below hb)
  clear F28
  have F34 := Lib.hid (F29.out.below hb)
  clear F29
  have F35 := Lib.hid (F31.out.below hb)
  clear F31
  have B36 := Lib.hid (below_after B30.out hb (Nat.le_refl _))
  clear B30 hb
  obtain ⟨A29, c29, rfl⟩ : ∃ A c, V29 = .slice A 1 c := by obtain ⟨A, c, h, _⟩ := id hi; exact ⟨A, c, h⟩
  have F37 := Lib.hid hi
  clear hi
  have F38 : Hid (LsAt w32 (.agg #[(.slice (some ⟨w24.heap.size, 0, none⟩) 1 1), (.slice A29 1 c29)]) ([((1, 4), 2, 0)], [(1, 3)])) := Lib.hid (lsAt_of F35.out F37.out)
  go_wp2_with fail
  (with_reducible refine (says_yes _ _ _ ([((1, 3), 7, 9)], []) ([((1, 2), 3, 1), ((1, 4), 2, 0)], []) ([((1, 4), 2, 0)], [(1, 3)]) _ F33.out F34.out F38.out (by decide) (by decide) (by decide +kernel) (by decide) (by decide +kernel)).mono ?_)
  rintro e w40 ⟨rfl, hb⟩
  have F41 := Lib.hid (F33.out.below hb)
  clear F33
  have F42 := Lib.hid (F34.out.below hb)
  clear F34
  clear F35
  clear F37
  have F43 := Lib.hid (F38.out.below hb)
  clear F38
  have B44 := Lib.hid (below_after B36.out hb (Nat.le_refl _))
  clear B36 hb
  go_wp2_with fail
  (with_reducible refine (one_any _ _ _ _ _).mono ?_)
  rintro e w45 ⟨rfl, hb⟩
  clear F41
  clear F42
  clear F43
  have B46 := Lib.hid (below_after B44.out hb (Nat.le_refl _))
  clear B44 hb
  go_wp2_with fail
  (with_reducible refine (one_any _ _ _ _ _).mono ?_)
  rintro e w47 ⟨rfl, hb⟩
  have B48 := Lib.hid (below_after B46.out hb (Nat.le_refl _))
  clear B46 hb
  go_wp2_with fail
  (with_reducible refine (one_any _ _ _ _ _).mono ?_)
  rintro e w49 ⟨rfl, hb⟩
  have B50 := Lib.hid (below_after B48.out hb (Nat.le_refl _))
  clear B48 hb
  go_wp2_with fail
  (with_reducible refine (one_any _ _ _ _ _).mono ?_)
  rintro e w51 ⟨rfl, hb⟩
  have B52 := Lib.hid (below_after B50.out hb (Nat.le_refl _))
  clear B50 hb
  have hq := below_one w51 (.cells #[.int .i64 13, .int .i64 1, .int .u8 3, .int .i64 1, .int .i64 1, .int .i64 0, .int .u8 3, .int .i64 1, .int .i64 1, .int .i64 1, .int .u8 0, .int .i64 5, .int .i64 1, .int .i64 1, .int .u8 8, .int .i64 5] 32)
  have B53 := Lib.hid (below_after B52.out hq (Nat.le_refl _))
  clear B52
  clear hq
  have F54 : Hid (Ms (w51.alloc (.cells #[.int .i64 13, .int .i64 1, .int .u8 3, .int .i64 1, .int .i64 1, .int .i64 0, .int .u8 3, .int .i64 1, .int .i64 1, .int .i64 1, .int .u8 0, .int .i64 5, .int .i64 1, .int .i64 1, .int .u8 8, .int .i64 5] 32)) (.slice (some ⟨w51.heap.size, 0, none⟩) 4 4) [((13, 1), 3, 1), ((1, 0), 3, 1), ((1, 1), 0, 5), ((1, 1), 8, 5)]) := Lib.hid (ms_lit _ [((13, 1), 3, 1), ((1, 0), 3, 1), ((1, 1), 0, 5), ((1, 1), 8, 5)])
  go_wp2_with fail
  (with_reducible refine (of_any _ [((13, 1), 3, 1), ((1, 0), 3, 1), ((1, 1), 0, 5), ((1, 1), 8, 5)] _ F54.out).mono ?_)
  rintro e w55 ⟨V39, rfl, hi, hb⟩
  have F56 := Lib.hid (F54.out.below hb)
  clear F54
  have B57 := Lib.hid (below_after B53.out hb (Nat.le_refl _))
  clear B53 hb
  have F58 := Lib.hid hi
  clear hi
  have hq := below_one w55 (.cells #[.int .i64 13, .int .i64 2, .int .i64 3, .int .i64 0] 30)
  clear F56
  have F59 := Lib.hid (F58.out.below hq)
  clear F58
  have B60 := Lib.hid (below_after B57.out hq (Nat.le_refl _))
  clear B57
  clear hq
  have F61 : Hid (Ids (w55.alloc (.cells #[.int .i64 13, .int .i64 2, .int .i64 3, .int .i64 0] 30)) (.slice (some ⟨w55.heap.size, 0, none⟩) 2 2) [(13, 2), (3, 0)]) := Lib.hid (ids_lit _ [(13, 2), (3, 0)])
  have F62 : Hid (LsAt (w55.alloc (.cells #[.int .i64 13, .int .i64 2, .int .i64 3, .int .i64 0] 30)) (.agg #[(.slice none 0 0), (.slice (some ⟨w55.heap.size, 0, none⟩) 2 2)]) ([], [(13, 2), (3, 0)])) := Lib.hid (lsAt_of (Rcs.nil _) F61.out)
  have F63 : Hid (LsAt (w55.alloc (.cells #[.int .i64 13, .int .i64 2, .int .i64 3, .int .i64 0] 30)) (.agg #[(.slice none 0 0), (.slice none 0 0)]) ([], [])) := Lib.hid (lsAt_of (Rcs.nil _) (Ids.nil _))
  go_wp2_with fail
  (with_reducible refine (says_yes _ _ _ ([((13, 1), 3, 1), ((1, 0), 3, 1), ((1, 1), 0, 5), ((1, 1), 8, 5)], []) ([], [(13, 2), (3, 0)]) ([], []) _ F59.out F62.out F63.out (by decide) (by decide) (by decide +kernel) (by decide) (by decide +kernel)).mono ?_)
  rintro e w65 ⟨rfl, hb⟩
  have F66 := Lib.hid (F59.out.below hb)
  clear F59
  clear F61
  have F67 := Lib.hid (F62.out.below hb)
  clear F62
  have F68 := Lib.hid (F63.out.below hb)
  clear F63
  have B69 := Lib.hid (below_after B60.out hb (Nat.le_refl _))
  clear B60 hb
  go_wp2_with fail
  (with_reducible refine (one_any _ _ _ _ _).mono ?_)
  rintro e w70 ⟨rfl, hb⟩
  clear F66
  clear F67
  clear F68
  have B71 := Lib.hid (below_after B69.out hb (Nat.le_refl _))
  clear B69 hb
  go_wp2_with fail
  (with_reducible refine (one_any _ _ _ _ _).mono ?_)
  rintro e w72 ⟨rfl, hb⟩
  have B73 := Lib.hid (below_after B71.out hb (Nat.le_refl _))
  clear B71 hb
  go_wp2_with fail
  (with_reducible refine (one_any _ _ _ _ _).mono ?_)
  rintro e w74 ⟨rfl, hb⟩
  have B75 := Lib.hid (below_after B73.out hb (Nat.le_refl _))
  clear B73 hb
  have hq := below_one w74 (.cells #[.int .i64 2, .int .i64 1, .int .u8 3, .int .i64 4, .int .i64 1, .int .i64 1, .int .u8 4, .int .i64 (-3), .int .i64 1, .int .i64 1, .int .u8 3, .int .i64 7] 32)
  have B76 := Lib.hid (below_after B75.out hq (Nat.le_refl _))
  clear B75
  clear hq
  have F77 : Hid (Ms (w74.alloc (.cells #[.int .i64 2, .int .i64 1, .int .u8 3, .int .i64 4, .int .i64 1, .int .i64 1, .int .u8 4, .int .i64 (-3), .int .i64 1, .int .i64 1, .int .u8 3, .int .i64 7] 32)) (.slice (some ⟨w74.heap.size, 0, none⟩) 3 3) [((2, 1), 3, 4), ((1, 1), 4, (-3)), ((1, 1), 3, 7)]) := Lib.hid (ms_lit _ [((2, 1), 3, 4), ((1, 1), 4, (-3)), ((1, 1), 3, 7)])
  go_wp2_with fail
  (with_reducible refine (of_any _ [((2, 1), 3, 4), ((1, 1), 4, (-3)), ((1, 1), 3, 7)] _ F77.out).mono ?_)
  rintro e w78 ⟨V53, rfl, hi, hb⟩
  have F79 := Lib.hid (F77.out.below hb)
  clear F77
  have B80 := Lib.hid (below_after B76.out hb (Nat.le_refl _))
  clear B76 hb
  have F81 := Lib.hid hi
  clear hi
  have hq := below_one w78 (.cells #[.int .i64 2, .int .i64 1, .int .i64 2, .int .i64 5] 30)
  clear F79
  have F82 := Lib.hid (F81.out.below hq)
  clear F81
  have B83 := Lib.hid (below_after B80.out hq (Nat.le_refl _))
  clear B80
  clear hq
  have F84 : Hid (Ids (w78.alloc (.cells #[.int .i64 2, .int .i64 1, .int .i64 2, .int .i64 5] 30)) (.slice (some ⟨w78.heap.size, 0, none⟩) 2 2) [(2, 1), (2, 5)]) := Lib.hid (ids_lit _ [(2, 1), (2, 5)])
  have F85 : Hid (LsAt (w78.alloc (.cells #[.int .i64 2, .int .i64 1, .int .i64 2, .int .i64 5] 30)) (.agg #[(.slice none 0 0), (.slice (some ⟨w78.heap.size, 0, none⟩) 2 2)]) ([], [(2, 1), (2, 5)])) := Lib.hid (lsAt_of (Rcs.nil _) F84.out)
  go_wp2_with fail
  (with_reducible refine (one_any _ _ _ _ _).mono ?_)
  rintro e w86 ⟨rfl, hb⟩
  have F87 := Lib.hid (F82.out.below hb)
  clear F82
  clear F84
  have F88 := Lib.hid (F85.out.below hb)
  clear F85
  have B89 := Lib.hid (below_after B83.out hb (Nat.le_refl _))
  clear B83 hb
  have hq := below_one w86 (.cells #[.int .i64 1, .int .i64 1, .int .u8 4, .int .i64 7] 32)
  have F90 := Lib.hid (F87.out.below hq)
  clear F87
  have F91 := Lib.hid (F88.out.below hq)
  clear F88
  have B92 := Lib.hid (below_after B89.out hq (Nat.le_refl _))
  clear B89
  clear hq
  have F93 : Hid (Ms (w86.alloc (.cells #[.int .i64 1, .int .i64 1, .int .u8 4, .int .i64 7] 32)) (.slice (some ⟨w86.heap.size, 0, none⟩) 1 1) [((1, 1), 4, 7)]) := Lib.hid (ms_lit _ [((1, 1), 4, 7)])
  go_wp2_with fail
  (with_reducible refine (low_any _ _ _).mono ?_)
  rintro e w94 ⟨V60, rfl, hi, hb⟩
  have F95 := Lib.hid (F90.out.below hb)
  clear F90
  have F96 := Lib.hid (F91.out.below hb)
  clear F91
  have F97 := Lib.hid (F93.out.below hb)
  clear F93
  have B98 := Lib.hid (below_after B92.out hb (Nat.le_refl _))
  clear B92 hb
  obtain ⟨A60, c60, rfl⟩ : ∃ A c, V60 = .slice A 1 c := by obtain ⟨A, c, h, _⟩ := id hi; exact ⟨A, c, h⟩
  have F99 := Lib.hid hi
  clear hi
  have F100 : Hid (LsAt w94 (.agg #[(.slice (some ⟨w86.heap.size, 0, none⟩) 1 1), (.slice A60 1 c60)]) ([((1, 1), 4, 7)], [(2, 5)])) := Lib.hid (lsAt_of F97.out F99.out)
  go_wp2_with fail
  (with_reducible refine (says_yes _ _ _ ([((2, 1), 3, 4), ((1, 1), 4, (-3)), ((1, 1), 3, 7)], []) ([], [(2, 1), (2, 5)]) ([((1, 1), 4, 7)], [(2, 5)]) _ F95.out F96.out F100.out (by decide) (by decide) (by decide +kernel) (by decide) (by decide +kernel)).mono ?_)
  rintro e w102 ⟨rfl, hb⟩
  have F103 := Lib.hid (F95.out.below hb)
  clear F95
  have F104 := Lib.hid (F96.out.below hb)
  clear F96
  clear F97
  clear F99
  have F105 := Lib.hid (F100.out.below hb)
  clear F100
  have B106 := Lib.hid (below_after B98.out hb (Nat.le_refl _))
  clear B98 hb
  go_wp2_with fail
  (with_reducible refine (one_any _ _ _ _ _).mono ?_)
  rintro e w107 ⟨rfl, hb⟩
  clear F103
  clear F104
  clear F105
  have B108 := Lib.hid (below_after B106.out hb (Nat.le_refl _))
  clear B106 hb
  go_wp2_with fail
  (with_reducible refine (one_any _ _ _ _ _).mono ?_)
  rintro e w109 ⟨rfl, hb⟩
  have B110 := Lib.hid (below_after B108.out hb (Nat.le_refl _))
  clear B108 hb
  go_wp2_with fail
  (with_reducible refine (one_any _ _ _ _ _).mono ?_)
  rintro e w111 ⟨rfl, hb⟩
  have B112 := Lib.hid (below_after B110.out hb (Nat.le_refl _))
  clear B110 hb
  go_wp2_with fail
  (with_reducible refine (one_any _ _ _ _ _).mono ?_)
  rintro e w113 ⟨rfl, hb⟩
  have B114 := Lib.hid (below_after B112.out hb (Nat.le_refl _))
  clear B112 hb
  go_wp2_with fail
  (with_reducible refine (one_any _ _ _ _ _).mono ?_)
  rintro e w115 ⟨rfl, hb⟩
  have B116 := Lib.hid (below_after B114.out hb (Nat.le_refl _))
  clear B114 hb
  go_wp2_with fail
  (with_reducible refine (one_any _ _ _ _ _).mono ?_)
  rintro e w117 ⟨rfl, hb⟩
  have B118 := Lib.hid (below_after B116.out hb (Nat.le_refl _))
  clear B116 hb
  have hq := below_one w117 (.cells #[.int .i64 1, .int .i64 2, .int .u8 1, .int .i64 0, .int .i64 2, .int .i64 1, .int .u8 2, .int .i64 0, .int .i64 3, .int .i64 1, .int .u8 3, .int .i64 1, .int .i64 4, .int .i64 1, .int .u8 4, .int .i64 1099511627776, .int .i64 5, .int .i64 1, .int .u8 5, .int .i64 0, .int .i64 6, .int .i64 1, .int .u8 6, .int .i64 3] 32)
  have B119 := Lib.hid (below_after B118.out hq (Nat.le_refl _))
  clear B118
  clear hq
  have F120 : Hid (Ms (w117.alloc (.cells #[.int .i64 1, .int .i64 2, .int .u8 1, .int .i64 0, .int .i64 2, .int .i64 1, .int .u8 2, .int .i64 0, .int .i64 3, .int .i64 1, .int .u8 3, .int .i64 1, .int .i64 4, .int .i64 1, .int .u8 4, .int .i64 1099511627776, .int .i64 5, .int .i64 1, .int .u8 5, .int .i64 0, .int .i64 6, .int .i64 1, .int .u8 6, .int .i64 3] 32)) (.slice (some ⟨w117.heap.size, 0, none⟩) 6 6) [((1, 2), 1, 0), ((2, 1), 2, 0), ((3, 1), 3, 1), ((4, 1), 4, 1099511627776), ((5, 1), 5, 0), ((6, 1), 6, 3)]) := Lib.hid (ms_lit _ [((1, 2), 1, 0), ((2, 1), 2, 0), ((3, 1), 3, 1), ((4, 1), 4, 1099511627776), ((5, 1), 5, 0), ((6, 1), 6, 3)])
  have hq := below_one (w117.alloc (.cells #[.int .i64 1, .int .i64 2, .int .u8 1, .int .i64 0, .int .i64 2, .int .i64 1, .int .u8 2, .int .i64 0, .int .i64 3, .int .i64 1, .int .u8 3, .int .i64 1, .int .i64 4, .int .i64 1, .int .u8 4, .int .i64 1099511627776, .int .i64 5, .int .i64 1, .int .u8 5, .int .i64 0, .int .i64 6, .int .i64 1, .int .u8 6, .int .i64 3] 32)) (.cells #[.int .i64 1, .int .i64 1, .int .i64 9, .int .i64 4] 30)
  have F121 := Lib.hid (F120.out.below hq)
  clear F120
  have B122 := Lib.hid (below_after B119.out hq (Nat.le_refl _))
  clear B119
  clear hq
  have F123 : Hid (Ids ((w117.alloc (.cells #[.int .i64 1, .int .i64 2, .int .u8 1, .int .i64 0, .int .i64 2, .int .i64 1, .int .u8 2, .int .i64 0, .int .i64 3, .int .i64 1, .int .u8 3, .int .i64 1, .int .i64 4, .int .i64 1, .int .u8 4, .int .i64 1099511627776, .int .i64 5, .int .i64 1, .int .u8 5, .int .i64 0, .int .i64 6, .int .i64 1, .int .u8 6, .int .i64 3] 32)).alloc (.cells #[.int .i64 1, .int .i64 1, .int .i64 9, .int .i64 4] 30)) (.slice (some ⟨w117.heap.size + 1, 0, none⟩) 2 2) [(1, 1), (9, 4)]) := Lib.hid (by have h := ids_lit (w117.alloc (.cells #[.int .i64 1, .int .i64 2, .int .u8 1, .int .i64 0, .int .i64 2, .int .i64 1, .int .u8 2, .int .i64 0, .int .i64 3, .int .i64 1, .int .u8 3, .int .i64 1, .int .i64 4, .int .i64 1, .int .u8 4, .int .i64 1099511627776, .int .i64 5, .int .i64 1, .int .u8 5, .int .i64 0, .int .i64 6, .int .i64 1, .int .u8 6, .int .i64 3] 32)) [(1, 1), (9, 4)]; simp only [World.size_alloc] at h; exact h)
  have F124 : Hid (LsAt ((w117.alloc (.cells #[.int .i64 1, .int .i64 2, .int .u8 1, .int .i64 0, .int .i64 2, .int .i64 1, .int .u8 2, .int .i64 0, .int .i64 3, .int .i64 1, .int .u8 3, .int .i64 1, .int .i64 4, .int .i64 1, .int .u8 4, .int .i64 1099511627776, .int .i64 5, .int .i64 1, .int .u8 5, .int .i64 0, .int .i64 6, .int .i64 1, .int .u8 6, .int .i64 3] 32)).alloc (.cells #[.int .i64 1, .int .i64 1, .int .i64 9, .int .i64 4] 30)) (.agg #[(.slice (some ⟨w117.heap.size, 0, none⟩) 6 6), (.slice (some ⟨w117.heap.size + 1, 0, none⟩) 2 2)]) ([((1, 2), 1, 0), ((2, 1), 2, 0), ((3, 1), 3, 1), ((4, 1), 4, 1099511627776), ((5, 1), 5, 0), ((6, 1), 6, 3)], [(1, 1), (9, 4)])) := Lib.hid (lsAt_of F121.out F123.out)
  have z := lbox_new ((w117.alloc (.cells #[.int .i64 1, .int .i64 2, .int .u8 1, .int .i64 0, .int .i64 2, .int .i64 1, .int .u8 2, .int .i64 0, .int .i64 3, .int .i64 1, .int .u8 3, .int .i64 1, .int .i64 4, .int .i64 1, .int .u8 4, .int .i64 1099511627776, .int .i64 5, .int .i64 1, .int .u8 5, .int .i64 0, .int .i64 6, .int .i64 1, .int .u8 6, .int .i64 3] 32)).alloc (.cells #[.int .i64 1, .int .i64 1, .int .i64 9, .int .i64 4] 30)) (.slice none 0 0) (.slice none 0 0)
  try simp only [World.size_alloc] at z
  obtain ⟨k1, k2⟩ := lbox_cells z
  obtain ⟨f1, f2⟩ := lbox_free z
  clear z
  have hq := below_one ((w117.alloc (.cells #[.int .i64 1, .int .i64 2, .int .u8 1, .int .i64 0, .int .i64 2, .int .i64 1, .int .u8 2, .int .i64 0, .int .i64 3, .int .i64 1, .int .u8 3, .int .i64 1, .int .i64 4, .int .i64 1, .int .u8 4, .int .i64 1099511627776, .int .i64 5, .int .i64 1, .int .u8 5, .int .i64 0, .int .i64 6, .int .i64 1, .int .u8 6, .int .i64 3] 32)).alloc (.cells #[.int .i64 1, .int .i64 1, .int .i64 9, .int .i64 4] 30)) (.cells #[.slice (some ⟨w117.heap.size, 0, none⟩) 6 6, .slice (some ⟨w117.heap.size + 1, 0, none⟩) 2 2] 27)
  have F125 := Lib.hid (F121.out.below hq)
  clear F121
  have F126 := Lib.hid (F123.out.below hq)
  clear F123
  have F127 := Lib.hid (F124.out.below hq)
  clear F124
  have B128 := Lib.hid (below_after B122.out hq (Nat.le_refl _))
  clear B122
  clear hq
  have z := lbox_new ((w117.alloc (.cells #[.int .i64 1, .int .i64 2, .int .u8 1, .int .i64 0, .int .i64 2, .int .i64 1, .int .u8 2, .int .i64 0, .int .i64 3, .int .i64 1, .int .u8 3, .int .i64 1, .int .i64 4, .int .i64 1, .int .u8 4, .int .i64 1099511627776, .int .i64 5, .int .i64 1, .int .u8 5, .int .i64 0, .int .i64 6, .int .i64 1, .int .u8 6, .int .i64 3] 32)).alloc (.cells #[.int .i64 1, .int .i64 1, .int .i64 9, .int .i64 4] 30)) (.slice (some ⟨w117.heap.size, 0, none⟩) 6 6) (.slice (some ⟨w117.heap.size + 1, 0, none⟩) 2 2)
  try simp only [World.size_alloc] at z
  obtain ⟨p1, p2⟩ := lbox_cells z
  clear z
  go_wp2_with fail
  (with_reducible refine (may_ok _ _ ([((1, 2), 1, 0), ((2, 1), 2, 0), ((3, 1), 3, 1), ((4, 1), 4, 1099511627776), ((5, 1), 5, 0), ((6, 1), 6, 3)], [(1, 1), (9, 4)]) true _ F125.out F126.out (lenOk_of (by decide +kernel)) (by decide +kernel)).mono ?_)
  rintro e w129 ⟨rfl, hb⟩
  have F130 := Lib.hid (F125.out.below hb)
  clear F125
  have F131 := Lib.hid (F126.out.below hb)
  clear F126
  clear F127
  have B132 := Lib.hid (below_after B128.out hb (Nat.le_refl _))
  clear B128 hb
  go_wp2_with fail
  (with_reducible refine (may_ok _ _ ([], []) true _ (Rcs.nil _) (Ids.nil _) (lenOk_of (by decide +kernel)) (by decide +kernel)).mono ?_)
  rintro e w133 ⟨rfl, hb⟩
  clear F130
  clear F131
  have B134 := Lib.hid (below_after B132.out hb (Nat.le_refl _))
  clear B132 hb
  clear k1 k2 f1 f2 p1 p2
  go_wp2_with fail
  (with_reducible refine (one_any _ _ _ _ _).mono ?_)
  rintro e w135 ⟨rfl, hb⟩
  have B136 := Lib.hid (below_after B134.out hb (Nat.le_refl _))
  clear B134 hb
  have hq := below_one w135 (.cells #[.int .i64 1, .int .i64 1, .int .u8 1, .int .i64 1] 32)
  have B137 := Lib.hid (below_after B136.out hq (Nat.le_refl _))
  clear B136
  clear hq
  have F138 : Hid (Ms (w135.alloc (.cells #[.int .i64 1, .int .i64 1, .int .u8 1, .int .i64 1] 32)) (.slice (some ⟨w135.heap.size, 0, none⟩) 1 1) [((1, 1), 1, 1)]) := Lib.hid (ms_lit _ [((1, 1), 1, 1)])
  go_wp2_with fail
  (with_reducible refine (of_any _ [((1, 1), 1, 1)] _ F138.out).mono ?_)
  rintro e w139 ⟨V88, rfl, hi, hb⟩
  have F140 := Lib.hid (F138.out.below hb)
  clear F138
  have B141 := Lib.hid (below_after B137.out hb (Nat.le_refl _))
  clear B137 hb
  have F142 := Lib.hid hi
  clear hi
  go_wp2_with fail
  (with_reducible refine (one_any _ _ _ _ _).mono ?_)
  rintro e w143 ⟨rfl, hb⟩
  clear F140
  have F144 := Lib.hid (F142.out.below hb)
  clear F142
  have B145 := Lib.hid (below_after B141.out hb (Nat.le_refl _))
  clear B141 hb
  have hq := below_one w143 (.cells #[.int .i64 1, .int .i64 1, .int .u8 3, .int .i64 0] 32)
  have F146 := Lib.hid (F144.out.below hq)
  clear F144
  have B147 := Lib.hid (below_after B145.out hq (Nat.le_refl _))
  clear B145
  clear hq
  have F148 : Hid (Ms (w143.alloc (.cells #[.int .i64 1, .int .i64 1, .int .u8 3, .int .i64 0] 32)) (.slice (some ⟨w143.heap.size, 0, none⟩) 1 1) [((1, 1), 3, 0)]) := Lib.hid (ms_lit _ [((1, 1), 3, 0)])
  go_wp2_with fail
  (with_reducible refine (of_any _ [((1, 1), 3, 0)] _ F148.out).mono ?_)
  rintro e w149 ⟨V91, rfl, hi, hb⟩
  have F150 := Lib.hid (F146.out.below hb)
  clear F146
  have F151 := Lib.hid (F148.out.below hb)
  clear F148
  have B152 := Lib.hid (below_after B147.out hb (Nat.le_refl _))
  clear B147 hb
  have F153 := Lib.hid hi
  clear hi
  go_wp2_with fail
  (with_reducible refine (one_any _ _ _ _ _).mono ?_)
  rintro e w154 ⟨rfl, hb⟩
  have F155 := Lib.hid (F150.out.below hb)
  clear F150
  clear F151
  have F156 := Lib.hid (F153.out.below hb)
  clear F153
  have B157 := Lib.hid (below_after B152.out hb (Nat.le_refl _))
  clear B152 hb
  have hq := below_one w154 (.cells #[.int .i64 1, .int .i64 1, .int .u8 3, .int .i64 1099511627777] 32)
  have F158 := Lib.hid (F155.out.below hq)
  clear F155
  have F159 := Lib.hid (F156.out.below hq)
  clear F156
  have B160 := Lib.hid (below_after B157.out hq (Nat.le_refl _))
  clear B157
  clear hq
  have F161 : Hid (Ms (w154.alloc (.cells #[.int .i64 1, .int .i64 1, .int .u8 3, .int .i64 1099511627777] 32)) (.slice (some ⟨w154.heap.size, 0, none⟩) 1 1) [((1, 1), 3, 1099511627777)]) := Lib.hid (ms_lit _ [((1, 1), 3, 1099511627777)])
  go_wp2_with fail
  (with_reducible refine (of_any _ [((1, 1), 3, 1099511627777)] _ F161.out).mono ?_)
  rintro e w162 ⟨V94, rfl, hi, hb⟩
  have F163 := Lib.hid (F158.out.below hb)
  clear F158
  have F164 := Lib.hid (F159.out.below hb)
  clear F159
  have F165 := Lib.hid (F161.out.below hb)
  clear F161
  have B166 := Lib.hid (below_after B160.out hb (Nat.le_refl _))
  clear B160 hb
  have F167 := Lib.hid hi
  clear hi
  go_wp2_with fail
  (with_reducible refine (one_any _ _ _ _ _).mono ?_)
  rintro e w168 ⟨rfl, hb⟩
  have F169 := Lib.hid (F163.out.below hb)
  clear F163
  have F170 := Lib.hid (F164.out.below hb)
  clear F164
  clear F165
  have F171 := Lib.hid (F167.out.below hb)
  clear F167
  have B172 := Lib.hid (below_after B166.out hb (Nat.le_refl _))
  clear B166 hb
  have hq := below_one w168 (.cells #[.int .i64 1, .int .i64 1, .int .u8 7, .int .i64 0] 32)
  have F173 := Lib.hid (F169.out.below hq)
  clear F169
  have F174 := Lib.hid (F170.out.below hq)
  clear F170
  have F175 := Lib.hid (F171.out.below hq)
  clear F171
  have B176 := Lib.hid (below_after B172.out hq (Nat.le_refl _))
  clear B172
  clear hq
  have F177 : Hid (Ms (w168.alloc (.cells #[.int .i64 1, .int .i64 1, .int .u8 7, .int .i64 0] 32)) (.slice (some ⟨w168.heap.size, 0, none⟩) 1 1) [((1, 1), 7, 0)]) := Lib.hid (ms_lit _ [((1, 1), 7, 0)])
  go_wp2_with fail
  (with_reducible refine (of_any _ [((1, 1), 7, 0)] _ F177.out).mono ?_)
  rintro e w178 ⟨V97, rfl, hi, hb⟩
  have F179 := Lib.hid (F173.out.below hb)
  clear F173
  have F180 := Lib.hid (F174.out.below hb)
  clear F174
  have F181 := Lib.hid (F175.out.below hb)
  clear F175
  have F182 := Lib.hid (F177.out.below hb)
  clear F177
  have B183 := Lib.hid (below_after B176.out hb (Nat.le_refl _))
  clear B176 hb
  have F184 := Lib.hid hi
  clear hi
  go_wp2_with fail
  (with_reducible refine (one_any _ _ _ _ _).mono ?_)
  rintro e w185 ⟨rfl, hb⟩
  have F186 := Lib.hid (F179.out.below hb)
  clear F179
  have F187 := Lib.hid (F180.out.below hb)
  clear F180
  have F188 := Lib.hid (F181.out.below hb)
  clear F181
  clear F182
  have F189 := Lib.hid (F184.out.below hb)
  clear F184
  have B190 := Lib.hid (below_after B183.out hb (Nat.le_refl _))
  clear B183 hb
  have hq := below_one w185 (.cells #[.int .i64 1, .int .i64 1, .int .u8 0, .int .i64 0] 32)
  have F191 := Lib.hid (F186.out.below hq)
  clear F186
  have F192 := Lib.hid (F187.out.below hq)
  clear F187
  have F193 := Lib.hid (F188.out.below hq)
  clear F188
  have F194 := Lib.hid (F189.out.below hq)
  clear F189
  have B195 := Lib.hid (below_after B190.out hq (Nat.le_refl _))
  clear B190
  clear hq
  have F196 : Hid (Ms (w185.alloc (.cells #[.int .i64 1, .int .i64 1, .int .u8 0, .int .i64 0] 32)) (.slice (some ⟨w185.heap.size, 0, none⟩) 1 1) [((1, 1), 0, 0)]) := Lib.hid (ms_lit _ [((1, 1), 0, 0)])
  go_wp2_with fail
  (with_reducible refine (of_any _ [((1, 1), 0, 0)] _ F196.out).mono ?_)
  rintro e w197 ⟨V100, rfl, hi, hb⟩
  have F198 := Lib.hid (F191.out.below hb)
  clear F191
  have F199 := Lib.hid (F192.out.below hb)
  clear F192
  have F200 := Lib.hid (F193.out.below hb)
  clear F193
  have F201 := Lib.hid (F194.out.below hb)
  clear F194
  have F202 := Lib.hid (F196.out.below hb)
  clear F196
  have B203 := Lib.hid (below_after B195.out hb (Nat.le_refl _))
  clear B195 hb
  have F204 := Lib.hid hi
  clear hi
  go_wp2_with fail
  (with_reducible refine (one_any _ _ _ _ _).mono ?_)
  rintro e w205 ⟨rfl, hb⟩
  have F206 := Lib.hid (F198.out.below hb)
  clear F198
  have F207 := Lib.hid (F199.out.below hb)
  clear F199
  have F208 := Lib.hid (F200.out.below hb)
  clear F200
  have F209 := Lib.hid (F201.out.below hb)
  clear F201
  clear F202
  have F210 := Lib.hid (F204.out.below hb)
  clear F204
  have B211 := Lib.hid (below_after B203.out hb (Nat.le_refl _))
  clear B203 hb
  have hq := below_one w205 (.cells #[.int .i64 1, .int .i64 1, .int .u8 6, .int .i64 (-1)] 32)
  have F212 := Lib.hid (F206.out.below hq)
  clear F206
  have F213 := Lib.hid (F207.out.below hq)
  clear F207
  have F214 := Lib.hid (F208.out.below hq)
  clear F208
  have F215 := Lib.hid (F209.out.below hq)
  clear F209
  have F216 := Lib.hid (F210.out.below hq)
  clear F210
  have B217 := Lib.hid (below_after B211.out hq (Nat.le_refl _))
  clear B211
  clear hq
  have F218 : Hid (Ms (w205.alloc (.cells #[.int .i64 1, .int .i64 1, .int .u8 6, .int .i64 (-1)] 32)) (.slice (some ⟨w205.heap.size, 0, none⟩) 1 1) [((1, 1), 6, (-1))]) := Lib.hid (ms_lit _ [((1, 1), 6, (-1))])
  go_wp2_with fail
  (with_reducible refine (of_any _ [((1, 1), 6, (-1))] _ F218.out).mono ?_)
  rintro e w219 ⟨V103, rfl, hi, hb⟩
  have F220 := Lib.hid (F212.out.below hb)
  clear F212
  have F221 := Lib.hid (F213.out.below hb)
  clear F213
  have F222 := Lib.hid (F214.out.below hb)
  clear F214
  have F223 := Lib.hid (F215.out.below hb)
  clear F215
  have F224 := Lib.hid (F216.out.below hb)
  clear F216
  have F225 := Lib.hid (F218.out.below hb)
  clear F218
  have B226 := Lib.hid (below_after B217.out hb (Nat.le_refl _))
  clear B217 hb
  have F227 := Lib.hid hi
  clear hi
  go_wp2_with fail
  (with_reducible refine (one_any _ _ _ _ _).mono ?_)
  rintro e w228 ⟨rfl, hb⟩
  have F229 := Lib.hid (F220.out.below hb)
  clear F220
  have F230 := Lib.hid (F221.out.below hb)
  clear F221
  have F231 := Lib.hid (F222.out.below hb)
  clear F222
  have F232 := Lib.hid (F223.out.below hb)
  clear F223
  have F233 := Lib.hid (F224.out.below hb)
  clear F224
  clear F225
  have F234 := Lib.hid (F227.out.below hb)
  clear F227
  have B235 := Lib.hid (below_after B226.out hb (Nat.le_refl _))
  clear B226 hb
  go_wp2_with fail
  (with_reducible refine (one_any _ _ _ _ _).mono ?_)
  rintro e w236 ⟨rfl, hb⟩
  have F237 := Lib.hid (F229.out.below hb)
  clear F229
  have F238 := Lib.hid (F230.out.below hb)
  clear F230
  have F239 := Lib.hid (F231.out.below hb)
  clear F231
  have F240 := Lib.hid (F232.out.below hb)
  clear F232
  have F241 := Lib.hid (F233.out.below hb)
  clear F233
  have F242 := Lib.hid (F234.out.below hb)
  clear F234
  have B243 := Lib.hid (below_after B235.out hb (Nat.le_refl _))
  clear B235 hb
  have hq := below_one w236 (.cells #[.int .i64 2, .int .i64 1, .int .u8 2, .int .i64 0, .int .i64 1, .int .i64 1, .int .u8 2, .int .i64 0] 32)
  have F244 := Lib.hid (F237.out.below hq)
  clear F237
  have F245 := Lib.hid (F238.out.below hq)
  clear F238
  have F246 := Lib.hid (F239.out.below hq)
  clear F239
  have F247 := Lib.hid (F240.out.below hq)
  clear F240
  have F248 := Lib.hid (F241.out.below hq)
  clear F241
  have F249 := Lib.hid (F242.out.below hq)
  clear F242
  have B250 := Lib.hid (below_after B243.out hq (Nat.le_refl _))
  clear B243
  clear hq
  have F251 : Hid (Ms (w236.alloc (.cells #[.int .i64 2, .int .i64 1, .int .u8 2, .int .i64 0, .int .i64 1, .int .i64 1, .int .u8 2, .int .i64 0] 32)) (.slice (some ⟨w236.heap.size, 0, none⟩) 2 2) [((2, 1), 2, 0), ((1, 1), 2, 0)]) := Lib.hid (ms_lit _ [((2, 1), 2, 0), ((1, 1), 2, 0)])
  go_wp2_with fail
  (with_reducible refine (of_any _ [((2, 1), 2, 0), ((1, 1), 2, 0)] _ F251.out).mono ?_)
  rintro e w252 ⟨V107, rfl, hi, hb⟩
  have F253 := Lib.hid (F244.out.below hb)
  clear F244
  have F254 := Lib.hid (F245.out.below hb)
  clear F245
  have F255 := Lib.hid (F246.out.below hb)
  clear F246
  have F256 := Lib.hid (F247.out.below hb)
  clear F247
  have F257 := Lib.hid (F248.out.below hb)
  clear F248
  have F258 := Lib.hid (F249.out.below hb)
  clear F249
  have F259 := Lib.hid (F251.out.below hb)
  clear F251
  have B260 := Lib.hid (below_after B250.out hb (Nat.le_refl _))
  clear B250 hb
  have F261 := Lib.hid hi
  clear hi
  go_wp2_with fail
  (with_reducible refine (one_any _ _ _ _ _).mono ?_)
  rintro e w262 ⟨rfl, hb⟩
  have F263 := Lib.hid (F253.out.below hb)
  clear F253
  have F264 := Lib.hid (F254.out.below hb)
  clear F254
  have F265 := Lib.hid (F255.out.below hb)
  clear F255
  have F266 := Lib.hid (F256.out.below hb)
  clear F256
  have F267 := Lib.hid (F257.out.below hb)
  clear F257
  have F268 := Lib.hid (F258.out.below hb)
  clear F258
  clear F259
  have F269 := Lib.hid (F261.out.below hb)
  clear F261
  have B270 := Lib.hid (below_after B260.out hb (Nat.le_refl _))
  clear B260 hb
  go_wp2_with fail
  (with_reducible refine (one_any _ _ _ _ _).mono ?_)
  rintro e w271 ⟨rfl, hb⟩
  have F272 := Lib.hid (F263.out.below hb)
  clear F263
  have F273 := Lib.hid (F264.out.below hb)
  clear F264
  have F274 := Lib.hid (F265.out.below hb)
  clear F265
  have F275 := Lib.hid (F266.out.below hb)
  clear F266
  have F276 := Lib.hid (F267.out.below hb)
  clear F267
  have F277 := Lib.hid (F268.out.below hb)
  clear F268
  have F278 := Lib.hid (F269.out.below hb)
  clear F269
  have B279 := Lib.hid (below_after B270.out hb (Nat.le_refl _))
  clear B270 hb
  have hq := below_one w271 (.cells #[.int .i64 1, .int .i64 1, .int .u8 6, .int .i64 0, .int .i64 1, .int .i64 2, .int .u8 2, .int .i64 0] 32)
  have F280 := Lib.hid (F272.out.below hq)
  clear F272
  have F281 := Lib.hid (F273.out.below hq)
  clear F273
  have F282 := Lib.hid (F274.out.below hq)
  clear F274
  have F283 := Lib.hid (F275.out.below hq)
  clear F275
  have F284 := Lib.hid (F276.out.below hq)
  clear F276
  have F285 := Lib.hid (F277.out.below hq)
  clear F277
  have F286 := Lib.hid (F278.out.below hq)
  clear F278
  have B287 := Lib.hid (below_after B279.out hq (Nat.le_refl _))
  clear B279
  clear hq
  have F288 : Hid (Ms (w271.alloc (.cells #[.int .i64 1, .int .i64 1, .int .u8 6, .int .i64 0, .int .i64 1, .int .i64 2, .int .u8 2, .int .i64 0] 32)) (.slice (some ⟨w271.heap.size, 0, none⟩) 2 2) [((1, 1), 6, 0), ((1, 2), 2, 0)]) := Lib.hid (ms_lit _ [((1, 1), 6, 0), ((1, 2), 2, 0)])
  go_wp2_with fail
  (with_reducible refine (of_any _ [((1, 1), 6, 0), ((1, 2), 2, 0)] _ F288.out).mono ?_)
  rintro e w289 ⟨V111, rfl, hi, hb⟩
  have F290 := Lib.hid (F280.out.below hb)
  clear F280
  have F291 := Lib.hid (F281.out.below hb)
  clear F281
  have F292 := Lib.hid (F282.out.below hb)
  clear F282
  have F293 := Lib.hid (F283.out.below hb)
  clear F283
  have F294 := Lib.hid (F284.out.below hb)
  clear F284
  have F295 := Lib.hid (F285.out.below hb)
  clear F285
  have F296 := Lib.hid (F286.out.below hb)
  clear F286
  have F297 := Lib.hid (F288.out.below hb)
  clear F288
  have B298 := Lib.hid (below_after B287.out hb (Nat.le_refl _))
  clear B287 hb
  have F299 := Lib.hid hi
  clear hi
  go_wp2_with fail
  (with_reducible refine (one_any _ _ _ _ _).mono ?_)
  rintro e w300 ⟨rfl, hb⟩
  have F301 := Lib.hid (F290.out.below hb)
  clear F290
  have F302 := Lib.hid (F291.out.below hb)
  clear F291
  have F303 := Lib.hid (F292.out.below hb)
  clear F292
  have F304 := Lib.hid (F293.out.below hb)
  clear F293
  have F305 := Lib.hid (F294.out.below hb)
  clear F294
  have F306 := Lib.hid (F295.out.below hb)
  clear F295
  have F307 := Lib.hid (F296.out.below hb)
  clear F296
  clear F297
  have F308 := Lib.hid (F299.out.below hb)
  clear F299
  have B309 := Lib.hid (below_after B298.out hb (Nat.le_refl _))
  clear B298 hb
  have hq := below_one w300 (.cells #[.int .i64 0, .int .i64 1, .int .u8 2, .int .i64 0] 32)
  have F310 := Lib.hid (F301.out.below hq)
  clear F301
  have F311 := Lib.hid (F302.out.below hq)
  clear F302
  have F312 := Lib.hid (F303.out.below hq)
  clear F303
  have F313 := Lib.hid (F304.out.below hq)
  clear F304
  have F314 := Lib.hid (F305.out.below hq)
  clear F305
  have F315 := Lib.hid (F306.out.below hq)
  clear F306
  have F316 := Lib.hid (F307.out.below hq)
  clear F307
  have F317 := Lib.hid (F308.out.below hq)
  clear F308
  have B318 := Lib.hid (below_after B309.out hq (Nat.le_refl _))
  clear B309
  clear hq
  have F319 : Hid (Ms (w300.alloc (.cells #[.int .i64 0, .int .i64 1, .int .u8 2, .int .i64 0] 32)) (.slice (some ⟨w300.heap.size, 0, none⟩) 1 1) [((0, 1), 2, 0)]) := Lib.hid (ms_lit _ [((0, 1), 2, 0)])
  go_wp2_with fail
  (with_reducible refine (of_any _ [((0, 1), 2, 0)] _ F319.out).mono ?_)
  rintro e w320 ⟨V114, rfl, hi, hb⟩
  have F321 := Lib.hid (F310.out.below hb)
  clear F310
  have F322 := Lib.hid (F311.out.below hb)
  clear F311
  have F323 := Lib.hid (F312.out.below hb)
  clear F312
  have F324 := Lib.hid (F313.out.below hb)
  clear F313
  have F325 := Lib.hid (F314.out.below hb)
  clear F314
  have F326 := Lib.hid (F315.out.below hb)
  clear F315
  have F327 := Lib.hid (F316.out.below hb)
  clear F316
  have F328 := Lib.hid (F317.out.below hb)
  clear F317
  have F329 := Lib.hid (F319.out.below hb)
  clear F319
  have B330 := Lib.hid (below_after B318.out hb (Nat.le_refl _))
  clear B318 hb
  have F331 := Lib.hid hi
  clear hi
  have hq := below_one w320 (.cells #[.int .i64 2, .int .i64 1, .int .i64 1, .int .i64 1] 30)
  have F332 := Lib.hid (F321.out.below hq)
  clear F321
  have F333 := Lib.hid (F322.out.below hq)
  clear F322
  have F334 := Lib.hid (F323.out.below hq)
  clear F323
  have F335 := Lib.hid (F324.out.below hq)
  clear F324
  have F336 := Lib.hid (F325.out.below hq)
  clear F325
  have F337 := Lib.hid (F326.out.below hq)
  clear F326
  have F338 := Lib.hid (F327.out.below hq)
  clear F327
  have F339 := Lib.hid (F328.out.below hq)
  clear F328
  clear F329
  have F340 := Lib.hid (F331.out.below hq)
  clear F331
  have B341 := Lib.hid (below_after B330.out hq (Nat.le_refl _))
  clear B330
  clear hq
  have F342 : Hid (Ids (w320.alloc (.cells #[.int .i64 2, .int .i64 1, .int .i64 1, .int .i64 1] 30)) (.slice (some ⟨w320.heap.size, 0, none⟩) 2 2) [(2, 1), (1, 1)]) := Lib.hid (ids_lit _ [(2, 1), (1, 1)])
  have F343 : Hid (LsAt (w320.alloc (.cells #[.int .i64 2, .int .i64 1, .int .i64 1, .int .i64 1] 30)) (.agg #[(.slice none 0 0), (.slice (some ⟨w320.heap.size, 0, none⟩) 2 2)]) ([], [(2, 1), (1, 1)])) := Lib.hid (lsAt_of (Rcs.nil _) F342.out)
  have hq := below_one (w320.alloc (.cells #[.int .i64 2, .int .i64 1, .int .i64 1, .int .i64 1] 30)) (.cells #[.int .i64 2, .int .i64 1, .int .i64 2, .int .i64 2] 30)
  have F344 := Lib.hid (F332.out.below hq)
  clear F332
  have F345 := Lib.hid (F333.out.below hq)
  clear F333
  have F346 := Lib.hid (F334.out.below hq)
  clear F334
  have F347 := Lib.hid (F335.out.below hq)
  clear F335
  have F348 := Lib.hid (F336.out.below hq)
  clear F336
  have F349 := Lib.hid (F337.out.below hq)
  clear F337
  have F350 := Lib.hid (F338.out.below hq)
  clear F338
  have F351 := Lib.hid (F339.out.below hq)
  clear F339
  have F352 := Lib.hid (F340.out.below hq)
  clear F340
  clear F342
  have F353 := Lib.hid (F343.out.below hq)
  clear F343
  have B354 := Lib.hid (below_after B341.out hq (Nat.le_refl _))
  clear B341
  clear hq
  have F355 : Hid (Ids ((w320.alloc (.cells #[.int .i64 2, .int .i64 1, .int .i64 1, .int .i64 1] 30)).alloc (.cells #[.int .i64 2, .int .i64 1, .int .i64 2, .int .i64 2] 30)) (.slice (some ⟨w320.heap.size + 1, 0, none⟩) 2 2) [(2, 1), (2, 2)]) := Lib.hid (by have h := ids_lit (w320.alloc (.cells #[.int .i64 2, .int .i64 1, .int .i64 1, .int .i64 1] 30)) [(2, 1), (2, 2)]; simp only [World.size_alloc] at h; exact h)
  have F356 : Hid (LsAt ((w320.alloc (.cells #[.int .i64 2, .int .i64 1, .int .i64 1, .int .i64 1] 30)).alloc (.cells #[.int .i64 2, .int .i64 1, .int .i64 2, .int .i64 2] 30)) (.agg #[(.slice none 0 0), (.slice (some ⟨w320.heap.size + 1, 0, none⟩) 2 2)]) ([], [(2, 1), (2, 2)])) := Lib.hid (lsAt_of (Rcs.nil _) F355.out)
  have hq := below_one ((w320.alloc (.cells #[.int .i64 2, .int .i64 1, .int .i64 1, .int .i64 1] 30)).alloc (.cells #[.int .i64 2, .int .i64 1, .int .i64 2, .int .i64 2] 30)) (.cells #[.int .i64 2, .int .i64 0] 30)
  have F357 := Lib.hid (F344.out.below hq)
  clear F344
  have F358 := Lib.hid (F345.out.below hq)
  clear F345
  have F359 := Lib.hid (F346.out.below hq)
  clear F346
  have F360 := Lib.hid (F347.out.below hq)
  clear F347
  have F361 := Lib.hid (F348.out.below hq)
  clear F348
  have F362 := Lib.hid (F349.out.below hq)
  clear F349
  have F363 := Lib.hid (F350.out.below hq)
  clear F350
  have F364 := Lib.hid (F351.out.below hq)
  clear F351
  have F365 := Lib.hid (F352.out.below hq)
  clear F352
  have F366 := Lib.hid (F353.out.below hq)
  clear F353
  clear F355
  have F367 := Lib.hid (F356.out.below hq)
  clear F356
  have B368 := Lib.hid (below_after B354.out hq (Nat.le_refl _))
  clear B354
  clear hq
  have F369 : Hid (Ids (((w320.alloc (.cells #[.int .i64 2, .int .i64 1, .int .i64 1, .int .i64 1] 30)).alloc (.cells #[.int .i64 2, .int .i64 1, .int .i64 2, .int .i64 2] 30)).alloc (.cells #[.int .i64 2, .int .i64 0] 30)) (.slice (some ⟨w320.heap.size + 1 + 1, 0, none⟩) 1 1) [(2, 0)]) := Lib.hid (by have h := ids_lit ((w320.alloc (.cells #[.int .i64 2, .int .i64 1, .int .i64 1, .int .i64 1] 30)).alloc (.cells #[.int .i64 2, .int .i64 1, .int .i64 2, .int .i64 2] 30)) [(2, 0)]; simp only [World.size_alloc] at h; exact h)
  have F370 : Hid (LsAt (((w320.alloc (.cells #[.int .i64 2, .int .i64 1, .int .i64 1, .int .i64 1] 30)).alloc (.cells #[.int .i64 2, .int .i64 1, .int .i64 2, .int .i64 2] 30)).alloc (.cells #[.int .i64 2, .int .i64 0] 30)) (.agg #[(.slice none 0 0), (.slice (some ⟨w320.heap.size + 1 + 1, 0, none⟩) 1 1)]) ([], [(2, 0)])) := Lib.hid (lsAt_of (Rcs.nil _) F369.out)
  go_wp2_with fail
  (with_reducible refine (one_any _ _ _ _ _).mono ?_)
  rintro e w371 ⟨rfl, hb⟩
  have F372 := Lib.hid (F357.out.below hb)
  clear F357
  have F373 := Lib.hid (F358.out.below hb)
  clear F358
  have F374 := Lib.hid (F359.out.below hb)
  clear F359
  have F375 := Lib.hid (F360.out.below hb)
  clear F360
  have F376 := Lib.hid (F361.out.below hb)
  clear F361
  have F377 := Lib.hid (F362.out.below hb)
  clear F362
  have F378 := Lib.hid (F363.out.below hb)
  clear F363
  have F379 := Lib.hid (F364.out.below hb)
  clear F364
  have F380 := Lib.hid (F365.out.below hb)
  clear F365
  have F381 := Lib.hid (F366.out.below hb)
  clear F366
  have F382 := Lib.hid (F367.out.below hb)
  clear F367
  clear F369
  have F383 := Lib.hid (F370.out.below hb)
  clear F370
  have B384 := Lib.hid (below_after B368.out hb (Nat.le_refl _))
  clear B368 hb
  have hq := below_one w371 (.cells #[.int .i64 1, .int .i64 1, .int .u8 2, .int .i64 0] 32)
  have F385 := Lib.hid (F372.out.below hq)
  clear F372
  have F386 := Lib.hid (F373.out.below hq)
  clear F373
  have F387 := Lib.hid (F374.out.below hq)
  clear F374
  have F388 := Lib.hid (F375.out.below hq)
  clear F375
  have F389 := Lib.hid (F376.out.below hq)
  clear F376
  have F390 := Lib.hid (F377.out.below hq)
  clear F377
  have F391 := Lib.hid (F378.out.below hq)
  clear F378
  have F392 := Lib.hid (F379.out.below hq)
  clear F379
  have F393 := Lib.hid (F380.out.below hq)
  clear F380
  have F394 := Lib.hid (F381.out.below hq)
  clear F381
  have F395 := Lib.hid (F382.out.below hq)
  clear F382
  have F396 := Lib.hid (F383.out.below hq)
  clear F383
  have B397 := Lib.hid (below_after B384.out hq (Nat.le_refl _))
  clear B384
  clear hq
  have F398 : Hid (Ms (w371.alloc (.cells #[.int .i64 1, .int .i64 1, .int .u8 2, .int .i64 0] 32)) (.slice (some ⟨w371.heap.size, 0, none⟩) 1 1) [((1, 1), 2, 0)]) := Lib.hid (ms_lit _ [((1, 1), 2, 0)])
  go_wp2_with fail
  (with_reducible refine (low_any _ _ _).mono ?_)
  rintro e w399 ⟨V128, rfl, hi, hb⟩
  have F400 := Lib.hid (F385.out.below hb)
  clear F385
  have F401 := Lib.hid (F386.out.below hb)
  clear F386
  have F402 := Lib.hid (F387.out.below hb)
  clear F387
  have F403 := Lib.hid (F388.out.below hb)
  clear F388
  have F404 := Lib.hid (F389.out.below hb)
  clear F389
  have F405 := Lib.hid (F390.out.below hb)
  clear F390
  have F406 := Lib.hid (F391.out.below hb)
  clear F391
  have F407 := Lib.hid (F392.out.below hb)
  clear F392
  have F408 := Lib.hid (F393.out.below hb)
  clear F393
  have F409 := Lib.hid (F394.out.below hb)
  clear F394
  have F410 := Lib.hid (F395.out.below hb)
  clear F395
  have F411 := Lib.hid (F396.out.below hb)
  clear F396
  have F412 := Lib.hid (F398.out.below hb)
  clear F398
  have B413 := Lib.hid (below_after B397.out hb (Nat.le_refl _))
  clear B397 hb
  obtain ⟨A128, c128, rfl⟩ : ∃ A c, V128 = .slice A 1 c := by obtain ⟨A, c, h, _⟩ := id hi; exact ⟨A, c, h⟩
  have F414 := Lib.hid hi
  clear hi
  have F415 : Hid (LsAt w399 (.agg #[(.slice (some ⟨w371.heap.size, 0, none⟩) 1 1), (.slice A128 1 c128)]) ([((1, 1), 2, 0)], [(1, 1)])) := Lib.hid (lsAt_of F412.out F414.out)
  obtain ⟨A88, c88, B88, d88, rfl, hm, hi⟩ : ∃ A c B d, V88 = .agg #[.slice A 1 c, .slice B 0 d] ∧ Ms w399 (.slice A 1 c) [((1, 1), 1, 1)] ∧ Ids w399 (.slice B 0 d) [] := F400.out
  have Z88 : Hid (Bad w399 (.slice A88 1 c88, .slice B88 0 d88)) := Lib.hid ⟨_, _, _, _, _, _, ([((1, 1), 1, 1)], []), rfl, hm, hi, by decide +kernel, lenOk_of (by decide +kernel)⟩
  clear hm hi F400
  obtain ⟨A91, c91, B91, d91, rfl, hm, hi⟩ : ∃ A c B d, V91 = .agg #[.slice A 1 c, .slice B 0 d] ∧ Ms w399 (.slice A 1 c) [((1, 1), 3, 0)] ∧ Ids w399 (.slice B 0 d) [] := F401.out
  have Z91 : Hid (Bad w399 (.slice A91 1 c91, .slice B91 0 d91)) := Lib.hid ⟨_, _, _, _, _, _, ([((1, 1), 3, 0)], []), rfl, hm, hi, by decide +kernel, lenOk_of (by decide +kernel)⟩
  clear hm hi F401
  obtain ⟨A94, c94, B94, d94, rfl, hm, hi⟩ : ∃ A c B d, V94 = .agg #[.slice A 1 c, .slice B 0 d] ∧ Ms w399 (.slice A 1 c) [((1, 1), 3, 1099511627777)] ∧ Ids w399 (.slice B 0 d) [] := F402.out
  have Z94 : Hid (Bad w399 (.slice A94 1 c94, .slice B94 0 d94)) := Lib.hid ⟨_, _, _, _, _, _, ([((1, 1), 3, 1099511627777)], []), rfl, hm, hi, by decide +kernel, lenOk_of (by decide +kernel)⟩
  clear hm hi F402
  obtain ⟨A97, c97, B97, d97, rfl, hm, hi⟩ : ∃ A c B d, V97 = .agg #[.slice A 1 c, .slice B 0 d] ∧ Ms w399 (.slice A 1 c) [((1, 1), 7, 0)] ∧ Ids w399 (.slice B 0 d) [] := F403.out
  have Z97 : Hid (Bad w399 (.slice A97 1 c97, .slice B97 0 d97)) := Lib.hid ⟨_, _, _, _, _, _, ([((1, 1), 7, 0)], []), rfl, hm, hi, by decide +kernel, lenOk_of (by decide +kernel)⟩
  clear hm hi F403
  obtain ⟨A100, c100, B100, d100, rfl, hm, hi⟩ : ∃ A c B d, V100 = .agg #[.slice A 1 c, .slice B 0 d] ∧ Ms w399 (.slice A 1 c) [((1, 1), 0, 0)] ∧ Ids w399 (.slice B 0 d) [] := F404.out
  have Z100 : Hid (Bad w399 (.slice A100 1 c100, .slice B100 0 d100)) := Lib.hid ⟨_, _, _, _, _, _, ([((1, 1), 0, 0)], []), rfl, hm, hi, by decide +kernel, lenOk_of (by decide +kernel)⟩
  clear hm hi F404
  obtain ⟨A103, c103, B103, d103, rfl, hm, hi⟩ : ∃ A c B d, V103 = .agg #[.slice A 1 c, .slice B 0 d] ∧ Ms w399 (.slice A 1 c) [((1, 1), 6, (-1))] ∧ Ids w399 (.slice B 0 d) [] := F405.out
  have Z103 : Hid (Bad w399 (.slice A103 1 c103, .slice B103 0 d103)) := Lib.hid ⟨_, _, _, _, _, _, ([((1, 1), 6, (-1))], []), rfl, hm, hi, by decide +kernel, lenOk_of (by decide +kernel)⟩
  clear hm hi F405
  obtain ⟨A107, c107, B107, d107, rfl, hm, hi⟩ : ∃ A c B d, V107 = .agg #[.slice A 2 c, .slice B 0 d] ∧ Ms w399 (.slice A 2 c) [((2, 1), 2, 0), ((1, 1), 2, 0)] ∧ Ids w399 (.slice B 0 d) [] := F406.out
  have Z107 : Hid (Bad w399 (.slice A107 2 c107, .slice B107 0 d107)) := Lib.hid ⟨_, _, _, _, _, _, ([((2, 1), 2, 0), ((1, 1), 2, 0)], []), rfl, hm, hi, by decide +kernel, lenOk_of (by decide +kernel)⟩
  clear hm hi F406
  obtain ⟨A111, c111, B111, d111, rfl, hm, hi⟩ : ∃ A c B d, V111 = .agg #[.slice A 2 c, .slice B 0 d] ∧ Ms w399 (.slice A 2 c) [((1, 1), 6, 0), ((1, 2), 2, 0)] ∧ Ids w399 (.slice B 0 d) [] := F407.out
  have Z111 : Hid (Bad w399 (.slice A111 2 c111, .slice B111 0 d111)) := Lib.hid ⟨_, _, _, _, _, _, ([((1, 1), 6, 0), ((1, 2), 2, 0)], []), rfl, hm, hi, by decide +kernel, lenOk_of (by decide +kernel)⟩
  clear hm hi F407
  obtain ⟨A114, c114, B114, d114, rfl, hm, hi⟩ : ∃ A c B d, V114 = .agg #[.slice A 1 c, .slice B 0 d] ∧ Ms w399 (.slice A 1 c) [((0, 1), 2, 0)] ∧ Ids w399 (.slice B 0 d) [] := F408.out
  have Z114 : Hid (Bad w399 (.slice A114 1 c114, .slice B114 0 d114)) := Lib.hid ⟨_, _, _, _, _, _, ([((0, 1), 2, 0)], []), rfl, hm, hi, by decide +kernel, lenOk_of (by decide +kernel)⟩
  clear hm hi F408
  obtain ⟨P118, p118, Q118, q118, e118, hm, hi⟩ : ∃ A c B d, (.agg #[(.slice none 0 0), (.slice (some ⟨w320.heap.size, 0, none⟩) 2 2)] : Value) = .agg #[.slice A 0 c, .slice B 2 d] ∧ Ms w399 (.slice A 0 c) [] ∧ Ids w399 (.slice B 2 d) [(2, 1), (1, 1)] := F409.out
  have e118a : ((.slice none 0 0) : Value) = .slice P118 0 p118 := by have := e118; simp only [Value.agg.injEq, Array.mk.injEq, List.cons.injEq, and_true] at this; exact this.1
  have e118b : ((.slice (some ⟨w320.heap.size, 0, none⟩) 2 2) : Value) = .slice Q118 2 q118 := by have := e118; simp only [Value.agg.injEq, Array.mk.injEq, List.cons.injEq, and_true] at this; exact this.2
  rw [← e118a] at hm
  rw [← e118b] at hi
  clear e118
  have Z118 : Hid (Bad w399 (.slice none 0 0, .slice (some ⟨w320.heap.size, 0, none⟩) 2 2)) := Lib.hid ⟨_, _, _, _, _, _, ([], [(2, 1), (1, 1)]), rfl, hm, hi, by decide +kernel, lenOk_of (by decide +kernel)⟩
  clear hm hi F409
  obtain ⟨P122, p122, Q122, q122, e122, hm, hi⟩ : ∃ A c B d, (.agg #[(.slice none 0 0), (.slice (some ⟨w320.heap.size + 1, 0, none⟩) 2 2)] : Value) = .agg #[.slice A 0 c, .slice B 2 d] ∧ Ms w399 (.slice A 0 c) [] ∧ Ids w399 (.slice B 2 d) [(2, 1), (2, 2)] := F410.out
  have e122a : ((.slice none 0 0) : Value) = .slice P122 0 p122 := by have := e122; simp only [Value.agg.injEq, Array.mk.injEq, List.cons.injEq, and_true] at this; exact this.1
  have e122b : ((.slice (some ⟨w320.heap.size + 1, 0, none⟩) 2 2) : Value) = .slice Q122 2 q122 := by have := e122; simp only [Value.agg.injEq, Array.mk.injEq, List.cons.injEq, and_true] at this; exact this.2
  rw [← e122a] at hm
  rw [← e122b] at hi
  clear e122
  have Z122 : Hid (Bad w399 (.slice none 0 0, .slice (some ⟨w320.heap.size + 1, 0, none⟩) 2 2)) := Lib.hid ⟨_, _, _, _, _, _, ([], [(2, 1), (2, 2)]), rfl, hm, hi, by decide +kernel, lenOk_of (by decide +kernel)⟩
  clear hm hi F410
  obtain ⟨P125, p125, Q125, q125, e125, hm, hi⟩ : ∃ A c B d, (.agg #[(.slice none 0 0), (.slice (some ⟨w320.heap.size + 1 + 1, 0, none⟩) 1 1)] : Value) = .agg #[.slice A 0 c, .slice B 1 d] ∧ Ms w399 (.slice A 0 c) [] ∧ Ids w399 (.slice B 1 d) [(2, 0)] := F411.out
  have e125a : ((.slice none 0 0) : Value) = .slice P125 0 p125 := by have := e125; simp only [Value.agg.injEq, Array.mk.injEq, List.cons.injEq, and_true] at this; exact this.1
  have e125b : ((.slice (some ⟨w320.heap.size + 1 + 1, 0, none⟩) 1 1) : Value) = .slice Q125 1 q125 := by have := e125; simp only [Value.agg.injEq, Array.mk.injEq, List.cons.injEq, and_true] at this; exact this.2
  rw [← e125a] at hm
  rw [← e125b] at hi
  clear e125
  have Z125 : Hid (Bad w399 (.slice none 0 0, .slice (some ⟨w320.heap.size + 1 + 1, 0, none⟩) 1 1)) := Lib.hid ⟨_, _, _, _, _, _, ([], [(2, 0)]), rfl, hm, hi, by decide +kernel, lenOk_of (by decide +kernel)⟩
  clear hm hi F411
  obtain ⟨P129, p129, Q129, q129, e129, hm, hi⟩ : ∃ A c B d, (.agg #[(.slice (some ⟨w371.heap.size, 0, none⟩) 1 1), (.slice A128 1 c128)] : Value) = .agg #[.slice A 1 c, .slice B 1 d] ∧ Ms w399 (.slice A 1 c) [((1, 1), 2, 0)] ∧ Ids w399 (.slice B 1 d) [(1, 1)] := F415.out
  have e129a : ((.slice (some ⟨w371.heap.size, 0, none⟩) 1 1) : Value) = .slice P129 1 p129 := by have := e129; simp only [Value.agg.injEq, Array.mk.injEq, List.cons.injEq, and_true] at this; exact this.1
  have e129b : ((.slice A128 1 c128) : Value) = .slice Q129 1 q129 := by have := e129; simp only [Value.agg.injEq, Array.mk.injEq, List.cons.injEq, and_true] at this; exact this.2
  rw [← e129a] at hm
  rw [← e129b] at hi
  clear e129
  have Z129 : Hid (Bad w399 (.slice (some ⟨w371.heap.size, 0, none⟩) 1 1, .slice A128 1 c128)) := Lib.hid ⟨_, _, _, _, _, _, ([((1, 1), 2, 0)], [(1, 1)]), rfl, hm, hi, by decide +kernel, lenOk_of (by decide +kernel)⟩
  clear hm hi F415
  have hq := below_one w399 (.cells #[.slice A88 1 c88, .slice B88 0 d88, .slice A91 1 c91, .slice B91 0 d91, .slice A94 1 c94, .slice B94 0 d94, .slice A97 1 c97, .slice B97 0 d97, .slice A100 1 c100, .slice B100 0 d100, .slice A103 1 c103, .slice B103 0 d103, .slice A107 2 c107, .slice B107 0 d107, .slice A111 2 c111, .slice B111 0 d111, .slice A114 1 c114, .slice B114 0 d114, .slice none 0 0, .slice (some ⟨w320.heap.size, 0, none⟩) 2 2, .slice none 0 0, .slice (some ⟨w320.heap.size + 1, 0, none⟩) 2 2, .slice none 0 0, .slice (some ⟨w320.heap.size + 1 + 1, 0, none⟩) 1 1, .slice (some ⟨w371.heap.size, 0, none⟩) 1 1, .slice A128 1 c128] 27)
  have HL : Hid (LsBlock (w399.alloc (.cells #[.slice A88 1 c88, .slice B88 0 d88, .slice A91 1 c91, .slice B91 0 d91, .slice A94 1 c94, .slice B94 0 d94, .slice A97 1 c97, .slice B97 0 d97, .slice A100 1 c100, .slice B100 0 d100, .slice A103 1 c103, .slice B103 0 d103, .slice A107 2 c107, .slice B107 0 d107, .slice A111 2 c111, .slice B111 0 d111, .slice A114 1 c114, .slice B114 0 d114, .slice none 0 0, .slice (some ⟨w320.heap.size, 0, none⟩) 2 2, .slice none 0 0, .slice (some ⟨w320.heap.size + 1, 0, none⟩) 2 2, .slice none 0 0, .slice (some ⟨w320.heap.size + 1 + 1, 0, none⟩) 1 1, .slice (some ⟨w371.heap.size, 0, none⟩) 1 1, .slice A128 1 c128] 27)) w399.heap.size [(.slice A88 1 c88, .slice B88 0 d88), (.slice A91 1 c91, .slice B91 0 d91), (.slice A94 1 c94, .slice B94 0 d94), (.slice A97 1 c97, .slice B97 0 d97), (.slice A100 1 c100, .slice B100 0 d100), (.slice A103 1 c103, .slice B103 0 d103), (.slice A107 2 c107, .slice B107 0 d107), (.slice A111 2 c111, .slice B111 0 d111), (.slice A114 1 c114, .slice B114 0 d114), (.slice none 0 0, .slice (some ⟨w320.heap.size, 0, none⟩) 2 2), (.slice none 0 0, .slice (some ⟨w320.heap.size + 1, 0, none⟩) 2 2), (.slice none 0 0, .slice (some ⟨w320.heap.size + 1 + 1, 0, none⟩) 1 1), (.slice (some ⟨w371.heap.size, 0, none⟩) 1 1, .slice A128 1 c128)]) := Lib.hid (heap_alloc_new w399 _)
  have HZ : Hid (∀ k (hk : k < 13), ∃ p, ([(.slice A88 1 c88, .slice B88 0 d88), (.slice A91 1 c91, .slice B91 0 d91), (.slice A94 1 c94, .slice B94 0 d94), (.slice A97 1 c97, .slice B97 0 d97), (.slice A100 1 c100, .slice B100 0 d100), (.slice A103 1 c103, .slice B103 0 d103), (.slice A107 2 c107, .slice B107 0 d107), (.slice A111 2 c111, .slice B111 0 d111), (.slice A114 1 c114, .slice B114 0 d114), (.slice none 0 0, .slice (some ⟨w320.heap.size, 0, none⟩) 2 2), (.slice none 0 0, .slice (some ⟨w320.heap.size + 1, 0, none⟩) 2 2), (.slice none 0 0, .slice (some ⟨w320.heap.size + 1 + 1, 0, none⟩) 1 1), (.slice (some ⟨w371.heap.size, 0, none⟩) 1 1, .slice A128 1 c128)] : List (Value × Value))[k]? = some p ∧ Bad (w399.alloc (.cells #[.slice A88 1 c88, .slice B88 0 d88, .slice A91 1 c91, .slice B91 0 d91, .slice A94 1 c94, .slice B94 0 d94, .slice A97 1 c97, .slice B97 0 d97, .slice A100 1 c100, .slice B100 0 d100, .slice A103 1 c103, .slice B103 0 d103, .slice A107 2 c107, .slice B107 0 d107, .slice A111 2 c111, .slice B111 0 d111, .slice A114 1 c114, .slice B114 0 d114, .slice none 0 0, .slice (some ⟨w320.heap.size, 0, none⟩) 2 2, .slice none 0 0, .slice (some ⟨w320.heap.size + 1, 0, none⟩) 2 2, .slice none 0 0, .slice (some ⟨w320.heap.size + 1 + 1, 0, none⟩) 1 1, .slice (some ⟨w371.heap.size, 0, none⟩) 1 1, .slice A128 1 c128] 27)) p) := Lib.hid fun k hk => by
    match k, hk with
    | 0, _ => exact ⟨_, rfl, Z88.out.below hq⟩
    | 1, _ => exact ⟨_, rfl, Z91.out.below hq⟩
    | 2, _ => exact ⟨_, rfl, Z94.out.below hq⟩
    | 3, _ => exact ⟨_, rfl, Z97.out.below hq⟩
    | 4, _ => exact ⟨_, rfl, Z100.out.below hq⟩
    | 5, _ => exact ⟨_, rfl, Z103.out.below hq⟩
    | 6, _ => exact ⟨_, rfl, Z107.out.below hq⟩
    | 7, _ => exact ⟨_, rfl, Z111.out.below hq⟩
    | 8, _ => exact ⟨_, rfl, Z114.out.below hq⟩
    | 9, _ => exact ⟨_, rfl, Z118.out.below hq⟩
    | 10, _ => exact ⟨_, rfl, Z122.out.below hq⟩
    | 11, _ => exact ⟨_, rfl, Z125.out.below hq⟩
    | 12, _ => exact ⟨_, rfl, Z129.out.below hq⟩
  clear Z88 Z91 Z94 Z97 Z100 Z103 Z107 Z111 Z114 Z118 Z122 Z125 Z129
  have BL := Lib.hid (below_after B413.out hq (Nat.le_refl _))
  clear B413 hq
  go_wp2_with fail
  go_loopw [132] (fun s132 wr => ∃ k : Nat, k ≤ 13 ∧ s132 = .int .i64 k ∧ Hid (Below (w399.alloc (.cells #[.slice A88 1 c88, .slice B88 0 d88, .slice A91 1 c91, .slice B91 0 d91, .slice A94 1 c94, .slice B94 0 d94, .slice A97 1 c97, .slice B97 0 d97, .slice A100 1 c100, .slice B100 0 d100, .slice A103 1 c103, .slice B103 0 d103, .slice A107 2 c107, .slice B107 0 d107, .slice A111 2 c111, .slice B111 0 d111, .slice A114 1 c114, .slice B114 0 d114, .slice none 0 0, .slice (some ⟨w320.heap.size, 0, none⟩) 2 2, .slice none 0 0, .slice (some ⟨w320.heap.size + 1, 0, none⟩) 2 2, .slice none 0 0, .slice (some ⟨w320.heap.size + 1 + 1, 0, none⟩) 1 1, .slice (some ⟨w371.heap.size, 0, none⟩) 1 1, .slice A128 1 c128] 27)).heap.size (w399.alloc (.cells #[.slice A88 1 c88, .slice B88 0 d88, .slice A91 1 c91, .slice B91 0 d91, .slice A94 1 c94, .slice B94 0 d94, .slice A97 1 c97, .slice B97 0 d97, .slice A100 1 c100, .slice B100 0 d100, .slice A103 1 c103, .slice B103 0 d103, .slice A107 2 c107, .slice B107 0 d107, .slice A111 2 c111, .slice B111 0 d111, .slice A114 1 c114, .slice B114 0 d114, .slice none 0 0, .slice (some ⟨w320.heap.size, 0, none⟩) 2 2, .slice none 0 0, .slice (some ⟨w320.heap.size + 1, 0, none⟩) 2 2, .slice none 0 0, .slice (some ⟨w320.heap.size + 1 + 1, 0, none⟩) 1 1, .slice (some ⟨w371.heap.size, 0, none⟩) 1 1, .slice A128 1 c128] 27)) wr)) (fun s132 _ => 13 - (intOf s132).toNat)
  case atStart => exact ⟨0, by omega, rfl, Lib.hid (Below.refl _ _)⟩
  case round =>
    obtain ⟨k, hk, rfl, HW⟩ := hrel
    have i3 : (0 : Int) ≤ (k : Int) := by omega
    by_cases hlt : k < 13
    · have hd : decide ((k : Int) < 13) = true := decide_eq_true (by omega)
      have i4 : (k : Int) < 13 := by omega
      obtain ⟨p, hp, A, n, c, B, m, d, L, rfl, hM, hI, hm, hl⟩ := HZ.out k hlt
      have hL : LsBlock wr w399.heap.size [(.slice A88 1 c88, .slice B88 0 d88), (.slice A91 1 c91, .slice B91 0 d91), (.slice A94 1 c94, .slice B94 0 d94), (.slice A97 1 c97, .slice B97 0 d97), (.slice A100 1 c100, .slice B100 0 d100), (.slice A103 1 c103, .slice B103 0 d103), (.slice A107 2 c107, .slice B107 0 d107), (.slice A111 2 c111, .slice B111 0 d111), (.slice A114 1 c114, .slice B114 0 d114), (.slice none 0 0, .slice (some ⟨w320.heap.size, 0, none⟩) 2 2), (.slice none 0 0, .slice (some ⟨w320.heap.size + 1, 0, none⟩) 2 2), (.slice none 0 0, .slice (some ⟨w320.heap.size + 1 + 1, 0, none⟩) 1 1), (.slice (some ⟨w371.heap.size, 0, none⟩) 1 1, .slice A128 1 c128)] := (HW.out.block _ (row_lt HL.out)).trans HL.out
      have hk2 : k < ([(.slice A88 1 c88, .slice B88 0 d88), (.slice A91 1 c91, .slice B91 0 d91), (.slice A94 1 c94, .slice B94 0 d94), (.slice A97 1 c97, .slice B97 0 d97), (.slice A100 1 c100, .slice B100 0 d100), (.slice A103 1 c103, .slice B103 0 d103), (.slice A107 2 c107, .slice B107 0 d107), (.slice A111 2 c111, .slice B111 0 d111), (.slice A114 1 c114, .slice B114 0 d114), (.slice none 0 0, .slice (some ⟨w320.heap.size, 0, none⟩) 2 2), (.slice none 0 0, .slice (some ⟨w320.heap.size + 1, 0, none⟩) 2 2), (.slice none 0 0, .slice (some ⟨w320.heap.size + 1 + 1, 0, none⟩) 1 1), (.slice (some ⟨w371.heap.size, 0, none⟩) 1 1, .slice A128 1 c128)] : List (Value × Value)).length := hlt
      have e : ([(.slice A88 1 c88, .slice B88 0 d88), (.slice A91 1 c91, .slice B91 0 d91), (.slice A94 1 c94, .slice B94 0 d94), (.slice A97 1 c97, .slice B97 0 d97), (.slice A100 1 c100, .slice B100 0 d100), (.slice A103 1 c103, .slice B103 0 d103), (.slice A107 2 c107, .slice B107 0 d107), (.slice A111 2 c111, .slice B111 0 d111), (.slice A114 1 c114, .slice B114 0 d114), (.slice none 0 0, .slice (some ⟨w320.heap.size, 0, none⟩) 2 2), (.slice none 0 0, .slice (some ⟨w320.heap.size + 1, 0, none⟩) 2 2), (.slice none 0 0, .slice (some ⟨w320.heap.size + 1 + 1, 0, none⟩) 1 1), (.slice (some ⟨w371.heap.size, 0, none⟩) 1 1, .slice A128 1 c128)] : List (Value × Value))[k] = (.slice A n c, .slice B m d) := by rw [List.getElem?_eq_getElem hk2] at hp; exact Option.some.inj hp
      obtain ⟨c1, c2⟩ := lsBlock_cell hL hk2
      rw [e] at c1 c2
      obtain ⟨k1, k2⟩ := lbox_cells (lbox_new wr (.slice none 0 0) (.slice none 0 0))
      obtain ⟨f1, f2⟩ := lbox_free (lbox_new wr (.slice none 0 0) (.slice none 0 0))
      obtain ⟨p1, p2⟩ := lbox_cells (lbox_new wr (.slice A n c) (.slice B m d))
      have hq := below_one wr (.cells #[.slice A n c, .slice B m d] 27)
      have HM := Lib.hid ((hM.below HW.out).below hq)
      have HI := Lib.hid ((hI.below HW.out).below hq)
      have HN := Lib.hid hm
      have HO := Lib.hid hl
      have HX := Lib.hid (below_after HW.out hq (Nat.le_refl _))
      clear hp e hL hk2 hM hI hm hl hq HW
      go_wp2_with fail
      (with_reducible refine (may_ok _ _ L false _ HM.out HI.out HO.out HN.out).mono ?_)
      rintro e w5 ⟨rfl, hb⟩
      have B5 := Lib.hid (below_after HX.out hb (Nat.le_refl _))
      clear hb c1 c2 k1 k2 f1 f2 p1 p2 HM HI
      go_wp2_with fail
      go_roundw
      case rel => exact ⟨k + 1, by omega, by go_num, B5⟩
      case measure => simp [intOf]; omega
    · obtain rfl : k = 13 := by omega
      have BF := Lib.hid (below_after BL.out HW.out (Nat.le_refl _))
      clear HZ HL BL HW i3
      go_wp2_with fail
      (with_reducible refine (one_any _ _ _ _ _).mono ?_)
      rintro e w416 ⟨rfl, hb⟩
      clear F412
      clear F414
      have B417 := Lib.hid (below_after BF.out hb (Nat.le_refl _))
      clear BF hb
      go_wp2_with fail
      (with_reducible refine (one_any _ _ _ _ _).mono ?_)
      rintro e w418 ⟨rfl, hb⟩
      have B419 := Lib.hid (below_after B417.out hb (Nat.le_refl _))
      clear B417 hb
      have hq := below_one w418 (.cells #[.int .i64 1, .int .i64 1, .int .u8 2, .int .i64 0, .int .i64 2, .int .i64 1, .int .u8 3, .int .i64 (-1)] 32)
      have B420 := Lib.hid (below_after B419.out hq (Nat.le_refl _))
      clear B419
      clear hq
      have F421 : Hid (Ms (w418.alloc (.cells #[.int .i64 1, .int .i64 1, .int .u8 2, .int .i64 0, .int .i64 2, .int .i64 1, .int .u8 3, .int .i64 (-1)] 32)) (.slice (some ⟨w418.heap.size, 0, none⟩) 2 2) [((1, 1), 2, 0), ((2, 1), 3, (-1))]) := Lib.hid (ms_lit _ [((1, 1), 2, 0), ((2, 1), 3, (-1))])
      have E422 : Hid (gotV (foreO hasNo olderB [((1, 1), 2, 0), ((2, 1), 3, (-1))]) = .tuple #[.agg #[.int .i64 0, .int .i64 0, .int .u8 0, .int .i64 0], .bool false]) := Lib.hid (by rfl)
      go_wp2_with fail
      (with_reducible refine (oldest_any _ [((1, 1), 2, 0), ((2, 1), 3, (-1))] _ F421.out (by decide)).mono ?_)
      rw [E422.out]
      rintro e w423 ⟨rfl, hb⟩
      have F424 := Lib.hid (F421.out.below hb)
      clear F421
      have B425 := Lib.hid (below_after B420.out hb (Nat.le_refl _))
      clear B420 hb
      clear E422
      obtain ⟨k1, k2, k3, k4⟩ := mbox_cells (mbox_new w423 0 0 0 0)
      obtain ⟨f1, f2, f3, f4⟩ := mbox_free (mbox_new w423 0 0 0 0)
      have hq := below_one w423 (.cells #[.int .i64 0, .int .i64 0, .int .u8 0, .int .i64 0] 32)
      clear F424
      have B426 := Lib.hid (below_after B425.out hq (Nat.le_refl _))
      clear B425
      clear hq
      go_wp2_with fail
      (with_reducible refine (one_any _ _ _ _ _).mono ?_)
      rintro e w427 ⟨rfl, hb⟩
      have B428 := Lib.hid (below_after B426.out hb (Nat.le_refl _))
      clear B426 hb
      go_wp2_with fail
      (with_reducible refine (one_any _ _ _ _ _).mono ?_)
      rintro e w429 ⟨rfl, hb⟩
      have B430 := Lib.hid (below_after B428.out hb (Nat.le_refl _))
      clear B428 hb
      go_wp2_with fail
      (with_reducible refine (one_any _ _ _ _ _).mono ?_)
      rintro e w431 ⟨rfl, hb⟩
      have B432 := Lib.hid (below_after B430.out hb (Nat.le_refl _))
      clear B430 hb
      have hq := below_one w431 (.cells #[.int .i64 3, .int .i64 1, .int .u8 3, .int .i64 5, .int .i64 2, .int .i64 2, .int .u8 6, .int .i64 5, .int .i64 1, .int .i64 1, .int .u8 3, .int .i64 6] 32)
      have B433 := Lib.hid (below_after B432.out hq (Nat.le_refl _))
      clear B432
      clear hq
      have F434 : Hid (Ms (w431.alloc (.cells #[.int .i64 3, .int .i64 1, .int .u8 3, .int .i64 5, .int .i64 2, .int .i64 2, .int .u8 6, .int .i64 5, .int .i64 1, .int .i64 1, .int .u8 3, .int .i64 6] 32)) (.slice (some ⟨w431.heap.size, 0, none⟩) 3 3) [((3, 1), 3, 5), ((2, 2), 6, 5), ((1, 1), 3, 6)]) := Lib.hid (ms_lit _ [((3, 1), 3, 5), ((2, 2), 6, 5), ((1, 1), 3, 6)])
      have E435 : Hid (gotV (foreO hasNo olderB [((3, 1), 3, 5), ((2, 2), 6, 5), ((1, 1), 3, 6)]) = .tuple #[.agg #[.int .i64 2, .int .i64 2, .int .u8 6, .int .i64 5], .bool true]) := Lib.hid (by rfl)
      go_wp2_with fail
      (with_reducible refine (oldest_any _ [((3, 1), 3, 5), ((2, 2), 6, 5), ((1, 1), 3, 6)] _ F434.out (by decide)).mono ?_)
      rw [E435.out]
      rintro e w436 ⟨rfl, hb⟩
      have F437 := Lib.hid (F434.out.below hb)
      clear F434
      have B438 := Lib.hid (below_after B433.out hb (Nat.le_refl _))
      clear B433 hb
      clear E435
      obtain ⟨k1, k2, k3, k4⟩ := mbox_cells (mbox_new w436 0 0 0 0)
      obtain ⟨f1, f2, f3, f4⟩ := mbox_free (mbox_new w436 0 0 0 0)
      have hq := below_one w436 (.cells #[.int .i64 2, .int .i64 2, .int .u8 6, .int .i64 5] 32)
      clear F437
      have B439 := Lib.hid (below_after B438.out hq (Nat.le_refl _))
      clear B438
      clear hq
      have F440 : Hid (MBox (w436.alloc (.cells #[.int .i64 2, .int .i64 2, .int .u8 6, .int .i64 5] 32)) w436.heap.size 2 2 6 5) := Lib.hid (mbox_new _ _ _ _ _)
      go_wp2_with fail
      (with_reducible refine (one_any _ _ _ _ _).mono ?_)
      rintro e w441 ⟨rfl, hb⟩
      have F442 := Lib.hid (mbox_below F440.out hb)
      clear F440
      have B443 := Lib.hid (below_after B439.out hb (Nat.le_refl _))
      clear B439 hb
      go_wp2_with fail
      (with_reducible refine (one_any _ _ _ _ _).mono ?_)
      rintro e w444 ⟨rfl, hb⟩
      have F445 := Lib.hid (mbox_below F442.out hb)
      clear F442
      have B446 := Lib.hid (below_after B443.out hb (Nat.le_refl _))
      clear B443 hb
      go_wp2_with fail
      (with_reducible refine (one_any _ _ _ _ _).mono ?_)
      rintro e w447 ⟨rfl, hb⟩
      have F448 := Lib.hid (mbox_below F445.out hb)
      clear F445
      have B449 := Lib.hid (below_after B446.out hb (Nat.le_refl _))
      clear B446 hb
      have hq := below_one w447 (.cells #[.int .i64 3, .int .i64 1, .int .u8 3, .int .i64 5, .int .i64 3, .int .i64 4, .int .u8 2, .int .i64 0, .int .i64 3, .int .i64 2, .int .u8 3, .int .i64 1] 32)
      have F450 := Lib.hid (mbox_below F448.out hq)
      clear F448
      have B451 := Lib.hid (below_after B449.out hq (Nat.le_refl _))
      clear B449
      clear hq
      have F452 : Hid (Ms (w447.alloc (.cells #[.int .i64 3, .int .i64 1, .int .u8 3, .int .i64 5, .int .i64 3, .int .i64 4, .int .u8 2, .int .i64 0, .int .i64 3, .int .i64 2, .int .u8 3, .int .i64 1] 32)) (.slice (some ⟨w447.heap.size, 0, none⟩) 3 3) [((3, 1), 3, 5), ((3, 4), 2, 0), ((3, 2), 3, 1)]) := Lib.hid (ms_lit _ [((3, 1), 3, 5), ((3, 4), 2, 0), ((3, 2), 3, 1)])
      have E453 : Hid (gotV (foreO (isAt 3) newerB [((3, 1), 3, 5), ((3, 4), 2, 0), ((3, 2), 3, 1)]) = .tuple #[.agg #[.int .i64 3, .int .i64 4, .int .u8 2, .int .i64 0], .bool true]) := Lib.hid (by rfl)
      go_wp2_with fail
      (with_reducible refine (at_any _ [((3, 1), 3, 5), ((3, 4), 2, 0), ((3, 2), 3, 1)] 3 _ F452.out (by decide)).mono ?_)
      rw [E453.out]
      rintro e w454 ⟨rfl, hb⟩
      have F455 := Lib.hid (mbox_below F450.out hb)
      clear F450
      have F456 := Lib.hid (F452.out.below hb)
      clear F452
      have B457 := Lib.hid (below_after B451.out hb (Nat.le_refl _))
      clear B451 hb
      clear E453
      obtain ⟨k1, k2, k3, k4⟩ := mbox_cells (mbox_new w454 0 0 0 0)
      obtain ⟨f1, f2, f3, f4⟩ := mbox_free (mbox_new w454 0 0 0 0)
      have hq := below_one w454 (.cells #[.int .i64 3, .int .i64 4, .int .u8 2, .int .i64 0] 32)
      have F458 := Lib.hid (mbox_below F455.out hq)
      clear F455
      clear F456
      have B459 := Lib.hid (below_after B457.out hq (Nat.le_refl _))
      clear B457
      clear hq
      have F460 : Hid (MBox (w454.alloc (.cells #[.int .i64 3, .int .i64 4, .int .u8 2, .int .i64 0] 32)) w454.heap.size 3 4 2 0) := Lib.hid (mbox_new _ _ _ _ _)
      have E461 : Hid (gotV (getO [] (0, 0)) = .tuple #[.agg #[.int .i64 0, .int .i64 0, .int .u8 0, .int .i64 0], .bool false]) := Lib.hid (by rfl)
      go_wp2_with fail
      (with_reducible refine (get_any (.slice none 0 0) [] 0 0 _ (Rcs.nil _) (by decide)).mono ?_)
      rw [E461.out]
      rintro e w462 ⟨rfl, hb⟩
      have F463 := Lib.hid (mbox_below F458.out hb)
      clear F458
      have F464 := Lib.hid (mbox_below F460.out hb)
      clear F460
      have B465 := Lib.hid (below_after B459.out hb (Nat.le_refl _))
      clear B459 hb
      clear E461
      obtain ⟨k1, k2, k3, k4⟩ := mbox_cells (mbox_new w462 0 0 0 0)
      obtain ⟨f1, f2, f3, f4⟩ := mbox_free (mbox_new w462 0 0 0 0)
      have hq := below_one w462 (.cells #[.int .i64 0, .int .i64 0, .int .u8 0, .int .i64 0] 32)
      have F466 := Lib.hid (mbox_below F463.out hq)
      clear F463
      have F467 := Lib.hid (mbox_below F464.out hq)
      clear F464
      have B468 := Lib.hid (below_after B465.out hq (Nat.le_refl _))
      clear B465
      clear hq
      obtain ⟨m1, m2, m3, m4⟩ := mbox_cells F466.out
      obtain ⟨n1, n2, n3, n4⟩ := mbox_cells F467.out
      have E469 : Hid (nextZ [] = 1) := Lib.hid (by decide +kernel)
      go_wp2_with fail
      (with_reducible refine (next_any (.slice none 0 0) [] _ (Rcs.nil _) (by decide)).mono ?_)
      rw [E469.out]
      rintro e w470 ⟨rfl, hb⟩
      clear F466
      clear F467
      have B471 := Lib.hid (below_after B468.out hb (Nat.le_refl _))
      clear B468 hb
      clear E469
      go_wp2_with fail
      (with_reducible refine (one_any _ _ _ _ _).mono ?_)
      rintro e w472 ⟨rfl, hb⟩
      have B473 := Lib.hid (below_after B471.out hb (Nat.le_refl _))
      clear B471 hb
      have hq := below_one w472 (.cells #[.int .i64 1, .int .i64 1, .int .u8 3, .int .i64 1099511627776] 32)
      have B474 := Lib.hid (below_after B473.out hq (Nat.le_refl _))
      clear B473
      clear hq
      have F475 : Hid (Ms (w472.alloc (.cells #[.int .i64 1, .int .i64 1, .int .u8 3, .int .i64 1099511627776] 32)) (.slice (some ⟨w472.heap.size, 0, none⟩) 1 1) [((1, 1), 3, 1099511627776)]) := Lib.hid (ms_lit _ [((1, 1), 3, 1099511627776)])
      have E476 : Hid (nextZ [((1, 1), 3, 1099511627776)] = 1099511627776) := Lib.hid (by decide +kernel)
      go_wp2_with fail
      (with_reducible refine (next_any _ [((1, 1), 3, 1099511627776)] _ F475.out (by decide)).mono ?_)
      rw [E476.out]
      rintro e w477 ⟨rfl, hb⟩
      have F478 := Lib.hid (F475.out.below hb)
      clear F475
      have B479 := Lib.hid (below_after B474.out hb (Nat.le_refl _))
      clear B474 hb
      clear E476
      go_wp2_with fail
      (with_reducible refine (low_any _ _ _).mono ?_)
      rintro e w480 ⟨V205, rfl, hi, hb⟩
      clear F478
      have B481 := Lib.hid (below_after B479.out hb (Nat.le_refl _))
      clear B479 hb
      obtain ⟨A205, c205, rfl⟩ : ∃ A c, V205 = .slice A 1 c := by obtain ⟨A, c, h, _⟩ := id hi; exact ⟨A, c, h⟩
      have F482 := Lib.hid hi
      clear hi
      have E483 : Hid (goneB [(1, 3)] (1, 3) = true) := Lib.hid (by decide +kernel)
      go_wp2_with fail
      (with_reducible refine (gone_of _ [(1, 3)] 1 3 _ F482.out (by decide)).mono ?_)
      rw [E483.out]
      rintro e w484 ⟨rfl, hb⟩
      have F485 := Lib.hid (F482.out.below hb)
      clear F482
      have B486 := Lib.hid (below_after B481.out hb (Nat.le_refl _))
      clear B481 hb
      clear E483
      go_wp2_with fail
      (with_reducible refine (low_any _ _ _).mono ?_)
      rintro e w487 ⟨V210, rfl, hi, hb⟩
      clear F485
      have B488 := Lib.hid (below_after B486.out hb (Nat.le_refl _))
      clear B486 hb
      obtain ⟨A210, c210, rfl⟩ : ∃ A c, V210 = .slice A 1 c := by obtain ⟨A, c, h, _⟩ := id hi; exact ⟨A, c, h⟩
      have F489 := Lib.hid hi
      clear hi
      have E490 : Hid (goneB [(1, 3)] (1, 4) = false) := Lib.hid (by decide +kernel)
      go_wp2_with fail
      (with_reducible refine (gone_of _ [(1, 3)] 1 4 _ F489.out (by decide)).mono ?_)
      rw [E490.out]
      rintro e w491 ⟨rfl, hb⟩
      have F492 := Lib.hid (F489.out.below hb)
      clear F489
      have B493 := Lib.hid (below_after B488.out hb (Nat.le_refl _))
      clear B488 hb
      clear E490
      have E494 : Hid (floorZ [] 1 = 0) := Lib.hid (by decide +kernel)
      go_wp2_with fail
      (with_reducible refine (floor_any (.slice none 0 0) [] 1 _ (Ids.nil _) (by decide)).mono ?_)
      rw [E494.out]
      rintro e w495 ⟨rfl, hb⟩
      clear F492
      have B496 := Lib.hid (below_after B493.out hb (Nat.le_refl _))
      clear B493 hb
      clear E494
      go_wp2_with fail
      go_ret
      exact ⟨rfl, B496.out⟩
end Go.Proofs.Ytciolhpkhblnbaa
