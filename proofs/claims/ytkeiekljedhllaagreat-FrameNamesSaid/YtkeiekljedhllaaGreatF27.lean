/-
  Carried over and put together: contracts of this program's functions, and plain facts. No statement is proved in this text.
-/
import Derived.Test.YtkeiekljedhllaaGreatF26
set_option maxRecDepth 20000
namespace Go.Proofs.YtkeiekljedhllaaGreat
open Go Go.RowKit
theorem zbox_below {w w' : World} {Z : Nat} {l : List Gl} (h : ZBox w Z l) (hb : Below w.heap.size w w') : ZBox w' Z l := by
  obtain ⟨cs, h1, h2⟩ := h
  exact ⟨cs, (hb.block _ (row_lt h1)).trans h1, h2⟩
theorem zbox_cell {w : World} {Z : Nat} {l : List Gl} (h : ZBox w Z l) (j i : Nat) {y : Gl} (hj : l[j]? = some y) {u : Value} (hu : (encG y)[i]? = some u) : w.cell? ⟨Z, j * 15 + i, none⟩ = some u ∧ w.frozen? ⟨Z, j * 15 + i, none⟩ = false := by
  obtain ⟨cs, h1, h2⟩ := h
  obtain ⟨hl, rfl⟩ := List.getElem?_eq_some_iff.1 hj
  refine ⟨?_, by simp [World.frozen?, h1]⟩
  rw [cell_of_row _ _ _ _ _ _ h1, ← Array.getElem?_toList, h2]
  exact flatR_at encG_len l j hl i u hu
theorem zbox_set {w : World} {Z : Nat} {l : List Gl} (h : ZBox w Z l) (j i : Nat) {y x : Gl} {v : Value} (hj : l[j]? = some y) (hi : i < 15) (hx : encG x = (encG y).set i v) : ZBox (w.setCell ⟨Z, j * 15 + i, none⟩ v) Z (l.set j x) := by
  obtain ⟨cs, h1, h2⟩ := h
  obtain ⟨hl, rfl⟩ := List.getElem?_eq_some_iff.1 hj
  refine ⟨cs.setIfInBounds (j * 15 + i) v, ?_, ?_⟩
  · simp [World.setCell, Array.getElem?_modify, h1]
  · rw [Array.toList_setIfInBounds, h2]
    exact flatR_set encG_len v l j i x hl hi hx
theorem set_same {l : List Gl} {j : Nat} {y x : Gl} (h : l[j]? = some y) : (l.set j x)[j]? = some x := by
  obtain ⟨hl, _⟩ := List.getElem?_eq_some_iff.1 h
  rw [List.getElem?_set_self hl]
theorem zbox_two {w : World} {Z : Nat} {l : List Gl} (h : ZBox w Z l) (j i : Nat) {y x1 x2 : Gl} {v1 v2 : Value} (hj : l[j]? = some y) (hi : i < 14) (h1 : encG x1 = (encG y).set i v1) (h2 : encG x2 = (encG x1).set (i + 1) v2) : ZBox ((w.setCell ⟨Z, j * 15 + i, none⟩ v1).setCell ⟨Z, j * 15 + (i + 1), none⟩ v2) Z (l.set j x2) := by
  have k := zbox_set (zbox_set h j i hj (by omega) h1) j (i + 1) (set_same hj) (by omega) h2
  rwa [List.set_set] at k
/-- A frame's view. -/
def upV (y : Gl) (V : Vw) (a b c d e : SL) : Gl := ⟨{y.F with v := V}, a, b, c, d, e, y.is⟩
theorem zbox_view {w : World} {Z : Nat} {l : List Gl} (h : ZBox w Z l) (j : Nat) {y : Gl} (hj : l[j]? = some y) (V : Vw) (a b c d e : SL) :
    ZBox (((((w.setCell ⟨Z, j * 15 + 9, none⟩ (.slice a.1 a.2.1 a.2.2)).setCell ⟨Z, j * 15 + 10, none⟩ (.slice b.1 b.2.1 b.2.2)).setCell ⟨Z, j * 15 + 11, none⟩ (.slice c.1 c.2.1 c.2.2)).setCell ⟨Z, j * 15 + 12, none⟩ (.slice d.1 d.2.1 d.2.2)).setCell ⟨Z, j * 15 + 13, none⟩ (.slice e.1 e.2.1 e.2.2)) Z (l.set j (upV y V a b c d e)) := by
  have k1 := zbox_set (x := ⟨y.F, a, y.b, y.c, y.d, y.e, y.is⟩) (v := .slice a.1 a.2.1 a.2.2) h j 9 hj (by omega) rfl
  have k2 := zbox_set (x := ⟨y.F, a, b, y.c, y.d, y.e, y.is⟩) (v := .slice b.1 b.2.1 b.2.2) k1 j 10 (set_same hj) (by omega) rfl
  rw [List.set_set] at k2
  have k3 := zbox_set (x := ⟨y.F, a, b, c, y.d, y.e, y.is⟩) (v := .slice c.1 c.2.1 c.2.2) k2 j 11 (set_same hj) (by omega) rfl
  rw [List.set_set] at k3
  have k4 := zbox_set (x := ⟨y.F, a, b, c, d, y.e, y.is⟩) (v := .slice d.1 d.2.1 d.2.2) k3 j 12 (set_same hj) (by omega) rfl
  rw [List.set_set] at k4
  have k5 := zbox_set (x := upV y V a b c d e) (v := .slice e.1 e.2.1 e.2.2) k4 j 13 (set_same hj) (by omega) rfl
  rwa [List.set_set] at k5
/-- What a piece of code leaves that writes into the list of frames. -/
def Zs (gv ga gi g i Z : Nat) (w : World) (l : List Gl) (Q : Exit → Act → World → Prop) : Prop := ∀ a' w', Fz a' gv ga gi g i → Sl a' 8 (.slice (some ⟨Z, 0, none⟩) 11 11) → ZBox w' Z l → w.grownBy w' (some Z) → Q .normal a' w'
set_option maxHeartbeats 8000000 in
theorem r22 {a : Act} {w : World} {gv ga gi g i Z : Nat} {Q : Exit → Act → World → Prop} (h : Fz a gv ga gi g i) (h8 : Sl a 8 (.slice (some ⟨Z, 0, none⟩) 11 11)) (l : List Gl) (hz : ZBox w Z l) {y : Gl} (hj : l[1]? = some y)
    (hQ : Zs gv ga gi g i Z w (l.set 1 ⟨{y.F with n := 1099511627776}, y.a, y.b, y.c, y.d, y.e, y.is⟩) Q) : Code.wp Tryz.prog (reg 22) Q a w := by
  obtain ⟨f, hf, rfl, h0, h1, h2, h3, h4, h79, h80, h81⟩ := h.spell
  have h8 : f 8 = _ := (hf 8).symm.trans h8
  have HQ := Lib.hid hQ
  have HZ := Lib.hid hz
  have HJ := Lib.hid hj
  obtain ⟨c0, e0⟩ := zbox_cell hz 1 5 HJ.out rfl
  rw [show 1 * 15 + 5 = 20 from rfl] at c0 e0
  have KZ := Lib.hid (zbox_set (x := ⟨{y.F with n := 1099511627776}, y.a, y.b, y.c, y.d, y.e, y.is⟩) (v := .int .i64 1099511627776) hz 1 5 hj (by omega) rfl)
  have KG := Lib.hid (grownSet w Z 20 (.int .i64 1099511627776))
  rw [show 1 * 15 + 5 = 20 from rfl] at KZ
  clear hQ h hf hz hj
  conv => arg 2; whnf
  simp only [h0, h1, h2, h3, h4, h8, h79, h80, h81]
  go_wp2_with fail
  exact HQ.out _ _ ⟨rfl, rfl, rfl, rfl, rfl, rfl, rfl, rfl, rfl, rfl⟩ rfl KZ.out KG.out
set_option maxHeartbeats 8000000 in
theorem r23 {a : Act} {w : World} {gv ga gi g i Z : Nat} {Q : Exit → Act → World → Prop} (h : Fz a gv ga gi g i) (h8 : Sl a 8 (.slice (some ⟨Z, 0, none⟩) 11 11)) (l : List Gl) (hz : ZBox w Z l) {y : Gl} (hj : l[2]? = some y)
    (hQ : Zs gv ga gi g i Z w (l.set 2 ⟨{y.F with q := 9}, y.a, y.b, y.c, y.d, y.e, y.is⟩) Q) : Code.wp Tryz.prog (reg 23) Q a w := by
  obtain ⟨f, hf, rfl, h0, h1, h2, h3, h4, h79, h80, h81⟩ := h.spell
  have h8 : f 8 = _ := (hf 8).symm.trans h8
  have HQ := Lib.hid hQ
  have HZ := Lib.hid hz
  have HJ := Lib.hid hj
  obtain ⟨c0, e0⟩ := zbox_cell hz 2 6 HJ.out rfl
  rw [show 2 * 15 + 6 = 36 from rfl] at c0 e0
  have KZ := Lib.hid (zbox_set (x := ⟨{y.F with q := 9}, y.a, y.b, y.c, y.d, y.e, y.is⟩) (v := .int .i64 9) hz 2 6 hj (by omega) rfl)
  have KG := Lib.hid (grownSet w Z 36 (.int .i64 9))
  rw [show 2 * 15 + 6 = 36 from rfl] at KZ
  clear hQ h hf hz hj
  conv => arg 2; whnf
  simp only [h0, h1, h2, h3, h4, h8, h79, h80, h81]
  go_wp2_with fail
  exact HQ.out _ _ ⟨rfl, rfl, rfl, rfl, rfl, rfl, rfl, rfl, rfl, rfl⟩ rfl KZ.out KG.out
set_option maxHeartbeats 8000000 in
theorem r29 {a : Act} {w : World} {gv ga gi g i Z : Nat} {Q : Exit → Act → World → Prop} (h : Fz a gv ga gi g i) (h8 : Sl a 8 (.slice (some ⟨Z, 0, none⟩) 11 11)) (l : List Gl) (hz : ZBox w Z l) {y : Gl} (hj : l[8]? = some y)
    (hQ : Zs gv ga gi g i Z w (l.set 8 ⟨{y.F with n := 1099511627777}, y.a, y.b, y.c, y.d, y.e, y.is⟩) Q) : Code.wp Tryz.prog (reg 29) Q a w := by
  obtain ⟨f, hf, rfl, h0, h1, h2, h3, h4, h79, h80, h81⟩ := h.spell
  have h8 : f 8 = _ := (hf 8).symm.trans h8
  have HQ := Lib.hid hQ
  have HZ := Lib.hid hz
  have HJ := Lib.hid hj
  obtain ⟨c0, e0⟩ := zbox_cell hz 8 5 HJ.out rfl
  rw [show 8 * 15 + 5 = 125 from rfl] at c0 e0
  have KZ := Lib.hid (zbox_set (x := ⟨{y.F with n := 1099511627777}, y.a, y.b, y.c, y.d, y.e, y.is⟩) (v := .int .i64 1099511627777) hz 8 5 hj (by omega) rfl)
  have KG := Lib.hid (grownSet w Z 125 (.int .i64 1099511627777))
  rw [show 8 * 15 + 5 = 125 from rfl] at KZ
  clear hQ h hf hz hj
  conv => arg 2; whnf
  simp only [h0, h1, h2, h3, h4, h8, h79, h80, h81]
  go_wp2_with fail
  exact HQ.out _ _ ⟨rfl, rfl, rfl, rfl, rfl, rfl, rfl, rfl, rfl, rfl⟩ rfl KZ.out KG.out
set_option maxHeartbeats 8000000 in
theorem r30 {a : Act} {w : World} {gv ga gi g i Z : Nat} {Q : Exit → Act → World → Prop} (h : Fz a gv ga gi g i) (h8 : Sl a 8 (.slice (some ⟨Z, 0, none⟩) 11 11)) (l : List Gl) (hz : ZBox w Z l) {y : Gl} (hj : l[9]? = some y)
    (hQ : Zs gv ga gi g i Z w (l.set 9 ⟨{y.F with q := (-1)}, y.a, y.b, y.c, y.d, y.e, y.is⟩) Q) : Code.wp Tryz.prog (reg 30) Q a w := by
  obtain ⟨f, hf, rfl, h0, h1, h2, h3, h4, h79, h80, h81⟩ := h.spell
  have h8 : f 8 = _ := (hf 8).symm.trans h8
  have HQ := Lib.hid hQ
  have HZ := Lib.hid hz
  have HJ := Lib.hid hj
  obtain ⟨c0, e0⟩ := zbox_cell hz 9 6 HJ.out rfl
  rw [show 9 * 15 + 6 = 141 from rfl] at c0 e0
  have KZ := Lib.hid (zbox_set (x := ⟨{y.F with q := (-1)}, y.a, y.b, y.c, y.d, y.e, y.is⟩) (v := .int .i64 (-1)) hz 9 6 hj (by omega) rfl)
  have KG := Lib.hid (grownSet w Z 141 (.int .i64 (-1)))
  rw [show 9 * 15 + 6 = 141 from rfl] at KZ
  clear hQ h hf hz hj
  conv => arg 2; whnf
  simp only [h0, h1, h2, h3, h4, h8, h79, h80, h81]
  go_wp2_with fail
  exact HQ.out _ _ ⟨rfl, rfl, rfl, rfl, rfl, rfl, rfl, rfl, rfl, rfl⟩ rfl KZ.out KG.out
set_option maxHeartbeats 8000000 in
theorem r24 {a : Act} {w : World} {gv ga gi g i Z : Nat} {Q : Exit → Act → World → Prop} (h : Fz a gv ga gi g i) (h8 : Sl a 8 (.slice (some ⟨Z, 0, none⟩) 11 11)) (l : List Gl) (hz : ZBox w Z l) {y : Gl} (hj : l[3]? = some y)
    (hQ : Zs gv ga gi g i Z w (l.set 3 ⟨{y.F with f := (12, 1)}, y.a, y.b, y.c, y.d, y.e, y.is⟩) Q) : Code.wp Tryz.prog (reg 24) Q a w := by
  obtain ⟨f, hf, rfl, h0, h1, h2, h3, h4, h79, h80, h81⟩ := h.spell
  have h8 : f 8 = _ := (hf 8).symm.trans h8
  have HQ := Lib.hid hQ
  have HZ := Lib.hid hz
  have HJ := Lib.hid hj
  clear hQ h hf hz hj
  conv => arg 2; whnf
  simp only [h0, h1, h2, h3, h4, h8, h79, h80, h81]
  go_wp2_with fail
  (with_reducible refine (of_any 12 _).mono ?_)
  rintro e1 w1 ⟨rfl, hb⟩
  have GB := Lib.hid (show w.grownBy w1 (some Z) from ⟨hb.os, hb.tape, hb.output, hb.size, fun k hk _ => hb.block k hk⟩)
  have HZ1 := Lib.hid (zbox_below HZ.out hb)
  clear hb
  obtain ⟨c0, e0⟩ := zbox_cell HZ1.out 3 1 HJ.out rfl
  rw [show 3 * 15 + 1 = 46 from rfl] at c0 e0
  obtain ⟨c1, e1⟩ := zbox_cell HZ1.out 3 2 HJ.out rfl
  rw [show 3 * 15 + 2 = 47 from rfl] at c1 e1
  have KZ := Lib.hid (zbox_two (x1 := ⟨{y.F with f := (12, y.F.f.2)}, y.a, y.b, y.c, y.d, y.e, y.is⟩) (x2 := ⟨{y.F with f := (12, 1)}, y.a, y.b, y.c, y.d, y.e, y.is⟩) (v1 := .int .i64 12) (v2 := .int .i64 1) HZ1.out 3 1 HJ.out (by omega) rfl rfl)
  have KG := Lib.hid (show w.grownBy ((w1.setCell ⟨Z, 46, none⟩ (.int .i64 12)).setCell ⟨Z, 47, none⟩ (.int .i64 1)) (some Z) from grown_transF GB.out (grown_transF (grownSet _ _ _ _) (grownSet _ _ _ _)))
  rw [show 3 * 15 + 1 = 46 from rfl, show 3 * 15 + (1 + 1) = 47 from rfl] at KZ
  go_wp2_with fail
  exact HQ.out _ _ ⟨rfl, rfl, rfl, rfl, rfl, rfl, rfl, rfl, rfl, rfl⟩ rfl KZ.out KG.out
set_option maxHeartbeats 8000000 in
theorem r25 {a : Act} {w : World} {gv ga gi g i Z : Nat} {Q : Exit → Act → World → Prop} (h : Fz a gv ga gi g i) (h8 : Sl a 8 (.slice (some ⟨Z, 0, none⟩) 11 11)) (l : List Gl) (hz : ZBox w Z l) {y : Gl} (hj : l[4]? = some y)
    (hQ : Zs gv ga gi g i Z w (l.set 4 ⟨{y.F with t := (12, 1)}, y.a, y.b, y.c, y.d, y.e, y.is⟩) Q) : Code.wp Tryz.prog (reg 25) Q a w := by
  obtain ⟨f, hf, rfl, h0, h1, h2, h3, h4, h79, h80, h81⟩ := h.spell
  have h8 : f 8 = _ := (hf 8).symm.trans h8
  have HQ := Lib.hid hQ
  have HZ := Lib.hid hz
  have HJ := Lib.hid hj
  clear hQ h hf hz hj
  conv => arg 2; whnf
  simp only [h0, h1, h2, h3, h4, h8, h79, h80, h81]
  go_wp2_with fail
  (with_reducible refine (of_any 12 _).mono ?_)
  rintro e1 w1 ⟨rfl, hb⟩
  have GB := Lib.hid (show w.grownBy w1 (some Z) from ⟨hb.os, hb.tape, hb.output, hb.size, fun k hk _ => hb.block k hk⟩)
  have HZ1 := Lib.hid (zbox_below HZ.out hb)
  clear hb
  obtain ⟨c0, e0⟩ := zbox_cell HZ1.out 4 3 HJ.out rfl
  rw [show 4 * 15 + 3 = 63 from rfl] at c0 e0
  obtain ⟨c1, e1⟩ := zbox_cell HZ1.out 4 4 HJ.out rfl
  rw [show 4 * 15 + 4 = 64 from rfl] at c1 e1
  have KZ := Lib.hid (zbox_two (x1 := ⟨{y.F with t := (12, y.F.t.2)}, y.a, y.b, y.c, y.d, y.e, y.is⟩) (x2 := ⟨{y.F with t := (12, 1)}, y.a, y.b, y.c, y.d, y.e, y.is⟩) (v1 := .int .i64 12) (v2 := .int .i64 1) HZ1.out 4 3 HJ.out (by omega) rfl rfl)
  have KG := Lib.hid (show w.grownBy ((w1.setCell ⟨Z, 63, none⟩ (.int .i64 12)).setCell ⟨Z, 64, none⟩ (.int .i64 1)) (some Z) from grown_transF GB.out (grown_transF (grownSet _ _ _ _) (grownSet _ _ _ _)))
  rw [show 4 * 15 + 3 = 63 from rfl, show 4 * 15 + (3 + 1) = 64 from rfl] at KZ
  go_wp2_with fail
  exact HQ.out _ _ ⟨rfl, rfl, rfl, rfl, rfl, rfl, rfl, rfl, rfl, rfl⟩ rfl KZ.out KG.out
set_option maxHeartbeats 8000000 in
theorem r26 {a : Act} {w : World} {gv ga gi g i Z : Nat} {Q : Exit → Act → World → Prop} (h : Fz a gv ga gi g i) (h8 : Sl a 8 (.slice (some ⟨Z, 0, none⟩) 11 11)) (l : List Gl) (hz : ZBox w Z l) {y : Gl} (hj : l[5]? = some y)
    (hQ : Zs gv ga gi g i Z w (l.set 5 ⟨{y.F with b := (12, 1)}, y.a, y.b, y.c, y.d, y.e, y.is⟩) Q) : Code.wp Tryz.prog (reg 26) Q a w := by
  obtain ⟨f, hf, rfl, h0, h1, h2, h3, h4, h79, h80, h81⟩ := h.spell
  have h8 : f 8 = _ := (hf 8).symm.trans h8
  have HQ := Lib.hid hQ
  have HZ := Lib.hid hz
  have HJ := Lib.hid hj
  clear hQ h hf hz hj
  conv => arg 2; whnf
  simp only [h0, h1, h2, h3, h4, h8, h79, h80, h81]
  go_wp2_with fail
  (with_reducible refine (of_any 12 _).mono ?_)
  rintro e1 w1 ⟨rfl, hb⟩
  have GB := Lib.hid (show w.grownBy w1 (some Z) from ⟨hb.os, hb.tape, hb.output, hb.size, fun k hk _ => hb.block k hk⟩)
  have HZ1 := Lib.hid (zbox_below HZ.out hb)
  clear hb
  obtain ⟨c0, e0⟩ := zbox_cell HZ1.out 5 7 HJ.out rfl
  rw [show 5 * 15 + 7 = 82 from rfl] at c0 e0
  obtain ⟨c1, e1⟩ := zbox_cell HZ1.out 5 8 HJ.out rfl
  rw [show 5 * 15 + 8 = 83 from rfl] at c1 e1
  have KZ := Lib.hid (zbox_two (x1 := ⟨{y.F with b := (12, y.F.b.2)}, y.a, y.b, y.c, y.d, y.e, y.is⟩) (x2 := ⟨{y.F with b := (12, 1)}, y.a, y.b, y.c, y.d, y.e, y.is⟩) (v1 := .int .i64 12) (v2 := .int .i64 1) HZ1.out 5 7 HJ.out (by omega) rfl rfl)
  have KG := Lib.hid (show w.grownBy ((w1.setCell ⟨Z, 82, none⟩ (.int .i64 12)).setCell ⟨Z, 83, none⟩ (.int .i64 1)) (some Z) from grown_transF GB.out (grown_transF (grownSet _ _ _ _) (grownSet _ _ _ _)))
  rw [show 5 * 15 + 7 = 82 from rfl, show 5 * 15 + (7 + 1) = 83 from rfl] at KZ
  go_wp2_with fail
  exact HQ.out _ _ ⟨rfl, rfl, rfl, rfl, rfl, rfl, rfl, rfl, rfl, rfl⟩ rfl KZ.out KG.out
set_option maxHeartbeats 8000000 in
theorem r27 {a : Act} {w : World} {gv ga gi g i Z : Nat} {Q : Exit → Act → World → Prop} (h : Fz a gv ga gi g i) (h8 : Sl a 8 (.slice (some ⟨Z, 0, none⟩) 11 11)) (l : List Gl) (hz : ZBox w Z l) {y : Gl} (hj : l[6]? = some y) (V : Vw) {sa sb sc sd se : SL} (hv : VBox w gv sa sb sc sd se)
    (hQ : Zs gv ga gi g i Z w (l.set 6 (upV y V sa sb sc sd se)) Q) : Code.wp Tryz.prog (reg 27) Q a w := by
  obtain ⟨f, hf, rfl, h0, h1, h2, h3, h4, h79, h80, h81⟩ := h.spell
  have h8 : f 8 = _ := (hf 8).symm.trans h8
  have HQ := Lib.hid hQ
  have HZ := Lib.hid hz
  have HJ := Lib.hid hj
  obtain ⟨p0, p1, p2, p3, p4⟩ := vbox_cells hv
  obtain ⟨c0, e0⟩ := zbox_cell hz 6 9 HJ.out rfl
  rw [show 6 * 15 + 9 = 99 from rfl] at c0 e0
  obtain ⟨c1, e1⟩ := zbox_cell hz 6 10 HJ.out rfl
  rw [show 6 * 15 + 10 = 100 from rfl] at c1 e1
  obtain ⟨c2, e2⟩ := zbox_cell hz 6 11 HJ.out rfl
  rw [show 6 * 15 + 11 = 101 from rfl] at c2 e2
  obtain ⟨c3, e3⟩ := zbox_cell hz 6 12 HJ.out rfl
  rw [show 6 * 15 + 12 = 102 from rfl] at c3 e3
  obtain ⟨c4, e4⟩ := zbox_cell hz 6 13 HJ.out rfl
  rw [show 6 * 15 + 13 = 103 from rfl] at c4 e4
  have KZ := Lib.hid (zbox_view hz 6 hj V sa sb sc sd se)
  have KG := Lib.hid (show w.grownBy (((((w.setCell ⟨Z, 99, none⟩ (.slice sa.1 sa.2.1 sa.2.2)).setCell ⟨Z, 100, none⟩ (.slice sb.1 sb.2.1 sb.2.2)).setCell ⟨Z, 101, none⟩ (.slice sc.1 sc.2.1 sc.2.2)).setCell ⟨Z, 102, none⟩ (.slice sd.1 sd.2.1 sd.2.2)).setCell ⟨Z, 103, none⟩ (.slice se.1 se.2.1 se.2.2)) (some Z) from grown_transF (grown_transF (grown_transF (grown_transF (grownSet _ _ _ _) (grownSet _ _ _ _)) (grownSet _ _ _ _)) (grownSet _ _ _ _)) (grownSet _ _ _ _))
  rw [show 6 * 15 + 9 = 99 from rfl, show 6 * 15 + 10 = 100 from rfl, show 6 * 15 + 11 = 101 from rfl, show 6 * 15 + 12 = 102 from rfl, show 6 * 15 + 13 = 103 from rfl] at KZ
  clear hQ h hf hz hj hv
  conv => arg 2; whnf
  simp only [h0, h1, h2, h3, h4, h8, h79, h80, h81]
  go_wp2_with fail
  exact HQ.out _ _ ⟨rfl, rfl, rfl, rfl, rfl, rfl, rfl, rfl, rfl, rfl⟩ rfl KZ.out KG.out
set_option maxHeartbeats 8000000 in
theorem r28 {a : Act} {w : World} {gv ga gi g i Z : Nat} {Q : Exit → Act → World → Prop} (h : Fz a gv ga gi g i) (h8 : Sl a 8 (.slice (some ⟨Z, 0, none⟩) 11 11)) (l : List Gl) (hz : ZBox w Z l) {y : Gl} (hj : l[7]? = some y) (V : Vw) {sa sb sc sd se : SL} (hv : VBox w ga sa sb sc sd se)
    (hQ : Zs gv ga gi g i Z w (l.set 7 (upV y V sa sb sc sd se)) Q) : Code.wp Tryz.prog (reg 28) Q a w := by
  obtain ⟨f, hf, rfl, h0, h1, h2, h3, h4, h79, h80, h81⟩ := h.spell
  have h8 : f 8 = _ := (hf 8).symm.trans h8
  have HQ := Lib.hid hQ
  have HZ := Lib.hid hz
  have HJ := Lib.hid hj
  obtain ⟨p0, p1, p2, p3, p4⟩ := vbox_cells hv
  obtain ⟨c0, e0⟩ := zbox_cell hz 7 9 HJ.out rfl
  rw [show 7 * 15 + 9 = 114 from rfl] at c0 e0
  obtain ⟨c1, e1⟩ := zbox_cell hz 7 10 HJ.out rfl
  rw [show 7 * 15 + 10 = 115 from rfl] at c1 e1
  obtain ⟨c2, e2⟩ := zbox_cell hz 7 11 HJ.out rfl
  rw [show 7 * 15 + 11 = 116 from rfl] at c2 e2
  obtain ⟨c3, e3⟩ := zbox_cell hz 7 12 HJ.out rfl
  rw [show 7 * 15 + 12 = 117 from rfl] at c3 e3
  obtain ⟨c4, e4⟩ := zbox_cell hz 7 13 HJ.out rfl
  rw [show 7 * 15 + 13 = 118 from rfl] at c4 e4
  have KZ := Lib.hid (zbox_view hz 7 hj V sa sb sc sd se)
  have KG := Lib.hid (show w.grownBy (((((w.setCell ⟨Z, 114, none⟩ (.slice sa.1 sa.2.1 sa.2.2)).setCell ⟨Z, 115, none⟩ (.slice sb.1 sb.2.1 sb.2.2)).setCell ⟨Z, 116, none⟩ (.slice sc.1 sc.2.1 sc.2.2)).setCell ⟨Z, 117, none⟩ (.slice sd.1 sd.2.1 sd.2.2)).setCell ⟨Z, 118, none⟩ (.slice se.1 se.2.1 se.2.2)) (some Z) from grown_transF (grown_transF (grown_transF (grown_transF (grownSet _ _ _ _) (grownSet _ _ _ _)) (grownSet _ _ _ _)) (grownSet _ _ _ _)) (grownSet _ _ _ _))
  rw [show 7 * 15 + 9 = 114 from rfl, show 7 * 15 + 10 = 115 from rfl, show 7 * 15 + 11 = 116 from rfl, show 7 * 15 + 12 = 117 from rfl, show 7 * 15 + 13 = 118 from rfl] at KZ
  clear hQ h hf hz hj hv
  conv => arg 2; whnf
  simp only [h0, h1, h2, h3, h4, h8, h79, h80, h81]
  go_wp2_with fail
  exact HQ.out _ _ ⟨rfl, rfl, rfl, rfl, rfl, rfl, rfl, rfl, rfl, rfl⟩ rfl KZ.out KG.out
end Go.Proofs.YtkeiekljedhllaaGreat
