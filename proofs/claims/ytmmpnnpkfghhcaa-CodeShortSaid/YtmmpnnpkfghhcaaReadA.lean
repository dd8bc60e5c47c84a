/-
  Walks over the code of package code, continued: the reader's method ID. No statement is proved in this text; it holds for every input that its premises let by.
-/
import Derived.Test.YtmmpnnpkfghhcaaApart
namespace Go.Proofs.Ytmmpnnpkfghhcaa
open Go.RowKit
theorem rNum_is (g f : Nat) (l : List UInt8) (r : Nat × Nat × List UInt8) (w : World) (hr : Rdr w g l f) (h : numS l f = r) :
    Calls Try.prog 17 #[.pointer (some ⟨g, 0, none⟩)] w (Took g r w) := h ▸ rNum_any g f l w hr
/-- What the inner function of ID answers, beside what it leaves of the reader. -/
def GotID (g : Nat) (a i : Nat) (e : Nat) (l : List UInt8) (f : Nat) (w : World) (x : Ending) (w' : World) : Prop :=
  x = .returned (.tuple #[.agg #[.int .i64 a, .int .i64 i], .int .i64 e]) ∧ w.grownBy w' (some g) ∧ Rdr w' g l f
theorem grown_alloc {a w : World} {row : Option Nat} (h : a.grownBy w row) (o : Obj) : a.grownBy (w.alloc o) row :=
  ⟨h.os, h.tape, h.output, by have := h.size; simp; omega, fun k hk hne => (Below.heap_alloc w o k (Nat.lt_of_lt_of_le hk h.size)).trans (h.block k hk hne)⟩
theorem grown_below {a w w' : World} {row : Option Nat} (h : a.grownBy w row) (k : Below w.heap.size w w') : a.grownBy w' row :=
  ⟨k.os.trans h.os, k.tape.trans h.tape, k.output.trans h.output, Nat.le_trans h.size k.size, fun i hi hne => (k.block i (Nat.lt_of_lt_of_le hi h.size)).trans (h.block i hi hne)⟩
theorem rdr_below {w w' : World} {g f : Nat} {l : List UInt8} (h : Rdr w g l f) (k : Below w.heap.size w w') : Rdr w' g l f := (k.block g (row_lt h)).trans h
theorem grown_set {a w : World} {row : Option Nat} (h : a.grownBy w row) {p : Addr} (hp : a.heap.size ≤ p.block) (v : Value) : a.grownBy (w.setCell p v) row :=
  ⟨h.os, h.tape, h.output, by have := h.size; simp [World.setCell]; omega, fun k hk hne => (Below.heap_setCell w p v k (by omega)).trans (h.block k hk hne)⟩
theorem rdr_set {w : World} {g f : Nat} {l : List UInt8} (h : Rdr w g l f) {p : Addr} (hp : g ≠ p.block) (v : Value) : Rdr (w.setCell p v) g l f := (Below.heap_setCell w p v g hp).trans h
theorem box_free {w : World} {g : Nat} {a i : Int} (h : Box w g a i) : w.frozen? ⟨g, 0, none⟩ = false ∧ w.frozen? ⟨g, 1, none⟩ = false := by
  unfold Box at h
  exact ⟨by simp [World.frozen?, h], by simp [World.frozen?, h]⟩
theorem box_alloc {w : World} {g : Nat} {a i : Int} (h : Box w g a i) (o : Obj) : Box (w.alloc o) g a i := (Below.heap_alloc w o g (box_lt h)).trans h
theorem box_below {w w' : World} {g : Nat} {a i : Int} (h : Box w g a i) (k : Below w.heap.size w w') : Box w' g a i := (k.block g (box_lt h)).trans h
/-- Both cells of a box written. -/
def Boxed (w : World) (g : Nat) (a i : Int) : World := (w.setCell ⟨g, 0, none⟩ (.int .i64 a)).setCell ⟨g, 1, none⟩ (.int .i64 i)
theorem box_set {w : World} {g : Nat} {a i : Int} (h : Box w g a i) (x y : Int) : Box ((w.setCell ⟨g, 0, none⟩ (.int .i64 x)).setCell ⟨g, 1, none⟩ (.int .i64 y)) g x y := by
  unfold Box at h ⊢
  simp [World.setCell, Array.getElem?_modify, h]
set_option maxHeartbeats 1000000 in
set_option maxRecDepth 100000 in
theorem idIn_any (p g : Nat) (l : List UInt8) (r1 r2 : Nat × Nat × List UInt8) (w : World) (hp : Var w p g) (hr : Rdr w g l 0) (h1 : numS l 0 = r1) (h2 : numS r1.2.2 r1.2.1 = r2) (e : Nat) (he : e = if r2.2.1 = 0 then (if vid r1.1 r2.1 = true then 0 else 4) else r2.2.1) :
    Calls Try.prog 34 #[.pointer (some ⟨p, 0, none⟩)] w (GotID g r1.1 r2.1 e r2.2.2 r2.2.1 w) := by
  have HP := Lib.hid (show Var (w.alloc (.cells #[.int .i64 0, .int .i64 0] 23)) p g from (Below.heap_alloc _ _ _ (row_lt hp)).trans hp)
  have HR := Lib.hid (rdr_boxed hr (.cells #[.int .i64 0, .int .i64 0] 23))
  have HN := Lib.hid (var_ne hp hr)
  have HL := Lib.hid (row_lt hr)
  have HX := Lib.hid (box_new w 0 0)
  have HG := Lib.hid (grown_alloc (grown_refl w (some g)) (.cells #[.int .i64 0, .int .i64 0] 23))
  have H1 := Lib.hid h1
  have H2 := Lib.hid h2
  have HE := Lib.hid he
  have hv := var_cell HP.out
  clear hp hr h1 h2 he
  go_enter Try.func34, Try.ntmps34
  go_wp2_with fail
  refine (rNum_is g 0 l r1 _ HR.out H1.out).mono ?_
  rintro x w1 ⟨rfl, h, k⟩
  have HP1 := Lib.hid (var_kept HP.out HR.out h)
  have HR1 := Lib.hid k
  have HG1 := Lib.hid (grown_trans HG.out h)
  have HX1 := Lib.hid (show Box w1 w.heap.size 0 0 from (h.block _ (box_lt HX.out) (fun e => by injection e with e; have := HL.out; omega)).trans HX.out)
  clear h k hv
  have hv := var_cell HP1.out
  go_wp2_with fail
  refine (rNum_is g r1.2.1 r1.2.2 r2 _ HR1.out H2.out).mono ?_
  rintro x w2 ⟨rfl, h, k⟩
  have HR2 := Lib.hid k
  have HG2 := Lib.hid (grown_trans HG1.out h)
  have HX2 := Lib.hid (show Box w2 w.heap.size 0 0 from (h.block _ (box_lt HX1.out) (fun e => by injection e with e; have := HL.out; omega)).trans HX1.out)
  clear h k hv
  have HB := Lib.hid (box_new w2 (r1.1 : Int) (r2.1 : Int))
  have HX3 := Lib.hid (box_alloc HX2.out (.cells #[.int .i64 (r1.1 : Int), .int .i64 (r2.1 : Int)] 23))
  have HR3 := Lib.hid (rdr_boxed HR2.out (.cells #[.int .i64 (r1.1 : Int), .int .i64 (r2.1 : Int)] 23))
  have HG3 := Lib.hid (grown_alloc HG2.out (.cells #[.int .i64 (r1.1 : Int), .int .i64 (r2.1 : Int)] 23))
  by_cases h0 : r2.2.1 = 0
  · have de : ((r2.2.1 : Int) == 0) = true := by simp; omega
    cases hv : vid (r1.1 : Int) (r2.1 : Int)
    · have HE2 := Lib.hid (show e = 4 by rw [HE.out, if_pos h0, if_neg (by simp [hv])])
      have HV := Lib.hid hv
      clear hv
      go_wp2_with fail
      refine (valid_any _ _ _).mono ?_
      rintro x w3 ⟨rfl, hb⟩
      rw [HV.out]
      have HB4 := Lib.hid (box_below HB.out hb)
      have HX4 := Lib.hid (box_below HX3.out hb)
      have HR4 := Lib.hid (rdr_below HR3.out hb)
      have HG4 := Lib.hid (grown_below HG3.out hb)
      clear hb
      obtain ⟨f0, f1⟩ := box_free HX4.out
      obtain ⟨d0, d1⟩ := box_cells HX4.out
      obtain ⟨b0, b1⟩ := box_cells HB4.out
      have HZ := Lib.hid (box_set HX4.out (r1.1 : Int) (r2.1 : Int))
      go_wp2_with fail
      obtain ⟨q0, q1⟩ := box_cells HZ.out
      refine bodyPost_ret (v := .tuple #[.agg #[.int .i64 (r1.1 : Int), .int .i64 (r2.1 : Int)], .int .i64 4]) (by simp [results, Try.results34, go_sem, q0, q1]) rfl ?_
      rw [HE2.out]
      exact ⟨rfl, grown_set (grown_set HG4.out (Nat.le_refl _) _) (Nat.le_refl _) _, rdr_set (rdr_set HR4.out (by have := HL.out; simp; omega) _) (by have := HL.out; simp; omega) _⟩
    · have HE2 := Lib.hid (show e = 0 by rw [HE.out, if_pos h0, if_pos hv])
      have HV := Lib.hid hv
      clear hv
      go_wp2_with fail
      refine (valid_any _ _ _).mono ?_
      rintro x w3 ⟨rfl, hb⟩
      rw [HV.out]
      have HB4 := Lib.hid (box_below HB.out hb)
      have HX4 := Lib.hid (box_below HX3.out hb)
      have HR4 := Lib.hid (rdr_below HR3.out hb)
      have HG4 := Lib.hid (grown_below HG3.out hb)
      clear hb
      obtain ⟨f0, f1⟩ := box_free HX4.out
      obtain ⟨d0, d1⟩ := box_cells HX4.out
      obtain ⟨b0, b1⟩ := box_cells HB4.out
      have HZ := Lib.hid (box_set HX4.out (r1.1 : Int) (r2.1 : Int))
      go_wp2_with fail
      obtain ⟨q0, q1⟩ := box_cells HZ.out
      refine bodyPost_ret (v := .tuple #[.agg #[.int .i64 (r1.1 : Int), .int .i64 (r2.1 : Int)], .int .i64 0]) (by simp [results, Try.results34, go_sem, q0, q1]) rfl ?_
      rw [HE2.out]
      exact ⟨rfl, grown_set (grown_set HG4.out (Nat.le_refl _) _) (Nat.le_refl _) _, rdr_set (rdr_set HR4.out (by have := HL.out; simp; omega) _) (by have := HL.out; simp; omega) _⟩
  · have de : ((r2.2.1 : Int) == 0) = false := by simp; omega
    have HE2 := Lib.hid (show e = r2.2.1 by rw [HE.out, if_neg h0])
    clear h0
    obtain ⟨f0, f1⟩ := box_free HX3.out
    obtain ⟨d0, d1⟩ := box_cells HX3.out
    have HZ := Lib.hid (box_set HX3.out (r1.1 : Int) (r2.1 : Int))
    go_wp2_with fail
    obtain ⟨q0, q1⟩ := box_cells HZ.out
    refine bodyPost_ret (v := .tuple #[.agg #[.int .i64 (r1.1 : Int), .int .i64 (r2.1 : Int)], .int .i64 (r2.2.1 : Int)]) (by simp [results, Try.results34, go_sem, q0, q1]) rfl ?_
    rw [HE2.out]
    exact ⟨rfl, grown_set (grown_set HG3.out (Nat.le_refl _) _) (Nat.le_refl _) _, rdr_set (rdr_set HR3.out (by have := HL.out; simp; omega) _) (by have := HL.out; simp; omega) _⟩
end Go.Proofs.Ytmmpnnpkfghhcaa
