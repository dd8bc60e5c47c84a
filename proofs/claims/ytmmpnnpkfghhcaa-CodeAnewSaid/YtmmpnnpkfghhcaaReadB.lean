/-
  Walks over the code of package code, continued: the reader's method ID, whole. No statement is proved in this text; it holds for every input that its premises let by.
-/
import Derived.Test.YtmmpnnpkfghhcaaReadA
namespace Go.Proofs.Ytmmpnnpkfghhcaa
open Go.RowKit
/-- Of an ID that is read: what was wrong. -/
def idE (r1 r2 : Nat × Nat × List UInt8) : Nat := if r2.2.1 = 0 then (if vid r1.1 r2.1 = true then 0 else 4) else r2.2.1
def idP (l : List UInt8) : (Nat × Nat) × Nat × List UInt8 :=
  let r1 := numS l 0
  let r2 := numS r1.2.2 r1.2.1
  if idE r1 r2 = 0 then ((r1.1, r2.1), 0, r2.2.2) else ((0, 0), idE r1 r2, [])
/-- ID of a reader of which the bytes l are left, and that failed by f. -/
def idS (l : List UInt8) (f : Nat) : (Nat × Nat) × Nat × List UInt8 := if f = 0 then idP l else ((0, 0), f, l)
/-- What the method ID leaves. -/
def TookID (g : Nat) (r : (Nat × Nat) × Nat × List UInt8) (w : World) (x : Ending) (w' : World) : Prop :=
  x = .returned (.tuple #[.agg #[.int .i64 r.1.1, .int .i64 r.1.2], .int .i64 r.2.1]) ∧ w.grownBy w' (some g) ∧ Rdr w' g r.2.2 r.2.1
theorem rdr_fail' {w : World} {g f f' : Nat} {l : List UInt8} (h : Rdr w g l f') (s : ByteArray) (hs : s = bs []) : Rdr ((w.setCell ⟨g, 0, none⟩ (.string s)).setCell ⟨g, 1, none⟩ (.int .i64 f)) g [] f ∧ w.grownBy ((w.setCell ⟨g, 0, none⟩ (.string s)).setCell ⟨g, 1, none⟩ (.int .i64 f)) (some g) := by
  subst hs
  constructor
  · unfold Rdr at h ⊢
    simp [World.setCell, Array.getElem?_modify, h]
  · exact ⟨rfl, rfl, rfl, by simp [World.setCell], fun k _ hne => (Below.heap_setCell _ _ _ _ (fun e => hne (by rw [e]))).trans (Below.heap_setCell _ _ _ _ (fun e => hne (by rw [e])))⟩
theorem box_far {w w' : World} {g R : Nat} {a i : Int} (h : Box w R a i) (k : w.grownBy w' (some g)) (hne : R ≠ g) : Box w' R a i :=
  (k.block R (box_lt h) (fun e => hne (by injection e))).trans h
theorem tookID_ret {g : Nat} {r : (Nat × Nat) × Nat × List UInt8} {w w' : World} {a b c : Nat} (ha : (a, b) = r.1) (hc : c = r.2.1) (hg : w.grownBy w' (some g)) (hr : Rdr w' g r.2.2 r.2.1) : TookID g r w (.returned (.tuple #[.agg #[.int .i64 a, .int .i64 b], .int .i64 c])) w' := by
  obtain ⟨⟨x, y⟩, e, l⟩ := r
  injection ha with h1 h2
  subst h1 h2 hc
  exact ⟨rfl, hg, hr⟩
set_option maxHeartbeats 1000000 in
set_option maxRecDepth 100000 in
theorem readID_late (p g f : Nat) (l : List UInt8) (w : World) (hr : Rdr w g l f) (hf : f ≠ 0) :
    Calls Try.prog 33 #[.pointer (some ⟨g, 0, none⟩), .func (.func 34) #[] #[.pointer (some ⟨p, 0, none⟩)]] w (TookID g ((0, 0), f, l) w) := by
  have HX := Lib.hid (box_alloc (box_new w 0 0) (.cells #[.int .i64 0, .int .i64 0] 23))
  have HZ := Lib.hid (box_new (w.alloc (.cells #[.int .i64 0, .int .i64 0] 23)) 0 0)
  have HR := Lib.hid (rdr_boxed (rdr_boxed hr (.cells #[.int .i64 0, .int .i64 0] 23)) (.cells #[.int .i64 0, .int .i64 0] 23))
  have HG := Lib.hid (grown_alloc (grown_alloc (grown_refl w (some g)) (.cells #[.int .i64 0, .int .i64 0] 23)) (.cells #[.int .i64 0, .int .i64 0] 23))
  have HL := Lib.hid (row_lt hr)
  have df : ((f : Int) == 0) = false := by simp; omega
  obtain ⟨c0, c1⟩ := rdr_cells HR.out
  clear hr hf
  go_enter Try.func33, Try.ntmps33
  go_wp2_with fail
  go_region
  go_wp2_with fail
  obtain ⟨q0, q1⟩ := box_cells HX.out
  refine bodyPost_ret (v := .tuple #[.agg #[.int .i64 0, .int .i64 0], .int .i64 (f : Int)]) (by simp [results, Try.results33, go_sem, q0, q1]) rfl ?_
  exact ⟨rfl, ⟨HG.out.os, HG.out.tape, HG.out.output, HG.out.size, HG.out.block⟩, HR.out⟩
set_option maxHeartbeats 1000000 in
set_option maxRecDepth 100000 in
theorem readID_now (p g : Nat) (l : List UInt8) (r1 r2 : Nat × Nat × List UInt8) (w : World) (hp : Var w p g) (hr : Rdr w g l 0) (h1 : numS l 0 = r1) (h2 : numS r1.2.2 r1.2.1 = r2) :
    Calls Try.prog 33 #[.pointer (some ⟨g, 0, none⟩), .func (.func 34) #[] #[.pointer (some ⟨p, 0, none⟩)]] w (TookID g (idP l) w) := by
  have HX := Lib.hid (box_alloc (box_new w 0 0) (.cells #[.int .i64 0, .int .i64 0] 23))
  have HZ := Lib.hid (show Box _ (w.heap.size + 1) 0 0 by simpa using box_new (w.alloc (.cells #[.int .i64 0, .int .i64 0] 23)) 0 0)
  have HR := Lib.hid (rdr_boxed (rdr_boxed hr (.cells #[.int .i64 0, .int .i64 0] 23)) (.cells #[.int .i64 0, .int .i64 0] 23))
  have HP := Lib.hid (show Var ((w.alloc (.cells #[.int .i64 0, .int .i64 0] 23)).alloc (.cells #[.int .i64 0, .int .i64 0] 23)) p g from (Below.heap_alloc _ _ _ (by have := row_lt hp; simp; omega)).trans ((Below.heap_alloc _ _ _ (row_lt hp)).trans hp))
  have HG := Lib.hid (grown_alloc (grown_alloc (grown_refl w (some g)) (.cells #[.int .i64 0, .int .i64 0] 23)) (.cells #[.int .i64 0, .int .i64 0] 23))
  have HL := Lib.hid (row_lt hr)
  have H1 := Lib.hid h1
  have H2 := Lib.hid h2
  have HPP := Lib.hid (show idP l = if idE r1 r2 = 0 then ((r1.1, r2.1), 0, r2.2.2) else ((0, 0), idE r1 r2, []) by unfold idP; rw [h1]; simp only [h2])
  have HF := Lib.hid (show idE r1 r2 = 0 → r2.2.1 = 0 by
    intro h
    unfold idE at h
    by_cases e : r2.2.1 = 0
    · exact e
    · rw [if_neg e] at h
      exact absurd h e)
  obtain ⟨c0, c1⟩ := rdr_cells HR.out
  clear hr h1 h2 hp
  go_enter Try.func33, Try.ntmps33
  go_wp2_with fail
  refine (idIn_any p g l r1 r2 _ HP.out HR.out H1.out H2.out (idE r1 r2) rfl).mono ?_
  rintro x w1 ⟨rfl, h, k⟩
  have HG1 := Lib.hid (grown_trans HG.out h)
  have HR1 := Lib.hid k
  have HX1 := Lib.hid (box_far HX.out h (by have := HL.out; omega))
  have HZ1 := Lib.hid (box_far HZ.out h (by have := HL.out; omega))
  clear h k c0 c1
  have HR2 := Lib.hid (rdr_boxed HR1.out (.cells #[.int .i64 (r1.1 : Int), .int .i64 (r2.1 : Int)] 23))
  have HG2 := Lib.hid (grown_alloc HG1.out (.cells #[.int .i64 (r1.1 : Int), .int .i64 (r2.1 : Int)] 23))
  have HX2 := Lib.hid (box_alloc HX1.out (.cells #[.int .i64 (r1.1 : Int), .int .i64 (r2.1 : Int)] 23))
  have HZ2 := Lib.hid (box_alloc HZ1.out (.cells #[.int .i64 (r1.1 : Int), .int .i64 (r2.1 : Int)] 23))
  by_cases h0 : idE r1 r2 = 0
  · have HE := Lib.hid h0
    have de : ((idE r1 r2 : Int) == 0) = true := by simp; omega
    have HPQ := Lib.hid (show idP l = ((r1.1, r2.1), 0, r2.2.2) by rw [HPP.out, if_pos h0])
    clear h0
    obtain ⟨f0, f1⟩ := box_free HX2.out
    obtain ⟨d0, d1⟩ := box_cells HX2.out
    have HS := Lib.hid (box_set HX2.out (r1.1 : Int) (r2.1 : Int))
    go_wp2_with fail
    obtain ⟨q0, q1⟩ := box_cells HS.out
    refine bodyPost_ret (v := .tuple #[.agg #[.int .i64 (r1.1 : Int), .int .i64 (r2.1 : Int)], .int .i64 0]) (by simp [results, Try.results33, go_sem, q0, q1]) rfl ?_
    rw [HPQ.out]
    refine tookID_ret (a := r1.1) (b := r2.1) (c := 0) rfl rfl (grown_set (grown_set HG2.out (Nat.le_refl _) _) (Nat.le_refl _) _) ?_
    have h := HR2.out
    rw [HF.out HE.out] at h
    exact rdr_set (rdr_set h (by have := HL.out; simp; omega) _) (by have := HL.out; simp; omega) _
  · have de : ((idE r1 r2 : Int) == 0) = false := by simp; omega
    have HPQ := Lib.hid (show idP l = ((0, 0), idE r1 r2, []) by rw [HPP.out, if_neg h0])
    clear h0
    have HN := Lib.hid (rdr_fail' (f := idE r1 r2) HR2.out ⟨#[]⟩ rfl)
    have HX3 := Lib.hid (box_far HX2.out HN.out.2 (by have := HL.out; omega))
    have HZ3 := Lib.hid (box_far HZ2.out HN.out.2 (by have := HL.out; omega))
    obtain ⟨c0, c1⟩ := rdr_cells HR2.out
    have e0 := rdr_free HR2.out 0
    have e1 := rdr_free HR2.out 1
    obtain ⟨z0, z1⟩ := box_cells HZ3.out
    obtain ⟨x0, x1⟩ := box_cells HX3.out
    obtain ⟨y0, y1⟩ := box_free HX3.out
    have HS := Lib.hid (box_set HX3.out 0 0)
    go_wp2_with fail
    obtain ⟨q0, q1⟩ := box_cells HS.out
    refine bodyPost_ret (v := .tuple #[.agg #[.int .i64 0, .int .i64 0], .int .i64 (idE r1 r2 : Int)]) (by simp [results, Try.results33, go_sem, q0, q1]) rfl ?_
    rw [HPQ.out]
    exact tookID_ret (a := 0) (b := 0) (c := idE r1 r2) rfl rfl (grown_set (grown_set (grown_trans HG2.out HN.out.2) (Nat.le_refl _) _) (Nat.le_refl _) _) (rdr_set (rdr_set HN.out.1 (by have := HL.out; simp; omega) _) (by have := HL.out; simp; omega) _)
theorem readID_any (p g f : Nat) (l : List UInt8) (w : World) (hp : Var w p g) (hr : Rdr w g l f) :
    Calls Try.prog 33 #[.pointer (some ⟨g, 0, none⟩), .func (.func 34) #[] #[.pointer (some ⟨p, 0, none⟩)]] w (TookID g (idS l f) w) := by
  by_cases hf : f = 0
  · subst hf
    exact readID_now p g l _ _ w hp hr rfl rfl
  · unfold idS
    rw [if_neg hf]
    exact readID_late p g f l w hr hf
set_option maxHeartbeats 400000 in
theorem rID_any (g f : Nat) (l : List UInt8) (w : World) (hr : Rdr w g l f) :
    Calls Try.prog 19 #[.pointer (some ⟨g, 0, none⟩)] w (TookID g (idS l f) w) := by
  have HL := Lib.hid (row_lt hr)
  have HV := Lib.hid (show Var ((w.alloc (.cells #[.pointer (some ⟨g, 0, none⟩)] 34)).alloc (.cells #[.int .i64 0, .int .i64 0] 23)) w.heap.size g from (Below.heap_alloc _ _ _ (by simp)).trans (var_new w g))
  have HR := Lib.hid (rdr_boxed (rdr_boxed hr (.cells #[.pointer (some ⟨g, 0, none⟩)] 34)) (.cells #[.int .i64 0, .int .i64 0] 23))
  have HX := Lib.hid (show Box _ (w.heap.size + 1) 0 0 by simpa using box_new (w.alloc (.cells #[.pointer (some ⟨g, 0, none⟩)] 34)) 0 0)
  have HG := Lib.hid (grown_alloc (grown_alloc (grown_refl w (some g)) (.cells #[.pointer (some ⟨g, 0, none⟩)] 34)) (.cells #[.int .i64 0, .int .i64 0] 23))
  clear hr
  go_enter Try.func19, Try.ntmps19
  go_wp2_with fail
  refine (readID_any w.heap.size g f l _ HV.out HR.out).mono ?_
  generalize hq : idS l f = r
  obtain ⟨⟨a, i⟩, e, l'⟩ := r
  have HQ := Lib.hid hq
  clear hq
  rintro x w1 ⟨rfl, h, k⟩
  have HG1 := Lib.hid (grown_trans HG.out h)
  have HR1 := Lib.hid k
  have HX1 := Lib.hid (box_far HX.out h (by have := HL.out; omega))
  clear h k
  obtain ⟨f0, f1⟩ := box_free HX1.out
  obtain ⟨d0, d1⟩ := box_cells HX1.out
  have HS := Lib.hid (box_set HX1.out (a : Int) (i : Int))
  go_wp2_with fail
  obtain ⟨q0, q1⟩ := box_cells HS.out
  refine bodyPost_ret (v := .tuple #[.agg #[.int .i64 (a : Int), .int .i64 (i : Int)], .int .i64 (e : Int)]) (by simp [results, Try.results19, go_sem, q0, q1]) rfl ?_
  have hL := HL.out
  rw [HQ.out]
  refine tookID_ret (r := ((a, i), e, l')) rfl rfl (grown_set (grown_set HG1.out ?_ _) ?_ _) (rdr_set (rdr_set HR1.out ?_ _) ?_ _)
  · exact Nat.le_succ _
  · exact Nat.le_succ _
  · show g ≠ w.heap.size + 1
    omega
  · show g ≠ w.heap.size + 1
    omega
end Go.Proofs.Ytmmpnnpkfghhcaa
