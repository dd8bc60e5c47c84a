/-
  Walks over the code of package code, continued: the reader's methods Num, Left and End. No statement is proved in this text; it holds for every input that its premises let by.
-/
import Derived.Test.YtmmpnnpkfghhcaaWalksF
namespace Go.Proofs.Ytmmpnnpkfghhcaa
open Go.RowKit
/-- What a method leaves that answers a number: what was wrong is kept, and then nothing is left. -/
def Took (g : Nat) (r : Nat × Nat × List UInt8) (w : World) (e : Ending) (w' : World) : Prop :=
  e = .returned (.tuple #[.int .i64 r.1, .int .i64 r.2.1]) ∧ w.grownBy w' (some g) ∧ Rdr w' g r.2.2 r.2.1
/-- Num of a reader of which the bytes l are left, and that failed by f. -/
def numS (l : List UInt8) (f : Nat) : Nat × Nat × List UInt8 := if f = 0 then Code.num 0 0 l else (0, f, l)
theorem rdr_drew {w : World} {g f : Nat} {l : List UInt8} (h : Rdr w g l f) (n : Nat) : Rdr (w.drewN n) g l f := h
theorem rdr_fail {w : World} {g f : Nat} {l : List UInt8} (h : Rdr w g l 0) (s : ByteArray) (hs : s = bs []) : Rdr ((w.setCell ⟨g, 0, none⟩ (.string s)).setCell ⟨g, 1, none⟩ (.int .i64 f)) g [] f ∧ w.grownBy ((w.setCell ⟨g, 0, none⟩ (.string s)).setCell ⟨g, 1, none⟩ (.int .i64 f)) (some g) := by
  subst hs
  constructor
  · unfold Rdr at h ⊢
    simp [World.setCell, Array.getElem?_modify, h]
  · exact ⟨rfl, rfl, rfl, by simp [World.setCell], fun k _ hne => (Below.heap_setCell _ _ _ _ (fun e => hne (by rw [e]))).trans (Below.heap_setCell _ _ _ _ (fun e => hne (by rw [e])))⟩
theorem took_ret {g : Nat} {r : Nat × Nat × List UInt8} {w w' : World} {a b : Nat} (ha : a = r.1) (hg : w.grownBy w' (some g)) (hb : b = r.2.1) (hr : Rdr w' g r.2.2 r.2.1) : Took g r w (.returned (.tuple #[.int .i64 a, .int .i64 b])) w' := by
  subst ha hb
  exact ⟨rfl, hg, hr⟩
set_option maxHeartbeats 400000 in
theorem readNum_any (p g f : Nat) (l : List UInt8) (w : World) (hp : Var w p g) (hr : Rdr w g l f) :
    Calls Try.prog 28 #[.pointer (some ⟨g, 0, none⟩), .func (.func 29) #[] #[.pointer (some ⟨p, 0, none⟩)]] w (Took g (numS l f) w) := by
  have HP := Lib.hid hp
  have HR := Lib.hid hr
  obtain ⟨c0, c1⟩ := rdr_cells hr
  have f0 := rdr_free hr 0
  have f1 := rdr_free hr 1
  clear hp hr
  by_cases hf : f = 0
  · subst hf
    have HF := Lib.hid (show numS l 0 = Code.num 0 0 l from rfl)
    have HL := Lib.hid (Code.num_le 0 0 l).2.2
    go_enter Try.func28, Try.ntmps28
    go_wp2_with fail
    refine (numIn_any p g l _ HP.out HR.out).mono ?_
    rw [HF.out]
    generalize Code.num 0 0 l = r at *
    obtain ⟨n, e, l'⟩ := r
    rintro _ w1 ⟨rfl, hg, l1, h1, h2⟩
    have HG := Lib.hid hg
    have H1 := Lib.hid h1
    have H2 := Lib.hid h2
    obtain ⟨d0, d1⟩ := rdr_cells h1
    have g0 := rdr_free h1 0
    have g1 := rdr_free h1 1
    clear hg h1 h2 c0 c1 f0 f1
    by_cases he : e = 0
    · have de : ((e : Int) == 0) = true := by simp; omega
      have HE := Lib.hid he
      clear he
      go_wp2_with fail
      go_ret2
      rw [HF.out]
      exact took_ret (a := n) (b := 0) rfl HG.out HE.out.symm (by
        show Rdr w1 g l' e
        rw [← H2.out HE.out, HE.out]
        exact H1.out)
    · have de : ((e : Int) == 0) = false := by simp; omega
      have HE := Lib.hid (HL.out he)
      have HX := Lib.hid (rdr_fail (f := e) H1.out ⟨#[]⟩ rfl)
      clear he
      go_wp2_with fail
      go_ret2
      rw [HF.out]
      exact took_ret (a := 0) (b := e) HE.out.1.symm (grown_trans HG.out HX.out.2) rfl (by
        show Rdr _ g l' e
        have : l' = [] := HE.out.2
        rw [this]
        exact HX.out.1)
  · have df : ((f : Int) == 0) = false := by simp; omega
    have HF := Lib.hid (show numS l f = (0, f, l) from if_neg hf)
    clear hf
    go_enter Try.func28, Try.ntmps28
    go_wp2_with fail
    go_quiet (fail)
    all_goals go_wp2_with fail
    all_goals go_ret2
    rw [HF.out]
    exact ⟨rfl, ⟨rfl, rfl, rfl, Nat.le_refl _, fun _ _ _ => rfl⟩, HR.out⟩
theorem grown_boxed {w w' : World} {o : Obj} {row : Option Nat} (h : (w.alloc o).grownBy w' row) : w.grownBy w' row :=
  ⟨h.os, h.tape, h.output, by have := h.size; simp at this; omega, fun k hk hne => (h.block k (by simp; omega) hne).trans (Below.heap_alloc w o k hk)⟩
theorem rdr_boxed {w : World} {g f : Nat} {l : List UInt8} (h : Rdr w g l f) (o : Obj) : Rdr (w.alloc o) g l f := (Below.heap_alloc w o g (row_lt h)).trans h
theorem var_new (w : World) (g : Nat) : Var (w.alloc (.cells #[.pointer (some ⟨g, 0, none⟩)] 34)) w.heap.size g := heap_alloc_new w _
set_option maxHeartbeats 400000 in
theorem rNum_any (g f : Nat) (l : List UInt8) (w : World) (hr : Rdr w g l f) :
    Calls Try.prog 17 #[.pointer (some ⟨g, 0, none⟩)] w (Took g (numS l f) w) := by
  have HV := Lib.hid (var_new w g)
  have HR := Lib.hid (rdr_boxed hr (.cells #[.pointer (some ⟨g, 0, none⟩)] 34))
  clear hr
  go_enter Try.func17, Try.ntmps17
  go_wp2_with fail
  refine (readNum_any w.heap.size g f l _ HV.out HR.out).mono ?_
  rintro e w1 ⟨rfl, hg, h1⟩
  have HG := Lib.hid (grown_boxed hg)
  have H1 := Lib.hid h1
  clear hg h1
  go_wp2_with fail
  go_ret2
  exact ⟨rfl, HG.out, H1.out⟩
def leftS (l : List UInt8) (f : Nat) : Nat := if f = 0 then l.length else 0
def endS (l : List UInt8) (f : Nat) : Nat := if f = 0 then (if l = [] then 0 else 4) else f
/-- What Left's inner function leaves. -/
theorem leftIn_any (p g : Nat) (l : List UInt8) (w : World) (hp : Var w p g) (hr : Rdr w g l 0) :
    Calls Try.prog 35 #[.pointer (some ⟨p, 0, none⟩)] w fun e w' => e = .returned (.tuple #[.int .i64 (l.length : Int), .int .i64 0]) ∧ w = w' := by
  have hv := var_cell hp
  obtain ⟨c0, c1⟩ := rdr_cells hr
  have hz := Lib.hid (bs_size l)
  clear hp hr
  go_enter Try.func35, Try.ntmps35
  go_wp2_with fail
  go_ret2
  exact ⟨by rw [hz.out]; rfl, rfl⟩
theorem endIn_nil (p g : Nat) (w : World) (hp : Var w p g) (hr : Rdr w g [] 0) :
    Calls Try.prog 36 #[.pointer (some ⟨p, 0, none⟩)] w fun e w' => e = .returned (.tuple #[.int .i64 0, .int .i64 0]) ∧ w = w' := by
  have hv := var_cell hp
  obtain ⟨c0, c1⟩ := rdr_cells hr
  clear hp hr
  have he : (bs []).toList.isEmpty = true := by rw [bytes_list]; rfl
  go_enter Try.func36, Try.ntmps36
  go_wp2_with fail
  go_ret2
  exact ⟨rfl, rfl⟩
theorem endIn_cons (p g : Nat) (b : UInt8) (t : List UInt8) (w : World) (hp : Var w p g) (hr : Rdr w g (b :: t) 0) :
    Calls Try.prog 36 #[.pointer (some ⟨p, 0, none⟩)] w fun e w' => e = .returned (.tuple #[.int .i64 0, .int .i64 4]) ∧ w = w' := by
  have hv := var_cell hp
  obtain ⟨c0, c1⟩ := rdr_cells hr
  clear hp hr
  have he : (bs (b :: t)).toList.isEmpty = false := (bs_cons b t).1
  go_enter Try.func36, Try.ntmps36
  go_wp2_with fail
  go_ret2
  exact ⟨rfl, rfl⟩
/-- What End leaves. -/
def endR (l : List UInt8) (f : Nat) : Nat × Nat × List UInt8 := (0, endS l f, if f = 0 then [] else l)
set_option maxHeartbeats 400000 in
theorem readLeft_any (p g f : Nat) (l : List UInt8) (w : World) (hp : Var w p g) (hr : Rdr w g l f) :
    Calls Try.prog 28 #[.pointer (some ⟨g, 0, none⟩), .func (.func 35) #[] #[.pointer (some ⟨p, 0, none⟩)]] w (Took g (leftS l f, f, l) w) := by
  have HP := Lib.hid hp
  have HR := Lib.hid hr
  obtain ⟨c0, c1⟩ := rdr_cells hr
  have f0 := rdr_free hr 0
  have f1 := rdr_free hr 1
  clear hp hr
  by_cases hf : f = 0
  · subst hf
    go_enter Try.func28, Try.ntmps28
    go_wp2_with fail
    refine (leftIn_any p g l _ HP.out HR.out).mono ?_
    rintro _ w1 ⟨rfl, rfl⟩
    go_wp2_with fail
    go_ret2
    exact took_ret (a := l.length) (b := 0) rfl (grown_refl _ _) rfl HR.out
  · have df : ((f : Int) == 0) = false := by simp; omega
    have HF := Lib.hid (show leftS l f = 0 from if_neg hf)
    clear hf
    go_enter Try.func28, Try.ntmps28
    go_wp2_with fail
    go_quiet (fail)
    all_goals go_wp2_with fail
    all_goals go_ret2
    rw [HF.out]
    exact ⟨rfl, ⟨rfl, rfl, rfl, Nat.le_refl _, fun _ _ _ => rfl⟩, HR.out⟩
set_option maxHeartbeats 400000 in
theorem readEnd_any (p g f : Nat) (l : List UInt8) (w : World) (hp : Var w p g) (hr : Rdr w g l f) :
    Calls Try.prog 28 #[.pointer (some ⟨g, 0, none⟩), .func (.func 36) #[] #[.pointer (some ⟨p, 0, none⟩)]] w (Took g (endR l f) w) := by
  have HP := Lib.hid hp
  have HR := Lib.hid hr
  obtain ⟨c0, c1⟩ := rdr_cells hr
  have f0 := rdr_free hr 0
  have f1 := rdr_free hr 1
  clear hp hr
  by_cases hf : f = 0
  · subst hf
    cases l with
    | nil =>
      go_enter Try.func28, Try.ntmps28
      go_wp2_with fail
      refine (endIn_nil p g _ HP.out HR.out).mono ?_
      rintro _ w1 ⟨rfl, rfl⟩
      go_wp2_with fail
      go_ret2
      exact took_ret (r := endR [] 0) (a := 0) (b := 0) rfl (grown_refl _ _) rfl HR.out
    | cons b t =>
      have HX := Lib.hid (rdr_fail (f := 4) HR.out ⟨#[]⟩ rfl)
      go_enter Try.func28, Try.ntmps28
      go_wp2_with fail
      refine (endIn_cons p g b t _ HP.out HR.out).mono ?_
      rintro _ w1 ⟨rfl, rfl⟩
      go_wp2_with fail
      go_ret2
      exact took_ret (r := endR (b :: t) 0) (a := 0) (b := 4) rfl HX.out.2 rfl HX.out.1
  · have df : ((f : Int) == 0) = false := by simp; omega
    have HF := Lib.hid (show endR l f = (0, f, l) by unfold endR endS; rw [if_neg hf, if_neg hf])
    clear hf
    go_enter Try.func28, Try.ntmps28
    go_wp2_with fail
    go_quiet (fail)
    all_goals go_wp2_with fail
    all_goals go_ret2
    rw [HF.out]
    exact ⟨rfl, ⟨rfl, rfl, rfl, Nat.le_refl _, fun _ _ _ => rfl⟩, HR.out⟩
/-- What Left leaves. -/
def Answered (g n f : Nat) (l : List UInt8) (w : World) (e : Ending) (w' : World) : Prop :=
  e = .returned (.int .i64 n) ∧ w.grownBy w' (some g) ∧ Rdr w' g l f
set_option maxHeartbeats 400000 in
theorem rLeft_any (g f : Nat) (l : List UInt8) (w : World) (hr : Rdr w g l f) :
    Calls Try.prog 20 #[.pointer (some ⟨g, 0, none⟩)] w (Answered g (leftS l f) f l w) := by
  have HV := Lib.hid (var_new w g)
  have HR := Lib.hid (rdr_boxed hr (.cells #[.pointer (some ⟨g, 0, none⟩)] 34))
  clear hr
  go_enter Try.func20, Try.ntmps20
  go_wp2_with fail
  refine (readLeft_any w.heap.size g f l _ HV.out HR.out).mono ?_
  rintro e w1 ⟨rfl, hg, h1⟩
  have HG := Lib.hid (grown_boxed hg)
  have H1 := Lib.hid h1
  clear hg h1
  go_wp2_with fail
  go_ret
  exact ⟨rfl, HG.out, H1.out⟩
set_option maxHeartbeats 400000 in
theorem rEnd_any (g f : Nat) (l : List UInt8) (w : World) (hr : Rdr w g l f) :
    Calls Try.prog 21 #[.pointer (some ⟨g, 0, none⟩)] w (Answered g (endS l f) (endR l f).2.1 (endR l f).2.2 w) := by
  have HV := Lib.hid (var_new w g)
  have HR := Lib.hid (rdr_boxed hr (.cells #[.pointer (some ⟨g, 0, none⟩)] 34))
  clear hr
  go_enter Try.func21, Try.ntmps21
  go_wp2_with fail
  refine (readEnd_any w.heap.size g f l _ HV.out HR.out).mono ?_
  rintro e w1 ⟨rfl, hg, h1⟩
  have HG := Lib.hid (grown_boxed hg)
  have H1 := Lib.hid h1
  clear hg h1
  go_wp2_with fail
  go_ret
  exact ⟨rfl, HG.out, H1.out⟩
/-- Open makes a reader in a new block. -/
theorem open_any (s : ByteArray) (w : World) :
    Calls Try.prog 16 #[.string s] w fun e w' => e = .returned (.pointer (some ⟨w.heap.size, 0, none⟩)) ∧ w' = w.alloc (.cells #[.string s, .int .i64 0] 57) := by
  go_enter Try.func16, Try.ntmps16
  go_wp2_with fail
  go_ret
  exact ⟨rfl, rfl⟩
theorem rdr_open (l : List UInt8) (w : World) : Rdr (w.alloc (.cells #[.string (bs l), .int .i64 0] 57)) w.heap.size l 0 := heap_alloc_new w _
theorem bs_of (s : ByteArray) : bs s.data.toList = s := by
  unfold bs
  simp
end Go.Proofs.Ytmmpnnpkfghhcaa
