/-
  Walks over the code of package code, continued: the reader's method IDs, whole. No statement is proved in this text; it holds for every input that its premises let by.
-/
import Derived.Test.YtmmpnnpkfghhcaaReadC
namespace Go.Proofs.Ytmmpnnpkfghhcaa
open Go.RowKit
/-- IDs of a reader of which the bytes l are left, and that failed by f. -/
def idsS (l : List UInt8) (f : Nat) : List (Int × Int) × Nat × List UInt8 := if f = 0 then idsP l else ([], f, l)
/-- What the method IDs leaves. -/
def TookIDs (g : Nat) (r : List (Int × Int) × Nat × List UInt8) (w : World) (x : Ending) (w' : World) : Prop :=
  ∃ v, x = .returned (.tuple #[v, .int .i64 r.2.1]) ∧ w.grownBy w' (some g) ∧ Rdr w' g r.2.2 r.2.1 ∧ (r.2.1 = 0 → Ids w' v r.1)
theorem tookIDs_ret {g e : Nat} {r : List (Int × Int) × Nat × List UInt8} {w w' : World} {v : Value} {l : List (Int × Int)} {t : List UInt8} (hr : r = (l, e, t)) (hg : w.grownBy w' (some g)) (h : Rdr w' g t e) (hi : e = 0 → Ids w' v l) : TookIDs g r w (.returned (.tuple #[v, .int .i64 e])) w' := by
  subst hr
  exact ⟨v, rfl, hg, h, hi⟩
theorem idsP_err (l : List UInt8) : (idsP l).2.1 ≠ 0 → idsP l = ([], (idsP l).2.1, []) := by
  unfold idsP
  simp only []
  split
  · split
    · simp
    · split
      · split
        · intro h; exact absurd rfl h
        · simp
      · simp
  · simp
set_option maxHeartbeats 1000000 in
set_option maxRecDepth 100000 in
theorem readIDs_any (p g f : Nat) (l : List UInt8) (w : World) (hp : Var w p g) (hr : Rdr w g l f) :
    Calls Try.prog 30 #[.pointer (some ⟨g, 0, none⟩), .func (.func 31) #[] #[.pointer (some ⟨p, 0, none⟩)]] w (TookIDs g (idsS l f) w) := by
  have HP := Lib.hid hp
  have HR := Lib.hid hr
  obtain ⟨c0, c1⟩ := rdr_cells hr
  have f0 := rdr_free hr 0
  have f1 := rdr_free hr 1
  clear hp hr
  by_cases hf : f = 0
  · subst hf
    have HI := Lib.hid (show idsS l 0 = idsP l from rfl)
    have HX := Lib.hid (idsP_err l)
    generalize hq : idsP l = r at *
    obtain ⟨d, e, t⟩ := r
    have HQ := Lib.hid hq
    clear hq
    go_enter Try.func30, Try.ntmps30
    go_wp2_with fail
    refine (idsIn_any p g l _ HP.out HR.out).mono ?_
    rw [HQ.out]
    rintro x w1 ⟨v, t1, f2, rfl, hg, h1, h2⟩
    have HG := Lib.hid hg
    have H1 := Lib.hid h1
    have H2 := Lib.hid h2
    obtain ⟨d0, d1⟩ := rdr_cells h1
    have g0 := rdr_free h1 0
    have g1 := rdr_free h1 1
    clear hg h1 h2 c0 c1 f0 f1
    by_cases he : e = 0
    · subst he
      go_wp2_with fail
      go_ret2
      obtain ⟨i1, i2, i3⟩ := H2.out (by trivial)
      refine tookIDs_ret (e := 0) HI.out HG.out ?_ fun _ => i1
      have h := H1.out
      rw [i2, i3] at h
      exact h
    · have de : ((e : Int) == 0) = false := by simp; omega
      have HE := Lib.hid (HX.out he)
      have HE0 := Lib.hid he
      have HN := Lib.hid (rdr_fail' (f := e) H1.out ⟨#[]⟩ rfl)
      clear he
      go_wp2_with fail
      go_ret2
      exact tookIDs_ret (HI.out.trans HE.out) (grown_trans HG.out HN.out.2) HN.out.1 fun h => absurd h HE0.out
  · have df : ((f : Int) == 0) = false := by simp; omega
    have HF := Lib.hid (show idsS l f = ([], f, l) from if_neg hf)
    have HF0 := Lib.hid hf
    clear hf
    go_enter Try.func30, Try.ntmps30
    go_wp2_with fail
    go_quiet (fail)
    all_goals go_wp2_with fail
    all_goals go_ret2
    exact tookIDs_ret HF.out ⟨rfl, rfl, rfl, Nat.le_refl _, fun _ _ _ => rfl⟩ HR.out fun h => absurd h HF0.out
set_option maxHeartbeats 400000 in
theorem rIDs_any (g f : Nat) (l : List UInt8) (w : World) (hr : Rdr w g l f) :
    Calls Try.prog 18 #[.pointer (some ⟨g, 0, none⟩)] w (TookIDs g (idsS l f) w) := by
  have HV := Lib.hid (var_new w g)
  have HR := Lib.hid (rdr_boxed hr (.cells #[.pointer (some ⟨g, 0, none⟩)] 34))
  clear hr
  go_enter Try.func18, Try.ntmps18
  go_wp2_with fail
  refine (readIDs_any w.heap.size g f l _ HV.out HR.out).mono ?_
  rintro e w1 ⟨v, rfl, hg, h1, h2⟩
  have HG := Lib.hid (grown_boxed hg)
  have H1 := Lib.hid h1
  have H2 := Lib.hid h2
  clear hg h1 h2
  go_wp2_with fail
  go_ret2
  exact ⟨v, rfl, HG.out, H1.out, H2.out⟩
end Go.Proofs.Ytmmpnnpkfghhcaa
