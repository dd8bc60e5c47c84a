/-
  A walk: what a frame makes of what is known of an address. No statement is proved in this text.
-/
import Derived.Test.YtgbbmhdkhhchhaaLnkB
set_option maxRecDepth 20000
namespace Go.Proofs.Ytgbbmhdkhhchhaa
open Go Go.RowKit
theorem after_5n {p : Pr} {F : Fm} (k : (F.k == 5) = true) (h : p.nw < F.f2) : after p F = (⟨F.f2, p.fe, F.n, 0⟩, 0) := by
  have : F.k = 5 := by simpa using k
  unfold after newer
  rw [if_pos this, if_neg (by omega), if_pos h]
theorem after_5o {p : Pr} {F : Fm} (k : (F.k == 5) = true) (h : ¬ p.nw < F.f2) (g : ¬ F.n ≤ p.be) : after p F = (⟨p.nw, p.fe, F.n, p.re⟩, 0) := by
  have : F.k = 5 := by simpa using k
  unfold after newer
  rw [if_pos this, if_neg (by omega), if_neg h]
theorem after_5t {p : Pr} {F : Fm} (k : (F.k == 5) = true) (h : ¬ p.nw < F.f2) (g : F.n ≤ p.be) : after p F = (p0, 6) := by
  have : F.k = 5 := by simpa using k
  unfold after newer
  rw [if_pos this, if_pos (by omega)]
theorem after_6n {p : Pr} {F : Fm} (k5 : (F.k == 5) = false) (k : (F.k == 6) = true) (h : p.nw < F.f2) : after p F = (⟨F.f2, p.fe, 0, F.n⟩, 0) := by
  have : F.k = 6 := by simpa using k
  have _k5 : ¬ F.k = 5 := by simpa using k5
  unfold after newer
  rw [if_neg (by omega), if_pos this, if_neg (by omega), if_pos h]
theorem after_6o {p : Pr} {F : Fm} (k5 : (F.k == 5) = false) (k : (F.k == 6) = true) (h : ¬ p.nw < F.f2) (g : ¬ F.n ≤ p.re) : after p F = (⟨p.nw, p.fe, p.be, F.n⟩, 0) := by
  have : F.k = 6 := by simpa using k
  have _k5 : ¬ F.k = 5 := by simpa using k5
  unfold after newer
  rw [if_neg (by omega), if_pos this, if_neg (by omega), if_neg h]
theorem after_6t {p : Pr} {F : Fm} (k5 : (F.k == 5) = false) (k : (F.k == 6) = true) (h : ¬ p.nw < F.f2) (g : F.n ≤ p.re) : after p F = (p0, 6) := by
  have : F.k = 6 := by simpa using k
  have _k5 : ¬ F.k = 5 := by simpa using k5
  unfold after newer
  rw [if_neg (by omega), if_pos this, if_pos (by omega)]
theorem after_xn {p : Pr} {F : Fm} (k5 : (F.k == 5) = false) (k6 : (F.k == 6) = false) (h : p.nw < F.f2) : after p F = (⟨F.f2, p.fe, 0, 0⟩, 0) := by
  have h5 : ¬ F.k = 5 := by simpa using k5
  have h6 : ¬ F.k = 6 := by simpa using k6
  unfold after newer
  rw [if_neg h5, if_neg h6, if_pos h]
theorem after_xo {p : Pr} {F : Fm} (k5 : (F.k == 5) = false) (k6 : (F.k == 6) = false) (h : ¬ p.nw < F.f2) : after p F = (p, 0) := by
  have h5 : ¬ F.k = 5 := by simpa using k5
  have h6 : ¬ F.k = 6 := by simpa using k6
  unfold after newer
  rw [if_neg h5, if_neg h6, if_neg h]
/-- What 'after' answers. -/
def Aft (r : Pr × Int) (w : World) (e : Ending) (w' : World) : Prop := e = .returned (.tuple #[.agg #[.int .i64 r.1.nw, .int .i64 r.1.fe, .int .i64 r.1.be, .int .i64 r.1.re], .int .i64 r.2]) ∧ Below w.heap.size w w'
set_option maxHeartbeats 2000000 in
theorem after_any (p : Pr) (F : Fm) (w : World) :
    Calls Try.prog 29 #[.agg #[.int .i64 p.nw, .int .i64 p.fe, .int .i64 p.be, .int .i64 p.re], .agg #[.int .u8 F.k, .int .i64 F.f1, .int .i64 F.f2, .int .i64 F.t1, .int .i64 F.t2, .int .i64 F.n, .int .i64 0, .int .i64 0, .int .i64 0, .slice none 0 0, .slice none 0 0, .slice none 0 0, .slice none 0 0, .slice none 0 0]] w (Aft (after p F) w) := by
  have B0 : Hid (∀ o1 o2 o3 : Obj, Below w.heap.size w (((w.alloc o1).alloc o2).alloc o3)) := Lib.hid fun o1 o2 o3 => (((Below.refl _ _).alloc (Nat.le_refl _) o1).alloc (by simp) o2).alloc (by simp; omega) o3
  have hsd : ∀ (w : World) (n : Nat) (a : Addr) (v : Value), (w.drewN n).setCell a v = (w.setCell a v).drewN n := fun _ _ _ _ => rfl
  by_cases hn : p.nw < F.f2
  · cases k5 : (F.k == 5)
    · cases k6 : (F.k == 6)
      · have HA := Lib.hid (after_xn k5 k6 hn)
        go_enter Try.func29, Try.ntmps29
        go_wp2_with fail
        refine bodyPost_ret (v := .tuple #[.agg #[.int .i64 (after p F).1.nw, .int .i64 (after p F).1.fe, .int .i64 (after p F).1.be, .int .i64 (after p F).1.re], .int .i64 (after p F).2]) ?_ rfl ⟨rfl, B0.out _ _ _⟩
        rw [HA.out]
        simp [results, Try.results29, go_sem]
      · have HA := Lib.hid (after_6n k5 k6 hn)
        go_enter Try.func29, Try.ntmps29
        go_wp2_with fail
        go_quiet (fail)
        go_wp2_with fail
        refine bodyPost_ret (v := .tuple #[.agg #[.int .i64 (after p F).1.nw, .int .i64 (after p F).1.fe, .int .i64 (after p F).1.be, .int .i64 (after p F).1.re], .int .i64 (after p F).2]) ?_ rfl ⟨rfl, below_drewN (B0.out _ _ _)⟩
        rw [HA.out]
        simp [results, Try.results29, go_sem]
    · have HA := Lib.hid (after_5n k5 hn)
      go_enter Try.func29, Try.ntmps29
      go_wp2_with fail
      go_quiet (fail)
      go_wp2_with fail
      refine bodyPost_ret (v := .tuple #[.agg #[.int .i64 (after p F).1.nw, .int .i64 (after p F).1.fe, .int .i64 (after p F).1.be, .int .i64 (after p F).1.re], .int .i64 (after p F).2]) ?_ rfl ⟨rfl, below_drewN (B0.out _ _ _)⟩
      rw [HA.out]
      simp [results, Try.results29, go_sem]
  · cases k5 : (F.k == 5)
    · cases k6 : (F.k == 6)
      · have HA := Lib.hid (after_xo k5 k6 hn)
        go_enter Try.func29, Try.ntmps29
        go_wp2_with fail
        refine bodyPost_ret (v := .tuple #[.agg #[.int .i64 (after p F).1.nw, .int .i64 (after p F).1.fe, .int .i64 (after p F).1.be, .int .i64 (after p F).1.re], .int .i64 (after p F).2]) ?_ rfl ⟨rfl, B0.out _ _ _⟩
        rw [HA.out]
        simp [results, Try.results29, go_sem]
      · by_cases g : F.n ≤ p.re
        · have HA := Lib.hid (after_6t k5 k6 hn g)
          go_enter Try.func29, Try.ntmps29
          go_wp2_with fail
          go_quiet (fail)
          go_wp2_with fail
          refine bodyPost_ret (v := .tuple #[.agg #[.int .i64 (after p F).1.nw, .int .i64 (after p F).1.fe, .int .i64 (after p F).1.be, .int .i64 (after p F).1.re], .int .i64 (after p F).2]) ?_ rfl ⟨rfl, below_drewN (B0.out _ _ _)⟩
          rw [HA.out]
          simp [results, Try.results29, go_sem, p0]
        · have HA := Lib.hid (after_6o k5 k6 hn g)
          go_enter Try.func29, Try.ntmps29
          go_wp2_with fail
          go_quiet (fail)
          go_wp2_with fail
          refine bodyPost_ret (v := .tuple #[.agg #[.int .i64 (after p F).1.nw, .int .i64 (after p F).1.fe, .int .i64 (after p F).1.be, .int .i64 (after p F).1.re], .int .i64 (after p F).2]) ?_ rfl ⟨rfl, below_drewN (B0.out _ _ _)⟩
          rw [HA.out]
          simp [results, Try.results29, go_sem]
    · by_cases g : F.n ≤ p.be
      · have HA := Lib.hid (after_5t k5 hn g)
        go_enter Try.func29, Try.ntmps29
        go_wp2_with fail
        go_quiet (fail)
        go_wp2_with fail
        refine bodyPost_ret (v := .tuple #[.agg #[.int .i64 (after p F).1.nw, .int .i64 (after p F).1.fe, .int .i64 (after p F).1.be, .int .i64 (after p F).1.re], .int .i64 (after p F).2]) ?_ rfl ⟨rfl, below_drewN (B0.out _ _ _)⟩
        rw [HA.out]
        simp [results, Try.results29, go_sem, p0]
      · have HA := Lib.hid (after_5o k5 hn g)
        go_enter Try.func29, Try.ntmps29
        go_wp2_with fail
        go_quiet (fail)
        go_wp2_with fail
        refine bodyPost_ret (v := .tuple #[.agg #[.int .i64 (after p F).1.nw, .int .i64 (after p F).1.fe, .int .i64 (after p F).1.be, .int .i64 (after p F).1.re], .int .i64 (after p F).2]) ?_ rfl ⟨rfl, below_drewN (B0.out _ _ _)⟩
        rw [HA.out]
        simp [results, Try.results29, go_sem]
end Go.Proofs.Ytgbbmhdkhhchhaa
