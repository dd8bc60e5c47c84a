/-
  A walk over the document's own links: a frame taken, in one. No statement is proved in this text.
-/
import Derived.Test.YtgbbmhdkhhchhaaLnkU
import Derived.Test.YtgbbmhdkhhchhaaLnkV
set_option maxRecDepth 20000
namespace Go.Proofs.Ytgbbmhdkhhchhaa
open Go Go.RowKit
set_option maxHeartbeats 2000000 in
theorem refTake_v2 (w : World) (g : Nat) (M : Int → Pr) (h : RBox w g M) (fk : Int) (k : Nat) (f2 t1 t2 fn m1 m2 : Int) (hm : mayI k f2 = true) (ht : t1 = m1) (hf : ¬ (k : Int) = m1) (hv : t2 ≠ 0 ∧ t2 ≠ m2) :
    Calls Try.prog 17 #[.pointer (some ⟨g, 0, none⟩), .agg #[.int .u8 fk, .int .i64 (k : Int), .int .i64 f2, .int .i64 t1, .int .i64 t2, .int .i64 fn, .int .i64 0, .int .i64 0, .int .i64 0, .slice none 0 0, .slice none 0 0, .slice none 0 0, .slice none 0 0, .slice none 0 0], .agg #[.int .i64 m1, .int .i64 m2]] w (RDid (.int .i64 (takeE M ⟨fk, (k : Int), f2, t1, t2, fn⟩ m1 m2)) g (takeM M ⟨fk, (k : Int), f2, t1, t2, fn⟩ m1 m2) w) := by
  have B1 := Lib.hid (show Below w.heap.size w ((w.alloc (.cells #[.int .u8 fk, .int .i64 (k : Int), .int .i64 f2, .int .i64 t1, .int .i64 t2, .int .i64 fn, .int .i64 0, .int .i64 0, .int .i64 0, .slice none 0 0, .slice none 0 0, .slice none 0 0, .slice none 0 0, .slice none 0 0] 42)).alloc (.cells #[.int .i64 m1, .int .i64 m2] 23)) from ((Below.refl _ _).alloc (Nat.le_refl _) _).alloc (by simp) _)
  have X1 := Lib.hid (show FBox ((w.alloc (.cells #[.int .u8 fk, .int .i64 (k : Int), .int .i64 f2, .int .i64 t1, .int .i64 t2, .int .i64 fn, .int .i64 0, .int .i64 0, .int .i64 0, .slice none 0 0, .slice none 0 0, .slice none 0 0, .slice none 0 0, .slice none 0 0] 42)).alloc (.cells #[.int .i64 m1, .int .i64 m2] 23)) w.heap.size ⟨fk, (k : Int), f2, t1, t2, fn⟩ from (Below.heap_alloc _ _ _ (by simp)).trans (fbox_new w ⟨fk, (k : Int), f2, t1, t2, fn⟩))
  have I1 := Lib.hid (show Box ((w.alloc (.cells #[.int .u8 fk, .int .i64 (k : Int), .int .i64 f2, .int .i64 t1, .int .i64 t2, .int .i64 fn, .int .i64 0, .int .i64 0, .int .i64 0, .slice none 0 0, .slice none 0 0, .slice none 0 0, .slice none 0 0, .slice none 0 0] 42)).alloc (.cells #[.int .i64 m1, .int .i64 m2] 23)) (w.heap.size + 1) m1 m2 from by have := box_new (w.alloc (.cells #[.int .u8 fk, .int .i64 (k : Int), .int .i64 f2, .int .i64 t1, .int .i64 t2, .int .i64 fn, .int .i64 0, .int .i64 0, .int .i64 0, .slice none 0 0, .slice none 0 0, .slice none 0 0, .slice none 0 0, .slice none 0 0] 42)) m1 m2; simpa using this)
  have R1 := Lib.hid (rbox_below h B1.out)
  have GL := Lib.hid (rbox_lt h)
  clear h
  have HM := Lib.hid hm
  have k1 : (0 : Int) ≤ (k : Int) := by omega
  have k2 : (k : Int) < 13 := by have := (mayI_true hm).1; omega
  have hb1 : (t1 != m1) = false := by simpa using ht
  have hb2 : ((k : Int) == m1) = false := by simpa using hf
  have hb3 : (t2 != 0) = true := by simpa using hv.1
  have hb4 : (t2 != m2) = true := by simpa using hv.2
  have HT := Lib.hid (tk_no (M := M) (refuse_i (p := M k) (F := ⟨fk, k, f2, t1, t2, fn⟩) (m1 := m1) (m2 := m2) hm ht hf hv.1 hv.2) (by decide))
  clear hm ht hf hv
  go_enter Try.func17, Try.ntmps17
  go_wp2_with fail
  generalize hW : World.alloc _ _ = w1 at *
  clear hW
  (with_reducible refine (refMay_is true k f2 HM.out _).mono ?_)
  rintro e w2 ⟨rfl, hb⟩
  have X2 := Lib.hid (fbox_below X1.out hb (fbox_lt X1.out))
  have I2 := Lib.hid (box_below I1.out hb (box_lt I1.out))
  have R2 := Lib.hid (rbox_below R1.out hb)
  have B2 := Lib.hid (B1.out.trans (hb.mono B1.out.size))
  clear hb X1 I1 R1 B1
  obtain ⟨d0, d1, d2, d3, d4, d5⟩ := fbox_cells X2.out
  dsimp only at d0 d1 d2 d3 d4 d5
  obtain ⟨b0, b1⟩ := box_cells I2.out
  go_wp2_with fail
  go_quiet (fail)
  go_wp2_with fail
  go_quiet (fail)
  go_wp2_with fail
  go_ret
  rw [HT.out.1, HT.out.2]
  exact ⟨rfl, rbox_same R2.out rfl, ⟨B2.out.os, B2.out.tape, B2.out.output, B2.out.size, fun j hj _ _ => B2.out.block j hj, .inl rfl⟩⟩
theorem refTake_is (r : Int) (M' : Int → Pr) (w : World) (g : Nat) (M : Int → Pr) (h : RBox w g M) (F : Fm) (m1 m2 : Int) (hE : takeE M F m1 m2 = r) (hM : takeM M F m1 m2 = M') :
    Calls Try.prog 17 #[.pointer (some ⟨g, 0, none⟩), .agg #[.int .u8 F.k, .int .i64 F.f1, .int .i64 F.f2, .int .i64 F.t1, .int .i64 F.t2, .int .i64 F.n, .int .i64 0, .int .i64 0, .int .i64 0, .slice none 0 0, .slice none 0 0, .slice none 0 0, .slice none 0 0, .slice none 0 0], .agg #[.int .i64 m1, .int .i64 m2]] w (RDid (.int .i64 r) g M' w) := by
  subst hE hM
  obtain ⟨fk, f1, f2, t1, t2, fn⟩ := F
  dsimp only
  cases hm : mayI f1 f2
  · exact refTake_no w g M h fk f1 f2 t1 t2 fn m1 m2 hm
  · by_cases ht : t1 = m1
    · by_cases hf : f1 = m1
      · exact refTake_me w g M h fk f1 f2 t1 t2 fn m1 m2 hm ht hf
      · obtain ⟨k, rfl⟩ := Int.eq_ofNat_of_zero_le (show 0 ≤ f1 by have := (mayI_true hm).1; omega)
        by_cases h0 : t2 = 0
        · exact refTake_v0 w g M h fk k f2 t1 t2 fn m1 m2 hm ht hf h0
        · by_cases h2 : t2 = m2
          · exact refTake_v1 w g M h fk k f2 t1 t2 fn m1 m2 hm ht hf ⟨h0, h2⟩
          · exact refTake_v2 w g M h fk k f2 t1 t2 fn m1 m2 hm ht hf ⟨h0, h2⟩
    · exact refTake_to w g M h fk f1 f2 t1 t2 fn m1 m2 hm ht
theorem nix_put {M : Int → Pr} (h : Nix M) {a i : Int} (hm : mayI a i = true) (p : Pr) : Nix (put M a p) := by
  intro k hk
  have := (mayI_true hm).1
  rw [put_other M p (by omega)]
  exact h k hk
theorem nix_step {M : Int → Pr} (m1 m2 : Int) (s : Sp) (h : Nix M) : Nix (step m1 m2 M s) := by
  unfold step
  split
  · unfold fenceM
    split
    · rename_i hm
      exact nix_put h hm _
    · exact h
  · by_cases h0 : takeE M s.F m1 m2 = 0
    · rw [takeM_yes h0]
      exact nix_put h (refuse_zero (takeE_zero h0).1).1 _
    · rw [takeM_no h0]
      exact h
theorem nix_plays (m1 m2 : Int) (l : List Sp) : ∀ M : Int → Pr, Nix M → Nix (plays m1 m2 M l) := by
  induction l with
  | nil => intro M h; exact h
  | cons s l ih => intro M h; exact ih _ (nix_step m1 m2 s h)
theorem nix_none : Nix (fun _ => p0) := fun _ _ => rfl
end Go.Proofs.Ytgbbmhdkhhchhaa
