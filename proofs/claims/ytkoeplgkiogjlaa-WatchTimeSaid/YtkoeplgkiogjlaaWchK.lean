/-
  A watch of a law's own, and its lists; the example. No statement is proved in this text; it holds for every input that its premises let by.
-/
import Derived.Test.YtkoeplgkiogjlaaWchJ
set_option maxRecDepth 20000
namespace Go.Proofs.Ytkoeplgkiogjlaa
open Go Go.RowKit Sets Go.Maps Go.ChangeMaps Go.MapKept
variable {S S2 S' : Nat → Prop} {W W' w0 : World} {p n : Nat} {e : Dt} {K : List Id2} {D : Id2 → Dt}
/-- A list of IDs that does not lie in the blocks of S. -/
structure IL (S : Nat → Prop) (W : World) (v : Value) (l : List Id2) : Prop where
  ids : Ids W v l
  no : NoS S v l.length
theorem IL.step {v : Value} {l : List Id2} (h : IL S W v l) (u : Upd S W W' S') : IL S' W' v l := ⟨(h.ids.step h.no u).1, (h.ids.step h.no u).2⟩
theorem IL.keep {v : Value} {l : List Id2} (h : IL S W v l) (hb : Below W.heap.size W W') : IL S W' v l := ⟨h.ids.below hb, h.no⟩
/-- A watch of the call's own. -/
structure Sit (w0 W : World) (S : Nat → Prop) (p n : Nat) (e : Dt) (K : List Id2) (D : Id2 → Dt) : Prop where
  wat : Wat S W p n e K D
  lo : ∀ k, S k → w0.heap.size ≤ k
  below : Below w0.heap.size w0 W
theorem Sit.upd {n' : Nat} {K' : List Id2} {D' : Id2 → Dt} (h : Sit w0 W S p n e K D) (k : Wat S' W' p n' e K' D') (u : Upd S W W' S') : Sit w0 W' S' p n' e K' D' := by
  refine ⟨k, fun i hi => ?_, h.below.trans (u.fr.below h.below.size h.lo)⟩
  rcases u.sub i hi with x | x
  · exact h.lo i x
  · exact Nat.le_trans h.below.size x
theorem Sit.keep (h : Sit w0 W S p n e K D) (hb : Below W.heap.size W W') : Sit w0 W' S p n e K D := ⟨h.wat.keep hb, h.lo, below_after h.below hb (Nat.le_refl _)⟩
theorem Sit.look (h : Sit w0 W S p n e K D) (v : Value) (l : List Id2) (x : Int) (hv : Ids W v l) (hl : l.length ≤ 40000) (hi : ∀ q ∈ l, In2 q) (hn : n ≤ 100000) :
    Calls Try.prog 16 #[.pointer (some ⟨p, 0, none⟩), v, .int .i64 x] W fun en W' => ∃ S' A c, en = .returned (.slice A (lateL (withD e K D x) x (setOf l)).length c) ∧ Sit w0 W' S' p (n + l.length) e (setOf l) (withD e K D x) ∧ Upd S W W' S' ∧ IL S' W' (.slice A (lateL (withD e K D x) x (setOf l)).length c) (lateL (withD e K D x) x (setOf l)) := by
  refine (look_any h.wat v l x hv hl hi hn).mono ?_
  rintro en W' ⟨S', u, rfl, h1, h2, h3, h4⟩
  have hI := ids_of_owns h3
  obtain ⟨A, c, rfl, _⟩ := id hI
  exact ⟨S', A, c, rfl, h.upd h1 h2, h2, hI, fun _ => h4⟩
theorem Sit.heard (h : Sit w0 W S p n e K D) (a i x : Int) (hq : In2 (a, i)) :
    Calls Try.prog 14 #[.pointer (some ⟨p, 0, none⟩), .agg #[.int .i64 a, .int .i64 i], .int .i64 x] W fun en W' => en = .returned (.bool (hasB (a, i) K)) ∧ ∃ S', Sit w0 W' S' p n e K (heardD D (a, i) x) ∧ Upd S W W' S' := by
  refine (wheard_any h.wat a i x hq).mono ?_
  rintro en W' ⟨rfl, S', h1, h2⟩
  exact ⟨rfl, S', h.upd h1 h2, h2⟩
/-- Who is watched: a list of its own. -/
theorem Sit.watched (h : Sit w0 W S p n e K D) (hn : n ≤ 40000) (hK : Rises K) :
    Calls Try.prog 19 #[.pointer (some ⟨p, 0, none⟩)] W fun en W' => ∃ A c, en = .returned (.slice A K.length c) ∧ IL S W' (.slice A K.length c) K ∧ Below W.heap.size W W' := by
  obtain ⟨f, mb, L, hI⟩ := h.wat
  refine (watched_any hI hn hK).mono ?_
  rintro en W' ⟨v, rfl, h1, h2⟩
  have hI2 := ids_of_owns h1
  obtain ⟨A, c, rfl, _⟩ := id hI2
  exact ⟨A, c, rfl, ⟨hI2, fun _ g hg hS => by
    have := (World.ownsRow.lt h1 g hg).1
    have := hI.lt g hS
    omega⟩, h2⟩
theorem Sit.new (w0 W : World) (hb : Below w0.heap.size w0 W) (mn mx wi : Int) (h : newOk mn mx wi = true) :
    Calls Try.prog 10 #[.int .i64 mn, .int .i64 mx, .int .i64 wi] W fun en W' => ∃ p S, en = .returned (.tuple #[.pointer (some ⟨p, 0, none⟩), .int .i64 0]) ∧ Sit w0 W' S p 0 (Dt.new mn mx wi) [] (fun _ => Dt.new mn mx wi) ∧ (∀ k, S k → W.heap.size ≤ k) ∧ Below W.heap.size W W' := by
  refine (wnew_yes mn mx wi h W).mono ?_
  rintro en W' ⟨p, S, rfl, h1, h2, h3⟩
  exact ⟨p, S, rfl, ⟨h1, fun k hk => Nat.le_trans hb.size (h2 k hk), below_after hb h3 (Nat.le_refl _)⟩, h2, h3⟩
/-- What has just been made does not lie in S. -/
theorem IL.fresh {v : Value} {l : List Id2} (h : Ids W' v l) (hS : ∀ k, S k → k < W.heap.size) (hv : ∀ g, v.ownBlock = some g → W.heap.size ≤ g) : IL S W' v l :=
  ⟨h, fun _ g hg hk => by have := hS g hk; have := hv g hg; omega⟩
theorem ids_two (w : World) (a i b j : Int) : Ids (w.alloc (.cells #[.int .i64 a, .int .i64 i, .int .i64 b, .int .i64 j] 35)) (.slice (some ⟨w.heap.size, 0, none⟩) 2 2) [(a, i), (b, j)] := by
  have h := heap_alloc_new w (.cells #[.int .i64 a, .int .i64 i, .int .i64 b, .int .i64 j] 35)
  refine ⟨some ⟨w.heap.size, 0, none⟩, 2, rfl, (fun h => by cases h), by simp, fun k hk => ⟨_, rfl, by simp, ?_, ?_⟩⟩
  · match k, hk with
    | 0, _ => exact (cell_of_row _ _ 0 _ _ _ h).trans rfl
    | 1, _ => exact (cell_of_row _ _ 2 _ _ _ h).trans rfl
  · match k, hk with
    | 0, _ => exact (cell_of_row _ _ 1 _ _ _ h).trans rfl
    | 1, _ => exact (cell_of_row _ _ 3 _ _ _ h).trans rfl
def awE : Dt := Dt.new 2 5 3
def awB : List Id2 := [(1, 1), (2, 1)]
def awO : List Id2 := [(1, 1)]
def aw1 : Id2 → Dt := withD awE [] (fun _ => awE) 10
def aw2 : Id2 → Dt := withD awE awB aw1 16
def aw3 : Id2 → Dt := heardD aw2 (1, 1) 16
def aw4 : Id2 → Dt := withD awE awB aw3 16
def aw5 : Id2 → Dt := withD awE awB aw4 17
def aw6 : Id2 → Dt := withD awE awO aw5 18
theorem awB_set : setOf awB = awB := by kernel_rfl
theorem awO_set : setOf awO = awO := by kernel_rfl
theorem aw_a : lateL aw1 10 awB = [] := by kernel_rfl
theorem aw_b : lateL aw2 16 awB = awB := by kernel_rfl
theorem aw_c : lateL aw4 16 awB = [(2, 1)] := by kernel_rfl
theorem aw_d : lateL aw5 17 awO = [] := by kernel_rfl
theorem aw_f : lateL aw6 18 awB = [] := by kernel_rfl
theorem awB_in : ∀ q ∈ awB, In2 q := by
  intro q hq
  simp only [awB, List.mem_cons, List.not_mem_nil, or_false] at hq
  rcases hq with rfl | rfl <;> (unfold In2; decide)
theorem awO_in : ∀ q ∈ awO, In2 q := by
  intro q hq
  simp only [awO, List.mem_cons, List.not_mem_nil, or_false] at hq
  rcases hq with rfl
  unfold In2
  decide
set_option maxHeartbeats 4000000 in
theorem awake_any (w : World) : Calls Try.prog 9 #[] w fun en w' => en = .returned (.bool true) ∧ Below w.heap.size w w' := by
  go_enter Try.func9, Try.ntmps9
  go_wp2_with fail
  (with_reducible refine (Sit.new w _ (Below.refl _ _) 2 5 3 (by kernel_rfl)).mono ?_)
  rintro en w1 ⟨p, S1, rfl, h1, -, -⟩
  have Q : Hid (Sit w w1 S1 p 0 awE [] (fun _ => awE)) := Lib.hid h1
  clear h1
  go_wp2_with fail
  (with_reducible refine (at_any 1 _).mono ?_)
  rintro en w2 ⟨rfl, hb⟩
  have Q := Lib.hid (Q.out.keep hb)
  clear hb
  go_wp2_with fail
  (with_reducible refine (at_any 2 _).mono ?_)
  rintro en w3 ⟨rfl, hb⟩
  have Q := Lib.hid (Q.out.keep hb)
  clear hb
  have IB : Hid (IL S1 (w3.alloc (.cells #[.int .i64 1, .int .i64 1, .int .i64 2, .int .i64 1] 35)) (.slice (some ⟨w3.heap.size, 0, none⟩) 2 2) awB) := Lib.hid (.fresh (ids_two w3 1 1 2 1) Q.out.wat.lt (fun g hg => by injection hg with hg; exact Nat.le_of_eq hg))
  have Q := Lib.hid (Q.out.keep (below_one w3 (.cells #[.int .i64 1, .int .i64 1, .int .i64 2, .int .i64 1] 35)))
  go_wp2_with fail
  (with_reducible refine (at_any 1 _).mono ?_)
  rintro en w4 ⟨rfl, hb⟩
  have Q := Lib.hid (Q.out.keep hb)
  have IB := Lib.hid (IB.out.keep hb)
  clear hb
  have IO : Hid (IL S1 (w4.alloc (.cells #[.int .i64 1, .int .i64 1] 35)) (.slice (some ⟨w4.heap.size, 0, none⟩) 1 1) awO) := Lib.hid (.fresh (ids_one w4 1 1) Q.out.wat.lt (fun g hg => by injection hg with hg; exact Nat.le_of_eq hg))
  have Q := Lib.hid (Q.out.keep (below_one w4 (.cells #[.int .i64 1, .int .i64 1] 35)))
  have IB := Lib.hid (IB.out.keep (below_one w4 (.cells #[.int .i64 1, .int .i64 1] 35)))
  generalize w3.heap.size = gb at *
  go_upto_region 5 with fail
  generalize w4.alloc (.cells #[.int .i64 1, .int .i64 1] 35) = w5 at *
  generalize w4.heap.size = go at *
  go_wp2_with fail
  (with_reducible refine (Q.out.look _ awB 10 IB.out.ids (by decide) awB_in (by decide)).mono ?_)
  rw [awB_set]
  rintro en wx ⟨Sx, Aa, ca, rfl, h1, h2, h3⟩
  have h1 : Sit w wx Sx p _ awE awB aw1 := h1
  have h3 : IL Sx wx (.slice Aa (lateL aw1 10 awB).length ca) (lateL aw1 10 awB) := h3
  have he : (lateL (withD awE [] (fun _ => awE) 10) 10 awB) = _ := aw_a
  rw [aw_a] at h3
  rw [he]
  clear he
  have Q := Lib.hid h1
  have IB := Lib.hid (IB.out.step h2)
  have IO := Lib.hid (IO.out.step h2)
  have Ra := Lib.hid h3
  clear h1 h2 h3
  go_wp2_with fail
  (with_reducible refine (Q.out.look _ awB 16 IB.out.ids (by decide) awB_in (by decide)).mono ?_)
  rw [awB_set]
  rintro en wx ⟨Sx, Ab, cb, rfl, h1, h2, h3⟩
  have h1 : Sit w wx Sx p _ awE awB aw2 := h1
  have h3 : IL Sx wx (.slice Ab (lateL aw2 16 awB).length cb) (lateL aw2 16 awB) := h3
  have he : (lateL (withD awE awB aw1 16) 16 awB) = _ := aw_b
  rw [aw_b] at h3
  rw [he]
  clear he
  have Q := Lib.hid h1
  have IB := Lib.hid (IB.out.step h2)
  have IO := Lib.hid (IO.out.step h2)
  have Ra := Lib.hid (Ra.out.step h2)
  have Rb := Lib.hid h3
  clear h1 h2 h3
  go_wp2_with fail
  (with_reducible refine (at_any 1 _).mono ?_)
  rintro en wx ⟨rfl, hb⟩
  have Q := Lib.hid (Q.out.keep hb)
  have IB := Lib.hid (IB.out.keep hb)
  have IO := Lib.hid (IO.out.keep hb)
  have Ra := Lib.hid (Ra.out.keep hb)
  have Rb := Lib.hid (Rb.out.keep hb)
  clear hb
  go_wp2_with fail
  (with_reducible refine (Q.out.heard 1 1 16 (awO_in (1, 1) (by simp [awO]))).mono ?_)
  rw [show hasB (1, 1) awB = true from by kernel_rfl]
  rintro en wx ⟨rfl, Sx, h1, h2⟩
  have h1 : Sit w wx Sx p _ awE awB aw3 := h1
  have Q := Lib.hid h1
  have IB := Lib.hid (IB.out.step h2)
  have IO := Lib.hid (IO.out.step h2)
  have Ra := Lib.hid (Ra.out.step h2)
  have Rb := Lib.hid (Rb.out.step h2)
  clear h1 h2
  go_wp2_with fail
  (with_reducible refine (Q.out.look _ awB 16 IB.out.ids (by decide) awB_in (by decide)).mono ?_)
  rw [awB_set]
  rintro en wx ⟨Sx, Ac, cc, rfl, h1, h2, h3⟩
  have h1 : Sit w wx Sx p _ awE awB aw4 := h1
  have h3 : IL Sx wx (.slice Ac (lateL aw4 16 awB).length cc) (lateL aw4 16 awB) := h3
  have he : (lateL (withD awE awB aw3 16) 16 awB) = _ := aw_c
  rw [aw_c] at h3
  rw [he]
  clear he
  have Q := Lib.hid h1
  have IB := Lib.hid (IB.out.step h2)
  have IO := Lib.hid (IO.out.step h2)
  have Ra := Lib.hid (Ra.out.step h2)
  have Rb := Lib.hid (Rb.out.step h2)
  have Rc := Lib.hid h3
  clear h1 h2 h3
  go_wp2_with fail
  (with_reducible refine (Q.out.look _ awO 17 IO.out.ids (by decide) awO_in (by decide)).mono ?_)
  rw [awO_set]
  rintro en wx ⟨Sx, Ad, cd, rfl, h1, h2, h3⟩
  have h1 : Sit w wx Sx p _ awE awO aw5 := h1
  have h3 : IL Sx wx (.slice Ad (lateL aw5 17 awO).length cd) (lateL aw5 17 awO) := h3
  have he : (lateL (withD awE awB aw4 17) 17 awO) = _ := aw_d
  rw [aw_d] at h3
  rw [he]
  clear he
  have Q := Lib.hid h1
  have IB := Lib.hid (IB.out.step h2)
  have IO := Lib.hid (IO.out.step h2)
  have Ra := Lib.hid (Ra.out.step h2)
  have Rb := Lib.hid (Rb.out.step h2)
  have Rc := Lib.hid (Rc.out.step h2)
  have Rd := Lib.hid h3
  clear h1 h2 h3
  go_wp2_with fail
  (with_reducible refine (Q.out.look _ awB 18 IB.out.ids (by decide) awB_in (by decide)).mono ?_)
  rw [awB_set]
  rintro en wx ⟨Sx, Af, cf, rfl, h1, h2, h3⟩
  have h1 : Sit w wx Sx p _ awE awB aw6 := h1
  have h3 : IL Sx wx (.slice Af (lateL aw6 18 awB).length cf) (lateL aw6 18 awB) := h3
  have he : (lateL (withD awE awO aw5 18) 18 awB) = _ := aw_f
  rw [aw_f] at h3
  rw [he]
  clear he
  have Q := Lib.hid h1
  have IB := Lib.hid (IB.out.step h2)
  have IO := Lib.hid (IO.out.step h2)
  have Ra := Lib.hid (Ra.out.step h2)
  have Rb := Lib.hid (Rb.out.step h2)
  have Rc := Lib.hid (Rc.out.step h2)
  have Rd := Lib.hid (Rd.out.step h2)
  have Rf := Lib.hid h3
  clear h1 h2 h3
  go_wp2_with fail
  (with_reducible refine (refSame_any _ _ awB awB _ Rb.out.ids IB.out.ids (by decide) (by decide)).mono ?_)
  rw [show sameB (setOf awB) (setOf awB) = true from by kernel_rfl]
  rintro en wx ⟨rfl, hb⟩
  have Q := Lib.hid (Q.out.keep hb)
  have IB := Lib.hid (IB.out.keep hb)
  have IO := Lib.hid (IO.out.keep hb)
  have Ra := Lib.hid (Ra.out.keep hb)
  have Rb := Lib.hid (Rb.out.keep hb)
  have Rc := Lib.hid (Rc.out.keep hb)
  have Rd := Lib.hid (Rd.out.keep hb)
  have Rf := Lib.hid (Rf.out.keep hb)
  clear hb
  go_wp2_with fail
  (with_reducible refine (at_any 2 _).mono ?_)
  rintro en wy ⟨rfl, hb⟩
  have Q := Lib.hid (Q.out.keep hb)
  have IB := Lib.hid (IB.out.keep hb)
  have IO := Lib.hid (IO.out.keep hb)
  have Ra := Lib.hid (Ra.out.keep hb)
  have Rb := Lib.hid (Rb.out.keep hb)
  have Rc := Lib.hid (Rc.out.keep hb)
  have Rd := Lib.hid (Rd.out.keep hb)
  have Rf := Lib.hid (Rf.out.keep hb)
  clear hb
  have IC := Lib.hid (ids_one wy 2 1)
  have hb := below_one wy (.cells #[.int .i64 2, .int .i64 1] 35)
  have Q := Lib.hid (Q.out.keep hb)
  have IB := Lib.hid (IB.out.keep hb)
  have IO := Lib.hid (IO.out.keep hb)
  have Ra := Lib.hid (Ra.out.keep hb)
  have Rb := Lib.hid (Rb.out.keep hb)
  have Rc := Lib.hid (Rc.out.keep hb)
  have Rd := Lib.hid (Rd.out.keep hb)
  have Rf := Lib.hid (Rf.out.keep hb)
  clear hb
  go_wp2_with fail
  refine (refSame_any _ _ [(2, 1)] [(2, 1)] _ Rc.out.ids IC.out (by decide) (by decide)).mono ?_
  rw [show sameB (setOf [(2, 1)]) (setOf [(2, 1)]) = true from by kernel_rfl]
  rintro en wz ⟨rfl, hb⟩
  have Q := Lib.hid (Q.out.keep hb)
  clear hb
  go_wp2_with fail
  go_ret
  exact ⟨rfl, Q.out.below⟩
end Go.Proofs.Ytkoeplgkiogjlaa
