/-
  A walk over the program's way to bring any list of ticks into order. No statement is proved in this text; it holds for every input that its premises let by.
-/
import Derived.Test.YtpmfanglgkohjaaWalksD
namespace Go.Proofs.Ytpmfanglgkohjaa
open Go.RowKit Go.Shelf Sets Clocks
theorem delete_empty (A : Option Addr) (c : Nat) (w : World) (hA : A = none → c = 0) : Calls Try.prog 26 #[.slice A 0 c, .func (.func 28) #[] #[]] w fun e w' => e = .returned (.slice A 0 c) ∧ Below w.heap.size w w' := by
  have HI := Lib.hid (show Rcs encT 3 w (.slice A 0 c) (#[] : Array Tick).toList from ⟨A, c, rfl, hA, Nat.zero_le _, fun k hk => absurd hk (by simp)⟩)
  go_enter Try.func26, Try.ntmps26
  go_wp2_with fail
  (with_reducible refine (index_any _ #[] _ HI.out (by simp)).mono ?_)
  rintro e w1 ⟨⟨r, rfl, hf⟩, hb⟩
  rcases hf with ⟨rfl, _⟩ | ⟨k, rfl, hk, _⟩
  · go_wp2_with fail
    go_ret
    exact ⟨rfl, hb⟩
  · exact absurd hk (by simp)
theorem sort_empty (A : Option Addr) (c : Nat) (w : World) : Calls Try.prog 29 #[.slice A 0 c, .func (.func 30) #[] #[]] w fun e w' => e = .returned (.tuple #[]) ∧ w' = w :=
  AnyF.slices_SortFunc_none sortT A c _ w
theorem compact_empty (A : Option Addr) (c : Nat) (w : World) : Calls Try.prog 34 #[.slice A 0 c, .func (.func 35) #[] #[]] w fun e w' => e = .returned (.slice A 0 c) ∧ w' = w := by
  go_enter Try.func34, Try.ntmps34
  go_wp2_with fail
  go_ret
  exact ⟨rfl, rfl⟩
/-- A slice that lies in memory from B on. -/
def Fresh (B : Nat) (v : Value) : Prop := ∀ ad n c, v = .slice (some ad) n c → B ≤ ad.block
theorem nrm_nil : nrm [] = [] := rfl
set_option maxHeartbeats 1000000 in
theorem said_any (v : Value) (l : List Tick) (w : World) (h : Rcs encT 3 w v l) (hl : l.length ≤ 100000) :
    Calls Try.prog 23 #[v] w fun e w' => ∃ v', e = .returned v' ∧ Rcs encT 3 w' v' (nrm l) ∧ Fresh w.heap.size v' ∧ Below w.heap.size w w' := by
  have HI := Lib.hid h
  clear h
  go_enter Try.func23, Try.ntmps23
  go_wp2_with fail
  (with_reducible refine (clone_any v l _ HI.out hl).mono ?_)
  rintro e w1 ⟨v1, rfl, ho, hb⟩
  have B1 := Lib.hid hb
  have O1 := Lib.hid ho
  clear hb
  by_cases hn : l.length = 0
  · obtain rfl := List.eq_nil_of_length_eq_zero hn
    obtain ⟨A, c, rfl, hA, hF⟩ : ∃ A c, v1 = .slice A 0 c ∧ (A = none → c = 0) ∧ Hid (Fresh w.heap.size (.slice A 0 c)) := by
      rcases id ho.2 with ⟨rfl, _⟩ | ⟨g, cap, cur, rfl, hg, _⟩
      · exact ⟨none, 0, rfl, fun _ => rfl, Lib.hid fun ad n c e => by cases e⟩
      · exact ⟨some ⟨g, 0, none⟩, cap, rfl, (fun h => by cases h), Lib.hid fun ad n c e => by injection e with e; injection e with e; subst e; exact hg⟩
    clear ho
    go_wp2_with fail
    (with_reducible refine (delete_empty A c _ hA).mono ?_)
    rintro e w2 ⟨rfl, hb⟩
    have B2 := Lib.hid (below_after B1.out hb (Nat.le_refl _))
    clear hb
    go_wp2_with (first | (go_at_call 29; refine (sort_empty A c _).mono ?_; rintro e w' ⟨rfl, rfl⟩) | (go_at_call 34; refine (compact_empty A c _).mono ?_; rintro e w' ⟨rfl, rfl⟩))
    go_ret
    refine ⟨_, rfl, ⟨A, c, rfl, hA, Nat.zero_le _, fun k hk => absurd hk (by rw [nrm_nil]; simp)⟩, hF.out, B2.out⟩
  · obtain ⟨g, c, rfl, hgB, hc⟩ : ∃ g c, v1 = .slice (some ⟨g, 0, none⟩) l.toArray.size c ∧ w.heap.size ≤ g ∧ l.toArray.size ≤ c := by
      rcases id ho.2 with ⟨rfl, h0⟩ | ⟨g, cap, cur, rfl, hg, _, hc, _⟩
      · exact absurd h0 hn
      · exact ⟨g, cap, by simp, hg, by simpa using hc⟩
    have R1 : RowAt w1 g l.toArray := rowAt_owns (c := c) (by simpa using ho)
    have HR1 := Lib.hid R1
    clear ho R1
    have hs0 : 0 < l.toArray.size := by simp; omega
    have hs1 : l.toArray.size ≤ 100000 := by simpa using hl
    have HL := Lib.hid (show l.toArray.toList = l by simp)
    generalize l.toArray = d0 at *
    go_wp2_with fail
    (with_reducible refine (delete_any g c d0 _ HR1.out hc hs1 hs0).mono ?_)
    rintro e w2 ⟨d1, rfl, hd1, hr, hg⟩
    have HD1 := Lib.hid hd1
    have HR2 := Lib.hid hr
    have HG2 := Lib.hid hg
    have hs2 : d1.size ≤ d0.size := by
      have := List.length_filter_le (fun t : Tick => !decide (t.2 ≤ 0)) d0.toList
      rw [← hd1] at this
      simpa using this
    clear hd1 hr hg
    go_wp2_with fail
    (with_reducible refine (sort_any g c d1 _ HR2.out (by omega)).mono ?_)
    rintro e w3 ⟨rfl, d2, hsz, hp, hso, hr, hg⟩
    have HP := Lib.hid hp
    have HS := Lib.hid hso
    have HR3 := Lib.hid hr
    have HG3 := Lib.hid (grown_trans HG2.out hg)
    clear hp hso hr hg
    have hcc := compact_any g c d2 w3 HR3.out (by omega) (by omega)
    rw [hsz] at hcc
    have HCC := Lib.hid hcc
    clear hcc
    go_wp2_with fail
    (with_reducible refine HCC.out.mono ?_)
    rintro e w4 ⟨d3, rfl, hd3, hr, hg⟩
    have HG4 := Lib.hid (grown_trans HG3.out hg)
    have HN := Lib.hid (show d3.toList = nrm l by
      rw [hd3]
      refine said_is ?_ HS.out
      rw [← HL.out, ← HD1.out]
      exact HP.out)
    have HR4 := Lib.hid hr
    have hs3 : d3.size ≤ c := by
      have h1 := nrm_len l
      rw [← HN.out, ← HL.out] at h1
      simp at h1
      omega
    clear hd3 hr hg
    go_wp2_with fail
    go_ret
    refine ⟨_, rfl, ?_, fun ad n c e => ?_, B1.out.grown HG4.out B1.out.size (fun k hk => by cases hk; exact hgB)⟩
    · have := rowAt_rcs HR4.out hs3
      rwa [HN.out] at this
    · injection e with e
      injection e with e
      subst e
      exact hgB
end Go.Proofs.Ytpmfanglgkohjaa
