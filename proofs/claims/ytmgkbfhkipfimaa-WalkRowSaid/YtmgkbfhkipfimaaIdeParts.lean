/-
  Carried over: contracts of this program's functions. No statement is proved in this text.
-/
import Derived.Test.YtmgkbfhkipfimaaIdeWalksD
set_option maxRecDepth 20000
set_option maxRecDepth 20000
namespace Go.Proofs.Ytmgkbfhkipfimaa
open Go.RowKit
theorem elem29 : Try.prog.elem 27 = 24 := by kernel_rfl
theorem size25 (W : World) : (sizeOf 24).run Try.prog W = .ok 2 W := by kernel_rfl
theorem under29 : Try.prog.underlying 27 = some (.slice (Try.prog.elem 27)) := by rw [elem29]; exact Try.underlying27
theorem add_zero' (a : Addr) : a.add 0 = a := by unfold Addr.add; rw [if_pos rfl]
theorem Ids.sliced {w : World} {A : Option Addr} {c k h : Nat} {l : List (Int × Int)} (hi : Ids w (.slice A l.length c) l) (h1 : k ≤ h) (h2 : h ≤ l.length) : Ids w (sliced A k h c 2) ((l.take h).drop k) := by
  have ht := hi.take h2
  obtain ⟨A', c', hv, h0, hc, _⟩ := id hi
  injection hv with e1 e2 e3
  subst e1 e3
  unfold Go.sliced
  have hl : (l.take h).length = h := by rw [List.length_take, Nat.min_eq_left h2]
  split
  · rename_i e
    have hk : h - k = 0 := by omega
    rw [hk]
    exact Ids.none_left _ (by omega) _ fun hn => by rw [e]; omega
  · rename_i e
    cases A with
    | none => exact absurd (h0 rfl) (by omega)
    | some ad =>
      rcases Nat.eq_zero_or_pos k with rfl | hk
      · simp only [Option.map, Nat.zero_mul, Nat.sub_zero, List.drop_zero, add_zero']
        exact ht
      · have := Ids.drop ht (k := k) (by omega) (by omega) hk
        exact this
/-- What stands from place k on. -/
theorem run_from {w : World} {v : Value} {l : List (Int × Int)} (h : Ids w v l) (k : Nat) (hk : k ≤ l.length) :
    ∃ V, (∀ W, (Instr.slice 27 v (some (.int .i64 (k : Int))) none none).run Try.prog W = .ok V W) ∧ Ids w V (l.drop k) := by
  obtain ⟨A, c, rfl, h0, hc, hx⟩ := id h
  refine ⟨sliced A k l.length c 2, fun W => ?_, ?_⟩
  · rw [run_slice_l (w := W) (P := Try.prog) 27 A l.length c under29 .i64 (k : Int) (by omega) (by omega)]
    rw [elem29, size25]
    rfl
  · have := h.sliced hk (Nat.le_refl _)
    rwa [List.take_length] at this
/-- What stands ahead of place k. -/
theorem run_to {w : World} {v : Value} {l : List (Int × Int)} (h : Ids w v l) (k : Nat) (hk : k ≤ l.length) :
    ∃ V, (∀ W, (Instr.slice 27 v none (some (.int .i64 (k : Int))) none).run Try.prog W = .ok V W) ∧ Ids w V (l.take k) := by
  obtain ⟨A, c, rfl, h0, hc, hx⟩ := id h
  refine ⟨sliced A 0 k c 2, fun W => ?_, ?_⟩
  · rw [run_slice_h (w := W) (P := Try.prog) 27 A l.length c under29 .i64 (k : Int) (by omega) (by omega)]
    rw [elem29, size25]
    rfl
  · exact h.sliced (Nat.zero_le _) hk
/-- All but the first one of a list. -/
theorem run_tail {w : World} {v : Value} {x : Int × Int} {l : List (Int × Int)} (h : Ids w v (x :: l)) :
    ∃ V, (∀ W, (Instr.slice 27 v (some (.int .i64 1)) none none).run Try.prog W = .ok V W) ∧ Ids w V l := run_from h 1 (by simp)
/-- The first one of a list. -/
theorem Ids.head {w : World} {v : Value} {x : Int × Int} {l : List (Int × Int)} (h : Ids w v (x :: l)) :
    ∃ ad c, v = .slice (some ad) (l.length + 1) c ∧ ∀ w', Below w.heap.size w w' → w'.cell? ad = some (.int .i64 x.1) ∧ w'.cell? ⟨ad.block, ad.off + 1, none⟩ = some (.int .i64 x.2) := by
  obtain ⟨A, c, rfl, h0, hc, hx⟩ := id h
  obtain ⟨ad, rfl, _⟩ := hx 0 (by simp)
  refine ⟨ad, c, rfl, fun w' hb => ?_⟩
  have h1 := cell1 h hb (k := 0) (by simp)
  have h2 := cell2 h hb (k := 0) (by simp)
  rw [Nat.zero_mul, add_zero'] at h1 h2
  exact ⟨h1, h2⟩
set_option maxHeartbeats 1000000 in
theorem first_any (v u : Value) (l m : List (Int × Int)) (w : World) (h : Ids w v l) (k : Ids w u m) (hl : l.length ≤ 100000) (hm : m.length ≤ 100000) :
    Calls Try.prog 42 #[v, u, .func (.func 33) #[] #[]] w fun e w' => e = .returned (.int .i64 (headZ l m)) ∧ Below w.heap.size w w' := by
  cases m with
  | nil =>
    obtain ⟨B, d, rfl, hz⟩ := id k
    clear hz k h
    have h5 := Lib.hid (show headZ l [] = -1 by cases l <;> rfl)
    go_enter Try.func42, Try.ntmps42
    go_wp2_with fail
    go_ret
    exact ⟨ret_int h5.out.symm, Below.refl _ _⟩
  | cons y m =>
    obtain ⟨ae, d, rfl, hm2⟩ := k.head
    have HM := Lib.hid hm2
    clear hm2
    have hd1 : ((m.length : Int) + 1 == 0) = false := by simp; omega
    cases l with
    | nil =>
      obtain ⟨A, c, rfl, hz⟩ := id h
      clear hz k h
      go_enter Try.func42, Try.ntmps42
      go_wp2_with fail
      go_ret
      exact ⟨rfl, Below.refl _ _⟩
    | cons x l =>
      obtain ⟨ad, c, rfl, hl2⟩ := h.head
      have HL := Lib.hid hl2
      clear hl2 h k
      have hd2 : ((l.length : Int) + 1 == 0) = false := by simp; omega
      have HS := Lib.hid fun w' (hb : Below w.heap.size w w') => And.intro (HL.out w' hb) (And.intro (HM.out w' hb) (Lib.hid hb))
      have HR := Lib.hid (show headZ (x :: l) (y :: m) = cmpZ x.1 x.2 y.1 y.2 from rfl)
      have i3 : (0 : Int) < (l.length : Int) + 1 := by omega
      have i4 : (0 : Int) < (m.length : Int) + 1 := by omega
      go_enter Try.func42, Try.ntmps42
      go_wp2_with fail
      go_region_held3 (fun w' => (w'.cell? ad = some (.int .i64 x.1) ∧ w'.cell? ⟨ad.block, ad.off + 1, none⟩ = some (.int .i64 x.2)) ∧ (w'.cell? ae = some (.int .i64 y.1) ∧ w'.cell? ⟨ae.block, ae.off + 1, none⟩ = some (.int .i64 y.2)) ∧ Hid (Below w.heap.size w w'))
          (first | exact HS.out _ (Below.refl _ _).drew | exact HS.out _ (Below.refl _ _) | exact HS.out _ HK.out)
          (first | (go_at_call 33; (with_reducible refine (compare_any _ _ _ _ _).mono ?_); rintro e w' ⟨rfl, hb⟩; have HK := Lib.hid (below_after (Hid.out (by go_split_ands; assumption)) hb (Nat.le_refl _)); clear hb))
      go_wp2_with fail
      go_ret
      exact ⟨ret_int HR.out.symm, Hid.out (by assumption)⟩
end Go.Proofs.Ytmgkbfhkipfimaa
