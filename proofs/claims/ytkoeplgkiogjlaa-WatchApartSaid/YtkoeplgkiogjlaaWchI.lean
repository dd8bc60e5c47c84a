/-
  The laws' steps, in memory; are they too long, and the same at times that do not fall. No statement is proved in this text; it holds for every input that its premises let by.
-/
import Derived.Test.YtkoeplgkiogjlaaWchH
import Derived.Test.YtkoeplgkiogjlaaIdeOpen
set_option maxRecDepth 20000
namespace Go.Proofs.Ytkoeplgkiogjlaa
open Go Go.RowKit Sets Go.Maps Go.ChangeMaps Go.MapKept
variable {S S2 S' : Nat → Prop} {W W' : World}
/-- A slice whose elements do not lie in S. -/
def NoS (S : Nat → Prop) (v : Value) (n : Nat) : Prop := 0 < n → ∀ g, v.ownBlock = some g → ¬ S g
theorem Ids.lts {v : Value} {l : List Id2} (h : Ids W v l) (h0 : 0 < l.length) {g : Nat} (hg : v.ownBlock = some g) : g < W.heap.size := by
  obtain ⟨A, c, rfl, _, _, hx⟩ := h
  obtain ⟨ad, rfl, h2, _⟩ := hx 0 h0
  injection hg with hg
  omega
theorem Ids.step {v : Value} {l : List Id2} (h : Ids W v l) (hn : NoS S v l.length) (u : Upd S W W' S') : Ids W' v l ∧ NoS S' v l.length := by
  refine ⟨?_, fun h0 g hg hS => ?_⟩
  · by_cases h0 : 0 < l.length
    · exact h.frame u.fr (hn h0)
    · have : l = [] := List.eq_nil_of_length_eq_zero (by omega)
      subst this
      obtain ⟨A, c, rfl, k1, k2, _⟩ := h
      exact ⟨A, c, rfl, k1, k2, fun k hk => absurd hk (by simp)⟩
  · rcases u.sub g hS with e | e
    · exact hn h0 g hg e
    · have := h.lts h0 hg
      omega
theorem Rcs.lts {α : Type} {enc : α → List Value} {sz : Nat} {v : Value} {l : List α} (h : Rcs enc sz W v l) (h0 : 0 < l.length) {g : Nat} (hg : v.ownBlock = some g) : g < W.heap.size := by
  obtain ⟨A, c, rfl, _, _, hx⟩ := h
  obtain ⟨ad, rfl, h2, _⟩ := hx 0 h0
  injection hg with hg
  omega
theorem Rcs.step {α : Type} {enc : α → List Value} {sz : Nat} {v : Value} {l : List α} (h : Rcs enc sz W v l) (hn : NoS S v l.length) (u : Upd S W W' S') : Rcs enc sz W' v l ∧ NoS S' v l.length := by
  refine ⟨?_, fun h0 g hg hS => ?_⟩
  · obtain ⟨A, c, rfl, k1, k2, hx⟩ := h
    refine ⟨A, c, rfl, k1, k2, fun k hk => ?_⟩
    obtain ⟨ad, rfl, h2, h3⟩ := hx k hk
    have hb : ad.block < W.heap.size := h2
    have e := u.fr.same ad.block hb (hn (by omega) _ rfl)
    refine ⟨ad, rfl, Nat.lt_of_lt_of_le hb u.fr.size, fun j x hj => ?_⟩
    have h4 := h3 j x hj
    rw [← h4]
    refine World.cell?_of_block ?_
    show W'.heap[(ad.add _).block]? = W.heap[(ad.add _).block]?
    rw [addr_block]
    exact e
  · rcases u.sub g hS with e | e
    · exact hn h0 g hg e
    · have := h.lts h0 hg
      omega
/-- A step of the laws': IDs are looked at, or somebody is heard, at a time. -/
structure Sp where
  h : Bool
  q : Id2
  A : Option Addr
  c : Nat
  l : List Id2
  x : Int
def Sp.v (s : Sp) : Value := .slice s.A s.l.length s.c
def encT (s : Sp) : List Value := [.bool s.h, .int .i64 s.q.1, .int .i64 s.q.2, .slice s.A s.l.length s.c, .int .i64 s.x]
theorem encT_len (s : Sp) : (encT s).length = 5 := rfl
theorem encT_one (s : Sp) : ∀ u ∈ encT s, u.oneCell' = true := fun u hu => by
  simp [encT] at hu
  rcases hu with rfl | rfl | rfl | rfl | rfl <;> rfl
theorem info38 : (Try.prog.info? 38).map (fun i => (i.zero, i.size, i.bytes)) = some (some (.agg #[.bool false, .int .i64 0, .int .i64 0, .slice none 0 0, .int .i64 0]), 5, 56) := by kernel_rfl
/-- What is known of a step: its list reads so, and its numbers fit. -/
structure SpOk (W : World) (s : Sp) : Prop where
  ids : Ids W s.v s.l
  q2 : In2 s.q
  l2 : ∀ q ∈ s.l, In2 q
  x2 : -9223372036854775808 ≤ s.x ∧ s.x ≤ 9223372036854775807
theorem SpOk.below {s : Sp} (h : SpOk W s) (hb : Below W.heap.size W W') : SpOk W' s := ⟨h.ids.below hb, h.q2, h.l2, h.x2⟩
/-- Is a step too long, or does its list not rise? -/
def badS (s : Sp) : Bool := decide (30 < s.l.length) || !risesB s.l
def longS (ss : List Sp) : Bool := decide (100 < ss.length) || ss.any badS
theorem badS_no {s : Sp} (h : badS s = false) : s.l.length ≤ 30 ∧ Rises s.l := by
  simp [badS] at h
  exact ⟨h.1, (risesB_iff _).1 h.2⟩
theorem longS_no {ss : List Sp} (h : longS ss = false) : ss.length ≤ 100 ∧ ∀ s ∈ ss, s.l.length ≤ 30 ∧ Rises s.l := by
  simp only [longS, Bool.or_eq_false_iff, decide_eq_false_iff_not, List.any_eq_false] at h
  exact ⟨by omega, fun s hs => badS_no (by simpa using h.2 s hs)⟩
set_option maxHeartbeats 1000000 in
theorem long_any (v : Value) (ss : List Sp) (w : World) (h : Rcs encT 5 w v ss) (hs : ∀ s ∈ ss, SpOk w s) : Calls Try.prog 8 #[v] w fun e w' => e = .returned (.bool (longS ss)) ∧ Below w.heap.size w w' := by
  have HI := Lib.hid h
  have HS := Lib.hid hs
  obtain ⟨A, c, rfl, hz⟩ := h
  clear hz hs
  by_cases hl : 100 < ss.length
  · have hd : decide ((100 : Int) < (ss.length : Int)) = true := by simp; omega
    have hl2 : (100 : Int) < (ss.length : Int) := by omega
    have HE := Lib.hid (show longS ss = true by unfold longS; rw [decide_eq_true hl]; rfl)
    go_enter Try.func8, Try.ntmps8
    go_wp2_with fail
    go_ret
    exact ⟨ret_bool HE.out.symm, Below.refl _ _⟩
  · have hd : decide ((100 : Int) < (ss.length : Int)) = false := by simp; omega
    have hl2 : (ss.length : Int) ≤ 100 := by omega
    have HL := Lib.hid hl
    clear hl
    go_enter Try.func8, Try.ntmps8
    go_wp2_with fail
    go_loopw [3] (fun s3 wr => ∃ k : Nat, k ≤ ss.length ∧ s3 = .int .i64 k ∧ Hid ((ss.take k).any badS = false) ∧ Hid (Below w.heap.size w wr)) (fun s3 _ => ss.length - (intOf s3).toNat)
    case atStart => exact ⟨0, by omega, rfl, Lib.hid rfl, Lib.hid (Below.refl _ _)⟩
    case round =>
      obtain ⟨k, hkl, rfl, HT, HW⟩ := hrel
      have i3 : (0 : Int) ≤ (k : Int) := by omega
      by_cases hlt : k < ss.length
      · have hd1 : decide ((k : Int) < (ss.length : Int)) = true := by simp; omega
        have i4 : (k : Int) < (ss.length : Int) := by omega
        obtain ⟨ad, rfl⟩ := HI.out.addr (Nat.lt_of_le_of_lt (Nat.zero_le _) hlt)
        have c3 := HI.out.cell HW.out hlt 3 (by decide) (u := .slice ss[k].A ss[k].l.length ss[k].c) rfl
        have HM := Lib.hid (show badS ss[k] = true → longS ss = true from fun hb => by
          unfold longS
          rw [Bool.or_eq_true]
          exact .inr (List.any_eq_true.2 ⟨_, List.getElem_mem hlt, hb⟩))
        have HN := Lib.hid (show badS ss[k] = false → (ss.take (k + 1)).any badS = false from fun hb => by
          rw [List.take_succ_eq_append_getElem hlt, List.any_append, HT.out]
          simp [hb])
        have HK := Lib.hid (HS.out _ (List.getElem_mem hlt))
        generalize ss[k] = s at *
        obtain ⟨sh, sq, sA, sc, sl, sx⟩ := s
        dsimp only at c3
        have I1 : Hid (Ids wr (.slice sA sl.length sc) sl) := Lib.hid (HK.out.ids.below HW.out)
        by_cases h30 : 30 < sl.length
        · have hd2 : decide ((30 : Int) < (sl.length : Int)) = true := by simp; omega
          have hd3 : (30 : Int) < (sl.length : Int) := by omega
          have HE := Lib.hid (HM.out (by unfold badS; rw [decide_eq_true h30]; rfl))
          go_wp2_with fail
          go_ret
          exact ⟨ret_bool HE.out.symm, HW.out⟩
        · have hd2 : decide ((30 : Int) < (sl.length : Int)) = false := by simp; omega
          have hd3 : (sl.length : Int) ≤ 30 := by omega
          have h31 := Lib.hid h30
          go_wp2_with fail
          (with_reducible refine (refRising_any _ sl _ I1.out (by have := h31.out; omega)).mono ?_)
          rintro en w1 ⟨rfl, hb⟩
          have B1 := Lib.hid (below_after HW.out hb (Nat.le_refl _))
          clear hb c3
          cases hr : risesB sl with
          | true =>
            have HE := Lib.hid (HN.out (by unfold badS; rw [hr, decide_eq_false h31.out]; rfl))
            go_wp2_with fail
            go_roundw
            case rel => exact ⟨k + 1, by omega, by go_num, HE, B1⟩
            case measure => simp [intOf]; omega
          | false =>
            have HE := Lib.hid (HM.out (by unfold badS; rw [hr]; simp))
            go_wp2_with fail
            go_ret
            exact ⟨ret_bool HE.out.symm, B1.out⟩
      · obtain rfl : k = ss.length := by omega
        have hd1 : decide ((ss.length : Int) < (ss.length : Int)) = false := by simp
        have HE := Lib.hid (show longS ss = false by
          unfold longS
          rw [decide_eq_false HL.out]
          have := HT.out
          rw [List.take_length] at this
          rw [this]
          rfl)
        go_wp2_with fail
        go_ret
        exact ⟨ret_bool HE.out.symm, HW.out⟩
end Go.Proofs.Ytkoeplgkiogjlaa
