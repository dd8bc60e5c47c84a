/-
  One detector, or two of them, and what may be done: each contract says what stands of both. No statement is proved in this text; it holds for every input that its premises let by.
-/
import Derived.Test.YtbglghfdfigefaaAccG
set_option maxRecDepth 20000
namespace Go.Proofs.Ytbglghfdfigefaa
open Go Go.RowKit
/-- One detector of the call's own. -/
structure One (w0 W : World) (l : Nat) (d : Dt) : Prop where
  det : ∃ v, Det 49 W w0.heap.size l d v
  ok : d.Ok
  below : Below w0.heap.size w0 W
/-- Two of them. -/
structure Two (w0 W : World) (l : Nat) (d : Dt) (l' : Nat) (d' : Dt) : Prop where
  one : One w0 W l d
  two : One w0 W l' d'
  ne : l ≠ l'
theorem One.keep {w0 W W' : World} {l : Nat} {d : Dt} (h : One w0 W l d) (hb : Below W.heap.size W W') : One w0 W' l d := by
  obtain ⟨⟨v, h1⟩, h2, h3⟩ := h
  exact ⟨⟨v, h1.below hb⟩, h2, below_after h3 hb (Nat.le_refl _)⟩
theorem One.done {w0 W W' : World} {l : Nat} {d d' : Dt} {e : Ending} (h : One w0 W l d) (hd : d'.Ok) (k : Done 49 w0.heap.size l d' W e W') : e = .returned (.tuple #[]) ∧ One w0 W' l d' := by
  obtain ⟨⟨v, h1⟩, h2, h3⟩ := h
  obtain ⟨rfl, v', k1, k2⟩ := k
  exact ⟨rfl, ⟨v', k1⟩, hd, below_grown h3 k2 (Nat.le_refl _) h1.lo⟩
theorem One.other {w0 W W' : World} {l l' : Nat} {d d' d2 : Dt} {e : Ending} (h : One w0 W l d) (k : One w0 W l' d') (hne : l ≠ l') (hd : Done 49 w0.heap.size l' d2 W e W') : One w0 W' l d := by
  obtain ⟨⟨v, h1⟩, h2, h3⟩ := h
  obtain ⟨⟨u, k1⟩, _, _⟩ := k
  obtain ⟨_, v', _, k2⟩ := hd
  exact ⟨⟨v, h1.kept k1 k2 hne⟩, h2, below_grown h3 k2 (Nat.le_refl _) k1.lo⟩
theorem Two.swap {w0 W : World} {l l' : Nat} {d d' : Dt} (h : Two w0 W l d l' d') : Two w0 W l' d' l d := ⟨h.two, h.one, h.ne.symm⟩
theorem Two.keep {w0 W W' : World} {l l' : Nat} {d d' : Dt} (h : Two w0 W l d l' d') (hb : Below W.heap.size W W') : Two w0 W' l d l' d' := ⟨h.one.keep hb, h.two.keep hb, h.ne⟩
theorem Two.done {w0 W W' : World} {l l' : Nat} {d d2 d' : Dt} {e : Ending} (h : Two w0 W l d l' d') (hd : d2.Ok) (k : Done 49 w0.heap.size l d2 W e W') : e = .returned (.tuple #[]) ∧ Two w0 W' l d2 l' d' :=
  have hk := h.one.done hd k
  ⟨hk.1, hk.2, h.two.other h.one h.ne.symm k, h.ne⟩
theorem One.late {w0 W : World} {l : Nat} {d : Dt} (h : One w0 W l d) (x : Int) : Calls Try.prog 14 #[.pointer (some ⟨l, 0, none⟩), .int .i64 x] W fun e w' => e = .returned (.bool (d.late x)) ∧ Below W.heap.size W w' := by
  obtain ⟨v, h1⟩ := h.det
  exact late_any _ l d v x W h1 h.ok
theorem One.limit {w0 W : World} {l : Nat} {d : Dt} (h : One w0 W l d) : Calls Try.prog 13 #[.pointer (some ⟨l, 0, none⟩)] W fun e w' => e = .returned (.int .i64 d.limit) ∧ Below W.heap.size W w' := by
  obtain ⟨v, h1⟩ := h.det
  exact limit_any _ l d v W h1 h.ok
theorem One.start {w0 W : World} {l : Nat} {d : Dt} (h : One w0 W l d) (x : Int) : Calls Try.prog 10 #[.pointer (some ⟨l, 0, none⟩), .int .i64 x] W (Done 49 w0.heap.size l (d.start x) W) := by
  obtain ⟨v, h1⟩ := h.det
  exact begin_any _ l d v x W h1
theorem One.heard {w0 W : World} {l : Nat} {d : Dt} (h : One w0 W l d) (x : Int) : Calls Try.prog 11 #[.pointer (some ⟨l, 0, none⟩), .int .i64 x] W (Done 49 w0.heap.size l (d.heard x) W) := by
  obtain ⟨v, h1⟩ := h.det
  exact heard_any _ l d v x W h1 h.ok h.below.size
theorem One.copy {w0 W : World} {l : Nat} {d : Dt} (h : One w0 W l d) : Calls Try.prog 15 #[.pointer (some ⟨l, 0, none⟩)] W fun e w' => ∃ l', e = .returned (.pointer (some ⟨l', 0, none⟩)) ∧ Two w0 w' l d l' d := by
  obtain ⟨v, h1⟩ := h.det
  refine (copy_any _ l d v W h1 h.ok).mono ?_
  rintro e w' ⟨l', v', rfl, h2, h3⟩
  have k := h.keep h3
  exact ⟨l', rfl, k, ⟨⟨v', h2.mono h.below.size⟩, h.ok, k.below⟩, fun e => by have := h1.lt; have := h2.lo; omega⟩
theorem new_one (w0 w : World) (hb : Below w0.heap.size w0 w) (mn mx wi : Int) (h : newOk mn mx wi = true) : Calls Try.prog 16 #[.int .i64 mn, .int .i64 mx, .int .i64 wi] w fun e w' => ∃ l, e = .returned (.tuple #[.pointer (some ⟨l, 0, none⟩), .int .i64 0]) ∧ One w0 w' l (Dt.new mn mx wi) ∧ w.heap.size ≤ l ∧ Below w.heap.size w w' := by
  refine (new_yes mn mx wi h w).mono ?_
  rintro e w' ⟨l, v, rfl, h2, h3⟩
  exact ⟨l, rfl, ⟨⟨v, h2.mono hb.size⟩, Dt.new_ok h, below_after hb h3 (Nat.le_refl _)⟩, h2.lo, h3⟩
theorem box_cells {w : World} {g : Nat} {a i : Int} (h : w.heap[g]? = some (.cells #[.int .u8 a, .int .i64 i] 39 (0, 0))) : w.cell? ⟨g, 0, none⟩ = some (.int .u8 a) ∧ w.cell? ⟨g, 1, none⟩ = some (.int .i64 i) :=
  ⟨by rw [cell_of_row _ _ 0 _ _ _ h]; rfl, by rw [cell_of_row _ _ 1 _ _ _ h]; rfl⟩
/-- A step, done to a detector. -/
theorem One.step {w0 W : World} {l : Nat} {d : Dt} (h : One w0 W l d) (s : St) : Calls Try.prog 18 #[.agg #[.int .u8 s.1, .int .i64 s.2], .pointer (some ⟨l, 0, none⟩)] W (Done 49 w0.heap.size l (stepD d s) W) := by
  have B := Lib.hid (below_one W (.cells #[.int .u8 s.1, .int .i64 s.2] 39))
  have K := Lib.hid (h.keep B.out)
  obtain ⟨c0, c1⟩ := box_cells (heap_alloc_new W (.cells #[.int .u8 s.1, .int .i64 s.2] 39))
  clear h
  by_cases hs : s.1 = 0
  · have E := Lib.hid (show stepD d s = d.start s.2 by unfold stepD; rw [if_pos hs])
    have hs2 : (s.1 == 0) = true := by simpa using hs
    clear hs
    go_enter Try.func18, Try.ntmps18
    go_wp2_with fail
    (with_reducible refine (K.out.start s.2).mono ?_)
    rintro e w1 ⟨rfl, v', k1, k2⟩
    have H := Lib.hid k1
    have G := Lib.hid (grown_trans (grown_below B.out (some l)) k2)
    clear k1 k2
    go_wp2_with fail
    go_end0
    rw [E.out]
    exact ⟨rfl, v', H.out, G.out⟩
  · have E := Lib.hid (show stepD d s = d.heard s.2 by unfold stepD; rw [if_neg hs])
    have hs2 : (s.1 == 0) = false := by simpa using hs
    clear hs
    go_enter Try.func18, Try.ntmps18
    go_wp2_with fail
    (with_reducible refine (K.out.heard s.2).mono ?_)
    rintro e w1 ⟨rfl, v', k1, k2⟩
    have H := Lib.hid k1
    have G := Lib.hid (grown_trans (grown_below B.out (some l)) k2)
    clear k1 k2
    go_wp2_with fail
    go_end0
    rw [E.out]
    exact ⟨rfl, v', H.out, G.out⟩
/-- Of bounds that may not be no detector comes. -/
theorem run_no (mn mx wi : Int) (h : newOk mn mx wi = false) (v : Value) (l : List St) (w : World) (hl : Rcs encS 2 w v l) : Calls Try.prog 23 #[.int .i64 mn, .int .i64 mx, .int .i64 wi, v] w fun e w' => e = .returned (.tuple #[.pointer none, .bool false]) ∧ Below w.heap.size w w' := by
  obtain ⟨A, c, rfl, _⟩ := hl
  by_cases h0 : 0 < l.length
  · have hd : decide ((0 : Int) < (l.length : Int)) = true := by simp; omega
    go_enter Try.func23, Try.ntmps23
    go_wp2_with fail
    (with_reducible refine (new_no mn mx wi h _).mono ?_)
    rintro e w1 ⟨rfl, hb⟩
    have B := Lib.hid hb
    clear hb
    go_wp2_with fail
    go_loopw [12] (fun s12 wr => s12 = .int .i64 0 ∧ Hid (Below w.heap.size w wr)) (fun _ _ => 0)
    case atStart => exact ⟨rfl, B⟩
    case round =>
      obtain ⟨rfl, HB⟩ := hrel
      go_wp2_with fail
      go_ret2
      exact ⟨rfl, HB.out⟩
  · have h1 : l.length = 0 := by omega
    rw [h1]
    go_enter Try.func23, Try.ntmps23
    go_wp2_with fail
    (with_reducible refine (new_no mn mx wi h _).mono ?_)
    rintro e w1 ⟨rfl, hb⟩
    have B := Lib.hid hb
    clear hb
    go_wp2_with fail
    go_loopw [12] (fun s12 wr => s12 = .int .i64 0 ∧ Hid (Below w.heap.size w wr)) (fun _ _ => 0)
    case atStart => exact ⟨rfl, B⟩
    case round =>
      obtain ⟨rfl, HB⟩ := hrel
      go_wp2_with fail
      go_ret2
      exact ⟨rfl, HB.out⟩
/-- A detector of bounds that may be, behind steps. -/
theorem run_yes (mn mx wi : Int) (h : newOk mn mx wi = true) (v : Value) (l : List St) (w0 w : World) (hB : Below w0.heap.size w0 w) (hl : Rcs encS 2 w v l) (hn : l.length ≤ 1000) : Calls Try.prog 23 #[.int .i64 mn, .int .i64 mx, .int .i64 wi, v] w fun e w' => ∃ p, e = .returned (.tuple #[.pointer (some ⟨p, 0, none⟩), .bool true]) ∧ One w0 w' p (runD (Dt.new mn mx wi) l) ∧ w.heap.size ≤ p ∧ Below w.heap.size w w' := by
  have HI := Lib.hid hl
  have HB0 := Lib.hid hB
  obtain ⟨A, c, rfl, hz⟩ := hl
  clear hz hB
  go_enter Try.func23, Try.ntmps23
  go_wp2_with fail
  (with_reducible refine (new_one w _ (Below.refl _ _) mn mx wi h).mono ?_)
  rintro e w1 ⟨p, rfl, ho, hp, hb⟩
  have O := Lib.hid ho
  have HP := Lib.hid hp
  have B := Lib.hid hb
  clear hb ho hp h
  go_wp2_with fail
  go_loopw [12] (fun s12 wr => ∃ k : Nat, k ≤ l.length ∧ s12 = .int .i64 k ∧ Hid (One w wr p (runD (Dt.new mn mx wi) (l.take k)))) (fun s12 _ => l.length - (intOf s12).toNat)
  case atStart => exact ⟨0, by omega, rfl, O⟩
  case round =>
    obtain ⟨k, hk, rfl, HO⟩ := hrel
    have i3 : (0 : Int) ≤ (k : Int) := by omega
    by_cases hlt : k < l.length
    · have hd : decide ((k : Int) < (l.length : Int)) = true := by simp; omega
      have i4 : (k : Int) < (l.length : Int) := by omega
      obtain ⟨ad, rfl⟩ := HI.out.addr (Nat.lt_of_le_of_lt (Nat.zero_le _) hlt)
      have d0 := HI.out.first HO.out.below hlt (u := .int .u8 l[k].1) rfl
      have d1 := HI.out.cell HO.out.below hlt 1 (by decide) (u := .int .i64 l[k].2) rfl
      have ES := Lib.hid (runD_take (d := Dt.new mn mx wi) hlt)
      generalize hLk : l[k] = s at *
      generalize hLd : runD (Dt.new mn mx wi) (l.take k) = dk at *
      clear hLk hLd
      go_wp2_with fail
      (with_reducible refine (HO.out.step s).mono ?_)
      rintro e w2 hd2
      obtain ⟨rfl, h2⟩ := HO.out.done (stepD_ok HO.out.ok s) hd2
      have O2 := Lib.hid h2
      clear h2 hd2
      go_wp2_with fail
      go_roundw
      case rel => exact ⟨k + 1, by omega, by go_num, Lib.hid (by rw [ES.out]; exact O2.out)⟩
      case measure => simp [intOf]; omega
    · obtain rfl : k = l.length := by omega
      have hd : decide ((l.length : Int) < (l.length : Int)) = false := by simp
      rw [List.take_length] at HO
      go_wp2_with fail
      go_ret2
      obtain ⟨⟨v, h1⟩, h2, h3⟩ := HO.out
      exact ⟨p, rfl, ⟨⟨v, h1.mono HB0.out.size⟩, h2, below_after HB0.out h3 (Nat.le_refl _)⟩, HP.out, h3⟩
end Go.Proofs.Ytbglghfdfigefaa
