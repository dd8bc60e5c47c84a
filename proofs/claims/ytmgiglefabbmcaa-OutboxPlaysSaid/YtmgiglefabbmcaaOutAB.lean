/-
  A walk: a law writes over all that a frame has. No statement is proved in this text.
-/
import Derived.Test.YtmgiglefabbmcaaOutM
set_option maxRecDepth 20000
namespace Go.Proofs.Ytmgiglefabbmcaa
open Go Go.RowKit
/-- Room of so many things in a block of S, whatever is in it. -/
def Rm (e : TypeId) (sz : Nat) (S : Nat → Prop) (w : World) (s : SL) : Prop := (s.1 = none ∧ s.2.1 = 0) ∨ ∃ g cur, s.1 = some ⟨g, 0, none⟩ ∧ S g ∧ w.heap[g]? = some (.cells cur e (0, 0)) ∧ s.2.1 * sz ≤ cur.size
theorem Rm.of {α : Type} {enc : α → List Value} {sz : Nat} {e : TypeId} {S : Nat → Prop} {w : World} {s : SL} {l : List α} (h : In1 enc sz e S w (.slice s.1 s.2.1 s.2.2) l) : Rm e sz S w s ∧ s.2.1 = l.length := by
  obtain ⟨⟨_, h2⟩, h3⟩ := h
  rcases h2 with ⟨h4, h5⟩ | ⟨g, cap, cur, h4, _, h6, h7, _, h8, _⟩
  · injection h4 with a1 a2 a3
    exact ⟨.inl ⟨a1, a2⟩, by rw [a2, h5]⟩
  · injection h4 with a1 a2 a3
    refine ⟨.inr ⟨g, cur, a1, h3 g (by rw [a1]; rfl), h6, ?_⟩, a2⟩
    rw [a2, h8]
    exact Nat.mul_le_mul_right _ h7
theorem Rm.at_ {e : TypeId} {sz : Nat} {S : Nat → Prop} {w : World} {s : SL} (h : Rm e sz S w s) {k : Nat} (hk : k < s.2.1) {j : Nat} (hj : j < sz) : ∃ g u, s.1 = some ⟨g, 0, none⟩ ∧ S g ∧ g < w.heap.size ∧ w.cell? ⟨g, k * sz + j, none⟩ = some u ∧ w.frozen? ⟨g, k * sz + j, none⟩ = false ∧ ∃ cur, w.heap[g]? = some (.cells cur e (0, 0)) := by
  rcases h with ⟨_, h⟩ | ⟨g, cur, h1, h2, h3, h4⟩
  · omega
  · have hlt : k * sz + j < cur.size := by
      have : (k + 1) * sz ≤ s.2.1 * sz := Nat.mul_le_mul_right _ hk
      rw [Nat.add_mul] at this
      omega
    refine ⟨g, cur[k * sz + j], h1, h2, row_lt h3, ?_, frozen_of_row _ _ _ _ _ h3, cur, h3⟩
    rw [cell_of_row _ _ _ _ _ _ h3]
    exact Array.getElem?_eq_getElem hlt
theorem heap_set_cells (w : World) (p j : Nat) (u : Value) {g : Nat} {cur : Array Value} {e : TypeId} (h : w.heap[g]? = some (.cells cur e (0, 0))) : ∃ cur', (w.setCell ⟨p, j, none⟩ u).heap[g]? = some (.cells cur' e (0, 0)) ∧ cur'.size = cur.size ∧ ∀ i, (i = j → g ≠ p) → cur'[i]? = cur[i]? := by
  by_cases e2 : g = p
  · subst e2
    refine ⟨cur.setIfInBounds j u, ?_, by simp, fun i hi => ?_⟩
    · simp [World.setCell, Array.getElem?_modify, h]
    · have : i ≠ j := fun e => hi e rfl
      simp [Ne.symm this]
  · exact ⟨cur, (Below.heap_setCell _ _ _ _ e2).trans h, rfl, fun _ _ => rfl⟩
theorem Rm.set {e : TypeId} {sz : Nat} {S : Nat → Prop} {w : World} {s : SL} (h : Rm e sz S w s) (p j : Nat) (u : Value) : Rm e sz S (w.setCell ⟨p, j, none⟩ u) s := by
  rcases h with h | ⟨g, cur, h1, h2, h3, h4⟩
  · exact .inl h
  · obtain ⟨cur', h5, h6, _⟩ := heap_set_cells w p j u h3
    exact .inr ⟨g, cur', h1, h2, h5, by rw [h6]; exact h4⟩
theorem Rm.below {e : TypeId} {sz : Nat} {S : Nat → Prop} {w w' : World} {s : SL} (h : Rm e sz S w s) (hb : Below w.heap.size w w') : Rm e sz S w' s := by
  rcases h with h | ⟨g, cur, h1, h2, h3, h4⟩
  · exact .inl h
  · exact .inr ⟨g, cur, h1, h2, (hb.block g (row_lt h3)).trans h3, h4⟩
/-- Room of rows: their lists stand, whatever else is in it. -/
def RmR (S : Nat → Prop) (w : World) (s : SL) (qs : List Raw) : Prop := s.2.1 = qs.length ∧ (∀ i (h : i < qs.length), Rm 24 2 S w qs[i].2.2) ∧ (qs = [] ∨ ∃ g cur, s.1 = some ⟨g, 0, none⟩ ∧ S g ∧ w.heap[g]? = some (.cells cur 76 (0, 0)) ∧ qs.length * 4 ≤ cur.size ∧ ∀ i (h : i < qs.length), cur[i * 4 + 3]? = some (.slice qs[i].2.2.1 qs[i].2.2.2.1 qs[i].2.2.2.2))
theorem RmR.set {S : Nat → Prop} {w : World} {s : SL} {qs : List Raw} (h : RmR S w s qs) (p j : Nat) (u : Value) (hj : ∀ cur e, w.heap[p]? = some (.cells cur e (0, 0)) → e = 76 → j % 4 ≠ 3) : RmR S (w.setCell ⟨p, j, none⟩ u) s qs := by
  obtain ⟨h1, h2, h3⟩ := h
  refine ⟨h1, fun i hi => (h2 i hi).set p j u, ?_⟩
  rcases h3 with h3 | ⟨g, cur, a1, a2, a3, a4, a5⟩
  · exact .inl h3
  · obtain ⟨cur', h5, h6, h7⟩ := heap_set_cells w p j u a3
    refine .inr ⟨g, cur', a1, a2, h5, by rw [h6]; exact a4, fun i hi => ?_⟩
    rw [h7 _ fun e e2 => ?_]
    · exact a5 i hi
    · subst e2
      have := hj _ _ a3 rfl
      omega
theorem RmR.below {S : Nat → Prop} {w w' : World} {s : SL} {qs : List Raw} (h : RmR S w s qs) (hb : Below w.heap.size w w') : RmR S w' s qs := by
  obtain ⟨h1, h2, h3⟩ := h
  refine ⟨h1, fun i hi => (h2 i hi).below hb, ?_⟩
  rcases h3 with h3 | ⟨g, cur, a1, a2, a3, a4⟩
  · exact .inl h3
  · exact .inr ⟨g, cur, a1, a2, (hb.block g (row_lt a3)).trans a3, a4⟩
theorem RmR.of {S : Nat → Prop} {w : World} {s : SL} {qs : List Raw} {l : List Row} (h : In1 encW 4 76 S w (.slice s.1 s.2.1 s.2.2) qs) (he : EachO S w qs l) : RmR S w s qs := by
  refine ⟨(Rm.of h).2, fun i hi => by obtain ⟨r, hr⟩ := he.at_ i hi; exact (Rm.of hr).1, ?_⟩
  by_cases hq : qs = []
  · exact .inl hq
  right
  obtain ⟨⟨g1, h2⟩, h3⟩ := id h
  rcases h2 with ⟨_, h5⟩ | ⟨g, cap, cur, h4, _, h6, h7, _, h8, h9⟩
  · exact (hq (List.eq_nil_of_length_eq_zero h5)).elim
  · injection h4 with a1 a2 a3
    refine ⟨g, cur, a1, h3 g (by rw [a1]; rfl), h6, by rw [h8]; exact Nat.mul_le_mul_right _ h7, fun i hi => ?_⟩
    have hx := flatR_at encW_len qs i hi 3 (.slice qs[i].2.2.1 qs[i].2.2.2.1 qs[i].2.2.2.2) rfl
    rw [← h9, List.getElem?_take] at hx
    split at hx
    · simpa using hx
    · cases hx
theorem RmR.cell {S : Nat → Prop} {w : World} {g n c : Nat} {qs : List Raw} (h : RmR S w (some ⟨g, 0, none⟩, n, c) qs) {k : Nat} (hk : k < qs.length) : S g ∧ (∃ cur, w.heap[g]? = some (.cells cur 76 (0, 0))) ∧ w.cell? ⟨g, k * 4 + 3, none⟩ = some (.slice qs[k].2.2.1 qs[k].2.2.2.1 qs[k].2.2.2.2) ∧ (∃ u, w.cell? ⟨g, k * 4 + 2, none⟩ = some u) ∧ w.frozen? ⟨g, k * 4 + 2, none⟩ = false := by
  rcases h.2.2 with e | ⟨g', cur, a1, a2, a3, a4, a5⟩
  · rw [e] at hk
    cases hk
  · injection a1 with a1
    injection a1 with a1
    subst a1
    have hlt : k * 4 + 2 < cur.size := by omega
    refine ⟨a2, ⟨cur, a3⟩, ?_, ⟨cur[k * 4 + 2], ?_⟩, frozen_of_row _ _ _ _ _ a3⟩
    · rw [cell_of_row _ _ _ _ _ _ a3]
      exact a5 k hk
    · rw [cell_of_row _ _ _ _ _ _ a3]
      exact Array.getElem?_eq_getElem hlt
/-- All that is written over, and the box in which the frame lies. -/
structure Sp (S : Nat → Prop) (w W : World) (x : Nat) (q : Fq) (qs : List Raw) : Prop where
  o : Only S w W
  x : FB W x q
  m : Rm 79 4 S W q.a
  f : Rm 24 2 S W q.b
  r : RmR S W q.c qs
  c : Rm 81 3 S W q.d
  s : Rm 24 2 S W q.e
theorem Sp.set {S : Nat → Prop} {w W : World} {x : Nat} {q : Fq} {qs : List Raw} (h : Sp S w W x q qs) {p j : Nat} {cur : Array Value} {e : TypeId} (hp : W.heap[p]? = some (.cells cur e (0, 0))) (he : e ≠ 32) (hj : e = 76 → j % 4 ≠ 3) (hS : S p) (u : Value) : Sp S w (W.setCell ⟨p, j, none⟩ u) x q qs := by
  have hpx : x ≠ p := fun e2 => by
    have h1 := h.x
    unfold FB at h1
    rw [e2, hp] at h1
    injection h1 with h1
    injection h1 with _ h1 _
    exact he h1
  refine ⟨⟨h.o.os, h.o.tape, h.o.output, by simpa using h.o.size, fun k hk hn => ?_⟩, (Below.heap_setCell _ _ _ _ hpx).trans h.x, h.m.set _ _ _, h.f.set _ _ _, h.r.set _ _ _ (fun cur2 e2 h2 h3 => ?_), h.c.set _ _ _, h.s.set _ _ _⟩
  · exact (Below.heap_setCell _ _ _ _ (fun e2 => hn (by rw [show k = p from e2]; exact hS))).trans (h.o.block k hk hn)
  · rw [hp] at h2
    injection h2 with h2
    injection h2 with _ h2 _
    exact hj (h2.trans h3)
set_option maxHeartbeats 16000000 in
theorem spoil_any (S : Nat → Prop) (w : World) (q : Fq) (h : FO S w q) (hV : Fit 20000 q.F.v) :
    Calls Try.prog 24 #[.agg (fc q)] w fun e w' => e = .returned (.tuple #[]) ∧ Only S w w' := by
  obtain ⟨qs, hr1, hr2⟩ := h.r
  have b1 := below_one w (.cells (fc q) 32)
  have lm : q.a.2.1 ≤ 20000 := by rw [(Rm.of h.m).2]; exact hV.m
  have lf : q.b.2.1 ≤ 20000 := by rw [(Rm.of h.f).2]; exact hV.f
  have lr : q.c.2.1 ≤ 20000 := by rw [(Rm.of hr1).2, hr2.len]; exact hV.r
  have lc : q.d.2.1 ≤ 20000 := by rw [(Rm.of h.c).2]; exact hV.c
  have ls : q.e.2.1 ≤ 20000 := by rw [(Rm.of h.s).2]; exact hV.s
  have LN := Lib.hid (show ∀ i (hi : i < qs.length), qs[i].2.2.2.1 ≤ 20000 from fun i hi => by
    have hl := hr2.len
    have h1 := (hr2.reads.at_ i hi (by omega)).2.2
    rw [rcs_len h1]
    exact hV.n _ (List.getElem_mem _))
  have P0 := Lib.hid (show Sp S w (w.alloc (.cells (fc q) 32)) w.heap.size q qs from ⟨Only.of b1, fb_new w q, (Rm.of h.m).1.below b1, (Rm.of h.f).1.below b1, (RmR.of hr1 hr2).below b1, (Rm.of h.c).1.below b1, (Rm.of h.s).1.below b1⟩)
  clear h hr1 hr2 hV b1
  go_enter Try.func24, Try.ntmps24
  go_upto_region 1 with fail
  generalize w.alloc (.cells (fc q) 32) = w0 at *
  generalize w.heap.size = x at *
  obtain ⟨⟨fk, ff, ft, fn, fq, fb, fv⟩, ⟨a0, a1, a2⟩, ⟨b0, b1, b2⟩, ⟨c0, c1, c2⟩, ⟨d0, d1, d2⟩, ⟨e0, e1, e2⟩⟩ := q
  dsimp only at lm lf lr lc ls
  obtain ⟨p0, p1, p2, p3, p4, p5, p6, p7, p8, p9, p10, p11, p12, p13⟩ := fb_cells P0.out.x
  dsimp only at p0 p1 p2 p3 p4 p5 p6 p7 p8 p9 p10 p11 p12 p13
  go_wp2_with fail
  clear p0 p1 p2 p3 p4 p5 p6 p7 p8 p9 p10 p11 p12 p13
  go_loopw [2] (fun s2 wr => ∃ k : Nat, k ≤ a1 ∧ s2 = .int .i64 k ∧ Hid (Sp S w wr x ⟨⟨fk, ff, ft, fn, fq, fb, fv⟩, ⟨a0, a1, a2⟩, ⟨b0, b1, b2⟩, ⟨c0, c1, c2⟩, ⟨d0, d1, d2⟩, ⟨e0, e1, e2⟩⟩ qs)) (fun s2 _ => a1 - (intOf s2).toNat)
  case atStart => exact ⟨0, by omega, rfl, P0⟩
  case round =>
    obtain ⟨k, hkl, rfl, HP⟩ := hrel
    have i3 : (0 : Int) ≤ (k : Int) := by omega
    obtain ⟨p0, p1, p2, p3, p4, p5, p6, p7, p8, p9, p10, p11, p12, p13⟩ := fb_cells HP.out.x
    dsimp only at p0 p1 p2 p3 p4 p5 p6 p7 p8 p9 p10 p11 p12 p13
    by_cases hlt : k < a1
    · have hd : decide ((k : Int) < (a1 : Int)) = true := by simp; omega
      have i4 : (k : Int) < (a1 : Int) := by omega
      obtain ⟨g, u, hA, hS, _, cu, fu, cur, hc⟩ := HP.out.m.at_ (k := k) (j := 2) hlt (by decide)
      dsimp only at hA
      subst hA
      have HN := Lib.hid (HP.out.set hc (by decide) (fun h => absurd h (by decide)) hS (j := k * 4 + 2) (.int .u8 99))
      go_wp2_with fail
      go_roundw
      case rel => exact ⟨k + 1, by omega, by go_num, HN⟩
      case measure => simp [intOf]; omega
    · have hd : decide ((k : Int) < (a1 : Int)) = false := by simp; omega
      have P1 := HP
      clear P0
      skip
      go_wp2_with fail
      clear p0 p1 p2 p3 p4 p5 p6 p7 p8 p9 p10 p11 p12 p13 hd hlt hkl i3 HP
      go_loopw [3] (fun s3 wr => ∃ k : Nat, k ≤ b1 ∧ s3 = .int .i64 k ∧ Hid (Sp S w wr x ⟨⟨fk, ff, ft, fn, fq, fb, fv⟩, ⟨a0, a1, a2⟩, ⟨b0, b1, b2⟩, ⟨c0, c1, c2⟩, ⟨d0, d1, d2⟩, ⟨e0, e1, e2⟩⟩ qs)) (fun s3 _ => b1 - (intOf s3).toNat)
      case atStart => exact ⟨0, by omega, rfl, P1⟩
      case round =>
        obtain ⟨k, hkl, rfl, HP⟩ := hrel
        have i3 : (0 : Int) ≤ (k : Int) := by omega
        obtain ⟨p0, p1, p2, p3, p4, p5, p6, p7, p8, p9, p10, p11, p12, p13⟩ := fb_cells HP.out.x
        dsimp only at p0 p1 p2 p3 p4 p5 p6 p7 p8 p9 p10 p11 p12 p13
        by_cases hlt : k < b1
        · have hd : decide ((k : Int) < (b1 : Int)) = true := by simp; omega
          have i4 : (k : Int) < (b1 : Int) := by omega
          obtain ⟨g, u, hA, hS, _, cu, fu, cur, hc⟩ := HP.out.f.at_ (k := k) (j := 1) hlt (by decide)
          dsimp only at hA
          subst hA
          have HN := Lib.hid (HP.out.set hc (by decide) (fun h => absurd h (by decide)) hS (j := k * 2 + 1) (.int .i64 (-9)))
          go_wp2_with fail
          go_roundw
          case rel => exact ⟨k + 1, by omega, by go_num, HN⟩
          case measure => simp [intOf]; omega
        · have hd : decide ((k : Int) < (b1 : Int)) = false := by simp; omega
          have P2 := HP
          clear P1
          skip
          go_wp2_with fail
          clear p0 p1 p2 p3 p4 p5 p6 p7 p8 p9 p10 p11 p12 p13 hd hlt hkl i3 HP
          go_loopw [4] (fun s4 wr => ∃ k : Nat, k ≤ d1 ∧ s4 = .int .i64 k ∧ Hid (Sp S w wr x ⟨⟨fk, ff, ft, fn, fq, fb, fv⟩, ⟨a0, a1, a2⟩, ⟨b0, b1, b2⟩, ⟨c0, c1, c2⟩, ⟨d0, d1, d2⟩, ⟨e0, e1, e2⟩⟩ qs)) (fun s4 _ => d1 - (intOf s4).toNat)
          case atStart => exact ⟨0, by omega, rfl, P2⟩
          case round =>
            obtain ⟨k, hkl, rfl, HP⟩ := hrel
            have i3 : (0 : Int) ≤ (k : Int) := by omega
            obtain ⟨p0, p1, p2, p3, p4, p5, p6, p7, p8, p9, p10, p11, p12, p13⟩ := fb_cells HP.out.x
            dsimp only at p0 p1 p2 p3 p4 p5 p6 p7 p8 p9 p10 p11 p12 p13
            by_cases hlt : k < d1
            · have hd : decide ((k : Int) < (d1 : Int)) = true := by simp; omega
              have i4 : (k : Int) < (d1 : Int) := by omega
              obtain ⟨g, u, hA, hS, _, cu, fu, cur, hc⟩ := HP.out.c.at_ (k := k) (j := 2) hlt (by decide)
              dsimp only at hA
              subst hA
              have HN := Lib.hid (HP.out.set hc (by decide) (fun h => absurd h (by decide)) hS (j := k * 3 + 2) (.int .i64 (-9)))
              go_wp2_with fail
              go_roundw
              case rel => exact ⟨k + 1, by omega, by go_num, HN⟩
              case measure => simp [intOf]; omega
            · have hd : decide ((k : Int) < (d1 : Int)) = false := by simp; omega
              have P3 := HP
              clear P2
              skip
              go_wp2_with fail
              clear p0 p1 p2 p3 p4 p5 p6 p7 p8 p9 p10 p11 p12 p13 hd hlt hkl i3 HP
              go_loopw [5] (fun s5 wr => ∃ k : Nat, k ≤ e1 ∧ s5 = .int .i64 k ∧ Hid (Sp S w wr x ⟨⟨fk, ff, ft, fn, fq, fb, fv⟩, ⟨a0, a1, a2⟩, ⟨b0, b1, b2⟩, ⟨c0, c1, c2⟩, ⟨d0, d1, d2⟩, ⟨e0, e1, e2⟩⟩ qs)) (fun s5 _ => e1 - (intOf s5).toNat)
              case atStart => exact ⟨0, by omega, rfl, P3⟩
              case round =>
                obtain ⟨k, hkl, rfl, HP⟩ := hrel
                have i3 : (0 : Int) ≤ (k : Int) := by omega
                obtain ⟨p0, p1, p2, p3, p4, p5, p6, p7, p8, p9, p10, p11, p12, p13⟩ := fb_cells HP.out.x
                dsimp only at p0 p1 p2 p3 p4 p5 p6 p7 p8 p9 p10 p11 p12 p13
                by_cases hlt : k < e1
                · have hd : decide ((k : Int) < (e1 : Int)) = true := by simp; omega
                  have i4 : (k : Int) < (e1 : Int) := by omega
                  obtain ⟨g, u, hA, hS, _, cu, fu, cur, hc⟩ := HP.out.s.at_ (k := k) (j := 1) hlt (by decide)
                  dsimp only at hA
                  subst hA
                  have HN := Lib.hid (HP.out.set hc (by decide) (fun h => absurd h (by decide)) hS (j := k * 2 + 1) (.int .i64 (-9)))
                  go_wp2_with fail
                  go_roundw
                  case rel => exact ⟨k + 1, by omega, by go_num, HN⟩
                  case measure => simp [intOf]; omega
                · have hd : decide ((k : Int) < (e1 : Int)) = false := by simp; omega
                  have P4 := HP
                  clear P3
                  go_wp2_with fail
                  clear p0 p1 p2 p3 p4 p5 p6 p7 p8 p9 p10 p11 p12 p13 hd hlt hkl i3 HP
                  go_loopw [6] (fun s6 wr => ∃ k : Nat, k ≤ c1 ∧ s6 = .int .i64 k ∧ Hid (Sp S w wr x ⟨⟨fk, ff, ft, fn, fq, fb, fv⟩, ⟨a0, a1, a2⟩, ⟨b0, b1, b2⟩, ⟨c0, c1, c2⟩, ⟨d0, d1, d2⟩, ⟨e0, e1, e2⟩⟩ qs)) (fun s6 _ => c1 - (intOf s6).toNat)
                  case atStart => exact ⟨0, by omega, rfl, P4⟩
                  case round =>
                    obtain ⟨k, hkl, rfl, HP⟩ := hrel
                    have i3 : (0 : Int) ≤ (k : Int) := by omega
                    obtain ⟨p0, p1, p2, p3, p4, p5, p6, p7, p8, p9, p10, p11, p12, p13⟩ := fb_cells HP.out.x
                    dsimp only at p0 p1 p2 p3 p4 p5 p6 p7 p8 p9 p10 p11 p12 p13
                    by_cases hlt : k < c1
                    · have hd : decide ((k : Int) < (c1 : Int)) = true := by simp; omega
                      have i4 : (k : Int) < (c1 : Int) := by omega
                      have hkq : k < qs.length := by have := HP.out.r.1; dsimp only at this; omega
                      have hln := LN.out k hkq
                      obtain ⟨g, hA, hS⟩ : ∃ g, c0 = some ⟨g, 0, none⟩ ∧ S g := by
                        rcases HP.out.r.2.2 with e | ⟨g, cur, h1, h2, _⟩
                        · rw [e] at hkq
                          cases hkq
                        · exact ⟨g, h1, h2⟩
                      subst hA
                      obtain ⟨-, ⟨cur, hc⟩, c3, ⟨u, cu⟩, fu⟩ := HP.out.r.cell hkq
                      have RMN := Lib.hid fun W (h : Sp S w W x ⟨⟨fk, ff, ft, fn, fq, fb, fv⟩, ⟨a0, a1, a2⟩, ⟨b0, b1, b2⟩, ⟨some ⟨g, 0, none⟩, c1, c2⟩, ⟨d0, d1, d2⟩, ⟨e0, e1, e2⟩⟩ qs) => h.r.2.1 k hkq
                      have RMC := Lib.hid fun W (h : Sp S w W x ⟨⟨fk, ff, ft, fn, fq, fb, fv⟩, ⟨a0, a1, a2⟩, ⟨b0, b1, b2⟩, ⟨some ⟨g, 0, none⟩, c1, c2⟩, ⟨d0, d1, d2⟩, ⟨e0, e1, e2⟩⟩ qs) => (h.r.cell hkq).2.2.1
                      have HN := Lib.hid (HP.out.set hc (by decide) (fun h => by omega) hS (j := k * 4 + 2) (.int .i64 (-9)))
                      generalize hqk : qs[k].2.2 = y at *
                      obtain ⟨N0, N1, N2⟩ := y
                      dsimp only at c3 hln
                      have HQK := Lib.hid hqk
                      clear hqk
                      go_upto_region 21 with fail
                      clear cu fu c3 hc p0 p1 p2 p3 p4 p5 p6 p7 p8 p9 p10 p11 p12 p13
                      generalize wr.setCell ⟨g, k * 4 + 2, none⟩ (.int .i64 (-9)) = w2 at *
                      have c3 := RMC.out _ HN.out
                      try dsimp only at c3
                      obtain ⟨p0, p1, p2, p3, p4, p5, p6, p7, p8, p9, p10, p11, p12, p13⟩ := fb_cells HN.out.x
                      dsimp only at p0 p1 p2 p3 p4 p5 p6 p7 p8 p9 p10 p11 p12 p13
                      go_wp2_with fail
                      clear c3 p0 p1 p2 p3 p4 p5 p6 p7 p8 p9 p10 p11 p12 p13
                      go_loopw [7] (fun s7 wr => ∃ j : Nat, j ≤ N1 ∧ s7 = .int .i64 j ∧ Hid (Sp S w wr x ⟨⟨fk, ff, ft, fn, fq, fb, fv⟩, ⟨a0, a1, a2⟩, ⟨b0, b1, b2⟩, ⟨some ⟨g, 0, none⟩, c1, c2⟩, ⟨d0, d1, d2⟩, ⟨e0, e1, e2⟩⟩ qs)) (fun s7 _ => N1 - (intOf s7).toNat)
                      case atStart => exact ⟨0, by omega, rfl, HN⟩
                      case round =>
                        obtain ⟨j, hjl, rfl, HM⟩ := hrel
                        have i5 : (0 : Int) ≤ (j : Int) := by omega
                        have c3 := RMC.out _ HM.out
                        try dsimp only at c3
                        obtain ⟨p0, p1, p2, p3, p4, p5, p6, p7, p8, p9, p10, p11, p12, p13⟩ := fb_cells HM.out.x
                        dsimp only at p0 p1 p2 p3 p4 p5 p6 p7 p8 p9 p10 p11 p12 p13
                        by_cases hltj : j < N1
                        · have hd2 : decide ((j : Int) < (N1 : Int)) = true := by simp; omega
                          have i6 : (j : Int) < (N1 : Int) := by omega
                          obtain ⟨g2, u, hA, hS2, _, cu, fu, cur, hc⟩ := (RMN.out _ HM.out).at_ (k := j) (j := 1) hltj (by decide)
                          try dsimp only at hA
                          subst hA
                          have HN2 := Lib.hid (HM.out.set hc (by decide) (fun h => absurd h (by decide)) hS2 (j := j * 2 + 1) (.int .i64 (-9)))
                          go_wp2_with fail
                          go_roundw
                          case rel => exact ⟨j + 1, by omega, by go_num, HN2⟩
                          case measure => simp [intOf]; omega
                        · have hd2 : decide ((j : Int) < (N1 : Int)) = false := by simp; omega
                          go_wp2_with fail
                          go_roundw
                          case rel => exact ⟨k + 1, by omega, by go_num, HM⟩
                          case measure => simp [intOf]; omega
                    · have hd : decide ((k : Int) < (c1 : Int)) = false := by simp; omega
                      go_wp2_with fail
                      refine bodyPost_end (results_none rfl _ _ _) rfl ?_
                      exact ⟨rfl, HP.out.o⟩
end Go.Proofs.Ytmgiglefabbmcaa
