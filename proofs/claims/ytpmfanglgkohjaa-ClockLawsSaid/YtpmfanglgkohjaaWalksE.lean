/-
  Walks over the first ID of two lists in order, and over what a list begins with. No statement is proved in this text; it holds for every input that its premises let by.
-/
import Derived.Test.YtpmfanglgkohjaaSaid
namespace Go.Proofs.Ytpmfanglgkohjaa
open Go.RowKit Sets Clocks
theorem elem24 : Try.prog.elem 24 = 35 := by kernel_rfl
theorem size35 (W : World) : (sizeOf 35).run Try.prog W = .ok 3 W := by kernel_rfl
theorem under24 : Try.prog.underlying 24 = some (.slice (Try.prog.elem 24)) := by rw [elem24]; exact Try.underlying24
theorem add_zero' (a : Addr) : a.add 0 = a := by unfold Addr.add; rw [if_pos rfl]
/-- A list whose ticks lie in memory from lo on, ahead of hi. -/
def Lies (lo hi : Nat) (w : World) (v : Value) (l : List Tick) : Prop := Rcs encT 3 w v l ∧ ∀ ad n c, v = .slice (some ad) n c → 0 < l.length → lo ≤ ad.block ∧ ad.block < hi
/-- What is kept between lo and hi. -/
def Mid (lo hi : Nat) (w w' : World) : Prop := w.heap.size ≤ w'.heap.size ∧ ∀ k, lo ≤ k → k < hi → w'.heap[k]? = w.heap[k]?
theorem mid_below {lo hi : Nat} {w w' : World} (hb : Below w.heap.size w w') (h : hi ≤ w.heap.size) : Mid lo hi w w' := ⟨hb.size, fun k _ hk => hb.block k (by omega)⟩
theorem Lies.mid {lo hi : Nat} {w w' : World} {v : Value} {l : List Tick} (h : Lies lo hi w v l) (hm : Mid lo hi w w') : Lies lo hi w' v l := by
  obtain ⟨⟨A, c, rfl, h0, hc, hk⟩, hb⟩ := h
  refine ⟨⟨A, c, rfl, h0, hc, fun k hlt => ?_⟩, hb⟩
  obtain ⟨ad, rfl, h1, h2⟩ := hk k hlt
  obtain ⟨b1, b2⟩ := hb ad _ _ rfl (by omega)
  refine ⟨ad, rfl, Nat.lt_of_lt_of_le h1 hm.1, fun j u hu => ?_⟩
  rw [World.cell?_of_block (w := w) (by rw [addr_block]; exact hm.2 _ b1 b2)]
  exact h2 j u hu
theorem lies_of {lo hi : Nat} {w : World} {v : Value} {l : List Tick} (h : Rcs encT 3 w v l) (hf : Fresh lo v) (hh : w.heap.size ≤ hi) : Lies lo hi w v l := by
  refine ⟨h, fun ad n c e hl => ⟨hf ad n c e, ?_⟩⟩
  subst e
  obtain ⟨A, c', hv, _, _, hk⟩ := h
  injection hv with e1 e2 e3
  subst e1
  obtain ⟨ad', e, h1, _⟩ := hk 0 hl
  injection e with e
  subst e
  omega
/-- The first one of a list. -/
theorem Rcs.head {w : World} {v : Value} {t : Tick} {l : List Tick} (h : Rcs encT 3 w v (t :: l)) :
    ∃ ad c, v = .slice (some ad) (l.length + 1) c ∧ ∀ w', Below w.heap.size w w' → w'.cell? ad = some (.int .i64 t.1.1) ∧ w'.cell? ⟨ad.block, ad.off + 1, none⟩ = some (.int .i64 t.1.2) ∧ w'.cell? ⟨ad.block, ad.off + 2, none⟩ = some (.int .i64 t.2) := by
  obtain ⟨A, c, rfl, _⟩ := id h
  obtain ⟨ad, rfl⟩ := h.addr (by simp)
  refine ⟨ad, c, rfl, fun w' hb => ?_⟩
  obtain ⟨ad', e, c1, c2, c3⟩ := h.tick hb (k := 0) (by simp)
  injection e with e
  subst e
  rw [Nat.zero_mul, add_zero'] at c1 c2 c3
  exact ⟨c1, c2, c3⟩
/-- All but the first one of a list. -/
theorem run_tail {lo hi : Nat} {w : World} {v : Value} {t : Tick} {l : List Tick} (h : Lies lo hi w v (t :: l)) :
    ∃ V, (∀ W, (Instr.slice 24 v (some (.int .i64 1)) none none).run Try.prog W = .ok V W) ∧ Lies lo hi w V l := by
  obtain ⟨hr, hb⟩ := h
  obtain ⟨A, c, rfl, h0, hc, hx⟩ := id hr
  obtain ⟨ad, rfl⟩ := hr.addr (by simp)
  have hb2 := hb ad _ _ rfl (by simp)
  refine ⟨sliced (some ad) 1 (t :: l).length c 3, fun W => ?_, ?_⟩
  · rw [run_slice_l (w := W) (P := Try.prog) 24 (some ad) (t :: l).length c under24 .i64 1 (by omega) (by simp; omega)]
    rw [elem24, size35]
    rfl
  · unfold Go.sliced
    have hl : (t :: l).length - 1 = l.length := by simp
    split
    · rename_i e
      subst e
      have : l = [] := List.eq_nil_of_length_eq_zero (by simp only [List.length_cons] at hc; omega)
      subst this
      exact ⟨⟨some ad, 0, rfl, (fun h => by cases h), by simp, fun k hk => absurd hk (by simp)⟩, fun ad n c e hl => absurd hl (by simp)⟩
    · have hd := Rcs.drop (k := 1) (by omega) hr (by simp) (by omega)
      refine ⟨hd, fun ad' n c' e _ => ?_⟩
      injection e with e
      injection e with e
      subst e
      rw [addr_block]
      exact hb2
set_option maxHeartbeats 1000000 in
theorem take_any (lo hi : Nat) (v : Value) (l : List Tick) (x y : Int) (w : World) (h : Lies lo hi w v l) (hl : l.length ≤ 100000) :
    Calls Try.prog 25 #[v, .agg #[.int .i64 x, .int .i64 y]] w fun e w' => ∃ V, e = .returned (.tuple #[.int .i64 (tkN (x, y) l), V]) ∧ Lies lo hi w V (tkL (x, y) l) ∧ Below w.heap.size w w' := by
  have HB := Lib.hid (show Below w.heap.size w (w.alloc (.cells #[.int .i64 x, .int .i64 y] 28)) from (Below.refl _ _).alloc (Nat.le_refl _) _)
  cases l with
  | nil =>
    obtain ⟨⟨A, c, rfl, h0, hc, hx⟩, hb⟩ := id h
    have HH := Lib.hid h
    clear hx hb h
    go_enter Try.func25, Try.ntmps25
    go_wp2_with fail
    go_quiet (fail)
    go_wp2_with fail
    refine bodyPost_ret (v := .tuple #[.int .i64 0, .slice A 0 c]) (by simp [results, Try.results25, go_sem]) rfl ?_
    exact ⟨_, rfl, HH.out, below_drewN HB.out⟩
  | cons t l =>
    obtain ⟨ad, c, rfl, hc⟩ := h.1.head
    obtain ⟨V, hV, hL⟩ := run_tail h
    have HH := Lib.hid h
    have HL := Lib.hid hL
    have HC := Lib.hid hc
    have hlz : ((l.length : Int) + 1 == 0) = false := by simp; omega
    have i3 : (0 : Int) < (l.length : Int) + 1 := by omega
    obtain ⟨x1, x2⟩ := box_cells (box_new w x y)
    clear h hL hc
    by_cases he : t.1 = (x, y)
    · have HN := Lib.hid (show tkN (x, y) (t :: l) = t.2 by rw [tkN, if_pos he])
      have HT := Lib.hid (show tkL (x, y) (t :: l) = l by rw [tkL, if_pos he])
      have e1 : t.1.1 = x := by rw [he]
      have e2 : t.1.2 = y := by rw [he]
      rw [e1, e2] at HC
      rw [HN.out, HT.out]
      clear he e1 e2
      obtain ⟨c1, c2, c3⟩ := HC.out _ HB.out
      go_enter Try.func25, Try.ntmps25
      go_wp2_with fail
      go_quiet (fail)
      go_wp2_with fail
      go_quiet (fail)
      go_wp2_with fail
      refine bodyPost_ret (v := .tuple #[.int .i64 t.2, V]) (by simp [results, Try.results25, go_sem]) rfl ?_
      exact ⟨_, rfl, HL.out, below_drewN (below_drewN HB.out)⟩
    · have HN := Lib.hid (show tkN (x, y) (t :: l) = 0 by rw [tkN, if_neg he])
      have HT := Lib.hid (show tkL (x, y) (t :: l) = t :: l by rw [tkL, if_neg he])
      rw [HN.out, HT.out]
      obtain ⟨c1, c2, c3⟩ := HC.out _ HB.out
      by_cases h1 : t.1.1 = x
      · have h2 : (t.1.2 == y) = false := by
          simp only [beq_eq_false_iff_ne]
          exact fun e => he (by rw [← h1, ← e])
        have h3 : (t.1.2 != y) = true := by simpa using h2
        have h4 : (t.1.1 == x) = true := by simpa using h1
        rw [h1] at c1 h4
        clear he h1
        go_enter Try.func25, Try.ntmps25
        go_wp2_with fail
        go_quiet (fail)
        go_wp2_with fail
        refine bodyPost_ret (v := .tuple #[.int .i64 0, .slice (some ad) (l.length + 1) c]) (by simp [results, Try.results25, go_sem]) rfl ?_
        exact ⟨_, rfl, HH.out, below_drewN HB.out⟩
      · have h2 : (t.1.1 == x) = false := by simpa using h1
        have h3 : (t.1.1 != x) = true := by simpa using h1
        clear he
        go_enter Try.func25, Try.ntmps25
        go_wp2_with fail
        go_quiet (fail)
        go_wp2_with fail
        refine bodyPost_ret (v := .tuple #[.int .i64 0, .slice (some ad) (l.length + 1) c]) (by simp [results, Try.results25, go_sem]) rfl ?_
        exact ⟨_, rfl, HH.out, below_drewN HB.out⟩
end Go.Proofs.Ytpmfanglgkohjaa
