/-
  Walks of the document's own box: what makes one, a list without one of its frames. No statement is proved in this text.
-/
import Derived.Test.YtmgiglefabbmcaaOutX
set_option maxRecDepth 20000
namespace Go.Proofs.Ytmgiglefabbmcaa
open Go Go.RowKit
/-- The document's box: a new one. -/
theorem rnew_any (mx : Int) (w : World) (hm : 1 ≤ mx ∧ mx ≤ 4096) :
    Calls Try.prog 20 #[.int .i64 mx] w fun e w' => e = .returned (.tuple #[.pointer (some ⟨w.heap.size, 0, none⟩), .int .i64 0]) ∧ w' = w.alloc (.cells #[.int .i64 mx, .slice none 0 0] 60) := by
  have d1 : decide (mx < 1) = false := by simp; omega
  have d2 : decide (4096 < mx) = false := by simp; omega
  go_enter Try.func20, Try.ntmps20
  go_wp2_with fail
  go_ret2
  exact ⟨rfl, rfl⟩
theorem rnew_no (mx : Int) (w : World) (hm : ¬ (1 ≤ mx ∧ mx ≤ 4096)) :
    Calls Try.prog 20 #[.int .i64 mx] w fun e w' => e = .returned (.tuple #[.pointer none, .int .i64 1]) ∧ w' = w := by
  by_cases h1 : mx < 1
  · have d1 : decide (mx < 1) = true := by simp; omega
    go_enter Try.func20, Try.ntmps20
    go_wp2_with fail
    go_ret2
    exact ⟨rfl, rfl⟩
  · have d1 : decide (mx < 1) = false := by simp; omega
    have d2 : decide (4096 < mx) = true := by simp; omega
    go_enter Try.func20, Try.ntmps20
    go_wp2_with fail
    go_ret2
    exact ⟨rfl, rfl⟩
theorem owns_lit0 (w : World) : OwnsR encF 14 32 (w.alloc (.cells #[] 32)) w.heap.size (.slice (some ⟨w.heap.size, 0, none⟩) 0 0) [] :=
  ⟨by simp [flatR], .inr ⟨_, 0, #[], rfl, Nat.le_refl _, heap_alloc_new w _, Nat.le_refl _, Nat.zero_le _, by simp, by simp [flatR]⟩⟩
set_option maxHeartbeats 4000000 in
theorem without_any (g o n c k : Nat) (qs : List Fq) (w : World) (h : Rcs encF 14 w (.slice (some ⟨g, o, none⟩) n c) qs) (hk : k < qs.length) (hl : qs.length ≤ 5000) :
    Calls Try.prog 34 #[.slice (some ⟨g, o, none⟩) n c, .int .i64 (k : Int)] w fun e w' => ∃ v', e = .returned v' ∧ OwnsR encF 14 32 w' w.heap.size v' (qs.take k ++ qs.drop (k + 1)) ∧ Below w.heap.size w w' := by
  have hn : n = qs.length := rcs_len h
  subst hn
  have hcap : qs.length ≤ c := by
    rcases h.shape with ⟨e, _⟩ | ⟨_, _, e, h2⟩
    · cases e
    · injection e with _ _ e
      omega
  have S1 := fun W => sliced_h g o qs.length c k (by omega) W
  have S2 := fun W => sliced_l ⟨g, o, none⟩ qs.length c (k + 1) (by omega) ((k : Int) + 1) (by simp) W
  obtain ⟨aS, haS⟩ : ∃ a, a = (if c = k + 1 then (⟨g, o, none⟩ : Addr) else (⟨g, o, none⟩ : Addr).add ((k + 1) * 14)) := ⟨_, rfl⟩
  rw [← haS] at S2
  have HS1 := Lib.hid (h.take (k := k) (by omega))
  have HS2 := Lib.hid (show Rcs encF 14 w (.slice (some aS) (qs.length - (k + 1)) (c - (k + 1))) (qs.drop (k + 1)) by rw [haS]; exact rcs_sliced h (by omega) (Nat.succ_pos _))
  clear haS h
  have B1 := Lib.hid (below_one w (.cells #[] 32))
  have O1 := Lib.hid (owns_lit0 w)
  have gw : IntKind.i64.wrap ((k : Int) + 1) = (k : Int) + 1 := IntWalk.i64_in _ ⟨by omega, by omega⟩
  have k4 : (0 : Int) ≤ (k : Int) := by omega
  have k5 : (k : Int) + 1 ≤ (qs.length : Int) := by omega
  have k6 : (k : Int) ≤ (c : Int) := by omega
  have HL := Lib.hid hl
  go_enter Try.func34, Try.ntmps34
  go_upto_region 2 with (at_builtin; refine wpList_append_recs 41 32 Try.underlying41 info32 rfl encF_len (by decide) encF_one (by decide) rfl (.tmp 6) (.tmp 9) rfl _ w.heap.size _ _ [] (qs.take k) rfl rfl O1.out (HS1.out.below B1.out) (by have := HL.out; simp; omega) B1.out.size ?_; intro v3 w3 h1 h2; have O3 := Lib.hid h1; have B3 := Lib.hid (B1.out.trans h2); clear h1 h2)
  go_wp2_with (at_builtin; refine wpList_append_recs 41 32 Try.underlying41 info32 rfl encF_len (by decide) encF_one (by decide) rfl (.tmp 11) (.tmp 15) rfl _ w.heap.size v3 _ _ (qs.drop (k + 1)) rfl rfl O3.out (HS2.out.below B3.out) (by have := HL.out; simp; omega) B3.out.size ?_; intro v4 w4 h1 h2; have O4 := Lib.hid h1; have B4 := Lib.hid (B3.out.trans h2); clear h1 h2)
  go_ret
  exact ⟨v4, rfl, by have := O4.out; rwa [List.nil_append] at this, B4.out⟩
/-- Block x is the document's box. -/
structure RB (W : World) (x : Nat) (mx : Int) (A : Option Addr) (c : Nat) (qs : List Fq) : Prop where
  cells : W.heap[x]? = some (.cells #[.int .i64 mx, .slice A qs.length c] 60 (0, 0))
  row : Row14 W A c qs
theorem RB.step {W W' : World} {x : Nat} {mx : Int} {A : Option Addr} {c : Nat} {qs : List Fq} (h : RB W x mx A c qs) (hb : Below W.heap.size W W') : RB W' x mx A c qs := ⟨(hb.block _ (row_lt h.cells)).trans h.cells, h.row.on (Below.on hb h.row.lt)⟩
theorem RB.at1 {W : World} {x : Nat} {mx : Int} {A : Option Addr} {c : Nat} {qs : List Fq} (h : RB W x mx A c qs) : W.cell? ⟨x, 1, none⟩ = some (.slice A qs.length c) ∧ W.frozen? ⟨x, 1, none⟩ = false := by
  exact ⟨by rw [cell_of_row _ _ _ _ _ _ h.cells]; rfl, frozen_of_row _ _ _ _ _ h.cells⟩
theorem RB.set {W : World} {x : Nat} {mx : Int} {A A' : Option Addr} {c c' : Nat} {qs qs' : List Fq} (h : RB W x mx A c qs) (hr : Row14 W A' c' qs') : RB (W.setCell ⟨x, 1, none⟩ (.slice A' qs'.length c')) x mx A' c' qs' := by
  refine ⟨?_, hr.on fun k hk => Below.heap_setCell _ _ _ _ fun e => hr.ne h.cells (by decide) (by rw [← show k = x from e]; exact hk)⟩
  have := heap_setCell_same W x 1 _ 60 (.slice A' qs'.length c') h.cells
  simpa using this
set_option maxHeartbeats 4000000 in
theorem rtake_any (W : World) (x : Nat) (mx : Int) (A : Option Addr) (c : Nat) (qs : List Fq) (h : RB W x mx A c qs) (hl : qs.length ≤ 5000) :
    Calls Try.prog 25 #[.pointer (some ⟨x, 0, none⟩)] W fun e w' => e = .returned (.tuple #[.agg (fc (tq qs)), .bool (!qs.isEmpty)]) ∧ (∃ A' c', RB w' x mx A' c' qs.tail ∧ (A' = A ∨ ∀ k, AB A' k → W.heap.size ≤ k)) ∧ Only (fun k => k = x) W w' := by
  have B1 := Lib.hid (below_one W (.cells #[.int .u8 0, .int .i64 0, .int .i64 0, .int .i64 0, .int .i64 0, .int .i64 0, .int .i64 0, .int .i64 0, .int .i64 0, .slice none 0 0, .slice none 0 0, .slice none 0 0, .slice none 0 0, .slice none 0 0] 32))
  have H1 := Lib.hid (h.step B1.out)
  have Z1 := Lib.hid (zero_new W)
  have XL := Lib.hid (row_lt h.cells)
  have HR0 := Lib.hid h.row.lt
  clear h
  cases qs with
  | nil =>
    obtain ⟨p1, -⟩ := H1.out.at1
    dsimp only [List.length_nil] at p1
    have SZ := Lib.hid (size32 q0)
    have BZ := Lib.hid (below_setRow B1.out (Nat.le_refl W.heap.size) (fc q0))
    go_enter Try.func25, Try.ntmps25
    go_upto_region 2 with (fail)
    clear p1
    go_wp2_with (refine wpList_store_row rfl 32 (.tmp 2) (.tmp 11) rfl W.heap.size (fc q0) rfl rfl 32 _ Z1.out SZ.out rfl (fc_one q0) ?_)
    refine bodyPost_ret (results_two Try.results25 _ _ W.heap.size rfl (setRow_set Z1.out) Try.underlying32 rfl (size32 q0) rfl) rfl ?_
    exact ⟨rfl, ⟨A, c, ⟨(setRow_other _ _ _ _ (Nat.ne_of_lt XL.out)).trans H1.out.cells, H1.out.row.on fun k hk => setRow_other _ _ _ _ (Nat.ne_of_lt (HR0.out k hk))⟩, .inl rfl⟩, Only.of BZ.out⟩
  | cons q r =>
    obtain ⟨g, o, rfl⟩ : ∃ g o, A = some ⟨g, o, none⟩ := by
      rcases H1.out.row with ⟨_, _, h⟩ | ⟨g, o, _, h, _⟩
      · cases h
      · exact ⟨g, o, h⟩
    have hne : ((r.length : Int) + 1 == 0) = false := by simp; omega
    have WL := Lib.hid (show W.heap.size < (W.alloc (.cells #[.int .u8 0, .int .i64 0, .int .i64 0, .int .i64 0, .int .i64 0, .int .i64 0, .int .i64 0, .int .i64 0, .int .i64 0, .slice none 0 0, .slice none 0 0, .slice none 0 0, .slice none 0 0, .slice none 0 0] 32)).heap.size by simp)
    obtain ⟨p1, -⟩ := H1.out.at1
    dsimp only [List.length_cons] at p1
    have HC := Lib.hid (rcs_frame H1.out.row.rcs (Below.refl _ _) (k := 0) (by simp))
    have SQ := Lib.hid (size32 q)
    go_enter Try.func25, Try.ntmps25
    go_upto_region 3 with (fail)
    generalize W.alloc (.cells #[.int .u8 0, .int .i64 0, .int .i64 0, .int .i64 0, .int .i64 0, .int .i64 0, .int .i64 0, .int .i64 0, .int .i64 0, .slice none 0 0, .slice none 0 0, .slice none 0 0, .slice none 0 0, .slice none 0 0] 32) = w1 at *
    have ZZ := Lib.hid (heap_alloc_new w1 (.cells #[.int .u8 0, .int .i64 0, .int .i64 0, .int .i64 0, .int .i64 0, .int .i64 0, .int .i64 0, .int .i64 0, .int .i64 0, .slice none 0 0, .slice none 0 0, .slice none 0 0, .slice none 0 0, .slice none 0 0] 32))
    have B3 := Lib.hid (show Below w1.heap.size w1 ((w1.alloc (.cells #[.int .u8 0, .int .i64 0, .int .i64 0, .int .i64 0, .int .i64 0, .int .i64 0, .int .i64 0, .int .i64 0, .int .i64 0, .slice none 0 0, .slice none 0 0, .slice none 0 0, .slice none 0 0, .slice none 0 0] 32)).setRow w1.heap.size (fc q)) from below_setRow (below_one w1 _) (Nat.le_refl _) _)
    have X3 := Lib.hid (show FB ((w1.alloc (.cells #[.int .u8 0, .int .i64 0, .int .i64 0, .int .i64 0, .int .i64 0, .int .i64 0, .int .i64 0, .int .i64 0, .int .i64 0, .slice none 0 0, .slice none 0 0, .slice none 0 0, .slice none 0 0, .slice none 0 0] 32)).setRow w1.heap.size (fc q)) w1.heap.size q from setRow_set ZZ.out)
    go_upto_region 4 with first
      | (refine wpList_load_recs rfl 32 (.tmp 16) rfl _ rfl (fc q) _ HC.out Try.underlying32 rfl SQ.out ?_)
      | (refine wpList_store_row rfl 32 (.tmp 4) (.tmp 17) rfl w1.heap.size (fc q) rfl rfl 32 _ ZZ.out SQ.out rfl (fc_one q) ?_)
    clear ZZ p1 HC
    generalize (w1.alloc (.cells #[.int .u8 0, .int .i64 0, .int .i64 0, .int .i64 0, .int .i64 0, .int .i64 0, .int .i64 0, .int .i64 0, .int .i64 0, .slice none 0 0, .slice none 0 0, .slice none 0 0, .slice none 0 0, .slice none 0 0] 32)).setRow w1.heap.size (fc q) = w3 at *
    have H3 := Lib.hid (H1.out.step B3.out)
    have Z3 := Lib.hid (fb_below Z1.out B3.out)
    have BW3 := Lib.hid (below_after B1.out B3.out (Nat.le_refl _))
    have HW := Lib.hid (show Calls Try.prog 34 #[.slice (some ⟨g, o, none⟩) (r.length + 1) c, .int .i64 0] w3 fun e w' => ∃ v', e = .returned v' ∧ OwnsR encF 14 32 w' w3.heap.size v' r ∧ Below w3.heap.size w3 w' from without_any g o (r.length + 1) c 0 (q :: r) w3 H3.out.row.rcs (by simp) hl)
    obtain ⟨p1, f1⟩ := H3.out.at1
    dsimp only [List.length_cons] at p1
    obtain ⟨b4, hb4⟩ : ∃ b, b = w1.heap.size := ⟨_, rfl⟩
    rw [← hb4] at X3 WL
    rw [← hb4]
    clear hb4 B3 H1 Z1
    go_wp2_with fail
    (with_reducible refine HW.out.mono ?_)
    rintro e5 w5 ⟨v', rfl, ho, hb⟩
    obtain ⟨A', c', rfl, -, hrow, hbase⟩ := row14_own ho
    have H5 := Lib.hid (H3.out.step hb)
    have H6 := Lib.hid (H5.out.set hrow)
    have HB := Lib.hid hbase
    have W3 := Lib.hid BW3.out.size
    have X5 := Lib.hid (show FB (w5.setCell ⟨x, 1, none⟩ (.slice A' r.length c')) b4 q from (Below.heap_setCell _ _ _ _ (show b4 ≠ x from by have := XL.out; have := WL.out; omega)).trans (fb_below X3.out hb))
    have Z5 := Lib.hid (show FB (w5.setCell ⟨x, 1, none⟩ (.slice A' r.length c')) W.heap.size q0 from (Below.heap_setCell _ _ _ _ (show W.heap.size ≠ x from by have := XL.out; omega)).trans (fb_below Z3.out hb))
    have B5 := Lib.hid (below_after BW3.out hb (Nat.le_refl _))
    have O5 := Lib.hid (show Only (fun k => k = x) W (w5.setCell ⟨x, 1, none⟩ (.slice A' r.length c')) from (Only.of B5.out).andThen (only_setCell w5 x 1 _))
    have L3 := Lib.hid (show W.heap.size < w3.heap.size from fb_lt Z3.out)
    clear ho hb hrow hbase p1 f1 H3 Z3 X3
    obtain ⟨p1, f1⟩ := H5.out.at1
    go_upto_region 5 with (fail)
    clear p1 f1 H5
    generalize w5.setCell ⟨x, 1, none⟩ (.slice A' r.length c') = w6 at *
    go_wp2_with first
      | (refine wpList_load_row rfl 32 (.tmp 4) rfl b4 rfl 32 (fc q) (0, 0) _ X5.out Try.underlying32 rfl SQ.out ?_)
      | (refine wpList_store_row rfl 32 (.tmp 2) (.tmp 26) rfl W.heap.size (fc q) rfl rfl 32 _ Z5.out SQ.out rfl (fc_one q) ?_)
    refine bodyPost_ret (results_two Try.results25 _ _ W.heap.size rfl (setRow_set Z5.out) Try.underlying32 rfl (size32 q) rfl) rfl ?_
    exact ⟨rfl, ⟨A', c', ⟨(setRow_other _ _ _ _ (Nat.ne_of_lt XL.out)).trans H6.out.cells, H6.out.row.on fun k hk => setRow_other _ _ _ _ (by have := HB.out k hk; have := L3.out; omega)⟩, .inr fun k hk => Nat.le_trans W3.out (HB.out k hk)⟩,
      ⟨O5.out.os, O5.out.tape, O5.out.output, by simpa using O5.out.size, fun k hk hn => (setRow_other _ _ _ _ (Nat.ne_of_lt hk)).trans (O5.out.block k hk hn)⟩⟩
end Go.Proofs.Ytmgiglefabbmcaa
