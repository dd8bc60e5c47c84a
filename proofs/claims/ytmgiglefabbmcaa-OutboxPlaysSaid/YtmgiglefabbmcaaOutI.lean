/-
  Walks over a box: the first frame is taken, a further one is put. No statement is proved in this text.
-/
import Derived.Test.YtmgiglefabbmcaaOutH
set_option maxRecDepth 20000
namespace Go.Proofs.Ytmgiglefabbmcaa
open Go Go.RowKit
/-- What is taken. -/
def tq (qs : List Fq) : Fq := qs.head?.getD q0
/-- What is taken out leaves a box that goes on without it. -/
def Out (T : Nat → Prop) (w : World) (p : Nat) (mx : Int) (qs : List Fq) (u : Fq) : Prop := ∃ T' Q : Nat → Prop, BoxAt T' w p mx qs ∧ FO Q w u ∧ (∀ k, Q k → ¬ T' k) ∧ (∀ k, Q k → T k) ∧ (∀ k, T' k → T k)
theorem zero_new (w : World) : FB (w.alloc (.cells #[.int .u8 0, .int .i64 0, .int .i64 0, .int .i64 0, .int .i64 0, .int .i64 0, .int .i64 0, .int .i64 0, .int .i64 0, .slice none 0 0, .slice none 0 0, .slice none 0 0, .slice none 0 0, .slice none 0 0] 32)) w.heap.size q0 := fb_new w q0
set_option maxHeartbeats 4000000 in
theorem take_any (T : Nat → Prop) (w : World) (p : Nat) (mx : Int) (qs : List Fq) (h : BoxAt T w p mx qs) :
    Calls Try.prog 11 #[.pointer (some ⟨p, 0, none⟩)] w fun e w' => e = .returned (.tuple #[.agg (fc (tq qs)), .bool (!qs.isEmpty)]) ∧ Out T w' p mx qs.tail (tq qs) ∧ Only T w w' := by
  have B1 := Lib.hid (below_one w (.cells #[.int .u8 0, .int .i64 0, .int .i64 0, .int .i64 0, .int .i64 0, .int .i64 0, .int .i64 0, .int .i64 0, .int .i64 0, .slice none 0 0, .slice none 0 0, .slice none 0 0, .slice none 0 0, .slice none 0 0] 32))
  have H1 := Lib.hid (h.below B1.out)
  have Z1 := Lib.hid (zero_new w)
  have LT := Lib.hid h.lt
  clear h
  cases qs with
  | nil =>
    go_enter Try.func11, Try.ntmps11
    go_wp2_with (with_reducible refine (len_any T _ p mx [] H1.out).mono ?_; rintro e1 w1 ⟨rfl, rfl⟩)
    refine bodyPost_ret (results_two Try.results11 _ _ w.heap.size rfl Z1.out Try.underlying32 rfl (size32 q0) rfl) rfl ?_
    exact ⟨rfl, ⟨T, fun _ => False, H1.out, fo_zero _ _, fun _ e => e.elim, fun _ e => e.elim, fun _ e => e⟩, Only.of B1.out⟩
  | cons q r =>
    have hne : ((r.length : Int) + 1 == 0) = false := by simp; omega
    have HC : Hid (∀ W, BoxAt T W p mx (q :: r) → Calls Try.prog 31 #[.pointer (some ⟨p, 0, none⟩), .int .i64 0] W fun e w' => e = .returned (.agg (fc q)) ∧ Out T w' p mx r q ∧ Only T W w') := Lib.hid fun W hW => remove_any T W p mx (q :: r) hW 0 (by simp)
    go_enter Try.func11, Try.ntmps11
    go_wp2_with (with_reducible refine (len_any T _ p mx (q :: r) H1.out).mono ?_; rintro e1 w1 ⟨rfl, rfl⟩)
    (with_reducible refine (HC.out _ H1.out).mono ?_)
    rintro e2 w2 ⟨rfl, hd, ho⟩
    obtain ⟨T', Q, d1, d2, d3, d4, d5⟩ := hd
    have HZ := Lib.hid (show FB w2 w.heap.size q0 from fb_only Z1.out ho (fun e => absurd (LT.out w.heap.size e) (by omega)))
    have SQ := Lib.hid (size32 q)
    go_wp2_with (refine wpList_store_row rfl 32 (.tmp 2) (.tmp 9) rfl w.heap.size (fc q) rfl rfl 32 _ HZ.out SQ.out rfl (fc_one q) ?_)
    refine bodyPost_ret (results_two Try.results11 _ _ w.heap.size rfl (setRow_set HZ.out) Try.underlying32 rfl (size32 q) rfl) rfl ?_
    have hns : ∀ k, T k → k ≠ w.heap.size := fun k hk e => by have := LT.out k hk; omega
    exact ⟨rfl, ⟨T', Q, d1.on (fun k hk => setRow_other _ _ _ _ (hns k (d5 k hk))) (by simp), d2.on (fun k hk => setRow_other _ _ _ _ (hns k (d4 k hk))), d3, d4, d5⟩, ((Only.of (S := T) B1.out).andThen ho).trans (only_setRow w2 w.heap.size _) (fun _ e => e) (fun k hk e => absurd e (by omega))⟩
end Go.Proofs.Ytmgiglefabbmcaa
