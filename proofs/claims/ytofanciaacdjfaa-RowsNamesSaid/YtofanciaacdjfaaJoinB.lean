/-
  A walk over the program's way to join two lists of rows, where both are in order. No statement is proved in this text; it holds for every input that its premises let by.
-/
import Derived.Test.YtofanciaacdjfaaJoinR
namespace Go.Proofs.Ytofanciaacdjfaa
open Go Go.RowKit Sets RowSets
attribute [local go_sem] Oper.semAt_some
set_option maxHeartbeats 8000000 in
theorem join_rows (vA vB : Value) (la lb : List Row) (w : World) (hA : RowsAt w vA la) (hB : RowsAt w vB lb) (ua : Up la) (ub : Up lb) (sa : Small la) (sb : Small lb) :
    Calls Try.prog 12 #[vA, vB] w fun e w' => ∃ v', e = .returned v' ∧ RowsAt w' v' (joinR la lb) ∧ Below w.heap.size w w' := by
  obtain ⟨qa, ha, ra⟩ := hA
  obtain ⟨qb, hb, rb⟩ := hB
  have HA := Lib.hid ha
  have HB := Lib.hid hb
  have hla := Lib.hid ra.len
  have hlb := Lib.hid rb.len
  have hqa : qa.length ≤ 1000 := by have := sa.1; have := hla.out; omega
  have hqb : qb.length ≤ 1000 := by have := sb.1; have := hlb.out; omega
  have hll := Lib.hid (show (join (ids la) (ids lb)).length ≤ 2000 by
    have h1 := len_join (ids la) (ids lb)
    have h2 : (ids la).length = la.length := by simp [ids]
    have h3 : (ids lb).length = lb.length := by simp [ids]
    have := sa.1
    have := sb.1
    omega)
  obtain ⟨A0, c0, rfl, hz⟩ := ha
  obtain ⟨A1, c1, rfl, hz2⟩ := hb
  clear hz hz2
  refine (callsIn_wide (n := 0)).1 ?_
  refine callsIn_of_wp_marks Try.func12 rfl trivial ?_
  simp only [Try.ntmps12, List.size_toArray, List.length_cons, List.length_nil, Nat.reduceAdd, Nat.reduceSub, Array.replicate_succ, Array.replicate_zero, List.push_toArray, List.append_toArray, List.nil_append, List.cons_append]
  gi_wp2_with (gi_at_make; refine wpListIn_make_spelled (enc := encW) 27 26 Try.underlying27 infoW (by omega) _ rfl (.tmp 12) rfl _ rfl (by omega) (by omega) ?_; intro cap w1 h1 h2; have O1 := Lib.hid h1; have B1 := Lib.hid h2; clear h1 h2)
  have X2 := Lib.hid (one_new w1 27 (.slice (some ⟨w.heap.size, 0, none⟩) 0 cap))
  have K2 := Lib.hid (below_one w1 (.cells #[.slice (some ⟨w.heap.size, 0, none⟩) 0 cap] 27))
  have hX0 : w.heap.size < w1.heap.size := (World.ownsRow.lt O1.out w.heap.size rfl).2
  have B2 := Lib.hid (B1.out.trans (K2.out.mono B1.out.size))
  have O2 := Lib.hid (O1.out.below K2.out)
  have hs2 : w1.heap.size < (w1.alloc (.cells #[.slice (some ⟨w.heap.size, 0, none⟩) 0 cap] 27)).heap.size := one_lt X2.out
  refine ⟨trivial, rfl, callsIn_wide.2 ((pairs_any A0 A1 qa.length qb.length c0 c1 _).mono ?_)⟩
  rintro e w3 ⟨rfl, hTA, hTB, hb⟩
  have X3 := Lib.hid (one_below X2.out hb)
  have O3 := Lib.hid (O2.out.below hb)
  have B3 := Lib.hid (below_after B2.out hb (Nat.le_refl _))
  have TA := Lib.hid hTA
  have TB := Lib.hid hTB
  have hs3 : w1.heap.size < w3.heap.size := Nat.lt_of_lt_of_le hs2 hb.size
  generalize (w1.alloc (.cells #[.slice (some ⟨w.heap.size, 0, none⟩) 0 cap] 27)).heap.size = tA at *
  clear hTA hTB hb X2 K2 O2 O1 B1 B2 hs2
  generalize w1.heap.size = X at *
  gi_wp2
  refine wp_each (P := Try.prog) (gf := 52) (lb := #[.pointer (some ⟨tA, 0, none⟩), .pointer (some ⟨tA + 1, 0, none⟩)]) rfl (enters_fn Try.func52 (by kernel_rfl) rfl)
    (pairs_seq tA (tA + 1) (join (ids la) (ids lb)).length _ _ qa qb la lb w w3 B3.out TA.out TB.out HA.out HB.out ra rb ua ub sa sb (Nat.le_refl _)) (fun _ => rfl) B3.out.size (JoinI X w3.heap.size w.heap.size) ?start (fun hi pre A B h hg => h.loop hs3 hg) ?round ?done
  case start =>
    intro hi W hhi hb
    refine ⟨some ⟨w.heap.size, 0, none⟩, 0, cap, [], one_below X3.out hb, rfl, O3.out.below hb, trivial, fun g hg => ?_, fun q hq => absurd hq (by simp), fun h => ?_, hhi⟩
    · injection hg with hg
      left
      rw [← hg]
      show w.heap.size < w3.heap.size
      omega
    · injection h with h
      have : w.heap.size = X := h
      omega
  case done =>
    intro hi xs W hS hI hb hD
    obtain ⟨Av, n, c, qs, hX, hn, hO, hE, _⟩ := hI
    have hj : joinedRows xs = joinR la lb := by
      rw [← joinR_pairs ua ub, ← hS]
      unfold joinedRows optsP
      rw [List.map_map]
      rfl
    rw [hj] at hE
    have cX := one_cell hX
    have HO := Lib.hid hO
    have HE := Lib.hid hE.reads
    have HBW := Lib.hid (B3.out.trans hb)
    clear hX hO hE hS hj
    gi_wp2
    refine ⟨by simp, .inl ⟨_, _, rfl, run_takeDeferred hD, ?_⟩⟩
    refine ⟨_, results_tmp rfl _ _ _, _, rfl, RowsAt.cells ⟨qs, rcs_owns encW_len HO.out, HE.out⟩ (cells_deferred hD (grownBy_putObj' _ _ _)), ?_⟩
    exact HBW.out.grown (grownBy_putObj' _ _ _) HBW.out.size fun k hk => by injection hk with hk; rw [← hk]; exact B3.out.size
  case round =>
    intro hi pre x A hhi hA hI hPr hN ⟨r, hl⟩
    have e : ∀ t : Array Value, ((#[17, 18] : Array Tmp).zip (encP x)).foldl (fun t (p, v) => t.setIfInBounds p v) t = (t.setIfInBounds 17 (.pointer x.1.1)).setIfInBounds 18 (.pointer x.2.1) := fun t => by simp [encP]
    rw [e]
    simp only [List.setIfInBounds_toArray, List.set_cons_zero, List.set_cons_succ]
    clear e
    gi_wp2
    refine ⟨⟨Below.refl _ _, Span.refl _ _ _, rfl⟩, trivial, fun C hC => ?_⟩
    have hI2 := hI.loop hs3 hC
    have hcc := cells_loop hl hC
    obtain ⟨Av, n, c, qs, h1, h2, h3, h4, h5, h6, h7, h8⟩ := hI2
    have H1 := Lib.hid h1
    have H2 := Lib.hid h2
    have H3 := Lib.hid h3
    have H4 := Lib.hid h4
    have H5 := Lib.hid h5
    have H6 := Lib.hid h6
    have H7 := Lib.hid h7
    have hiC : hi ≤ C.heap.size := Nat.le_trans hA hC.size
    have hqn : qs.length ≤ 50000 := by
      have e1 := h4.len
      have e2 : (joinedRows pre).length = pre.length := by simp [joinedRows]
      have := hll.out
      omega
    have HC := Lib.hid fun W (hb : Below C.heap.size C W) => joined_any x.1.1 x.2.1 x.1.2 x.2.2 W ((hPr.1.cells hcc).below hb) ((hPr.2.1.cells hcc).below hb) hPr.2.2.1 hPr.2.2.2.1 hPr.2.2.2.2
    have HR : Hid (joinedO x.1.2 x.2.2 = (((joinedO x.1.2 x.2.2).1.1, (joinedO x.1.2 x.2.2).1.2), (joinedO x.1.2 x.2.2).2.1, (joinedO x.1.2 x.2.2).2.2)) := Lib.hid rfl
    have hxs : w.heap.size < X := hX0
    clear h1 h2 h3 h4 h5 h6 h7 hI hPr hl hcc
    refine wpIn_block ?_
    refine wpIn_region_of_any (by kernel_rfl) (fun ⟨a, w, h⟩ => h) (no_defer (by kernel_rfl)) ?_
    have cX : C.drew.cell? ⟨X, 0, none⟩ = some (.slice Av n c) := one_cell (show One C.drew X 27 _ from H1.out)
    (refine wpAny_take (i := 1) (oi := ⟨_, _, _, _, _, _⟩) (v := ?_) rfl (by kernel_rfl) (by kernel_rfl) (by kernel_rfl) (fun _ _ _ h => h) (Or.inl ⟨by rfl, ?_⟩) ?_; rotate_left 1; · (intro w; go_simp; all_goals with_reducible rfl))
    try simp only [Act.put, List.setIfInBounds_toArray, List.set_cons_zero, List.set_cons_succ]
    (refine wpAny_take (i := 2) (oi := ⟨_, _, _, _, _, _⟩) (v := ?_) rfl (by kernel_rfl) (by kernel_rfl) (by kernel_rfl) (fun _ _ _ h => h) (Or.inl ⟨by rfl, ?_⟩) ?_; rotate_left 1; · (intro w; go_simp; all_goals with_reducible rfl))
    try simp only [Act.put, List.setIfInBounds_toArray, List.set_cons_zero, List.set_cons_succ]
    refine wpAny_ready (rs := [0, 3]) (by kernel_rfl) (by simp) ?_
    refine (AllReady.cons (o := ⟨_, _, _, _, _, _⟩) rfl (fun K hK => ?_) (AllReady.cons (o := ⟨_, _, _, _, _, _⟩) rfl (fun K hK => ?_) AllReady.nil))
    · skip
      go_simp
      refine hK _ _ ?_
      clear hK K
      try simp only [Act.put, List.setIfInBounds_toArray, List.set_cons_zero, List.set_cons_succ]
      refine wpAny_ready (rs := [3]) (by kernel_rfl) (by simp) ?_
      refine (AllReady.cons (o := ⟨_, _, _, _, _, _⟩) rfl (fun K hK => ?_) AllReady.nil)
      go_simp
      go_at_call 30
      (with_reducible refine (HC.out _ (Below.refl _ _).drew).mono ?_)
      rintro e w5 ⟨B, m', k', rfl, ho, hb⟩
      have K5 := Lib.hid (show Below C.heap.size C w5 from (Below.refl _ _).drew.trans hb)
      have Q5 := Lib.hid (show OwnsI w5 C.heap.size (.slice B m' k') (joinedO x.1.2 x.2.2).2.2 from ho)
      clear ho hb cX
      have cX : w5.cell? ⟨X, 0, none⟩ = some (.slice Av n c) := one_cell (one_below H1.out K5.out)
      refine hK _ _ ?_
      clear hK K
      try simp only [Act.put, List.setIfInBounds_toArray, List.set_cons_zero, List.set_cons_succ]
      refine wpAny_ready (rs := [4]) (by kernel_rfl) (by simp) ?_
      refine (AllReady.cons (o := ⟨_, _, _, _, _, _⟩) rfl (fun K hK => ?_) AllReady.nil)
      go_simp
      refine hK _ _ ?_
      clear hK K
      try simp only [Act.put, List.setIfInBounds_toArray, List.set_cons_zero, List.set_cons_succ]
      have N6 := Lib.hid (below_one w5 (.cells #[.int .i64 (joinedO x.1.2 x.2.2).1.1, .int .i64 (joinedO x.1.2 x.2.2).1.2, .int .i64 (joinedO x.1.2 x.2.2).2.1, .slice B m' k'] 26))
      have K6 := Lib.hid (K5.out.trans (N6.out.mono K5.out.size))
      have Q6 := Lib.hid (OwnsR.below Q5.out N6.out)
      have X6 := Lib.hid (wbox_new w5 (joinedO x.1.2 x.2.2).1.1 (joinedO x.1.2 x.2.2).1.2 (joinedO x.1.2 x.2.2).2.1 (.slice B m' k'))
      have O6 := Lib.hid (OwnsR.below H3.out K6.out)
      clear cX
      have cX := one_cell (one_below H1.out K6.out)
      refine wpAny_ready (rs := [5]) (by kernel_rfl) (by simp) ?_
      refine (AllReady.cons (o := ⟨_, _, _, _, _, _⟩) rfl (fun K hK => ?_) AllReady.nil)
      refine step_pushW rfl (.tmp 19) (.tmp 23) rfl _ w.heap.size Av n c w5.heap.size qs (joinedO x.1.2 x.2.2).1.1 (joinedO x.1.2 x.2.2).1.2 (joinedO x.1.2 x.2.2).2.1 B m' k' H2.out rfl rfl O6.out X6.out hqn (Nat.le_trans (by omega) K6.out.size) ?_
      intro g cap' w7 p1 p2 p3 p4
      have E7 := Lib.hid (join_end (x := x) (pre := pre) (by omega) hs3 h8 hiC H1.out H2.out H3.out H4.out H5.out H6.out H7.out K6.out HR.out Q6.out p1 p2 p3)
      have X7 := Lib.hid (show One w7 X 27 (.slice Av n c) from (p2.block X (one_lt (one_below H1.out K6.out)) (fun e => H7.out e.symm)).trans (one_below H1.out K6.out))
      clear p1 p2 p3 p4 cX
      have cX := one_cell X7.out
      have fX := one_free X7.out
      refine hK _ _ ?_
      clear hK K
      try simp only [Act.put, List.setIfInBounds_toArray, List.set_cons_zero, List.set_cons_succ]
      refine wpAny_ready (rs := [6]) (by kernel_rfl) (by simp) ?_
      refine (AllReady.cons (o := ⟨_, _, _, _, _, _⟩) rfl (fun K hK => ?_) AllReady.nil)
      go_simp
      refine hK _ _ ?_
      clear hK K
      try simp only [Act.put, List.setIfInBounds_toArray, List.set_cons_zero, List.set_cons_succ]
      refine wpAny_done (by kernel_rfl) ?_ _
      exact E7.out
    · skip
      go_simp
      go_at_call 30
      (with_reducible refine (HC.out _ (Below.refl _ _).drew).mono ?_)
      rintro e w5 ⟨B, m', k', rfl, ho, hb⟩
      have K5 := Lib.hid (show Below C.heap.size C w5 from (Below.refl _ _).drew.trans hb)
      have Q5 := Lib.hid (show OwnsI w5 C.heap.size (.slice B m' k') (joinedO x.1.2 x.2.2).2.2 from ho)
      clear ho hb cX
      have cX : w5.cell? ⟨X, 0, none⟩ = some (.slice Av n c) := one_cell (one_below H1.out K5.out)
      refine hK _ _ ?_
      clear hK K
      try simp only [Act.put, List.setIfInBounds_toArray, List.set_cons_zero, List.set_cons_succ]
      refine wpAny_ready (rs := [0, 4]) (by kernel_rfl) (by simp) ?_
      refine (AllReady.cons (o := ⟨_, _, _, _, _, _⟩) rfl (fun K hK => ?_) (AllReady.cons (o := ⟨_, _, _, _, _, _⟩) rfl (fun K hK => ?_) AllReady.nil))
      · skip
        go_simp
        refine hK _ _ ?_
        clear hK K
        try simp only [Act.put, List.setIfInBounds_toArray, List.set_cons_zero, List.set_cons_succ]
        refine wpAny_ready (rs := [4]) (by kernel_rfl) (by simp) ?_
        refine (AllReady.cons (o := ⟨_, _, _, _, _, _⟩) rfl (fun K hK => ?_) AllReady.nil)
        go_simp
        refine hK _ _ ?_
        clear hK K
        try simp only [Act.put, List.setIfInBounds_toArray, List.set_cons_zero, List.set_cons_succ]
        have N6 := Lib.hid (below_one w5 (.cells #[.int .i64 (joinedO x.1.2 x.2.2).1.1, .int .i64 (joinedO x.1.2 x.2.2).1.2, .int .i64 (joinedO x.1.2 x.2.2).2.1, .slice B m' k'] 26))
        have K6 := Lib.hid (K5.out.trans (N6.out.mono K5.out.size))
        have Q6 := Lib.hid (OwnsR.below Q5.out N6.out)
        have X6 := Lib.hid (wbox_new w5 (joinedO x.1.2 x.2.2).1.1 (joinedO x.1.2 x.2.2).1.2 (joinedO x.1.2 x.2.2).2.1 (.slice B m' k'))
        have O6 := Lib.hid (OwnsR.below H3.out K6.out)
        clear cX
        have cX := one_cell (one_below H1.out K6.out)
        refine wpAny_ready (rs := [5]) (by kernel_rfl) (by simp) ?_
        refine (AllReady.cons (o := ⟨_, _, _, _, _, _⟩) rfl (fun K hK => ?_) AllReady.nil)
        refine step_pushW rfl (.tmp 19) (.tmp 23) rfl _ w.heap.size Av n c w5.heap.size qs (joinedO x.1.2 x.2.2).1.1 (joinedO x.1.2 x.2.2).1.2 (joinedO x.1.2 x.2.2).2.1 B m' k' H2.out rfl rfl O6.out X6.out hqn (Nat.le_trans (by omega) K6.out.size) ?_
        intro g cap' w7 p1 p2 p3 p4
        have E7 := Lib.hid (join_end (x := x) (pre := pre) (by omega) hs3 h8 hiC H1.out H2.out H3.out H4.out H5.out H6.out H7.out K6.out HR.out Q6.out p1 p2 p3)
        have X7 := Lib.hid (show One w7 X 27 (.slice Av n c) from (p2.block X (one_lt (one_below H1.out K6.out)) (fun e => H7.out e.symm)).trans (one_below H1.out K6.out))
        clear p1 p2 p3 p4 cX
        have cX := one_cell X7.out
        have fX := one_free X7.out
        refine hK _ _ ?_
        clear hK K
        try simp only [Act.put, List.setIfInBounds_toArray, List.set_cons_zero, List.set_cons_succ]
        refine wpAny_ready (rs := [6]) (by kernel_rfl) (by simp) ?_
        refine (AllReady.cons (o := ⟨_, _, _, _, _, _⟩) rfl (fun K hK => ?_) AllReady.nil)
        go_simp
        refine hK _ _ ?_
        clear hK K
        try simp only [Act.put, List.setIfInBounds_toArray, List.set_cons_zero, List.set_cons_succ]
        refine wpAny_done (by kernel_rfl) ?_ _
        exact E7.out
      · skip
        go_simp
        refine hK _ _ ?_
        clear hK K
        try simp only [Act.put, List.setIfInBounds_toArray, List.set_cons_zero, List.set_cons_succ]
        have N6 := Lib.hid (below_one w5 (.cells #[.int .i64 (joinedO x.1.2 x.2.2).1.1, .int .i64 (joinedO x.1.2 x.2.2).1.2, .int .i64 (joinedO x.1.2 x.2.2).2.1, .slice B m' k'] 26))
        have K6 := Lib.hid (K5.out.trans (N6.out.mono K5.out.size))
        have Q6 := Lib.hid (OwnsR.below Q5.out N6.out)
        have X6 := Lib.hid (wbox_new w5 (joinedO x.1.2 x.2.2).1.1 (joinedO x.1.2 x.2.2).1.2 (joinedO x.1.2 x.2.2).2.1 (.slice B m' k'))
        have O6 := Lib.hid (OwnsR.below H3.out K6.out)
        clear cX
        have cX := one_cell (one_below H1.out K6.out)
        refine wpAny_ready (rs := [0]) (by kernel_rfl) (by simp) ?_
        refine (AllReady.cons (o := ⟨_, _, _, _, _, _⟩) rfl (fun K hK => ?_) AllReady.nil)
        go_simp
        refine hK _ _ ?_
        clear hK K
        try simp only [Act.put, List.setIfInBounds_toArray, List.set_cons_zero, List.set_cons_succ]
        refine wpAny_ready (rs := [5]) (by kernel_rfl) (by simp) ?_
        refine (AllReady.cons (o := ⟨_, _, _, _, _, _⟩) rfl (fun K hK => ?_) AllReady.nil)
        refine step_pushW rfl (.tmp 19) (.tmp 23) rfl _ w.heap.size Av n c w5.heap.size qs (joinedO x.1.2 x.2.2).1.1 (joinedO x.1.2 x.2.2).1.2 (joinedO x.1.2 x.2.2).2.1 B m' k' H2.out rfl rfl O6.out X6.out hqn (Nat.le_trans (by omega) K6.out.size) ?_
        intro g cap' w7 p1 p2 p3 p4
        have E7 := Lib.hid (join_end (x := x) (pre := pre) (by omega) hs3 h8 hiC H1.out H2.out H3.out H4.out H5.out H6.out H7.out K6.out HR.out Q6.out p1 p2 p3)
        have X7 := Lib.hid (show One w7 X 27 (.slice Av n c) from (p2.block X (one_lt (one_below H1.out K6.out)) (fun e => H7.out e.symm)).trans (one_below H1.out K6.out))
        clear p1 p2 p3 p4 cX
        have cX := one_cell X7.out
        have fX := one_free X7.out
        refine hK _ _ ?_
        clear hK K
        try simp only [Act.put, List.setIfInBounds_toArray, List.set_cons_zero, List.set_cons_succ]
        refine wpAny_ready (rs := [6]) (by kernel_rfl) (by simp) ?_
        refine (AllReady.cons (o := ⟨_, _, _, _, _, _⟩) rfl (fun K hK => ?_) AllReady.nil)
        go_simp
        refine hK _ _ ?_
        clear hK K
        try simp only [Act.put, List.setIfInBounds_toArray, List.set_cons_zero, List.set_cons_succ]
        refine wpAny_done (by kernel_rfl) ?_ _
        exact E7.out
end Go.Proofs.Ytofanciaacdjfaa
