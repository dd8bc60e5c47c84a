/-
  Carried over and put together: contracts of this program's functions, and plain facts. No statement is proved in this text.
-/
import Derived.Test.YthkkipbmlafdiaaGreatOz
import Derived.Lib.SlKept
import Derived.BigRegion
import Derived.Test.YthkkipbmlafdiaaGreatN12
import Derived.Test.YthkkipbmlafdiaaGreatN22
set_option maxRecDepth 20000
namespace Go.Proofs.YthkkipbmlafdiaaGreat
open Go Go.RowKit Sets RowSets
attribute [local go_sem] Oper.semAt_some
set_option maxHeartbeats 8000000 in
theorem join_rows (vA vB : Value) (la lb : List Row) (w : World) (hA : RowsAt w vA la) (hB : RowsAt w vB lb) (ua : Up la) (ub : Up lb) (sa : Small la) (sb : Small lb) :
  Calls Tryz.prog 58 #[vA, vB] w fun e w' => ∃ v', e = .returned v' ∧ RowsAt w' v' (joinR la lb) ∧ Below w.heap.size w w' := by
 obtain ⟨qa, ha, ra⟩ := hA
 obtain ⟨qb, hb, rb⟩ := hB
 have HA := Lib.hid ha
 have HB := Lib.hid hb
 have hla := Lib.hid ra.len
 have hlb := Lib.hid rb.len
 have hqa : qa.length ≤ 1000 := by have := sa.1; have := hla.out; omega
 have hqb : qb.length ≤ 1000 := by have := sb.1; have := hlb.out; omega
 have hll := Lib.hid (show (join (ids la) (ids lb)).length ≤ 2000 by
  have h1 := len_join (ids la) (ids lb)
  have h2 : (ids la).length = la.length := by simp [ids]
  have h3 : (ids lb).length = lb.length := by simp [ids]
  have := sa.1
  have := sb.1
  omega)
 obtain ⟨A0, c0, rfl, hz⟩ := ha
 obtain ⟨A1, c1, rfl, hz2⟩ := hb
 clear hz hz2
 refine (callsIn_wide (n := 0)).1 ?_
 refine callsIn_of_wp_marks Tryz.func58 rfl trivial ?_
 simp only [Tryz.ntmps58, List.size_toArray, List.length_cons, List.length_nil, Nat.reduceAdd, Nat.reduceSub, Array.replicate_succ, Array.replicate_zero, List.push_toArray, List.append_toArray, List.nil_append, List.cons_append]
 gi_wp2_with (gi_at_make; refine wpListIn_make_spelled (enc := encW) 24 68 Tryz.underlying24 infoW (by omega) _ rfl (.tmp 12) rfl _ rfl (by omega) (by omega) ?_; intro cap w1 h1 h2; have O1 := Lib.hid h1; have B1 := Lib.hid h2; clear h1 h2)
 have X2 := Lib.hid (one_new w1 24 (.slice (some ⟨w.heap.size, 0, none⟩) 0 cap))
 have K2 := Lib.hid (below_one w1 (.cells #[.slice (some ⟨w.heap.size, 0, none⟩) 0 cap] 24))
 have hX0 : w.heap.size < w1.heap.size := (World.ownsRow.lt O1.out w.heap.size rfl).2
 have B2 := Lib.hid (B1.out.trans (K2.out.mono B1.out.size))
 have O2 := Lib.hid (O1.out.below K2.out)
 have hs2 : w1.heap.size < (w1.alloc (.cells #[.slice (some ⟨w.heap.size, 0, none⟩) 0 cap] 24)).heap.size := one_lt X2.out
 refine ⟨trivial, rfl, callsIn_wide.2 ((pairs_any A0 A1 qa.length qb.length c0 c1 _).mono ?_)⟩
 rintro e w3 ⟨rfl, hTA, hTB, hb⟩
 have X3 := Lib.hid (one_below X2.out hb)
 have O3 := Lib.hid (O2.out.below hb)
 have B3 := Lib.hid (below_after B2.out hb (Nat.le_refl _))
 have TA := Lib.hid hTA
 have TB := Lib.hid hTB
 have hs3 : w1.heap.size < w3.heap.size := Nat.lt_of_lt_of_le hs2 hb.size
 generalize (w1.alloc (.cells #[.slice (some ⟨w.heap.size, 0, none⟩) 0 cap] 24)).heap.size = tA at *
 clear hTA hTB hb X2 K2 O2 O1 B1 B2 hs2
 generalize w1.heap.size = X at *
 gi_wp2
 refine wp_each (P := Tryz.prog) (gf := 162) (lb := #[.pointer (some ⟨tA, 0, none⟩), .pointer (some ⟨tA + 1, 0, none⟩)]) rfl (enters_fn Tryz.func162 (by kernel_rfl) rfl)
  (pairs_seq tA (tA + 1) (join (ids la) (ids lb)).length _ _ qa qb la lb w w3 B3.out TA.out TB.out HA.out HB.out ra rb ua ub sa sb (Nat.le_refl _)) (fun _ => rfl) B3.out.size (JoinI X w3.heap.size w.heap.size) ?start (fun hi pre A B h hg => h.loop hs3 hg) ?round ?done
 case start =>
  intro hi W hhi hb
  refine ⟨some ⟨w.heap.size, 0, none⟩, 0, cap, [], one_below X3.out hb, rfl, O3.out.below hb, trivial, fun g hg => ?_, fun q hq => absurd hq (by simp), fun h => ?_, hhi⟩
  ·injection hg with hg
   left
   rw [← hg]
   show w.heap.size < w3.heap.size
   omega
  ·injection h with h
   have : w.heap.size = X := h
   omega
 case done =>
  intro hi xs W hS hI hb hD
  obtain ⟨Av, n, c, qs, hX, hn, hO, hE, _⟩ := hI
  have hj : joinedRows xs = joinR la lb := by
   rw [← joinR_pairs ua ub, ← hS]
   unfold joinedRows optsP
   rw [List.map_map]
   rfl
  rw [hj] at hE
  have cX := one_cell hX
  have HO := Lib.hid hO
  have HE := Lib.hid hE.reads
  have HBW := Lib.hid (B3.out.trans hb)
  clear hX hO hE hS hj
  gi_wp2
  refine ⟨by simp, .inl ⟨_, _, rfl, run_takeDeferred hD, ?_⟩⟩
  refine ⟨_, results_tmp rfl _ _ _, _, rfl, RowsAt.cells ⟨qs, rcs_owns encW_len HO.out, HE.out⟩ (cells_deferred hD (grownBy_putObj' _ _ _)), ?_⟩
  exact HBW.out.grown (grownBy_putObj' _ _ _) HBW.out.size fun k hk => by injection hk with hk; rw [← hk]; exact B3.out.size
 case round =>
  intro hi pre x A hhi hA hI hPr hN ⟨r, hl⟩
  have e : ∀ t : Array Value, ((#[17, 18] : Array Tmp).zip (encP x)).foldl (fun t (p, v) => t.setIfInBounds p v) t = (t.setIfInBounds 17 (.pointer x.1.1)).setIfInBounds 18 (.pointer x.2.1) := fun t => by simp [encP]
  rw [e]
  simp only [List.setIfInBounds_toArray, List.set_cons_zero, List.set_cons_succ]
  clear e
  gi_wp2
  refine ⟨⟨Below.refl _ _, Span.refl _ _ _, rfl⟩, trivial, fun C hC => ?_⟩
  have hI2 := hI.loop hs3 hC
  have hcc := cells_loop hl hC
  obtain ⟨Av, n, c, qs, h1, h2, h3, h4, h5, h6, h7, h8⟩ := hI2
  have H1 := Lib.hid h1
  have H2 := Lib.hid h2
  have H3 := Lib.hid h3
  have H4 := Lib.hid h4
  have H5 := Lib.hid h5
  have H6 := Lib.hid h6
  have H7 := Lib.hid h7
  have hiC : hi ≤ C.heap.size := Nat.le_trans hA hC.size
  have hqn : qs.length ≤ 50000 := by
   have e1 := h4.len
   have e2 : (joinedRows pre).length = pre.length := by simp [joinedRows]
   have := hll.out
   omega
  have HC := Lib.hid fun W (hb : Below C.heap.size C W) => joined_any x.1.1 x.2.1 x.1.2 x.2.2 W ((hPr.1.cells hcc).below hb) ((hPr.2.1.cells hcc).below hb) hPr.2.2.1 hPr.2.2.2.1 hPr.2.2.2.2
  have HR : Hid (joinedO x.1.2 x.2.2 = (((joinedO x.1.2 x.2.2).1.1, (joinedO x.1.2 x.2.2).1.2), (joinedO x.1.2 x.2.2).2.1, (joinedO x.1.2 x.2.2).2.2)) := Lib.hid rfl
  have hxs : w.heap.size < X := hX0
  clear h1 h2 h3 h4 h5 h6 h7 hI hPr hl hcc
  refine wpIn_block ?_
  refine wpIn_region_of_any (by kernel_rfl) (fun ⟨a, w, h⟩ => h) (no_defer (by kernel_rfl)) ?_
  have cX : C.drew.cell? ⟨X, 0, none⟩ = some (.slice Av n c) := one_cell (show One C.drew X 24 _ from H1.out)
  (refine wpAny_take (i := 1) (oi := ⟨_, _, _, _, _, _⟩) (v := ?_) rfl (by kernel_rfl) (by kernel_rfl) (by kernel_rfl) (fun _ _ _ h => h) (Or.inl ⟨by rfl, ?_⟩) ?_; rotate_left 1; · (intro w; go_simp; all_goals with_reducible rfl))
  try simp only [Act.put, si0, si1, si2]
  (refine wpAny_take (i := 2) (oi := ⟨_, _, _, _, _, _⟩) (v := ?_) rfl (by kernel_rfl) (by kernel_rfl) (by kernel_rfl) (fun _ _ _ h => h) (Or.inl ⟨by rfl, ?_⟩) ?_; rotate_left 1; · (intro w; go_simp; all_goals with_reducible rfl))
  try simp only [Act.put, si0, si1, si2]
  refine wpAny_ready (rs := [0, 3]) (by kernel_rfl) (by simp) ?_
  refine (AllReady.cons (o := ⟨_, _, _, _, _, _⟩) rfl (fun K hK => ?_) (AllReady.cons (o := ⟨_, _, _, _, _, _⟩) rfl (fun K hK => ?_) AllReady.nil))
  ·skip
   go_simp
   refine hK _ _ ?_
   clear hK K
   try simp only [Act.put, si0, si1, si2]
   refine wpAny_ready (rs := [3]) (by kernel_rfl) (by simp) ?_
   refine (AllReady.cons (o := ⟨_, _, _, _, _, _⟩) rfl (fun K hK => ?_) AllReady.nil)
   go_simp
   go_at_call 126
   (with_reducible refine (HC.out _ (Below.refl _ _).drew).mono ?_)
   rintro e w5 ⟨B, m', k', rfl, ho, hb⟩
   have K5 := Lib.hid (show Below C.heap.size C w5 from (Below.refl _ _).drew.trans hb)
   have Q5 := Lib.hid (show OwnsI w5 C.heap.size (.slice B m' k') (joinedO x.1.2 x.2.2).2.2 from ho)
   clear ho hb cX
   have cX : w5.cell? ⟨X, 0, none⟩ = some (.slice Av n c) := one_cell (one_below H1.out K5.out)
   refine hK _ _ ?_
   clear hK K
   try simp only [Act.put, si0, si1, si2]
   refine wpAny_ready (rs := [4]) (by kernel_rfl) (by simp) ?_
   refine (AllReady.cons (o := ⟨_, _, _, _, _, _⟩) rfl (fun K hK => ?_) AllReady.nil)
   go_simp
   refine hK _ _ ?_
   clear hK K
   try simp only [Act.put, si0, si1, si2]
   have N6 := Lib.hid (below_one w5 (.cells #[.int .i64 (joinedO x.1.2 x.2.2).1.1, .int .i64 (joinedO x.1.2 x.2.2).1.2, .int .i64 (joinedO x.1.2 x.2.2).2.1, .slice B m' k'] 68))
   have K6 := Lib.hid (K5.out.trans (N6.out.mono K5.out.size))
   have Q6 := Lib.hid (OwnsR.below Q5.out N6.out)
   have X6 := Lib.hid (wbox_new w5 (joinedO x.1.2 x.2.2).1.1 (joinedO x.1.2 x.2.2).1.2 (joinedO x.1.2 x.2.2).2.1 (.slice B m' k'))
   have O6 := Lib.hid (OwnsR.below H3.out K6.out)
   clear cX
   have cX := one_cell (one_below H1.out K6.out)
   refine wpAny_ready (rs := [5]) (by kernel_rfl) (by simp) ?_
   refine (AllReady.cons (o := ⟨_, _, _, _, _, _⟩) rfl (fun K hK => ?_) AllReady.nil)
   refine step_pushW rfl (.tmp 19) (.tmp 23) rfl _ w.heap.size Av n c w5.heap.size qs (joinedO x.1.2 x.2.2).1.1 (joinedO x.1.2 x.2.2).1.2 (joinedO x.1.2 x.2.2).2.1 B m' k' H2.out rfl rfl O6.out X6.out hqn (Nat.le_trans (by omega) K6.out.size) ?_
   intro g cap' w7 p1 p2 p3 p4
   have E7 := Lib.hid (join_end (x := x) (pre := pre) (by omega) hs3 h8 hiC H1.out H2.out H3.out H4.out H5.out H6.out H7.out K6.out HR.out Q6.out p1 p2 p3)
   have X7 := Lib.hid (show One w7 X 24 (.slice Av n c) from (p2.block X (one_lt (one_below H1.out K6.out)) (fun e => H7.out e.symm)).trans (one_below H1.out K6.out))
   clear p1 p2 p3 p4 cX
   have cX := one_cell X7.out
   have fX := one_free X7.out
   refine hK _ _ ?_
   clear hK K
   try simp only [Act.put, si0, si1, si2]
   refine wpAny_ready (rs := [6]) (by kernel_rfl) (by simp) ?_
   refine (AllReady.cons (o := ⟨_, _, _, _, _, _⟩) rfl (fun K hK => ?_) AllReady.nil)
   go_simp
   refine hK _ _ ?_
   clear hK K
   try simp only [Act.put, si0, si1, si2]
   refine wpAny_done (by kernel_rfl) ?_ _
   exact E7.out
  ·skip
   go_simp
   go_at_call 126
   (with_reducible refine (HC.out _ (Below.refl _ _).drew).mono ?_)
   rintro e w5 ⟨B, m', k', rfl, ho, hb⟩
   have K5 := Lib.hid (show Below C.heap.size C w5 from (Below.refl _ _).drew.trans hb)
   have Q5 := Lib.hid (show OwnsI w5 C.heap.size (.slice B m' k') (joinedO x.1.2 x.2.2).2.2 from ho)
   clear ho hb cX
   have cX : w5.cell? ⟨X, 0, none⟩ = some (.slice Av n c) := one_cell (one_below H1.out K5.out)
   refine hK _ _ ?_
   clear hK K
   try simp only [Act.put, si0, si1, si2]
   refine wpAny_ready (rs := [0, 4]) (by kernel_rfl) (by simp) ?_
   refine (AllReady.cons (o := ⟨_, _, _, _, _, _⟩) rfl (fun K hK => ?_) (AllReady.cons (o := ⟨_, _, _, _, _, _⟩) rfl (fun K hK => ?_) AllReady.nil))
   ·skip
    go_simp
    refine hK _ _ ?_
    clear hK K
    try simp only [Act.put, si0, si1, si2]
    refine wpAny_ready (rs := [4]) (by kernel_rfl) (by simp) ?_
    refine (AllReady.cons (o := ⟨_, _, _, _, _, _⟩) rfl (fun K hK => ?_) AllReady.nil)
    go_simp
    refine hK _ _ ?_
    clear hK K
    try simp only [Act.put, si0, si1, si2]
    have N6 := Lib.hid (below_one w5 (.cells #[.int .i64 (joinedO x.1.2 x.2.2).1.1, .int .i64 (joinedO x.1.2 x.2.2).1.2, .int .i64 (joinedO x.1.2 x.2.2).2.1, .slice B m' k'] 68))
    have K6 := Lib.hid (K5.out.trans (N6.out.mono K5.out.size))
    have Q6 := Lib.hid (OwnsR.below Q5.out N6.out)
    have X6 := Lib.hid (wbox_new w5 (joinedO x.1.2 x.2.2).1.1 (joinedO x.1.2 x.2.2).1.2 (joinedO x.1.2 x.2.2).2.1 (.slice B m' k'))
    have O6 := Lib.hid (OwnsR.below H3.out K6.out)
    clear cX
    have cX := one_cell (one_below H1.out K6.out)
    refine wpAny_ready (rs := [5]) (by kernel_rfl) (by simp) ?_
    refine (AllReady.cons (o := ⟨_, _, _, _, _, _⟩) rfl (fun K hK => ?_) AllReady.nil)
    refine step_pushW rfl (.tmp 19) (.tmp 23) rfl _ w.heap.size Av n c w5.heap.size qs (joinedO x.1.2 x.2.2).1.1 (joinedO x.1.2 x.2.2).1.2 (joinedO x.1.2 x.2.2).2.1 B m' k' H2.out rfl rfl O6.out X6.out hqn (Nat.le_trans (by omega) K6.out.size) ?_
    intro g cap' w7 p1 p2 p3 p4
    have E7 := Lib.hid (join_end (x := x) (pre := pre) (by omega) hs3 h8 hiC H1.out H2.out H3.out H4.out H5.out H6.out H7.out K6.out HR.out Q6.out p1 p2 p3)
    have X7 := Lib.hid (show One w7 X 24 (.slice Av n c) from (p2.block X (one_lt (one_below H1.out K6.out)) (fun e => H7.out e.symm)).trans (one_below H1.out K6.out))
    clear p1 p2 p3 p4 cX
    have cX := one_cell X7.out
    have fX := one_free X7.out
    refine hK _ _ ?_
    clear hK K
    try simp only [Act.put, si0, si1, si2]
    refine wpAny_ready (rs := [6]) (by kernel_rfl) (by simp) ?_
    refine (AllReady.cons (o := ⟨_, _, _, _, _, _⟩) rfl (fun K hK => ?_) AllReady.nil)
    go_simp
    refine hK _ _ ?_
    clear hK K
    try simp only [Act.put, si0, si1, si2]
    refine wpAny_done (by kernel_rfl) ?_ _
    exact E7.out
   ·skip
    go_simp
    refine hK _ _ ?_
    clear hK K
    try simp only [Act.put, si0, si1, si2]
    have N6 := Lib.hid (below_one w5 (.cells #[.int .i64 (joinedO x.1.2 x.2.2).1.1, .int .i64 (joinedO x.1.2 x.2.2).1.2, .int .i64 (joinedO x.1.2 x.2.2).2.1, .slice B m' k'] 68))
    have K6 := Lib.hid (K5.out.trans (N6.out.mono K5.out.size))
    have Q6 := Lib.hid (OwnsR.below Q5.out N6.out)
    have X6 := Lib.hid (wbox_new w5 (joinedO x.1.2 x.2.2).1.1 (joinedO x.1.2 x.2.2).1.2 (joinedO x.1.2 x.2.2).2.1 (.slice B m' k'))
    have O6 := Lib.hid (OwnsR.below H3.out K6.out)
    clear cX
    have cX := one_cell (one_below H1.out K6.out)
    refine wpAny_ready (rs := [0]) (by kernel_rfl) (by simp) ?_
    refine (AllReady.cons (o := ⟨_, _, _, _, _, _⟩) rfl (fun K hK => ?_) AllReady.nil)
    go_simp
    refine hK _ _ ?_
    clear hK K
    try simp only [Act.put, si0, si1, si2]
    refine wpAny_ready (rs := [5]) (by kernel_rfl) (by simp) ?_
    refine (AllReady.cons (o := ⟨_, _, _, _, _, _⟩) rfl (fun K hK => ?_) AllReady.nil)
    refine step_pushW rfl (.tmp 19) (.tmp 23) rfl _ w.heap.size Av n c w5.heap.size qs (joinedO x.1.2 x.2.2).1.1 (joinedO x.1.2 x.2.2).1.2 (joinedO x.1.2 x.2.2).2.1 B m' k' H2.out rfl rfl O6.out X6.out hqn (Nat.le_trans (by omega) K6.out.size) ?_
    intro g cap' w7 p1 p2 p3 p4
    have E7 := Lib.hid (join_end (x := x) (pre := pre) (by omega) hs3 h8 hiC H1.out H2.out H3.out H4.out H5.out H6.out H7.out K6.out HR.out Q6.out p1 p2 p3)
    have X7 := Lib.hid (show One w7 X 24 (.slice Av n c) from (p2.block X (one_lt (one_below H1.out K6.out)) (fun e => H7.out e.symm)).trans (one_below H1.out K6.out))
    clear p1 p2 p3 p4 cX
    have cX := one_cell X7.out
    have fX := one_free X7.out
    refine hK _ _ ?_
    clear hK K
    try simp only [Act.put, si0, si1, si2]
    refine wpAny_ready (rs := [6]) (by kernel_rfl) (by simp) ?_
    refine (AllReady.cons (o := ⟨_, _, _, _, _, _⟩) rfl (fun K hK => ?_) AllReady.nil)
    go_simp
    refine hK _ _ ?_
    clear hK K
    try simp only [Act.put, si0, si1, si2]
    refine wpAny_done (by kernel_rfl) ?_ _
    exact E7.out
end Go.Proofs.YthkkipbmlafdiaaGreat
namespace Go.Proofs.YthkkipbmlafdiaaGreat
open Go.RowKit Sets Clocks
theorem RowAt.at_ {w w' : World} {g : Nat} {d : Array Tick} (h : RowAt w g d) (hb : Below w.heap.size w w') {k : Nat} (hk : k < d.size) :
  (w'.cell? ⟨g, k * 3, none⟩ = some (.int .i64 d[k]!.1.1) ∧ w'.cell? ⟨g, k * 3 + 1, none⟩ = some (.int .i64 d[k]!.1.2) ∧ w'.cell? ⟨g, k * 3 + 2, none⟩ = some (.int .i64 d[k]!.2)) ∧
  (w'.frozen? ⟨g, k * 3, none⟩ = false ∧ w'.frozen? ⟨g, k * 3 + 1, none⟩ = false ∧ w'.frozen? ⟨g, k * 3 + 2, none⟩ = false) := (rowAt_kept h hb).2 k hk
def keepNCLK (d : Array Tick) (j : Nat) : Bool := !decide (d[j]!.2 ≤ 0)
theorem keepN_all (d : Array Tick) : Go.Lib.keptUpTo (keepNCLK d) d d.size = d.toList.filter fun t => !decide (t.2 ≤ 0) := Go.Lib.keptUpTo_filter (fun t : Tick => !decide (t.2 ≤ 0)) d
theorem kept_frontCLK {kp : Nat → Bool} {d dk : Array Tick} {k : Nat} (h : Go.Lib.KeptInv kp d d.size k dk) : (dk.extract 0 k).toList = Go.Lib.keptUpTo kp d d.size := by
 have hk := h.lt
 have hs := h.size
 apply List.ext_getElem?
 intro j
 by_cases c : j < k
 ·rw [h.low j c]
  have h1 : j < (dk.extract 0 k).size := by simp; omega
  rw [Array.getElem?_toList, Array.getElem?_eq_getElem h1, getElem!_pos dk j (by omega)]
  simp
 ·rw [List.getElem?_eq_none (by simp; omega), List.getElem?_eq_none (by rw [h.len]; omega)]
set_option maxHeartbeats 4000000 in
theorem delete_any (g c : Nat) (d : Array Tick) (w : World) (h : RowAt w g d) (hc : d.size ≤ c) (hl : d.size ≤ 100000) (h0 : 0 < d.size) :
  Calls Tryz.prog 176 #[.slice (some ⟨g, 0, none⟩) d.size c, .func (.func 178) #[] #[]] w fun e w' => ∃ d' : Array Tick, e = .returned (.slice (some ⟨g, 0, none⟩) d'.size c) ∧ (d'.toList = d.toList.filter fun t => !decide (t.2 ≤ 0)) ∧ RowAt w' g d' ∧ w.grownBy w' (some g) := by
 have HR := Lib.hid h
 have HI := Lib.hid (rowAt_rcs h hc)
 have HA := Lib.hid (keepN_all d)
 clear h
 go_enter Tryz.func176, Tryz.ntmps176
 go_wp2_with fail
 (with_reducible refine (index_anyCLK _ d _ HI.out hl).mono ?_)
 rintro e w1 ⟨⟨r, rfl, hf⟩, hb⟩
 have HB := Lib.hid hb
 have R1 := Lib.hid (rowAt_kept HR.out hb)
 clear hb
 rcases hf with ⟨rfl, hall⟩ | ⟨k0, rfl, hk0, hz, hbef⟩
 ·have HF := Lib.hid (show d.toList = d.toList.filter fun t => !decide (t.2 ≤ 0) by
   rw [← HA.out, Go.Lib.keptUpTo_all (keepNCLK d) d d.size (fun j hj => by have := hall j hj; simp [keepNCLK]; omega), Go.Lib.range_map_get])
  clear hall
  go_wp2_with fail
  go_ret
  exact ⟨d, rfl, HF.out, R1.out, grown_below (World.grownBy.refl _ _) HB.out⟩
 ·have hne1 : ((k0 : Int) == -1) = false := beq_eq_false_iff_ne.2 (by omega)
  have HS := Lib.hid (Go.Lib.KeptInv.start (kp := keepNCLK d) (d := d) (k0 := k0) (fun j hj => by have := hbef j hj; simp [keepNCLK]; omega) (by simp [keepNCLK]; omega))
  have HG := Lib.hid (show w.grownBy w1 (some g) from grown_below (World.grownBy.refl _ _) HB.out)
  have i0 : IntKind.i64.wrap ((k0 : Int) + 1) = (k0 : Int) + 1 := IntWalk.i64_in _ ⟨by omega, by omega⟩
  clear hbef hz
  go_wp2_with fail
  go_loopw [5, 6] (fun s5 s6 wr => ∃ (i j : Nat) (dk : Array Tick), s5 = .int .i64 i ∧ s6 = .int .i64 j ∧ j ≤ d.size ∧ Hid (Go.Lib.KeptInv (keepNCLK d) d j i dk) ∧ Hid (RowAt wr g dk) ∧ Hid (w.grownBy wr (some g))) (fun _ s6 _ => d.size - (intOf s6).toNat)
  case atStart => exact ⟨k0, k0 + 1, d, rfl, by go_num, by omega, HS, R1, HG⟩
  case round =>
   obtain ⟨i, j, dk, rfl, rfl, hjd, HK, H2, H3⟩ := hrel
   have hij := HK.out.lt
   have hds := HK.out.size
   have p1 : (0 : Int) ≤ (j : Int) := by omega
   have p2 : (0 : Int) ≤ (i : Int) := by omega
   by_cases hlt : j < d.size
   ·have hd : decide ((j : Int) < (d.size : Int)) = true := by simp; omega
    have p3 : (j : Int) < (d.size : Int) := by omega
    have p4 : (i : Int) < (d.size : Int) := by omega
    have hT := (H2.out.at_ (Below.refl _ _) (show j < dk.size by omega)).1
    rw [HK.out.high j (by omega)] at hT
    have HC := Lib.hid fun W => zeroN_any d[j]!.1.1 d[j]!.1.2 d[j]!.2 W
    by_cases hn : d[j]!.2 ≤ 0
    ·have HKK := Lib.hid (HK.out.skip (by simp [keepNCLK, hn]))
     have hv : decide (d[j]!.2 ≤ 0) = true := decide_eq_true hn
     rw [hv] at HC
     clear hv hn
     generalize d[j]!.1.1 = a at *
     generalize d[j]!.1.2 = b at *
     generalize d[j]!.2 = n at *
     obtain ⟨c1, c2, c3⟩ := hT
     go_wp2_with fail
     (with_reducible refine (HC.out _).mono ?_)
     rintro e w2 ⟨rfl, hb⟩
     have B2 := Lib.hid (below_boxed (Below.refl _ _) hb (Nat.le_refl _))
     have R2 := Lib.hid (rowAt_kept H2.out B2.out)
     have G2 := Lib.hid (grown_below H3.out B2.out)
     clear hb c1 c2 c3
     go_wp2_with fail
     go_roundw
     case rel => exact ⟨i, j + 1, dk, rfl, by go_num, by omega, HKK, R2, G2⟩
     case measure => simp [intOf]; omega
    ·have HKK := Lib.hid (HK.out.keep hlt (by simp [keepNCLK]; omega))
     have hv : decide (d[j]!.2 ≤ 0) = false := decide_eq_false hn
     rw [hv] at HC
     have HE := Lib.hid (show d[j]! = ((d[j]!.1.1, d[j]!.1.2), d[j]!.2) from rfl)
     rw [HE.out] at HKK
     clear hv hn
     have HX := Lib.hid (tbox_new wr d[j]!.1.1 d[j]!.1.2 d[j]!.2)
     generalize d[j]!.1.1 = a at *
     generalize d[j]!.1.2 = b at *
     generalize d[j]!.2 = n at *
     obtain ⟨c1, c2, c3⟩ := hT
     go_wp2_with fail
     (with_reducible refine (HC.out _).mono ?_)
     rintro e w2 ⟨rfl, hb⟩
     have B2 := Lib.hid (below_boxed (Below.refl _ _) hb (Nat.le_refl _))
     have R2 := Lib.hid (rowAt_kept H2.out B2.out)
     have G2 := Lib.hid (grown_below H3.out B2.out)
     have X2 := Lib.hid (tbox_below HX.out hb)
     clear hb c1 c2 c3
     obtain ⟨x1, x2, x3⟩ := tbox_cells X2.out
     obtain ⟨⟨c1, c2, c3⟩, f1, f2, f3⟩ := R2.out.2 i (by omega)
     have R3 := Lib.hid (rowAt_set R2.out (show i < dk.size by omega) ((a, b), n))
     have G3 := Lib.hid (grown_three G2.out (i * 3) (i * 3 + 1) (i * 3 + 2) (.int .i64 a) (.int .i64 b) (.int .i64 n))
     go_wp2_with fail
     go_roundw
     case rel => exact ⟨i + 1, j + 1, _, by go_num, by go_num, by omega, HKK, R3, G3⟩
     case measure => simp [intOf]; omega
   ·obtain rfl : j = d.size := by omega
    have hd : decide ((d.size : Int) < (d.size : Int)) = false := by simp
    obtain ⟨vs, hcl⟩ := run_clear_rows H2.out (show i < dk.size by omega) (c - i) 0
    have R3 := Lib.hid (rowAt_front H2.out (show i ≤ dk.size by omega) vs)
    have G3 := Lib.hid (grown_setCells H3.out (i * 3) vs)
    have HF := Lib.hid (kept_frontCLK HK.out)
    have hci : ¬ c = i := by omega
    have p5 : (i : Int) ≤ (d.size : Int) := by omega
    rw [hds] at hcl
    go_wp2_with fail
    go_ret
    exact ⟨dk.extract 0 i, by simp; omega, HF.out.trans HA.out, R3.out, G3.out⟩
end Go.Proofs.YthkkipbmlafdiaaGreat
namespace Go.Proofs.YthkkipbmlafdiaaGreat
open Go.RowKit Sets Clocks
def keepI (d : Array Tick) : Nat → Bool
 | 0 => true
 | j + 1 => !decide (d[j + 1]!.1 = d[j]!.1)
def lastI : Option Id2 → List Tick → Option Id2
 | p, [] => p
 | _, s :: l => lastI (some s.1) l
theorem lastI_snoc (t : Tick) : ∀ (l : List Tick) (p : Option Id2), lastI p (l ++ [t]) = some t.1
 | [], _ => rfl
 | s :: l, _ => lastI_snoc t l (some s.1)
theorem cpt_snoc (t : Tick) : ∀ (l : List Tick) (p : Option Id2), cpt p (l ++ [t]) = cpt p l ++ (if lastI p l = some t.1 then [] else [t])
 | [], p => by
  by_cases e : p = some t.1 <;> simp [cpt, lastI, e]
 | s :: l, p => by
  rw [List.cons_append, cpt, cpt, lastI]
  by_cases e : p = some s.1
  ·rw [if_pos e, if_pos e, cpt_snoc t l p, e]
  ·rw [if_neg e, if_neg e, cpt_snoc t l (some s.1), List.cons_append]
theorem keepI_upTo (d : Array Tick) : ∀ m, m ≤ d.size → Go.Lib.keptUpTo (keepI d) d m = cpt none (d.toList.take m)
 | 0, _ => by simp [Go.Lib.keptUpTo, cpt]
 | m + 1, h => by
  have hm : m < d.toList.length := by simp; omega
  have hg : d.toList[m] = d[m]! := by rw [getElem!_pos d m (by omega)]; simp
  rw [Go.Lib.keptUpTo_succ, keepI_upTo d m (by omega), List.take_succ_eq_append_getElem hm, cpt_snoc, hg]
  congr 1
  cases m with
  | zero => simp [keepI, lastI]
  | succ j =>
   have hj : j < d.toList.length := by omega
   have hgj : d.toList[j] = d[j]! := by rw [getElem!_pos d j (by omega)]; simp
   rw [List.take_succ_eq_append_getElem hj, lastI_snoc, hgj, keepI]
   by_cases e : d[j + 1]!.1 = d[j]!.1
   ·simp [e]
   ·have e2 : ¬ d[j]!.1 = d[j + 1]!.1 := fun h => e h.symm
    simp [e, e2]
theorem keepI_all (d : Array Tick) : Go.Lib.keptUpTo (keepI d) d d.size = cpt none d.toList := by
 rw [keepI_upTo d d.size (Nat.le_refl _), List.take_of_length_le (by simp)]
theorem cpt_short {d : Array Tick} (h : d.size < 2) : cpt none d.toList = d.toList := by
 rw [← keepI_all, Go.Lib.keptUpTo_all (keepI d) d d.size (fun j hj => by
  obtain rfl : j = 0 := by omega
  rfl), Go.Lib.range_map_get]
set_option maxHeartbeats 4000000 in
theorem compact_any (g c : Nat) (d : Array Tick) (w : World) (h : RowAt w g d) (hc : d.size ≤ c) (hl : d.size ≤ 100000) :
  Calls Tryz.prog 183 #[.slice (some ⟨g, 0, none⟩) d.size c, .func (.func 184) #[] #[]] w fun e w' => ∃ d' : Array Tick, e = .returned (.slice (some ⟨g, 0, none⟩) d'.size c) ∧ d'.toList = cpt none d.toList ∧ RowAt w' g d' ∧ w.grownBy w' (some g) := by
 have HR := Lib.hid h
 have HA := Lib.hid (keepI_all d)
 clear h
 by_cases h2 : d.size < 2
 ·have hd : decide ((d.size : Int) < 2) = true := by simp; omega
  have HF := Lib.hid (cpt_short h2)
  go_enter Tryz.func183, Tryz.ntmps183
  go_wp2_with fail
  go_ret
  exact ⟨d, rfl, HF.out.symm, HR.out, World.grownBy.refl _ _⟩
 ·have hd0 : decide ((d.size : Int) < 2) = false := by simp; omega
  go_enter Tryz.func183, Tryz.ntmps183
  go_wp2_with fail
  go_loopw [5] (fun s5 wr => ∃ k : Nat, s5 = .int .i64 k ∧ 1 ≤ k ∧ k ≤ d.size ∧ Hid (∀ j, j < k → keepI d j = true) ∧ Hid (Below w.heap.size w wr)) (fun s5 _ => d.size - (intOf s5).toNat)
  case atStart => exact ⟨1, rfl, by omega, by omega, Lib.hid fun j hj => by obtain rfl : j = 0 := (by omega); rfl, Lib.hid (Below.refl _ _)⟩
  case round =>
   obtain ⟨k, rfl, hk1, hkl, HT, HW⟩ := hrel
   obtain ⟨q, rfl⟩ : ∃ q, k = q + 1 := ⟨k - 1, by omega⟩
   by_cases hlt : q + 1 < d.size
   ·have hd : decide (((q : Int) + 1) < (d.size : Int)) = true := by simp; omega
    have i1 : IntKind.i64.wrap ((q : Int) + 1 - 1) = (q : Int) := by rw [IntWalk.i64_in _ ⟨by omega, by omega⟩]; omega
    have i2 : IntKind.i64.wrap (q : Int) = (q : Int) := IntWalk.i64_in _ ⟨by omega, by omega⟩
    have i3 : (0 : Int) ≤ (q : Int) := by omega
    have i4 : (q : Int) < (d.size : Int) := by omega
    have i5 : (0 : Int) ≤ (q : Int) + 1 := by omega
    have i6 : (q : Int) + 1 < (d.size : Int) := by omega
    have i7 : ((q : Int) + 1).toNat = q + 1 := by omega
    have HS := Lib.hid fun w' (hb : Below w.heap.size w w') => And.intro (HR.out.at_ hb hlt).1 (And.intro (HR.out.at_ hb (show q < d.size by omega)).1 (Lib.hid hb))
    have HC := Lib.hid fun W => sameI_anyCLK d[q + 1]!.1.1 d[q + 1]!.1.2 d[q + 1]!.2 d[q]!.1.1 d[q]!.1.2 d[q]!.2 W
    by_cases he : d[q + 1]!.1 = d[q]!.1
    ·have hv : decide ((d[q + 1]!.1.1, d[q + 1]!.1.2) = (d[q]!.1.1, d[q]!.1.2)) = true := decide_eq_true he
     rw [hv] at HC
     have HK0 := Lib.hid (Go.Lib.KeptInv.start (kp := keepI d) (d := d) (k0 := q + 1) HT.out (by simp [keepI, he]))
     clear hv he
     generalize d[q + 1]!.1.1 = a1 at *
     generalize d[q + 1]!.1.2 = b1 at *
     generalize d[q + 1]!.2 = n1 at *
     generalize d[q]!.1.1 = a0 at *
     generalize d[q]!.1.2 = b0 at *
     generalize d[q]!.2 = n0 at *
     have hck : ¬ c = q + 1 := by omega
     have hle : ((q : Int) + 1) ≤ (d.size : Int) := by omega
     go_wp2_with fail
     go_region_held3 (fun w' => (w'.cell? ⟨g, (q + 1) * 3, none⟩ = some (.int .i64 a1) ∧ w'.cell? ⟨g, (q + 1) * 3 + 1, none⟩ = some (.int .i64 b1) ∧ w'.cell? ⟨g, (q + 1) * 3 + 2, none⟩ = some (.int .i64 n1)) ∧ (w'.cell? ⟨g, q * 3, none⟩ = some (.int .i64 a0) ∧ w'.cell? ⟨g, q * 3 + 1, none⟩ = some (.int .i64 b0) ∧ w'.cell? ⟨g, q * 3 + 2, none⟩ = some (.int .i64 n0)) ∧ Hid (Below w.heap.size w w'))
      (first | exact HS.out _ HW.out.drew | exact HS.out _ HK.out)
      (first | (go_at_call 184; (with_reducible refine (HC.out _).mono ?_); rintro e w' ⟨rfl, hb⟩; have HK := Lib.hid (below_after (Hid.out (by go_split_ands; assumption)) hb (Nat.le_refl _)); clear hb))
     go_wp2_with fail
     have HB := Lib.hid (Hid.out (by assumption : Hid (Below w.heap.size w w')))
     have R1 := Lib.hid (rowAt_kept HR.out HB.out)
     have G1 := Lib.hid (grown_below (World.grownBy.refl w (some g)) HB.out)
     clear HK HS HC HW HT
     obtain ⟨N, hN⟩ : ∃ N, d.size - (q + 1) = N := ⟨_, rfl⟩
     obtain ⟨O, hO⟩ : ∃ O, (q + 1) * 3 = O := ⟨_, rfl⟩
     rw [hN, hO]
     go_loopw [5, 7] (fun s5 s7 wr => ∃ (k r : Nat) (dk : Array Tick), s5 = .int .i64 k ∧ s7 = .int .i64 ((r : Int) + 1) ∧ r + 1 ≤ N ∧ Hid (Go.Lib.KeptInv (keepI d) d (q + 1 + (r + 1)) k dk) ∧ Hid (RowAt wr g dk) ∧ Hid (w.grownBy wr (some g))) (fun _ s7 _ => N - (intOf s7).toNat)
     case atStart => exact ⟨q + 1, 0, d, by go_num, rfl, by omega, HK0, R1, G1⟩
     case round =>
      obtain ⟨k, r, dk, rfl, rfl, hrN, HK, H2, H3⟩ := hrel
      have hij := HK.out.lt
      have hds := HK.out.size
      have p1 : (0 : Int) ≤ (k : Int) := by omega
      have j1 : IntKind.i64.wrap ((r : Int) + 1 - 1) = (r : Int) := by rw [IntWalk.i64_in _ ⟨by omega, by omega⟩]; omega
      have j2 : IntKind.i64.wrap (r : Int) = (r : Int) := IntWalk.i64_in _ ⟨by omega, by omega⟩
      have j3 : (0 : Int) ≤ (r : Int) := by omega
      have j4 : (r : Int) < (N : Int) := by omega
      have j5 : (0 : Int) ≤ (r : Int) + 1 := by omega
      have j7 : ((r : Int) + 1).toNat = r + 1 := by omega
      by_cases hlr : r + 1 < N
      ·have hdr : decide (((r : Int) + 1) < (N : Int)) = true := by simp; omega
       have j6 : (r : Int) + 1 < (N : Int) := by omega
       have e1 : (q + 1 + (r + 1)) * 3 = O + (r + 1) * 3 := by omega
       have e0 : (q + 1 + r) * 3 = O + r * 3 := by omega
       have HS := Lib.hid fun w' (hb : Below wr.heap.size wr w') => And.intro (H2.out.at_ hb (show q + 1 + (r + 1) < dk.size by omega)).1 (And.intro (H2.out.at_ hb (show q + 1 + r < dk.size by omega)).1 (Lib.hid hb))
       rw [HK.out.high (q + 1 + (r + 1)) (by omega), HK.out.high (q + 1 + r) (by omega), e1, e0] at HS
       have HC := Lib.hid fun W => sameI_anyCLK d[q + 1 + (r + 1)]!.1.1 d[q + 1 + (r + 1)]!.1.2 d[q + 1 + (r + 1)]!.2 d[q + 1 + r]!.1.1 d[q + 1 + r]!.1.2 d[q + 1 + r]!.2 W
       by_cases he : d[q + 1 + (r + 1)]!.1 = d[q + 1 + r]!.1
       ·have hv : decide ((d[q + 1 + (r + 1)]!.1.1, d[q + 1 + (r + 1)]!.1.2) = (d[q + 1 + r]!.1.1, d[q + 1 + r]!.1.2)) = true := decide_eq_true he
        rw [hv] at HC
        have HKK := Lib.hid (HK.out.skip (show (!decide (d[q + 1 + (r + 1)]!.1 = d[q + 1 + r]!.1)) = false by rw [decide_eq_true he]; rfl))
        clear hv he
        generalize d[q + 1 + (r + 1)]!.1.1 = a3 at *
        generalize d[q + 1 + (r + 1)]!.1.2 = b3 at *
        generalize d[q + 1 + (r + 1)]!.2 = n3 at *
        generalize d[q + 1 + r]!.1.1 = a2 at *
        generalize d[q + 1 + r]!.1.2 = b2 at *
        generalize d[q + 1 + r]!.2 = n2 at *
        clear e1 e0
        go_wp2_with fail
        go_region_held3 (fun w' => (w'.cell? ⟨g, O + (r + 1) * 3, none⟩ = some (.int .i64 a3) ∧ w'.cell? ⟨g, O + (r + 1) * 3 + 1, none⟩ = some (.int .i64 b3) ∧ w'.cell? ⟨g, O + (r + 1) * 3 + 2, none⟩ = some (.int .i64 n3)) ∧ (w'.cell? ⟨g, O + r * 3, none⟩ = some (.int .i64 a2) ∧ w'.cell? ⟨g, O + r * 3 + 1, none⟩ = some (.int .i64 b2) ∧ w'.cell? ⟨g, O + r * 3 + 2, none⟩ = some (.int .i64 n2)) ∧ Hid (Below wr.heap.size wr w'))
         (first | exact HS.out _ (Below.refl _ _).drew | exact HS.out _ HJ.out)
         (first | (go_at_call 184; (with_reducible refine (HC.out _).mono ?_); rintro e w' ⟨rfl, hb⟩; have HJ := Lib.hid (below_after (Hid.out (by go_split_ands; assumption)) hb (Nat.le_refl _)); clear hb))
        have R2 := Lib.hid (rowAt_kept H2.out HJ.out)
        have G2 := Lib.hid (grown_below H3.out HJ.out)
        go_wp2_with fail
        go_roundw
        case rel => exact ⟨k, r + 1, dk, rfl, by go_num, by omega, HKK, R2, G2⟩
        case measure => simp [intOf]; omega
       ·have hv : decide ((d[q + 1 + (r + 1)]!.1.1, d[q + 1 + (r + 1)]!.1.2) = (d[q + 1 + r]!.1.1, d[q + 1 + r]!.1.2)) = false := decide_eq_false he
        rw [hv] at HC
        have HKK := Lib.hid (HK.out.keep (show q + 1 + (r + 1) < d.size by omega) (show (!decide (d[q + 1 + (r + 1)]!.1 = d[q + 1 + r]!.1)) = true by rw [decide_eq_false he]; rfl))
        have HE := Lib.hid (show d[q + 1 + (r + 1)]! = ((d[q + 1 + (r + 1)]!.1.1, d[q + 1 + (r + 1)]!.1.2), d[q + 1 + (r + 1)]!.2) from rfl)
        rw [HE.out] at HKK
        clear hv he
        generalize d[q + 1 + (r + 1)]!.1.1 = a3 at *
        generalize d[q + 1 + (r + 1)]!.1.2 = b3 at *
        generalize d[q + 1 + (r + 1)]!.2 = n3 at *
        generalize d[q + 1 + r]!.1.1 = a2 at *
        generalize d[q + 1 + r]!.1.2 = b2 at *
        generalize d[q + 1 + r]!.2 = n2 at *
        clear e1 e0
        have p4 : (k : Int) < (d.size : Int) := by omega
        go_wp2_with fail
        go_region_held3 (fun w' => (w'.cell? ⟨g, O + (r + 1) * 3, none⟩ = some (.int .i64 a3) ∧ w'.cell? ⟨g, O + (r + 1) * 3 + 1, none⟩ = some (.int .i64 b3) ∧ w'.cell? ⟨g, O + (r + 1) * 3 + 2, none⟩ = some (.int .i64 n3)) ∧ (w'.cell? ⟨g, O + r * 3, none⟩ = some (.int .i64 a2) ∧ w'.cell? ⟨g, O + r * 3 + 1, none⟩ = some (.int .i64 b2) ∧ w'.cell? ⟨g, O + r * 3 + 2, none⟩ = some (.int .i64 n2)) ∧ Hid (Below wr.heap.size wr w'))
         (first | exact HS.out _ (Below.refl _ _).drew | exact HS.out _ HJ.out)
         (first | (go_at_call 184; (with_reducible refine (HC.out _).mono ?_); rintro e w' ⟨rfl, hb⟩; have HJ := Lib.hid (below_after (Hid.out (by go_split_ands; assumption)) hb (Nat.le_refl _)); clear hb))
        have R2 := Lib.hid (rowAt_kept H2.out HJ.out)
        have G2 := Lib.hid (grown_below H3.out HJ.out)
        obtain ⟨⟨c1, c2, c3⟩, f1, f2, f3⟩ := R2.out.2 k (by omega)
        have R3 := Lib.hid (rowAt_set R2.out (show k < dk.size by omega) ((a3, b3), n3))
        have G3 := Lib.hid (grown_three G2.out (k * 3) (k * 3 + 1) (k * 3 + 2) (.int .i64 a3) (.int .i64 b3) (.int .i64 n3))
        obtain ⟨x1, x2, x3⟩ := (HS.out _ HJ.out).1
        go_wp2_with fail
        go_roundw
        case rel => exact ⟨k + 1, r + 1, _, by go_num, by go_num, by omega, HKK, R3, G3⟩
        case measure => simp [intOf]; omega
      ·have hdr : decide (((r : Int) + 1) < (N : Int)) = false := by simp; omega
       have hm : q + 1 + (r + 1) = d.size := by omega
       rw [hm] at HK hij
       obtain ⟨vs, hcl⟩ := run_clear_rows H2.out (show k < dk.size by omega) (c - k) 0
       have R3 := Lib.hid (rowAt_front H2.out (show k ≤ dk.size by omega) vs)
       have G3 := Lib.hid (grown_setCells H3.out (k * 3) vs)
       have HF := Lib.hid (kept_frontCLK HK.out)
       have hci : ¬ c = k := by omega
       have p5 : (k : Int) ≤ (d.size : Int) := by omega
       rw [hds] at hcl
       go_wp2_with fail
       go_ret
       exact ⟨dk.extract 0 k, by simp; omega, HF.out.trans HA.out, R3.out, G3.out⟩
    ·have hv : decide ((d[q + 1]!.1.1, d[q + 1]!.1.2) = (d[q]!.1.1, d[q]!.1.2)) = false := decide_eq_false he
     rw [hv] at HC
     have HF := Lib.hid (show ∀ j, j < q + 1 + 1 → keepI d j = true from fun j hj => by
      by_cases e : j = q + 1
      ·subst e
       simp [keepI, he]
      ·exact HT.out j (by omega))
     clear hv he
     generalize d[q + 1]!.1.1 = a1 at *
     generalize d[q + 1]!.1.2 = b1 at *
     generalize d[q + 1]!.2 = n1 at *
     generalize d[q]!.1.1 = a0 at *
     generalize d[q]!.1.2 = b0 at *
     generalize d[q]!.2 = n0 at *
     go_wp2_with fail
     go_region_held3 (fun w' => (w'.cell? ⟨g, (q + 1) * 3, none⟩ = some (.int .i64 a1) ∧ w'.cell? ⟨g, (q + 1) * 3 + 1, none⟩ = some (.int .i64 b1) ∧ w'.cell? ⟨g, (q + 1) * 3 + 2, none⟩ = some (.int .i64 n1)) ∧ (w'.cell? ⟨g, q * 3, none⟩ = some (.int .i64 a0) ∧ w'.cell? ⟨g, q * 3 + 1, none⟩ = some (.int .i64 b0) ∧ w'.cell? ⟨g, q * 3 + 2, none⟩ = some (.int .i64 n0)) ∧ Hid (Below w.heap.size w w'))
      (first | exact HS.out _ HW.out.drew | exact HS.out _ HK.out)
      (first | (go_at_call 184; (with_reducible refine (HC.out _).mono ?_); rintro e w' ⟨rfl, hb⟩; have HK := Lib.hid (below_after (Hid.out (by go_split_ands; assumption)) hb (Nat.le_refl _)); clear hb))
     go_wp2_with fail
     go_roundw
     case rel => exact ⟨q + 1 + 1, by go_num, by omega, by omega, HF, Hid.out (by assumption)⟩
     case measure => simp [intOf]; omega
   ·have hd : decide (((q : Int) + 1) < (d.size : Int)) = false := by simp; omega
    have HF := Lib.hid (show d.toList = cpt none d.toList by
     rw [← HA.out, Go.Lib.keptUpTo_all (keepI d) d d.size (fun j hj => HT.out j (by omega)), Go.Lib.range_map_get])
    go_wp2_with fail
    go_ret
    exact ⟨d, rfl, HF.out, rowAt_kept HR.out HW.out, grown_below (World.grownBy.refl _ _) HW.out⟩
end Go.Proofs.YthkkipbmlafdiaaGreat
