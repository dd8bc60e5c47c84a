/-
  Carried over and put together: contracts of this program's functions, and plain facts. No statement is proved in this text.
-/
import Derived.Deep.AppendLies
import Derived.TacticsInMore
import Derived.LoopNIn
import Derived.LoopIn
import Derived.Test.YtgphiggbajbmhaaGreatDoorE17
import Derived.Test.YtgphiggbajbmhaaGreatDoorE34
set_option maxRecDepth 20000
namespace Go.Proofs.YtgphiggbajbmhaaGreatDoor
open Go Go.RowKit Sets Go.Maps Go.ChangeMaps Go.MapKept
attribute [local go_sem] Oper.semAt_some
theorem wpListIn_push {F : Fence} {m : Nat} {ops : Array Oper} {rest : List Oper} {o : Oper} {a : Act} {Q : Exit → Act → World → Prop} (hgd : o.guard = none) (s x : Operand)
  (ho : o.op = .call { callee := .builtin .append, args := #[s, x], argTypes := #[23, 23] })
  (wr : World) (base : Nat) (v : Value) (d : List (Int × Int)) (p q : Int) (hs : a.eval s = v) (hx : a.eval x = .slice (some ⟨wr.heap.size, 0, none⟩) 1 1)
  (hown : Owns wr base v d) (hl : d.length ≤ 99999) (hb : base ≤ wr.heap.size)
  (h : ∀ g cap w', Owns w' base (.slice (some ⟨g, 0, none⟩) (d.length + 1) cap) (d ++ [(p, q)]) → wr.grownBy w' v.ownBlock → (v.ownBlock = some g ∨ wr.heap.size ≤ g) → g < w'.heap.size → wpListIn F m Tryz.prog ops Q rest (a.put o.dst (.slice (some ⟨g, 0, none⟩) (d.length + 1) cap)) w') :
  wpListIn F m Tryz.prog ops Q (o :: rest) a (wr.alloc (.cells #[.int .i64 p, .int .i64 q] 32)) := by
 obtain ⟨i0, hi, hz0, hz1, hz2⟩ := info_parts info23
 refine wpListIn_plain hgd fun K hK' => ?_
 have hown2 : Owns (wr.alloc (.cells #[.int .i64 p, .int .i64 q] 32)) base v d := hown.below (below_one wr _)
 obtain ⟨g, cap, w', hrun, r1, r2, r3, r4⟩ := run_append_lies (P := Tryz.prog) (wr.alloc (.cells #[.int .i64 p, .int .i64 q] 32)) 23 o.type base 32 i0 (.agg #[.int .i64 0, .int .i64 0]) 2 16 Tryz.underlying23 hi hz0 hz1 hz2 rfl (by decide) v d.length (flat d) hown2
  ⟨wr.heap.size, 0, none⟩ 1 1 (flat [(p, q)]) (flat_len _) (World.news_of_block (cs := #[.int .i64 p, .int .i64 q]) (box_new wr p q)) (flat_one _) (by omega) (by unfold maxLen; omega) (by omega) (by simp; omega) _ rfl
 unfold Oper.wpIn
 refine ⟨?_, ?_⟩
 ·simp [Oper.about, ho, resolve, Target.leads, Sem.run_pure]
 ·rw [Oper.semAt_plain F _ _ (by rw [ho]; intro c hc'; cases hc')]
  simp [execOp, ho, resolve, invoke, builtin, hs, hx, hrun, Result.andThen]
  refine hK' _ _ (h g cap w' ?_ ?_ ?_ r4)
  ·unfold Owns
   rw [flat_append, List.length_append]
   exact r1
  ·refine ⟨r2.os, r2.tape, r2.output, Nat.le_trans (by simp) r2.size, fun k hk hne => ?_⟩
   rw [r2.block k (by simp; omega) hne, Below.heap_alloc _ _ _ hk]
  ·rcases r3 with e | e
   ·exact .inl e
   ·right
    rw [e]
    simp
def RowI (n0 lo X b : Nat) (A : World) (l : List Id2) : Prop := ∃ v, One A X 23 v ∧ Owns A b v l ∧ ∀ g, v.ownBlock = some g → g ≠ X ∧ (g < lo ∨ n0 + 2 ≤ g)
theorem Owns.keptG {w w' : World} {base : Nat} {v : Value} {l : List (Int × Int)} {row : Option Nat} (h : Owns w base v l) (hg : w.grownBy w' row) (hr : ∀ g, v.ownBlock = some g → row ≠ some g) : Owns w' base v l :=
 World.ownsRow.kept h hg (by
  rcases ho : v.ownBlock with _ | g
  ·exact .inl rfl
  ·exact .inr fun e => hr g ho e.symm)
theorem One.grownG {w w' : World} {g t : Nat} {v : Value} {row : Option Nat} (h : One w g t v) (hg : w.grownBy w' row) (hr : row ≠ some g) : One w' g t v := (hg.block g (one_lt h) (fun e => hr e.symm)).trans h
theorem Box.grownG {w w' : World} {g : Nat} {a i : Int} {row : Option Nat} (h : Box w g a i) (hg : w.grownBy w' row) (hr : row ≠ some g) : Box w' g a i := (hg.block g (box_lt h) (fun e => hr e.symm)).trans h
theorem RowI.grown {n0 lo X b : Nat} {A B : World} {l : List Id2} {row : Option Nat} (h : RowI n0 lo X b A l) (hg : A.grownBy B row) (hX : row ≠ some X) (hr : ∀ g, row = some g → (lo ≤ g ∧ g < n0 + 2) ∨ g < b) : RowI n0 lo X b B l := by
 obtain ⟨v, h1, h2, h3⟩ := h
 exact ⟨v, h1.grownG hg hX, h2.keptG hg (fun g hv e => by have := h3 g hv; have := hr g e; have := (World.ownsRow.lt h2 g hv).1; omega), h3⟩
theorem grown_set (w : World) (g k : Nat) (v : Value) : w.grownBy (w.setCell ⟨g, k, none⟩ v) (some g) :=
 ⟨rfl, rfl, rfl, by simp, fun j _ hj => Below.heap_setCell _ _ _ _ (fun e => hj (by rw [e]))⟩
theorem RowI.pushed {n0 lo X b g cap n : Nat} {w w' : World} {v : Value} {l' : List Id2} (hX : X < n0) (hn : n0 + 2 ≤ w.heap.size) (h1 : One w X 23 v) (h3 : ∀ g, v.ownBlock = some g → g ≠ X ∧ (g < lo ∨ n0 + 2 ≤ g))
  (p1 : Owns w' b (.slice (some ⟨g, 0, none⟩) n cap) l') (p2 : w.grownBy w' v.ownBlock) (p3 : v.ownBlock = some g ∨ w.heap.size ≤ g) : RowI n0 lo X b (w'.setCell ⟨X, 0, none⟩ (.slice (some ⟨g, 0, none⟩) n cap)) l' := by
 have hg : g ≠ X ∧ (g < lo ∨ n0 + 2 ≤ g) := by
  rcases p3 with e | e
  ·exact h3 g e
  ·exact ⟨by omega, .inr (by omega)⟩
 refine ⟨_, one_set (h1.grownG p2 (fun e => by have := h3 X e; omega)) _, p1.keptG (grown_set _ _ _ _) (fun g' e e2 => ?_), fun g' e => ?_⟩
 ·injection e with e
  injection e2 with e2
  have e' : g = g' := e
  omega
 ·injection e with e
  have e' : g = g' := e
  omega
theorem owns_walk {w : World} {base : Nat} {v : Value} {l : List Id2} (h : Owns w base v l) {r : Nat} {o : Obj} (hr : w.heap[r]? = some o) (hw : o.isWalk = true) : v.ownBlock ≠ some r := fun e => by
 rcases h.2 with ⟨rfl, _⟩ | ⟨g, cap, cur, rfl, _, hg, _⟩
 ·cases e
 ·injection e with e
  have e2 : g = r := e
  subst e2
  rw [hg] at hr
  cases hr
  cases hw
theorem RowI.walks {n0 lo X b r : Nat} {A B : World} {l : List Id2} (h : RowI n0 lo X b A l) (hg : A.grownBy B (some r)) {o : Obj} (hr : A.heap[r]? = some o) (hw : o.isWalk = true) : RowI n0 lo X b B l := by
 obtain ⟨v, h1, h2, h3⟩ := h
 refine ⟨v, h1.grownG hg (fun e => ?_), h2.keptG hg (fun g hv e => ?_), h3⟩
 ·injection e with e
  unfold One at h1
  rw [e, h1] at hr
  cases hr
  cases hw
 ·injection e with e
  exact owns_walk h2 hr hw (by rw [hv, e])
theorem owns_keeps {w w' : World} {base : Nat} {v : Value} {l : List Id2} (h : Owns w base v l) (hg : w.grownBy w' v.ownBlock) : KeepsWalks w w' :=
 ⟨hg.size, fun k _ hk ho => (hg.block k (row_lt hk) (fun e => owns_walk h hk ho e.symm)).trans hk⟩
set_option maxHeartbeats 4000000 in
theorem appendSeq_gives (tA N : Nat) (Sx : List Id2 → Prop) (w : World) (hN : N ≤ 99999) (hS : SeqGives Fence.wide 1 Tryz.prog 44 #[.pointer (some ⟨tA, 0, none⟩)] idv Sx N w) :
  Calls Tryz.prog 43 #[.slice none 0 0, .func (.func 44) #[] #[.pointer (some ⟨tA, 0, none⟩)]] w fun e w' => ∃ xs, Sx xs ∧ xs.length ≤ N ∧ Lists xs w e w' := by
 have HSq := Lib.hid hS
 clear hS
 refine (callsIn_wide (n := 0)).1 ?_
 refine callsIn_of_wp_marks Tryz.func43 rfl trivial ?_
 simp only [Tryz.ntmps43, List.size_toArray, List.length_cons, List.length_nil, Nat.reduceAdd, Nat.reduceSub, Array.replicate_succ, Array.replicate_zero, List.push_toArray, List.append_toArray, List.nil_append, List.cons_append]
 gi_wp2
 have X0 := Lib.hid (one_new w 23 (.slice none 0 0))
 have B0 := Lib.hid (below_one w (.cells #[.slice none 0 0] 23))
 have hs0 : (w.alloc (.cells #[.slice none 0 0] 23)).heap.size = w.heap.size + 1 := by simp
 generalize hw1 : w.alloc (.cells #[.slice none 0 0] 23) = w1 at *
 clear hw1
 refine wp_gives (P := Tryz.prog) (gf := 44) (lb := #[.pointer (some ⟨tA, 0, none⟩)]) rfl (enters_fn Tryz.func44 (by kernel_rfl) rfl) HSq.out B0.out rfl
  (fun pre A => Below w.heap.size w A ∧ RowI w1.heap.size (w.heap.size + 1) w.heap.size w.heap.size A pre) ?start ?keep ?round ?done
 case start =>
  intro W hW hb
  exact ⟨B0.out.trans (hb.mono (by omega)), _, one_below X0.out hb, owns_nil _ _, fun g e => by cases e⟩
 case keep =>
  rintro pre A B row ⟨h1, h2⟩ hg hrow
  rcases row with _ | r
  ·exact ⟨h1.grown hg h1.size (fun k e => by cases e), h2.grown hg (fun e => by cases e) (fun g e => by cases e)⟩
  ·rcases hrow r rfl with e | ⟨e, o, ho, hw⟩
   ·exact ⟨h1.grown hg h1.size (fun k e2 => by injection e2 with e2; omega), h2.grown hg (fun e2 => by injection e2 with e2; omega) (fun g e2 => by injection e2 with e2; left; omega)⟩
   ·exact ⟨h1.grown hg h1.size (fun k e2 => by injection e2 with e2; omega), h2.walks hg ho hw⟩
 case done =>
  rintro xs W hSx hlen ⟨h1, h2⟩ hD
  obtain ⟨v', hX, hO, _⟩ := h2
  have cX := one_cell hX
  have HO := Lib.hid hO
  have HBW := Lib.hid h1
  have HX2 := Lib.hid hSx
  have HL2 := Lib.hid hlen
  clear hX hO h1 hSx hlen
  gi_wp2
  refine ⟨by simp, .inl ⟨_, _, rfl, run_takeDeferred hD, ?_⟩⟩
  have hgd := grownBy_putObj' W w1.heap.size (.deferred none)
  refine ⟨_, results_tmp rfl _ _ _, xs, HX2.out, HL2.out, _, rfl, Ids.cells (ids_of_owns HO.out) (cells_deferred hD hgd), ?_⟩
  exact HBW.out.grown hgd HBW.out.size fun k hk => by injection hk with hk; omega
 case round =>
  rintro pre x A hpN ⟨hbA, hI⟩ hA ⟨r, hlr⟩
  have e : ∀ t : Array Value, ((#[7] : Array Tmp).zip #[idv x]).foldl (fun t (p, v) => t.setIfInBounds p v) t = t.setIfInBounds 7 (.agg #[.int .i64 x.1, .int .i64 x.2]) := fun t => by simp [idv]
  rw [e]
  simp only [List.setIfInBounds_toArray, List.set_cons_zero, List.set_cons_succ]
  clear e
  gi_wp2
  have N1 := Lib.hid (below_one A (.cells #[.int .i64 x.1, .int .i64 x.2] 32))
  have N2 := Lib.hid (box_new A x.1 x.2)
  refine ⟨N1.out.block _ (by omega), N1.out.block _ (by omega), KeepsWalks.alloc _ _, fun C hC => ?_⟩
  have gA : A.grownBy (A.alloc (.cells #[.int .i64 x.1, .int .i64 x.2] 32)) none := World.grownBy_alloc _ _ _
  have hI2 := (hI.grown gA (by simp) (fun g e => by cases e)).grown hC (fun e => by injection e with e; omega) (fun g e => by injection e with e; left; omega)
  have hb2 := (hbA.grown gA hbA.size (fun k e => by cases e)).grown hC (Nat.le_trans hbA.size gA.size) (fun k e => by injection e with e; omega)
  have hxb := Box.grownG N2.out hC (fun e => by injection e with e; omega)
  obtain ⟨v', h1, h2, h3⟩ := hI2
  have hsC : w1.heap.size + 2 ≤ C.heap.size := Nat.le_trans hA (Nat.le_trans gA.size hC.size)
  have H1 := Lib.hid h1
  have H2 := Lib.hid h2
  have H3 := Lib.hid h3
  have HB2 := Lib.hid hb2
  obtain ⟨x1, x2⟩ := box_cells hxb
  have cX := one_cell h1
  have hpl : pre.length ≤ 99999 := by omega
  clear h1 h2 h3 hb2 hxb hI hbA gA hC N1 N2 hlr
  gi_wp2_with (gi_at_builtin; refine wpListIn_push rfl (.tmp 8) (.tmp 10) rfl C w.heap.size v' pre x.1 x.2 rfl rfl H2.out hpl (by omega) ?_; intro g cap w2 p1 p2 p3 p4; have P1 := Lib.hid p1; have P2 := Lib.hid p2; have P3 := Lib.hid p3; clear p1 p2 p3; have hX2 := H1.out.grownG P2.out (fun e => by have := H3.out _ e; omega); have cX := one_cell hX2; have fX := one_free hX2; clear hX2)
  have hfin := RowI.pushed (by omega) hsC H1.out H3.out P1.out P2.out P3.out
  have same : ∀ j, j < C.heap.size → j = w1.heap.size ∨ j = w1.heap.size + 1 → (w2.setCell ⟨w.heap.size, 0, none⟩ (.slice (some ⟨g, 0, none⟩) (pre.length + 1) cap)).heap[j]? = C.heap[j]? := fun j hj hjX => by
   rw [Below.heap_setCell _ _ _ _ (show j ≠ w.heap.size by omega), P2.out.block j hj (fun e => by have := H3.out j e.symm; omega)]
  refine ⟨same _ (by omega) (.inl rfl), same _ (by omega) (.inr rfl), ⟨?_, hfin⟩, (owns_keeps H2.out P2.out).trans (KeepsWalks.setCell _ _ _)⟩
  exact (HB2.out.grown P2.out HB2.out.size (fun k e => (World.ownsRow.lt H2.out k e).1)).grown (grown_set _ _ _ _) (Nat.le_trans HB2.out.size P2.out.size) (fun k e => by injection e with e; exact Nat.le_of_eq e)
theorem collect_gives (tA N : Nat) (Sx : List Id2 → Prop) (w : World) (hN : N ≤ 99999) (hS : SeqGives Fence.wide 1 Tryz.prog 44 #[.pointer (some ⟨tA, 0, none⟩)] idv Sx N w) :
  Calls Tryz.prog 15 #[.func (.func 44) #[] #[.pointer (some ⟨tA, 0, none⟩)]] w fun e w' => ∃ xs, Sx xs ∧ xs.length ≤ N ∧ Lists xs w e w' := by
 go_enter Tryz.func15, Tryz.ntmps15
 go_wp2_with fail
 refine (appendSeq_gives tA N Sx w hN hS).mono ?_
 rintro e w1 ⟨xs, h0, h3, r, rfl, h1, h2⟩
 have H0 := Lib.hid h0
 have H1 := Lib.hid h1
 have H2 := Lib.hid h2
 have H3 := Lib.hid h3
 clear h0 h1 h2 h3
 go_wp2_with fail
 go_ret
 exact ⟨xs, H0.out, H3.out, _, rfl, H1.out, H2.out⟩
theorem keysF_any (mb : Option Nat) (w : World) : Calls Tryz.prog 16 #[.map mb] w fun e w' => e = .returned (.func (.func 44) #[] #[.pointer (some ⟨w.heap.size, 0, none⟩)]) ∧ One w' w.heap.size 43 (.map mb) ∧ Below w.heap.size w w' := by
 have h1 := Lib.hid (one_new w 43 (.map mb))
 have h2 := Lib.hid (below_one w (.cells #[.map mb] 43))
 go_enter Tryz.func16, Tryz.ntmps16
 go_wp2_with fail
 go_ret
 exact ⟨rfl, h1.out, h2.out⟩
end Go.Proofs.YtgphiggbajbmhaaGreatDoor
