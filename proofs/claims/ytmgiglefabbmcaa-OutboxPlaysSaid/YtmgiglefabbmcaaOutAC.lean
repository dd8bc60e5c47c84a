/-
  A walk: a law copies a frame with all its lists. No statement is proved in this text.
-/
import Derived.Test.YtmgiglefabbmcaaOutAB
set_option maxRecDepth 20000
namespace Go.Proofs.Ytmgiglefabbmcaa
open Go Go.RowKit
theorem In1.lt {α : Type} {enc : α → List Value} {sz : Nat} {e : TypeId} {S : Nat → Prop} {w : World} {v : Value} {l : List α} (h : In1 enc sz e S w v l) : In1 enc sz e (fun k => S k ∧ k < w.heap.size) w v l := ⟨h.1, fun k hk => ⟨h.2 k hk, (World.ownsRow.lt h.1 k hk).2⟩⟩
theorem EachO.lt {S : Nat → Prop} {w : World} : ∀ {qs : List Raw} {l : List Row}, EachO S w qs l → EachO (fun k => S k ∧ k < w.heap.size) w qs l
  | [], [], _ => trivial
  | _ :: _, _ :: _, h => ⟨⟨h.1.1, h.1.2.1, h.1.2.2.lt⟩, EachO.lt h.2⟩
  | [], _ :: _, h => h.elim
  | _ :: _, [], h => h.elim
theorem FO.lt {S : Nat → Prop} {w : World} {q : Fq} (h : FO S w q) : FO (fun k => S k ∧ k < w.heap.size) w q := by
  obtain ⟨qs, h1, h2⟩ := h.r
  exact ⟨h.m.lt, h.f.lt, ⟨qs, h1.lt, h2.lt⟩, h.c.lt, h.s.lt⟩
/-- A literal of nothing. -/
theorem owns_litG {α : Type} {enc : α → List Value} {sz : Nat} (e : TypeId) (w : World) : OwnsR enc sz e (w.alloc (.cells #[] e)) w.heap.size (.slice (some ⟨w.heap.size, 0, none⟩) 0 0) [] :=
  ⟨by simp [flatR], .inr ⟨_, 0, #[], rfl, Nat.le_refl _, heap_alloc_new w _, Nat.le_refl _, Nat.zero_le _, by simp, by simp [flatR]⟩⟩
/-- Blocks of another type stand, where a row grows. -/
def Grew (t : TypeId) (w W W' : World) : Prop := ∃ row, W.grownBy W' row ∧ ∀ k, row = some k → w.heap.size + 1 < k ∧ ∃ cur, W.heap[k]? = some (.cells cur t (0, 0))
theorem In1.grew {α : Type} {enc : α → List Value} {sz : Nat} {e t : TypeId} {S : Nat → Prop} {w W W' : World} {v : Value} {l : List α} (h : In1 enc sz e S W v l) (hg : Grew t w W W') (ht : t ≠ e) : In1 enc sz e S W' v l := by
  obtain ⟨row, hg, hr⟩ := hg
  refine ⟨ownsRow_on h.1 fun k hk => hg.block k (World.ownsRow.lt h.1 k hk).2 fun e2 => ?_, h.2⟩
  obtain ⟨_, cur, hc⟩ := hr k e2.symm
  rcases h.1.2 with ⟨h1, _⟩ | ⟨g', cap, cur', h1, _, h2, _⟩
  · rw [h1] at hk; cases hk
  · rw [h1] at hk
    injection hk with hk
    have e3 : g' = k := hk
    rw [e3, hc] at h2
    injection h2 with h2
    injection h2 with _ h3
    exact ht h3
theorem EachO.grew {t : TypeId} {S : Nat → Prop} {w W W' : World} (hg : Grew t w W W') (ht : t ≠ 24) : ∀ {qs : List Raw} {l : List Row}, EachO S W qs l → EachO S W' qs l
  | [], [], _ => trivial
  | _ :: _, _ :: _, h => ⟨⟨h.1.1, h.1.2.1, h.1.2.2.grew hg ht⟩, EachO.grew hg ht h.2⟩
  | [], _ :: _, h => h.elim
  | _ :: _, [], h => h.elim
theorem ApG.grew {t : TypeId} {w W W' : World} {q : Fq} (h : ApG w q W) (hg : Grew t w W W') : ApG w q W' := by
  obtain ⟨row, hg, hr⟩ := hg
  have h1 := fb_lt h.x
  have h2 := fb_lt h.z
  exact ⟨(hg.block _ h1 fun e => by have := (hr _ e.symm).1; omega).trans h.x, (hg.block _ h2 fun e => by have := (hr _ e.symm).1; omega).trans h.z, h.b.grown hg h.b.size fun k e => by have := (hr k e).1; omega⟩
/-- append of one row to rows of the call's own. -/
theorem wpList_push_row {ops : Array Oper} {rest : List Oper} {o : Oper} {a : Act} {Q : Exit → Act → World → Prop} (hgd : o.guard = none) (s x : Operand) (ho : o.op = .call { callee := .builtin .append, args := #[s, x], argTypes := #[27, 27] })
    (w wr : World) (v : Value) (d : List Raw) (y : Raw) (hsv : a.eval s = v) (hx : a.eval x = .slice (some ⟨wr.heap.size, 0, none⟩) 1 1)
    (hown : OwnsR encW 4 76 wr (w.heap.size + 2) v d) (hl : d.length ≤ 90000) (hb : w.heap.size + 2 ≤ wr.heap.size)
    (h : ∀ v' w', OwnsR encW 4 76 w' (w.heap.size + 2) v' (d ++ [y]) → Grew 76 w wr w' → wpList Try.prog ops Q rest (a.put o.dst v') w') :
    wpList Try.prog ops Q (o :: rest) a (wr.alloc (.cells #[.int .i64 y.1.1, .int .i64 y.1.2, .int .i64 y.2.1, .slice y.2.2.1 y.2.2.2.1 y.2.2.2.2] 76)) := by
  obtain ⟨i0, hi, hz0, hz1, hz2⟩ := info_parts info76
  have hown2 : OwnsR encW 4 76 (wr.alloc (.cells #[.int .i64 y.1.1, .int .i64 y.1.2, .int .i64 y.2.1, .slice y.2.2.1 y.2.2.2.1 y.2.2.2.2] 76)) (w.heap.size + 2) v d := hown.below (below_one wr _)
  refine wpList_append_own _ hgd s x 27 ho (w.heap.size + 2) 76 i0 (.agg #[.int .i64 0, .int .i64 0, .int .i64 0, .slice none 0 0]) 4 48 Try.underlying27 hi hz0 hz1 hz2 rfl (by decide) v d.length (flatR encW d) hsv hown2 ⟨wr.heap.size, 0, none⟩ 1 1 (encW y) hx rfl
    (World.news_of_block (cs := #[.int .i64 y.1.1, .int .i64 y.1.2, .int .i64 y.2.1, .slice y.2.2.1 y.2.2.2.1 y.2.2.2.2]) (heap_alloc_new wr _)) (encW_one _) (by unfold maxLen; omega) (by omega) (by simp; omega) fun v' w' h1 h2 _ => h v' w' ?_ ⟨v.ownBlock, ?_, fun k hk => ?_⟩
  · unfold OwnsR
    rw [flatR_append, List.length_append]
    have e : flatR encW [y] = encW y := by simp [flatR]
    rw [e]
    exact h1
  · exact ⟨h2.os, h2.tape, h2.output, Nat.le_trans (by simp) h2.size, fun k hk hn => by rw [h2.block k (by simp; omega) hn, Below.heap_alloc _ _ _ hk]⟩
  · have hlt := World.ownsRow.lt hown k hk
    refine ⟨by omega, ?_⟩
    rcases hown.2 with ⟨h3, _⟩ | ⟨g, cap, cur, h3, _, h4, _⟩
    · rw [h3] at hk; cases hk
    · rw [h3] at hk
      injection hk with hk
      have e3 : g = k := hk
      rw [← e3]
      exact ⟨cur, h4⟩
theorem ownsR_sl {α : Type} {enc : α → List Value} {sz : Nat} {e : TypeId} {w : World} {b : Nat} {v : Value} {l : List α} (h : OwnsR enc sz e w b v l) : ∃ s : SL, v = .slice s.1 s.2.1 s.2.2 := by
  rcases h.2 with ⟨h1, _⟩ | ⟨g, cap, _, h1, _⟩
  · exact ⟨(none, 0, 0), h1⟩
  · exact ⟨(some ⟨g, 0, none⟩, l.length, cap), h1⟩
theorem In1.of_base {α : Type} {enc : α → List Value} {sz : Nat} {e : TypeId} {S : Nat → Prop} {w : World} {b : Nat} {v : Value} {l : List α} (h : OwnsR enc sz e w b v l) (hS : ∀ k, b ≤ k → S k) : In1 enc sz e S w v l := by
  refine ⟨⟨h.1, ?_⟩, fun k hk => hS k (World.ownsRow.lt h k hk).1⟩
  rcases h.2 with h1 | ⟨g, cap, cur, h1, _, h2⟩
  · exact .inl h1
  · exact .inr ⟨g, cap, cur, h1, Nat.zero_le _, h2⟩
theorem grown_one (w : World) (g k : Nat) (v : Value) : w.grownBy (w.setCell ⟨g, k, none⟩ v) (some g) :=
  ⟨rfl, rfl, rfl, by simp, fun j _ hj => Below.heap_setCell _ _ _ _ (fun e => hj (by rw [e]))⟩
/-- A frame's copy, but for its rows. -/
structure CpI (w : World) (q : Fq) (W : World) : Prop where
  g : ApG w q W
  m : In1 encM 4 79 (ApN w) W (.slice q.a.1 q.a.2.1 q.a.2.2) q.F.v.m
  f : In1 encI 2 24 (ApN w) W (.slice q.b.1 q.b.2.1 q.b.2.2) q.F.v.f
  c : In1 encT 3 81 (ApN w) W (.slice q.d.1 q.d.2.1 q.d.2.2) q.F.v.c
  s : In1 encI 2 24 (ApN w) W (.slice q.e.1 q.e.2.1 q.e.2.2) q.F.v.s
theorem CpI.later {w W W' : World} {q : Fq} (h : CpI w q W) (hb : Below W.heap.size W W') : CpI w q W' := ⟨h.g.step hb, h.m.later hb, h.f.later hb, h.c.later hb, h.s.later hb⟩
theorem CpI.grew {w W W' : World} {q : Fq} (h : CpI w q W) (hg : Grew 76 w W W') : CpI w q W' := ⟨h.g.grew hg, h.m.grew hg (by decide), h.f.grew hg (by decide), h.c.grew hg (by decide), h.s.grew hg (by decide)⟩
set_option maxHeartbeats 16000000 in
theorem copied_any (q : Fq) (w : World) (h : FR w q) (hV : Fit 20000 q.F.v) :
    Calls Try.prog 21 #[.agg (fc q)] w fun e w' => ∃ u, e = .returned (.agg (fc u)) ∧ u.F = q.F ∧ FO (fun k => w.heap.size ≤ k ∧ k < w'.heap.size) w' u ∧ Below w.heap.size w w' := by
  have HF := Lib.hid hV
  have HR := Lib.hid h
  have G0 := Lib.hid (ApG.first w q)
  rw [fc_zero] at G0
  clear h hV
  go_enter Try.func21, Try.ntmps21
  go_upto_region 1 with fail
  generalize (w.alloc (.cells (fc q) 32)).alloc (.cells #[.int .u8 0, .int .i64 0, .int .i64 0, .int .i64 0, .int .i64 0, .int .i64 0, .int .i64 0, .int .i64 0, .int .i64 0, .slice none 0 0, .slice none 0 0, .slice none 0 0, .slice none 0 0, .slice none 0 0] 32) = w0 at *
  have C1 := Lib.hid (show Rcs encM 4 w0 (.slice q.a.1 q.a.2.1 q.a.2.2) q.F.v.m from (HR.out.below G0.out.b).m)
  have GA := Lib.hid (G0.out.step (below_one w0 (.cells #[] 79)))
  obtain ⟨p0, p1, p2, p3, p4, p5, p6, p7, p8, p9, p10, p11, p12, p13⟩ := fb_cells GA.out.x
  try dsimp only at p0 p1 p2 p3 p4 p5 p6 p7 p8 p9 p10 p11 p12 p13
  go_upto_region 2 with (at_builtin; refine wpList_append_recs 25 79 Try.underlying25 info79 rfl encM_len (by decide) encM_one (by decide) rfl (.tmp 6) (.tmp 9) rfl _ w0.heap.size _ _ [] q.F.v.m rfl rfl (owns_litG 79 w0) (Rcs.below C1.out (below_one w0 _)) (by have := HF.out.m; simp; omega) (by simp) ?_; intro X1 v1 ho hb0; have hb : Below w0.heap.size w0 v1 := (below_one w0 _).trans hb0; obtain ⟨s1, rfl⟩ := (G0.out.new (show OwnsR encM 4 79 v1 w0.heap.size X1 q.F.v.m from ho)).sl; have O1 := Lib.hid (G0.out.new (show OwnsR encM 4 79 v1 w0.heap.size _ q.F.v.m from ho)); have H1 := Lib.hid (G0.out.step hb); clear ho hb hb0 C1 GA p0 p1 p2 p3 p4 p5 p6 p7 p8 p9 p10 p11 p12 p13; obtain ⟨p0, p1, p2, p3, p4, p5, p6, p7, p8, p9, p10, p11, p12, p13⟩ := fb_cells H1.out.x; (try dsimp only at p0 p1 p2 p3 p4 p5 p6 p7 p8 p9 p10 p11 p12 p13); obtain ⟨-, -, -, -, -, -, -, -, -, f9, -, -, -, -⟩ := fb_free H1.out.x)
  have G1 := Lib.hid (show ApG w ⟨q.F, s1, q.b, q.c, q.d, q.e⟩ _ from H1.out.put (fb_seta H1.out.x s1))
  have K1 := Lib.hid (O1.out.past 9 (.slice s1.1 s1.2.1 s1.2.2))
  clear p0 p1 p2 p3 p4 p5 p6 p7 p8 p9 p10 p11 p12 p13 H1 O1 G0
  try clear f9
  generalize v1.setCell ⟨w.heap.size, 9, none⟩ (.slice s1.1 s1.2.1 s1.2.2) = w1 at *
  have C2 := Lib.hid (show Rcs encI 2 w1 (.slice q.b.1 q.b.2.1 q.b.2.2) q.F.v.f from (HR.out.below G1.out.b).f)
  have GA := Lib.hid (G1.out.step (below_one w1 (.cells #[] 24)))
  obtain ⟨p0, p1, p2, p3, p4, p5, p6, p7, p8, p9, p10, p11, p12, p13⟩ := fb_cells GA.out.x
  try dsimp only at p0 p1 p2 p3 p4 p5 p6 p7 p8 p9 p10 p11 p12 p13
  go_upto_region 3 with (at_builtin; refine wpList_append_recs 26 24 Try.underlying26 info24 rfl encI_len (by decide) encI_one (by decide) rfl (.tmp 13) (.tmp 16) rfl _ w1.heap.size _ _ [] q.F.v.f rfl rfl (owns_litG 24 w1) (Rcs.below C2.out (below_one w1 _)) (by have := HF.out.f; simp; omega) (by simp) ?_; intro X2 v2 ho hb0; have hb : Below w1.heap.size w1 v2 := (below_one w1 _).trans hb0; obtain ⟨s2, rfl⟩ := (G1.out.new (show OwnsR encI 2 24 v2 w1.heap.size X2 q.F.v.f from ho)).sl; have O2 := Lib.hid (G1.out.new (show OwnsR encI 2 24 v2 w1.heap.size _ q.F.v.f from ho)); have H2 := Lib.hid (G1.out.step hb); have K1 := Lib.hid (K1.out.later hb); clear ho hb hb0 C2 GA p0 p1 p2 p3 p4 p5 p6 p7 p8 p9 p10 p11 p12 p13; obtain ⟨p0, p1, p2, p3, p4, p5, p6, p7, p8, p9, p10, p11, p12, p13⟩ := fb_cells H2.out.x; (try dsimp only at p0 p1 p2 p3 p4 p5 p6 p7 p8 p9 p10 p11 p12 p13); obtain ⟨-, -, -, -, -, -, -, -, -, -, f9, -, -, -⟩ := fb_free H2.out.x)
  have G2 := Lib.hid (show ApG w ⟨q.F, s1, s2, q.c, q.d, q.e⟩ _ from H2.out.put (fb_setb H2.out.x s2))
  have K1 := Lib.hid (K1.out.past 10 (.slice s2.1 s2.2.1 s2.2.2))
  have K2 := Lib.hid (O2.out.past 10 (.slice s2.1 s2.2.1 s2.2.2))
  clear p0 p1 p2 p3 p4 p5 p6 p7 p8 p9 p10 p11 p12 p13 H2 O2 G1
  try clear f9
  generalize v2.setCell ⟨w.heap.size, 10, none⟩ (.slice s2.1 s2.2.1 s2.2.2) = w2 at *
  have C3 := Lib.hid (show Rcs encT 3 w2 (.slice q.d.1 q.d.2.1 q.d.2.2) q.F.v.c from (HR.out.below G2.out.b).c)
  have GA := Lib.hid (G2.out.step (below_one w2 (.cells #[] 81)))
  obtain ⟨p0, p1, p2, p3, p4, p5, p6, p7, p8, p9, p10, p11, p12, p13⟩ := fb_cells GA.out.x
  try dsimp only at p0 p1 p2 p3 p4 p5 p6 p7 p8 p9 p10 p11 p12 p13
  go_upto_region 4 with (at_builtin; refine wpList_append_recs 28 81 Try.underlying28 info81 rfl encT_len (by decide) encT_one (by decide) rfl (.tmp 20) (.tmp 23) rfl _ w2.heap.size _ _ [] q.F.v.c rfl rfl (owns_litG 81 w2) (Rcs.below C3.out (below_one w2 _)) (by have := HF.out.c; simp; omega) (by simp) ?_; intro X3 v3 ho hb0; have hb : Below w2.heap.size w2 v3 := (below_one w2 _).trans hb0; obtain ⟨s3, rfl⟩ := (G2.out.new (show OwnsR encT 3 81 v3 w2.heap.size X3 q.F.v.c from ho)).sl; have O3 := Lib.hid (G2.out.new (show OwnsR encT 3 81 v3 w2.heap.size _ q.F.v.c from ho)); have H3 := Lib.hid (G2.out.step hb); have K1 := Lib.hid (K1.out.later hb); have K2 := Lib.hid (K2.out.later hb); clear ho hb hb0 C3 GA p0 p1 p2 p3 p4 p5 p6 p7 p8 p9 p10 p11 p12 p13; obtain ⟨p0, p1, p2, p3, p4, p5, p6, p7, p8, p9, p10, p11, p12, p13⟩ := fb_cells H3.out.x; (try dsimp only at p0 p1 p2 p3 p4 p5 p6 p7 p8 p9 p10 p11 p12 p13); obtain ⟨-, -, -, -, -, -, -, -, -, -, -, -, f9, -⟩ := fb_free H3.out.x)
  have G3 := Lib.hid (show ApG w ⟨q.F, s1, s2, q.c, s3, q.e⟩ _ from H3.out.put (fb_setd H3.out.x s3))
  have K1 := Lib.hid (K1.out.past 12 (.slice s3.1 s3.2.1 s3.2.2))
  have K2 := Lib.hid (K2.out.past 12 (.slice s3.1 s3.2.1 s3.2.2))
  have K3 := Lib.hid (O3.out.past 12 (.slice s3.1 s3.2.1 s3.2.2))
  clear p0 p1 p2 p3 p4 p5 p6 p7 p8 p9 p10 p11 p12 p13 H3 O3 G2
  try clear f9
  generalize v3.setCell ⟨w.heap.size, 12, none⟩ (.slice s3.1 s3.2.1 s3.2.2) = w3 at *
  have C4 := Lib.hid (show Rcs encI 2 w3 (.slice q.e.1 q.e.2.1 q.e.2.2) q.F.v.s from (HR.out.below G3.out.b).s)
  have GA := Lib.hid (G3.out.step (below_one w3 (.cells #[] 24)))
  obtain ⟨p0, p1, p2, p3, p4, p5, p6, p7, p8, p9, p10, p11, p12, p13⟩ := fb_cells GA.out.x
  try dsimp only at p0 p1 p2 p3 p4 p5 p6 p7 p8 p9 p10 p11 p12 p13
  go_upto_region 5 with (at_builtin; refine wpList_append_recs 26 24 Try.underlying26 info24 rfl encI_len (by decide) encI_one (by decide) rfl (.tmp 27) (.tmp 30) rfl _ w3.heap.size _ _ [] q.F.v.s rfl rfl (owns_litG 24 w3) (Rcs.below C4.out (below_one w3 _)) (by have := HF.out.s; simp; omega) (by simp) ?_; intro X4 v4 ho hb0; have hb : Below w3.heap.size w3 v4 := (below_one w3 _).trans hb0; obtain ⟨s4, rfl⟩ := (G3.out.new (show OwnsR encI 2 24 v4 w3.heap.size X4 q.F.v.s from ho)).sl; have O4 := Lib.hid (G3.out.new (show OwnsR encI 2 24 v4 w3.heap.size _ q.F.v.s from ho)); have H4 := Lib.hid (G3.out.step hb); have K1 := Lib.hid (K1.out.later hb); have K2 := Lib.hid (K2.out.later hb); have K3 := Lib.hid (K3.out.later hb); clear ho hb hb0 C4 GA p0 p1 p2 p3 p4 p5 p6 p7 p8 p9 p10 p11 p12 p13; obtain ⟨p0, p1, p2, p3, p4, p5, p6, p7, p8, p9, p10, p11, p12, p13⟩ := fb_cells H4.out.x; (try dsimp only at p0 p1 p2 p3 p4 p5 p6 p7 p8 p9 p10 p11 p12 p13); obtain ⟨-, -, -, -, -, -, -, -, -, -, -, -, -, f9⟩ := fb_free H4.out.x)
  have G4 := Lib.hid (show ApG w ⟨q.F, s1, s2, q.c, s3, s4⟩ _ from H4.out.put (fb_sete H4.out.x s4))
  have K1 := Lib.hid (K1.out.past 13 (.slice s4.1 s4.2.1 s4.2.2))
  have K2 := Lib.hid (K2.out.past 13 (.slice s4.1 s4.2.1 s4.2.2))
  have K3 := Lib.hid (K3.out.past 13 (.slice s4.1 s4.2.1 s4.2.2))
  have K4 := Lib.hid (O4.out.past 13 (.slice s4.1 s4.2.1 s4.2.2))
  clear p0 p1 p2 p3 p4 p5 p6 p7 p8 p9 p10 p11 p12 p13 H4 O4 G3
  try clear f9
  generalize v4.setCell ⟨w.heap.size, 13, none⟩ (.slice s4.1 s4.2.1 s4.2.2) = w4 at *
  have CP := Lib.hid (show CpI w ⟨q.F, s1, s2, q.c, s3, s4⟩ w4 from ⟨G4.out, K1.out, K2.out, K3.out, K4.out⟩)
  clear G4 K1 K2 K3 K4
  obtain ⟨os, hc, hr⟩ := HR.out.r
  have hsl := rcs_len hc
  have HC := Lib.hid hc
  have HER := Lib.hid hr
  have HLL := Lib.hid hr.len
  have hos : os.length ≤ 20000 := by have := HF.out.r; have := hr.len; omega
  clear hc hr
  obtain ⟨F, qa, qb, ⟨C0, C1, C2⟩, qd, qe⟩ := q
  dsimp only at hsl
  subst hsl
  obtain ⟨p0, p1, p2, p3, p4, p5, p6, p7, p8, p9, p10, p11, p12, p13⟩ := fb_cells CP.out.g.x
  try dsimp only at p0 p1 p2 p3 p4 p5 p6 p7 p8 p9 p10 p11 p12 p13
  go_wp2_with fail
  clear p0 p1 p2 p3 p4 p5 p6 p7 p8 p9 p10 p11 p12 p13
  go_loopw [3, 4] (fun sl3 sl4 wr => ∃ (k : Nat) (ns : List Raw) (s : SL), k ≤ os.length ∧ sl4 = .int .i64 k ∧ sl3 = .slice s.1 s.2.1 s.2.2 ∧ ns.length = k ∧ Hid (OwnsR encW 4 76 wr (w.heap.size + 2) (.slice s.1 s.2.1 s.2.2) ns) ∧ Hid (EachO (ApN w) wr ns (F.v.r.take k)) ∧ Hid (CpI w ⟨F, s1, s2, (C0, os.length, C2), s3, s4⟩ wr)) (fun _ sl4 _ => os.length - (intOf sl4).toNat)
  case atStart => exact ⟨0, [], (none, 0, 0), by omega, rfl, rfl, rfl, Lib.hid (OwnsR.nil _ _ _), Lib.hid trivial, CP⟩
  case round =>
    obtain ⟨k, ns, s, hkl, rfl, rfl, hn, HO, HE, HP⟩ := hrel
    have i3 : (0 : Int) ≤ (k : Int) := by omega
    obtain ⟨p0, p1, p2, p3, p4, p5, p6, p7, p8, p9, p10, p11, p12, p13⟩ := fb_cells HP.out.g.x
    try dsimp only at p0 p1 p2 p3 p4 p5 p6 p7 p8 p9 p10 p11 p12 p13
    by_cases hlt : k < os.length
    · have hd : decide ((k : Int) < (os.length : Int)) = true := by simp; omega
      have i4 : (k : Int) < (os.length : Int) := by omega
      have hlk : k < F.v.r.length := by have h9 : os.length = F.v.r.length := HLL.out; omega
      obtain ⟨ad, hC0⟩ := HC.out.addr (show 0 < os.length by omega)
      subst hC0
      obtain ⟨e1, e2, hN⟩ := HER.out.at_ k hlt hlk
      have HN := Lib.hid hN
      have HNL := Lib.hid (HF.out.n _ (List.getElem_mem hlk))
      have EE := Lib.hid (And.intro e1 e2)
      have ET := Lib.hid (show F.v.r.take (k + 1) = F.v.r.take k ++ [F.v.r[k]] from List.take_succ_eq_append_getElem hlk)
      clear hN e1 e2
      have c0 := Rcs.first HC.out HP.out.g.b hlt (u := .int .i64 os[k].1.1) rfl
      have c1 := Rcs.cell HC.out HP.out.g.b hlt 1 (by omega) (u := .int .i64 os[k].1.2) rfl
      have c2 := Rcs.cell HC.out HP.out.g.b hlt 2 (by omega) (u := .int .i64 os[k].2.1) rfl
      have c3 := Rcs.cell HC.out HP.out.g.b hlt 3 (by omega) (u := .slice os[k].2.2.1 os[k].2.2.2.1 os[k].2.2.2.2) rfl
      generalize F.v.r[k] = r at *
      generalize os[k] = y at *
      obtain ⟨⟨y1, y2⟩, y3, ⟨n1, n2, n3⟩⟩ := y
      dsimp only at c0 c1 c2 c3
      go_upto_region 10 with fail
      have hb5 := below_one wr (.cells #[.int .i64 y1, .int .i64 y2, .int .i64 y3, .slice n1 n2 n3] 76)
      have X5 := Lib.hid (show (wr.alloc (.cells #[.int .i64 y1, .int .i64 y2, .int .i64 y3, .slice n1 n2 n3] 76)).heap[wr.heap.size]? = some (.cells #[.int .i64 y1, .int .i64 y2, .int .i64 y3, .slice n1 n2 n3] 76 (0, 0)) from heap_alloc_new wr _)
      have HP5 := Lib.hid (HP.out.later hb5)
      have HO5 := Lib.hid (HO.out.below hb5)
      have HE5 := Lib.hid (EachO.later hb5 HE.out)
      have hrb : w.heap.size + 1 < wr.heap.size := HP.out.g.two
      have HFAR := Lib.hid fun j (hj : (Value.slice s.1 s.2.1 s.2.2).ownBlock = some j) => (World.ownsRow.lt HO.out j hj).2
      clear hb5 c0 c1 c2 c3 p0 p1 p2 p3 p4 p5 p6 p7 p8 p9 p10 p11 p12 p13 HP HO HE
      generalize wr.alloc (.cells #[.int .i64 y1, .int .i64 y2, .int .i64 y3, .slice n1 n2 n3] 76) = w5 at *
      generalize wr.heap.size = rb at *
      have C6 := Lib.hid (show Rcs encI 2 w5 (.slice n1 n2 n3) r.2.2 from Rcs.below HN.out HP5.out.g.b)
      have d3 : (w5.alloc (.cells #[] 24)).cell? ⟨rb, 3, none⟩ = some (.slice n1 n2 n3) := by
        rw [cell_of_row _ _ _ _ _ _ ((Below.heap_alloc _ _ _ (row_lt X5.out)).trans X5.out)]
        rfl
      go_upto_region 11 with (at_builtin; refine wpList_append_recs 26 24 Try.underlying26 info24 rfl encI_len (by decide) encI_one (by decide) rfl (.tmp 48) (.tmp 50) rfl _ w5.heap.size _ _ [] r.2.2 rfl rfl (owns_litG 24 w5) (Rcs.below C6.out (below_one w5 _)) (by have := HNL.out; simp; omega) (by simp) ?_; intro X6 v6 ho hb0; have hb : Below w5.heap.size w5 v6 := (below_one w5 _).trans hb0; obtain ⟨t, rfl⟩ := (HP5.out.g.new (show OwnsR encI 2 24 v6 w5.heap.size X6 r.2.2 from ho)).sl; have O6 := Lib.hid (HP5.out.g.new (show OwnsR encI 2 24 v6 w5.heap.size _ r.2.2 from ho)); have HP6 := Lib.hid (HP5.out.later hb); have HO6 := Lib.hid (HO5.out.below hb); have HE6 := Lib.hid (EachO.later hb HE5.out); have X6 := Lib.hid ((hb.block _ (row_lt X5.out)).trans X5.out); have d6 : v6.cell? ⟨rb, 3, none⟩ = some (.slice n1 n2 n3) := (by rw [cell_of_row _ _ _ _ _ _ X6.out]; rfl); have f6 := frozen_of_row v6 rb 3 _ _ X6.out; clear ho hb hb0 C6 d3 X5 HP5 HO5 HE5)
      have G7 := Lib.hid (show Grew 76 w v6 (v6.setCell ⟨rb, 3, none⟩ (.slice t.1 t.2.1 t.2.2)) from ⟨some rb, grown_one v6 rb 3 _, fun j e => by injection e with e; subst e; exact ⟨hrb, _, X6.out⟩⟩)
      have X7 := Lib.hid (show (v6.setCell ⟨rb, 3, none⟩ (.slice t.1 t.2.1 t.2.2)).heap[rb]? = some (.cells #[.int .i64 y1, .int .i64 y2, .int .i64 y3, .slice t.1 t.2.1 t.2.2] 76 (0, 0)) from by have := heap_setCell_same v6 rb 3 _ 76 (.slice t.1 t.2.1 t.2.2) X6.out; simpa using this)
      have HO7 := Lib.hid (show OwnsR encW 4 76 (v6.setCell ⟨rb, 3, none⟩ (.slice t.1 t.2.1 t.2.2)) (w.heap.size + 2) (.slice s.1 s.2.1 s.2.2) ns from ownsRow_on HO6.out fun j hj => Below.heap_setCell _ _ _ _ (fun e => by have := HFAR.out j hj; have e2 : j = rb := e; omega))
      have HP7 := Lib.hid (HP6.out.grew G7.out)
      have HE7 := Lib.hid (EachO.grew G7.out (by decide) HE6.out)
      have O7 := Lib.hid (O6.out.grew G7.out (by decide))
      clear d6 f6 X6 HO6 HP6 HE6 O6 G7
      generalize v6.setCell ⟨rb, 3, none⟩ (.slice t.1 t.2.1 t.2.2) = w7 at *
      have x0 : w7.cell? ⟨rb, 0, none⟩ = some (.int .i64 y1) := by rw [cell_of_row _ _ _ _ _ _ X7.out]; rfl
      have x1 : w7.cell? ⟨rb, 1, none⟩ = some (.int .i64 y2) := by rw [cell_of_row _ _ _ _ _ _ X7.out]; rfl
      have x2 : w7.cell? ⟨rb, 2, none⟩ = some (.int .i64 y3) := by rw [cell_of_row _ _ _ _ _ _ X7.out]; rfl
      have x3 : w7.cell? ⟨rb, 3, none⟩ = some (.slice t.1 t.2.1 t.2.2) := by rw [cell_of_row _ _ _ _ _ _ X7.out]; rfl
      have hnl : ns.length ≤ 90000 := by omega
      have h72 : w.heap.size + 2 ≤ w7.heap.size := HP7.out.g.two
      have HSN := Lib.hid (show EachO (ApN w) w7 (ns ++ [((y1, y2), y3, t)]) (F.v.r.take k ++ [r]) from EachO.snoc (q := ((y1, y2), y3, t)) ⟨EE.out.1, EE.out.2, O7.out⟩ HE7.out)
      go_wp2_with (at_builtin; refine wpList_push_row rfl (.tmp 53) (.tmp 55) rfl w w7 (.slice s.1 s.2.1 s.2.2) ns ((y1, y2), y3, t) rfl rfl HO7.out hnl h72 ?_; intro X8 w8 ho hg; obtain ⟨s', rfl⟩ := ownsR_sl ho; have HO8 := Lib.hid ho; have HG8 := Lib.hid (show Grew 76 w w7 w8 from hg); clear ho hg)
      go_roundw
      case rel => exact ⟨k + 1, _, s', by omega, by go_num, rfl, by simp [hn], HO8, Lib.hid (by rw [ET.out]; exact EachO.grew HG8.out (by decide) HSN.out), Lib.hid (HP7.out.grew HG8.out)⟩
      case measure => simp [intOf]; omega
    · obtain rfl : k = os.length := by omega
      have hd : decide ((os.length : Int) < (os.length : Int)) = false := by simp
      have E4 := Lib.hid (show EachO (ApN w) wr ns F.v.r from by have h9 : os.length = F.v.r.length := HLL.out; have := HE.out; rwa [h9, List.take_length] at this)
      have R4 := Lib.hid (show In1 encW 4 76 (ApN w) wr (.slice s.1 s.2.1 s.2.2) ns from In1.of_base HO.out fun j hj => by unfold ApN; omega)
      obtain ⟨-, -, -, -, -, -, -, -, -, -, -, f9, -, -⟩ := fb_free HP.out.g.x
      have H5 := HP
      clear HO HE
      have G6 := Lib.hid (show ApG w ⟨F, s1, s2, s, s3, s4⟩ _ from H5.out.g.put (fb_setc H5.out.g.x s))
      have X6 := Lib.hid G6.out.x
      have Z6 := Lib.hid G6.out.z
      go_wp2_with first
        | (refine wpList_load_row rfl 32 (.tmp 1) rfl _ rfl 32 _ (0, 0) _ X6.out Try.underlying32 rfl (size32 _) ?_)
        | (refine wpList_store_row rfl 32 (.tmp 2) (.tmp 60) rfl _ _ rfl rfl 32 _ Z6.out (size32 _) rfl (fc_one _) ?_)
      have K1 := Lib.hid (H5.out.m.past 11 (.slice s.1 s.2.1 s.2.2))
      have K2 := Lib.hid (H5.out.f.past 11 (.slice s.1 s.2.1 s.2.2))
      have K3 := Lib.hid (H5.out.c.past 11 (.slice s.1 s.2.1 s.2.2))
      have K4 := Lib.hid (H5.out.s.past 11 (.slice s.1 s.2.1 s.2.2))
      have R6 := Lib.hid (R4.out.past 11 (.slice s.1 s.2.1 s.2.2))
      have E6 := Lib.hid (E4.out.past 11 (.slice s.1 s.2.1 s.2.2))
      clear p0 p1 p2 p3 p4 p5 p6 p7 p8 p9 p10 p11 p12 p13 H5 HP R4 E4
      generalize wr.setCell ⟨w.heap.size, 11, none⟩ (.slice s.1 s.2.1 s.2.2) = w6 at *
      have Z7 := Lib.hid (show FB (w6.setRow (w.heap.size + 1) (fc ⟨F, s1, s2, s, s3, s4⟩)) (w.heap.size + 1) ⟨F, s1, s2, s, s3, s4⟩ from setRow_set Z6.out)
      have ON : On (ApN w) w6 (w6.setRow (w.heap.size + 1) (fc ⟨F, s1, s2, s, s3, s4⟩)) := fun k hk => setRow_other _ _ _ _ (by unfold ApN at hk; omega)
      have B7 := Lib.hid (below_setRow G6.out.b (show w.heap.size ≤ w.heap.size + 1 by omega) (fc ⟨F, s1, s2, s, s3, s4⟩))
      have F7 := Lib.hid (show FO (ApN w) (w6.setRow (w.heap.size + 1) (fc ⟨F, s1, s2, s, s3, s4⟩)) ⟨F, s1, s2, s, s3, s4⟩ from ⟨K1.out.on ON, K2.out.on ON, ⟨ns, R6.out.on ON, E6.out.on ON⟩, K3.out.on ON, K4.out.on ON⟩)
      clear ON
      generalize w6.setRow (w.heap.size + 1) (fc ⟨F, s1, s2, s, s3, s4⟩) = w7 at *
      refine bodyPost_ret (results_cell_row Try.results21 _ _ (w.heap.size + 1) 32 _ (0, 0) _ rfl Z7.out Try.underlying32 rfl (size32 _)) rfl ?_
      exact ⟨_, rfl, rfl, F7.out.lt.mono (fun k hk => ⟨by have := hk.1; unfold ApN at this; omega, hk.2⟩), B7.out⟩
end Go.Proofs.Ytmgiglefabbmcaa
