/-
  Walks over the program's watch: who is watched. No statement is proved in this text; it holds for every input that its premises let by.
-/
import Derived.Test.YtkoeplgkiogjlaaWchE
import Derived.Test.YtkoeplgkiogjlaaGive
import Derived.Test.YtkoeplgkiogjlaaRingB
import Derived.Test.YtkoeplgkiogjlaaKeyId
set_option maxRecDepth 20000
namespace Go.Proofs.Ytkoeplgkiogjlaa
open Go Go.RowKit Sets Go.Maps Go.ChangeMaps Go.MapKept
attribute [local go_sem] Oper.semAt_some
variable {S S2 : Nat → Prop} {W W' : World} {p f n : Nat} {mb : Option Nat} {e : Dt} {K : List Id2} {D : Id2 → Dt} {L : Id2 → Nat}
theorem owns_walk {w : World} {base : Nat} {v : Value} {l : List Id2} (h : Owns w base v l) {r : Nat} {o : Obj} (hr : w.heap[r]? = some o) (hw : o.isWalk = true) : v.ownBlock ≠ some r := fun e => by
  rcases h.2 with ⟨rfl, _⟩ | ⟨g, cap, cur, rfl, _, hg, _⟩
  · cases e
  · injection e with e
    have e2 : g = r := e
    subst e2
    rw [hg] at hr
    cases hr
    cases hw
theorem RowI.walks {n0 lo X b r : Nat} {A B : World} {l : List Id2} (h : RowI n0 lo X b A l) (hg : A.grownBy B (some r)) {o : Obj} (hr : A.heap[r]? = some o) (hw : o.isWalk = true) : RowI n0 lo X b B l := by
  obtain ⟨v, h1, h2, h3⟩ := h
  refine ⟨v, h1.grown hg (fun e => ?_), h2.kept hg (fun g hv e => ?_), h3⟩
  · injection e with e
    unfold One at h1
    rw [e, h1] at hr
    cases hr
    cases hw
  · injection e with e
    exact owns_walk h2 hr hw (by rw [hv, e])
theorem owns_keeps {w w' : World} {base : Nat} {v : Value} {l : List Id2} (h : Owns w base v l) (hg : w.grownBy w' v.ownBlock) : KeepsWalks w w' :=
  ⟨hg.size, fun k _ hk ho => (hg.block k (row_lt hk) (fun e => owns_walk h hk ho e.symm)).trans hk⟩
set_option maxHeartbeats 4000000 in
theorem appendSeq_gives (tA N : Nat) (Sx : List Id2 → Prop) (w : World) (hN : N ≤ 99999) (hS : SeqGives Fence.wide 1 Try.prog 57 #[.pointer (some ⟨tA, 0, none⟩)] idv Sx N w) :
    Calls Try.prog 56 #[.slice none 0 0, .func (.func 57) #[] #[.pointer (some ⟨tA, 0, none⟩)]] w fun e w' => ∃ xs, Sx xs ∧ xs.length ≤ N ∧ Lists xs w e w' := by
  have HSq := Lib.hid hS
  clear hS
  refine (callsIn_wide (n := 0)).1 ?_
  refine callsIn_of_wp_marks Try.func56 rfl trivial ?_
  simp only [Try.ntmps56, List.size_toArray, List.length_cons, List.length_nil, Nat.reduceAdd, Nat.reduceSub, Array.replicate_succ, Array.replicate_zero, List.push_toArray, List.append_toArray, List.nil_append, List.cons_append]
  gi_wp2
  have X0 := Lib.hid (one_new w 36 (.slice none 0 0))
  have B0 := Lib.hid (below_one w (.cells #[.slice none 0 0] 36))
  have hs0 : (w.alloc (.cells #[.slice none 0 0] 36)).heap.size = w.heap.size + 1 := by simp
  generalize hw1 : w.alloc (.cells #[.slice none 0 0] 36) = w1 at *
  clear hw1
  refine wp_gives (P := Try.prog) (gf := 57) (lb := #[.pointer (some ⟨tA, 0, none⟩)]) rfl (enters_fn Try.func57 (by kernel_rfl) rfl) HSq.out B0.out rfl
    (fun pre A => Below w.heap.size w A ∧ RowI w1.heap.size (w.heap.size + 1) w.heap.size w.heap.size A pre) ?start ?keep ?round ?done
  case start =>
    intro W hW hb
    exact ⟨B0.out.trans (hb.mono (by omega)), _, one_below X0.out hb, owns_nil _ _, fun g e => by cases e⟩
  case keep =>
    rintro pre A B row ⟨h1, h2⟩ hg hrow
    rcases row with _ | r
    · exact ⟨h1.grown hg h1.size (fun k e => by cases e), h2.grown hg (fun e => by cases e) (fun g e => by cases e)⟩
    · rcases hrow r rfl with e | ⟨e, o, ho, hw⟩
      · exact ⟨h1.grown hg h1.size (fun k e2 => by injection e2 with e2; omega), h2.grown hg (fun e2 => by injection e2 with e2; omega) (fun g e2 => by injection e2 with e2; left; omega)⟩
      · exact ⟨h1.grown hg h1.size (fun k e2 => by injection e2 with e2; omega), h2.walks hg ho hw⟩
  case done =>
    rintro xs W hSx hlen ⟨h1, h2⟩ hD
    obtain ⟨v', hX, hO, _⟩ := h2
    have cX := one_cell hX
    have HO := Lib.hid hO
    have HBW := Lib.hid h1
    have HX2 := Lib.hid hSx
    have HL2 := Lib.hid hlen
    clear hX hO h1 hSx hlen
    gi_wp2
    refine ⟨by simp, .inl ⟨_, _, rfl, run_takeDeferred hD, ?_⟩⟩
    have hgd := grownBy_putObj' W w1.heap.size (.deferred none)
    refine ⟨_, results_tmp rfl _ _ _, xs, HX2.out, HL2.out, _, rfl, Ids.cells (ids_of_owns HO.out) hgd.size (cells_deferred hD hgd), ?_⟩
    exact HBW.out.grown hgd HBW.out.size fun k hk => by injection hk with hk; omega
  case round =>
    rintro pre x A hpN ⟨hbA, hI⟩ hA ⟨r, hlr⟩
    have e : ∀ t : Array Value, ((#[7] : Array Tmp).zip #[idv x]).foldl (fun t (p, v) => t.setIfInBounds p v) t = t.setIfInBounds 7 (.agg #[.int .i64 x.1, .int .i64 x.2]) := fun t => by simp [idv]
    rw [e]
    simp only [List.setIfInBounds_toArray, List.set_cons_zero, List.set_cons_succ]
    clear e
    gi_wp2
    have N1 := Lib.hid (below_one A (.cells #[.int .i64 x.1, .int .i64 x.2] 35))
    have N2 := Lib.hid (box_new A x.1 x.2)
    refine ⟨N1.out.block _ (by omega), N1.out.block _ (by omega), KeepsWalks.alloc _ _, fun C hC => ?_⟩
    have gA : A.grownBy (A.alloc (.cells #[.int .i64 x.1, .int .i64 x.2] 35)) none := World.grownBy_alloc _ _ _
    have hI2 := (hI.grown gA (by simp) (fun g e => by cases e)).grown hC (fun e => by injection e with e; omega) (fun g e => by injection e with e; left; omega)
    have hb2 := (hbA.grown gA hbA.size (fun k e => by cases e)).grown hC (Nat.le_trans hbA.size gA.size) (fun k e => by injection e with e; omega)
    have hxb := Box.grown N2.out hC (fun e => by injection e with e; omega)
    obtain ⟨v', h1, h2, h3⟩ := hI2
    have hsC : w1.heap.size + 2 ≤ C.heap.size := Nat.le_trans hA (Nat.le_trans gA.size hC.size)
    have H1 := Lib.hid h1
    have H2 := Lib.hid h2
    have H3 := Lib.hid h3
    have HB2 := Lib.hid hb2
    obtain ⟨x1, x2⟩ := box_cells hxb
    have cX := one_cell h1
    have hpl : pre.length ≤ 99999 := by omega
    clear h1 h2 h3 hb2 hxb hI hbA gA hC N1 N2 hlr
    gi_wp2_with (gi_at_builtin; refine wpListIn_push rfl (.tmp 8) (.tmp 10) rfl C w.heap.size v' pre x.1 x.2 rfl rfl H2.out hpl (by omega) ?_; intro g cap w2 p1 p2 p3 p4; have P1 := Lib.hid p1; have P2 := Lib.hid p2; have P3 := Lib.hid p3; clear p1 p2 p3; have hX2 := H1.out.grown P2.out (fun e => by have := H3.out _ e; omega); have cX := one_cell hX2; have fX := one_free hX2; clear hX2)
    have hfin := RowI.pushed (by omega) hsC H1.out H3.out P1.out P2.out P3.out
    have same : ∀ j, j < C.heap.size → j = w1.heap.size ∨ j = w1.heap.size + 1 → (w2.setCell ⟨w.heap.size, 0, none⟩ (.slice (some ⟨g, 0, none⟩) (pre.length + 1) cap)).heap[j]? = C.heap[j]? := fun j hj hjX => by
      rw [Below.heap_setCell _ _ _ _ (show j ≠ w.heap.size by omega), P2.out.block j hj (fun e => by have := H3.out j e.symm; omega)]
    refine ⟨same _ (by omega) (.inl rfl), same _ (by omega) (.inr rfl), ⟨?_, hfin⟩, (owns_keeps H2.out P2.out).trans (KeepsWalks.setCell _ _ _)⟩
    exact (HB2.out.grown P2.out HB2.out.size (fun k e => (World.ownsRow.lt H2.out k e).1)).grown (grown_set _ _ _ _) (Nat.le_trans HB2.out.size P2.out.size) (fun k e => by injection e with e; exact Nat.le_of_eq e)
theorem collect_gives (tA N : Nat) (Sx : List Id2 → Prop) (w : World) (hN : N ≤ 99999) (hS : SeqGives Fence.wide 1 Try.prog 57 #[.pointer (some ⟨tA, 0, none⟩)] idv Sx N w) :
    Calls Try.prog 41 #[.func (.func 57) #[] #[.pointer (some ⟨tA, 0, none⟩)]] w fun e w' => ∃ xs, Sx xs ∧ xs.length ≤ N ∧ Lists xs w e w' := by
  go_enter Try.func41, Try.ntmps41
  go_wp2_with fail
  refine (appendSeq_gives tA N Sx w hN hS).mono ?_
  rintro e w1 ⟨xs, h0, h3, r, rfl, h1, h2⟩
  have H0 := Lib.hid h0
  have H1 := Lib.hid h1
  have H2 := Lib.hid h2
  have H3 := Lib.hid h3
  clear h0 h1 h2 h3
  go_wp2_with fail
  go_ret
  exact ⟨xs, H0.out, H3.out, _, rfl, H1.out, H2.out⟩
/-- The keys of a map that there is none of. -/
theorem keys_none (tA : Nat) (w : World) (hm : w.cell? ⟨tA, 0, none⟩ = some (.map none)) (hA : tA < w.heap.size) : SeqGives Fence.wide 1 Try.prog 57 #[.pointer (some ⟨tA, 0, none⟩)] idv (fun xs => xs = []) 0 w := fun l J W hW hJ hY h0 => by
  have hc : W.cell? ⟨tA, 0, none⟩ = some (.map none) := (hW.cell (p := ⟨tA, 0, none⟩) hA).trans hm
  have hrg : ∀ wx : World, (Instr.range 55 (.map none)).run Try.prog wx = _ := fun wx => run_range_nilMap wx 55 35 52 Try.underlying55
  have hnx : ∀ ty, (Instr.next (.pointer (some ⟨W.heap.size, 0, none⟩)) false ty).run Try.prog (W.alloc (.mapIter none 0 #[] 0)) = .ok (.tuple #[.bool false]) (W.alloc (.mapIter none 0 #[] 0)) := fun ty => run_next_nilMap W ty 0 0 #[]
  refine (callsIn_wide (n := 1)).2 ?_
  have HJ := Lib.hid (hJ [] W _ none h0 (World.grownBy_alloc W (.mapIter none 0 #[] 0) none) (fun r e => by cases e))
  clear hW hJ hY h0 hm hA
  go_enter Try.func57, Try.ntmps57
  go_wp2_with fail
  go_loopw [6] (fun _ wr => wr = W.alloc (.mapIter none 0 #[] 0)) (fun _ _ => 0)
  case atStart => rfl
  case round =>
    subst hrel
    go_wp2_with fail
    go_end0
    exact ⟨⟨_, rfl⟩, [], rfl, HJ.out⟩
theorem keysF_any (mb : Option Nat) (w : World) : Calls Try.prog 42 #[.map mb] w fun e w' => e = .returned (.func (.func 57) #[] #[.pointer (some ⟨w.heap.size, 0, none⟩)]) ∧ One w' w.heap.size 55 (.map mb) ∧ Below w.heap.size w w' := by
  have h1 := Lib.hid (one_new w 55 (.map mb))
  have h2 := Lib.hid (below_one w (.cells #[.map mb] 55))
  go_enter Try.func42, Try.ntmps42
  go_wp2_with fail
  go_ret
  exact ⟨rfl, h1.out, h2.out⟩
theorem gives_to {α : Type} {F : Fence} {m : Nat} {P : Program} {g : Nat} {lb : Array Value} {enc : α → Value} {A B : List α → Prop} {N M : Nat} {w : World} (h : SeqGives F m P g lb enc A N w) (hAB : ∀ xs, A xs → B xs) (hN : N ≤ M) : SeqGives F m P g lb enc B M w :=
  fun l J W hW hJ hY h0 => (h l J W hW hJ (fun pre x W1 hj hl => hY pre x W1 hj (Nat.lt_of_lt_of_le hl hN)) h0).mono fun _ _ ⟨h1, xs, h2, h3⟩ => ⟨h1, xs, hAB xs h2, h3⟩
theorem Inn.gives (h : Inn S W p f mb n e K D L) {tA : Nat} (hA : One W tA 55 (.map mb)) : SeqGives Fence.wide 1 Try.prog 57 #[.pointer (some ⟨tA, 0, none⟩)] idv (fun xs => ∀ q, q ∈ xs ↔ q ∈ K) n W := by
  have hm := h.map
  cases mb with
  | none =>
    have hK : K = [] := hm
    subst hK
    exact gives_to (keys_none tA W (one_cell hA) (one_lt hA)) (fun xs e => by subst e; exact fun q => Iff.rfl) (Nat.zero_le _)
  | some b =>
    refine gives_to (keysI_gives Fence.wide 1 trivial rfl (Nat.le_refl _) tA b n W (one_lt hA) (one_cell hA) hm.2) (fun xs ⟨_, h2, h3⟩ q => ?_) (Nat.le_refl _)
    have he : (mapOf K L q).isSome = true ↔ q ∈ K := by
      unfold mapOf
      by_cases hq : q ∈ K <;> simp [hq]
    constructor
    · exact fun hq => he.1 ((h3 q (h2 q hq)).1 hq)
    · exact fun hq => (h3 q (h.in2 q hq)).2 (he.2 hq)
/-- THE PROGRAM's Watched. -/
theorem watched_any (h : Inn S W p f mb n e K D L) (hn : n ≤ 40000) (hK : Rises K) : Calls Try.prog 19 #[.pointer (some ⟨p, 0, none⟩)] W (News K W) := by
  have H := Lib.hid h
  have HK := Lib.hid hK
  obtain ⟨c0, c1⟩ := h.cells
  clear h hK
  go_enter Try.func19, Try.ntmps19
  go_wp2_with fail
  (with_reducible refine (keysF_any mb _).mono ?_)
  rintro en w1 ⟨rfl, h1, h2⟩
  have B1 := Lib.hid h2
  have G1 := Lib.hid ((H.out.keep h2).gives h1)
  clear h1 h2 c0 c1
  go_wp2_with fail
  (with_reducible refine (collect_gives _ n _ w1 (by omega) G1.out).mono ?_)
  rintro en w2 ⟨xs, hx, hlx, r, rfl, h1, h2⟩
  have E2 := Lib.hid (show setOf xs = K from (setOf_ext hx).trans (setOf_self HK.out))
  have I2 := Lib.hid h1
  have B2 := Lib.hid (below_after B1.out h2 (Nat.le_refl _))
  clear h1 h2 hx
  go_wp2_with fail
  (with_reducible refine (set_new r xs _ I2.out (by omega)).mono ?_)
  rintro en w3 ⟨r3, rfl, h1, h2⟩
  rw [E2.out] at h1
  have O3 := Lib.hid (h1.mono B2.out.size)
  have B3 := Lib.hid (below_after B2.out h2 (Nat.le_refl _))
  clear h1 h2
  go_wp2_with fail
  go_ret
  exact ⟨r3, rfl, O3.out, B3.out⟩
end Go.Proofs.Ytkoeplgkiogjlaa
