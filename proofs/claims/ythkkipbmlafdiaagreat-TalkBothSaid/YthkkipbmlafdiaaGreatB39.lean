/-
  Contracts and plain facts.
-/
import Derived.Test.YthkkipbmlafdiaaGreatB36
import Derived.Test.YthkkipbmlafdiaaGreatB37
import Derived.Test.YthkkipbmlafdiaaGreatB38
set_option maxRecDepth 20000
namespace Go.Proofs.YthkkipbmlafdiaaGreat
section
open Go Go.RowKit
namespace Ros
def NumOk7 (x : St) : Prop := x.n ≠ 0 → x.n ≤ x.f ∨ mayNum x.s x.p = true
theorem numOk7_or {x y : St} (gx : Good x) (hx : NumOk x) (hy : NumOk7 y) : NumOk7 (x.or y) := by
 rcases Int.lt_trichotomy x.n y.n with h | h | h
 ·rw [or_lt h]
  intro hn;rcases hy hn with a | a
  ·exact .inl (by show y.n ≤ max (max x.f y.f) x.n; omega)
  ·exact .inr a
 ·rw [or_eq gx.f0 h]
  intro hn;have hn' : y.n ≠ 0 := hn
  rcases hy hn' with a | a
  ·exact .inl (by show y.n ≤ max x.f y.f; omega)
  ·have := numOk_or gx hx (y := y) (fun _ => a)
   rw [or_eq gx.f0 h] at this;exact .inr (this hn)
 ·rw [or_gt h]; exact fun hn => .inr (hx hn)
theorem numOk7_one {x : Mm} (hv : vidP x.1 = true) (hn : x.2.1 = 7 ∨ mayNum x.2.1 x.2.2 = true) (k : Nat) : NumOk7 (raw ([x], []) k) := by
 have hs : 1 ≤ x.2.1 ∧ x.2.1 ≤ 7 := by
  rcases hn with e | e
  ·omega
  ·have := mayNum_cases e; omega
 have hc : cnt x = true := by
  unfold cnt;rw [show vid x.1.1 x.1.2 = true from hv, decide_eq_true hs]
  rfl
 have e0 : raw ([x], []) k = (bigM k [x]).or (bigG k []) := by
  unfold raw;rw [filter_all (show ∀ y ∈ [x], cnt y = true from fun y hy => by rw [List.mem_singleton.1 hy]; exact hc)]
  rfl
 have hA : AllC [x] := fun y hy => by rw [List.mem_singleton.1 hy]; exact hc
 rw [e0, bigM_bigG hA (fun y hy => by cases hy)]
 by_cases e : x.1.1 = (k : Int)
 ·have hb : bigM k [x] = em x := by
   rw [bigM_yes e];exact or_zero (fit_em hc e).good
  rw [hb];intro _;rcases hn with e7 | e7
  ·left
   show x.1.2 ≤ max (if x.2.1 = 7 then x.1.2 else 0) _
   rw [if_pos e7];omega
  ·right
   have := mayNum_cases e7
   show mayNum x.2.1 (max x.2.2 0) = true
   rw [Int.max_eq_left (by omega)]
   exact e7
 ·rw [bigM_no e]
  exact fun h => absurd rfl h
theorem valid_set {a : Ls} {x : Mm} (ha : mayB a.1 a.2 = true) (hv : vidP x.1 = true) (hx : x.2.1 = 7 ∨ mayNum x.2.1 x.2.2 = true) : mayB (joinL a ([x], [])).1 (joinL a ([x], [])).2 = true := by
 have hn := norm_join a ([x], [])
 have := may_of (valid_outF hn id (fun _ => rfl) fun y hy => by
  obtain ⟨k, hk, hkn, rfl⟩ := mem_outM.1 hy;have h1 := numOk7_or (fit_raw a k).good (numOk_raw ha k) (numOk7_one hv hx k);unfold kill at hkn ⊢;split at hkn
  ·exact absurd rfl hkn
  ·rename_i hc
   rw [if_neg hc];exact (h1 hkn).resolve_left hc)
 rw [List.map_id] at this;exact this
end Ros
theorem clock_more (c : List Clocks.Tick) (y : Sets.Id2) : Clocks.joinC (Clocks.up c y) c = Clocks.up c y := Clocks.norm_ext (Clocks.norm_join _ _) (Clocks.norm_up _ _) fun x => by
 rw [Clocks.says_join, Clocks.says_up];split <;> omega
theorem few_up {N : Int} {c : List Clocks.Tick} {k : Nat} (hk : k < 4) (hN : 0 ≤ N) (h : ∀ t ∈ c, InB t.1 ∧ t.2 ≤ N) : ∀ t ∈ Clocks.up c (nid k), InB t.1 ∧ t.2 ≤ N + 1 := fun t ht => by
 obtain ⟨x, hx, rfl⟩ := List.mem_map.1 ht;have hm := (Sets.mem_setOf _ _).1 (List.mem_filter.1 hx).1
 have hs : Clocks.says c x ≤ N := by
  rcases Int.lt_or_le 0 (Clocks.says c x) with a | a
  ·exact (h _ (Clocks.says_mem a)).2
  ·exact Int.le_trans a hN
 refine ⟨?_, ?_⟩
 ·rcases List.mem_cons.1 hm with e | e
  ·subst e; exact nid_inB hk
  ·obtain ⟨u, hu, hux⟩ := List.mem_map.1 e
   subst hux;exact (h u hu).1
 ·dsimp only
  split <;> omega
theorem norm_gone {f : List Sets.Id2} {l : List RowSets.Row} (h : RowSets.Norm l) : RowSets.Norm (RowSets.gone f l) := ⟨RowSets.up_gone _ h.1, gone_rises h.2⟩
theorem few_gone {N : Int} {f : List Sets.Id2} {l : List RowSets.Row} (h : ∀ r ∈ l, FewR N r) : ∀ r ∈ RowSets.gone f l, FewR N r := fun r hr => by
 obtain ⟨r', hr', rfl⟩ := List.mem_map.1 hr;obtain ⟨f1, f2, f3, f4, f5⟩ := h r' (List.mem_filter.1 hr').1;exact ⟨f1, f2, f3, fun x hx => f4 x (List.mem_filter.1 hx).1, fun hx => f5 (List.mem_filter.1 hx).1⟩
def putV (V : Vw) (k : Nat) (x : Ros.Mm) : Vw := ⟨(Ros.joinL (V.m, V.f) ([x], [])).1, (Ros.joinL (V.m, V.f) ([x], [])).2, RowSets.gone (Ros.joinL (V.m, V.f) ([x], [])).2 V.r, Clocks.up V.c (nid k), [nid k]⟩
theorem put_ok {V : Vw} {k : Nat} {x : Ros.Mm} (h : OkV V) (hv : Ros.vidP x.1 = true) (hx : x.2.1 = 7 ∨ Ros.mayNum x.2.1 x.2.2 = true) : OkV (putV V k x) where
 ma := Ros.valid_set (a := (V.m, V.f)) h.ma hv hx
 nr := norm_gone h.nr
 gr := RowSets.gone_gone _ _
 nc := Clocks.norm_up _ _
theorem put_le {V : Vw} {k : Nat} {x : Ros.Mm} (h : OkV V) : Le V (putV V k x) := by
 have e : Ros.joinL (Ros.joinL (V.m, V.f) ([x], [])) (V.m, V.f) = Ros.joinL (V.m, V.f) ([x], []) := Ros.joinL_again _ _
 refine ⟨?_, ?_, ?_, clock_more _ _⟩
 ·show (Ros.joinL (Ros.joinL (V.m, V.f) ([x], [])) (V.m, V.f)).1 = _
  rw [e]; rfl
 ·show (Ros.joinL (Ros.joinL (V.m, V.f) ([x], [])) (V.m, V.f)).2 = _
  rw [e]; rfl
 ·show RowSets.gone (Ros.joinL (Ros.joinL (V.m, V.f) ([x], [])) (V.m, V.f)).2 (RowSets.joinR (RowSets.gone (Ros.joinL (V.m, V.f) ([x], [])).2 V.r) V.r) = RowSets.gone (Ros.joinL (V.m, V.f) ([x], [])).2 V.r
  rw [e, RowSets.gone_late, RowSets.joinR_self h.nr]
theorem put_few {N : Int} {V : Vw} {k : Nat} {x : Ros.Mm} (hk : k < 4) (hN : 0 ≤ N) (h : Few N V) : Few (N + 1) (putV V k x) := by
 refine ⟨fun r hr => ?_, few_up hk hN h.c, ?_, fun y hy => ?_⟩
 ·obtain ⟨a, b, c, d⟩ := few_gone h.r r hr
  exact ⟨a, b, by omega, d⟩
 ·exact List.pairwise_singleton _ _
 ·rw [List.mem_singleton.1 hy]; exact nid_inB hk
theorem joinR_setR {l : List RowSets.Row} (of : Sets.Id2) (not : List Sets.Id2) (h : RowSets.Norm l) : RowSets.joinR (RowSets.setR l of not) l = RowSets.setR l of not := by
 refine RowSets.up_ext (RowSets.up_joinR _ _) (RowSets.up_setR of not h.1) fun x => ?_
 rw [RowSets.get_joinR, RowSets.get_setR of not h.1];split
 ·exact RowSets.two_self h x
 ·split
  ·rename_i e
   subst e;rcases hg : RowSets.get l of with _ | s
   ·rw [RowSets.two_none]
   ·have e1 : RowSets.vers (some s) = s.1 := rfl
    simp only [RowSets.two];rw [if_pos (by rw [e1]; show s.1 < s.1 + 1; omega)]
  ·exact RowSets.two_self h x
def rowV (V : Vw) (k : Nat) (not : List Sets.Id2) : Vw := ⟨V.m, V.f, RowSets.gone V.f (RowSets.setR V.r (nid k) not), Clocks.up V.c (nid k), [nid k]⟩
theorem row_ok {V : Vw} {k : Nat} {not : List Sets.Id2} (h : OkV V) : OkV (rowV V k not) where
 ma := h.ma
 nr := norm_gone (RowSets.norm_setR _ _ h.nr)
 gr := RowSets.gone_gone _ _
 nc := Clocks.norm_up _ _
theorem row_le {V : Vw} {k : Nat} {not : List Sets.Id2} (h : OkV V) : Le V (rowV V k not) := by
 have e : Ros.joinL (V.m, V.f) (V.m, V.f) = (V.m, V.f) := Ros.valid_self (a := (V.m, V.f)) h.ma
 refine ⟨?_, ?_, ?_, clock_more _ _⟩
 ·show (Ros.joinL (V.m, V.f) (V.m, V.f)).1 = V.m
  rw [e]
 ·show (Ros.joinL (V.m, V.f) (V.m, V.f)).2 = V.f
  rw [e]
 ·show RowSets.gone (Ros.joinL (V.m, V.f) (V.m, V.f)).2 (RowSets.joinR (RowSets.gone V.f (RowSets.setR V.r (nid k) not)) V.r) = RowSets.gone V.f (RowSets.setR V.r (nid k) not)
  rw [e, RowSets.gone_late, joinR_setR _ _ h.nr]
theorem row_few {N : Int} {V : Vw} {k : Nat} {not : List Sets.Id2} (hk : k < 4) (hN : 0 ≤ N) (h : Few N V) (hV : OkV V) (hn : ∀ x ∈ not, InB x) : Few (N + 1) (rowV V k not) := by
 refine ⟨few_gone fun r hr => ?_, few_up hk hN h.c, List.pairwise_singleton _ _, fun y hy => ?_⟩
 ·have e := RowSets.get_of_mem (RowSets.up_setR _ not hV.nr.1) hr
  have old : ∀ {r : RowSets.Row}, RowSets.get V.r r.1 = some r.2 → FewR (N + 1) r := fun {r} e => by
   obtain ⟨a, b, c, d⟩ := h.r r (RowSets.get_mem (x := r.1) (s := r.2) e);exact ⟨a, b, by omega, d⟩
  rw [RowSets.get_setR _ not hV.nr.1] at e;split at e
  ·exact old e
  ·split at e
   ·rename_i hk2
    have e2 := Option.some.inj e
    have hw : ∀ x, x ∈ RowSets.wanted (nid k) not → InB x ∧ x ≠ nid k := fun x hx => by
     have hx := List.mem_filter.1 ((Sets.mem_setOf _ _).1 hx);exact ⟨hn x hx.1, of_decide_eq_true hx.2⟩
    have hver : 0 ≤ RowSets.vers (RowSets.get V.r (nid k)) ∧ RowSets.vers (RowSets.get V.r (nid k)) ≤ N := by
     rcases hg : RowSets.get V.r (nid k) with _ | s
     ·exact ⟨Int.le_refl _, hN⟩
     ·obtain ⟨_, b, c, _⟩ := h.r _ (RowSets.get_mem hg)
      have b : 1 ≤ s.1 := b
      exact ⟨by show 0 ≤ s.1; omega, c⟩
    refine ⟨by rw [← hk2]; exact nid_inB hk, ?_, ?_, fun x hx => ?_, fun hx => ?_⟩
    ·rw [← e2]; show 1 ≤ RowSets.vers _ + 1; omega
    ·rw [← e2]; show RowSets.vers _ + 1 ≤ N + 1; omega
    ·rw [← e2] at hx; exact (hw x hx).1
    ·rw [← e2, ← hk2] at hx; exact (hw _ hx).2 rfl
   ·exact old e
 ·rw [List.mem_singleton.1 hy]; exact nid_inB hk
end
section
open Go Go.RowKit
structure Acts (N : Int) (n : Nat → Nat) (chg : Nat → Nat → Vw) (now : Nat → Vw) (had : List Vw) : Prop where
 four : Four n chg now had
 few : (∀ k, k < 4 → Few N (now k)) ∧ ∀ V ∈ had, Few N V
theorem Acts.start : Acts 0 (fun _ => 0) (fun _ _ => noV) (fun _ => noV) [noV] := ⟨four_start, fun _ _ => few_none, fun V hV => by rw [List.mem_singleton.1 hV]; exact few_none⟩
theorem acts_few {N M : Int} {now : Nat → Vw} {had : List Vw} {k : Nat} {T : Vw} (hm : N ≤ M) (hN : ∀ j, j < 4 → Few N (now j)) (hH : ∀ V ∈ had, Few N V) (hT : Few M T) : (∀ j, j < 4 → Few M (now1 now k T j)) ∧ ∀ V ∈ had ++ [T], Few M V := by
 refine ⟨fun j hj => ?_, fun V hV => ?_⟩
 ·by_cases e : j = k
  ·subst e; rw [now1_at]; exact hT
  ·rw [now1_other e]; exact (hN j hj).mono hm
 ·rcases List.mem_append.1 hV with a | a
  ·exact (hH V a).mono hm
  ·rw [List.mem_singleton.1 a]; exact hT
theorem Acts.ok {N : Int} {n : Nat → Nat} {chg : Nat → Nat → Vw} {now : Nat → Vw} {had : List Vw} (h : Acts N n chg now had) {k : Nat} (hk : k < 4) : OkV (now k) := (h.four.tnow k hk).ok
theorem Acts.okH {N : Int} {n : Nat → Nat} {chg : Nat → Nat → Vw} {now : Nat → Vw} {had : List Vw} (h : Acts N n chg now had) {V : Vw} (hV : V ∈ had) : OkV V := (h.four.thad V hV).ok
theorem Acts.fit {N : Int} {n : Nat → Nat} {chg : Nat → Nat → Vw} {now : Nat → Vw} {had : List Vw} (h : Acts N n chg now had) {k : Nat} (hk : k < 4) : FitVIE 13 (now k) := few_fit (h.few.1 k hk) (h.ok hk)
theorem Acts.fitH {N : Int} {n : Nat → Nat} {chg : Nat → Nat → Vw} {now : Nat → Vw} {had : List Vw} (h : Acts N n chg now had) {V : Vw} (hV : V ∈ had) : FitVIE 13 V := few_fit (h.few.2 V hV) (h.okH hV)
def Next (N : Int) (now : Nat → Vw) (had : List Vw) (k : Nat) (T : Vw) : Prop :=
 covB T (now k) = true ∧ ∃ n' chg', Acts (N + 1) n' chg' (now1 now k T) (had ++ [T])
theorem le_cov {V U : Vw} (h : Le V U) : covB U V = true := same_core h.symm
theorem Acts.stay {N : Int} {n : Nat → Nat} {chg : Nat → Nat → Vw} {now : Nat → Vw} {had : List Vw} (h : Acts N n chg now had) {k : Nat} (hk : k < 4) : Next N now had k (now k) := by
 refine ⟨le_cov (le_refl (h.ok hk)), n, chg, stands_stay hk h.four, ?_⟩
 exact acts_few (show N ≤ N + 1 by omega) h.few.1 h.few.2 ((h.few.1 k hk).mono (by omega))
theorem Acts.tell {N : Int} {n : Nat → Nat} {chg : Nat → Nat → Vw} {now : Nat → Vw} {had : List Vw} (h : Acts N n chg now had) (hN : 0 ≤ N) {k : Nat} (hk : k < 4) {U : Vw} (hU : U ∈ had) : Next N now had k (tellV (now k) U k) := by
 refine ⟨le_cov (le_same (le_left (h.ok hk) (h.okH hU)) (SameC.refl _) (tell_same _ _ _).symm), n, chg, stands_tell hk h.four hU, ?_⟩
 exact acts_few (show N ≤ N + 1 by omega) h.few.1 h.few.2 ((few_tell hk (h.few.1 k hk) (h.few.2 U hU) hN).mono (by omega))
theorem says_up_nid (V : Vw) (k : Nat) (x : Sets.Id2) : Clocks.says (Clocks.up V.c (nid k)) x = if x = nid k then Clocks.says V.c x + 1 else Clocks.says V.c x := Clocks.says_up _ _ _
theorem Acts.put {N : Int} {n : Nat → Nat} {chg : Nat → Nat → Vw} {now : Nat → Vw} {had : List Vw} (h : Acts N n chg now had) (hN : 0 ≤ N) {k : Nat} (hk : k < 4) {x : Ros.Mm} (hv : Ros.vidP x.1 = true) (hx : x.2.1 = 7 ∨ Ros.mayNum x.2.1 x.2.2 = true) : Next N now had k (putV (now k) k x) := by
 refine ⟨le_cov (put_le (h.ok hk)), _, _, stands_change hk h.four (put_ok (h.ok hk) hv hx) (put_le (h.ok hk)) (says_up_nid _ _) rfl, ?_⟩
 exact acts_few (show N ≤ N + 1 by omega) h.few.1 h.few.2 (put_few hk hN (h.few.1 k hk))
theorem Acts.row {N : Int} {n : Nat → Nat} {chg : Nat → Nat → Vw} {now : Nat → Vw} {had : List Vw} (h : Acts N n chg now had) (hN : 0 ≤ N) {k : Nat} (hk : k < 4) {not : List Sets.Id2} (hn : ∀ x ∈ not, InB x) : Next N now had k (rowV (now k) k not) := by
 refine ⟨le_cov (row_le (h.ok hk)), _, _, stands_change hk h.four (row_ok (h.ok hk)) (row_le (h.ok hk)) (says_up_nid _ _) rfl, ?_⟩
 exact acts_few (show N ≤ N + 1 by omega) h.few.1 h.few.2 (row_few hk hN (h.few.1 k hk) (h.ok hk) hn)
end
section
open Go Go.RowKit
abbrev V5 := SL × SL × SL × SL × SL
def encV (t : V5) : List Value := [.slice t.1.1 t.1.2.1 t.1.2.2, .slice t.2.1.1 t.2.1.2.1 t.2.1.2.2, .slice t.2.2.1.1 t.2.2.1.2.1 t.2.2.1.2.2, .slice t.2.2.2.1.1 t.2.2.2.1.2.1 t.2.2.2.1.2.2, .slice t.2.2.2.2.1 t.2.2.2.2.2.1 t.2.2.2.2.2.2]
theorem encV_len (t : V5) : (encV t).length = 5 := rfl
theorem encV_one (t : V5) : ∀ u ∈ encV t, u.oneCell' = true := by
 intro u hu;simp [encV] at hu
 rcases hu with rfl | rfl | rfl | rfl | rfl <;> rfl
theorem encV_no (t : V5) : ∀ u ∈ encV t, ∀ k n, u ≠ .int k n := by
 intro u hu k n e;subst e;simp [encV] at hu
def RVt (w : World) (t : V5) (V : Vw) : Prop := RV w t.1 t.2.1 t.2.2.1 t.2.2.2.1 t.2.2.2.2 V
theorem infoV : (Tryz.prog.info? 27).map (fun i => (i.zero, i.size, i.bytes)) = some (some (.agg #[.slice none 0 0, .slice none 0 0, .slice none 0 0, .slice none 0 0, .slice none 0 0]), 5, 0x78) := by kernel_rfl
def NoInt (w : World) (g : Nat) : Prop := ∀ x : Addr, x.block = g → ∀ k n, w.cell? x ≠ some (.int k n)
theorem NoInt.block {w w' : World} {g : Nat} (h : NoInt w g) (hb : w'.heap[g]? = w.heap[g]?) : NoInt w' g := fun x hx k n e => h x hx k n (by rw [← World.cell?_of_block (w := w) (w' := w') (a := x) (by rw [hx]; exact hb)]; exact e)
theorem noInt_cells {w : World} {g : Nat} {cs : Array Value} {t : TypeId} {fr : Nat × Nat} (hb : w.heap[g]? = some (.cells cs t fr)) (h : ∀ u ∈ cs.toList, ∀ k n, u ≠ .int k n) : NoInt w g := by
 intro x hx k n hc;rw [← hx] at hb;unfold World.cell? at hc;rw [hb] at hc;simp at hc
 exact h _ (by have hm := List.mem_of_getElem? (l := cs.toList) (i := x.off) (a := .int k n) (by simpa using hc.2); exact hm) k n rfl
theorem kp_noInt {w w' : World} {row : Option Nat} (hg : w.grownBy w' row) (h : ∀ g, row = some g → NoInt w g) : Kp w w' := by
 refine ⟨hg.size, fun x y hxy ⟨k, n, hc⟩ u hu => ?_⟩
 rw [World.cell?_of_block (hg.block _ (World.block_lt_of_cell? w _ hu) (fun e => h _ e.symm x hxy k n hc))]
 exact hu
section
theorem noInt_zeros (m : Nat) : ∀ u ∈ (Builtin.zeroCells (Value.agg #[.slice none 0 0, .slice none 0 0, .slice none 0 0, .slice none 0 0, .slice none 0 0]).cells m).toList, ∀ k n, u ≠ .int k n := by
 intro u hu;unfold Builtin.zeroCells at hu;rw [Array.toList_map] at hu;obtain ⟨i, _, rfl⟩ := List.mem_map.1 hu;intro k n e;have h5 : (Value.agg #[.slice none 0 0, .slice none 0 0, .slice none 0 0, .slice none 0 0, .slice none 0 0]).cells = #[.slice none 0 0, .slice none 0 0, .slice none 0 0, .slice none 0 0, .slice none 0 0] := rfl
 simp only [h5] at e;have hlt : i % 5 < 5 := Nat.mod_lt _ (by omega)
 rcases (show i % 5 = 0 ∨ i % 5 = 1 ∨ i % 5 = 2 ∨ i % 5 = 3 ∨ i % 5 = 4 by omega) with q | q | q | q | q <;> simp [q] at e
theorem run_push_view (W : World) (base ty : Nat) (v : Value) (hs : List V5) (t : V5) (gx : Nat) (hown : OwnsR encV 5 27 W base v hs) (hno : ∀ g, v.ownBlock = some g → NoInt W g) (hx : W.heap[gx]? = some (.cells (encV t).toArray 27 (0, 0))) (hl : hs.length ≤ 1000) (hb : base ≤ W.heap.size) :
  ∃ v' w', (Builtin.append_ #[42, 42] ty #[v, .slice (some ⟨gx, 0, none⟩) 1 1]).run Tryz.prog W = .ok v' w' ∧ OwnsR encV 5 27 w' base v' (hs ++ [t]) ∧ W.grownBy w' v.ownBlock ∧ (∀ g, v'.ownBlock = some g → NoInt w' g) := by
 obtain ⟨i0, hi, hz0, hz1, hz2⟩ := info_parts infoV;have hnews : ∀ j u, (encV t)[j]? = some u → W.cell? ((⟨gx, 0, none⟩ : Addr).add j) = some u := World.news_of_block (cs := (encV t).toArray) hx
 have hone := encV_one t;have hlen : (flatR encV (hs ++ [t])).length = (hs.length + 1) * 5 := by rw [flatR_len encV_len]; simp
 have hfl : flatR encV (hs ++ [t]) = flatR encV hs ++ encV t := by rw [flatR_append]; simp [flatR]
 have hold : (flatR encV hs).length = hs.length * 5 := flatR_len encV_len hs
 have hno' : ∀ u ∈ flatR encV hs, ∀ k n, u ≠ .int k n := fun u hu => by
  obtain ⟨x, _, hx⟩ := List.mem_flatMap.1 hu;exact encV_no x u hx
 have grown : ∀ (old : Nat) (row : Option Nat), old < hs.length + 1 →
   OwnsR encV 5 27 (W.drew.alloc (.cells ((flatR encV hs).toArray ++ (encV t).toArray ++ Builtin.zeroCells (Value.agg #[.slice none 0 0, .slice none 0 0, .slice none 0 0, .slice none 0 0, .slice none 0 0]).cells (grownCap W (hs.length + 1) old 27 - (hs.length + 1))) 27)) base (.slice (some ⟨W.heap.size, 0, none⟩) (hs.length + 1) (grownCap W (hs.length + 1) old 27)) (hs ++ [t]) ∧
   W.grownBy (W.drew.alloc (.cells ((flatR encV hs).toArray ++ (encV t).toArray ++ Builtin.zeroCells (Value.agg #[.slice none 0 0, .slice none 0 0, .slice none 0 0, .slice none 0 0, .slice none 0 0]).cells (grownCap W (hs.length + 1) old 27 - (hs.length + 1))) 27)) row ∧
   (∀ g, (Value.slice (some ⟨W.heap.size, 0, none⟩) (hs.length + 1) (grownCap W (hs.length + 1) old 27)).ownBlock = some g → NoInt (W.drew.alloc (.cells ((flatR encV hs).toArray ++ (encV t).toArray ++ Builtin.zeroCells (Value.agg #[.slice none 0 0, .slice none 0 0, .slice none 0 0, .slice none 0 0, .slice none 0 0]).cells (grownCap W (hs.length + 1) old 27 - (hs.length + 1))) 27)) g) := by
  intro old row ho;have hge := grownCap_ge W (hs.length + 1) old 27;have hcm : grownCap W (hs.length + 1) old 27 ≤ maxLen := grownCap_le_maxLen W (hs.length + 1) old 27 (by unfold maxLen; omega)
  generalize grownCap W (hs.length + 1) old 27 = cap at hge hcm;refine ⟨⟨by rw [List.length_append]; exact hlen, .inr ⟨W.heap.size, cap, _, by simp, hb, heap_alloc_new W.drew _, by simpa using hge, hcm, ?_, ?_⟩⟩, ⟨rfl, rfl, rfl, by simp, fun k hk _ => by first | exact heap_alloc_old W.drew _ hk | exact heap_alloc_old W.drew _ k hk⟩, fun g hg => ?_⟩
  ·simp only [Array.size_append, List.size_toArray, size_zeroCells, hold, encV_len]
   show hs.length * 5 + 5 + (cap - (hs.length + 1)) * 5 = cap * 5
   rw [Nat.sub_mul];have : (hs.length + 1) * 5 ≤ cap * 5 := Nat.mul_le_mul_right _ hge
   omega
  ·simp only [Array.toList_append]
   rw [← hfl, show (hs ++ [t]).length * 5 = (flatR encV (hs ++ [t])).length by rw [hlen]; simp]
   exact List.take_left
  ·have e : W.heap.size = g := by injection hg
   subst e;refine noInt_cells (heap_alloc_new W.drew _) fun u hu => ?_
   simp only [Array.toList_append, List.mem_append] at hu;rcases hu with (hu | hu) | hu
   ·exact hno' u hu
   ·exact encV_no t u hu
   ·exact noInt_zeros _ u hu
 rcases hown.2 with ⟨rfl, h0⟩ | ⟨g, cap, cur, rfl, hbg, hg, hnc, hcm, hcs, htake⟩
 ·have hx0 : hs = [] := List.eq_nil_of_length_eq_zero h0
  subst hx0;have hr := run_append_nil (P := Tryz.prog) W 42 ty 27 i0 _ Tryz.underlying42 hi hz0 ⟨gx, 0, none⟩ 1 1 (encV t) (by rw [hz1]; rfl) hnews (by omega) (by omega) (by rw [hz2]; omega)
  have hgr := grown 0 (Value.ownBlock (.slice none 0 0)) (by simp)
  simp only [List.length_nil, Nat.zero_add, flatR, List.flatMap_nil] at hgr;have e0 : (([] : List Value).toArray ++ (encV t).toArray) = (encV t).toArray := by simp
  rw [e0] at hgr;exact ⟨_, _, hr, hgr.1, hgr.2.1, hgr.2.2⟩
 ·by_cases hroom : hs.length + 1 ≤ cap
  ·have hfit : hs.length * i0.size + (encV t).length ≤ cur.size := by
    rw [hz1, hcs];show hs.length * 5 + 5 ≤ cap * 5
    omega
   have hr := run_append_room (P := Tryz.prog) W 42 ty 27 i0 Tryz.underlying42 hi g hs.length cap cur hg ⟨gx, 0, none⟩ 1 1 (encV t) (by rw [hz1]; rfl) hnews hone hroom hfit
   refine ⟨_, _, hr, ⟨by rw [List.length_append]; exact hlen, .inr ⟨g, cap, _, by simp, hbg, setRow_heap W g cur _ 27 _ hg, by simpa using hroom, hcm, ?_, ?_⟩⟩, ⟨rfl, rfl, rfl, by simp, fun k _ hk => setRow_other W g k _ (fun e => hk (by simp [Value.ownBlock, e]))⟩, fun g' hg' => ?_⟩
   ·rw [hz1]
    simp only [List.size_toArray, List.length_append, List.length_take, List.length_drop, Array.length_toList, encV_len];rw [hz1] at hfit;have : (encV t).length = 5 := rfl
    omega
   ·rw [hz1, ← hold, show (hs ++ [t]).length * 5 = (flatR encV (hs ++ [t])).length by rw [hlen]; simp, hfl]
    first | rw [htake] | (rw [hold, htake])
    exact List.take_left
   ·have e : g = g' := by injection hg'
    subst e
    have hcur : ∀ u ∈ cur.toList, ∀ k n, u ≠ .int k n := fun u hu k n e => by
     subst e;obtain ⟨j, hj⟩ := List.getElem?_of_mem hu;refine hno g rfl ⟨g, j, none⟩ rfl k n ?_
     rw [cell_of_row _ _ j _ _ _ hg];simpa using hj
    refine noInt_cells (setRow_heap W g cur _ 27 _ hg) fun u hu => ?_
    simp only [List.mem_append] at hu;rcases hu with (hu | hu) | hu
    ·exact hcur u (List.mem_of_mem_take hu)
    ·exact encV_no t u hu
    ·exact hcur u (List.mem_of_mem_drop hu)
  ·have holds : ∀ j u, (flatR encV hs)[j]? = some u → W.cell? ((⟨g, 0, none⟩ : Addr).add j) = some u := World.ownsRow.cells hown (g := g) rfl
   have hr := run_append_grow (P := Tryz.prog) W 42 ty 27 i0 _ Tryz.underlying42 hi hz0 ⟨g, 0, none⟩ hs.length cap (flatR encV hs) (by rw [hz1]; exact hold) holds ⟨gx, 0, none⟩ 1 1 (encV t) (by rw [hz1]; rfl) hnews (by omega) (by omega) (growslice_fits (by omega) (by rw [hz2]; omega))
   have hgr := grown cap (Value.ownBlock (.slice (some ⟨g, 0, none⟩) hs.length cap)) (by omega)
   exact ⟨_, _, hr, hgr.1, hgr.2.1, hgr.2.2⟩
theorem wpList_push_view {ops : Array Oper} {rest : List Oper} {o : Oper} {a : Act} {Q : Exit → Act → World → Prop} (hgd : o.guard = none) (s x : Operand)
  (ho : o.op = .call { callee := .builtin .append, args := #[s, x], argTypes := #[42, 42] })
  (W : World) (base : Nat) (v : Value) (hs : List V5) (t : V5) (gx : Nat) (hsv : a.eval s = v) (hxv : a.eval x = .slice (some ⟨gx, 0, none⟩) 1 1) (hown : OwnsR encV 5 27 W base v hs) (hno : ∀ g, v.ownBlock = some g → NoInt W g) (hx : W.heap[gx]? = some (.cells (encV t).toArray 27 (0, 0))) (hl : hs.length ≤ 1000) (hb : base ≤ W.heap.size)
  (h : ∀ v' w', OwnsR encV 5 27 w' base v' (hs ++ [t]) → W.grownBy w' v.ownBlock → (∀ g, v'.ownBlock = some g → NoInt w' g) → wpList Tryz.prog ops Q rest (a.put o.dst v') w') :
  wpList Tryz.prog ops Q (o :: rest) a W :=
 wpList_plain hgd fun _ hK => by
  obtain ⟨v', w', hr, h2, h3, h4⟩ := run_push_view W base o.type v hs t gx hown hno hx hl hb;unfold Oper.wp execOp;simp only [ho, resolve, invoke, builtin, Sem.run_bind, Sem.run_pure, Result.andThen_ok, List.map_toArray, List.map_cons, List.map_nil, hsv, hxv, hr];exact hK _ _ (h v' w' h2 h3 h4)
end
def IsU8 (x : Int) : Prop := 0 ≤ x ∧ x < 256
theorem RVt.kp {w w' : World} {t : V5} {V : Vw} (h : RVt w t V) (hk : Kp w w') : RVt w' t V := RV.kp h hk
def HadAt (w : World) (base : Nat) (v : Value) (had : List Vw) : Prop := ∃ hs : List V5, OwnsR encV 5 27 w base v hs ∧ (∀ g, v.ownBlock = some g → NoInt w g) ∧ hs.length = had.length ∧ ∀ k (h : k < hs.length) (h' : k < had.length), RVt w hs[k] had[k]
theorem HadAt.kept {w w' : World} {base : Nat} {v : Value} {had : List Vw} {row : Option Nat} (h : HadAt w base v had) (hk : Kp w w') (hg : w.grownBy w' row) (hne : ∀ g, row = some g → g < base) : HadAt w' base v had := by
 obtain ⟨hs, h1, h2, h3, h4⟩ := h
 have hno : ∀ g, v.ownBlock = some g → w'.heap[g]? = w.heap[g]? := fun g e => by
  have hl := World.ownsRow.lt h1 g e;exact hg.block g hl.2 (fun e2 => by have := hne g e2.symm; omega)
 refine ⟨hs, World.ownsRow.kept h1 hg ?_, fun g e => (h2 g e).block (hno g e), h3, fun k a b => (h4 k a b).kp hk⟩
 rcases ho : v.ownBlock with _ | g
 ·exact .inl rfl
 ·exact .inr fun e => by have := hne g e.symm; have := (World.ownsRow.lt h1 g ho).1; omega
theorem HadAt.below {w w' : World} {base : Nat} {v : Value} {had : List Vw} (h : HadAt w base v had) (hb : Below w.heap.size w w') : HadAt w' base v had := h.kept (row := none) (kp_below hb) ⟨hb.os, hb.tape, hb.output, hb.size, fun k hk _ => hb.block k hk⟩ (fun _ e => by cases e)
theorem HadAt.shape {w : World} {base : Nat} {v : Value} {had : List Vw} (h : HadAt w base v had) : ∃ A c, v = .slice A had.length c := by
 obtain ⟨hs, h1, _, h3, _⟩ := h;obtain ⟨A, c, e, _⟩ := rcs_owns encV_len h1;exact ⟨A, c, by rw [e, h3]⟩
theorem HadAt.at_ {w : World} {base : Nat} {A : Option Addr} {n c : Nat} {had : List Vw} (h : HadAt w base (.slice A n c) had) {k : Nat} (hk : k < had.length) : ∃ ad, A = some ad ∧ base ≤ ad.block ∧ ∃ s0 s1 s2 s3 s4 : SL, RV w s0 s1 s2 s3 s4 had[k] ∧ w.cell? (ad.add (k * 5)) = some (.slice s0.1 s0.2.1 s0.2.2) ∧ w.cell? ⟨(ad.add (k * 5)).block, (ad.add (k * 5)).off + 1, none⟩ = some (.slice s1.1 s1.2.1 s1.2.2) ∧
  w.cell? ⟨(ad.add (k * 5)).block, (ad.add (k * 5)).off + 2, none⟩ = some (.slice s2.1 s2.2.1 s2.2.2) ∧ w.cell? ⟨(ad.add (k * 5)).block, (ad.add (k * 5)).off + 3, none⟩ = some (.slice s3.1 s3.2.1 s3.2.2) ∧ w.cell? ⟨(ad.add (k * 5)).block, (ad.add (k * 5)).off + 4, none⟩ = some (.slice s4.1 s4.2.1 s4.2.2) := by
 obtain ⟨hs, h1, _, h3, h4⟩ := h;have hr := rcs_owns encV_len h1;have hk2 : k < hs.length := by omega
 obtain ⟨ad, rfl⟩ := hr.addr (by omega)
 have hbl : base ≤ ad.block := by
  rcases ownsR_split h1 with ⟨e, _⟩ | ⟨g, cap, e, _, _⟩
  ·cases e
  ·have e2 := e
   injection e2 with e2 _ _
   injection e2 with e2
   rw [e2];exact (World.ownsRow.lt h1 g (by rw [e]; rfl)).1
 have hb := Below.refl w.heap.size w;exact ⟨ad, rfl, hbl, _, _, _, _, _, h4 k hk2 hk, hr.first hb hk2 rfl, hr.cell hb hk2 1 (by omega) rfl, hr.cell hb hk2 2 (by omega) rfl, hr.cell hb hk2 3 (by omega) rfl, hr.cell hb hk2 4 (by omega) rfl⟩
end
section
open Go Go.RowKit
theorem nid_vidROW {k : Nat} (hk : k < 4) : vidROW (nid k).1 (nid k).2 = true := inB_vidROW (nid_inB hk)
theorem few_upR {N : Int} {V : Vw} {k : Nat} (hk : k < 4) (h : Few N V) (hV : OkV V) (h0 : 0 ≤ N) (hN : N ≤ 1000) : upR V.c (nid k) = (Clocks.up V.c (nid k), 0) := by
 have hm := few_may h hV (by omega)
 unfold mayV at hm;rw [Bool.and_eq_true, Bool.and_eq_true, Bool.and_eq_true] at hm;have hc := few_clock h hV
 have hs : Clocks.says V.c (nid k) ≤ N := by
  rcases Int.lt_or_le 0 (Clocks.says V.c (nid k)) with a | a
  ·exact (h.c _ (Clocks.says_mem a)).2
  ·exact Int.le_trans a h0
 unfold upR;rw [if_pos ⟨hm.2.2.1, inB_vidCLK (nid_inB hk)⟩, if_neg];rintro (e | ⟨_, e⟩) <;> omega
theorem changed_few {N : Int} {V U : Vw} {k : Nat} (hk : k < 4) (h : Few N V) (hV : OkV V) (h0 : 0 ≤ N) (hN : N ≤ 1000) : changedV V U 0 (nid k) = (V, 0) ∨ changedV V U 0 (nid k) = (⟨U.m, U.f, RowSets.gone U.f U.r, Clocks.up V.c (nid k), [nid k]⟩, 0) := by
 unfold changedV;rw [if_neg (fun h => h rfl)]
 split
 ·exact .inl rfl
 ·rw [few_upR hk h hV h0 hN, if_neg (fun h => h rfl)]
  exact .inr rfl
theorem put_next {N : Int} {n : Nat → Nat} {chg : Nat → Nat → Vw} {now : Nat → Vw} {had : List Vw} (h : Acts N n chg now had) (h0 : 0 ≤ N) (hN : N ≤ 1000) {k : Nat} (hk : k < 4) {x : Ros.Mm} (hv : InB x.1) (hx : x.2.1 = 7 ∨ Ros.mayNum x.2.1 x.2.2 = true) :
  ∃ T, changedV (now k) (putU (now k) (nid k) x).1 (putU (now k) (nid k) x).2 (nid k) = (T, 0) ∧ Next N now had k T := by
 have hs : stB x.2.1 = true := by
  unfold stB
  have : 1 ≤ x.2.1 ∧ x.2.1 ≤ 7 := by
   rcases hx with e | e
   ·omega
   ·have := Ros.mayNum_cases e; omega
  rw [decide_eq_true this.1, decide_eq_true this.2];rfl
 have hp : putU (now k) (nid k) x = (⟨(Ros.joinL ((now k).m, (now k).f) ([x], [])).1, (Ros.joinL ((now k).m, (now k).f) ([x], [])).2, (now k).r, (now k).c, (now k).s⟩, 0) := by
  unfold putU;rw [nid_vidROW hk, inB_vidROW hv, hs];rfl
 rw [hp];have hv2 : Ros.vidP x.1 = true := inB_vidROW hv
 rcases changed_few (U := ⟨(Ros.joinL ((now k).m, (now k).f) ([x], [])).1, (Ros.joinL ((now k).m, (now k).f) ([x], [])).2, (now k).r, (now k).c, (now k).s⟩) hk (h.few.1 k hk) (h.ok hk) h0 hN with e | e
 ·exact ⟨_, e, h.stay hk⟩
 ·exact ⟨_, e, h.put h0 hk hv2 hx⟩
theorem setE_few {l : List RowSets.Row} {of : Sets.Id2} {not : List Sets.Id2} (hu : RowSets.Up l) (hv : vidROW of.1 of.2 = true) (hn : allV not = true) (hl : ∀ r ∈ l, r.2.1 < 1099511627776) : setE l of not = (RowSets.setR l of not, 0) := by
 rw [← RowSets.setG_up of not hu];unfold setE;rw [hv, hn, Bool.and_self, if_pos rfl];rcases hg : RowSets.get l of with _ | s
 ·rfl
 ·have hm := hl _ (RowSets.get_mem hg)
  dsimp only at hm ⊢;by_cases e : Sets.setOf s.2 = Sets.del not of
  ·rw [if_pos e]
   unfold RowSets.setG;rw [hg];dsimp only;rw [if_pos e]
  ·rw [if_neg e, if_neg (by omega)]
theorem allV_few {not : List Sets.Id2} (h : ∀ x ∈ not, InB x) : allV not = true := by
 unfold allV;rw [List.any_eq_false.2 fun x hx => ?_]
 ·rfl
 ·unfold badI
  rw [inB_vidROW (h x hx)];simp
theorem row_next {N : Int} {n : Nat → Nat} {chg : Nat → Nat → Vw} {now : Nat → Vw} {had : List Vw} (h : Acts N n chg now had) (h0 : 0 ≤ N) (hN : N ≤ 1000) {k : Nat} (hk : k < 4) {not : List Sets.Id2} (hn : ∀ x ∈ not, InB x) :
  ∃ T, changedV (now k) (rowU (now k) (nid k) not).1 (rowU (now k) (nid k) not).2 (nid k) = (T, 0) ∧ Next N now had k T := by
 have hp : rowU (now k) (nid k) not = (⟨(now k).m, (now k).f, RowSets.setR (now k).r (nid k) not, (now k).c, (now k).s⟩, 0) := by
  unfold rowU
  rw [setE_few (h.ok hk).nr.1 (nid_vidROW hk) (allV_few hn) fun r hr => by
   have := ((h.few.1 k hk).r r hr).2.2.1
   omega]
 rw [hp];rcases changed_few (U := ⟨(now k).m, (now k).f, RowSets.setR (now k).r (nid k) not, (now k).c, (now k).s⟩) hk (h.few.1 k hk) (h.ok hk) h0 hN with e | e
 ·exact ⟨_, e, h.stay hk⟩
 ·exact ⟨_, e, h.row h0 hk hn⟩
theorem mem_place {u : RowSets.Row} : ∀ {l : List RowSets.Row} {r : RowSets.Row}, r ∈ RowSets.place u l → r = u ∨ r ∈ l
 | [], r, h => .inl (List.mem_singleton.1 h)
 | v :: l, r, h => by
  rw [RowSets.place] at h;split at h
  ·rcases List.mem_cons.1 h with e | e
   ·exact .inl e
   ·exact .inr (List.mem_cons_of_mem _ e)
  ·split at h
   ·rcases List.mem_cons.1 h with e | e
    ·exact .inr (by rw [e]; exact List.mem_cons_self ..)
    ·rcases mem_place e with a | a
     ·exact .inl a
     ·exact .inr (List.mem_cons_of_mem _ a)
   ·rcases List.mem_cons.1 h with e | e
    ·exact .inl e
    ·exact .inr e
theorem fit_rowU {N : Int} {V : Vw} {k : Nat} {not : List Sets.Id2} (hk : k < 4) (h : Few N V) (hV : OkV V) (hN : N ≤ 1000) (hn : ∀ x ∈ not, InB x) (_hl : not.length ≤ 4) : FitVIE 1000 (rowU V (nid k) not).1 := by
 have f := few_fit h hV
 have e : (rowU V (nid k) not).1 = ⟨V.m, V.f, RowSets.setR V.r (nid k) not, V.c, V.s⟩ := by
  unfold rowU
  rw [setE_few hV.nr.1 (nid_vidROW hk) (allV_few hn) fun r hr => by
   have := (h.r r hr).2.2.1
   omega]
 rw [e];refine ⟨Nat.le_trans f.m (by decide), Nat.le_trans f.f (by decide), ?_, Nat.le_trans f.c (by decide), Nat.le_trans f.s (by decide), fun r hr => ?_⟩
 ·have a := RowSets.setR_len V.r (nid k) not
  have b := f.r;show (RowSets.setR V.r (nid k) not).length ≤ 1000
  omega
 ·have hr : r ∈ RowSets.setR V.r (nid k) not := hr
  unfold RowSets.setR at hr;split at hr
  ·exact Nat.le_trans (f.n r hr) (by decide)
  ·rcases mem_place hr with e | e
   ·rw [e]
    show (RowSets.wanted (nid k) not).length ≤ 1000
    have hten := ten_len (l := RowSets.wanted (nid k) not) (Sets.rises_setOf _) fun x hx => hn x (List.mem_filter.1 ((Sets.mem_setOf _ _).1 hx)).1
    omega
   ·exact Nat.le_trans (f.n r e) (by decide)
theorem tellP_is (V U : Vw) (k : Nat) : tellP V U ((k : Int) + 1) 1 = tellV V U k := by
 unfold tellP tellV;congr 1
 refine Sets.rises_ext (Sets.rises_join _ _) (Sets.rises_setOf _) fun x => ?_
 rw [Sets.mem_join, Sets.mem_put, List.mem_singleton];exact ⟨fun h => h.elim .inr (fun e => .inl e), fun h => h.elim .inr .inl⟩
theorem has_nid {l : List Sets.Id2} {k : Nat} (h : hasB (nid k) l = true) : nid k ∈ l := by
 unfold hasB at h;exact of_decide_eq_true h
end
end Go.Proofs.YthkkipbmlafdiaaGreat
