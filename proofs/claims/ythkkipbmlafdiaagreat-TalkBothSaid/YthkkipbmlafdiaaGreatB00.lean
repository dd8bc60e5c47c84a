/-
  Contracts and plain facts.
-/
import Derived.Test.YthkkipbmlafdiaaGreatRows
import Derived.ProofKit
import Derived.SizedLaws
import Derived.Below
import Derived.Carry
import Derived.WalkKit
import Derived.OwnWalk
import Derived.Deep.AppendLies
import Derived.Laws.AppendOwnNone
import Derived.Deep.Slices
import Derived.Lib.Hide
set_option maxRecDepth 20000
namespace Go.Proofs.YthkkipbmlafdiaaGreat
section
open Go.RowKit Go.WideShapes Go.ChangeShapes Go.ChangeAt
theorem Tryz.own : ownKnob Tryz.prog.godebug = none := by kernel_rfl
theorem Tryz.laidOut : laidOutB Tryz.prog = true := by kernel_rfl
section
variable {H : Type} {enc : TypeId × Value → H}
def Legible (ts : List TypeId) : Prop := (ts.all fun t => Tryz.prog.readableRec t && decide (t < Tryz.prog.types.size)) = true
theorem read_again {W W' : World} (hb : Below W.heap.size W W') (ts : List TypeId) (hts : Legible ts) : ∀ (vs : List Value) (ds : List (DataW H)) (ps : List MemPlace),
  DataW.TrodAll enc Tryz.prog W 0 (fun _ => true) true ts vs ds ps → (∀ x ∈ ps, x.block < W.heap.size) →
  DataW.TrodAll enc Tryz.prog W' 0 (fun b => decide (b < W.heap.size)) true ts vs ds ps := by
 induction ts with
 | nil =>
  intro vs ds ps h _;obtain ⟨rfl, rfl, rfl⟩ := trodAll_nil h;rfl
 | cons t ts ih =>
  intro vs ds ps h hlt;obtain ⟨v, vs', d, ds', p, q, rfl, rfl, rfl, h1, h2⟩ := trodAll_cons h;simp only [Legible, List.all_cons, Bool.and_eq_true, decide_eq_true_eq] at hts
  exact ⟨p, q, Below.trod Tryz.laidOut hts.1.1 hts.1.2 h1 hb (fun x hx => hlt x (List.mem_append_left _ hx)),
   ih (by simpa [Legible] using hts.2) vs' ds' q h2 (fun x hx => hlt x (List.mem_append_right _ hx)), rfl⟩
theorem law_post {f : Func} {s : ChangeSpec} {W W' : World} {args : Array Value} {ds gs : List (DataW H)} {before : List MemPlace} {t : TypeId}
  (hW : DataW.Whole enc Tryz.prog f.params.toList s.vars false W args.toList ds gs before) (hvars : s.vars = []) (hres : f.resultTypes = #[t]) (ht : Tryz.prog.underlying t = some .bool)
  (hspec : s.fn H (ds ++ gs) = { results := [.lit (.bool true)], args := ds }) (hts : Legible f.params.toList) (hb : Below W.heap.size W W') :
  s.post enc Tryz.prog f false true false false W args (.bool true) W' := by
 have hlt := hW.lt;obtain ⟨p, q, hA, hV, rfl, hz, hn⟩ := hW;refine ⟨ds, gs, p ++ q, [], p, [], ⟨p, q, hA, hV, rfl, hz, hn⟩, ?_, ?_, ?_, hb.frame _, fun h => by cases h⟩
 ·rw [hspec, hres]
  exact trodAll_mk1 (shut_bool ht true)
 ·rw [hspec]
  exact read_again hb _ hts _ _ _ hA fun x hx => hlt x (List.mem_append_left _ hx)
 ·rw [hspec, hvars]
  rfl
end
end
section
open Go Go.RowKit
section
variable {α : Type}
def flatR (enc : α → List Value) (l : List α) : List Value := l.flatMap enc
theorem addr_add_add (a : Addr) (j k : Nat) (hj : 0 < j) : (a.add j).add k = a.add (j + k) := by
 unfold Addr.add;rw [if_neg (show ¬ j = 0 by omega), if_neg (show ¬ j + k = 0 by omega)]
 split
 ·rename_i h
  subst h;rfl
 ·simp
  omega
theorem addr_block (a : Addr) (n : Nat) : (a.add n).block = a.block := by unfold Addr.add; split <;> rfl
theorem addr_behind (a : Addr) (m j : Nat) (hj : 0 < j) : a.add (m + j) = ⟨(a.add m).block, (a.add m).off + j, none⟩ := by
 unfold Addr.add;rw [if_neg (by omega)]
 split
 ·rename_i h
  subst h;simp
 ·simp
  omega
variable {enc : α → List Value} {sz : Nat}
def Rcs (enc : α → List Value) (sz : Nat) (w : World) (v : Value) (l : List α) : Prop :=
 ∃ A c, v = .slice A l.length c ∧ (A = none → c = 0) ∧ l.length ≤ c ∧ ∀ k (h : k < l.length), ∃ ad, A = some ad ∧ ad.block < w.heap.size ∧ ∀ j u, (enc l[k])[j]? = some u → w.cell? (ad.add (k * sz + j)) = some u
theorem Rcs.below {w w' : World} {v : Value} {l : List α} (h : Rcs enc sz w v l) (hb : Below w.heap.size w w') : Rcs enc sz w' v l := by
 obtain ⟨A, c, hv, h0, hc, hk⟩ := h;refine ⟨A, c, hv, h0, hc, fun k h => ?_⟩
 obtain ⟨ad, h1, h2, h3⟩ := hk k h;exact ⟨ad, h1, Nat.lt_of_lt_of_le h2 hb.size, fun j u hu => (hb.cell (by rw [addr_block]; exact h2)).trans (h3 j u hu)⟩
theorem Rcs.nil (w : World) : Rcs enc sz w (.slice none 0 0) [] := ⟨none, 0, rfl, fun _ => rfl, by simp, fun k hk => absurd hk (by simp)⟩
theorem Rcs.first {w w' : World} {ad : Addr} {n c : Nat} {l : List α} (h : Rcs enc sz w (.slice (some ad) n c) l) (hw : Below w.heap.size w w') {k : Nat} (hk : k < l.length) {u : Value} (hu : (enc l[k])[0]? = some u) : w'.cell? (ad.add (k * sz)) = some u := by
 obtain ⟨A', c', hv, _, _, hc⟩ := h.below hw;injection hv with e1 e2 e3
 subst e1;obtain ⟨ad', h1, _, h3⟩ := hc k hk;injection h1 with h1
 subst h1;exact h3 0 u hu
theorem Rcs.cell {w w' : World} {ad : Addr} {n c : Nat} {l : List α} (h : Rcs enc sz w (.slice (some ad) n c) l) (hw : Below w.heap.size w w') {k : Nat} (hk : k < l.length) (j : Nat) (hj : 0 < j) {u : Value} (hu : (enc l[k])[j]? = some u) : w'.cell? ⟨(ad.add (k * sz)).block, (ad.add (k * sz)).off + j, none⟩ = some u := by
 obtain ⟨A', c', hv, _, _, hc⟩ := h.below hw;injection hv with e1 e2 e3
 subst e1;obtain ⟨ad', h1, _, h3⟩ := hc k hk;injection h1 with h1
 subst h1;rw [← addr_behind _ _ _ hj];exact h3 j u hu
theorem Rcs.shape {w : World} {v : Value} {l : List α} (h : Rcs enc sz w v l) : (v = .slice none 0 0 ∧ l = []) ∨ ∃ ad c, v = .slice (some ad) l.length c ∧ l.length ≤ c := by
 obtain ⟨A, c, rfl, h0, hc, hk⟩ := h;cases A with
 | none =>
  obtain rfl := h0 rfl;have : l = [] := List.eq_nil_of_length_eq_zero (by omega)
  subst this;exact .inl ⟨rfl, rfl⟩
 | some ad => exact .inr ⟨ad, c, rfl, hc⟩
theorem Rcs.addr {w : World} {A : Option Addr} {n c : Nat} {l : List α} (h : Rcs enc sz w (.slice A n c) l) (hl : 0 < l.length) : ∃ ad, A = some ad := by
 obtain ⟨A', c', hv, _, _, hc⟩ := h;injection hv with e1 e2 e3
 subst e1;obtain ⟨ad, h1, _⟩ := hc 0 hl;exact ⟨ad, h1⟩
theorem Rcs.drop {w : World} {ad : Addr} {n c k : Nat} {l : List α} (hs : 0 < sz) (h : Rcs enc sz w (.slice (some ad) n c) l) (hk : k ≤ l.length) (h0 : 0 < k) : Rcs enc sz w (.slice (some (ad.add (k * sz))) (n - k) (c - k)) (l.drop k) := by
 obtain ⟨A', c', hv, hn, hc2, hx⟩ := h;injection hv with e1 e2 e3
 subst e1 e3;refine ⟨some (ad.add (k * sz)), c - k, by rw [List.length_drop, e2], (fun h => by cases h), by rw [List.length_drop]; omega, fun j hj => ?_⟩
 rw [List.length_drop] at hj;obtain ⟨ad', h1, h2, h3⟩ := hx (k + j) (by omega)
 injection h1 with h1
 subst h1;refine ⟨_, rfl, by rw [addr_block]; exact h2, fun i u hu => ?_⟩
 rw [addr_add_add _ _ _ (Nat.mul_pos h0 hs), ← Nat.add_assoc, ← Nat.add_mul];rw [List.getElem_drop] at hu;exact h3 i u hu
theorem flatR_len (hs : ∀ a, (enc a).length = sz) (l : List α) : (flatR enc l).length = l.length * sz := by
 unfold flatR;induction l with
 | nil => simp
 | cons x l ih => rw [List.flatMap_cons, List.length_append, ih, hs, List.length_cons, Nat.add_mul]; omega
theorem flatR_append (l m : List α) : flatR enc (l ++ m) = flatR enc l ++ flatR enc m := List.flatMap_append
theorem flatR_at (hs : ∀ a, (enc a).length = sz) : ∀ (l : List α) (k : Nat) (hk : k < l.length) (j : Nat) (u : Value), (enc l[k])[j]? = some u → (flatR enc l)[k * sz + j]? = some u := by
 intro l;induction l with
 | nil => intro k hk; simp at hk
 | cons x l ih =>
  intro k hk j u hu
  have hj : j < sz := by
   have := (List.getElem?_eq_some_iff.1 hu).1
   rwa [hs] at this
  unfold flatR;rw [List.flatMap_cons];cases k with
  | zero =>
   rw [Nat.zero_mul, Nat.zero_add, List.getElem?_append_left (by rw [hs]; exact hj)]
   exact hu
  | succ k =>
   rw [List.getElem?_append_right (by rw [hs, Nat.succ_mul]; omega), hs, show (k + 1) * sz + j - sz = k * sz + j by rw [Nat.succ_mul]; omega]
   exact ih k (by simpa using hk) j u hu
theorem flatR_split (hs : ∀ a, (enc a).length = sz) (h0 : 0 < sz) {l : List α} {i : Nat} {u : Value} (h : (flatR enc l)[i]? = some u) : ∃ k, ∃ hk : k < l.length, ∃ j, i = k * sz + j ∧ (enc l[k])[j]? = some u := by
 have hi : i < l.length * sz := by
  have := (List.getElem?_eq_some_iff.1 h).1
  rwa [flatR_len hs] at this
 have hk : i / sz < l.length := (Nat.div_lt_iff_lt_mul h0).2 hi
 have he : i = i / sz * sz + i % sz := by rw [Nat.mul_comm]; exact (Nat.div_add_mod i sz).symm
 have hj := Nat.mod_lt i h0;refine ⟨i / sz, hk, i % sz, he, ?_⟩
 have h2 : (enc l[i / sz])[i % sz]? = some ((enc l[i / sz])[i % sz]'(by rw [hs]; exact hj)) := List.getElem?_eq_getElem _
 have h3 := flatR_at hs l (i / sz) hk (i % sz) _ h2;rw [← he, h] at h3;rw [h2, ← Option.some.inj h3]
def OwnsR (enc : α → List Value) (sz : Nat) (e : TypeId) (w : World) (base : Nat) (v : Value) (l : List α) : Prop := w.ownsRow base e sz v l.length (flatR enc l)
theorem OwnsR.nil (e : TypeId) (w : World) (base : Nat) : OwnsR enc sz e w base (.slice none 0 0) [] := World.ownsRow_nil w base e sz
theorem OwnsR.below {e : TypeId} {w w' : World} {base : Nat} {v : Value} {l : List α} (h : OwnsR enc sz e w base v l) (hb : Below w.heap.size w w') : OwnsR enc sz e w' base v l :=
 World.ownsRow.kept h ⟨hb.os, hb.tape, hb.output, hb.size, fun k hk _ => hb.block k hk⟩ (row := none) (by cases hv : v.ownBlock <;> simp)
theorem ownsR_split {e : TypeId} {w : World} {base n : Nat} {v : Value} {xs : List Value} (h : w.ownsRow base e sz v n xs) : (v = .slice none 0 0 ∧ n = 0) ∨ ∃ g cap, v = .slice (some ⟨g, 0, none⟩) n cap ∧ g < w.heap.size ∧ n ≤ cap := by
 rcases id h.2 with h1 | ⟨g, cap, cur, h1, _, _, hn, _⟩
 ·exact .inl h1
 ·exact .inr ⟨g, cap, h1, (World.ownsRow.lt h g (by rw [h1]; rfl)).2, hn⟩
theorem rcs_owns (hs : ∀ a, (enc a).length = sz) {e : TypeId} {w : World} {base : Nat} {v : Value} {l : List α} (h : OwnsR enc sz e w base v l) : Rcs enc sz w v l := by
 rcases ownsR_split h with ⟨rfl, hn⟩ | ⟨g, cap, rfl, hg, hc⟩
 ·have : l = [] := List.eq_nil_of_length_eq_zero (by omega)
  subst this;exact Rcs.nil w
 ·exact ⟨some ⟨g, 0, none⟩, cap, rfl, (fun h => by cases h), hc, fun k hk => ⟨_, rfl, hg, fun j u hu => World.ownsRow.cells h (g := g) rfl _ _ (flatR_at hs l k hk j u hu)⟩⟩
theorem rcs_lit (hs : ∀ a, (enc a).length = sz) (w : World) (l : List α) (cs : Array Value) (T : TypeId) (h : cs.toList = flatR enc l) : Rcs enc sz (w.alloc (.cells cs T)) (.slice (some ⟨w.heap.size, 0, none⟩) l.length l.length) l := by
 refine ⟨some ⟨w.heap.size, 0, none⟩, l.length, rfl, (fun h => by cases h), Nat.le_refl _, fun k hk => ⟨_, rfl, by simp, fun j u hu => ?_⟩⟩
 have hadd : (⟨w.heap.size, 0, none⟩ : Addr).add (k * sz + j) = ⟨w.heap.size, k * sz + j, none⟩ := by unfold Addr.add; split <;> simp_all
 rw [hadd, cell_of_row _ _ _ _ _ _ (heap_alloc_new w _), ← Array.getElem?_toList, h];exact flatR_at hs l k hk j u hu
variable {P : Program}
theorem wpList_append_recs {ops : Array Oper} {rest : List Oper} {o : Oper} {a : Act} {Q : Exit → Act → World → Prop} (t e : TypeId) {z : Value} {bytes : Nat} (ht : P.underlying t = some (.slice e))
  (hinfo : (P.info? e).map (fun i => (i.zero, i.size, i.bytes)) = some (some z, sz, bytes)) (hz : z.cells.size = sz) (hs : ∀ a, (enc a).length = sz) (h0 : 0 < sz) (h1 : ∀ a, ∀ u ∈ enc a, u.oneCell' = true) (hby : bytes ≤ 1000)
  (hgd : o.guard = none) (s x : Operand) (ho : o.op = .call { callee := .builtin .append, args := #[s, x], argTypes := #[t, t] })
  (wr : World) (base : Nat) (v u : Value) (d l : List α) (hsv : a.eval s = v) (hx : a.eval x = u)
  (hown : OwnsR enc sz e wr base v d) (hI : Rcs enc sz wr u l) (hl : d.length + l.length ≤ 100000) (hb : base ≤ wr.heap.size)
  (h : ∀ v' w', OwnsR enc sz e w' base v' (d ++ l) → Below base wr w' → wpList P ops Q rest (a.put o.dst v') w') :
  wpList P ops Q (o :: rest) a wr := by
 obtain ⟨i0, hi, hz0, hz1, hz2⟩ := info_parts hinfo;obtain ⟨A, c, rfl, hn0, hc, hk⟩ := hI;cases A with
 | none =>
  obtain rfl := hn0 rfl;have hn : l = [] := List.eq_nil_of_length_eq_zero (by omega)
  subst hn;refine wpList_append_own_none hgd s x t ho base e i0 sz ht hi _ d.length (flatR enc d) hsv hown hx (h _ _ (by rw [List.append_nil]; exact hown) (Below.refl _ _))
 | some ad =>
  refine wpList_append_own _ hgd s x t ho base e i0 z sz bytes ht hi hz0 hz1 hz2 hz h0 v d.length (flatR enc d) hsv hown ad l.length c (flatR enc l) hx (flatR_len hs l)
   (fun j u hu => ?_) (fun u hu => ?_) (by unfold maxLen; omega) ?_ hb ?_
  ·obtain ⟨k, hlt, i, rfl, hu2⟩ := flatR_split hs h0 hu
   obtain ⟨ad', e, h1, h2⟩ := hk k hlt;injection e with e
   subst e;exact h2 i u hu2
  ·obtain ⟨x, _, hx⟩ := List.mem_flatMap.1 hu
   exact h1 x u hx
  ·have : (d.length + l.length) * bytes ≤ 100000 * 1000 := Nat.mul_le_mul hl hby
   omega
  ·intro v' w' h1 h2 _
   refine h v' w' ?_ ((Below.refl base wr).grown h2 hb fun k hk => (World.ownsRow.lt hown k hk).1)
   unfold OwnsR;rw [flatR_append, List.length_append];exact h1
theorem wpList_make_recs {ops : Array Oper} {rest : List Oper} {o : Oper} {a : Act} {Q : Exit → Act → World → Prop} (t e : TypeId) {z : Value} {bytes : Nat} (ht : P.underlying t = some (.slice e))
  (hinfo : (P.info? e).map (fun i => (i.zero, i.size, i.bytes)) = some (some z, sz, bytes)) (hby : bytes ≤ 1000)
  (w : World) (hgd : o.guard = none) (x : Operand) (hop : o.op = .makeSlice t (.const (.int .i64 0)) x) (C : Int) (hx : a.eval x = .int .i64 C) (h0 : 0 ≤ C) (hn : C ≤ 100000)
  (h : ∀ v' w', OwnsR enc sz e w' w.heap.size v' [] → Below w.heap.size w w' → wpList P ops Q rest (a.put o.dst v') w') : wpList P ops Q (o :: rest) a w := by
 obtain ⟨i0, hi, hz0, hz1, hz2⟩ := info_parts hinfo;obtain ⟨n, rfl⟩ := Int.eq_ofNat_of_zero_le h0;have hnb : n * bytes ≤ 100000 * 1000 := Nat.mul_le_mul (by omega) hby
 exact wpList_make_own w hgd _ x t hop w.heap.size e i0 z sz ht hi hz0 hz1 .i64 .i64 n n rfl hx rfl (by rw [hz2]; have := Nat.mul_comm n bytes; omega) (by unfold maxLen; omega) (Nat.le_refl _)
  fun w' h1 h2 => h _ w' h1 ((Below.refl w.heap.size w).grown h2 (Nat.le_refl _) (fun k hk => by cases hk))
end
section
variable {H : Type} {enc' : TypeId × Value → H} {P : Program} {w : World} {base : Nat} {spare : Nat → Bool} {held : Bool} {α : Type} {enc : α → List Value} {sz : Nat}
theorem open_recs {t e : TypeId} {fuel : Nat} {cs : List Value} {x : DataW H × List MemPlace} (ht : P.underlying t = some (.slice e)) (ce : P.cellsOf e = sz) (hs : ∀ a, (enc a).length = sz)
  (elem : ∀ (n : Nat) (cs : List Value) (d : DataW H × List MemPlace), DataW.trod enc' P w base spare held n e cs = some d → ∃ r : α, cs = enc r)
  (hsz : 0 < sz) (h : DataW.trod enc' P w base spare held fuel t cs = some x) : ∃ v, cs = [v] ∧ ∃ l : List α, Rcs enc sz w v l := by
 rcases Deep.open_slice ht h with ⟨rfl, _⟩ | ⟨a, len, cap, m, n, D, Pl, rfl, hb, hl, hm, hmm, rfl, hx⟩
 ·exact ⟨_, rfl, [], Rcs.nil w⟩
 ·have hlm : len ≤ m := by rw [hmm]; split <;> omega
  have each : ∀ i, i < len → ∃ r : α, ∀ j u, (enc r)[j]? = some u → w.cell? ((a.add (i * sz)).add j) = some u := by
   intro i hi;obtain ⟨cs', h1, h2⟩ := hx i (by omega)
   rw [ce] at h1;obtain ⟨r, rfl⟩ := elem _ _ _ h2;obtain ⟨_, hlen, hcell⟩ := World.cells?_some h1;refine ⟨r, fun j u hu => ?_⟩
   have hj := (List.getElem?_eq_some_iff.1 hu).1;rw [hs] at hj;rw [hcell j hj];exact hu
  obtain ⟨q, hq⟩ : ∃ q : List α, q.length = len ∧ ∀ i (h : i < q.length), ∀ j u, (enc q[i])[j]? = some u → w.cell? ((a.add (i * sz)).add j) = some u := by
   clear hx hlm hmm hl hm h;induction len with
   | zero => exact ⟨[], rfl, fun i h => absurd h (by simp)⟩
   | succ len ih =>
    obtain ⟨q, h1, h2⟩ := ih (fun i hi => each i (by omega))
    obtain ⟨r, hr⟩ := each len (by omega)
    refine ⟨q ++ [r], by simp [h1], fun i hi j u hu => ?_⟩
    rw [List.length_append] at hi;by_cases e : i < q.length
    ·rw [List.getElem_append_left e] at hu
     exact h2 i e j u hu
    ·have : i = q.length := by simp at hi; omega
     subst this;rw [List.getElem_append_right (Nat.le_refl _)] at hu;simp at hu
     rw [h1];exact hr j u hu
  refine ⟨_, rfl, q, some a, cap, by rw [hq.1], (fun h => by cases h), by rw [hq.1]; exact hl, fun k hk => ⟨a, rfl, ?_, fun j u hu => ?_⟩⟩
  ·have hcl : 0 < (enc q[k]).length := by rw [hs]; exact hsz
   have := hq.2 k hk 0 _ (List.getElem?_eq_getElem hcl)
   have := World.block_lt_of_cell? w _ this
   rwa [addr_block, addr_block] at this
  ·have := hq.2 k hk j u hu
   rcases Nat.eq_zero_or_pos (k * sz) with e | e
   ·rw [e] at this ⊢
    rw [Nat.zero_add];have e2 : a.add 0 = a := by unfold Addr.add; simp
    rwa [e2] at this
   ·rwa [addr_add_add _ _ _ e] at this
theorem open_recs_with (Pr : α → Prop) {t e : TypeId} {fuel : Nat} {cs : List Value} {x : DataW H × List MemPlace} (ht : P.underlying t = some (.slice e)) (ce : P.cellsOf e = sz) (hs : ∀ a, (enc a).length = sz)
  (elem : ∀ (n : Nat) (cs : List Value) (d : DataW H × List MemPlace), DataW.trod enc' P w base spare held n e cs = some d → ∃ r : α, cs = enc r ∧ Pr r)
  (hsz : 0 < sz) (h : DataW.trod enc' P w base spare held fuel t cs = some x) : ∃ v, cs = [v] ∧ ∃ l : List α, Rcs enc sz w v l ∧ ∀ r ∈ l, Pr r := by
 rcases Deep.open_slice ht h with ⟨rfl, _⟩ | ⟨a, len, cap, m, n, D, Pl, rfl, hb, hl, hm, hmm, rfl, hx⟩
 ·exact ⟨_, rfl, [], Rcs.nil w, fun r hr => by cases hr⟩
 ·have hlm : len ≤ m := by rw [hmm]; split <;> omega
  have each : ∀ i, i < len → ∃ r : α, Pr r ∧ ∀ j u, (enc r)[j]? = some u → w.cell? ((a.add (i * sz)).add j) = some u := by
   intro i hi;obtain ⟨cs', h1, h2⟩ := hx i (by omega)
   rw [ce] at h1;obtain ⟨r, rfl, hp⟩ := elem _ _ _ h2;obtain ⟨_, hlen, hcell⟩ := World.cells?_some h1;refine ⟨r, hp, fun j u hu => ?_⟩
   have hj := (List.getElem?_eq_some_iff.1 hu).1;rw [hs] at hj;rw [hcell j hj];exact hu
  obtain ⟨q, hq, hpq⟩ : ∃ q : List α, (q.length = len ∧ ∀ i (h : i < q.length), ∀ j u, (enc q[i])[j]? = some u → w.cell? ((a.add (i * sz)).add j) = some u) ∧ ∀ r ∈ q, Pr r := by
   clear hx hlm hmm hl hm h;induction len with
   | zero => exact ⟨[], ⟨rfl, fun i h => absurd h (by simp)⟩, fun r hr => by cases hr⟩
   | succ len ih =>
    obtain ⟨q, ⟨h1, h2⟩, h3⟩ := ih (fun i hi => each i (by omega))
    obtain ⟨r, hp, hr⟩ := each len (by omega)
    refine ⟨q ++ [r], ⟨by simp [h1], fun i hi j u hu => ?_⟩, fun u hu => ?_⟩
    rotate_left
    ·rcases List.mem_append.1 hu with hu | hu
     ·exact h3 u hu
     ·rw [List.mem_singleton.1 hu]; exact hp
    rw [List.length_append] at hi;by_cases e : i < q.length
    ·rw [List.getElem_append_left e] at hu
     exact h2 i e j u hu
    ·have : i = q.length := by simp at hi; omega
     subst this;rw [List.getElem_append_right (Nat.le_refl _)] at hu;simp at hu
     rw [h1];exact hr j u hu
  refine ⟨_, rfl, q, ⟨some a, cap, by rw [hq.1], (fun h => by cases h), by rw [hq.1]; exact hl, fun k hk => ⟨a, rfl, ?_, fun j u hu => ?_⟩⟩, hpq⟩
  ·have hcl : 0 < (enc q[k]).length := by rw [hs]; exact hsz
   have := hq.2 k hk 0 _ (List.getElem?_eq_getElem hcl)
   have := World.block_lt_of_cell? w _ this
   rwa [addr_block, addr_block] at this
  ·have := hq.2 k hk j u hu
   rcases Nat.eq_zero_or_pos (k * sz) with e | e
   ·rw [e] at this ⊢
    rw [Nat.zero_add];have e2 : a.add 0 = a := by unfold Addr.add; simp
    rwa [e2] at this
   ·rwa [addr_add_add _ _ _ e] at this
end
end
namespace Sets
abbrev Id2 := Int × Int
def lt (a b : Id2) : Prop := a.1 < b.1 ∨ a.1 = b.1 ∧ a.2 < b.2
instance (a b : Id2) : Decidable (lt a b) := by unfold lt; infer_instance
theorem ap_ (a : Id2) : ¬ lt a a := by unfold lt; omega
theorem lt_trans {a b c : Id2} (h : lt a b) (k : lt b c) : lt a c := by unfold lt at *; omega
theorem lt_asymm {a b : Id2} (h : lt a b) : ¬ lt b a := by unfold lt at *; omega
theorem lt_total (a b : Id2) : lt a b ∨ a = b ∨ lt b a := by
 obtain ⟨a1, a2⟩ := a;obtain ⟨b1, b2⟩ := b;unfold lt;simp only [Prod.mk.injEq];omega
def Rises (l : List Id2) : Prop := l.Pairwise lt
theorem rises_nil : Rises [] := List.Pairwise.nil
theorem ax_ {x : Id2} {l : List Id2} : Rises (x :: l) ↔ (∀ y ∈ l, lt x y) ∧ Rises l := List.pairwise_cons
theorem rises_ext : ∀ {l m : List Id2}, Rises l → Rises m → (∀ x, x ∈ l ↔ x ∈ m) → l = m
 | [], [], _, _, _ => rfl
 | [], y :: m, _, _, h => absurd ((h y).2 (List.mem_cons_self ..)) (by simp)
 | x :: l, [], _, _, h => absurd ((h x).1 (List.mem_cons_self ..)) (by simp)
 | x :: l, y :: m, hl, hm, h => by
  have h1 := ax_.1 hl;have h2 := ax_.1 hm
  have e : x = y := by
   rcases List.mem_cons.1 ((h x).1 (List.mem_cons_self ..)) with e | e
   ·exact e
   ·rcases List.mem_cons.1 ((h y).2 (List.mem_cons_self ..)) with e2 | e2
    ·exact e2.symm
    ·exact absurd (h1.1 y e2) (lt_asymm (h2.1 x e))
  subst e;congr 1
  refine rises_ext h1.2 h2.2 fun z => ?_
  have hz := h z;simp only [List.mem_cons] at hz;constructor
  ·intro hzl
   rcases hz.1 (.inr hzl) with e | e
   ·subst e
    exact absurd (h1.1 z hzl) (ap_ z)
   ·exact e
  ·intro hzm
   rcases hz.2 (.inr hzm) with e | e
   ·subst e
    exact absurd (h2.1 z hzm) (ap_ z)
   ·exact e
def ins (x : Id2) : List Id2 → List Id2
 | [] => [x]
 | y :: l => if lt x y then x :: y :: l else if x = y then y :: l else y :: ins x l
theorem mem_ins (x z : Id2) (l : List Id2) : z ∈ ins x l ↔ z = x ∨ z ∈ l := by
 induction l with
 | nil => simp [ins]
 | cons y l ih =>
  rw [ins];split
  ·simp
  ·split
   ·rename_i _ e
    subst e;simp
   ·simp only [List.mem_cons, ih]
    constructor
    ·rintro (h | h | h)
     ·exact .inr (.inl h)
     ·exact .inl h
     ·exact .inr (.inr h)
    ·rintro (h | h | h)
     ·exact .inr (.inl h)
     ·exact .inl h
     ·exact .inr (.inr h)
theorem rises_ins (x : Id2) (l : List Id2) (h : Rises l) : Rises (ins x l) := by
 induction l with
 | nil => exact ax_.2 ⟨by simp, rises_nil⟩
 | cons y l ih =>
  have h1 := ax_.1 h;rw [ins];split
  ·rename_i hlt
   refine ax_.2 ⟨fun z hz => ?_, h⟩
   rcases List.mem_cons.1 hz with e | e
   ·subst e
    exact hlt
   ·exact lt_trans hlt (h1.1 z e)
  ·split
   ·exact h
   ·rename_i hn he
    refine ax_.2 ⟨fun z hz => ?_, ih h1.2⟩
    rcases (mem_ins x z l).1 hz with e | e
    ·subst e
     rcases lt_total z y with k | k | k
     ·exact absurd k hn
     ·exact absurd k he
     ·exact k
    ·exact h1.1 z e
def setOf (l : List Id2) : List Id2 := l.foldl (fun acc x => ins x acc) []
theorem mem_foldl (l acc : List Id2) (z : Id2) : z ∈ l.foldl (fun acc x => ins x acc) acc ↔ z ∈ acc ∨ z ∈ l := by
 induction l generalizing acc with
 | nil => simp
 | cons x l ih =>
  rw [List.foldl_cons, ih, mem_ins, List.mem_cons];constructor
  ·rintro ((h | h) | h)
   ·exact .inr (.inl h)
   ·exact .inl h
   ·exact .inr (.inr h)
  ·rintro (h | h | h)
   ·exact .inl (.inr h)
   ·exact .inl (.inl h)
   ·exact .inr h
theorem rises_foldl (l acc : List Id2) (h : Rises acc) : Rises (l.foldl (fun acc x => ins x acc) acc) := by
 induction l generalizing acc with
 | nil => exact h
 | cons x l ih => exact ih _ (rises_ins x acc h)
theorem mem_setOf (l : List Id2) (z : Id2) : z ∈ setOf l ↔ z ∈ l := by
 unfold setOf;rw [mem_foldl];simp
theorem rises_setOf (l : List Id2) : Rises (setOf l) := rises_foldl l [] rises_nil
theorem setOf_self {l : List Id2} (h : Rises l) : setOf l = l := rises_ext (rises_setOf l) h (mem_setOf l)
theorem setOf_ext {l m : List Id2} (h : ∀ x, x ∈ l ↔ x ∈ m) : setOf l = setOf m :=
 rises_ext (rises_setOf l) (rises_setOf m) fun x => by rw [mem_setOf, mem_setOf]; exact h x
def put (l : List Id2) (x : Id2) : List Id2 := setOf (x :: l)
def del (l : List Id2) (x : Id2) : List Id2 := setOf (l.filter fun y => decide (y ≠ x))
def join (l m : List Id2) : List Id2 := setOf (l ++ m)
def both (l m : List Id2) : List Id2 := setOf (l.filter fun y => decide (y ∈ m))
def without (l m : List Id2) : List Id2 := setOf (l.filter fun y => decide (y ∉ m))
theorem mem_put (l : List Id2) (x z : Id2) : z ∈ put l x ↔ z = x ∨ z ∈ l := by unfold put; rw [mem_setOf, List.mem_cons]
theorem mem_del (l : List Id2) (x z : Id2) : z ∈ del l x ↔ z ∈ l ∧ z ≠ x := by unfold del; rw [mem_setOf]; simp
theorem mem_join (l m : List Id2) (z : Id2) : z ∈ join l m ↔ z ∈ l ∨ z ∈ m := by unfold join; rw [mem_setOf]; simp
theorem mem_without (l m : List Id2) (z : Id2) : z ∈ without l m ↔ z ∈ l ∧ z ∉ m := by unfold without; rw [mem_setOf]; simp
theorem rises_put (l : List Id2) (x : Id2) : Rises (put l x) := rises_setOf _
theorem rises_del (l : List Id2) (x : Id2) : Rises (del l x) := rises_setOf _
theorem rises_join (l m : List Id2) : Rises (join l m) := rises_setOf _
theorem rises_without (l m : List Id2) : Rises (without l m) := rises_setOf _
theorem join_comm (a b : List Id2) : join a b = join b a := setOf_ext fun x => by simp only [List.mem_append]; exact Or.comm
theorem join_assoc (a b c : List Id2) : join (join a b) c = join a (join b c) := rises_ext (rises_join _ _) (rises_join _ _) fun x => by simp only [mem_join]; exact or_assoc
theorem join_self (a : List Id2) : join a a = setOf a := rises_ext (rises_join _ _) (rises_setOf _) fun x => by rw [mem_join, mem_setOf, or_self]
theorem ins_len (x : Id2) (l : List Id2) : (ins x l).length ≤ l.length + 1 := by
 induction l with
 | nil => simp [ins]
 | cons y l ih =>
  rw [ins];split
  ·simp
  ·split
   ·simp
   ·simpa using ih
theorem foldl_len (l acc : List Id2) : (l.foldl (fun acc x => ins x acc) acc).length ≤ acc.length + l.length := by
 induction l generalizing acc with
 | nil => simp
 | cons x l ih =>
  have h1 := ih (ins x acc);have h2 := ins_len x acc;simp only [List.foldl_cons, List.length_cons];omega
theorem setOf_len (l : List Id2) : (setOf l).length ≤ l.length := by
 have := foldl_len l []
 simpa [setOf] using this
end Sets
end Go.Proofs.YthkkipbmlafdiaaGreat
