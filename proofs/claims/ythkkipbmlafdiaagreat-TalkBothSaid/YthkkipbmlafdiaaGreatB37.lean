/-
  Contracts and plain facts.
-/
import Derived.Test.YthkkipbmlafdiaaGreatOy
import Derived.Test.YthkkipbmlafdiaaGreatB25
import Derived.Test.YthkkipbmlafdiaaGreatB34
set_option maxRecDepth 20000
namespace Go.Proofs.YthkkipbmlafdiaaGreat
section
open Go Go.RowKit
section
variable {α : Type} {enc : α → List Value} {sz : Nat} {P : Program}
theorem run_append_lit (t ty e : TypeId) {z : Value} {bytes : Nat} (ht : P.underlying t = some (.slice e))
  (hinfo : (P.info? e).map (fun i => (i.zero, i.size, i.bytes)) = some (some z, sz, bytes)) (hz : z.cells.size = sz) (hs : ∀ a, (enc a).length = sz) (hby : bytes ≤ 1000)
  (w : World) (b : Addr) (u : Value) (l : List α) (hI : Rcs enc sz w u l) (hl : l.length ≤ 100000) :
  ∃ v' w', (Builtin.append_ #[t, t] ty #[.slice (some b) 0 0, u]).run P w = .ok v' w' ∧ Rcs enc sz w' v' l ∧ Below w.heap.size w w' ∧ (l ≠ [] → OwnsR enc sz e w' w.heap.size v' l) := by
 obtain ⟨i0, hi, hz0, hz1, hz2⟩ := info_parts hinfo;obtain ⟨A, c, rfl, hn0, hc, hk⟩ := hI;rcases Nat.eq_zero_or_pos l.length with h0 | h0
 ·have hn : l = [] := List.eq_nil_of_length_eq_zero h0
  subst hn;refine ⟨.slice (some b) 0 0, w, ?_, ⟨some b, 0, rfl, (fun h => by cases h), by simp, fun k hk => absurd hk (by simp)⟩, Below.refl _ _, fun h => absurd rfl h⟩
  cases A <;> simp [Builtin.append_, run_underlying ht, sizeOf, typeInfo, hi, Builtin.lenOf, Builtin.firstCells, storeCells, loadCells, loadCellsFrom]
 ·obtain ⟨ad, rfl, _⟩ := hk 0 h0
  have hsz0 : ∀ k (h : k < l.length), ∀ j u, (enc l[k])[j]? = some u → w.cell? (ad.add (k * sz + j)) = some u := fun k h j u hu => by
   obtain ⟨ad', e, _, h2⟩ := hk k h;injection e with e
   subst e;exact h2 j u hu
  have hlen : (flatR enc l).length = l.length * sz := flatR_len hs l
  have hr := run_append_grow (P := P) w t ty e i0 z ht hi hz0 b 0 0 [] (by simp) (by simp) ad l.length c (flatR enc l) (by rw [hz1]; exact hlen)
   (fun j u hu => by
    have h1 : 0 < sz := by
     rcases Nat.eq_zero_or_pos sz with e | e
     ·rw [e, Nat.mul_zero] at hlen
      rw [List.eq_nil_of_length_eq_zero hlen] at hu;cases hu
     ·exact e
    obtain ⟨k, hlt, i, rfl, hu2⟩ := flatR_split hs h1 hu;exact hsz0 k hlt i u hu2)
   (by omega) (by omega) (growslice_fits (by omega) (by
    rw [hz2];have : (0 + l.length) * bytes ≤ 100000 * 1000 := Nat.mul_le_mul (by omega) hby
    omega))
  have hge := grownCap_ge w (0 + l.length) 0 e;have hcm : grownCap w (0 + l.length) 0 e ≤ maxLen := grownCap_le_maxLen w (0 + l.length) 0 e (by unfold maxLen; omega)
  generalize grownCap w (0 + l.length) 0 e = cap at hr hge hcm;simp only [Nat.zero_add] at hr hge
  have hO : OwnsR enc sz e (w.drew.alloc (.cells (([] : List Value).toArray ++ (flatR enc l).toArray ++ Builtin.zeroCells z.cells (cap - l.length)) e)) w.heap.size (.slice (some ⟨w.heap.size, 0, none⟩) l.length cap) l := by
   refine ⟨hlen, .inr ⟨w.heap.size, cap, _, rfl, Nat.le_refl _, heap_alloc_new w.drew _, hge, hcm, ?_, ?_⟩⟩
   ·simp only [Array.size_append, List.size_toArray, size_zeroCells, hz, hlen, List.length_nil, Nat.zero_add, ← Nat.add_mul]
    congr 1
    omega
   ·simp only [Array.toList_append, List.nil_append]
    rw [← hlen];exact List.take_left
  exact ⟨_, _, hr, rcs_owns hs hO, ⟨rfl, rfl, rfl, by simp, fun k hk => heap_alloc_old w.drew _ hk⟩, fun _ => hO⟩
theorem wp_append_lit {o : Oper} {a : Act} {K : Act → World → Prop} {Q : Exit → Act → World → Prop} (t e : TypeId) {z : Value} {bytes : Nat} (ht : P.underlying t = some (.slice e))
  (hinfo : (P.info? e).map (fun i => (i.zero, i.size, i.bytes)) = some (some z, sz, bytes)) (hz : z.cells.size = sz) (hs : ∀ a, (enc a).length = sz) (hby : bytes ≤ 1000)
  (s x : Operand) (ho : o.op = .call { callee := .builtin .append, args := #[s, x], argTypes := #[t, t] })
  (w : World) (b : Addr) (u : Value) (l : List α) (hsv : a.eval s = .slice (some b) 0 0) (hx : a.eval x = u) (hI : Rcs enc sz w u l) (hl : l.length ≤ 100000)
  (h : ∀ v' w', Rcs enc sz w' v' l → Below w.heap.size w w' → (l ≠ [] → OwnsR enc sz e w' w.heap.size v' l) → K (a.put o.dst v') w') : o.wp P a w K Q := by
 obtain ⟨v', w', hr, h2, h3, h4⟩ := run_append_lit t o.type e ht hinfo hz hs hby w b u l hI hl;unfold Oper.wp execOp;simp only [ho, resolve, invoke, builtin, Sem.run_bind, Sem.run_pure, Result.andThen_ok, List.map_toArray, List.map_cons, List.map_nil, hsv, hx, hr];exact h v' w' h2 h3 h4
end
def Lit (_ : World) (v : Value) : Prop := ∃ g, v = .slice (some ⟨g, 0, none⟩) 0 0
structure DV (w : World) (a b d e : SL) (V : Vw) : Prop where
 m : Ms w (.slice a.1 a.2.1 a.2.2) V.m
 f : Ids w (.slice b.1 b.2.1 b.2.2) V.f
 c : Rcs encT 3 w (.slice d.1 d.2.1 d.2.2) V.c
 s : Ids w (.slice e.1 e.2.1 e.2.2) V.s
theorem DV.kp {w w' : World} {a b d e : SL} {V : Vw} (h : DV w a b d e V) (hk : Kp w w') : DV w' a b d e V := ⟨Ms.kp h.m hk, Ids.kp h.f hk, ticks_kp h.c hk, Ids.kp h.s hk⟩
def DA (w : World) (v : Value) (V : Vw) : Prop := ∃ a b d e : SL, v = .agg #[.slice a.1 a.2.1 a.2.2, .slice b.1 b.2.1 b.2.2, .slice none 0 0, .slice d.1 d.2.1 d.2.2, .slice e.1 e.2.1 e.2.2] ∧ DV w a b d e V
theorem DA.kp {w w' : World} {v : Value} {V : Vw} (h : DA w v V) (hk : Kp w w') : DA w' v V := by
 obtain ⟨a, b, d, e, h1, h2⟩ := h;exact ⟨a, b, d, e, h1, h2.kp hk⟩
def HD (w : World) (v : Value) (b0 : Nat) (V : Vw) : Prop := ∃ X, ∃ a b d e : SL, v = .pointer (some ⟨X, 0, none⟩) ∧ b0 ≤ X ∧ VBox w X a b (none, 0, 0) d e ∧ DV w a b d e V
theorem HD.keep {w w' : World} {v p : Value} {b0 : Nat} {V : Vw} (h : HD w v b0 V) (hb : Vy p w w') (hp : v ≠ p) : HD w' v b0 V := by
 obtain ⟨X, a, b, d, e, rfl, h1, h2, h3⟩ := h;exact ⟨X, a, b, d, e, rfl, h1, (hb.2.2 X hp ⟨_, _, _, _, _, h2⟩).trans h2, h3.kp hb.1.kp⟩
def rcDs : List (Option Tmp) := [some 6, some 7, some 8, some 9, some 10, some 11, some 12, some 13, some 14, some 15, some 16, some 17, some 18, some 19, some 20, some 21, some 22, some 3, none]
def rcF (x b0 : Nat) (a b d e : SL) (V : Vw) : Nat → Value → World → Prop := fun i v w => match i with
 | 0 => Lit w v 
 | 1 => v = .pointer (some ⟨x, 0, none⟩)
 | 2 => v = .slice a.1 a.2.1 a.2.2
 | 3 => Ms w v (V.m)
 | 4 => Lit w v 
 | 5 => v = .pointer (some ⟨x, 1, none⟩)
 | 6 => v = .slice b.1 b.2.1 b.2.2
 | 7 => Ids w v V.f
 | 8 => Lit w v 
 | 9 => v = .pointer (some ⟨x, 3, none⟩)
 | 10 => v = .slice d.1 d.2.1 d.2.2
 | 11 => RC w v (V.c)
 | 12 => Lit w v 
 | 13 => v = .pointer (some ⟨x, 4, none⟩)
 | 14 => v = .slice e.1 e.2.1 e.2.2
 | 15 => Ids w v V.s
 | 16 => DA w v V
 | 17 => PV w v b0
 | 18 => HD w v b0 V
 | _ => True
theorem rcF_mono (x b0 : Nat) (a b d e : SL) (V : Vw) : ∀ i p v w w', rcF x b0 a b d e V i v w → Vy p w w' → (i < rcDs.length → rcDs.getD i none = none → v ≠ p) → rcF x b0 a b d e V i v w' := by
 intro i p v w w' h hb hp;unfold rcF at h ⊢;split at h
 all_goals first | exact h | exact Ms.kp h hb.1.kp | exact Ids.kp h hb.1.kp | exact ticks_kp h hb.1.kp | exact DA.kp h hb.1.kp | exact PV.keepY h hb | exact HD.keep h hb (hp (by decide) rfl) | exact trivial
theorem rcF_nu (x b0 : Nat) (a b d e : SL) (V : Vw) : ∀ i v w, rcF x b0 a b d e V i v w → i < rcDs.length → rcDs.getD i none = none → v ≠ undef := fun i v w h hi hn => by
 by_cases e : i = 18
 ·subst e
  obtain ⟨X, _, _, _, _, rfl, _⟩ := (show HD w v b0 V from h)
  intro e;cases e
 ·exact absurd hn ((show ∀ k, k < 19 → k ≠ 18 → rcDs.getD k none ≠ none by decide) i hi e)
def rcFr (i : Nat) : Bool := i == 17
theorem rcF_fr (x b0 : Nat) (a b d e : SL) (V : Vw) : ∀ i v w, rcFr i = true → rcF x b0 a b d e V i v w → OldP v w := by
 intro i v w h k;unfold rcFr at h;rw [beq_iff_eq] at h;subst h;obtain ⟨X, h1, _, h3, _⟩ := (show PV w v b0 from k)
 exact ⟨X, h1, h3⟩
theorem wpList_pushW {ops : Array Oper} {rest : List Oper} {o : Oper} {a : Act} {Q : Exit → Act → World → Prop} (hgd : o.guard = none) (s x : Operand)
  (ho : o.op = .call { callee := .builtin .append, args := #[s, x], argTypes := #[24, 24] })
  (w : World) (base : Nat) (A : Option Addr) (n c gx : Nat) (qs : List Raw) (p i v : Int) (B : Option Addr) (m k : Nat) (hn : qs.length = n) (hs : a.eval s = .slice A n c) (hx : a.eval x = .slice (some ⟨gx, 0, none⟩) 1 1)
  (hown : OwnsW w base (.slice A n c) qs) (hbox : WBox w gx p i v (.slice B m k)) (hl : qs.length ≤ 50000) (hb : base ≤ w.heap.size)
  (h : ∀ g cap w', OwnsW w' base (.slice (some ⟨g, 0, none⟩) (n + 1) cap) (qs ++ [((p, i), v, B, m, k)]) → w.grownBy w' (Value.slice A n c).ownBlock → ((Value.slice A n c).ownBlock = some g ∨ g = w.heap.size) → g < w'.heap.size → wpList Tryz.prog ops Q rest (a.put o.dst (.slice (some ⟨g, 0, none⟩) (n + 1) cap)) w') :
  wpList Tryz.prog ops Q (o :: rest) a w :=
 wpList_step fun _ hK => step_pushW hgd s x ho w base A n c gx qs p i v B m k hn hs hx hown hbox hl hb fun g cap w' h1 h2 h3 h4 => hK _ _ (h g cap w' h1 h2 h3 h4)
structure RcG (w w1 : World) (b1 X : Nat) (a b d e : SL) (V : Vw) (k : Nat) (W : World) : Prop where
 old : ∀ j, j < b1 → j ≠ X → W.heap[j]? = w1.heap[j]?
 size : b1 ≤ W.heap.size
 below : Below w.heap.size w W
 rows : ∃ A n c qs, VBox W X a b (A, n, c) d e ∧ OwnsW W b1 (.slice A n c) qs ∧ qs.length = n ∧ EachOwn W b1 qs (V.r.take k) ∧ ∀ q ∈ qs, ∀ g, (slc q).ownBlock = some g → (Value.slice A n c).ownBlock ≠ some g
theorem RcG.kp {w w1 : World} {b1 X : Nat} {a b d e : SL} {V : Vw} {k : Nat} {W : World} {s0 s1 s2 s3 s4 : SL} (h : RcG w w1 b1 X a b d e V k W) (hb : w1.heap.size = b1) (hX : VBox w1 X s0 s1 s2 s3 s4) : Kp w1 W := by
 refine ⟨by rw [hb]; exact h.size, fun x y hxy ⟨kk, m, hc⟩ u hu => ?_⟩
 have hlt := World.block_lt_of_cell? w1 _ hu
 have hne : y.block ≠ X := fun e => by
  unfold VBox at hX;rw [← hxy] at e;rw [← e] at hX;unfold World.cell? at hc;rw [hX] at hc;simp at hc
  have hm := List.mem_of_getElem? hc.2;simp at hm
 rw [World.cell?_of_block (h.old _ (by omega) hne)]
 exact hu
theorem rc_end {w w1 C w6 w7 : World} {b1 X k n c g cap' m kk : Nat} {a b d e : SL} {V : Vw} {A B : Option Addr} {qs : List Raw} (h0 : RcG w w1 b1 X a b d e V k C) (h1 : VBox C X a b (A, n, c) d e) (h2 : qs.length = n) (h3 : OwnsW C b1 (.slice A n c) qs) (h4 : EachOwn C b1 qs (V.r.take k))
  (h6 : ∀ q ∈ qs, ∀ g, (slc q).ownBlock = some g → (Value.slice A n c).ownBlock ≠ some g) (hX : X < b1) (hwX : w.heap.size ≤ X) (hk : k < V.r.length) (hb : Below C.heap.size C w6) (hq : OwnsI w6 C.heap.size (.slice B m kk) V.r[k].2.2)
  (p1 : OwnsW w7 b1 (.slice (some ⟨g, 0, none⟩) (n + 1) cap') (qs ++ [((V.r[k].1.1, V.r[k].1.2), V.r[k].2.1, B, m, kk)])) (p2 : w6.grownBy w7 (Value.slice A n c).ownBlock) (p3 : (Value.slice A n c).ownBlock = some g ∨ g = w6.heap.size) :
  RcG w w1 b1 X a b d e V (k + 1) (w7.setCell ⟨X, 2, none⟩ (.slice (some ⟨g, 0, none⟩) (n + 1) cap')) := by
 have hXC : X < C.heap.size := vbox_lt h1
 have hown := World.ownsRow.lt h3;have hs6 := hb.size;have hs7 := p2.size;have hs0 := h0.size;have hw := h0.below.size;have hoX : (Value.slice A n c).ownBlock ≠ some X := fun e => by have := (hown X e).1; omega
 have hgX : g ≠ X := by
  rcases p3 with e | e
  ·intro h
   rw [h] at e;exact hoX e
  ·omega
 have X7 : VBox w7 X a b (A, n, c) d e := (p2.block X (by omega) (fun e => hoX e.symm)).trans ((hb.block X hXC).trans h1)
 have gE : w7.grownBy (w7.setCell ⟨X, 2, none⟩ (.slice (some ⟨g, 0, none⟩) (n + 1) cap')) (some X) := grown_setCells (World.grownBy.refl _ _) 2 [.slice (some ⟨g, 0, none⟩) (n + 1) cap']
 refine ⟨fun j hj hjX => ?_, by rw [World.size_setCell]; omega, ?_, ?_⟩
 ·rw [Below.heap_setCell _ _ _ _ hjX, p2.block j (by omega) (fun e => by have := (hown j e.symm).1; omega), hb.block j (by omega)]
  exact h0.old j hj hjX
 ·have hB : Below w.heap.size w w6 := ba_ h0.below hb
  exact (hB.grown p2 hB.size (fun j hj => by have := (hown j hj).1; omega)).setCell (p := ⟨X, 2, none⟩) hwX _
 ·have O7 : OwnsI w7 b1 (.slice B m kk) V.r[k].2.2 := by
   refine World.ownsRow.kept (OwnsR.mono hq (show b1 ≤ C.heap.size by omega)) p2 ?_
   rcases ho : (Value.slice B m kk).ownBlock with _ | g'
   ·exact .inl rfl
   ·refine .inr fun e => ?_
    have a1 := World.ownsRow.lt hq g' ho;have a2 := hown g' e.symm;omega
  refine ⟨_, _, _, _, vbox_rows X7 _ _ _, OwnsR.grown p1 gE (fun e => hgX (by injection e)), by simp [h2], ?_, ?_⟩
  ·rw [List.take_succ_eq_append_getElem hk]
   refine (EachOwn.append (EachOwn.apart p2 (h4.below hb) h6) ?_).grown gE hX
   exact ⟨⟨rfl, rfl, O7⟩, trivial⟩
  ·intro q hq' g' hg' e
   have e : g = g' := by injection e
   rcases List.mem_append.1 hq' with hm | hm
   ·have a1 := h4.lt q hm g' hg'
    rcases p3 with p | p
    ·exact h6 q hm g' hg' (by rw [← e]; exact p)
    ·omega
   ·rw [List.mem_singleton.1 hm] at hg'
    have a1 := World.ownsRow.lt hq g' hg';rcases p3 with p | p
    ·have := (hown g p).2; omega
    ·omega
theorem wbox_lst {w : World} {g : Nat} {a i n : Int} {v : Value} (h : WBox w g a i n v) (u : Value) : WBox (w.setCell ⟨g, 3, none⟩ u) g a i n u := by
 unfold WBox at *;simp [World.setCell, Array.getElem?_modify, h]
theorem RcG.start {w w1 : World} {b1 X : Nat} {a b d e : SL} {V : Vw} (hb : w1.heap.size = b1) (hX : VBox w1 X a b (none, 0, 0) d e) (hw : Below w.heap.size w w1) : RcG w w1 b1 X a b d e V 0 w1 := ⟨fun _ _ _ => rfl, by omega, hw, none, 0, 0, [], hX, OwnsR.nil _ _ _, rfl, trivial, fun q hq => absurd hq (by simp)⟩
set_option maxHeartbeats 16000000 in
theorem refCopy_any (v : Value) (V : Vw) (w : World) (h : VAt w v V) (hV : FitVIE 1000 V) :
  Calls Tryz.prog 12 #[v] w fun e w' => ∃ X, e = .returned X ∧ VAt w' X V ∧ Below w.heap.size w w' := by
 obtain ⟨a, b, c, d, e, rfl, hr⟩ := h;obtain ⟨C1, C3, hsh, _⟩ := hr.r.shape;obtain ⟨cA, cn, cc⟩ := c;injection hsh with hs1 hs2 hs3
 dsimp only at hs1 hs2 hs3;subst hs1 hs2 hs3;have q1 := ad_ w (.cells #[.slice a.1 a.2.1 a.2.2, .slice b.1 b.2.1 b.2.2, .slice cA V.r.length cc, .slice d.1 d.2.1 d.2.2, .slice e.1 e.2.1 e.2.2] 27);have q2 := ad_ (w.alloc (.cells #[.slice a.1 a.2.1 a.2.2, .slice b.1 b.2.1 b.2.2, .slice cA V.r.length cc, .slice d.1 d.2.1 d.2.2, .slice e.1 e.2.1 e.2.2] 27)) (.cells #[.slice none 0 0, .slice none 0 0, .slice none 0 0, .slice none 0 0, .slice none 0 0] 27);have G0 : Hid (CyG w ((w.alloc (.cells #[.slice a.1 a.2.1 a.2.2, .slice b.1 b.2.1 b.2.2, .slice cA V.r.length cc, .slice d.1 d.2.1 d.2.2, .slice e.1 e.2.1 e.2.2] 27)).alloc (.cells #[.slice none 0 0, .slice none 0 0, .slice none 0 0, .slice none 0 0, .slice none 0 0] 27)).heap.size a b (cA, V.r.length, cc) d e V ((w.alloc (.cells #[.slice a.1 a.2.1 a.2.2, .slice b.1 b.2.1 b.2.2, .slice cA V.r.length cc, .slice d.1 d.2.1 d.2.2, .slice e.1 e.2.1 e.2.2] 27)).alloc (.cells #[.slice none 0 0, .slice none 0 0, .slice none 0 0, .slice none 0 0, .slice none 0 0] 27))) := hd_ ⟨ab_ (ak_ w a b (cA, V.r.length, cc) d e) q2, by have h := ak_ (w.alloc (.cells #[.slice a.1 a.2.1 a.2.2, .slice b.1 b.2.1 b.2.2, .slice cA V.r.length cc, .slice d.1 d.2.1 d.2.2, .slice e.1 e.2.1 e.2.2] 27)) (none, 0, 0) (none, 0, 0) (none, 0, 0) (none, 0, 0) (none, 0, 0); simp only [World.size_alloc] at h; exact h, by simp, Nat.le_refl _, hr.below (ba_ q1 q2), ba_ q1 q2⟩
 have LV := hd_ hV;have LR : V.r.length ≤ 1000 := hV.r
 clear q1 q2 hV hr;go_enter Tryz.func12, Tryz.ntmps12
 go_wp2_with fail;generalize hb0 : ((w.alloc (.cells #[.slice a.1 a.2.1 a.2.2, .slice b.1 b.2.1 b.2.2, .slice cA V.r.length cc, .slice d.1 d.2.1 d.2.2, .slice e.1 e.2.1 e.2.2] 27)).alloc (.cells #[.slice none 0 0, .slice none 0 0, .slice none 0 0, .slice none 0 0, .slice none 0 0] 27)).heap.size = b0 at *;refine wp_region_dueT (R := Vy) (tgt := fun _ => 3) (tk := fun _ => 17) (fr := rcFr) (by kernel_rfl) rcDs (rcF w.heap.size b0 a b d e V) (CyG w b0 a b (cA, V.r.length, cc) d e V) rfl (by kernel_rfl) (by kernel_rfl) (by kernel_rfl) (by kernel_rfl) (rcF_fr _ b0 a b d e V) (by kernel_rfl) (by kernel_rfl) (rcF_mono _ b0 a b d e V) (rcF_nu _ b0 a b d e V) (G0.out.step (below_drewN (n := 1) (Below.refl _ _))) ?_ ?_
 ·clear G0 hb0
  refine AllDueT.cons (due_metT (.inl rfl) fun q w1 hG hold hf hap K hK => ?_) ?_
  ·clear hf hold
   go_simp;have h2 := ad_ w1 (.cells #[] 31);exact hK _ _ (hG.step h2) (vy_of h2) ⟨_, rfl⟩ (fun h => by cases h)
  refine AllDueT.cons (due_metT (.inl rfl) fun q w1 hG hold hf hap K hK => ?_) ?_
  ·have f1 : q.tmps.getD 1 undef = .pointer (some ⟨w.heap.size, 0, none⟩) := hold 1 (by kernel_rfl)
   clear hf hold;go_simp;exact hK _ _ hG (vy_refl _ _) rfl (fun h => by cases h)
  refine AllDueT.cons (due_metT (.inl rfl) fun q w1 hG hold hf hap K hK => ?_) ?_
  ·have f7 : q.tmps.getD 7 undef = .pointer (some ⟨w.heap.size, 0, none⟩) := hf 1 7 (by kernel_rfl) rfl
   have q7 := f7;rw [gd_] at q7;obtain ⟨p0, p1, p2, p3, p4⟩ := aa_ hG.x;clear hf hold;go_simp;exact hK _ _ hG (vy_refl _ _) rfl (fun h => by cases h)
  refine AllDueT.cons (due_metT (.inl rfl) fun q w1 hG hold hf hap K hK => ?_) ?_
  ·have r6 : Lit w1 (q.tmps.getD 6 undef)  := hf 0 6 (by kernel_rfl) rfl
   obtain ⟨x6, e6⟩ : ∃ x, q.tmps.getD 6 undef = x := ⟨_, rfl⟩;rw [e6] at r6;have q6 := e6;rw [gd_] at q6;have f8 : q.tmps.getD 8 undef = .slice a.1 a.2.1 a.2.2 := hf 2 8 (by kernel_rfl) rfl
   have q8 := f8;rw [gd_] at q8;obtain ⟨g0, hg0⟩ := r6;rw [hg0] at e6;clear hf hold;refine wp_append_lit (enc := encM) 22 31 Tryz.underlying22 info32 (by decide) encM_len (by omega) (.tmp 6) (.tmp 8) rfl _ ⟨g0, 0, none⟩ (.slice a.1 a.2.1 a.2.2) V.m e6 f8 hG.r.m (Nat.le_trans LV.out.m (by decide)) ?_
   intro v' w' hr h2 _;exact hK _ _ (hG.step h2) (vy_of h2) hr (fun h => by cases h)
  refine AllDueT.cons (due_metT (.inl rfl) fun q w1 hG hold hf hap K hK => ?_) ?_
  ·clear hf hold
   go_simp;have h2 := ad_ w1 (.cells #[] 29);exact hK _ _ (hG.step h2) (vy_of h2) ⟨_, rfl⟩ (fun h => by cases h)
  refine AllDueT.cons (due_metT (.inl rfl) fun q w1 hG hold hf hap K hK => ?_) ?_
  ·have f1 : q.tmps.getD 1 undef = .pointer (some ⟨w.heap.size, 0, none⟩) := hold 1 (by kernel_rfl)
   clear hf hold;go_simp;exact hK _ _ hG (vy_refl _ _) rfl (fun h => by cases h)
  refine AllDueT.cons (due_metT (.inl rfl) fun q w1 hG hold hf hap K hK => ?_) ?_
  ·have f11 : q.tmps.getD 11 undef = .pointer (some ⟨w.heap.size, 1, none⟩) := hf 5 11 (by kernel_rfl) rfl
   have q11 := f11;rw [gd_] at q11;obtain ⟨p0, p1, p2, p3, p4⟩ := aa_ hG.x;clear hf hold;go_simp;exact hK _ _ hG (vy_refl _ _) rfl (fun h => by cases h)
  refine AllDueT.cons (due_metT (.inl rfl) fun q w1 hG hold hf hap K hK => ?_) ?_
  ·have r10 : Lit w1 (q.tmps.getD 10 undef)  := hf 4 10 (by kernel_rfl) rfl
   obtain ⟨x10, e10⟩ : ∃ x, q.tmps.getD 10 undef = x := ⟨_, rfl⟩;rw [e10] at r10;have q10 := e10;rw [gd_] at q10;have f12 : q.tmps.getD 12 undef = .slice b.1 b.2.1 b.2.2 := hf 6 12 (by kernel_rfl) rfl
   have q12 := f12;rw [gd_] at q12;obtain ⟨g0, hg0⟩ := r10;rw [hg0] at e10;clear hf hold;refine wp_append_lit (enc := encI) 23 29 Tryz.underlying23 info23 (by decide) encI_len (by omega) (.tmp 10) (.tmp 12) rfl _ ⟨g0, 0, none⟩ (.slice b.1 b.2.1 b.2.2) V.f e10 f12 (rcs_ids hG.r.f) (Nat.le_trans LV.out.f (by decide)) ?_
   intro v' w' hr h2 _;exact hK _ _ (hG.step h2) (vy_of h2) (ids_rcs hr) (fun h => by cases h)
  refine AllDueT.cons (due_metT (.inl rfl) fun q w1 hG hold hf hap K hK => ?_) ?_
  ·clear hf hold
   go_simp;have h2 := ad_ w1 (.cells #[] 53);exact hK _ _ (hG.step h2) (vy_of h2) ⟨_, rfl⟩ (fun h => by cases h)
  refine AllDueT.cons (due_metT (.inl rfl) fun q w1 hG hold hf hap K hK => ?_) ?_
  ·have f1 : q.tmps.getD 1 undef = .pointer (some ⟨w.heap.size, 0, none⟩) := hold 1 (by kernel_rfl)
   clear hf hold;go_simp;exact hK _ _ hG (vy_refl _ _) rfl (fun h => by cases h)
  refine AllDueT.cons (due_metT (.inl rfl) fun q w1 hG hold hf hap K hK => ?_) ?_
  ·have f15 : q.tmps.getD 15 undef = .pointer (some ⟨w.heap.size, 3, none⟩) := hf 9 15 (by kernel_rfl) rfl
   have q15 := f15;rw [gd_] at q15;obtain ⟨p0, p1, p2, p3, p4⟩ := aa_ hG.x;clear hf hold;go_simp;exact hK _ _ hG (vy_refl _ _) rfl (fun h => by cases h)
  refine AllDueT.cons (due_metT (.inl rfl) fun q w1 hG hold hf hap K hK => ?_) ?_
  ·have r14 : Lit w1 (q.tmps.getD 14 undef)  := hf 8 14 (by kernel_rfl) rfl
   obtain ⟨x14, e14⟩ : ∃ x, q.tmps.getD 14 undef = x := ⟨_, rfl⟩;rw [e14] at r14;have q14 := e14;rw [gd_] at q14;have f16 : q.tmps.getD 16 undef = .slice d.1 d.2.1 d.2.2 := hf 10 16 (by kernel_rfl) rfl
   have q16 := f16;rw [gd_] at q16;obtain ⟨g0, hg0⟩ := r14;rw [hg0] at e14;clear hf hold;refine wp_append_lit (enc := encT) 25 53 Tryz.underlying25 info35 (by decide) encT_len (by omega) (.tmp 14) (.tmp 16) rfl _ ⟨g0, 0, none⟩ (.slice d.1 d.2.1 d.2.2) V.c e14 f16 hG.r.c (Nat.le_trans LV.out.c (by decide)) ?_
   intro v' w' hr h2 _;exact hK _ _ (hG.step h2) (vy_of h2) hr (fun h => by cases h)
  refine AllDueT.cons (due_metT (.inl rfl) fun q w1 hG hold hf hap K hK => ?_) ?_
  ·clear hf hold
   go_simp;have h2 := ad_ w1 (.cells #[] 29);exact hK _ _ (hG.step h2) (vy_of h2) ⟨_, rfl⟩ (fun h => by cases h)
  refine AllDueT.cons (due_metT (.inl rfl) fun q w1 hG hold hf hap K hK => ?_) ?_
  ·have f1 : q.tmps.getD 1 undef = .pointer (some ⟨w.heap.size, 0, none⟩) := hold 1 (by kernel_rfl)
   clear hf hold;go_simp;exact hK _ _ hG (vy_refl _ _) rfl (fun h => by cases h)
  refine AllDueT.cons (due_metT (.inl rfl) fun q w1 hG hold hf hap K hK => ?_) ?_
  ·have f19 : q.tmps.getD 19 undef = .pointer (some ⟨w.heap.size, 4, none⟩) := hf 13 19 (by kernel_rfl) rfl
   have q19 := f19;rw [gd_] at q19;obtain ⟨p0, p1, p2, p3, p4⟩ := aa_ hG.x;clear hf hold;go_simp;exact hK _ _ hG (vy_refl _ _) rfl (fun h => by cases h)
  refine AllDueT.cons (due_metT (.inl rfl) fun q w1 hG hold hf hap K hK => ?_) ?_
  ·have r18 : Lit w1 (q.tmps.getD 18 undef)  := hf 12 18 (by kernel_rfl) rfl
   obtain ⟨x18, e18⟩ : ∃ x, q.tmps.getD 18 undef = x := ⟨_, rfl⟩;rw [e18] at r18;have q18 := e18;rw [gd_] at q18;have f20 : q.tmps.getD 20 undef = .slice e.1 e.2.1 e.2.2 := hf 14 20 (by kernel_rfl) rfl
   have q20 := f20;rw [gd_] at q20;obtain ⟨g0, hg0⟩ := r18;rw [hg0] at e18;clear hf hold;refine wp_append_lit (enc := encI) 23 29 Tryz.underlying23 info23 (by decide) encI_len (by omega) (.tmp 18) (.tmp 20) rfl _ ⟨g0, 0, none⟩ (.slice e.1 e.2.1 e.2.2) V.s e18 f20 (rcs_ids hG.r.s) (Nat.le_trans LV.out.s (by decide)) ?_
   intro v' w' hr h2 _;exact hK _ _ (hG.step h2) (vy_of h2) (ids_rcs hr) (fun h => by cases h)
  refine AllDueT.cons (due_metT (.inl rfl) fun q w1 hG hold hf hap K hK => ?_) ?_
  ·have r9 : Ms w1 (q.tmps.getD 9 undef) (V.m) := hf 3 9 (by kernel_rfl) rfl
   obtain ⟨x9, e9⟩ : ∃ x, q.tmps.getD 9 undef = x := ⟨_, rfl⟩;rw [e9] at r9;have q9 := e9;rw [gd_] at q9;have r13 : Ids w1 (q.tmps.getD 13 undef) V.f := hf 7 13 (by kernel_rfl) rfl
   obtain ⟨x13, e13⟩ : ∃ x, q.tmps.getD 13 undef = x := ⟨_, rfl⟩;rw [e13] at r13;have q13 := e13;rw [gd_] at q13;have r17 : RC w1 (q.tmps.getD 17 undef) (V.c) := hf 11 17 (by kernel_rfl) rfl
   obtain ⟨x17, e17⟩ : ∃ x, q.tmps.getD 17 undef = x := ⟨_, rfl⟩;rw [e17] at r17;have q17 := e17;rw [gd_] at q17;have r21 : Ids w1 (q.tmps.getD 21 undef) V.s := hf 15 21 (by kernel_rfl) rfl
   obtain ⟨x21, e21⟩ : ∃ x, q.tmps.getD 21 undef = x := ⟨_, rfl⟩;rw [e21] at r21;have q21 := e21;rw [gd_] at q21;obtain ⟨s0, rfl⟩ := sl_rcs r9;obtain ⟨s1, rfl⟩ := sl_ids r13;obtain ⟨s3, rfl⟩ := sl_rcs r17;obtain ⟨s4, rfl⟩ := sl_ids r21;clear hf hold;go_simp;exact hK _ _ hG (vy_refl _ _) ⟨s0, s1, s3, s4, rfl, r9, r13, r17, r21⟩ (fun h => by cases h)
  refine AllDueT.cons (due_metT (.inl rfl) fun q w1 hG hold hf hap K hK => ?_) ?_
  ·clear hf hold
   go_simp;have h2 := ad_ w1 (.cells #[.slice none 0 0, .slice none 0 0, .slice none 0 0, .slice none 0 0, .slice none 0 0] 27);exact hK _ _ (hG.step h2) (vy_of h2) ⟨_, rfl, hG.size, by simp, (none, 0, 0), (none, 0, 0), (none, 0, 0), (none, 0, 0), (none, 0, 0), heap_alloc_new _ _⟩ (fun _ => ⟨_, rfl, Nat.le_refl _⟩)
  refine AllDueT.cons (due_metT (.inl rfl) fun q w1 hG hold hf hap K hK => ?_) ?_
  ·have r3 : PV w1 (q.tmps.getD 3 undef) b0 := hf 17 3 (by kernel_rfl) rfl
   obtain ⟨x3, e3⟩ : ∃ x, q.tmps.getD 3 undef = x := ⟨_, rfl⟩;rw [e3] at r3;have q3 := e3;rw [gd_] at q3;have r22 : DA w1 (q.tmps.getD 22 undef) V := hf 16 22 (by kernel_rfl) rfl
   obtain ⟨x22, e22⟩ : ∃ x, q.tmps.getD 22 undef = x := ⟨_, rfl⟩;rw [e22] at r22;have q22 := e22;rw [gd_] at q22;obtain ⟨Y, hY, hY0, hYs, z0, z1, z2, z3, z4, hz⟩ := r3;subst hY;obtain ⟨s0, s1, s3, s4, rfl, hcv⟩ := r22;obtain ⟨k0, k1, k2, k3, k4⟩ := aa_ hz;obtain ⟨f0, f1, f2, f3, f5⟩ := al_ hz;clear hf hold;go_simp;have hk := vy_put hz s0 s1 (none, 0, 0) s3 s4;refine hK undef _ (hG.put (vs := [.slice s0.1 s0.2.1 s0.2.2, .slice s1.1 s1.2.1 s1.2.2, .slice none 0 0, .slice s3.1 s3.2.1 s3.2.2, .slice s4.1 s4.2.1 s4.2.2]) hY0 hz) ?_ ?_ (fun h => by cases h)
   ·show Vy (q.tmps.getD 3 undef) _ _
    rw [e3];exact hk
   ·show HD _ (q.tmps.getD 3 undef) b0 V
    rw [e3];exact ⟨Y, s0, s1, s3, s4, rfl, hY0, a2_ hz s0 s1 (none, 0, 0) s3 s4, hcv.kp hk.1.kp⟩
  exact AllDueT.nil
 ·intro ac w6 hG hd hs hold hf hdone hap
  obtain ⟨X, s0, s1, s3, s4, k3, hX0, hb, hcv⟩ : HD w6 (ac.tmps.getD 3 undef) b0 V := hdone 18 (by decide) rfl
  have k1 : ac.tmps.getD 1 undef = .pointer (some ⟨w.heap.size, 0, none⟩) := hold 1 (by kernel_rfl)
  have k2 : ac.tmps.getD 2 undef = .pointer (some ⟨w.heap.size + 1, 0, none⟩) := hold 2 (by kernel_rfl)
  have HX := hd_ hb;have HG := hd_ hG;have HD_ := hd_ hcv;have LX := hd_ (vbox_lt hb);have LB := hd_ (show w.heap.size + 1 < X by have := hG.l; omega)
  have H0 := hd_ (RcG.start (V := V) rfl hb hG.below);have hE := (act_eta ac 47 hs).trans (show _ = (⟨#[ac.tmps.getD 0 undef, ac.tmps.getD 1 undef, ac.tmps.getD 2 undef, ac.tmps.getD 3 undef, ac.tmps.getD 4 undef, ac.tmps.getD 5 undef, ac.tmps.getD 6 undef, ac.tmps.getD 7 undef, ac.tmps.getD 8 undef, ac.tmps.getD 9 undef, ac.tmps.getD 10 undef, ac.tmps.getD 11 undef, ac.tmps.getD 12 undef, ac.tmps.getD 13 undef, ac.tmps.getD 14 undef, ac.tmps.getD 15 undef, ac.tmps.getD 16 undef, ac.tmps.getD 17 undef, ac.tmps.getD 18 undef, ac.tmps.getD 19 undef, ac.tmps.getD 20 undef, ac.tmps.getD 21 undef, ac.tmps.getD 22 undef, ac.tmps.getD 23 undef, ac.tmps.getD 24 undef, ac.tmps.getD 25 undef, ac.tmps.getD 26 undef, ac.tmps.getD 27 undef, ac.tmps.getD 28 undef, ac.tmps.getD 29 undef, ac.tmps.getD 30 undef, ac.tmps.getD 31 undef, ac.tmps.getD 32 undef, ac.tmps.getD 33 undef, ac.tmps.getD 34 undef, ac.tmps.getD 35 undef, ac.tmps.getD 36 undef, ac.tmps.getD 37 undef, ac.tmps.getD 38 undef, ac.tmps.getD 39 undef, ac.tmps.getD 40 undef, ac.tmps.getD 41 undef, ac.tmps.getD 42 undef, ac.tmps.getD 43 undef, ac.tmps.getD 44 undef, ac.tmps.getD 45 undef, ac.tmps.getD 46 undef], []⟩ : Act) by rw [hd]; rfl)
  rw [k1, k2, k3] at hE;clear hold hf hs hd hdone hap k1 k2 k3 hG hb hcv G0;generalize ac.tmps.getD 0 undef = u0 at hE;generalize ac.tmps.getD 4 undef = u4 at hE;generalize ac.tmps.getD 5 undef = u5 at hE;generalize ac.tmps.getD 6 undef = u6 at hE;generalize ac.tmps.getD 7 undef = u7 at hE;generalize ac.tmps.getD 8 undef = u8 at hE;generalize ac.tmps.getD 9 undef = u9 at hE;generalize ac.tmps.getD 10 undef = u10 at hE;generalize ac.tmps.getD 11 undef = u11 at hE;generalize ac.tmps.getD 12 undef = u12 at hE;generalize ac.tmps.getD 13 undef = u13 at hE;generalize ac.tmps.getD 14 undef = u14 at hE;generalize ac.tmps.getD 15 undef = u15 at hE;generalize ac.tmps.getD 16 undef = u16 at hE;generalize ac.tmps.getD 17 undef = u17 at hE;generalize ac.tmps.getD 18 undef = u18 at hE;generalize ac.tmps.getD 19 undef = u19 at hE;generalize ac.tmps.getD 20 undef = u20 at hE;generalize ac.tmps.getD 21 undef = u21 at hE;generalize ac.tmps.getD 22 undef = u22 at hE;generalize ac.tmps.getD 23 undef = u23 at hE;generalize ac.tmps.getD 24 undef = u24 at hE;generalize ac.tmps.getD 25 undef = u25 at hE;generalize ac.tmps.getD 26 undef = u26 at hE;generalize ac.tmps.getD 27 undef = u27 at hE;generalize ac.tmps.getD 28 undef = u28 at hE;generalize ac.tmps.getD 29 undef = u29 at hE;generalize ac.tmps.getD 30 undef = u30 at hE;generalize ac.tmps.getD 31 undef = u31 at hE;generalize ac.tmps.getD 32 undef = u32 at hE;generalize ac.tmps.getD 33 undef = u33 at hE;generalize ac.tmps.getD 34 undef = u34 at hE;generalize ac.tmps.getD 35 undef = u35 at hE;generalize ac.tmps.getD 36 undef = u36 at hE;generalize ac.tmps.getD 37 undef = u37 at hE;generalize ac.tmps.getD 38 undef = u38 at hE;generalize ac.tmps.getD 39 undef = u39 at hE;generalize ac.tmps.getD 40 undef = u40 at hE;generalize ac.tmps.getD 41 undef = u41 at hE;generalize ac.tmps.getD 42 undef = u42 at hE;generalize ac.tmps.getD 43 undef = u43 at hE;generalize ac.tmps.getD 44 undef = u44 at hE;generalize ac.tmps.getD 45 undef = u45 at hE;generalize ac.tmps.getD 46 undef = u46 at hE;subst hE;go_wp2_with fail;go_loopw [4] (fun s wr => ∃ k : Nat, k ≤ V.r.length ∧ s = .int .i64 k ∧ Hid (RcG w w6 w6.heap.size X s0 s1 s3 s4 V k wr)) (fun s _ => V.r.length - (intOf s).toNat)
  case atStart => exact ⟨0, by omega, rfl, H0⟩
  case round =>
   obtain ⟨k, hkl, rfl, HR⟩ := hrel;have i3 : (0 : Int) ≤ (k : Int) := by omega
   have KP := hd_ (HR.out.kp rfl HX.out);have VB : Hid (VBox wr w.heap.size a b (cA, V.r.length, cc) d e) := hd_ ((HR.out.old w.heap.size (by have := LX.out; have := LB.out; omega) (by have := LB.out; omega)).trans HG.out.x)
   have VZ : Hid (VBox wr (w.heap.size + 1) (none, 0, 0) (none, 0, 0) (none, 0, 0) (none, 0, 0) (none, 0, 0)) := hd_ ((HR.out.old (w.heap.size + 1) (by have := LX.out; have := LB.out; omega) (by have := LB.out; omega)).trans HG.out.z)
   obtain ⟨p0, p1, p2, p3, p4⟩ := aa_ VB.out;dsimp only at p2;obtain ⟨A, n, c, qs, h1, h3, h2, h4, h6⟩ := HR.out.rows;by_cases hlt : k < V.r.length
   ·have hdk : decide ((k : Int) < (V.r.length : Int)) = true := decide_eq_true (by omega)
    have i4 : (k : Int) < (V.r.length : Int) := by omega
    have HRR := hd_ (RowsAt.kp HG.out.r.r KP.out);obtain ⟨ad, sv, rfl, r1, r2, r3, r4, hI⟩ := RowsAt.at_ HRR.out (Below.refl _ _) hlt;obtain ⟨⟨t1, t2, t3⟩, rfl⟩ := sl_ids hI;have HI := hd_ hI;dsimp only at r4 HI;have LN := hd_ (show V.r[k].2.2.length ≤ 40000 from Nat.le_trans (LV.out.n _ (List.getElem_mem hlt)) (by decide))
    have H1 := hd_ h1;have H2 := hd_ h2;have H3 := hd_ h3;have H4 := hd_ h4;have H6 := hd_ h6;have LQ : qs.length ≤ 1000 := by have := h4.len; rw [List.length_take] at this; omega
    clear hI h1 h2 h3 h4 h6;have q1 := ad_ wr (.cells #[.int .i64 V.r[k].1.1, .int .i64 V.r[k].1.2, .int .i64 V.r[k].2.1, .slice t1 t2 t3] 68);have BX := hd_ (av_ wr V.r[k].1.1 V.r[k].1.2 V.r[k].2.1 (.slice t1 t2 t3));have q2 := ad_ (wr.alloc (.cells #[.int .i64 V.r[k].1.1, .int .i64 V.r[k].1.2, .int .i64 V.r[k].2.1, .slice t1 t2 t3] 68)) (.cells #[] 29)
    have HO : Hid (OwnsI ((wr.alloc (.cells #[.int .i64 V.r[k].1.1, .int .i64 V.r[k].1.2, .int .i64 V.r[k].2.1, .slice t1 t2 t3] 68)).alloc (.cells #[] 29)) (wr.heap.size + 1) (.slice (some ⟨wr.heap.size + 1, 0, none⟩) 0 0) []) := hd_ (by
     have h : OwnsI ((wr.alloc (.cells #[.int .i64 V.r[k].1.1, .int .i64 V.r[k].1.2, .int .i64 V.r[k].2.1, .slice t1 t2 t3] 68)).alloc (.cells #[] 29)) (wr.alloc (.cells #[.int .i64 V.r[k].1.1, .int .i64 V.r[k].1.2, .int .i64 V.r[k].2.1, .slice t1 t2 t3] 68)).heap.size (.slice (some ⟨(wr.alloc (.cells #[.int .i64 V.r[k].1.1, .int .i64 V.r[k].1.2, .int .i64 V.r[k].2.1, .slice t1 t2 t3] 68)).heap.size, 0, none⟩) 0 0) [] := World.ownsRow_made _ (base := (wr.alloc (.cells #[.int .i64 V.r[k].1.1, .int .i64 V.r[k].1.2, .int .i64 V.r[k].2.1, .slice t1 t2 t3] 68)).heap.size) (e := 29) (size := 2) #[] 0 (Nat.le_refl _) (by decide) (by simp)
     simp only [World.size_alloc] at h;exact h)
    have HI2 := hd_ ((HI.out.below q1).below q2);have BX2 := hd_ (ay_ BX.out q2);have QQ := hd_ (ba_ q1 q2);have LXW := hd_ (show X < wr.heap.size from vbox_lt H1.out)
    have LSW := hd_ (HR.out.size);obtain ⟨x1, x2, x3, x4⟩ := ai_ BX2.out;clear q1 q2
    go_wp2_with first
     | (at_builtin; refine wpList_append_recs (enc := encI) (sz := 2) 23 29 Tryz.underlying23 info23 rfl encI_len (by omega) encI_one (by omega) rfl (.tmp 35) (.tmp 37) rfl _ (wr.heap.size + 1) _ _ [] V.r[k].2.2 rfl rfl HO.out (rcs_ids HI2.out) (by have := LN.out; simp; omega) (by simp) ?_; intro v3 w3 h1 h2; obtain ⟨⟨m1, m2, m3⟩, hm⟩ := sl_ids (ids_rcs (rcs_owns encI_len h1)); dsimp only at hm; subst hm; have WB3 := hd_ (show WBox w3 wr.heap.size V.r[k].1.1 V.r[k].1.2 V.r[k].2.1 (.slice t1 t2 t3) from (h2.block wr.heap.size (by omega)).trans BX2.out); have Q3 := hd_ (QQ.out.trans (h2.mono (show wr.heap.size ≤ wr.heap.size + 1 by omega))); have WB4 := hd_ (wbox_lst WB3.out (.slice m1 m2 m3)); have Q4 := hd_ (Q3.out.setCell (p := ⟨wr.heap.size, 3, none⟩) (Nat.le_refl _) (.slice m1 m2 m3)); have X4 := hd_ (ab_ H1.out Q4.out); have O4 := hd_ (OwnsR.grown h1 (grown_setCells (World.grownBy.refl w3 (some wr.heap.size)) 3 [.slice m1 m2 m3]) (ownsR_ne h1 (Nat.lt_succ_self _))); have q5 := ad_ (w3.setCell ⟨wr.heap.size, 3, none⟩ (.slice m1 m2 m3)) (.cells #[.int .i64 V.r[k].1.1, .int .i64 V.r[k].1.2, .int .i64 V.r[k].2.1, .slice m1 m2 m3] 68); have Q5 := hd_ (ba_ Q4.out q5); have O5 := hd_ (OwnsR.mono (OwnsR.below O4.out q5) (show wr.heap.size ≤ wr.heap.size + 1 by omega)); have X5 := hd_ (ab_ X4.out q5); have R5 := hd_ (OwnsR.below H3.out Q5.out); have WB5 : Hid (WBox ((w3.setCell ⟨wr.heap.size, 3, none⟩ (.slice m1 m2 m3)).alloc (.cells #[.int .i64 V.r[k].1.1, .int .i64 V.r[k].1.2, .int .i64 V.r[k].2.1, .slice m1 m2 m3] 68)) w3.heap.size V.r[k].1.1 V.r[k].1.2 V.r[k].2.1 (.slice m1 m2 m3)) := hd_ (by have h := av_ (w3.setCell ⟨wr.heap.size, 3, none⟩ (.slice m1 m2 m3)) V.r[k].1.1 V.r[k].1.2 V.r[k].2.1 (.slice m1 m2 m3); simp only [World.size_setCell] at h; exact h); clear h1 h2 q5 x1 x2 x3 x4; obtain ⟨x1, x2, x3, x4⟩ := ai_ WB3.out; obtain ⟨y1, y2, y3, y4⟩ := wbox_free WB3.out; obtain ⟨w1, w2, w4, w5⟩ := ai_ WB4.out; obtain ⟨o0, o1, o2, o3, o4⟩ := aa_ X4.out; dsimp only at o2)
     | (at_builtin; refine wpList_pushW rfl (.tmp 41) (.tmp 43) rfl _ w6.heap.size A n c w3.heap.size qs V.r[k].1.1 V.r[k].1.2 V.r[k].2.1 m1 m2 m3 H2.out rfl rfl R5.out WB5.out (by omega) (Nat.le_trans LSW.out Q5.out.size) ?_; intro g cap' w7 h1 h2 h3 h4; have RE := hd_ (rc_end HR.out H1.out H2.out H3.out H4.out H6.out LX.out (by have := LB.out; omega) hlt Q5.out O5.out h1 h2 h3); have X7 := hd_ (show VBox w7 X s0 s1 (A, n, c) s3 s4 from (h2.block X (vbox_lt X5.out) (fun e => by have := (World.ownsRow.lt R5.out X e.symm).1; have := LX.out; omega)).trans X5.out); obtain ⟨a0, a1, a2, a3, a4⟩ := aa_ X7.out; obtain ⟨b0_, b1, b2, b3, b4⟩ := al_ X7.out; clear h1 h2 h3 h4)
    go_roundw
    case rel => exact ⟨k + 1, by omega, by go_num, RE⟩
    case measure => simp [intOf]; omega
   ·have hdk : decide ((k : Int) < (V.r.length : Int)) = false := decide_eq_false (by omega)
    have hkk : k = V.r.length := by omega
    rw [hkk, List.take_length] at h4;have h5 := h4.reads;obtain ⟨x0, x1, x2, x3, x4⟩ := aa_ h1;dsimp only at x2;obtain ⟨z0, z1, z2, z3, z4⟩ := aa_ VZ.out;obtain ⟨f0, f1, f2, f3, f4⟩ := al_ VZ.out;dsimp only at z0 z1 z2 z3 z4;have RW := hd_ (show RowsAt wr (.slice A n c) V.r from ⟨qs, rcs_owns encW_len h3, h5⟩)
    have DD := hd_ (HD_.out.kp KP.out);clear h1 h2 h3 h4 h5 h6;go_wp2_with fail;have hk := kp_set VZ.out [.slice s0.1 s0.2.1 s0.2.2, .slice s1.1 s1.2.1 s1.2.2, .slice A n c, .slice s3.1 s3.2.1 s3.2.2, .slice s4.1 s4.2.1 s4.2.2];have HB := hd_ (below_setCells HR.out.below (show w.heap.size ≤ w.heap.size + 1 by omega) 0 [.slice s0.1 s0.2.1 s0.2.2, .slice s1.1 s1.2.1 s1.2.2, .slice A n c, .slice s3.1 s3.2.1 s3.2.2, .slice s4.1 s4.2.1 s4.2.2])
    have HV := hd_ (show RV _ s0 s1 (A, n, c) s3 s4 V from ⟨Ms.kp DD.out.m hk, Ids.kp DD.out.f hk, RW.out.kp hk, ticks_kp DD.out.c hk, Ids.kp DD.out.s hk⟩)
    obtain ⟨c0, c1, c2, c3, c4⟩ := aa_ (a2_ VZ.out s0 s1 (A, n, c) s3 s4);dsimp only at c2;refine bodyPost_ret (v := .agg #[.slice s0.1 s0.2.1 s0.2.2, .slice s1.1 s1.2.1 s1.2.2, .slice A n c, .slice s3.1 s3.2.1 s3.2.2, .slice s4.1 s4.2.1 s4.2.2]) (by simp [results, Tryz.results12, go_sem, c0, c1, c2, c3, c4]) rfl ?_
    exact ⟨_, rfl, ⟨s0, s1, (A, n, c), s3, s4, rfl, HV.out⟩, HB.out⟩
end
end Go.Proofs.YthkkipbmlafdiaaGreat
