/-
  Carried over and put together: contracts of this program's functions, and plain facts. No statement is proved in this text.
-/
import Derived.Deep.AppendLies
import Derived.Deep.DeepCutAuto
import Derived.Laws.EntriesVeiled
import Derived.Test.YthkkipbmlafdiaaGreatN16
import Derived.Test.YthkkipbmlafdiaaGreatN20
import Derived.Test.YthkkipbmlafdiaaGreatN21
set_option maxRecDepth 20000
namespace Go.Proofs.YthkkipbmlafdiaaGreat
open Go Go.RowKit Sets RowSets
attribute [local go_sem] Oper.semAt_some
theorem pairs_any (A B : Option Addr) (n m c d : Nat) (w : World) :
  Calls Tryz.prog 125 #[.slice A n c, .slice B m d] w fun e w' => e = .returned (.func (.func 162) #[] #[.pointer (some ⟨w.heap.size, 0, none⟩), .pointer (some ⟨w.heap.size + 1, 0, none⟩)]) ∧ One w' w.heap.size 24 (.slice A n c) ∧ One w' (w.heap.size + 1) 24 (.slice B m d) ∧ Below w.heap.size w w' := by
 have h1 := Lib.hid (show One ((w.alloc (.cells #[.slice A n c] 24)).alloc (.cells #[.slice B m d] 24)) w.heap.size 24 (.slice A n c) from (Below.heap_alloc _ _ _ (by simp)).trans (one_new w 24 _))
 have h2 := Lib.hid (show One ((w.alloc (.cells #[.slice A n c] 24)).alloc (.cells #[.slice B m d] 24)) (w.heap.size + 1) 24 (.slice B m d) from by have := one_new (w.alloc (.cells #[.slice A n c] 24)) 24 (.slice B m d); simpa using this)
 have h3 := Lib.hid (below_two w (.cells #[.slice A n c] 24) (.cells #[.slice B m d] 24))
 go_enter Tryz.func125, Tryz.ntmps125
 go_wp2_with fail
 go_ret
 exact ⟨rfl, h1.out, h2.out, h3.out⟩
theorem wpListIn_make_spelled {P : Program} {F : Fence} {k : Nat} {α : Type} {enc : α → List Value} {sz : Nat} {ops : Array Oper} {rest : List Oper} {o : Oper} {a : Act} {Q : Exit → Act → World → Prop} (t e : TypeId) {z : Value} {bytes : Nat} (ht : P.underlying t = some (.slice e))
  (hinfo : (P.info? e).map (fun i => (i.zero, i.size, i.bytes)) = some (some z, sz, bytes)) (hby : bytes ≤ 1000)
  (w : World) (hgd : o.guard = none) (x : Operand) (hop : o.op = .makeSlice t (.const (.int .i64 0)) x) (C : Int) (hx : a.eval x = .int .i64 C) (h0 : 0 ≤ C) (hn : C ≤ 100000)
  (h : ∀ cap w', OwnsR enc sz e w' w.heap.size (.slice (some ⟨w.heap.size, 0, none⟩) 0 cap) [] → Below w.heap.size w w' → wpListIn F k P ops Q rest (a.put o.dst (.slice (some ⟨w.heap.size, 0, none⟩) 0 cap)) w') : wpListIn F k P ops Q (o :: rest) a w := by
 obtain ⟨i0, hi, hz0, hz1, hz2⟩ := info_parts hinfo
 obtain ⟨n, rfl⟩ := Int.eq_ofNat_of_zero_le h0
 have hnb : n * bytes ≤ 100000 * 1000 := Nat.mul_le_mul (by omega) hby
 exact wpListIn_make_own w hgd _ x t hop w.heap.size e i0 z sz ht hi hz0 hz1 .i64 .i64 n n rfl hx rfl (by rw [hz2]; have := Nat.mul_comm n bytes; omega) (by unfold maxLen; omega) (Nat.le_refl _)
  fun w' h1 h2 => h _ w' h1 ((Below.refl w.heap.size w).grown h2 (Nat.le_refl _) (fun k hk => by cases hk))
def Cells (w w' : World) : Prop := w.heap.size ≤ w'.heap.size ∧ ∀ a v, w.cell? a = some v → w'.cell? a = some v
theorem cells_loop {w w' : World} {l : Nat} {r : Loop} (hl : w.heap[l]? = some (.loop r)) (h : w.grownBy w' (some l)) : Cells w w' := by
 refine ⟨h.size, fun a v hc => ?_⟩
 have hlt := World.block_lt_of_cell? w _ hc
 by_cases e : a.block = l
 ·exfalso
  rw [← e] at hl
  unfold World.cell? at hc
  rw [hl] at hc
  simp at hc
 ·rw [World.cell?_of_block (h.block a.block hlt (fun e2 => e (by injection e2)))]
  exact hc
theorem Ids.cells {w w' : World} {v : Value} {l : List Id2} (h : Ids w v l) (hc : Cells w w') : Ids w' v l := by
 obtain ⟨A, c, hv, h0, hn, hk⟩ := h
 refine ⟨A, c, hv, h0, hn, fun k h => ?_⟩
 obtain ⟨ad, h1, h2, h3, h4⟩ := hk k h
 exact ⟨ad, h1, Nat.lt_of_lt_of_le h2 hc.1, hc.2 _ _ h3, hc.2 _ _ h4⟩
theorem PRow.cells {w w' : World} {p : Option Addr} {o : Option Row} (h : PRow w p o) (hc : Cells w w') : PRow w' p o := by
 cases o with
 | none => exact h
 | some r =>
  obtain ⟨q, ⟨ad, h1, h2, c1, c2, c3, c4⟩, e1, e2, h3⟩ := h
  exact ⟨q, ⟨ad, h1, Nat.lt_of_lt_of_le h2 hc.1, hc.2 _ _ c1, hc.2 _ _ c2, hc.2 _ _ c3, hc.2 _ _ c4⟩, e1, e2, h3.cells hc⟩
theorem step_pushW {ops : Array Oper} {o : Oper} {a : Act} {K : Act → World → Prop} {Q : Exit → Act → World → Prop} {E : Prop} (hgd : o.guard = none) (s x : Operand)
  (ho : o.op = .call { callee := .builtin .append, args := #[s, x], argTypes := #[24, 24] })
  (w : World) (base : Nat) (A : Option Addr) (n c gx : Nat) (qs : List Raw) (p i v : Int) (B : Option Addr) (m k : Nat) (hn : qs.length = n) (hs : a.eval s = .slice A n c) (hx : a.eval x = .slice (some ⟨gx, 0, none⟩) 1 1)
  (hown : OwnsW w base (.slice A n c) qs) (hbox : WBox w gx p i v (.slice B m k)) (hl : qs.length ≤ 50000) (hb : base ≤ w.heap.size)
  (h : ∀ g cap w', OwnsW w' base (.slice (some ⟨g, 0, none⟩) (n + 1) cap) (qs ++ [((p, i), v, B, m, k)]) → w.grownBy w' (Value.slice A n c).ownBlock → ((Value.slice A n c).ownBlock = some g ∨ g = w.heap.size) → g < w'.heap.size → K (a.put o.dst (.slice (some ⟨g, 0, none⟩) (n + 1) cap)) w') :
  if Region.wanted o (yielded ops a.tmps) = true then Oper.wp Tryz.prog o a w K Q else E := by
 subst hn
 obtain ⟨i0, hi, hz0, hz1, hz2⟩ := info_parts infoW
 refine step_append_lies w hgd s x 24 ho base 68 i0 (.agg #[.int .i64 0, .int .i64 0, .int .i64 0, .slice none 0 0]) 4 48 Tryz.underlying24 hi hz0 hz1 hz2 rfl (by decide) (.slice A qs.length c) qs.length (flatR encW qs) hs hown ⟨gx, 0, none⟩ 1 1 (encW ((p, i), v, B, m, k)) hx rfl (World.news_of_block (cs := #[.int .i64 p, .int .i64 i, .int .i64 v, .slice B m k]) hbox) (encW_one _) (by omega) (by unfold maxLen; omega) (by omega) hb w.heap.size rfl fun g cap w' h1 h2 h3 h4 => h g cap w' ?_ h2 h3 h4
 unfold OwnsW OwnsR
 rw [flatR_append, List.length_append]
 have e : flatR encW [((p, i), v, B, m, k)] = encW ((p, i), v, B, m, k) := by simp [flatR]
 rw [e]
 exact h1
def joinedRows (xs : List PairX) : List Row := xs.map fun x => joinedO x.1.2 x.2.2
def JoinI (X n0 b hi : Nat) (pre : List PairX) (W : World) : Prop :=
 ∃ A n c qs, One W X 24 (.slice A n c) ∧ qs.length = n ∧ OwnsW W b (.slice A n c) qs ∧ EachOwn W (n0 + 2) qs (joinedRows pre) ∧ (∀ g, (Value.slice A n c).ownBlock = some g → g < n0 ∨ hi ≤ g) ∧ (∀ q ∈ qs, ∀ g, (slc q).ownBlock = some g → (Value.slice A n c).ownBlock ≠ some g) ∧ (Value.slice A n c).ownBlock ≠ some X ∧ n0 + 2 ≤ hi
theorem JoinI.loop {X n0 b hi : Nat} {pre : List PairX} {A B : World} (hX : X < n0) (h : JoinI X n0 b hi pre A) (hg : A.grownBy B (some (n0 + 1))) : JoinI X n0 b hi pre B := by
 obtain ⟨ad, n, c, qs, h1, h2, h3, h4, h5, h6, h7, h8⟩ := h
 refine ⟨ad, n, c, qs, (hg.block X (one_lt h1) (fun e => by injection e with e; omega)).trans h1, h2, h3.grown hg (fun e => by have := h5 _ e; omega), h4.grown hg (by omega), h5, h6, h7, h8⟩
theorem EachOwn.apart {w w' : World} {lo : Nat} {row : Option Nat} (hg : w.grownBy w' row) : ∀ {qs : List Raw} {l : List Row}, EachOwn w lo qs l → (∀ q ∈ qs, ∀ g, (slc q).ownBlock = some g → row ≠ some g) → EachOwn w' lo qs l
 | [], [], _, _ => trivial
 | q :: qs, _ :: _, h, hn => by
  refine ⟨⟨h.1.1, h.1.2.1, World.ownsRow.kept h.1.2.2 hg ?_⟩, EachOwn.apart hg h.2 fun q' hq => hn q' (List.mem_cons_of_mem _ hq)⟩
  rcases ho : (slc q).ownBlock with _ | g
  ·exact .inl rfl
  ·exact .inr fun e => hn q (List.mem_cons_self ..) g ho e.symm
 | [], _ :: _, h, _ => h.elim
 | _ :: _, [], h, _ => h.elim
theorem one_set {w : World} {g t : Nat} {v : Value} (h : One w g t v) (u : Value) : One (w.setCell ⟨g, 0, none⟩ u) g t u := by
 unfold One at *
 simp [World.setCell, Array.getElem?_modify, h]
theorem join_end {X n0 b hi n c g cap' : Nat} {Av : Option Addr} {qs : List Raw} {pre : List PairX} {x : PairX} {C w6 w7 : World} {p i v : Int} {B : Option Addr} {m k : Nat}
  (hbX : b ≤ X) (hX : X < n0) (hhi : n0 + 2 ≤ hi) (hC : hi ≤ C.heap.size)
  (h1 : One C X 24 (.slice Av n c)) (h2 : qs.length = n) (h3 : OwnsW C b (.slice Av n c) qs) (h4 : EachOwn C (n0 + 2) qs (joinedRows pre)) (h5 : ∀ g, (Value.slice Av n c).ownBlock = some g → g < n0 ∨ hi ≤ g)
  (h6 : ∀ q ∈ qs, ∀ g, (slc q).ownBlock = some g → (Value.slice Av n c).ownBlock ≠ some g) (h7 : (Value.slice Av n c).ownBlock ≠ some X)
  (hb : Below C.heap.size C w6) (hr : joinedO x.1.2 x.2.2 = ((p, i), v, (joinedO x.1.2 x.2.2).2.2)) (hq : OwnsI w6 C.heap.size (.slice B m k) (joinedO x.1.2 x.2.2).2.2)
  (p1 : OwnsW w7 b (.slice (some ⟨g, 0, none⟩) (n + 1) cap') (qs ++ [((p, i), v, B, m, k)])) (p2 : w6.grownBy w7 (Value.slice Av n c).ownBlock) (p3 : (Value.slice Av n c).ownBlock = some g ∨ g = w6.heap.size) :
  KeepsE b (n0 + 2) hi n0 C (w7.setCell ⟨X, 0, none⟩ (.slice (some ⟨g, 0, none⟩) (n + 1) cap')) ∧ (w7.setCell ⟨X, 0, none⟩ (.slice (some ⟨g, 0, none⟩) (n + 1) cap')).heap[n0 + 1]? = C.heap[n0 + 1]? ∧ JoinI X n0 b hi (pre ++ [x]) (w7.setCell ⟨X, 0, none⟩ (.slice (some ⟨g, 0, none⟩) (n + 1) cap')) := by
 have hXC : X < C.heap.size := one_lt h1
 have hown := World.ownsRow.lt h3
 have hs6 := hb.size
 have hs7 := p2.size
 have same : ∀ j, j < C.heap.size → j ≠ X → (Value.slice Av n c).ownBlock ≠ some j → (w7.setCell ⟨X, 0, none⟩ (.slice (some ⟨g, 0, none⟩) (n + 1) cap')).heap[j]? = C.heap[j]? := fun j hj hjX hne => by
  rw [Below.heap_setCell _ _ _ _ hjX, p2.block j (by omega) (fun e => hne e.symm), hb.block j hj]
 have hgX : g ≠ X := by
  rcases p3 with e | e
  ·intro h
   rw [h] at e
   exact h7 e
  ·omega
 have X7 : One w7 X 24 (.slice Av n c) := (p2.block X (by omega) (fun e => h7 e.symm)).trans ((hb.block X hXC).trans h1)
 have gE : w7.grownBy (w7.setCell ⟨X, 0, none⟩ (.slice (some ⟨g, 0, none⟩) (n + 1) cap')) (some X) := grown_set1 (World.grownBy.refl _ _) 0 _
 refine ⟨⟨?_, ⟨?_, ?_⟩, ?_⟩, ?_, ?_⟩
 ·exact ((hb.mono (by omega)).grown p2 (by omega) (fun j hj => (hown j hj).1)).setCell (p := ⟨X, 0, none⟩) hbX _
 ·simp only [World.size_setCell]
  omega
 ·intro j hj1 hj2
  exact same j (by omega) (by omega) (fun e => by have := h5 j e; omega)
 ·exact same n0 (by omega) (by omega) (fun e => by have := h5 n0 e; omega)
 ·exact same (n0 + 1) (by omega) (by omega) (fun e => by have := h5 _ e; omega)
 ·have hj : joinedRows (pre ++ [x]) = joinedRows pre ++ [joinedO x.1.2 x.2.2] := by unfold joinedRows; rw [List.map_append]; rfl
  have O7 : OwnsI w7 (n0 + 2) (.slice B m k) (joinedO x.1.2 x.2.2).2.2 := by
   refine World.ownsRow.kept (OwnsR.mono hq (show n0 + 2 ≤ C.heap.size by omega)) p2 ?_
   rcases ho : (Value.slice B m k).ownBlock with _ | g'
   ·exact .inl rfl
   ·refine .inr fun e => ?_
    have a1 := World.ownsRow.lt hq g' ho
    have a2 := hown g' e.symm
    omega
  refine ⟨_, _, _, _, one_set X7 _, by simp [h2], OwnsR.grown p1 gE (fun e => hgX (by injection e)), ?_, ?_, ?_, (fun e => hgX (by injection e)), hhi⟩
  ·rw [hj]
   refine (EachOwn.append (EachOwn.apart p2 (h4.below hb) h6) ?_).grown gE (by omega)
   exact ⟨⟨by rw [hr], by rw [hr], O7⟩, trivial⟩
  ·intro g' e
   injection e with e
   have e' : g = g' := e
   subst e'
   rcases p3 with e3 | e3
   ·exact h5 g e3
   ·right; omega
  ·intro q hqm g' ho e
   injection e with e
   have e' : g = g' := e
   subst e'
   rcases List.mem_append.1 hqm with hqm | hqm
   ·rcases p3 with e3 | e3
    ·exact h6 q hqm g ho e3
    ·have := (h4.lt q hqm g ho).2
     omega
   ·rw [List.mem_singleton.1 hqm] at ho
    have a1 := World.ownsRow.lt hq g ho
    rcases p3 with e3 | e3
    ·have a2 := hown g e3
     omega
    ·omega
theorem cells_deferred {w w' : World} {l : Nat} {d : Option (List Deferred)} (hl : w.heap[l]? = some (.deferred d)) (h : w.grownBy w' (some l)) : Cells w w' := by
 refine ⟨h.size, fun a v hc => ?_⟩
 have hlt := World.block_lt_of_cell? w _ hc
 by_cases e : a.block = l
 ·exfalso
  rw [← e] at hl
  unfold World.cell? at hc
  rw [hl] at hc
  simp at hc
 ·rw [World.cell?_of_block (h.block a.block hlt (fun e2 => e (by injection e2)))]
  exact hc
theorem RowsAt.cells {w w' : World} {v : Value} {l : List Row} (h : RowsAt w v l) (hc : Cells w w') : RowsAt w' v l := by
 obtain ⟨qs, ⟨A, c, hv, h0, hn, hk⟩, h2⟩ := h
 refine ⟨qs, ⟨A, c, hv, h0, hn, fun k h => ?_⟩, ?_⟩
 ·obtain ⟨ad, h1, h2, h3⟩ := hk k h
  exact ⟨ad, h1, Nat.lt_of_lt_of_le h2 hc.1, fun j u hu => hc.2 _ _ (h3 j u hu)⟩
 ·clear hk hn h0 hv
  induction qs generalizing l with
  | nil =>
   cases l with
   | nil => trivial
   | cons r l => exact h2.elim
  | cons q qs ih =>
   cases l with
   | nil => exact h2.elim
   | cons r l => exact ⟨⟨h2.1.1, h2.1.2.1, h2.1.2.2.cells hc⟩, ih h2.2⟩
end Go.Proofs.YthkkipbmlafdiaaGreat
namespace Go.Proofs.YthkkipbmlafdiaaGreat
open Go Go.RowKit Sets RowSets
theorem EachReads.set {w : World} {q : Raw} {r : Row} (hq : Reads w q r) : ∀ {qs : List Raw} {l : List Row} (k : Nat), EachReads w qs l → EachReads w (qs.set k q) (l.set k r)
 | [], [], _, h => h
 | _ :: _, _ :: _, 0, h => ⟨hq, h.2⟩
 | _ :: _, _ :: _, k + 1, h => ⟨h.1, EachReads.set hq k h.2⟩
 | [], _ :: _, _, h => h.elim
 | _ :: _, [], _, h => h.elim
theorem EachOwn.at_ {w : World} {lo : Nat} : ∀ {qs : List Raw} {l : List Row}, EachOwn w lo qs l → ∀ (k : Nat) (h : k < qs.length) (h' : k < l.length), OwnRow w lo qs[k] l[k]
 | _ :: _, _ :: _, h, 0, _, _ => h.1
 | _ :: _, _ :: _, h, k + 1, h1, h2 => EachOwn.at_ h.2 k (by simpa using h1) (by simpa using h2)
structure SetI (w0 : World) (g : Nat) (d : Array Raw) (l : List Row) (x y : Int) (w : World) : Prop where
 row : RowAtR encW 4 w g d
 own : EachOwn w (g + 1) d.toList l
 box : Box w w0.heap.size x y
 below : Below w0.heap.size w0 w
 lt : w0.heap.size < g
 size : d.size = l.length
theorem SetI.step {w0 : World} {g : Nat} {d : Array Raw} {l : List Row} {x y : Int} {w w' : World} (h : SetI w0 g d l x y w) (hb : Below w.heap.size w w') : SetI w0 g d l x y w' :=
 ⟨rowAtR_kept h.row hb, h.own.below hb, box_below h.box hb, below_after h.below hb (Nat.le_refl _), h.lt, h.size⟩
theorem SetI.rows {w0 : World} {g : Nat} {d : Array Raw} {l : List Row} {x y : Int} {w : World} (h : SetI w0 g d l x y w) : RowsAt w (.slice (some ⟨g, 0, none⟩) d.size d.size) l :=
 ⟨d.toList, rowAtR_rcs h.row (Nat.le_refl _), h.own.reads⟩
structure SetX (w0 : World) (g : Nat) (d : Array Raw) (l : List Row) (not : List Id2) (x y : Int) (X : Nat) (v : Int) (B : Option Addr) (m c : Nat) (w : World) : Prop where
 base : SetI w0 g d l x y w
 row : WBox w X x y v (.slice B m c)
 own : OwnsI w (g + 1) (.slice B m c) (del not (x, y))
 ne : (Value.slice B m c).ownBlock ≠ some X
 lt : g < X
 ap : ∀ q ∈ d.toList, (slc q).ownBlock ≠ some X
theorem SetX.step {w0 : World} {g : Nat} {d : Array Raw} {l : List Row} {not : List Id2} {x y : Int} {X : Nat} {v : Int} {B : Option Addr} {m c : Nat} {w w' : World} (h : SetX w0 g d l not x y X v B m c w) (hb : Below w.heap.size w w') : SetX w0 g d l not x y X v B m c w' :=
 ⟨h.base.step hb, wbox_below h.row hb, h.own.below hb, h.ne, h.lt, h.ap⟩
end Go.Proofs.YthkkipbmlafdiaaGreat
namespace Go.Proofs.YthkkipbmlafdiaaGreat
open Go Go.RowKit Sets RowSets
def strike (fl : List Id2) (r : Row) : Row := (r.1, r.2.1, keepN fl r.2.2)
theorem ownBlock_slc {q : Raw} {b : Nat} (h : ∀ ad, q.2.2.1 = some ad → ad.block ≠ b) : (slc q).ownBlock ≠ some b := by
 unfold slc
 rcases hq : q.2.2.1 with _ | ad
 ·exact fun e => by cases e
 ·intro e
  have : ad.block = b := by
   have e2 : some ad.block = some b := e
   exact Option.some.inj e2
  exact h ad hq this
structure GInv (fl : List Id2) (g : Nat) (dF : Array Raw) (lf : List Row) (k : Nat) (dk : Array Raw) (w : World) : Prop where
 size : dk.size = dF.size
 len : dF.size = lf.length
 row : RowAtR encW 4 w g dk
 same : ∀ j, j < dF.size → dk[j]!.2.2.1 = dF[j]!.2.2.1
 done : ∀ j (h : j < lf.length), j < k → LiesB g w dk[j]! (strike fl lf[j])
 left : ∀ j (h : j < lf.length), k ≤ j → dk[j]! = dF[j]! ∧ OwnRow w (g + 1) dF[j]! lf[j]
theorem GInv.below {fl : List Id2} {g : Nat} {dF : Array Raw} {lf : List Row} {k : Nat} {dk : Array Raw} {w w' : World} (h : GInv fl g dF lf k dk w) (hb : Below w.heap.size w w') : GInv fl g dF lf k dk w' :=
 ⟨h.size, h.len, rowAtR_kept h.row hb, h.same, fun j hj hk => (h.done j hj hk).below hb, fun j hj hk => ⟨(h.left j hj hk).1, (h.left j hj hk).2.1, (h.left j hj hk).2.2.1, OwnsR.below (h.left j hj hk).2.2.2 hb⟩⟩
theorem GInv.step {fl : List Id2} {g : Nat} {dF : Array Raw} {lf : List Row} {k : Nat} {dk : Array Raw} {w w5 : World} (h : GInv fl g dF lf k dk w) (hk : k < lf.length) {b : Nat} (hb : w.grownBy w5 (some b))
  (hne : ∀ j, j < dF.size → j ≠ k → ∀ ad, dF[j]!.2.2.1 = some ad → ad.block ≠ b) (hrow : RowAtR encW 4 w5 g dk) {B : Option Addr} {m c : Nat} (hB : B = dF[k]!.2.2.1) (hBg : ∀ ad, B = some ad → g < ad.block) (hN : Ids w5 (.slice B m c) (keepN fl lf[k].2.2)) :
  GInv fl g dF lf (k + 1) (dk.setIfInBounds k (dk[k]!.1, dk[k]!.2.1, B, m, c)) (w5.setCell ⟨g, k * 4 + 3, none⟩ (.slice B m c)) := by
 have hkd : k < dk.size := by rw [h.size, h.len]; exact hk
 have hgr : w5.grownBy (w5.setCell ⟨g, k * 4 + 3, none⟩ (.slice B m c)) (some g) := grown_setCells (World.grownBy.refl _ _) (k * 4 + 3) [.slice B m c]
 have get_k : (dk.setIfInBounds k (dk[k]!.1, dk[k]!.2.1, B, m, c))[k]! = (dk[k]!.1, dk[k]!.2.1, B, m, c) := by
  rw [getElem!_pos _ k (by simpa using hkd), Array.getElem_setIfInBounds_self]
 have get_j : ∀ j, j < dk.size → j ≠ k → (dk.setIfInBounds k (dk[k]!.1, dk[k]!.2.1, B, m, c))[j]! = dk[j]! := fun j hj e => by
  rw [getElem!_pos _ j (by simpa using hj), Array.getElem_setIfInBounds_ne _ (fun h => e h.symm), getElem!_pos dk j hj]
 refine ⟨by simp [h.size], h.len, rowW_not hrow hkd B m c, fun j hj => ?_, fun j hj hjk => ?_, fun j hj hjk => ?_⟩
 ·by_cases e : j = k
  ·subst e
   rw [get_k]
   exact hB
  ·rw [get_j j (by rw [h.size]; exact hj) e]
   exact h.same j hj
 ·by_cases e : j = k
  ·subst e
   rw [get_k]
   have hl := h.left j hj (Nat.le_refl _)
   have hq : dk[j]! = dF[j]! := hl.1
   have hlb : LiesB g w5 (dk[j]!.1, dk[j]!.2.1, B, m, c) (strike fl lf[j]) := ⟨by rw [hq]; exact hl.2.1, by rw [hq]; exact hl.2.2.1, hN, hBg⟩
   exact hlb.grown hgr fun ad ha => by have := hBg ad ha; omega
  ·have hjd : j < dF.size := by rw [h.len]; exact hj
   rw [get_j j (by rw [h.size]; exact hjd) e]
   have hd := h.done j hj (by omega)
   have h1 := hd.grown hb fun ad ha => hne j hjd e ad (by rw [← h.same j hjd]; exact ha)
   exact h1.grown hgr fun ad ha => by have := hd.2.2.2 ad ha; omega
 ·have e : j ≠ k := by omega
  have hjd : j < dF.size := by rw [h.len]; exact hj
  rw [get_j j (by rw [h.size]; exact hjd) e]
  obtain ⟨q1, q2⟩ := h.left j hj (by omega)
  refine ⟨q1, q2.1, q2.2.1, ?_⟩
  have h1 := OwnsR.grown q2.2.2 hb (ownBlock_slc (hne j hjd e))
  exact OwnsR.grown h1 hgr (ownsR_ne h1 (Nat.lt_succ_self g))
theorem GInv.rows {fl : List Id2} {g : Nat} {dF : Array Raw} {lf : List Row} {k c : Nat} {dk : Array Raw} {w : World} (h : GInv fl g dF lf k dk w) (hk : lf.length ≤ k) (hc : dF.size ≤ c) : RowsAt w (.slice (some ⟨g, 0, none⟩) dF.size c) (lf.map (strike fl)) := by
 have hr := rowAtR_rcs (c := c) h.row (by rw [h.size]; exact hc)
 rw [h.size] at hr
 refine ⟨dk.toList, hr, ?_⟩
 have hl : dk.toList.length = (lf.map (strike fl)).length := by simp [h.size, h.len]
 have gen : ∀ (qs : List Raw) (l : List Row), qs.length = l.length → (∀ j (h1 : j < qs.length) (h2 : j < l.length), Reads w qs[j] l[j]) → EachReads w qs l := by
  intro qs
  induction qs with
  | nil => intro l e _; cases l with
   | nil => trivial
   | cons _ _ => simp at e
  | cons q qs ih => intro l e hh; cases l with
   | nil => simp at e
   | cons r l => exact ⟨hh 0 (by simp) (by simp), ih l (by simpa using e) fun j h1 h2 => by have := hh (j + 1) (by simpa using h1) (by simpa using h2); simpa using this⟩
 refine gen _ _ hl fun j h1 h2 => ?_
 have hj : j < lf.length := by simpa using h2
 have hjd : j < dk.size := by simpa using h1
 have hd := h.done j hj (by omega)
 have e1 : dk.toList[j] = dk[j]! := by rw [getElem!_pos dk j hjd]; simp
 rw [e1, List.getElem_map]
 exact ⟨hd.1, hd.2.1, hd.2.2.1⟩
theorem gone_is (fl : List Id2) (l : List Row) : (l.filter fun r => !rem fl r.1).map (strike fl) = gone fl l := rfl
theorem gInv_start {fl : List Id2} {g : Nat} {d' : Array Raw} {lf : List Row} {w : World} (hr : RowAtR encW 4 w g d') (ho : EachOwn w (g + 1) d'.toList lf) : GInv fl g d' lf 0 d' w := by
 have hlen : d'.size = lf.length := by have := ho.len; simpa using this
 refine ⟨rfl, hlen, hr, fun _ _ => rfl, fun j _ h => absurd h (by omega), fun j hj _ => ⟨rfl, ?_⟩⟩
 have hjd : j < d'.toList.length := by simp; omega
 have := ho.at_ j hjd hj
 have e1 : d'.toList[j] = d'[j]! := by rw [getElem!_pos d' j (by omega)]; simp
 rw [e1] at this
 exact this
theorem apart_ne {d : Array Raw} (h : d.toList.Pairwise Apart) {i j : Nat} (hi : i < d.size) (hj : j < d.size) (hne : i ≠ j) {a b : Addr} (ha : d[i]!.2.2.1 = some a) (hb : d[j]!.2.2.1 = some b) : a.block ≠ b.block := by
 have key : ∀ {i j : Nat}, i < j → j < d.size → ∀ {a b : Addr}, d[i]!.2.2.1 = some a → d[j]!.2.2.1 = some b → a.block ≠ b.block := by
  intro i j hij hj a b ha hb e
  have := List.pairwise_iff_getElem.1 h i j (by simp; omega) (by simpa using hj) hij
  have e1 : d.toList[i]'(by simp; omega) = d[i]! := by rw [getElem!_pos d i (by omega)]; simp
  have e2 : d.toList[j]'(by simpa using hj) = d[j]! := by rw [getElem!_pos d j hj]; simp
  rw [e1, e2] at this
  refine this a.block (by unfold slc; rw [ha]; rfl) ?_
  unfold slc
  rw [hb, e]
  rfl
 rcases Nat.lt_or_gt_of_ne hne with h1 | h1
 ·exact key h1 hj ha hb
 ·exact fun e => key h1 hi hb ha e.symm
end Go.Proofs.YthkkipbmlafdiaaGreat
namespace Go.Proofs.YthkkipbmlafdiaaGreat
open Go Go.RowKit Sets RowSets
theorem ids_grownB {w w' : World} {A : Option Addr} {n c b : Nat} {l : List Id2} (h : Ids w (.slice A n c) l) (hb : w.grownBy w' (some b)) (hne : ∀ ad, A = some ad → ad.block ≠ b) : Ids w' (.slice A n c) l := by
 obtain ⟨A', c', hv, h0, hc, hk⟩ := h
 refine ⟨A', c', hv, h0, hc, fun k hlt => ?_⟩
 obtain ⟨ad, rfl, h1, c1, c2⟩ := hk k hlt
 have e : A = some ad := by injection hv
 have hbl := hb.block ad.block h1 (fun h => hne ad e (by first | exact (Option.some.inj h).symm | exact Option.some.inj h))
 refine ⟨ad, rfl, Nat.lt_of_lt_of_le h1 hb.size, ?_, ?_⟩
 ·rw [World.cell?_of_block (w := w) (by rw [block_of_add]; exact hbl)]
  exact c1
 ·rw [World.cell?_of_block (w := w) (by show w'.heap[(ad.add (k * 2)).block]? = _; rw [block_of_add]; exact hbl)]
  exact c2
theorem FloorsAt.grown {X b : Nat} {s : List Id2} {A : Option Addr} {c : Nat} {W W' : World} (h : FloorsAt X s A c W) (hg : W.grownBy W' (some b)) (hX : X < b) (hA : ∀ ad, A = some ad → ad.block < b) : FloorsAt X s A c W' :=
 ⟨(hg.block X (one_lt h.1) (fun e => by have := Option.some.inj e; omega)).trans h.1, ids_grownB h.2 hg fun ad e => by have := hA ad e; omega⟩
theorem FloorsW.grown {X Y b : Nat} {s : List Id2} {A : Option Addr} {c : Nat} {W W' : World} (h : FloorsW X Y s A c W) (hg : W.grownBy W' (some b)) (hX : X < b) (hY : Y < b) (hA : ∀ ad, A = some ad → ad.block < b) : FloorsW X Y s A c W' :=
 ⟨(hg.block Y (one_lt h.1) (fun e => by have := Option.some.inj e; omega)).trans h.1, h.2.grown hg hX hA⟩
theorem FloorsW.at_ {X Y : Nat} {s : List Id2} {A : Option Addr} {c : Nat} {W : World} (h : FloorsW X Y s A c W) : FloorsAt X s A c W := h.2
theorem FloorsW.fn {X Y : Nat} {s : List Id2} {A : Option Addr} {c : Nat} {W : World} (h : FloorsW X Y s A c W) : One W Y 76 (.func (.func 100) #[] #[.pointer (some ⟨X, 0, none⟩)]) := h.1
theorem GInv.gt {fl : List Id2} {g : Nat} {dF : Array Raw} {lf : List Row} {k : Nat} {dk : Array Raw} {w : World} (h : GInv fl g dF lf k dk w) (j : Nat) (hj : j < dF.size) (ad : Addr) (ha : dF[j]!.2.2.1 = some ad) : g < ad.block := by
 have hjl : j < lf.length := by rw [← h.len]; exact hj
 rcases Nat.lt_or_ge j k with h1 | h1
 ·exact (h.done j hjl h1).2.2.2 ad (by rw [h.same j hj]; exact ha)
 ·have := (World.ownsRow.lt (h.left j hjl h1).2.2.2 ad.block (by unfold slc; rw [ha]; rfl)).1
  omega
set_option maxHeartbeats 8000000 in
set_option maxRecDepth 100000 in
theorem gone_any (v vf : Value) (l : List Row) (fl : List Id2) (w : World) (h : RowsAt w v l) (hf : Ids w vf fl) (hl : l.length ≤ 1000) (hn : ∀ r ∈ l, r.2.2.length ≤ 40000) (hfl : fl.length ≤ 40000) :
  Calls Tryz.prog 48 #[v, vf] w fun e w' => ∃ V, e = .returned V ∧ RowsAt w' V (gone fl l) ∧ Below w.heap.size w w' := by
 have HH := Lib.hid h
 have HF := Lib.hid hf
 have HN := Lib.hid hn
 obtain ⟨A0, c0, rfl, _⟩ := id hf
 have BX := Lib.hid (below_one w (.cells #[.slice A0 fl.length c0] 23))
 have O0 := Lib.hid (one_new w 23 (.slice A0 fl.length c0))
 have I0 := Lib.hid (HF.out.below BX.out)
 have f1 := one_cell O0.out
 have f2 := one_free O0.out
 clear h hf hn
 go_enter Tryz.func48, Tryz.ntmps48
 go_wp2_with fail
 (with_reducible refine (set_new _ fl _ I0.out hfl).mono ?_)
 rintro e w1 ⟨vs, rfl, hi, hb⟩
 have O := Lib.hid (ownsI_of hi)
 obtain ⟨A, c, rfl, _⟩ := id (rcs_owns encI_len O.out)
 have O1 := Lib.hid (one_below O0.out hb)
 have B1 := Lib.hid (below_after BX.out hb (Nat.le_refl _))
 clear hi hb f1 f2
 have f1 := one_cell O1.out
 have f2 := one_free O1.out
 have gS : w1.grownBy (w1.setCell ⟨w.heap.size, 0, none⟩ (.slice A (setOf fl).length c)) (some w.heap.size) := grown_setCells (World.grownBy.refl _ _) 0 [.slice A (setOf fl).length c]
 have FS := Lib.hid (show FloorsAt w.heap.size (setOf fl) A c (w1.setCell ⟨w.heap.size, 0, none⟩ (.slice A (setOf fl).length c)) from ⟨one_set O1.out _, ownsI_ids (OwnsR.grown O.out gS (ownsR_ne O.out (by simp)))⟩)
 have BS := Lib.hid (show Below w.heap.size w (w1.setCell ⟨w.heap.size, 0, none⟩ (.slice A (setOf fl).length c)) from below_setCells B1.out (Nat.le_refl _) 0 [.slice A (setOf fl).length c])
 have HA := Lib.hid fun ad (e : A = some ad) => (show ad.block < (w1.setCell ⟨w.heap.size, 0, none⟩ (.slice A (setOf fl).length c)).heap.size by
  rw [World.size_setCell]
  exact (World.ownsRow.lt O.out ad.block (by rw [e]; rfl)).2)
 have HX := Lib.hid (show w.heap.size < (w1.setCell ⟨w.heap.size, 0, none⟩ (.slice A (setOf fl).length c)).heap.size by
  rw [World.size_setCell]
  exact one_lt O1.out)
 clear gS
 go_upto_region 2 with fail
 clear f1 f2
 generalize w1.setCell ⟨w.heap.size, 0, none⟩ (.slice A (setOf fl).length c) = ws at *
 have FW := Lib.hid (show FloorsW w.heap.size ws.heap.size (setOf fl) A c (ws.alloc (.cells #[.func (.func 100) #[] #[.pointer (some ⟨w.heap.size, 0, none⟩)]] 76)) from ⟨one_new ws 76 _, FS.out.below (below_one _ _)⟩)
 have BY := Lib.hid (below_after BS.out (below_one ws (.cells #[.func (.func 100) #[] #[.pointer (some ⟨w.heap.size, 0, none⟩)]] 76)) (Nat.le_refl _))
 have HQ := Lib.hid (goneI_asks w.heap.size fl (setOf fl) A c (rises_setOf fl) (mem_setOf fl) (by have := setOf_len fl; omega))
 have HP := Lib.hid (goneW_asks w.heap.size ws.heap.size fl (setOf fl) A c (rises_setOf fl) (mem_setOf fl) (by have := setOf_len fl; omega))
 clear O I0 O0 O1 B1 BX HF FS
 go_wp2_with fail
 (with_reducible refine (copiedAll_any v l _ (HH.out.below BY.out) hl (fun r hr => by have := HN.out r hr; omega)).mono ?_)
 rintro e w3 ⟨g, d, rfl, hg, hr, ho, ha, hb⟩
 have hg2 : ws.heap.size < g := by simp at hg; omega
 have HG := Lib.hid hg2
 have F3 := Lib.hid (FW.out.below hb)
 have B3 := Lib.hid (below_after BY.out hb (Nat.le_refl _))
 have R3 := Lib.hid hr
 have E3 := Lib.hid ho
 have A3 := Lib.hid ha
 have hds : d.size ≤ 1000 := by have := ho.len; simp at this; omega
 have HS3 := Lib.hid fun W W' (h : FloorsW w.heap.size ws.heap.size (setOf fl) A c W) (hgr : W.grownBy W' (some g)) => h.grown hgr (by have := HX.out; have := HG.out; omega) HG.out (fun ad e => by have := HA.out ad e; have := HG.out; omega)
 clear hg hr ho ha hb hg2
 go_wp2_with fail
 (with_reducible refine (deleteW_any HP.out g d.size HS3.out d _ R3.out F3.out (Nat.le_refl _) (by omega)).mono ?_)
 rintro e w4 ⟨d', rfl, hd, hle, hr, hgr⟩
 have R4 := Lib.hid hr
 have E4 := Lib.hid (show EachOwn w4 (g + 1) d'.toList (l.filter fun r => !rem fl r.1) by rw [hd]; exact eachOwn_filter (p := rem fl) (E3.out.grown hgr (Nat.lt_succ_self g)))
 have A4 := Lib.hid (show d'.toList.Pairwise Apart by rw [hd]; exact List.Pairwise.filter _ A3.out)
 have F4 := Lib.hid (HS3.out _ _ F3.out hgr)
 have B4 := Lib.hid (show Below w.heap.size w w4 from B3.out.trans (below_grown hgr (by have := HX.out; have := HG.out; omega) B3.out.size))
 have HLE := Lib.hid hle
 have HLN : Hid (∀ r ∈ l.filter (fun r => !rem fl r.1), r.2.2.length ≤ 40000) := Lib.hid fun r hr => HN.out r (List.mem_filter.1 hr).1
 have HGI := Lib.hid (gone_is fl l)
 generalize hlf : (l.filter fun r => !rem fl r.1) = lf at *
 have GI := Lib.hid (gInv_start (fl := fl) R4.out E4.out)
 have hds2 : d'.size ≤ 1000 := by have := HLE.out; omega
 have HD := Lib.hid GI.out.len
 clear hd hle hr hgr hlf E3 A3 R3 F3 E4
 go_wp2_with fail
 go_loopw [18] (fun s18 wr => ∃ k : Nat, ∃ dk : Array Raw, k ≤ d'.size ∧ s18 = .int .i64 k ∧ Hid (GInv fl g d' lf k dk wr) ∧ Hid (FloorsW w.heap.size ws.heap.size (setOf fl) A c wr) ∧ Hid (Below w.heap.size w wr)) (fun s18 _ => d'.size - (intOf s18).toNat)
 case atStart => exact ⟨0, d', by omega, rfl, GI, F4, B4⟩
 case round =>
  obtain ⟨k, dk, hkl, rfl, HI, HFW, HW⟩ := hrel
  have i3 : (0 : Int) ≤ (k : Int) := by omega
  by_cases hlt : k < d'.size
  ·have hdk : decide ((k : Int) < (d'.size : Int)) = true := decide_eq_true (by omega)
   have i4 : (k : Int) < (d'.size : Int) := by omega
   have hkl2 : k < lf.length := by have := HD.out; omega
   have hkd : k < dk.size := by rw [HI.out.size]; exact hlt
   obtain ⟨hq, hown⟩ := HI.out.left k hkl2 (Nat.le_refl _)
   obtain ⟨⟨r1, r2, r3, r4⟩, _⟩ := HI.out.row.row hkd
   have OW := Lib.hid (show OwnsI wr (g + 1) (.slice dk[k]!.2.2.1 dk[k]!.2.2.2.1 dk[k]!.2.2.2.2) lf[k].2.2 from by rw [hq]; exact hown.2.2)
   have HB0 := Lib.hid (show dk[k]!.2.2.1 = d'[k]!.2.2.1 by rw [hq])
   have HCL := Lib.hid fun W (h : RowAtR encW 4 W g dk) => (show (∃ z, W.cell? ⟨g, k * 4 + 3, none⟩ = some z) ∧ W.frozen? ⟨g, k * 4 + 3, none⟩ = false from ⟨⟨_, (h.row hkd).1.2.2.2⟩, (h.row hkd).2.2.2.2⟩)
   clear hq hown hkd
   generalize dk[k]!.1.1 = a at *
   generalize dk[k]!.1.2 = i at *
   generalize dk[k]!.2.1 = n at *
   generalize dk[k]!.2.2.1 = Bq at *
   generalize dk[k]!.2.2.2.1 = mq at *
   generalize dk[k]!.2.2.2.2 = cq at *
   rcases ownsR_split OW.out with ⟨e, hn0⟩ | ⟨b, cap, e, hb1, hb2⟩
   ·injection e with e1 e2 e3
    subst e1 e2 e3
    have HN0 := Lib.hid (show keepN fl lf[k].2.2 = [] by rw [List.eq_nil_of_length_eq_zero hn0]; rfl)
    have BXk := Lib.hid (below_one wr (.cells #[.int .i64 a, .int .i64 i, .int .i64 n, .slice none 0 0] 68))
    have FX := Lib.hid (HFW.out.below BXk.out)
    have XX := Lib.hid (wbox_new wr a i n (.slice none 0 0))
    obtain ⟨_, _, _, x4⟩ := wbox_cells XX.out
    have fY := one_cell FX.out.fn
    clear hn0
    go_wp2_with fail
    (with_reducible refine (deleteI_nil HQ.out _ FX.out.at_).mono ?_)
    rintro e w5 ⟨rfl, hb⟩
    have B5 := Lib.hid (below_after BXk.out hb (Nat.le_refl _))
    have I5 := Lib.hid (HI.out.below B5.out)
    have F5 := Lib.hid (HFW.out.below B5.out)
    obtain ⟨⟨z, s4⟩, t4⟩ := HCL.out _ I5.out.row
    have ST := Lib.hid (I5.out.step hkl2 (b := g) (World.grownBy.refl w5 (some g)) (fun j hj _ ad ha => by have := I5.out.gt j hj ad ha; omega) I5.out.row (B := none) (m := 0) (c := 0) HB0.out (fun ad h => by cases h) (by rw [HN0.out]; exact Ids.nil _))
    have F6 := Lib.hid (F5.out.grown (grown_setCells (World.grownBy.refl w5 (some g)) (k * 4 + 3) [.slice none 0 0]) (by have := HX.out; have := HG.out; omega) HG.out (fun ad e => by have := HA.out ad e; have := HG.out; omega))
    have B6 := Lib.hid (below_setCells (below_after HW.out B5.out (Nat.le_refl _)) (show w.heap.size ≤ g by have := HX.out; have := HG.out; omega) (k * 4 + 3) [.slice none 0 0])
    clear hb r1 r2 r3 r4 x4 fY
    go_wp2_with fail
    go_roundw
    case rel => exact ⟨k + 1, _, by omega, by go_num, ST, F6, B6⟩
    case measure => simp [intOf]; omega
   ·injection e with e1 e2 e3
    subst e1 e2 e3
    obtain ⟨dI, hdI⟩ : ∃ dI : Array Id2, dI = lf[k].2.2.toArray := ⟨_, rfl⟩
    have hsz : dI.size = lf[k].2.2.length := by rw [hdI]; simp
    have HTL := Lib.hid (show dI.toList = lf[k].2.2 by rw [hdI])
    have RI := Lib.hid (rowAtR_owns encI_len (w := wr) (base := g + 1) (g := b) (c := cq) (d := dI) (by rw [hsz, HTL.out]; exact OW.out))
    have hgb := (World.ownsRow.lt OW.out b rfl).1
    have hIL : dI.size ≤ 40000 := by rw [hsz]; exact HLN.out _ (List.getElem_mem hkl2)
    rw [← hsz] at r4 hb2
    clear OW hsz hdI
    have BXk := Lib.hid (below_one wr (.cells #[.int .i64 a, .int .i64 i, .int .i64 n, .slice (some ⟨b, 0, none⟩) dI.size cq] 68))
    have FX := Lib.hid (HFW.out.below BXk.out)
    have XX := Lib.hid (wbox_new wr a i n (.slice (some ⟨b, 0, none⟩) dI.size cq))
    have IX := Lib.hid (HI.out.below BXk.out)
    obtain ⟨_, _, _, x4⟩ := wbox_cells XX.out
    have fY := one_cell FX.out.fn
    go_wp2_with fail
    (with_reducible refine (deleteI_any HQ.out b cq (fun W W' h hgr => h.grown hgr (by have := HX.out; have := HG.out; omega) (fun ad e => by have := HA.out ad e; have := HG.out; omega)) dI _ (rowAtR_kept RI.out BXk.out) FX.out.at_ hb2 (by omega)).mono ?_)
    rintro e w5 ⟨d2, rfl, hd2, hle2, hr2, hg2⟩
    have hrow := rowAtR_block IX.out.row hg2.size (hg2.block g IX.out.row.1 (fun e => by have := Option.some.inj e; omega))
    obtain ⟨⟨z, s4⟩, t4⟩ := HCL.out _ hrow
    have HID := Lib.hid (show Ids w5 (.slice (some ⟨b, 0, none⟩) d2.size cq) (keepN fl lf[k].2.2) from by
     have h1 := ids_rcs (rowAtR_rcs (c := cq) hr2 (by omega))
     rw [hd2, HTL.out] at h1
     exact h1)
    have ST := Lib.hid (IX.out.step hkl2 (b := b) hg2 (fun j hj hne ad ha => apart_ne A4.out hj hlt hne ha HB0.out.symm) hrow (B := some ⟨b, 0, none⟩) (m := d2.size) (c := cq) HB0.out (fun ad h => by cases h; exact hgb) HID.out)
    have F5 := Lib.hid (FX.out.grown hg2 (by have := HX.out; have := HG.out; omega) (by have := HG.out; omega) (fun ad e => by have := HA.out ad e; have := HG.out; omega))
    have F6 := Lib.hid (F5.out.grown (grown_setCells (World.grownBy.refl w5 (some g)) (k * 4 + 3) [.slice (some ⟨b, 0, none⟩) d2.size cq]) (by have := HX.out; have := HG.out; omega) HG.out (fun ad e => by have := HA.out ad e; have := HG.out; omega))
    have B5 := Lib.hid (show Below w.heap.size w w5 from (below_after HW.out BXk.out (Nat.le_refl _)).trans (below_grown hg2 (by have := HX.out; have := HG.out; omega) (below_after HW.out BXk.out (Nat.le_refl _)).size))
    have B6 := Lib.hid (below_setCells B5.out (show w.heap.size ≤ g by have := HX.out; have := HG.out; omega) (k * 4 + 3) [.slice (some ⟨b, 0, none⟩) d2.size cq])
    clear hd2 hle2 hr2 hg2 hrow r1 r2 r3 r4 x4 fY
    go_wp2_with fail
    go_roundw
    case rel => exact ⟨k + 1, _, by omega, by go_num, ST, F6, B6⟩
    case measure => simp [intOf]; omega
  ·have hdk : decide ((k : Int) < (d'.size : Int)) = false := decide_eq_false (by omega)
   have HR := Lib.hid (show RowsAt wr (.slice (some ⟨g, 0, none⟩) d'.size d.size) (gone fl l) by rw [← HGI.out]; exact HI.out.rows (by have := HD.out; omega) HLE.out)
   go_wp2_with fail
   go_ret
   exact ⟨_, rfl, HR.out, HW.out⟩
end Go.Proofs.YthkkipbmlafdiaaGreat
