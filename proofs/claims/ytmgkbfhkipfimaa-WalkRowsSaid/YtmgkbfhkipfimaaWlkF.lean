/-
  Up to four things at once, apart from one another; boxes apart from them; the next peer, of any list. No statement is proved in this text; it holds for every input that its premises let by.
-/
import Derived.Test.YtmgkbfhkipfimaaWlkW
set_option maxRecDepth 20000
namespace Go.Proofs.Ytmgkbfhkipfimaa
open Go Go.RowKit Sets
/-- What is told of blocks S, and stands as long as nothing but other blocks is written. -/
structure Fd (P : (Nat → Prop) → World → Prop) : Prop where
  frame : ∀ {S S2 : Nat → Prop} {W W' : World}, P S W → Fr S2 W W' → (∀ k, S k → ¬ S2 k) → P S W'
  lt : ∀ {S : Nat → Prop} {W : World}, P S W → ∀ k, S k → k < W.heap.size
abbrev NoP : (Nat → Prop) → World → Prop := fun S _ => ∀ k, ¬ S k
theorem fdNo : Fd NoP := ⟨fun h _ _ => h, fun h k hk => absurd hk (h k)⟩
variable {P1 P2 P3 P4 P1' : (Nat → Prop) → World → Prop} {S1 S2 S3 S4 S1' T : Nat → Prop} {w W W' : World}
/-- Four of them, apart, all new since w. -/
structure Four (w W : World) (P1 P2 P3 P4 : (Nat → Prop) → World → Prop) (S1 S2 S3 S4 : Nat → Prop) : Prop where
  a : P1 S1 W
  b : P2 S2 W
  c : P3 S3 W
  d : P4 S4 W
  ab : ∀ k, S1 k → ¬ S2 k
  ac : ∀ k, S1 k → ¬ S3 k
  ad : ∀ k, S1 k → ¬ S4 k
  bc : ∀ k, S2 k → ¬ S3 k
  bd : ∀ k, S2 k → ¬ S4 k
  cd : ∀ k, S3 k → ¬ S4 k
  lo1 : ∀ k, S1 k → w.heap.size ≤ k
  lo2 : ∀ k, S2 k → w.heap.size ≤ k
  lo3 : ∀ k, S3 k → w.heap.size ≤ k
  lo4 : ∀ k, S4 k → w.heap.size ≤ k
  below : Below w.heap.size w W
theorem Four.rot (h : Four w W P1 P2 P3 P4 S1 S2 S3 S4) : Four w W P2 P3 P4 P1 S2 S3 S4 S1 :=
  ⟨h.b, h.c, h.d, h.a, h.bc, h.bd, fun k x y => h.ab k y x, h.cd, fun k x y => h.ac k y x, fun k x y => h.ad k y x, h.lo2, h.lo3, h.lo4, h.lo1, h.below⟩
theorem Four.op (h : Four w W P1 P2 P3 P4 S1 S2 S3 S4) (f2 : Fd P2) (f3 : Fd P3) (f4 : Fd P4) (k : P1' S1' W') (u : Upd S1 W W' S1') : Four w W' P1' P2 P3 P4 S1' S2 S3 S4 := by
  have dis : ∀ {P : (Nat → Prop) → World → Prop} {S : Nat → Prop}, Fd P → P S W → (∀ k, S1 k → ¬ S k) → ∀ k, S1' k → ¬ S k := fun f hp hd k hk hs => by
    rcases u.sub k hk with e | e
    · exact hd k e hs
    · have := f.lt hp k hs
      omega
  refine ⟨k, f2.frame h.b u.fr (fun i x y => h.ab i y x), f3.frame h.c u.fr (fun i x y => h.ac i y x), f4.frame h.d u.fr (fun i x y => h.ad i y x), dis f2 h.b h.ab, dis f3 h.c h.ac, dis f4 h.d h.ad, h.bc, h.bd, h.cd, fun i hi => ?_, h.lo2, h.lo3, h.lo4, h.below.trans (u.fr.below h.below.size h.lo1)⟩
  rcases u.sub i hi with e | e
  · exact h.lo1 i e
  · exact Nat.le_trans h.below.size e
theorem Four.opB (h : Four w W P1 P2 P3 P4 S1 S2 S3 S4) (f1 : Fd P1) (f3 : Fd P3) (f4 : Fd P4) {P2' : (Nat → Prop) → World → Prop} {S2' : Nat → Prop} (k : P2' S2' W') (u : Upd S2 W W' S2') : Four w W' P1 P2' P3 P4 S1 S2' S3 S4 :=
  (h.rot.op f3 f4 f1 k u).rot.rot.rot
theorem Four.opC (h : Four w W P1 P2 P3 P4 S1 S2 S3 S4) (f1 : Fd P1) (f2 : Fd P2) (f4 : Fd P4) {P3' : (Nat → Prop) → World → Prop} {S3' : Nat → Prop} (k : P3' S3' W') (u : Upd S3 W W' S3') : Four w W' P1 P2 P3' P4 S1 S2 S3' S4 :=
  (h.rot.rot.op f4 f1 f2 k u).rot.rot
theorem Four.opD (h : Four w W P1 P2 P3 P4 S1 S2 S3 S4) (f1 : Fd P1) (f2 : Fd P2) (f3 : Fd P3) {P4' : (Nat → Prop) → World → Prop} {S4' : Nat → Prop} (k : P4' S4' W') (u : Upd S4 W W' S4') : Four w W' P1 P2 P3 P4' S1 S2 S3 S4' :=
  (h.rot.rot.rot.op f1 f2 f3 k u).rot
/-- Something apart from all is written. -/
theorem Four.spoil (h : Four w W P1 P2 P3 P4 S1 S2 S3 S4) (f1 : Fd P1) (f2 : Fd P2) (f3 : Fd P3) (f4 : Fd P4) (k : Fr T W W') (hT : ∀ i, T i → w.heap.size ≤ i ∧ ¬ S1 i ∧ ¬ S2 i ∧ ¬ S3 i ∧ ¬ S4 i) : Four w W' P1 P2 P3 P4 S1 S2 S3 S4 :=
  ⟨f1.frame h.a k fun i x y => (hT i y).2.1 x, f2.frame h.b k fun i x y => (hT i y).2.2.1 x, f3.frame h.c k fun i x y => (hT i y).2.2.2.1 x, f4.frame h.d k fun i x y => (hT i y).2.2.2.2 x, h.ab, h.ac, h.ad, h.bc, h.bd, h.cd, h.lo1, h.lo2, h.lo3, h.lo4, h.below.trans (k.below h.below.size fun i hi => (hT i hi).1)⟩
theorem Four.keep (h : Four w W P1 P2 P3 P4 S1 S2 S3 S4) (f1 : Fd P1) (f2 : Fd P2) (f3 : Fd P3) (f4 : Fd P4) (hb : Below W.heap.size W W') : Four w W' P1 P2 P3 P4 S1 S2 S3 S4 :=
  h.spoil (T := fun _ => False) f1 f2 f3 f4 (.of_below hb) fun _ e => e.elim
/-- What is new is apart from all. -/
theorem Four.new (h : Four w W P1 P2 P3 P4 S1 S2 S3 S4) (f1 : Fd P1) (f2 : Fd P2) (f3 : Fd P3) (f4 : Fd P4) {i : Nat} (hi : W.heap.size ≤ i) : w.heap.size ≤ i ∧ ¬ S1 i ∧ ¬ S2 i ∧ ¬ S3 i ∧ ¬ S4 i :=
  ⟨Nat.le_trans h.below.size hi, fun e => by have := f1.lt h.a i e; omega, fun e => by have := f2.lt h.b i e; omega, fun e => by have := f3.lt h.c i e; omega, fun e => by have := f4.lt h.d i e; omega⟩
theorem Four.drop (h : Four w W P1 P2 P3 P4 S1 S2 S3 S4) : Four w W P1 P2 NoP NoP S1 S2 (fun _ => False) (fun _ => False) :=
  ⟨h.a, h.b, fun _ e => e, fun _ e => e, h.ab, fun _ _ e => e, fun _ _ e => e, fun _ _ e => e, fun _ _ e => e, fun _ _ e => e, h.lo1, h.lo2, fun _ e => e.elim, fun _ e => e.elim, h.below⟩
theorem upd_new {S' : Nat → Prop} (hb : Below W.heap.size W W') (hl : ∀ k, S' k → W.heap.size ≤ k) : Upd (fun _ => False) W W' S' := ⟨fun k hk => .inr (hl k hk), .of_below hb⟩
abbrev WlP (T : TypeId) (p : Nat) (l : List Id2) : (Nat → Prop) → World → Prop := fun S W => Wl T p l S W
theorem fdWl (T : TypeId) (p : Nat) (l : List Id2) : Fd (WlP T p l) := ⟨fun h k hd => Wl.frame h k hd, fun h => Wl.lt h⟩
/-- A list of IDs of one's own. -/
def LsP (v : Value) (l : List Id2) : (Nat → Prop) → World → Prop := fun S W => Owns W 0 v l ∧ (∀ g, v.ownBlock = some g → S g) ∧ ∀ k, S k → k < W.heap.size
theorem owns_fr {base : Nat} {v : Value} {l : List Id2} {S : Nat → Prop} {w w' : World} (h : Owns w base v l) (k : Fr S w w') (hv : ∀ b, v.ownBlock = some b → ¬ S b) : Owns w' base v l := by
  obtain ⟨h1, h2⟩ := h
  refine ⟨h1, ?_⟩
  rcases h2 with h2 | ⟨g, cap, cur, rfl, k1, k2, k3⟩
  · exact .inl h2
  · exact .inr ⟨g, cap, cur, rfl, k1, (k.same g (row_lt k2) (hv g rfl)).trans k2, k3⟩
theorem fdLs (v : Value) (l : List Id2) : Fd (LsP v l) :=
  ⟨fun h k hd => ⟨owns_fr h.1 k fun b hb => hd b (h.2.1 b hb), h.2.1, fun i hi => Nat.lt_of_lt_of_le (h.2.2 i hi) k.size⟩, fun h => h.2.2⟩
/-- A box apart from all. -/
structure Bq (w W : World) (S1 S2 S3 S4 : Nat → Prop) (g : Nat) (a i : Int) : Prop where
  box : Box W g a i
  lo : w.heap.size ≤ g
  n1 : ¬ S1 g
  n2 : ¬ S2 g
  n3 : ¬ S3 g
  n4 : ¬ S4 g
section
variable {g : Nat} {a i : Int} {S2' S3' S4' : Nat → Prop}
theorem upd_not (u : Upd S1 W W' S1') (hg : g < W.heap.size) (hn : ¬ S1 g) : ¬ S1' g := fun e => by
  rcases u.sub g e with e | e
  · exact hn e
  · omega
theorem Bq.keep (h : Bq w W S1 S2 S3 S4 g a i) (hb : Below W.heap.size W W') : Bq w W' S1 S2 S3 S4 g a i := ⟨box_below h.box hb, h.lo, h.n1, h.n2, h.n3, h.n4⟩
theorem Bq.op (h : Bq w W S1 S2 S3 S4 g a i) (u : Upd S1 W W' S1') : Bq w W' S1' S2 S3 S4 g a i := ⟨Box.frame h.box u.fr h.n1, h.lo, upd_not u (box_lt h.box) h.n1, h.n2, h.n3, h.n4⟩
theorem Bq.opB (h : Bq w W S1 S2 S3 S4 g a i) (u : Upd S2 W W' S2') : Bq w W' S1 S2' S3 S4 g a i := ⟨Box.frame h.box u.fr h.n2, h.lo, h.n1, upd_not u (box_lt h.box) h.n2, h.n3, h.n4⟩
theorem Bq.opC (h : Bq w W S1 S2 S3 S4 g a i) (u : Upd S3 W W' S3') : Bq w W' S1 S2 S3' S4 g a i := ⟨Box.frame h.box u.fr h.n3, h.lo, h.n1, h.n2, upd_not u (box_lt h.box) h.n3, h.n4⟩
theorem Bq.opD (h : Bq w W S1 S2 S3 S4 g a i) (u : Upd S4 W W' S4') : Bq w W' S1 S2 S3 S4' g a i := ⟨Box.frame h.box u.fr h.n4, h.lo, h.n1, h.n2, h.n3, upd_not u (box_lt h.box) h.n4⟩
/-- Another box is written. -/
theorem Bq.other {g' : Nat} (h : Bq w W S1 S2 S3 S4 g a i) (k : Fr (fun j => j = g') W W') (hg : g ≠ g') : Bq w W' S1 S2 S3 S4 g a i := ⟨Box.frame h.box k hg, h.lo, h.n1, h.n2, h.n3, h.n4⟩
theorem Bq.put (h : Bq w W S1 S2 S3 S4 g a i) (x y : Int) : Bq w ((W.setCell ⟨g, 0, none⟩ (.int .i64 x)).setCell ⟨g, 1, none⟩ (.int .i64 y)) S1 S2 S3 S4 g x y := ⟨box_set h.box x y, h.lo, h.n1, h.n2, h.n3, h.n4⟩
theorem fr_put (W : World) (g : Nat) (x y : Int) : Fr (fun j => j = g) W ((W.setCell ⟨g, 0, none⟩ (.int .i64 x)).setCell ⟨g, 1, none⟩ (.int .i64 y)) := (Fr.of_set (S := fun j => j = g) _ _ rfl).step (.of_set (S := fun j => j = g) _ _ rfl)
theorem Four.box (h : Four w W P1 P2 P3 P4 S1 S2 S3 S4) (f1 : Fd P1) (f2 : Fd P2) (f3 : Fd P3) (f4 : Fd P4) (a i : Int) : Bq w (W.alloc (.cells #[.int .i64 a, .int .i64 i] 24)) S1 S2 S3 S4 W.heap.size a i :=
  have k := h.new f1 f2 f3 f4 (Nat.le_refl W.heap.size)
  ⟨box_new W a i, k.1, k.2.1, k.2.2.1, k.2.2.2.1, k.2.2.2.2⟩
/-- A box apart from all is written. -/
theorem Four.put (h : Four w W P1 P2 P3 P4 S1 S2 S3 S4) (f1 : Fd P1) (f2 : Fd P2) (f3 : Fd P3) (f4 : Fd P4) (b : Bq w W S1 S2 S3 S4 g a i) (k : Fr (fun j => j = g) W W') : Four w W' P1 P2 P3 P4 S1 S2 S3 S4 :=
  h.spoil f1 f2 f3 f4 k fun j e => by
    have e : j = g := e
    subst e
    exact ⟨b.lo, b.n1, b.n2, b.n3, b.n4⟩
/-- One thing, all of whose blocks are new. -/
theorem Four.one (k : P1 S1 W) (hb : Below w.heap.size w W) (hl : ∀ k, S1 k → w.heap.size ≤ k) : Four w W P1 NoP NoP NoP S1 (fun _ => False) (fun _ => False) (fun _ => False) :=
  ⟨k, fun _ e => e, fun _ e => e, fun _ e => e, fun _ _ e => e, fun _ _ e => e, fun _ _ e => e, fun _ _ e => e, fun _ _ e => e, fun _ _ e => e, hl, fun _ e => e.elim, fun _ e => e.elim, fun _ e => e.elim, hb⟩
end
section
variable {T : TypeId} {S : Nat → Prop} {p d : Nat} {u : Value} {l ps : List Id2}
/-- Who is next: nobody, where there are no peers. -/
def nxX (l ps : List Id2) (d : Nat) : Id2 := if ps.isEmpty = true then (0, 0) else (nx l ps d).headD (0, 0)
def nxB (ps : List Id2) : Bool := !ps.isEmpty
/-- What is left then. -/
def nxR (l ps : List Id2) (d : Nat) : List Id2 := if ps.isEmpty = true then l else (nx l ps d).tail
theorem nx_none (l : List Id2) (d : Nat) : nxX l [] d = (0, 0) ∧ nxB [] = false ∧ nxR l [] d = l := ⟨rfl, rfl, rfl⟩
theorem nx_some {x : Id2} {r : List Id2} (h : ps ≠ []) (k : nx l ps d = x :: r) : nxX l ps d = x ∧ nxB ps = true ∧ nxR l ps d = r := by
  have e : ps.isEmpty = false := by simpa using h
  simp [nxX, nxB, nxR, e, k]
theorem next_all (h : Wl 51 p l S W) (hu : ∀ W', Fr S W W' → Ids W' u ps) (hpl : ps.length ≤ 40000) (hl : l.length ≤ 100000) (hd : d < 4294967296) :
    Calls Try.prog 10 #[.pointer (some ⟨p, 0, none⟩), u, .int .u32 d] W fun e w' => e = Idb (nxX l ps d) (nxB ps) ∧ ∃ S', Wl 51 p (nxR l ps d) S' w' ∧ Upd S W w' S' := by
  by_cases hps : ps = []
  · subst hps
    exact (next_no (hu _ (.refl _ _)) p d).mono fun e w' ⟨h1, h2⟩ => ⟨h1, S, h.keep h2, .keep h2⟩
  · obtain ⟨x, r, k⟩ := nx_cons hps l d
    obtain ⟨e1, e2, e3⟩ := nx_some hps k
    rw [e1, e2, e3]
    exact next_any h hu hps hpl hl hd k
theorem refNext_all (h : Wl 39 p l S W) (hu : ∀ W', Fr S W W' → Ids W' u ps) (hpl : ps.length ≤ 40000) (hd : d < 4294967296) :
    Calls Try.prog 19 #[.pointer (some ⟨p, 0, none⟩), u, .int .u32 d] W fun e w' => e = Idb (nxX l ps d) (nxB ps) ∧ ∃ S', Wl 39 p (nxR l ps d) S' w' ∧ Upd S W w' S' := by
  by_cases hps : ps = []
  · subst hps
    exact (refNext_no (hu _ (.refl _ _)) p d).mono fun e w' ⟨h1, h2⟩ => ⟨h1, S, h.keep h2, .keep h2⟩
  · obtain ⟨x, r, k⟩ := nx_cons hps l d
    obtain ⟨e1, e2, e3⟩ := nx_some hps k
    rw [e1, e2, e3]
    exact refNext_any h hu hps hpl hd k
theorem nxR_len {N : Nat} (h : l.length ≤ N) (k : ps.length ≤ N) : (nxR l ps d).length ≤ N := by
  by_cases hps : ps = []
  · subst hps
    exact h
  · obtain ⟨x, r, e⟩ := nx_cons hps l d
    have := nx_max (d := d) h k
    rw [(nx_some hps e).2.2]
    rw [e] at this
    simp at this
    omega
theorem nxR_nodup (h : l.Nodup) : (nxR l ps d).Nodup := by
  by_cases hps : ps = []
  · subst hps
    exact h
  · obtain ⟨x, r, e⟩ := nx_cons hps l d
    have := nx_nodup (ps := ps) (d := d) h
    rw [(nx_some hps e).2.2]
    rw [e] at this
    exact (List.nodup_cons.1 this).2
theorem nxX_in (h : nxB ps = true) : hasB (nxX l ps d) ps = true := by
  have hps : ps ≠ [] := fun e => by subst e; cases h
  obtain ⟨x, r, e⟩ := nx_cons hps l d
  rw [(nx_some hps e).1]
  exact nx_in e
theorem nxB_is (ps : List Id2) : nxB ps = decide ((0 : Int) < (ps.length : Int)) := by
  cases ps with
  | nil => rfl
  | cons x r => exact (decide_eq_true (by simp)).symm
/-- An argument's list stands while the first one's blocks are written; so for the others. -/
theorem Four.arg (h : Four w W P1 P2 P3 P4 S1 S2 S3 S4) (hI : ∀ w', Below w.heap.size w w' → Ids w' u ps) : ∀ W', Fr S1 W W' → Ids W' u ps := fun W' k => hI W' (h.below.trans (k.below h.below.size h.lo1))
theorem Four.argB (h : Four w W P1 P2 P3 P4 S1 S2 S3 S4) (hI : ∀ w', Below w.heap.size w w' → Ids w' u ps) : ∀ W', Fr S2 W W' → Ids W' u ps := h.rot.arg hI
theorem Four.argC (h : Four w W P1 P2 P3 P4 S1 S2 S3 S4) (hI : ∀ w', Below w.heap.size w w' → Ids w' u ps) : ∀ W', Fr S3 W W' → Ids W' u ps := h.rot.rot.arg hI
theorem Four.argD (h : Four w W P1 P2 P3 P4 S1 S2 S3 S4) (hI : ∀ w', Below w.heap.size w w' → Ids w' u ps) : ∀ W', Fr S4 W W' → Ids W' u ps := h.rot.rot.rot.arg hI
/-- The cells of a step. -/
theorem step_cells {w0 w' : World} {ad : Addr} {n c k : Nat} {ss : List St} (h : Rcs encS 2 w0 (.slice (some ad) n c) ss) (hk : k < ss.length) (hb : Below w0.heap.size w0 w') :
    w'.cell? (ad.add (k * 2)) = some (.slice ss[k].A ss[k].l.length ss[k].c) ∧ w'.cell? ⟨(ad.add (k * 2)).block, (ad.add (k * 2)).off + 1, none⟩ = some (.int .u32 ss[k].d) :=
  ⟨h.first hb hk rfl, h.cell hb hk 1 (by omega) rfl⟩
/-- Where nobody is next nothing is changed. -/
theorem nx_false (h : nxB ps = false) : ps = [] := by simpa [nxB] using h
end
end Go.Proofs.Ytmgkbfhkipfimaa
