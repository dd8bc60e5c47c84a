/-
  A watch in memory: its box, its map of detectors, and what stays when something else is written. No statement is proved in this text.
-/
import Derived.Test.YtkoeplgkiogjlaaKeyId
import Derived.Test.YtkoeplgkiogjlaaRowSetOps
import Derived.Test.YtkoeplgkiogjlaaRowBin
import Derived.Test.YtkoeplgkiogjlaaXAccG
import Derived.Test.YtkoeplgkiogjlaaRingE
import Derived.Laws.IdiomRangeMap
set_option maxRecDepth 20000
namespace Go.Proofs.Ytkoeplgkiogjlaa
open Go Go.RowKit Sets Go.Maps Go.ChangeMaps Go.MapKept
/-- A pointer to a detector as a map's element. -/
def dP : Option Nat → DataW Unit
  | none => .agg []
  | some l => .agg [.lit (.int .i64 (l : Int))]
def rPt (v : Value) : Option (DataW Unit × List MemPlace) :=
  match v with
  | .pointer none => some (dP none, [])
  | .pointer (some ⟨l, 0, none⟩) => some (dP (some l), [])
  | _ => none
def ptV (x : Option Nat) : Value := .pointer (x.map fun l => ⟨l, 0, none⟩)
def ElP : El (Option Nat) where
  v := ptV
  d := dP
  r := rPt
  dinj := by
    intro x y h
    cases x <;> cases y <;> simp [dP] at h
    · rfl
    · congr 1
      omega
  rv := by
    intro x
    cases x <;> rfl
  inv := by
    intro u z h
    unfold rPt at h
    split at h
    · injection h with h
      exact ⟨none, rfl, h.symm⟩
    · injection h with h
      exact ⟨some _, rfl, h.symm⟩
    · cases h
theorem zeroPt (w : World) : (zeroValue 52).run Try.prog w = .ok (ElP.v none) w := by kernel_rfl
/-- Nothing but the blocks of S, and new ones, was written. -/
structure Fr (S : Nat → Prop) (w w' : World) : Prop where
  os : w'.os = w.os
  tape : w'.tape = w.tape
  output : w'.output = w.output
  size : w.heap.size ≤ w'.heap.size
  same : ∀ k, k < w.heap.size → ¬ S k → w'.heap[k]? = w.heap[k]?
theorem Fr.refl (S : Nat → Prop) (w : World) : Fr S w w := ⟨rfl, rfl, rfl, Nat.le_refl _, fun _ _ _ => rfl⟩
theorem Fr.of_below {S : Nat → Prop} {w w' : World} (h : Below w.heap.size w w') : Fr S w w' := ⟨h.os, h.tape, h.output, h.size, fun k hk _ => h.block k hk⟩
theorem Fr.of_grown {S : Nat → Prop} {w w' : World} {row : Option Nat} (h : w.grownBy w' row) (hS : ∀ g, row = some g → S g) : Fr S w w' := ⟨h.os, h.tape, h.output, h.size, fun k hk hn => h.block k hk (fun e => hn (hS k e.symm))⟩
theorem Fr.of_turned {S : Nat → Prop} {w w' : World} {b : Nat} (h : w.mapTurned w' b) (hS : S b) : Fr S w w' := by
  obtain ⟨es, c, es', c', h1, rfl⟩ := h
  exact ⟨rfl, rfl, rfl, by simp [setBlock], fun k _ hn => heap_setBlock_other h1 _ (fun e => hn (e ▸ hS))⟩
theorem Fr.of_set {S : Nat → Prop} (w : World) {b i : Nat} (v : Value) (hS : S b) : Fr S w (w.setCell ⟨b, i, none⟩ v) :=
  ⟨rfl, rfl, rfl, by simp [World.setCell], fun _ _ hn => Below.heap_setCell _ _ _ _ (fun e => hn (by rw [e]; exact hS))⟩
theorem Fr.mono {S T : Nat → Prop} {w w' : World} (h : Fr S w w') (hT : ∀ k, S k → T k) : Fr T w w' := ⟨h.os, h.tape, h.output, h.size, fun k hk hn => h.same k hk (fun e => hn (hT k e))⟩
theorem Fr.trans {S T : Nat → Prop} {a b c : World} (h : Fr S a b) (k : Fr T b c) (hT : ∀ i, T i → S i ∨ a.heap.size ≤ i) : Fr S a c :=
  ⟨k.os.trans h.os, k.tape.trans h.tape, k.output.trans h.output, Nat.le_trans h.size k.size, fun i hi hn =>
    (k.same i (Nat.lt_of_lt_of_le hi h.size) (fun e => by rcases hT i e with e | e; exact hn e; omega)).trans (h.same i hi hn)⟩
theorem Fr.step {S : Nat → Prop} {a b c : World} (h : Fr S a b) (k : Fr S b c) : Fr S a c := h.trans k fun _ e => .inl e
theorem Fr.below {S : Nat → Prop} {w w' : World} (h : Fr S w w') {B : Nat} (hB : B ≤ w.heap.size) (hS : ∀ k, S k → B ≤ k) : Below B w w' :=
  ⟨h.os, h.tape, h.output, h.size, fun k hk => h.same k (Nat.lt_of_lt_of_le hk hB) (fun e => by have := hS k e; omega)⟩
theorem Ids.frame {S : Nat → Prop} {w w' : World} {v : Value} {l : List Id2} (h : Ids w v l) (k : Fr S w w') (hv : ∀ g, v.ownBlock = some g → ¬ S g) : Ids w' v l := by
  obtain ⟨A, c, rfl, h0, hn, hx⟩ := h
  refine ⟨A, c, rfl, h0, hn, fun i hi => ?_⟩
  obtain ⟨ad, rfl, h2, h3, h4⟩ := hx i hi
  have e := k.same ad.block h2 (hv _ rfl)
  refine ⟨ad, rfl, Nat.lt_of_lt_of_le h2 k.size, ?_, ?_⟩
  · rw [World.cell?_of_block (w := w) (by rw [block_of_add]; exact e)]
    exact h3
  · rw [World.cell?_of_block (w := w) (by show w'.heap[(ad.add (i * 2)).block]? = w.heap[(ad.add (i * 2)).block]?; rw [block_of_add]; exact e)]
    exact h4
theorem Det.frame {T : TypeId} {S : Nat → Prop} {w w' : World} {base l : Nat} {d : Dt} {v : Value} (h : Det T w base l d v) (k : Fr S w w') (hl : ¬ S l) (hv : ∀ g, v.ownBlock = some g → ¬ S g) : Det T w' base l d v := by
  refine ⟨(k.same l h.lt hl).trans h.box, h.lo, ?_, h.ne⟩
  obtain ⟨h1, h2⟩ := h.gaps
  refine ⟨h1, ?_⟩
  rcases h2 with h2 | ⟨g, cap, cur, rfl, k1, k2, k3⟩
  · exact .inl h2
  · exact .inr ⟨g, cap, cur, rfl, k1, (k.same g (row_lt k2) (hv g rfl)).trans k2, k3⟩
/-- A detector whose blocks are among S. -/
def Dw (T : TypeId) (Ok : Dt → Prop) (S : Nat → Prop) (W : World) (l : Nat) (d : Dt) : Prop := ∃ v, Det T W 0 l d v ∧ S l ∧ (∀ g, v.ownBlock = some g → S g) ∧ Ok d
variable {T : TypeId} {Ok : Dt → Prop} {S S2 : Nat → Prop} {W W' : World} {l l' : Nat} {d d' : Dt}
theorem Dw.keep (h : Dw T Ok S W l d) (hb : Below W.heap.size W W') : Dw T Ok S W' l d := by
  obtain ⟨v, h1, h2⟩ := h
  exact ⟨v, h1.below hb, h2⟩
theorem Dw.frame (h : Dw T Ok S W l d) (k : Fr S2 W W') (hd : ∀ k, S k → ¬ S2 k) : Dw T Ok S W' l d := by
  obtain ⟨v, h1, h2, h3, h4⟩ := h
  exact ⟨v, h1.frame k (hd _ h2) (fun g hg => hd _ (h3 g hg)), h2, h3, h4⟩
theorem Dw.mono (h : Dw T Ok S W l d) (hS : ∀ k, S k → S2 k) : Dw T Ok S2 W l d := by
  obtain ⟨v, h1, h2, h3, h4⟩ := h
  exact ⟨v, h1, hS _ h2, fun g hg => hS _ (h3 g hg), h4⟩
theorem Dw.box (h : Dw T Ok S W l d) : ∃ v, DBox T W l d v := by
  obtain ⟨v, h1, _⟩ := h
  exact ⟨v, h1.box⟩
theorem Dw.lt (h : Dw T Ok S W l d) : l < W.heap.size := by
  obtain ⟨v, h1, _⟩ := h
  exact h1.lt
/-- Something that is no number's row, and not this detector, is written. -/
theorem Dw.other (h : Dw T Ok S W l d) (k : Fr S2 W W') (hl : ¬ S2 l) (h3 : ∀ g cs, S2 g → W.heap[g]? ≠ some (.cells cs 3 (0, 0))) : Dw T Ok S W' l d := by
  obtain ⟨v, h1, h2⟩ := h
  exact ⟨v, h1.frame k hl (fun g hg e => by
    obtain ⟨cs, h4⟩ := gaps_type h1.gaps hg
    exact h3 g cs e h4), h2⟩
/-- The detectors by IDs as the map tells them. -/
def mapOf (K : List Id2) (L : Id2 → Nat) : Int × Int → Option (Option Nat) := fun q => if q ∈ K then some (some (L q)) else none
/-- The watch at p, told with its parts. -/
structure Inn (S : Nat → Prop) (W : World) (p f : Nat) (mb : Option Nat) (n : Nat) (e : Dt) (K : List Id2) (D : Id2 → Dt) (L : Id2 → Nat) : Prop where
  box : W.heap[p]? = some (.cells #[.pointer (some ⟨f, 0, none⟩), .map mb] 57 (0, 0))
  inp : S p
  fresh : Dw 81 Dt.Ok S W f e
  map : match mb with | none => K = [] | some b => S b ∧ MapI ElP W b n (mapOf K L)
  dets : ∀ q ∈ K, Dw 81 Dt.Ok S W (L q) (D q)
  inj : ∀ q ∈ K, ∀ r ∈ K, L q = L r → q = r
  far : ∀ q ∈ K, L q ≠ f
  in2 : ∀ q ∈ K, In2 q
  lt : ∀ k, S k → k < W.heap.size
variable {p f n : Nat} {mb : Option Nat} {e : Dt} {K : List Id2} {D : Id2 → Dt} {L : Id2 → Nat}
theorem Inn.keep (h : Inn S W p f mb n e K D L) (hb : Below W.heap.size W W') : Inn S W' p f mb n e K D L := by
  refine ⟨(hb.block _ (h.lt _ h.inp)).trans h.box, h.inp, h.fresh.keep hb, ?_, fun q hq => (h.dets q hq).keep hb, h.inj, h.far, h.in2, fun k hk => Nat.lt_of_lt_of_le (h.lt k hk) hb.size⟩
  have := h.map
  cases mb with
  | none => exact this
  | some b => exact ⟨this.1, this.2.same (hb.block b this.2.lt)⟩
theorem Inn.frame (h : Inn S W p f mb n e K D L) (k : Fr S2 W W') (hd : ∀ k, S k → ¬ S2 k) : Inn S W' p f mb n e K D L := by
  refine ⟨(k.same _ (h.lt _ h.inp) (hd _ h.inp)).trans h.box, h.inp, h.fresh.frame k hd, ?_, fun q hq => (h.dets q hq).frame k hd, h.inj, h.far, h.in2, fun i hi => Nat.lt_of_lt_of_le (h.lt i hi) k.size⟩
  have := h.map
  cases mb with
  | none => exact this
  | some b => exact ⟨this.1, this.2.same (k.same b this.2.lt (hd _ this.1))⟩
theorem Inn.cells (h : Inn S W p f mb n e K D L) : W.cell? ⟨p, 0, none⟩ = some (.pointer (some ⟨f, 0, none⟩)) ∧ W.cell? ⟨p, 1, none⟩ = some (.map mb) :=
  ⟨by rw [cell_of_row _ _ 0 _ _ _ h.box]; rfl, by rw [cell_of_row _ _ 1 _ _ _ h.box]; rfl⟩
theorem Inn.free (h : Inn S W p f mb n e K D L) : W.frozen? ⟨p, 1, none⟩ = false := by
  have := h.box
  simp [World.frozen?, this]
/-- A map's block is none of cells. -/
theorem MapI.cells_not {V : Type} {E : El V} {w : World} {b n : Nat} {M : Int × Int → Option V} (h : MapI E w b n M) (cs : Array Value) (t : TypeId) (x : Nat × Nat) : w.heap[b]? ≠ some (.cells cs t x) := by
  obtain ⟨_, ⟨es, clock, h1, _⟩, _⟩ := h
  rw [h1]
  intro e
  cases e
/-- The map is turned. -/
theorem Inn.turned {b m : Nat} {K' : List Id2} (h : Inn S W p f (some b) n e K D L) (k : Fr (fun i => i = b) W W') (hK : ∀ q ∈ K', q ∈ K) (hm : MapI ElP W' b m (mapOf K' L)) : Inn S W' p f (some b) m e K' D L := by
  have hb : ∀ cs t x, W.heap[b]? ≠ some (.cells cs t x) := h.map.2.cells_not
  have hD : ∀ l' d', Dw 81 Dt.Ok S W l' d' → Dw 81 Dt.Ok S W' l' d' := fun l' d' hd => hd.other k (fun e => by
    obtain ⟨v, hx⟩ := hd.box
    unfold DBox at hx
    rw [show l' = b from e] at hx
    exact hb _ _ _ hx) (fun g cs e => by rw [show g = b from e]; exact hb _ _ _)
  exact ⟨(k.same _ (h.lt _ h.inp) (fun e => by have := h.box; rw [show p = b from e] at this; exact hb _ _ _ this)).trans h.box, h.inp, hD _ _ h.fresh, ⟨h.map.1, hm⟩, fun q hq => hD _ _ (h.dets q (hK q hq)),
    fun q hq r hr => h.inj q (hK q hq) r (hK r hr), fun q hq => h.far q (hK q hq), fun q hq => h.in2 q (hK q hq), fun i hi => Nat.lt_of_lt_of_le (h.lt i hi) k.size⟩
/-- What an operation writes, and what blocks there are then. -/
structure Upd (S : Nat → Prop) (W W' : World) (S' : Nat → Prop) : Prop where
  sub : ∀ k, S' k → S k ∨ W.heap.size ≤ k
  fr : Fr S W W'
theorem Upd.trans {S' S'' : Nat → Prop} {W'' : World} (h : Upd S W W' S') (k : Upd S' W' W'' S'') : Upd S W W'' S'' := by
  refine ⟨fun i hi => ?_, h.fr.trans k.fr h.sub⟩
  rcases k.sub i hi with e | e
  · exact h.sub i e
  · exact .inr (Nat.le_trans h.fr.size e)
theorem Upd.of_fr (h : Fr S W W') : Upd S W W' S := ⟨fun _ e => .inl e, h⟩
theorem Upd.keep (h : Below W.heap.size W W') : Upd S W W' S := .of_fr (.of_below h)
/-- The watch at p: bounds and window as those of e; K are watched, by the detectors D; n is no less than what the map holds. -/
def Wat (S : Nat → Prop) (W : World) (p n : Nat) (e : Dt) (K : List Id2) (D : Id2 → Dt) : Prop := ∃ f mb L, Inn S W p f mb n e K D L
theorem Wat.keep (h : Wat S W p n e K D) (hb : Below W.heap.size W W') : Wat S W' p n e K D := by
  obtain ⟨f, mb, L, h⟩ := h
  exact ⟨f, mb, L, h.keep hb⟩
theorem Wat.frame (h : Wat S W p n e K D) (k : Fr S2 W W') (hd : ∀ k, S k → ¬ S2 k) : Wat S W' p n e K D := by
  obtain ⟨f, mb, L, h⟩ := h
  exact ⟨f, mb, L, h.frame k hd⟩
theorem Wat.lt (h : Wat S W p n e K D) : ∀ k, S k → k < W.heap.size := by
  obtain ⟨f, mb, L, h⟩ := h
  exact h.lt
theorem Wat.in2 (h : Wat S W p n e K D) : ∀ q ∈ K, In2 q := by
  obtain ⟨f, mb, L, h⟩ := h
  exact h.in2
end Go.Proofs.Ytkoeplgkiogjlaa
