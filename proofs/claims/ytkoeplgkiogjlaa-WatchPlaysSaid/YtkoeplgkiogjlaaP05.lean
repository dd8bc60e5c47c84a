/-
  Carried over and put together: contracts of this program's functions, and plain facts. No statement is proved in this text.
-/
import Derived.Laws.IdiomRangeMap
import Derived.Test.YtkoeplgkiogjlaaP02
import Derived.Test.YtkoeplgkiogjlaaP03
import Derived.Test.YtkoeplgkiogjlaaP04
set_option maxRecDepth 20000
namespace Go.Proofs.Ytkoeplgkiogjlaa
open Go Go.RowKit Sets Go.Maps Go.ChangeMaps Go.MapKept
/-- A pointer to a detector as a map's element. -/
def dP : Option Nat → DataW Unit
  | none => .agg []
  | some l => .agg [.lit (.int .i64 (l : Int))]
def rPt (v : Value) : Option (DataW Unit × List MemPlace) :=
  match v with
  | .pointer none => some (dP none, [])
  | .pointer (some ⟨l, 0, none⟩) => some (dP (some l), [])
  | _ => none
def ptV (x : Option Nat) : Value := .pointer (x.map fun l => ⟨l, 0, none⟩)
def ElP : El (Option Nat) where
  v := ptV
  d := dP
  r := rPt
  dinj := by
    intro x y h
    cases x <;> cases y <;> simp [dP] at h
    · rfl
    · congr 1
      omega
  rv := by
    intro x
    cases x <;> rfl
  inv := by
    intro u z h
    unfold rPt at h
    split at h
    · injection h with h
      exact ⟨none, rfl, h.symm⟩
    · injection h with h
      exact ⟨some _, rfl, h.symm⟩
    · cases h
theorem zeroPt (w : World) : (zeroValue 52).run Try.prog w = .ok (ElP.v none) w := by kernel_rfl
/-- Nothing but the blocks of S, and new ones, was written. -/
structure Fr (S : Nat → Prop) (w w' : World) : Prop where
  os : w'.os = w.os
  tape : w'.tape = w.tape
  output : w'.output = w.output
  size : w.heap.size ≤ w'.heap.size
  same : ∀ k, k < w.heap.size → ¬ S k → w'.heap[k]? = w.heap[k]?
theorem Fr.refl (S : Nat → Prop) (w : World) : Fr S w w := ⟨rfl, rfl, rfl, Nat.le_refl _, fun _ _ _ => rfl⟩
theorem Fr.of_below {S : Nat → Prop} {w w' : World} (h : Below w.heap.size w w') : Fr S w w' := ⟨h.os, h.tape, h.output, h.size, fun k hk _ => h.block k hk⟩
theorem Fr.of_grown {S : Nat → Prop} {w w' : World} {row : Option Nat} (h : w.grownBy w' row) (hS : ∀ g, row = some g → S g) : Fr S w w' := ⟨h.os, h.tape, h.output, h.size, fun k hk hn => h.block k hk (fun e => hn (hS k e.symm))⟩
theorem Fr.of_turned {S : Nat → Prop} {w w' : World} {b : Nat} (h : w.mapTurned w' b) (hS : S b) : Fr S w w' := by
  obtain ⟨es, c, es', c', h1, rfl⟩ := h
  exact ⟨rfl, rfl, rfl, by simp [setBlock], fun k _ hn => heap_setBlock_other h1 _ (fun e => hn (e ▸ hS))⟩
theorem Fr.of_set {S : Nat → Prop} (w : World) {b i : Nat} (v : Value) (hS : S b) : Fr S w (w.setCell ⟨b, i, none⟩ v) :=
  ⟨rfl, rfl, rfl, by simp [World.setCell], fun _ _ hn => Below.heap_setCell _ _ _ _ (fun e => hn (by rw [e]; exact hS))⟩
theorem Fr.mono {S T : Nat → Prop} {w w' : World} (h : Fr S w w') (hT : ∀ k, S k → T k) : Fr T w w' := ⟨h.os, h.tape, h.output, h.size, fun k hk hn => h.same k hk (fun e => hn (hT k e))⟩
theorem Fr.trans {S T : Nat → Prop} {a b c : World} (h : Fr S a b) (k : Fr T b c) (hT : ∀ i, T i → S i ∨ a.heap.size ≤ i) : Fr S a c :=
  ⟨k.os.trans h.os, k.tape.trans h.tape, k.output.trans h.output, Nat.le_trans h.size k.size, fun i hi hn =>
    (k.same i (Nat.lt_of_lt_of_le hi h.size) (fun e => by rcases hT i e with e | e; exact hn e; omega)).trans (h.same i hi hn)⟩
theorem Fr.step {S : Nat → Prop} {a b c : World} (h : Fr S a b) (k : Fr S b c) : Fr S a c := h.trans k fun _ e => .inl e
theorem Fr.below {S : Nat → Prop} {w w' : World} (h : Fr S w w') {B : Nat} (hB : B ≤ w.heap.size) (hS : ∀ k, S k → B ≤ k) : Below B w w' :=
  ⟨h.os, h.tape, h.output, h.size, fun k hk => h.same k (Nat.lt_of_lt_of_le hk hB) (fun e => by have := hS k e; omega)⟩
theorem Ids.frame {S : Nat → Prop} {w w' : World} {v : Value} {l : List Id2} (h : Ids w v l) (k : Fr S w w') (hv : ∀ g, v.ownBlock = some g → ¬ S g) : Ids w' v l := by
  obtain ⟨A, c, rfl, h0, hn, hx⟩ := h
  refine ⟨A, c, rfl, h0, hn, fun i hi => ?_⟩
  obtain ⟨ad, rfl, h2, h3, h4⟩ := hx i hi
  have e := k.same ad.block h2 (hv _ rfl)
  refine ⟨ad, rfl, Nat.lt_of_lt_of_le h2 k.size, ?_, ?_⟩
  · rw [World.cell?_of_block (w := w) (by rw [block_of_add]; exact e)]
    exact h3
  · rw [World.cell?_of_block (w := w) (by show w'.heap[(ad.add (i * 2)).block]? = w.heap[(ad.add (i * 2)).block]?; rw [block_of_add]; exact e)]
    exact h4
theorem Det.frame {T : TypeId} {S : Nat → Prop} {w w' : World} {base l : Nat} {d : Dt} {v : Value} (h : Det T w base l d v) (k : Fr S w w') (hl : ¬ S l) (hv : ∀ g, v.ownBlock = some g → ¬ S g) : Det T w' base l d v := by
  refine ⟨(k.same l h.lt hl).trans h.box, h.lo, ?_, h.ne⟩
  obtain ⟨h1, h2⟩ := h.gaps
  refine ⟨h1, ?_⟩
  rcases h2 with h2 | ⟨g, cap, cur, rfl, k1, k2, k3⟩
  · exact .inl h2
  · exact .inr ⟨g, cap, cur, rfl, k1, (k.same g (row_lt k2) (hv g rfl)).trans k2, k3⟩
/-- A detector whose blocks are among S. -/
def Dw (T : TypeId) (Ok : Dt → Prop) (S : Nat → Prop) (W : World) (l : Nat) (d : Dt) : Prop := ∃ v, Det T W 0 l d v ∧ S l ∧ (∀ g, v.ownBlock = some g → S g) ∧ Ok d
variable {T : TypeId} {Ok : Dt → Prop} {S S2 : Nat → Prop} {W W' : World} {l l' : Nat} {d d' : Dt}
theorem Dw.keep (h : Dw T Ok S W l d) (hb : Below W.heap.size W W') : Dw T Ok S W' l d := by
  obtain ⟨v, h1, h2⟩ := h
  exact ⟨v, h1.below hb, h2⟩
theorem Dw.frame (h : Dw T Ok S W l d) (k : Fr S2 W W') (hd : ∀ k, S k → ¬ S2 k) : Dw T Ok S W' l d := by
  obtain ⟨v, h1, h2, h3, h4⟩ := h
  exact ⟨v, h1.frame k (hd _ h2) (fun g hg => hd _ (h3 g hg)), h2, h3, h4⟩
theorem Dw.mono (h : Dw T Ok S W l d) (hS : ∀ k, S k → S2 k) : Dw T Ok S2 W l d := by
  obtain ⟨v, h1, h2, h3, h4⟩ := h
  exact ⟨v, h1, hS _ h2, fun g hg => hS _ (h3 g hg), h4⟩
theorem Dw.box (h : Dw T Ok S W l d) : ∃ v, DBox T W l d v := by
  obtain ⟨v, h1, _⟩ := h
  exact ⟨v, h1.box⟩
theorem Dw.lt (h : Dw T Ok S W l d) : l < W.heap.size := by
  obtain ⟨v, h1, _⟩ := h
  exact h1.lt
/-- Something that is no number's row, and not this detector, is written. -/
theorem Dw.other (h : Dw T Ok S W l d) (k : Fr S2 W W') (hl : ¬ S2 l) (h3 : ∀ g cs, S2 g → W.heap[g]? ≠ some (.cells cs 3 (0, 0))) : Dw T Ok S W' l d := by
  obtain ⟨v, h1, h2⟩ := h
  exact ⟨v, h1.frame k hl (fun g hg e => by
    obtain ⟨cs, h4⟩ := gaps_type h1.gaps hg
    exact h3 g cs e h4), h2⟩
/-- The detectors by IDs as the map tells them. -/
def mapOf (K : List Id2) (L : Id2 → Nat) : Int × Int → Option (Option Nat) := fun q => if q ∈ K then some (some (L q)) else none
/-- The watch at p, told with its parts. -/
structure Inn (S : Nat → Prop) (W : World) (p f : Nat) (mb : Option Nat) (n : Nat) (e : Dt) (K : List Id2) (D : Id2 → Dt) (L : Id2 → Nat) : Prop where
  box : W.heap[p]? = some (.cells #[.pointer (some ⟨f, 0, none⟩), .map mb] 57 (0, 0))
  inp : S p
  fresh : Dw 81 Dt.Ok S W f e
  map : match mb with | none => K = [] | some b => S b ∧ MapI ElP W b n (mapOf K L)
  dets : ∀ q ∈ K, Dw 81 Dt.Ok S W (L q) (D q)
  inj : ∀ q ∈ K, ∀ r ∈ K, L q = L r → q = r
  far : ∀ q ∈ K, L q ≠ f
  in2 : ∀ q ∈ K, In2 q
  lt : ∀ k, S k → k < W.heap.size
variable {p f n : Nat} {mb : Option Nat} {e : Dt} {K : List Id2} {D : Id2 → Dt} {L : Id2 → Nat}
theorem Inn.keep (h : Inn S W p f mb n e K D L) (hb : Below W.heap.size W W') : Inn S W' p f mb n e K D L := by
  refine ⟨(hb.block _ (h.lt _ h.inp)).trans h.box, h.inp, h.fresh.keep hb, ?_, fun q hq => (h.dets q hq).keep hb, h.inj, h.far, h.in2, fun k hk => Nat.lt_of_lt_of_le (h.lt k hk) hb.size⟩
  have := h.map
  cases mb with
  | none => exact this
  | some b => exact ⟨this.1, this.2.same (hb.block b this.2.lt)⟩
theorem Inn.frame (h : Inn S W p f mb n e K D L) (k : Fr S2 W W') (hd : ∀ k, S k → ¬ S2 k) : Inn S W' p f mb n e K D L := by
  refine ⟨(k.same _ (h.lt _ h.inp) (hd _ h.inp)).trans h.box, h.inp, h.fresh.frame k hd, ?_, fun q hq => (h.dets q hq).frame k hd, h.inj, h.far, h.in2, fun i hi => Nat.lt_of_lt_of_le (h.lt i hi) k.size⟩
  have := h.map
  cases mb with
  | none => exact this
  | some b => exact ⟨this.1, this.2.same (k.same b this.2.lt (hd _ this.1))⟩
theorem Inn.cells (h : Inn S W p f mb n e K D L) : W.cell? ⟨p, 0, none⟩ = some (.pointer (some ⟨f, 0, none⟩)) ∧ W.cell? ⟨p, 1, none⟩ = some (.map mb) :=
  ⟨by rw [cell_of_row _ _ 0 _ _ _ h.box]; rfl, by rw [cell_of_row _ _ 1 _ _ _ h.box]; rfl⟩
theorem Inn.free (h : Inn S W p f mb n e K D L) : W.frozen? ⟨p, 1, none⟩ = false := by
  have := h.box
  simp [World.frozen?, this]
/-- A map's block is none of cells. -/
theorem MapI.cells_not {V : Type} {E : El V} {w : World} {b n : Nat} {M : Int × Int → Option V} (h : MapI E w b n M) (cs : Array Value) (t : TypeId) (x : Nat × Nat) : w.heap[b]? ≠ some (.cells cs t x) := by
  obtain ⟨_, ⟨es, clock, h1, _⟩, _⟩ := h
  rw [h1]
  intro e
  cases e
/-- The map is turned. -/
theorem Inn.turned {b m : Nat} {K' : List Id2} (h : Inn S W p f (some b) n e K D L) (k : Fr (fun i => i = b) W W') (hK : ∀ q ∈ K', q ∈ K) (hm : MapI ElP W' b m (mapOf K' L)) : Inn S W' p f (some b) m e K' D L := by
  have hb : ∀ cs t x, W.heap[b]? ≠ some (.cells cs t x) := h.map.2.cells_not
  have hD : ∀ l' d', Dw 81 Dt.Ok S W l' d' → Dw 81 Dt.Ok S W' l' d' := fun l' d' hd => hd.other k (fun e => by
    obtain ⟨v, hx⟩ := hd.box
    unfold DBox at hx
    rw [show l' = b from e] at hx
    exact hb _ _ _ hx) (fun g cs e => by rw [show g = b from e]; exact hb _ _ _)
  exact ⟨(k.same _ (h.lt _ h.inp) (fun e => by have := h.box; rw [show p = b from e] at this; exact hb _ _ _ this)).trans h.box, h.inp, hD _ _ h.fresh, ⟨h.map.1, hm⟩, fun q hq => hD _ _ (h.dets q (hK q hq)),
    fun q hq r hr => h.inj q (hK q hq) r (hK r hr), fun q hq => h.far q (hK q hq), fun q hq => h.in2 q (hK q hq), fun i hi => Nat.lt_of_lt_of_le (h.lt i hi) k.size⟩
/-- What an operation writes, and what blocks there are then. -/
structure Upd (S : Nat → Prop) (W W' : World) (S' : Nat → Prop) : Prop where
  sub : ∀ k, S' k → S k ∨ W.heap.size ≤ k
  fr : Fr S W W'
theorem Upd.trans {S' S'' : Nat → Prop} {W'' : World} (h : Upd S W W' S') (k : Upd S' W' W'' S'') : Upd S W W'' S'' := by
  refine ⟨fun i hi => ?_, h.fr.trans k.fr h.sub⟩
  rcases k.sub i hi with e | e
  · exact h.sub i e
  · exact .inr (Nat.le_trans h.fr.size e)
theorem Upd.of_fr (h : Fr S W W') : Upd S W W' S := ⟨fun _ e => .inl e, h⟩
theorem Upd.keep (h : Below W.heap.size W W') : Upd S W W' S := .of_fr (.of_below h)
/-- The watch at p: bounds and window as those of e; K are watched, by the detectors D; n is no less than what the map holds. -/
def Wat (S : Nat → Prop) (W : World) (p n : Nat) (e : Dt) (K : List Id2) (D : Id2 → Dt) : Prop := ∃ f mb L, Inn S W p f mb n e K D L
theorem Wat.keep (h : Wat S W p n e K D) (hb : Below W.heap.size W W') : Wat S W' p n e K D := by
  obtain ⟨f, mb, L, h⟩ := h
  exact ⟨f, mb, L, h.keep hb⟩
theorem Wat.frame (h : Wat S W p n e K D) (k : Fr S2 W W') (hd : ∀ k, S k → ¬ S2 k) : Wat S W' p n e K D := by
  obtain ⟨f, mb, L, h⟩ := h
  exact ⟨f, mb, L, h.frame k hd⟩
theorem Wat.lt (h : Wat S W p n e K D) : ∀ k, S k → k < W.heap.size := by
  obtain ⟨f, mb, L, h⟩ := h
  exact h.lt
theorem Wat.in2 (h : Wat S W p n e K D) : ∀ q ∈ K, In2 q := by
  obtain ⟨f, mb, L, h⟩ := h
  exact h.in2
end Go.Proofs.Ytkoeplgkiogjlaa
namespace Go.Proofs.Ytkoeplgkiogjlaa
open Go Go.RowKit Sets Go.Maps Go.ChangeMaps Go.MapKept
variable {S S2 : Nat → Prop} {W W' : World} {p f n : Nat} {mb : Option Nat} {e : Dt} {K : List Id2} {D : Id2 → Dt} {L : Id2 → Nat}
theorem hasB_not {q : Id2} {K : List Id2} (h : ¬ q ∈ K) : hasB q K = false := by unfold hasB; exact decide_eq_false h
theorem hasB_in {q : Id2} {K : List Id2} (h : q ∈ K) : hasB q K = true := by unfold hasB; exact decide_eq_true h
/-- d, ok := w.detectors[q] -/
theorem Inn.look (h : Inn S W p f mb n e K D L) {q : Id2} (hq : In2 q) : (Instr.lookup 55 (.map mb) (.agg #[.int .i64 q.1, .int .i64 q.2]) true).run Try.prog W = .ok (.tuple #[ptV (if q ∈ K then some (L q) else none), .bool (hasB q K)]) W := by
  have hm := h.map
  cases mb with
  | none =>
    have hK : K = [] := hm
    subst hK
    have := Maps.look_nil (P := Try.prog) true keyed35 Try.underlying55 (zeroPt W) (key_id hq)
    rw [if_pos rfl] at this
    exact this
  | some b =>
    have := hm.2.look (z := none) Try.underlying55 (zeroPt W) hq
    refine this.trans ?_
    unfold mapOf
    by_cases hk : q ∈ K
    · rw [if_pos hk, if_pos hk, hasB_in hk]
      rfl
    · rw [if_neg hk, if_neg hk, hasB_not hk]
      rfl
/-- w.detectors[q] -/
theorem Inn.at (h : Inn S W p f mb n e K D L) {q : Id2} (hq : In2 q) : (Instr.lookup 55 (.map mb) (.agg #[.int .i64 q.1, .int .i64 q.2]) false).run Try.prog W = .ok (ptV (if q ∈ K then some (L q) else none)) W := by
  have hm := h.map
  cases mb with
  | none =>
    have hK : K = [] := hm
    subst hK
    exact Maps.look_nil (P := Try.prog) false keyed35 Try.underlying55 (zeroPt W) (key_id hq)
  | some b =>
    have := hm.2.at (z := none) Try.underlying55 (zeroPt W) hq
    refine this.trans ?_
    unfold mapOf
    by_cases hk : q ∈ K
    · rw [if_pos hk, if_pos hk]
      rfl
    · rw [if_neg hk, if_neg hk]
      rfl
theorem dbox_type {T T' : TypeId} {W : World} {l : Nat} {d : Dt} {v : Value} {cs : Array Value} (h : DBox T W l d v) (k : W.heap[l]? = some (.cells cs T' (0, 0))) : T' = T := by
  unfold DBox at h
  rw [h] at k
  injection k with k
  injection k with _ k2
  exact k2.symm
/-- Other detectors where they don't matter. -/
theorem Inn.congr {D' : Id2 → Dt} (h : Inn S W p f mb n e K D L) (hD : ∀ q ∈ K, D' q = D q) : Inn S W p f mb n e K D' L := ⟨h.box, h.inp, h.fresh, h.map, fun q hq => by rw [hD q hq]; exact h.dets q hq, h.inj, h.far, h.in2, h.lt⟩
theorem Wat.congr {D' : Id2 → Dt} (h : Wat S W p n e K D) (hD : ∀ q ∈ K, D' q = D q) : Wat S W p n e K D' := by
  obtain ⟨f, mb, L, h⟩ := h
  exact ⟨f, mb, L, h.congr hD⟩
/-- Something was done to one of its detectors. -/
theorem Inn.done {q : Id2} {d' : Dt} {v : Value} {en : Ending} (h : Inn S W p f mb n e K D L) (hq : q ∈ K) (hS : ∀ g, v.ownBlock = some g → S g) (hd : Done 81 0 (L q) d' v W en W') (ok : d'.Ok) :
    ∃ S', Inn S' W' p f mb n e K (fun r => if r = q then d' else D r) L ∧ Upd S W W' S' := by
  obtain ⟨rfl, v', h1, h2, h3⟩ := hd
  obtain ⟨_, hbx, hSl, _⟩ := h.dets q hq
  have hF : Fr (fun k => k = L q) W W' := .of_grown h2 (fun g e => by injection e with e; exact e.symm)
  have hty : ∀ g cs, g = L q → W.heap[g]? ≠ some (.cells cs 3 (0, 0)) := fun g cs e k => by subst e; exact absurd (dbox_type hbx.box k) (by decide)
  have hS' : ∀ k, S k → S k ∨ (W.heap.size ≤ k ∧ k < W'.heap.size) := fun k h => .inl h
  refine ⟨fun k => S k ∨ (W.heap.size ≤ k ∧ k < W'.heap.size), ⟨?_, .inl h.inp, ?_, ?_, ?_, h.inj, h.far, h.in2, ?_⟩, ⟨fun k hk => hk.imp id fun x => x.1, hF.mono fun k e => e ▸ hSl⟩⟩
  · exact (hF.same _ (h.lt _ h.inp) (fun e => absurd (dbox_type hbx.box (by rw [← e]; exact h.box)) (by decide))).trans h.box
  · exact (h.fresh.other hF (fun e => h.far q hq e.symm) hty).mono hS'
  · have := h.map
    cases mb with
    | none => exact this
    | some b =>
      refine ⟨.inl this.1, this.2.same (hF.same b this.2.lt fun e => ?_)⟩
      have hx := hbx.box
      unfold DBox at hx
      rw [← e] at hx
      exact this.2.cells_not _ _ _ hx
  · intro r hr
    by_cases e : r = q
    · subst e
      rw [if_pos rfl]
      refine ⟨v', h1, .inl hSl, fun g hg => ?_, ok⟩
      rcases h3 g hg with e | e
      · exact .inl (hS g e)
      · refine .inr ⟨e, ?_⟩
        obtain ⟨cs, hc⟩ := gaps_type h1.gaps hg
        exact row_lt hc
    · rw [if_neg e]
      exact ((h.dets r hr).other hF (fun x => e (h.inj r hr q hq x)) hty).mono hS'
  · rintro k (hk | hk)
    · exact Nat.lt_of_lt_of_le (h.lt k hk) h2.size
    · exact hk.2
theorem Dt.newOk {mn mx wi : Int} (h : newOk mn mx wi = true) : (Dt.new mn mx wi).Ok := Dt.new_ok h
theorem wnew_yes (mn mx wi : Int) (h : newOk mn mx wi = true) (w : World) : Calls Try.prog 10 #[.int .i64 mn, .int .i64 mx, .int .i64 wi] w fun en w' => ∃ p S, en = .returned (.tuple #[.pointer (some ⟨p, 0, none⟩), .int .i64 0]) ∧ Wat S w' p 0 (Dt.new mn mx wi) [] (fun _ => Dt.new mn mx wi) ∧ (∀ k, S k → w.heap.size ≤ k) ∧ Below w.heap.size w w' := by
  have HO := Lib.hid (Dt.new_ok h)
  go_enter Try.func10, Try.ntmps10
  go_wp2_with fail
  (with_reducible refine (new_yes mn mx wi h _).mono ?_)
  rintro en w1 ⟨l, v, rfl, h1, h2⟩
  have H1 := Lib.hid h1
  have B1 := Lib.hid h2
  clear h1 h2
  go_wp2_with fail
  have X := Lib.hid (heap_alloc_new w1 (.cells #[.pointer (some ⟨l, 0, none⟩), .map none] 57))
  have B2 := Lib.hid (below_oneX w1 (.cells #[.pointer (some ⟨l, 0, none⟩), .map none] 57))
  have hs : (w1.alloc (.cells #[.pointer (some ⟨l, 0, none⟩), .map none] 57)).heap.size = w1.heap.size + 1 := by simp
  generalize w1.alloc (.cells #[.pointer (some ⟨l, 0, none⟩), .map none] 57) = w2 at *
  go_ret2
  have H2 := H1.out.below B2.out
  refine ⟨w1.heap.size, fun k => w.heap.size ≤ k ∧ k < w2.heap.size, rfl, ⟨l, none, fun _ => 0, ⟨X.out, ⟨B1.out.size, by omega⟩, ⟨v, H2.mono (Nat.zero_le _), ⟨H1.out.lo, H2.lt⟩, fun g hg => ⟨?_, ?_⟩, HO.out⟩, rfl, fun q hq => (by cases hq), fun q hq => (by cases hq), fun q hq => (by cases hq), fun q hq => (by cases hq), fun k hk => hk.2⟩⟩, fun k hk => hk.1, below_after B1.out B2.out (Nat.le_refl _)⟩
  · exact (World.ownsRow.lt H1.out.gaps g hg).1
  · obtain ⟨cs, hc⟩ := gaps_type H2.gaps hg
    exact row_lt hc
theorem wnew_no (mn mx wi : Int) (h : newOk mn mx wi = false) (w : World) : Calls Try.prog 10 #[.int .i64 mn, .int .i64 mx, .int .i64 wi] w fun en w' => en = .returned (.tuple #[.pointer none, .int .i64 1]) ∧ Below w.heap.size w w' := by
  go_enter Try.func10, Try.ntmps10
  go_wp2_with fail
  (with_reducible refine (new_no mn mx wi h _).mono ?_)
  rintro en w1 ⟨rfl, h2⟩
  have B1 := Lib.hid h2
  clear h2
  go_wp2_with fail
  go_ret2
  exact ⟨rfl, B1.out⟩
/-- Somebody is heard. -/
def heardD (D : Id2 → Dt) (q : Id2) (x : Int) : Id2 → Dt := fun r => if r = q then (D q).heard x else D r
set_option maxHeartbeats 1000000 in
theorem wheard_any (h : Wat S W p n e K D) (a i x : Int) (hq : In2 (a, i)) : Calls Try.prog 14 #[.pointer (some ⟨p, 0, none⟩), .agg #[.int .i64 a, .int .i64 i], .int .i64 x] W fun en W' => en = .returned (.bool (hasB (a, i) K)) ∧ ∃ S', Wat S' W' p n e K (heardD D (a, i) x) ∧ Upd S W W' S' := by
  obtain ⟨f, mb, L, h⟩ := h
  have H := Lib.hid h
  have B1 := Lib.hid (below_one W (.cells #[.int .i64 a, .int .i64 i] 35))
  have X1 := Lib.hid (box_new W a i)
  have H1 := Lib.hid (h.keep B1.out)
  have HQ := Lib.hid hq
  clear h hq
  go_enter Try.func14, Try.ntmps14
  go_wp2_with fail
  generalize W.alloc (.cells #[.int .i64 a, .int .i64 i] 35) = w1 at *
  have HS : Hid (∀ w', Below w1.heap.size w1 w' → (w'.cell? ⟨W.heap.size, 0, none⟩ = some (.int .i64 a) ∧ w'.cell? ⟨W.heap.size, 1, none⟩ = some (.int .i64 i) ∧ w'.cell? ⟨p, 1, none⟩ = some (.map mb) ∧ (Instr.lookup 55 (.map mb) (.agg #[.int .i64 a, .int .i64 i]) true).run Try.prog w' = .ok (.tuple #[ptV (if (a, i) ∈ K then some (L (a, i)) else none), .bool (hasB (a, i) K)]) w' ∧ Hid (Below w1.heap.size w1 w'))) := Lib.hid fun w' hb => by
    have h1 := H1.out.keep hb
    obtain ⟨c0, c1⟩ := box_cells (box_below X1.out hb)
    exact ⟨c0, c1, h1.cells.2, h1.look HQ.out, Lib.hid hb⟩
  by_cases hk : (a, i) ∈ K
  · rw [if_pos hk, hasB_in hk] at HS
    have HK := Lib.hid hk
    have HE := Lib.hid (hasB_in hk)
    clear hk
    simp only [ptV, Option.map_some] at HS
    refine wp_region_held_drew (S := fun w' => w'.cell? ⟨W.heap.size, 0, none⟩ = some (.int .i64 a) ∧ w'.cell? ⟨W.heap.size, 1, none⟩ = some (.int .i64 i) ∧ w'.cell? ⟨p, 1, none⟩ = some (.map mb) ∧ (Instr.lookup 55 (.map mb) (.agg #[.int .i64 a, .int .i64 i]) true).run Try.prog w' = .ok (.tuple #[.pointer (some ⟨L (a, i), 0, none⟩), .bool (true)]) w' ∧ Hid (Below w1.heap.size w1 w')) (by kernel_rfl) ?_ (fun hHeld => ?_)
    · exact HS.out _ (below_drewN (n := 1) (Below.refl _ _))
    (refine wpAnyH_take (i := 0) (oi := ⟨_, _, _, _, _, _⟩) (v := ?_) rfl (by kernel_rfl) (by kernel_rfl) (by kernel_rfl) (fun _ _ _ h => h) (Or.inl ⟨by rfl, ?_⟩) (by assumption) ?_; rotate_left 1; · (intro w hSw; (try dsimp only at hSw); go_simp; all_goals with_reducible rfl))
    try simp only [Act.put, List.setIfInBounds_toArray, List.set_cons_zero, List.set_cons_succ]
    (refine wpAnyH_take (i := 1) (oi := ⟨_, _, _, _, _, _⟩) (v := ?_) rfl (by kernel_rfl) (by kernel_rfl) (by kernel_rfl) (fun _ _ _ h => h) (Or.inl ⟨by rfl, ?_⟩) (by assumption) ?_; rotate_left 1; · (intro w hSw; (try dsimp only at hSw); go_simp; all_goals with_reducible rfl))
    try simp only [Act.put, List.setIfInBounds_toArray, List.set_cons_zero, List.set_cons_succ]
    (refine wpAnyH_take (i := 2) (oi := ⟨_, _, _, _, _, _⟩) (v := ?_) rfl (by kernel_rfl) (by kernel_rfl) (by kernel_rfl) (fun _ _ _ h => h) (Or.inl ⟨by rfl, ?_⟩) (by assumption) ?_; rotate_left 1; · (intro w hSw; (try dsimp only at hSw); go_simp; all_goals with_reducible rfl))
    try simp only [Act.put, List.setIfInBounds_toArray, List.set_cons_zero, List.set_cons_succ]
    (refine wpAnyH_take (i := 3) (oi := ⟨_, _, _, _, _, _⟩) (v := ?_) rfl (by kernel_rfl) (by kernel_rfl) (by kernel_rfl) (fun _ _ _ h => h) (Or.inl ⟨by rfl, ?_⟩) (by assumption) ?_; rotate_left 1; · (intro w hSw; (try dsimp only at hSw); go_simp; all_goals with_reducible rfl))
    try simp only [Act.put, List.setIfInBounds_toArray, List.set_cons_zero, List.set_cons_succ]
    (refine wpAnyH_take (i := 4) (oi := ⟨_, _, _, _, _, _⟩) (v := ?_) rfl (by kernel_rfl) (by kernel_rfl) (by kernel_rfl) (fun _ _ _ h => h) (Or.inl ⟨by rfl, ?_⟩) (by assumption) ?_; rotate_left 1; · (intro w hSw; (try dsimp only at hSw); go_simp; all_goals with_reducible rfl))
    try simp only [Act.put, List.setIfInBounds_toArray, List.set_cons_zero, List.set_cons_succ]
    (refine wpAnyH_take (i := 5) (oi := ⟨_, _, _, _, _, _⟩) (v := ?_) rfl (by kernel_rfl) (by kernel_rfl) (by kernel_rfl) (fun _ _ _ h => h) (Or.inl ⟨by rfl, ?_⟩) (by assumption) ?_; rotate_left 1; · (intro w hSw; (try dsimp only at hSw); go_simp; all_goals with_reducible rfl))
    try simp only [Act.put, List.setIfInBounds_toArray, List.set_cons_zero, List.set_cons_succ]
    (refine wpAnyH_take (i := 6) (oi := ⟨_, _, _, _, _, _⟩) (v := ?_) rfl (by kernel_rfl) (by kernel_rfl) (by kernel_rfl) (fun _ _ _ h => h) (Or.inl ⟨by rfl, ?_⟩) (by assumption) ?_; rotate_left 1; · (intro w hSw; (try dsimp only at hSw); go_simp; all_goals with_reducible rfl))
    try simp only [Act.put, List.setIfInBounds_toArray, List.set_cons_zero, List.set_cons_succ]
    (refine wpAnyH_take (i := 7) (oi := ⟨_, _, _, _, _, _⟩) (v := ?_) rfl (by kernel_rfl) (by kernel_rfl) (by kernel_rfl) (fun _ _ _ h => h) (Or.inl ⟨by rfl, ?_⟩) (by assumption) ?_; rotate_left 1; · (intro w hSw; (try dsimp only at hSw); go_simp; all_goals with_reducible rfl))
    try simp only [Act.put, List.setIfInBounds_toArray, List.set_cons_zero, List.set_cons_succ]
    (refine wpAnyH_take (i := 8) (oi := ⟨_, _, _, _, _, _⟩) (v := ?_) rfl (by kernel_rfl) (by kernel_rfl) (by kernel_rfl) (fun _ _ _ h => h) (Or.inl ⟨by rfl, ?_⟩) (by assumption) ?_; rotate_left 1; · (intro w hSw; (try dsimp only at hSw); go_simp; all_goals with_reducible rfl))
    try simp only [Act.put, List.setIfInBounds_toArray, List.set_cons_zero, List.set_cons_succ]
    (refine wpAnyH_take (i := 9) (oi := ⟨_, _, _, _, _, _⟩) (v := ?_) rfl (by kernel_rfl) (by kernel_rfl) (by kernel_rfl) (fun _ _ _ h => h) (Or.inl ⟨by rfl, ?_⟩) (by assumption) ?_; rotate_left 1; · (intro w hSw; (try dsimp only at hSw); go_simp; all_goals with_reducible rfl))
    try simp only [Act.put, List.setIfInBounds_toArray, List.set_cons_zero, List.set_cons_succ]
    (refine wpAnyH_take (i := 10) (oi := ⟨_, _, _, _, _, _⟩) (v := ?_) rfl (by kernel_rfl) (by kernel_rfl) (by kernel_rfl) (fun _ _ _ h => h) (Or.inl ⟨by rfl, ?_⟩) (by assumption) ?_; rotate_left 1; · (intro w hSw; (try dsimp only at hSw); go_simp; all_goals with_reducible rfl))
    try simp only [Act.put, List.setIfInBounds_toArray, List.set_cons_zero, List.set_cons_succ]
    refine wpAnyH_done (by kernel_rfl) ?_ _
    obtain ⟨c0, c1, c2, c3, HB⟩ := hHeld
    have H3 := Lib.hid (H1.out.keep HB.out)
    clear c0 c1 c2 c3 HS H1 X1
    obtain ⟨v, hv, hS1, hS2, hok⟩ := H3.out.dets _ HK.out
    have HV := Lib.hid hv
    have HS3 := Lib.hid hS2
    have HO := Lib.hid hok
    clear hv hS1 hS2 hok
    go_wp2_with fail
    (with_reducible refine (heard_any 0 (L (a, i)) (D (a, i)) v x _ HV.out HO.out (Nat.zero_le _)).mono ?_)
    intro en w5 hd
    have hen := hd.1
    subst hen
    obtain ⟨S', k1, k2⟩ := H3.out.done HK.out HS3.out hd (Dt.heard_ok HO.out x)
    have K1 := Lib.hid k1
    have K2 := Lib.hid ((Upd.keep (S := S) (below_after B1.out HB.out (Nat.le_refl _))).trans k2)
    clear k1 k2 hd
    go_wp2_with fail
    go_ret
    exact ⟨ret_bool HE.out.symm, S', ⟨f, mb, L, K1.out⟩, K2.out⟩
  · rw [if_neg hk, hasB_not hk] at HS
    have HK := Lib.hid hk
    have HE := Lib.hid (hasB_not hk)
    clear hk
    simp only [ptV, Option.map_none] at HS
    refine wp_region_held_drew (S := fun w' => w'.cell? ⟨W.heap.size, 0, none⟩ = some (.int .i64 a) ∧ w'.cell? ⟨W.heap.size, 1, none⟩ = some (.int .i64 i) ∧ w'.cell? ⟨p, 1, none⟩ = some (.map mb) ∧ (Instr.lookup 55 (.map mb) (.agg #[.int .i64 a, .int .i64 i]) true).run Try.prog w' = .ok (.tuple #[.pointer none, .bool (false)]) w' ∧ Hid (Below w1.heap.size w1 w')) (by kernel_rfl) ?_ (fun hHeld => ?_)
    · exact HS.out _ (below_drewN (n := 1) (Below.refl _ _))
    (refine wpAnyH_take (i := 0) (oi := ⟨_, _, _, _, _, _⟩) (v := ?_) rfl (by kernel_rfl) (by kernel_rfl) (by kernel_rfl) (fun _ _ _ h => h) (Or.inl ⟨by rfl, ?_⟩) (by assumption) ?_; rotate_left 1; · (intro w hSw; (try dsimp only at hSw); go_simp; all_goals with_reducible rfl))
    try simp only [Act.put, List.setIfInBounds_toArray, List.set_cons_zero, List.set_cons_succ]
    (refine wpAnyH_take (i := 1) (oi := ⟨_, _, _, _, _, _⟩) (v := ?_) rfl (by kernel_rfl) (by kernel_rfl) (by kernel_rfl) (fun _ _ _ h => h) (Or.inl ⟨by rfl, ?_⟩) (by assumption) ?_; rotate_left 1; · (intro w hSw; (try dsimp only at hSw); go_simp; all_goals with_reducible rfl))
    try simp only [Act.put, List.setIfInBounds_toArray, List.set_cons_zero, List.set_cons_succ]
    (refine wpAnyH_take (i := 2) (oi := ⟨_, _, _, _, _, _⟩) (v := ?_) rfl (by kernel_rfl) (by kernel_rfl) (by kernel_rfl) (fun _ _ _ h => h) (Or.inl ⟨by rfl, ?_⟩) (by assumption) ?_; rotate_left 1; · (intro w hSw; (try dsimp only at hSw); go_simp; all_goals with_reducible rfl))
    try simp only [Act.put, List.setIfInBounds_toArray, List.set_cons_zero, List.set_cons_succ]
    (refine wpAnyH_take (i := 3) (oi := ⟨_, _, _, _, _, _⟩) (v := ?_) rfl (by kernel_rfl) (by kernel_rfl) (by kernel_rfl) (fun _ _ _ h => h) (Or.inl ⟨by rfl, ?_⟩) (by assumption) ?_; rotate_left 1; · (intro w hSw; (try dsimp only at hSw); go_simp; all_goals with_reducible rfl))
    try simp only [Act.put, List.setIfInBounds_toArray, List.set_cons_zero, List.set_cons_succ]
    (refine wpAnyH_take (i := 4) (oi := ⟨_, _, _, _, _, _⟩) (v := ?_) rfl (by kernel_rfl) (by kernel_rfl) (by kernel_rfl) (fun _ _ _ h => h) (Or.inl ⟨by rfl, ?_⟩) (by assumption) ?_; rotate_left 1; · (intro w hSw; (try dsimp only at hSw); go_simp; all_goals with_reducible rfl))
    try simp only [Act.put, List.setIfInBounds_toArray, List.set_cons_zero, List.set_cons_succ]
    (refine wpAnyH_take (i := 5) (oi := ⟨_, _, _, _, _, _⟩) (v := ?_) rfl (by kernel_rfl) (by kernel_rfl) (by kernel_rfl) (fun _ _ _ h => h) (Or.inl ⟨by rfl, ?_⟩) (by assumption) ?_; rotate_left 1; · (intro w hSw; (try dsimp only at hSw); go_simp; all_goals with_reducible rfl))
    try simp only [Act.put, List.setIfInBounds_toArray, List.set_cons_zero, List.set_cons_succ]
    (refine wpAnyH_take (i := 6) (oi := ⟨_, _, _, _, _, _⟩) (v := ?_) rfl (by kernel_rfl) (by kernel_rfl) (by kernel_rfl) (fun _ _ _ h => h) (Or.inl ⟨by rfl, ?_⟩) (by assumption) ?_; rotate_left 1; · (intro w hSw; (try dsimp only at hSw); go_simp; all_goals with_reducible rfl))
    try simp only [Act.put, List.setIfInBounds_toArray, List.set_cons_zero, List.set_cons_succ]
    (refine wpAnyH_take (i := 7) (oi := ⟨_, _, _, _, _, _⟩) (v := ?_) rfl (by kernel_rfl) (by kernel_rfl) (by kernel_rfl) (fun _ _ _ h => h) (Or.inl ⟨by rfl, ?_⟩) (by assumption) ?_; rotate_left 1; · (intro w hSw; (try dsimp only at hSw); go_simp; all_goals with_reducible rfl))
    try simp only [Act.put, List.setIfInBounds_toArray, List.set_cons_zero, List.set_cons_succ]
    (refine wpAnyH_take (i := 8) (oi := ⟨_, _, _, _, _, _⟩) (v := ?_) rfl (by kernel_rfl) (by kernel_rfl) (by kernel_rfl) (fun _ _ _ h => h) (Or.inl ⟨by rfl, ?_⟩) (by assumption) ?_; rotate_left 1; · (intro w hSw; (try dsimp only at hSw); go_simp; all_goals with_reducible rfl))
    try simp only [Act.put, List.setIfInBounds_toArray, List.set_cons_zero, List.set_cons_succ]
    (refine wpAnyH_take (i := 9) (oi := ⟨_, _, _, _, _, _⟩) (v := ?_) rfl (by kernel_rfl) (by kernel_rfl) (by kernel_rfl) (fun _ _ _ h => h) (Or.inl ⟨by rfl, ?_⟩) (by assumption) ?_; rotate_left 1; · (intro w hSw; (try dsimp only at hSw); go_simp; all_goals with_reducible rfl))
    try simp only [Act.put, List.setIfInBounds_toArray, List.set_cons_zero, List.set_cons_succ]
    (refine wpAnyH_take (i := 10) (oi := ⟨_, _, _, _, _, _⟩) (v := ?_) rfl (by kernel_rfl) (by kernel_rfl) (by kernel_rfl) (fun _ _ _ h => h) (Or.inl ⟨by rfl, ?_⟩) (by assumption) ?_; rotate_left 1; · (intro w hSw; (try dsimp only at hSw); go_simp; all_goals with_reducible rfl))
    try simp only [Act.put, List.setIfInBounds_toArray, List.set_cons_zero, List.set_cons_succ]
    refine wpAnyH_done (by kernel_rfl) ?_ _
    obtain ⟨c0, c1, c2, c3, HB⟩ := hHeld
    have H3 := Lib.hid (H1.out.keep HB.out)
    clear c0 c1 c2 c3 HS H1 X1
    go_wp2_with fail
    go_ret
    refine ⟨ret_bool HE.out.symm, S, ⟨f, mb, L, H3.out.congr fun q hq => ?_⟩, .keep (below_after B1.out HB.out (Nat.le_refl _))⟩
    unfold heardD
    rw [if_neg]
    rintro rfl
    exact HK.out hq
end Go.Proofs.Ytkoeplgkiogjlaa
namespace Go.Proofs.Ytkoeplgkiogjlaa
open Go Go.RowKit Sets Go.Maps Go.ChangeMaps Go.MapKept
variable {S S2 : Nat → Prop} {W W' : World} {p f n : Nat} {mb : Option Nat} {e : Dt} {K : List Id2} {D : Id2 → Dt} {L : Id2 → Nat}
/-- Who of a list is late. -/
def lateL (D : Id2 → Dt) (x : Int) (l : List Id2) : List Id2 := l.filter fun q => (D q).late x
theorem lateL_take {D : Id2 → Dt} {x : Int} {l : List Id2} {k : Nat} (h : k < l.length) : lateL D x (l.take (k + 1)) = lateL D x (l.take k) ++ if (D l[k]).late x = true then [(l[k].1, l[k].2)] else [] := by
  unfold lateL
  rw [List.take_succ_eq_append_getElem h, List.filter_append]
  congr 1
  rcases hb : (D l[k]).late x <;> simp [hb]
theorem lateL_len (D : Id2 → Dt) (x : Int) (l : List Id2) (k : Nat) : (lateL D x (l.take k)).length ≤ l.length := by
  unfold lateL
  have h1 := List.length_filter_le (fun q => (D q).late x) (l.take k)
  have h2 : (l.take k).length ≤ l.length := by simp; omega
  omega
set_option maxHeartbeats 1000000 in
theorem wlate_any (h : Inn S W p f mb n e K D L) (v : Value) (l : List Id2) (x : Int) (hv : Ids W v l) (hl : l.length ≤ 40000) (hin : ∀ q ∈ l, q ∈ K) :
    Calls Try.prog 36 #[.pointer (some ⟨p, 0, none⟩), v, .int .i64 x] W (News (lateL D x l) W) := by
  have H := Lib.hid h
  have HI := Lib.hid hv
  have HN := Lib.hid hin
  obtain ⟨A, c, rfl, hz⟩ := id hv
  clear hz hv h hin
  go_enter Try.func36, Try.ntmps36
  go_wp2_with fail
  go_loopw [7, 12] (fun s7 s12 wr => ∃ k : Nat, k ≤ l.length ∧ s12 = .int .i64 k ∧ Hid (Owns wr W.heap.size s7 (lateL D x (l.take k))) ∧ Hid (Below W.heap.size W wr)) (fun _ s12 _ => l.length - (intOf s12).toNat)
  case atStart => exact ⟨0, by omega, rfl, Lib.hid (owns_nil _ _), Lib.hid (Below.refl _ _)⟩
  case round =>
    obtain ⟨k, hkl, rfl, HT, HW⟩ := hrel
    have i3 : (0 : Int) ≤ (k : Int) := by omega
    by_cases hlt : k < l.length
    · have hd : decide ((k : Int) < (l.length : Int)) = true := by simp; omega
      have i4 : (k : Int) < (l.length : Int) := by omega
      obtain ⟨ad, rfl, c1, c2⟩ := HI.out.at_ HW.out hlt
      have HZ := Lib.hid (lateL_len D x l k)
      have ES := Lib.hid (lateL_take (D := D) (x := x) hlt)
      have HK := Lib.hid (HN.out _ (List.getElem_mem hlt))
      generalize l[k] = q at *
      obtain ⟨a, i⟩ := q
      have HQ := Lib.hid (H.out.in2 _ HK.out)
      obtain ⟨dv, hdv, hS1, hS2, hok⟩ := H.out.dets _ HK.out
      have HV := Lib.hid hdv
      have HO := Lib.hid hok
      clear hdv hS1 hS2 hok
      have B1 := Lib.hid (HW.out.trans ((below_one wr (.cells #[.int .i64 a, .int .i64 i] 35)).mono HW.out.size))
      have X1 := Lib.hid (box_new wr a i)
      have T1 := Lib.hid (HT.out.below (below_one wr (.cells #[.int .i64 a, .int .i64 i] 35)))
      go_upto_region 5 with fail
      clear c1 c2
      generalize wr.alloc (.cells #[.int .i64 a, .int .i64 i] 35) = w1 at *
      generalize wr.heap.size = gb at *
      have HS : Hid (∀ w', Below w1.heap.size w1 w' → (w'.cell? ⟨gb, 0, none⟩ = some (.int .i64 a) ∧ w'.cell? ⟨gb, 1, none⟩ = some (.int .i64 i) ∧ w'.cell? ⟨p, 1, none⟩ = some (.map mb) ∧ (Instr.lookup 55 (.map mb) (.agg #[.int .i64 a, .int .i64 i]) false).run Try.prog w' = .ok (.pointer (some ⟨L (a, i), 0, none⟩)) w' ∧ Hid (Below w1.heap.size w1 w'))) := Lib.hid fun w' hb => by
        have h1 := H.out.keep (below_after B1.out hb (Nat.le_refl _))
        obtain ⟨c0, c1⟩ := box_cells (box_below X1.out hb)
        have h2 := h1.at HQ.out
        rw [if_pos HK.out] at h2
        exact ⟨c0, c1, h1.cells.2, h2, Lib.hid hb⟩
      refine wp_region_held_drew (S := fun w' => w'.cell? ⟨gb, 0, none⟩ = some (.int .i64 a) ∧ w'.cell? ⟨gb, 1, none⟩ = some (.int .i64 i) ∧ w'.cell? ⟨p, 1, none⟩ = some (.map mb) ∧ (Instr.lookup 55 (.map mb) (.agg #[.int .i64 a, .int .i64 i]) false).run Try.prog w' = .ok (.pointer (some ⟨L (a, i), 0, none⟩)) w' ∧ Hid (Below w1.heap.size w1 w')) (by kernel_rfl) ?_ (fun hHeld => ?_)
      · exact HS.out _ (below_drewN (n := 1) (Below.refl _ _))
      (refine wpAnyH_take (i := 0) (oi := ⟨_, _, _, _, _, _⟩) (v := ?_) rfl (by kernel_rfl) (by kernel_rfl) (by kernel_rfl) (fun _ _ _ h => h) (Or.inl ⟨by rfl, ?_⟩) (by assumption) ?_; rotate_left 1; · (intro w hSw; (try dsimp only at hSw); go_simp; all_goals with_reducible rfl))
      try simp only [Act.put, List.setIfInBounds_toArray, List.set_cons_zero, List.set_cons_succ]
      (refine wpAnyH_take (i := 1) (oi := ⟨_, _, _, _, _, _⟩) (v := ?_) rfl (by kernel_rfl) (by kernel_rfl) (by kernel_rfl) (fun _ _ _ h => h) (Or.inl ⟨by rfl, ?_⟩) (by assumption) ?_; rotate_left 1; · (intro w hSw; (try dsimp only at hSw); go_simp; all_goals with_reducible rfl))
      try simp only [Act.put, List.setIfInBounds_toArray, List.set_cons_zero, List.set_cons_succ]
      (refine wpAnyH_take (i := 2) (oi := ⟨_, _, _, _, _, _⟩) (v := ?_) rfl (by kernel_rfl) (by kernel_rfl) (by kernel_rfl) (fun _ _ _ h => h) (Or.inl ⟨by rfl, ?_⟩) (by assumption) ?_; rotate_left 1; · (intro w hSw; (try dsimp only at hSw); go_simp; all_goals with_reducible rfl))
      try simp only [Act.put, List.setIfInBounds_toArray, List.set_cons_zero, List.set_cons_succ]
      (refine wpAnyH_take (i := 3) (oi := ⟨_, _, _, _, _, _⟩) (v := ?_) rfl (by kernel_rfl) (by kernel_rfl) (by kernel_rfl) (fun _ _ _ h => h) (Or.inl ⟨by rfl, ?_⟩) (by assumption) ?_; rotate_left 1; · (intro w hSw; (try dsimp only at hSw); go_simp; all_goals with_reducible rfl))
      try simp only [Act.put, List.setIfInBounds_toArray, List.set_cons_zero, List.set_cons_succ]
      (refine wpAnyH_take (i := 4) (oi := ⟨_, _, _, _, _, _⟩) (v := ?_) rfl (by kernel_rfl) (by kernel_rfl) (by kernel_rfl) (fun _ _ _ h => h) (Or.inl ⟨by rfl, ?_⟩) (by assumption) ?_; rotate_left 1; · (intro w hSw; (try dsimp only at hSw); go_simp; all_goals with_reducible rfl))
      try simp only [Act.put, List.setIfInBounds_toArray, List.set_cons_zero, List.set_cons_succ]
      (refine wpAnyH_take (i := 5) (oi := ⟨_, _, _, _, _, _⟩) (v := ?_) rfl (by kernel_rfl) (by kernel_rfl) (by kernel_rfl) (fun _ _ _ h => h) (Or.inl ⟨by rfl, ?_⟩) (by assumption) ?_; rotate_left 1; · (intro w hSw; (try dsimp only at hSw); go_simp; all_goals with_reducible rfl))
      try simp only [Act.put, List.setIfInBounds_toArray, List.set_cons_zero, List.set_cons_succ]
      (refine wpAnyH_take (i := 6) (oi := ⟨_, _, _, _, _, _⟩) (v := ?_) rfl (by kernel_rfl) (by kernel_rfl) (by kernel_rfl) (fun _ _ _ h => h) (Or.inl ⟨by rfl, ?_⟩) (by assumption) ?_; rotate_left 1; · (intro w hSw; (try dsimp only at hSw); go_simp; all_goals with_reducible rfl))
      try simp only [Act.put, List.setIfInBounds_toArray, List.set_cons_zero, List.set_cons_succ]
      refine wpAnyH_ready (rs := [7]) (by kernel_rfl) (by simp) ?_
      refine AllReadyH.cons (o := ⟨_, _, _, _, _, _⟩) rfl (fun Kq hKq => ?_) AllReadyH.nil
      go_simp
      clear hHeld
      (go_at_call 54; (with_reducible refine (late_any 0 (L (a, i)) (D (a, i)) dv x _ (HV.out.below (below_after B1.out (Below.refl w1.heap.size w1).drew (Nat.le_refl _))) HO.out).mono ?_); rintro en w7 ⟨rfl, hb⟩; have HKB := Lib.hid ((Below.refl w1.heap.size w1).drew.trans hb); clear hb)
      refine hKq.out _ _ ?_ (fun hHeld => ?_)
      · (try dsimp only); exact HS.out _ HKB.out
      clear hKq Kq
      try simp only [Act.put, List.setIfInBounds_toArray, List.set_cons_zero, List.set_cons_succ]
      refine wpAnyH_done (by kernel_rfl) ?_ _
      obtain ⟨c0, c1, c2, c3, HB⟩ := hHeld
      have T2 := Lib.hid (T1.out.below HB.out)
      have B2 := Lib.hid (below_after B1.out HB.out (Nat.le_refl _))
      clear c2 c3 HS X1 T1 HT B1 HW
      generalize hq : (D (a, i)).late x = z at *
      have HZ2 := Lib.hid hq
      clear hq
      cases z with
      | true =>
        go_wp2_with (first | (at_builtin; refine wpList_append_one rfl (.tmp 24) (.tmp 26) rfl _ W.heap.size u7 _ a i rfl rfl T2.out (by have := HZ.out; omega) B2.out.size ?_; intro v8 w8 h8 h9; have O8 := Lib.hid h8; have B8 := Lib.hid (B2.out.trans (h9.mono (Nat.le_refl _))); clear h8 h9) | fail)
        go_roundw
        case rel => exact ⟨k + 1, by omega, by go_num, Lib.hid (by rw [ES.out, if_pos rfl]; exact O8.out), B8⟩
        case measure => simp [intOf]; omega
      | false =>
        go_wp2_with fail
        go_roundw
        case rel => exact ⟨k + 1, by omega, by go_num, Lib.hid (by rw [ES.out, if_neg (by simp), List.append_nil]; exact T2.out), B2⟩
        case measure => simp [intOf]; omega
    · obtain rfl : k = l.length := by omega
      have hd : decide ((l.length : Int) < (l.length : Int)) = false := by simp
      have HE : Hid (Owns wr W.heap.size u7 (lateL D x l)) := Lib.hid (by have := HT.out; rwa [List.take_length] at this)
      go_wp2_with fail
      go_ret
      exact ⟨_, rfl, HE.out, HW.out⟩
end Go.Proofs.Ytkoeplgkiogjlaa
namespace Go.Proofs.Ytkoeplgkiogjlaa
open Go Go.RowKit Sets Go.Maps Go.ChangeMaps Go.MapKept
variable {S S2 : Nat → Prop} {W W' : World} {p f n : Nat} {mb : Option Nat} {e : Dt} {K : List Id2} {D : Id2 → Dt} {L : Id2 → Nat}
theorem step_drops {V : Type} {E : El V} {b n r cnt : Nat} {M : Int × Int → Option V} {left : Int × Int → Bool} {T e : TypeId} {ops : Array Oper} {o : Oper} {a : Act} {K : Act → World → Prop} {Q : Exit → Act → World → Prop} {F : Prop} (hgd : o.guard = none) (m x : Operand)
    (hop : o.op = Op.call { callee := Callee.builtin Builtin.delete, args := #[m, x], argTypes := #[T, 35] }) (ht : Try.prog.underlying T = some (.map 35 e)) (w : World) (h : RngI E w b r n M left cnt) {p : Int × Int} (hp : In2 p) (hm : a.eval m = .map (some b)) (hx : a.eval x = idv p)
    (hK : ∀ w' c, RngI E w' b r n (putI M p none) (offI left p) c → c ≤ cnt → w.mapTurned w' b → K (a.put o.dst (.tuple #[])) w') :
    if Region.wanted o (yielded ops a.tmps) = true then Oper.wp Try.prog o a w K Q else F := by
  have hw : Region.wanted o (yielded ops a.tmps) = true := by simp [Region.wanted, hgd]
  rw [if_pos hw]
  obtain ⟨w', c, hrun, r1, r2, r3⟩ := h.drop ht hp o.type
  unfold Oper.wp execOp
  simp only [hop, resolve, invoke, builtin, Sem.run_bind, Sem.run_pure, Result.andThen_ok, List.map_toArray, List.map_cons, List.map_nil, hm, hx, hrun]
  exact hK w' c r1 r2 r3
theorem step_puts {V : Type} {E : El V} {b n : Nat} {M : Int × Int → Option V} {T e : TypeId} {ops : Array Oper} {o : Oper} {a : Act} {K : Act → World → Prop} {Q : Exit → Act → World → Prop} {F : Prop} (hgd : o.guard = none) (m x v : Operand) (hop : o.op = Op.mapUpdate T m x v)
    (ht : Try.prog.underlying T = some (.map 35 e)) (w : World) (h : MapI E w b n M) (hn : n < maxLen) {p : Int × Int} (hp : In2 p) (c : V) (hm : a.eval m = .map (some b)) (hx : a.eval x = idv p) (hv : a.eval v = E.v c)
    (hK : ∀ w', MapI E w' b (n + 1) (putI M p (some c)) → w.mapTurned w' b → K (a.put o.dst undef) w') :
    if Region.wanted o (yielded ops a.tmps) = true then Oper.wp Try.prog o a w K Q else F := by
  have hw : Region.wanted o (yielded ops a.tmps) = true := by simp [Region.wanted, hgd]
  rw [if_pos hw]
  obtain ⟨w', hrun, r1, r2⟩ := h.put ht hn hp c
  unfold Oper.wp execOp
  simp only [hop, Sem.run_bind, Sem.run_pure, Result.andThen_ok, hm, hx, hv, hrun]
  exact hK w' r1 r2
/-- Those that are still to come, and those that stay. -/
def StillM (K l : List Id2) (L : Id2 → Nat) (left : Int × Int → Bool) (M : Int × Int → Option (Option Nat)) : Prop := ∀ q, M q = if q ∈ K ∧ (left q = true ∨ q ∈ l) then some (some (L q)) else none
theorem StillM.stays {K l : List Id2} {L : Id2 → Nat} {left : Int × Int → Bool} {M : Int × Int → Option (Option Nat)} (h : StillM K l L left M) {q : Id2} (hq : q ∈ l) : StillM K l L (offI left q) M := by
  intro r
  rw [h r]
  unfold offI
  by_cases e : r = q
  · subst e
    simp [hq]
  · simp [e]
theorem StillM.goes {K l : List Id2} {L : Id2 → Nat} {left : Int × Int → Bool} {M : Int × Int → Option (Option Nat)} (h : StillM K l L left M) {q : Id2} (hq : ¬ q ∈ l) : StillM K l L (offI (offI left q) q) (putI M q none) := by
  intro r
  unfold offI putI
  by_cases e : r = q
  · subst e
    simp [hq]
  · simp [e, h r]
theorem StillM.none {K l : List Id2} {L : Id2 → Nat} {left : Int × Int → Bool} {M : Int × Int → Option (Option Nat)} (h : StillM K l L left M) (hl : ∀ q, q ∈ K → left q = false) : M = mapOf (K.filter fun q => decide (q ∈ l)) L := by
  funext q
  rw [h q]
  unfold mapOf
  by_cases hk : q ∈ K
  · by_cases h2 : q ∈ l <;> simp [hk, h2, hl q hk]
  · simp [hk]
theorem StillM.all (K l : List Id2) (L : Id2 → Nat) : StillM K l L (fun p => (mapOf K L p).isSome) (mapOf K L) := by
  intro q
  unfold mapOf
  by_cases hk : q ∈ K <;> simp [hk]
/-- An ID's box, whatever block was written besides. -/
theorem Box.fr {S : Nat → Prop} {w w' : World} {g : Nat} {a i : Int} (h : Box w g a i) (k : Fr S w w') (hg : ¬ S g) : Box w' g a i := (k.same g (box_lt h) hg).trans h
set_option maxHeartbeats 2000000 in
theorem keep_any (h : Inn S W p f mb n e K D L) (v : Value) (l : List Id2) (hv : Ids W v l) (hr : Rises l) (hl : l.length ≤ 40000) (hvS : ∀ g, v.ownBlock = some g → ¬ S g) :
    Calls Try.prog 34 #[.pointer (some ⟨p, 0, none⟩), v] W fun en W' => en = .returned (.tuple #[]) ∧ Inn S W' p f mb n e (K.filter fun q => decide (q ∈ l)) D L ∧ Fr S W W' := by
  have H := Lib.hid h
  have HI := Lib.hid hv
  have HR := Lib.hid hr
  have HV := Lib.hid hvS
  obtain ⟨c0, c1⟩ := h.cells
  cases mb with
  | none =>
    have hK : Hid (K = []) := Lib.hid h.map
    have hrg : ∀ wx : World, (Instr.range 55 (.map none)).run Try.prog wx = _ := fun wx => run_range_nilMap wx 55 35 52 Try.underlying55
    have hnx : ∀ ty, (Instr.next (.pointer (some ⟨W.heap.size, 0, none⟩)) false ty).run Try.prog (W.alloc (.mapIter none 0 #[] 0)) = .ok (.tuple #[.bool false]) (W.alloc (.mapIter none 0 #[] 0)) := fun ty => run_next_nilMap W ty 0 0 #[]
    have B1 := Lib.hid (below_one W (.mapIter none 0 #[] 0))
    clear h hv hr hvS
    go_enter Try.func34, Try.ntmps34
    go_wp2_with fail

    go_loopw [12] (fun _ wr => wr = W.alloc (.mapIter none 0 #[] 0)) (fun _ _ => 0)
    case atStart => rfl
    case round =>
      subst hrel
      go_wp2_with fail
      go_end0
      rw [hK.out]
      have H2 := H.out.keep B1.out
      rw [hK.out] at H2
      exact ⟨rfl, H2, .of_below B1.out⟩
  | some b =>
    have hown := h.map.2
    have hSb := Lib.hid h.map.1
    have hin2 := Lib.hid h.in2
    have hbp : Hid (p ≠ b) := Lib.hid fun e => h.map.2.cells_not _ _ _ (e ▸ h.box)
    have hbl : Hid (b < W.heap.size) := Lib.hid h.map.2.lt
    clear h hv hr hvS
    go_enter Try.func34, Try.ntmps34
    go_wp2_with (first | (at_range; refine wpList_range_id _ rfl _ rfl Try.underlying55 hown rfl ?_; intro w0 k0 hrg0 hc0 hg0 hs0) | fail)
    have HM0 := Lib.hid (StillM.all K l L)
    have HR0 := Lib.hid hrg0
    have HF0 : Hid (Fr (fun i => i = b) W w0) := Lib.hid (.of_grown hg0 (fun g e => by cases e))
    have HZ0 : Hid (W.heap.size + 1 ≤ w0.heap.size) := Lib.hid (by omega)
    clear hrg0 hg0 hs0 hc0 c0 c1 hown
    go_frame
    go_loopw [12] (fun _ wr => ∃ (M : Int × Int → Option (Option Nat)) (left : Int × Int → Bool) (cnt : Nat), Hid (RngI ElP wr b W.heap.size n M left cnt) ∧ Hid (StillM K l L left M) ∧ Hid (Fr (fun i => i = b) W wr) ∧ Hid (W.heap.size + 1 ≤ wr.heap.size)) (fun _ wr => wr.rangeLeft b W.heap.size)
    case atStart => exact ⟨_, _, _, HR0, HM0, HF0, HZ0⟩
    case round =>
      obtain ⟨M, left, cnt, hrg, HM, HF, HZ⟩ := hrel
      have hrg2 := hrg.out
      go_wp2_with (first | (at_next; refine wpList_next_id _ rfl _ rfl hrg2 rfl ?_ ?_) | fail)
      · intro hc0 hl0
        have HL := Lib.hid hl0
        clear hl0
        go_wp2_with fail
        go_end0
        have hm := hrg.out.map
        rw [HM.out.none (fun q hq => HL.out q.1 q.2 (hin2.out q hq))] at hm
        refine ⟨rfl, H.out.turned HF.out (fun q hq => (List.mem_filter.1 hq).1) hm, HF.out.mono fun k e => ?_⟩
        rw [e]
        exact hSb.out
      · intro p1 p2 c w2 cnt2 hp hlk hMs hrg3 hlt hg2 hs2 hen
        have H3 := Lib.hid hrg3
        have HP := Lib.hid hp
        have HLT := Lib.hid hlt
        have HF2 : Hid (Fr (fun i => i = b) W w2) := Lib.hid (HF.out.trans (.of_grown (S := fun i => i = W.heap.size) hg2 (fun g e => by injection e with e; exact e.symm)) (fun i e => by right; have e2 : i = W.heap.size := e; omega))
        have HZ2 : Hid (W.heap.size + 1 ≤ w2.heap.size) := Lib.hid (by have := HZ.out; omega)
        simp only [idv] at hen
        clear hrg2 hrg3 hp hlt hg2 hs2 hlk hMs
        go_upto_region 3 with fail
        have B3 := Lib.hid (below_one w2 (.cells #[.int .i64 p1, .int .i64 p2] 35))
        have X3 := Lib.hid (box_new w2 p1 p2)
        have H4 := Lib.hid (H3.out.kept (grown_below B3.out none) (by simp) (by simp))
        have HF3 : Hid (Fr (fun i => i = b) W _) := Lib.hid (HF2.out.step (.of_below B3.out))
        have hgb : Hid (w2.heap.size ≠ b) := Lib.hid (by have := HZ2.out; have := hbl.out; omega)
        have HZ3 : Hid (W.heap.size + 1 ≤ (w2.alloc (.cells #[.int .i64 p1, .int .i64 p2] 35)).heap.size) := Lib.hid (Nat.le_trans HZ2.out B3.out.size)
        clear HF2 HZ2 H3 B3 HF HZ hen
        generalize w2.alloc (.cells #[.int .i64 p1, .int .i64 p2] 35) = w3 at *
        generalize w2.heap.size = gb at *
        have I3 := Lib.hid (HI.out.frame (HF3.out.mono (fun k e => (show S k by rw [e]; exact hSb.out))) HV.out)
        obtain ⟨q0, q1⟩ := box_cells X3.out
        go_wp2_with fail
        (with_reducible refine (bin_any v l p1 p2 _ I3.out HR.out (by omega)).mono ?_)
        rintro en w4 ⟨kk, rfl, -, hb⟩
        have B4 := Lib.hid hb
        clear hb q0 q1
        have H5 := Lib.hid (H4.out.kept (grown_below B4.out none) (by simp) (by simp))
        have HF5 := Lib.hid (HF3.out.step (.of_below B4.out))
        have X5 := Lib.hid (box_below X3.out B4.out)
        have HZ5 : Hid (W.heap.size + 1 ≤ w4.heap.size) := Lib.hid (Nat.le_trans HZ3.out B4.out.size)
        clear H4 HF3 X3 HZ3 I3 B4
        by_cases hst : (p1, p2) ∈ l
        · rw [hasB_in hst]
          have HM2 := Lib.hid (HM.out.stays hst)
          clear hst
          go_wp2_with fail
          go_roundw
          case rel => exact ⟨_, _, _, H5, HM2, HF5, HZ5⟩
          case measure => rw [H5.out.left_eq, hrg.out.left_eq]; exact HLT.out
        · rw [hasB_not hst]
          have HM2 := Lib.hid (HM.out.goes hst)
          clear hst
          have HS : Hid (∀ w', Fr (fun i => i = b) w4 w' → (w'.cell? ⟨gb, 0, none⟩ = some (.int .i64 p1) ∧ w'.cell? ⟨gb, 1, none⟩ = some (.int .i64 p2) ∧ w'.cell? ⟨p, 1, none⟩ = some (.map (some b)))) := Lib.hid fun w' hf => by
            obtain ⟨c0, c1⟩ := box_cells (X5.out.fr hf hgb.out)
            have h1 := ((HF5.out.step hf).same _ (H.out.lt _ H.out.inp) hbp.out).trans H.out.box
            exact ⟨c0, c1, by rw [cell_of_row _ _ 1 _ _ _ h1]; rfl⟩
          go_upto_region 5 with fail
          refine wp_region_held_drew (S := fun w' => w'.cell? ⟨gb, 0, none⟩ = some (.int .i64 p1) ∧ w'.cell? ⟨gb, 1, none⟩ = some (.int .i64 p2) ∧ w'.cell? ⟨p, 1, none⟩ = some (.map (some b))) (by kernel_rfl) ?_ (fun hHeld => ?_)
          · exact HS.out _ (.of_below (Below.refl _ _).drew)
          (refine wpAnyH_take (i := 0) (oi := ⟨_, _, _, _, _, _⟩) (v := ?_) rfl (by kernel_rfl) (by kernel_rfl) (by kernel_rfl) (fun _ _ _ h => h) (Or.inl ⟨by rfl, ?_⟩) (by assumption) ?_; rotate_left 1; · (intro w hSw; (try dsimp only at hSw); go_simp; all_goals with_reducible rfl))
          try simp only [Act.put, List.setIfInBounds_toArray, List.set_cons_zero, List.set_cons_succ]
          (refine wpAnyH_take (i := 1) (oi := ⟨_, _, _, _, _, _⟩) (v := ?_) rfl (by kernel_rfl) (by kernel_rfl) (by kernel_rfl) (fun _ _ _ h => h) (Or.inl ⟨by rfl, ?_⟩) (by assumption) ?_; rotate_left 1; · (intro w hSw; (try dsimp only at hSw); go_simp; all_goals with_reducible rfl))
          try simp only [Act.put, List.setIfInBounds_toArray, List.set_cons_zero, List.set_cons_succ]
          (refine wpAnyH_take (i := 2) (oi := ⟨_, _, _, _, _, _⟩) (v := ?_) rfl (by kernel_rfl) (by kernel_rfl) (by kernel_rfl) (fun _ _ _ h => h) (Or.inl ⟨by rfl, ?_⟩) (by assumption) ?_; rotate_left 1; · (intro w hSw; (try dsimp only at hSw); go_simp; all_goals with_reducible rfl))
          try simp only [Act.put, List.setIfInBounds_toArray, List.set_cons_zero, List.set_cons_succ]
          (refine wpAnyH_take (i := 3) (oi := ⟨_, _, _, _, _, _⟩) (v := ?_) rfl (by kernel_rfl) (by kernel_rfl) (by kernel_rfl) (fun _ _ _ h => h) (Or.inl ⟨by rfl, ?_⟩) (by assumption) ?_; rotate_left 1; · (intro w hSw; (try dsimp only at hSw); go_simp; all_goals with_reducible rfl))
          try simp only [Act.put, List.setIfInBounds_toArray, List.set_cons_zero, List.set_cons_succ]
          (refine wpAnyH_take (i := 4) (oi := ⟨_, _, _, _, _, _⟩) (v := ?_) rfl (by kernel_rfl) (by kernel_rfl) (by kernel_rfl) (fun _ _ _ h => h) (Or.inl ⟨by rfl, ?_⟩) (by assumption) ?_; rotate_left 1; · (intro w hSw; (try dsimp only at hSw); go_simp; all_goals with_reducible rfl))
          try simp only [Act.put, List.setIfInBounds_toArray, List.set_cons_zero, List.set_cons_succ]
          refine wpAnyH_ready (rs := [5]) (by kernel_rfl) (by simp) ?_
          refine AllReadyH.cons (o := ⟨_, _, _, _, _, _⟩) rfl (fun Kq hKq => ?_) (AllReadyH.nil)
          clear hHeld
          refine step_drops (by rfl) (.tmp 27) (.tmp 28) (by rfl) Try.underlying55 _ (H5.out.kept (grown_below (Below.refl _ _).drew none) (by simp) (by simp)) HP.out (by rfl) (by rfl) ?_; intro w6 k6 hr6 hk6 ht6; have H6 := Lib.hid hr6; have HF6 : Hid (Fr (fun i => i = b) w4 w6) := Lib.hid ((Fr.of_below (Below.refl _ _).drew).step (.of_turned ht6 rfl)); clear hr6 ht6
          refine hKq.out _ _ ?_ (fun hHeld => ?_)
          · (try dsimp only); exact HS.out _ HF6.out
          clear hKq Kq
          try simp only [Act.put]
          refine wpAnyH_done (by kernel_rfl) ?_ _
          clear hHeld
          have HF7 := Lib.hid (HF5.out.step HF6.out)
          have HZ7 : Hid (W.heap.size + 1 ≤ w6.heap.size) := Lib.hid (Nat.le_trans HZ5.out HF6.out.size)
          clear HS HF6 HF5 HZ5 X5
          go_wp2_with fail
          go_roundw
          case rel => exact ⟨_, _, _, H6, HM2, HF7, HZ7⟩
          case measure => rw [H6.out.left_eq, hrg.out.left_eq]; exact Nat.lt_of_le_of_lt hk6 HLT.out
end Go.Proofs.Ytkoeplgkiogjlaa
