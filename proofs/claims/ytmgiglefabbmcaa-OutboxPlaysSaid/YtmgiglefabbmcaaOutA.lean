/-
  Frames, plain and as they lie in memory: what is read of them, in which blocks, and what is left of that when other blocks are written. No statement is proved in this text.
-/
import Derived.Test.YtmgiglefabbmcaaRows
import Derived.Test.YtmgiglefabbmcaaRecs
import Derived.WalkKit
import Derived.WalkSpells
import Derived.WalkLawsBesides
import Derived.OwnWalk
import Derived.Outline
import Derived.IntWalk
import Derived.Below
import Derived.Carry
import Derived.Deep.LoopGhost
import Derived.Handy
import Derived.Lib.Hide
import Derived.Deep.RegionWith
import Derived.Deep.RegionHeld3
import Derived.Deep.MidRow
import Derived.BigQuiet
import Derived.Deep.QuietTactic
set_option maxRecDepth 20000
namespace Go.Proofs.Ytmgiglefabbmcaa
open Go Go.RowKit
theorem ret_int {k : IntKind} {a b : Int} (h : a = b) : Ending.returned (.int k a) = .returned (.int k b) := by rw [h]
theorem ret_bool {a b : Bool} (h : a = b) : Ending.returned (.bool a) = .returned (.bool b) := by rw [h]
theorem below_drewN {B n : Nat} {w w1 : World} (h : Below B w w1) : Below B w (w1.drewN n) := ⟨h.os, h.tape, h.output, h.size, h.block⟩
theorem below_one (w : World) (o : Obj) : Below w.heap.size w (w.alloc o) := (Below.refl _ _).alloc (Nat.le_refl _) _
theorem below_after {B : Nat} {w w1 w2 : World} (h : Below B w w1) (k : Below w1.heap.size w1 w2) (hB : B ≤ w.heap.size) : Below B w w2 := h.trans (k.mono (Nat.le_trans hB h.size))
theorem row_lt {w : World} {g : Nat} {o : Obj} (h : w.heap[g]? = some o) : g < w.heap.size := by
  rcases Nat.lt_or_ge g w.heap.size with hlt | hge
  · exact hlt
  · rw [Array.getElem?_eq_none hge] at h; cases h
/-! Plain. -/
abbrev Id2 := Int × Int
abbrev Mm := Id2 × Int × Int
abbrev Row := Id2 × Int × List Id2
abbrev Tk := Id2 × Int
/-- What a view says. -/
structure Vw where
  m : List Mm
  f : List Id2
  r : List Row
  c : List Tk
  s : List Id2
/-- What a frame says. -/
structure Fr where
  k : Int
  f : Id2
  t : Id2
  n : Int
  q : Int
  b : Id2
  v : Vw
/-! In memory. -/
/-- A slice's parts. -/
abbrev SL := Option Addr × Nat × Nat
abbrev SL.v (s : SL) : Value := .slice s.1 s.2.1 s.2.2
abbrev Raw := Id2 × Int × SL
/-- A frame with its five slices. -/
structure Fq where
  F : Fr
  a : SL
  b : SL
  c : SL
  d : SL
  e : SL
def encI (x : Id2) : List Value := [.int .i64 x.1, .int .i64 x.2]
def encM (x : Mm) : List Value := [.int .i64 x.1.1, .int .i64 x.1.2, .int .u8 x.2.1, .int .i64 x.2.2]
def encT (x : Tk) : List Value := [.int .i64 x.1.1, .int .i64 x.1.2, .int .i64 x.2]
def encW (x : Raw) : List Value := [.int .i64 x.1.1, .int .i64 x.1.2, .int .i64 x.2.1, .slice x.2.2.1 x.2.2.2.1 x.2.2.2.2]
def encF (q : Fq) : List Value := [.int .u8 q.F.k, .int .i64 q.F.f.1, .int .i64 q.F.f.2, .int .i64 q.F.t.1, .int .i64 q.F.t.2, .int .i64 q.F.n, .int .i64 q.F.q, .int .i64 q.F.b.1, .int .i64 q.F.b.2, .slice q.a.1 q.a.2.1 q.a.2.2, .slice q.b.1 q.b.2.1 q.b.2.2, .slice q.c.1 q.c.2.1 q.c.2.2, .slice q.d.1 q.d.2.1 q.d.2.2, .slice q.e.1 q.e.2.1 q.e.2.2]
/-- A frame's cells. -/
def fc (q : Fq) : Array Value := (encF q).toArray
theorem fc_is (q : Fq) : fc q = #[.int .u8 q.F.k, .int .i64 q.F.f.1, .int .i64 q.F.f.2, .int .i64 q.F.t.1, .int .i64 q.F.t.2, .int .i64 q.F.n, .int .i64 q.F.q, .int .i64 q.F.b.1, .int .i64 q.F.b.2, .slice q.a.1 q.a.2.1 q.a.2.2, .slice q.b.1 q.b.2.1 q.b.2.2, .slice q.c.1 q.c.2.1 q.c.2.2, .slice q.d.1 q.d.2.1 q.d.2.2, .slice q.e.1 q.e.2.1 q.e.2.2] := rfl
theorem fc_size (q : Fq) : (fc q).size = 14 := rfl
theorem fc_one (q : Fq) : (fc q).all (·.oneCell') = true := by rw [fc_is]; simp [Value.oneCell']
theorem encI_len (x : Id2) : (encI x).length = 2 := rfl
theorem encM_len (x : Mm) : (encM x).length = 4 := rfl
theorem encT_len (x : Tk) : (encT x).length = 3 := rfl
theorem encW_len (x : Raw) : (encW x).length = 4 := rfl
theorem encF_len (x : Fq) : (encF x).length = 14 := rfl
theorem encI_one (x : Id2) : ∀ u ∈ encI x, u.oneCell' = true := by simp [encI, Value.oneCell']
theorem encM_one (x : Mm) : ∀ u ∈ encM x, u.oneCell' = true := by simp [encM, Value.oneCell']
theorem encT_one (x : Tk) : ∀ u ∈ encT x, u.oneCell' = true := by simp [encT, Value.oneCell']
theorem encW_one (x : Raw) : ∀ u ∈ encW x, u.oneCell' = true := by simp [encW, Value.oneCell']
theorem encF_one (x : Fq) : ∀ u ∈ encF x, u.oneCell' = true := by simp [encF, Value.oneCell']
abbrev Ids (w : World) (v : Value) (l : List Id2) : Prop := Rcs encI 2 w v l
abbrev Ms (w : World) (v : Value) (l : List Mm) : Prop := Rcs encM 4 w v l
abbrev Ts (w : World) (v : Value) (l : List Tk) : Prop := Rcs encT 3 w v l
/-- Raw rows read as rows. -/
def EachR (w : World) : List Raw → List Row → Prop
  | [], [] => True
  | q :: qs, r :: l => (q.1 = r.1 ∧ q.2.1 = r.2.1 ∧ Ids w (.slice q.2.2.1 q.2.2.2.1 q.2.2.2.2) r.2.2) ∧ EachR w qs l
  | _, _ => False
theorem EachR.len {w : World} : ∀ {qs : List Raw} {l : List Row}, EachR w qs l → qs.length = l.length
  | [], [], _ => rfl
  | _ :: _, _ :: _, h => by simp only [List.length_cons]; rw [EachR.len h.2]
  | [], _ :: _, h => h.elim
  | _ :: _, [], h => h.elim
theorem EachR.at_ {w : World} : ∀ {qs : List Raw} {l : List Row}, EachR w qs l → ∀ (i : Nat) (h : i < qs.length) (h' : i < l.length), qs[i].1 = l[i].1 ∧ qs[i].2.1 = l[i].2.1 ∧ Ids w (.slice qs[i].2.2.1 qs[i].2.2.2.1 qs[i].2.2.2.2) l[i].2.2
  | _ :: _, _ :: _, h, 0, _, _ => h.1
  | _ :: _, _ :: _, h, i + 1, h1, h2 => EachR.at_ h.2 i (by simpa using h1) (by simpa using h2)
  | [], [], _, _, h1, _ => absurd h1 (by simp)
  | [], _ :: _, h, _, _, _ => h.elim
  | _ :: _, [], h, _, _, _ => h.elim
theorem EachR.below {w w' : World} (hb : Below w.heap.size w w') : ∀ {qs : List Raw} {l : List Row}, EachR w qs l → EachR w' qs l
  | [], [], _ => trivial
  | _ :: _, _ :: _, h => ⟨⟨h.1.1, h.1.2.1, Rcs.below h.1.2.2 hb⟩, EachR.below hb h.2⟩
  | [], _ :: _, h => h.elim
  | _ :: _, [], h => h.elim
def RowsAt (w : World) (v : Value) (l : List Row) : Prop := ∃ qs, Rcs encW 4 w v qs ∧ EachR w qs l
theorem RowsAt.below {w w' : World} {v : Value} {l : List Row} (h : RowsAt w v l) (hb : Below w.heap.size w w') : RowsAt w' v l := by
  obtain ⟨qs, h1, h2⟩ := h
  exact ⟨qs, h1.below hb, h2.below hb⟩
/-- Five slices read as a view. -/
structure RV (w : World) (q : Fq) (V : Vw) : Prop where
  m : Ms w (.slice q.a.1 q.a.2.1 q.a.2.2) V.m
  f : Ids w (.slice q.b.1 q.b.2.1 q.b.2.2) V.f
  r : RowsAt w (.slice q.c.1 q.c.2.1 q.c.2.2) V.r
  c : Ts w (.slice q.d.1 q.d.2.1 q.d.2.2) V.c
  s : Ids w (.slice q.e.1 q.e.2.1 q.e.2.2) V.s
/-- The frame's slices read as its view. -/
def FR (w : World) (q : Fq) : Prop := RV w q q.F.v
theorem FR.below {w w' : World} {q : Fq} (h : FR w q) (hb : Below w.heap.size w w') : FR w' q := ⟨h.m.below hb, h.f.below hb, h.r.below hb, h.c.below hb, h.s.below hb⟩
theorem rcs_len {α : Type} {enc : α → List Value} {sz : Nat} {w : World} {A : Option Addr} {n c : Nat} {l : List α} (h : Rcs enc sz w (.slice A n c) l) : n = l.length := by
  obtain ⟨A', c', hv, _⟩ := h
  injection hv
theorem rows_len {w : World} {A : Option Addr} {n c : Nat} {l : List Row} (h : RowsAt w (.slice A n c) l) : n = l.length := by
  obtain ⟨qs, h1, h2⟩ := h
  rw [rcs_len h1, h2.len]
/-- All lists of a view are at most n long. -/
structure Fit (n : Nat) (V : Vw) : Prop where
  m : V.m.length ≤ n
  f : V.f.length ≤ n
  r : V.r.length ≤ n
  c : V.c.length ≤ n
  s : V.s.length ≤ n
  n : ∀ r ∈ V.r, r.2.2.length ≤ n
/-! What is written. -/
/-- Nothing has turned but blocks of S. -/
structure Only (S : Nat → Prop) (w w' : World) : Prop where
  os : w'.os = w.os
  tape : w'.tape = w.tape
  output : w'.output = w.output
  size : w.heap.size ≤ w'.heap.size
  block : ∀ k, k < w.heap.size → ¬ S k → w'.heap[k]? = w.heap[k]?
theorem Only.refl (S : Nat → Prop) (w : World) : Only S w w := ⟨rfl, rfl, rfl, Nat.le_refl _, fun _ _ _ => rfl⟩
theorem Only.of {S : Nat → Prop} {w w' : World} (h : Below w.heap.size w w') : Only S w w' := ⟨h.os, h.tape, h.output, h.size, fun k hk _ => h.block k hk⟩
theorem Only.trans {S T U : Nat → Prop} {a b c : World} (h : Only S a b) (k : Only T b c) (hS : ∀ k, S k → U k) (hT : ∀ k, k < a.heap.size → T k → U k) : Only U a c :=
  ⟨k.os.trans h.os, k.tape.trans h.tape, k.output.trans h.output, Nat.le_trans h.size k.size, fun i hi hn => (k.block i (Nat.lt_of_lt_of_le hi h.size) fun e => hn (hT i hi e)).trans (h.block i hi fun e => hn (hS i e))⟩
theorem Only.mono {S T : Nat → Prop} {w w' : World} (h : Only S w w') (hS : ∀ k, S k → T k) : Only T w w' := ⟨h.os, h.tape, h.output, h.size, fun k hk hn => h.block k hk fun e => hn (hS k e)⟩
theorem Only.below {S : Nat → Prop} {B : Nat} {w w' : World} (h : Only S w w') (hB : B ≤ w.heap.size) (hS : ∀ k, S k → B ≤ k) : Below B w w' := ⟨h.os, h.tape, h.output, h.size, fun k hk => h.block k (Nat.lt_of_lt_of_le hk hB) fun e => absurd (hS k e) (by omega)⟩
theorem Only.none {w w' : World} {S : Nat → Prop} (h : Only S w w') (hS : ∀ k, k < w.heap.size → ¬ S k) : Below w.heap.size w w' := ⟨h.os, h.tape, h.output, h.size, fun k hk => h.block k hk (hS k hk)⟩
/-- The blocks of S are what they were. -/
def On (S : Nat → Prop) (w w' : World) : Prop := ∀ k, S k → w'.heap[k]? = w.heap[k]?
theorem Only.on {S T : Nat → Prop} {w w' : World} (h : Only S w w') (hT : ∀ k, T k → k < w.heap.size ∧ ¬ S k) : On T w w' := fun k hk => h.block k (hT k hk).1 (hT k hk).2
theorem Below.on {T : Nat → Prop} {w w' : World} (h : Below w.heap.size w w') (hT : ∀ k, T k → k < w.heap.size) : On T w w' := fun k hk => h.block k (hT k hk)
theorem On.mono {S T : Nat → Prop} {w w' : World} (h : On S w w') (hS : ∀ k, T k → S k) : On T w w' := fun k hk => h k (hS k hk)
theorem ownsRow_on {w w' : World} {base : Nat} {e : TypeId} {sz : Nat} {v : Value} {n : Nat} {xs : List Value} (h : w.ownsRow base e sz v n xs) (hk : ∀ k, v.ownBlock = some k → w'.heap[k]? = w.heap[k]?) : w'.ownsRow base e sz v n xs := by
  obtain ⟨h1, h2⟩ := h
  refine ⟨h1, ?_⟩
  rcases h2 with h2 | ⟨g, cap, cur, rfl, hg, hh, r⟩
  · exact .inl h2
  · exact .inr ⟨g, cap, cur, rfl, hg, (hk g rfl).trans hh, r⟩
/-- The slice v lies at the head of a block of S, and holds the list l. -/
def In1 {α : Type} (enc : α → List Value) (sz : Nat) (e : TypeId) (S : Nat → Prop) (w : World) (v : Value) (l : List α) : Prop := OwnsR enc sz e w 0 v l ∧ ∀ k, v.ownBlock = some k → S k
section
variable {α : Type} {enc : α → List Value} {sz : Nat} {e : TypeId} {S T : Nat → Prop} {w w' : World} {v : Value} {l : List α}
theorem In1.on (h : In1 enc sz e S w v l) (ho : On S w w') : In1 enc sz e S w' v l := ⟨ownsRow_on h.1 fun k hk => ho k (h.2 k hk), h.2⟩
theorem In1.mono (h : In1 enc sz e S w v l) (hS : ∀ k, S k → T k) : In1 enc sz e T w v l := ⟨h.1, fun k hk => hS k (h.2 k hk)⟩
theorem In1.rcs (hs : ∀ a, (enc a).length = sz) (h : In1 enc sz e S w v l) : Rcs enc sz w v l := rcs_owns hs h.1
theorem In1.nil : In1 enc sz e S w (.slice none 0 0) [] := ⟨OwnsR.nil _ _ _, fun k hk => by cases hk⟩
/-- What a call has made is in what is new. -/
theorem In1.new (h : OwnsR enc sz e w' w.heap.size v l) (hS : ∀ k, w.heap.size ≤ k → k < w'.heap.size → S k) : In1 enc sz e S w' v l := by
  refine ⟨⟨h.1, ?_⟩, fun k hk => ?_⟩
  · rcases h.2 with h2 | ⟨g, cap, cur, h2, hg, r⟩
    · exact .inl h2
    · exact .inr ⟨g, cap, cur, h2, Nat.zero_le _, r⟩
  · have := World.ownsRow.lt h k hk
    exact hS k this.1 this.2
end
/-- Raw rows hold rows, in blocks of S. -/
def EachO (S : Nat → Prop) (w : World) : List Raw → List Row → Prop
  | [], [] => True
  | q :: qs, r :: l => (q.1 = r.1 ∧ q.2.1 = r.2.1 ∧ In1 encI 2 24 S w (.slice q.2.2.1 q.2.2.2.1 q.2.2.2.2) r.2.2) ∧ EachO S w qs l
  | _, _ => False
theorem EachO.on {S : Nat → Prop} {w w' : World} (ho : On S w w') : ∀ {qs : List Raw} {l : List Row}, EachO S w qs l → EachO S w' qs l
  | [], [], _ => trivial
  | _ :: _, _ :: _, h => ⟨⟨h.1.1, h.1.2.1, h.1.2.2.on ho⟩, EachO.on ho h.2⟩
  | [], _ :: _, h => h.elim
  | _ :: _, [], h => h.elim
theorem EachO.mono {S T : Nat → Prop} {w : World} (hS : ∀ k, S k → T k) : ∀ {qs : List Raw} {l : List Row}, EachO S w qs l → EachO T w qs l
  | [], [], _ => trivial
  | _ :: _, _ :: _, h => ⟨⟨h.1.1, h.1.2.1, h.1.2.2.mono hS⟩, EachO.mono hS h.2⟩
  | [], _ :: _, h => h.elim
  | _ :: _, [], h => h.elim
theorem EachO.reads {S : Nat → Prop} {w : World} : ∀ {qs : List Raw} {l : List Row}, EachO S w qs l → EachR w qs l
  | [], [], _ => trivial
  | _ :: _, _ :: _, h => ⟨⟨h.1.1, h.1.2.1, h.1.2.2.rcs encI_len⟩, EachO.reads h.2⟩
  | [], _ :: _, h => h.elim
  | _ :: _, [], h => h.elim
theorem EachO.len {S : Nat → Prop} {w : World} {qs : List Raw} {l : List Row} (h : EachO S w qs l) : qs.length = l.length := h.reads.len
theorem EachO.snoc {S : Nat → Prop} {w : World} {q : Raw} {r : Row} (hr : q.1 = r.1 ∧ q.2.1 = r.2.1 ∧ In1 encI 2 24 S w (.slice q.2.2.1 q.2.2.2.1 q.2.2.2.2) r.2.2) : ∀ {qs : List Raw} {l : List Row}, EachO S w qs l → EachO S w (qs ++ [q]) (l ++ [r])
  | [], [], _ => ⟨hr, trivial⟩
  | _ :: _, _ :: _, h => ⟨h.1, EachO.snoc hr h.2⟩
  | [], _ :: _, h => h.elim
  | _ :: _, [], h => h.elim
theorem EachO.at_ {S : Nat → Prop} {w : World} : ∀ {qs : List Raw} {l : List Row}, EachO S w qs l → ∀ (i : Nat) (h : i < qs.length), ∃ r, In1 encI 2 24 S w (.slice qs[i].2.2.1 qs[i].2.2.2.1 qs[i].2.2.2.2) r
  | _ :: _, _ :: _, h, 0, _ => ⟨_, h.1.2.2⟩
  | _ :: _, _ :: _, h, i + 1, h1 => EachO.at_ h.2 i (by simpa using h1)
  | [], [], _, _, h1 => absurd h1 (by simp)
  | [], _ :: _, h, _, _ => h.elim
  | _ :: _, [], h, _, _ => h.elim
/-- The frame's slices lie in blocks of S, and hold its view. -/
structure FO (S : Nat → Prop) (w : World) (q : Fq) : Prop where
  m : In1 encM 4 79 S w (.slice q.a.1 q.a.2.1 q.a.2.2) q.F.v.m
  f : In1 encI 2 24 S w (.slice q.b.1 q.b.2.1 q.b.2.2) q.F.v.f
  r : ∃ qs, In1 encW 4 76 S w (.slice q.c.1 q.c.2.1 q.c.2.2) qs ∧ EachO S w qs q.F.v.r
  c : In1 encT 3 81 S w (.slice q.d.1 q.d.2.1 q.d.2.2) q.F.v.c
  s : In1 encI 2 24 S w (.slice q.e.1 q.e.2.1 q.e.2.2) q.F.v.s
theorem FO.on {S : Nat → Prop} {w w' : World} {q : Fq} (h : FO S w q) (ho : On S w w') : FO S w' q := by
  obtain ⟨qs, h1, h2⟩ := h.r
  exact ⟨h.m.on ho, h.f.on ho, ⟨qs, h1.on ho, h2.on ho⟩, h.c.on ho, h.s.on ho⟩
theorem FO.mono {S T : Nat → Prop} {w : World} {q : Fq} (h : FO S w q) (hS : ∀ k, S k → T k) : FO T w q := by
  obtain ⟨qs, h1, h2⟩ := h.r
  exact ⟨h.m.mono hS, h.f.mono hS, ⟨qs, h1.mono hS, h2.mono hS⟩, h.c.mono hS, h.s.mono hS⟩
theorem FO.reads {S : Nat → Prop} {w : World} {q : Fq} (h : FO S w q) : FR w q := by
  obtain ⟨qs, h1, h2⟩ := h.r
  exact ⟨h.m.rcs encM_len, h.f.rcs encI_len, ⟨qs, h1.rcs encW_len, h2.reads⟩, h.c.rcs encT_len, h.s.rcs encI_len⟩
/-- Nobody's frame, all cells 0. -/
def z0 : Fr := ⟨0, (0, 0), (0, 0), 0, 0, (0, 0), ⟨[], [], [], [], []⟩⟩
def q0 : Fq := ⟨z0, (none, 0, 0), (none, 0, 0), (none, 0, 0), (none, 0, 0), (none, 0, 0)⟩
/-- A frame without lists. -/
def bare (k n : Int) : Fq := ⟨⟨k, (0, 0), (0, 0), n, 0, (0, 0), ⟨[], [], [], [], []⟩⟩, (none, 0, 0), (none, 0, 0), (none, 0, 0), (none, 0, 0), (none, 0, 0)⟩
theorem fo_bare (S : Nat → Prop) (w : World) (k n : Int) : FO S w (bare k n) := ⟨In1.nil, In1.nil, ⟨[], In1.nil, trivial⟩, In1.nil, In1.nil⟩
theorem fo_zero (S : Nat → Prop) (w : World) : FO S w q0 := fo_bare S w 0 0
/-- Frames, each in blocks of its own, all of S. -/
def Frs (w : World) : (Nat → Prop) → List Fq → Prop
  | _, [] => True
  | S, q :: qs => ∃ T : Nat → Prop, (∀ k, T k → S k) ∧ FO T w q ∧ Frs w (fun k => S k ∧ ¬ T k) qs
theorem Frs.mono {w : World} : ∀ {qs : List Fq} {S T : Nat → Prop}, Frs w S qs → (∀ k, S k → T k) → Frs w T qs
  | [], _, _, _, _ => trivial
  | _ :: _, _, _, ⟨U, h1, h2, h3⟩, hS => ⟨U, fun k hk => hS k (h1 k hk), h2, h3.mono fun k hk => ⟨hS k hk.1, hk.2⟩⟩
theorem Frs.on {w w' : World} : ∀ {qs : List Fq} {S : Nat → Prop}, Frs w S qs → On S w w' → Frs w' S qs
  | [], _, _, _ => trivial
  | _ :: _, _, ⟨U, h1, h2, h3⟩, ho => ⟨U, h1, h2.on (ho.mono h1), h3.on (ho.mono fun _ hk => hk.1)⟩
theorem Frs.snoc {w : World} {q : Fq} {U : Nat → Prop} (hq : FO U w q) : ∀ {qs : List Fq} {S : Nat → Prop}, Frs w S qs → (∀ k, U k → ¬ S k) → Frs w (fun k => S k ∨ U k) (qs ++ [q])
  | [], _, _, _ => ⟨U, fun _ hk => .inr hk, hq, trivial⟩
  | _ :: _, _, ⟨T, h1, h2, h3⟩, hd => ⟨T, fun k hk => .inl (h1 k hk), h2, (Frs.snoc hq h3 fun k hk e => hd k hk e.1).mono fun k hk => by
      rcases hk with hk | hk
      · exact ⟨.inl hk.1, hk.2⟩
      · exact ⟨.inr hk, fun e => hd k hk (h1 k e)⟩⟩
theorem Frs.pick {w : World} : ∀ {qs : List Fq} {S : Nat → Prop}, Frs w S qs → ∀ (i : Nat) (hi : i < qs.length), ∃ T : Nat → Prop, (∀ k, T k → S k) ∧ FO T w qs[i] ∧ Frs w (fun k => S k ∧ ¬ T k) (qs.eraseIdx i)
  | _ :: _, _, ⟨T, h1, h2, h3⟩, 0, _ => ⟨T, h1, h2, h3⟩
  | q :: qs, S, ⟨T, h1, h2, h3⟩, i + 1, hi => by
    obtain ⟨U, k1, k2, k3⟩ := h3.pick i (by simpa using hi)
    refine ⟨U, fun k hk => (k1 k hk).1, k2, T, fun k hk => ⟨h1 k hk, fun e => (k1 k e).2 hk⟩, h2, k3.mono fun k hk => ?_⟩
    exact ⟨⟨hk.1.1, hk.2⟩, hk.1.2⟩
  | [], _, _, _, hi => absurd hi (by simp)
theorem Frs.each {w : World} : ∀ {qs : List Fq} {S : Nat → Prop}, Frs w S qs → ∀ q ∈ qs, FR w q
  | [], _, _, _, h => by cases h
  | _ :: _, _, ⟨_, _, h2, h3⟩, q, h => by
    rcases List.mem_cons.1 h with rfl | h
    · exact h2.reads
    · exact h3.each q h
/-- The block of a slice. -/
def AB (A : Option Addr) (k : Nat) : Prop := ∃ ad, A = some ad ∧ ad.block = k
/-- Frames in a row, in place, from some place of a block on, with room behind. -/
def Row14 (w : World) (A : Option Addr) (c : Nat) (qs : List Fq) : Prop := (A = none ∧ c = 0 ∧ qs = []) ∨ ∃ g o cur, A = some ⟨g, o, none⟩ ∧ w.heap[g]? = some (.cells cur 32 (0, 0)) ∧ o + c * 14 ≤ cur.size ∧ qs.length ≤ c ∧ ∀ j v, (flatR encF qs)[j]? = some v → cur[o + j]? = some v
theorem Row14.on {w w' : World} {A : Option Addr} {c : Nat} {qs : List Fq} (h : Row14 w A c qs) (ho : On (AB A) w w') : Row14 w' A c qs := by
  rcases h with h | ⟨g, o, cur, rfl, h1, h2⟩
  · exact .inl h
  · exact .inr ⟨g, o, cur, rfl, (ho g ⟨_, rfl, rfl⟩).trans h1, h2⟩
theorem Row14.lt {w : World} {A : Option Addr} {c : Nat} {qs : List Fq} (h : Row14 w A c qs) : ∀ k, AB A k → k < w.heap.size := by
  intro k ⟨ad, e, hk⟩
  rcases h with h | ⟨g, o, cur, rfl, h1, _⟩
  · rw [h.1] at e; cases e
  · injection e with e
    subst e hk
    exact row_lt h1
theorem Row14.rcs {w : World} {A : Option Addr} {c : Nat} {qs : List Fq} (h : Row14 w A c qs) : Rcs encF 14 w (.slice A qs.length c) qs := by
  rcases h with ⟨rfl, rfl, rfl⟩ | ⟨g, o, cur, rfl, h1, _, hc, h2⟩
  · exact Rcs.nil w
  · refine ⟨some ⟨g, o, none⟩, c, rfl, (fun e => by cases e), hc, fun k hk => ⟨_, rfl, row_lt h1, fun j u hu => ?_⟩⟩
    rw [Addr.add_mid, cell_of_row _ _ _ _ _ _ h1]
    exact h2 _ _ (flatR_at encF_len qs k hk j u hu)
/-- What was handed out: a list of frames, all of it in blocks of S. -/
def FL (S : Nat → Prop) (w : World) (v : Value) (qs : List Fq) : Prop := ∃ A c, v = .slice A qs.length c ∧ Row14 w A c qs ∧ (∀ k, AB A k → S k) ∧ Frs w (fun k => S k ∧ ¬ AB A k) qs
/-- Block p is a box of frames, all of it in blocks of T. -/
structure BoxAt (T : Nat → Prop) (w : World) (p : Nat) (mx : Int) (qs : List Fq) : Prop where
  box : ∃ A c, w.heap[p]? = some (.cells #[.int .i64 mx, .slice A qs.length c] 71 (0, 0)) ∧ Row14 w A c qs ∧ (∀ k, AB A k → T k) ∧ Frs w (fun k => T k ∧ k ≠ p ∧ ¬ AB A k) qs
  p : T p
  lt : ∀ k, T k → k < w.heap.size
  hm : 1 ≤ mx ∧ mx ≤ 4096
  len : (qs.length : Int) ≤ mx
theorem BoxAt.on {T : Nat → Prop} {w w' : World} {p : Nat} {mx : Int} {qs : List Fq} (h : BoxAt T w p mx qs) (ho : On T w w') (hs : w.heap.size ≤ w'.heap.size) : BoxAt T w' p mx qs := by
  obtain ⟨A, c, h1, h2, h3, h4⟩ := h.box
  exact ⟨⟨A, c, (ho p h.p).trans h1, h2.on (ho.mono h3), h3, h4.on (ho.mono fun _ hk => hk.1)⟩, h.p, fun k hk => Nat.lt_of_lt_of_le (h.lt k hk) hs, h.hm, h.len⟩
theorem BoxAt.below {T : Nat → Prop} {w w' : World} {p : Nat} {mx : Int} {qs : List Fq} (h : BoxAt T w p mx qs) (hb : Below w.heap.size w w') : BoxAt T w' p mx qs := h.on (Below.on hb h.lt) hb.size
theorem Row14.ne {w : World} {A : Option Addr} {c p : Nat} {qs : List Fq} {cs : Array Value} {t : TypeId} (h : Row14 w A c qs) (hp : w.heap[p]? = some (.cells cs t (0, 0))) (ht : t ≠ 32) : ¬ AB A p := by
  intro ⟨ad, e, hk⟩
  rcases h with h | ⟨g, o, cur, rfl, h1, _⟩
  · rw [h.1] at e; cases e
  · injection e with e
    subst e hk
    rw [h1] at hp
    injection hp with hp
    injection hp with _ hp _
    exact ht hp.symm
end Go.Proofs.Ytmgiglefabbmcaa
