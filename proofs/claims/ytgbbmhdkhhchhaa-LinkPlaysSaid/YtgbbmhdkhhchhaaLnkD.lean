/-
  Links as they lie in memory: a map behind a pointer. No statement is proved in this text.
-/
import Derived.Test.YtgbbmhdkhhchhaaLnkC
import Derived.Maps.OwnOps
import Derived.Maps.OwnSet
import Derived.Maps.Views
import Derived.Laws.Externs
import Derived.MapKept
set_option maxRecDepth 20000
namespace Go.Proofs.Ytgbbmhdkhhchhaa
open Go Go.RowKit Go.Maps
/-- What a map's element reads as. -/
def dP (p : Pr) : DataW Unit := .agg [.lit (.int .i64 p.nw), .lit (.int .i64 p.fe), .lit (.int .i64 p.be), .lit (.int .i64 p.re)]
theorem dP_inj {p q : Pr} (h : dP p = dP q) : p = q := by
  cases p; cases q
  simp [dP] at h
  obtain ⟨rfl, rfl, rfl, rfl⟩ := h
  rfl
def vP (p : Pr) : Value := .agg #[.int .i64 p.nw, .int .i64 p.fe, .int .i64 p.be, .int .i64 p.re]
def rP (v : Value) : Option (DataW Unit × List MemPlace) :=
  match v with
  | .agg cs => (match cs.toList with | [.int .i64 a, .int .i64 b, .int .i64 c, .int .i64 d] => some (dP ⟨a, b, c, d⟩, []) | _ => none)
  | _ => none
theorem rP_vP (p : Pr) : rP (vP p) = some (dP p, []) := rfl
theorem rP_inv {v : Value} {z : DataW Unit × List MemPlace} (h : rP v = some z) : ∃ p, v = vP p ∧ z = (dP p, []) := by
  unfold rP at h
  split at h
  · rename_i cs
    split at h
    · rename_i a b c d e
      injection h with h
      refine ⟨⟨a, b, c, d⟩, ?_, h.symm⟩
      unfold vP
      congr 1
      exact Array.toList_inj.1 e
    · cases h
  · cases h
/-- Block b is a map of at most n entries, in which what is known of each address stands. -/
def MapAt (w : World) (b n : Nat) (M : Int → Pr) : Prop := ∃ D, w.ownsMap Try.prog 3 rP b n D ∧ IsMap D ∧ ∀ k : Int, D.atKey (.int .i64 k) (dP p0) = dP (M k)
theorem keyed3 : Keyed Try.prog 3 := int_keyed Try.underlying3
theorem key_i64 {k : Int} (h : -9223372036854775808 ≤ k ∧ k ≤ 9223372036854775807) : keyOf Try.prog 3 (.int .i64 k) = some (.int .i64 k) := keyOf_int_mk Try.underlying3 (WalkArith.wf_i64 h)
theorem zero62 (w : World) : (zeroValue 62).run Try.prog w = .ok (vP p0) w := by kernel_rfl
theorem MapAt.made (w : World) : MapAt (w.alloc (.map #[] 0)) w.heap.size 0 (fun _ => p0) := ⟨_, World.ownsMap_made _ _ _ _, isMap_empty, fun _ => rfl⟩
theorem MapAt.lt {w : World} {b n : Nat} {M : Int → Pr} (h : MapAt w b n M) : b < w.heap.size := by
  obtain ⟨D, h1, _⟩ := h
  exact h1.lt
theorem MapAt.look {w : World} {b n : Nat} {M : Int → Pr} (h : MapAt w b n M) {k : Int} (hk : -9223372036854775808 ≤ k ∧ k ≤ 9223372036854775807) :
    (Instr.lookup 52 (.map (some b)) (.int .i64 k) false).run Try.prog w = .ok (vP (M k)) w := by
  obtain ⟨D, h1, _, h3⟩ := h
  obtain ⟨v, ps, hrun, hv⟩ := h1.lookup keyed3 Try.underlying52 (zero62 w) (rP_vP p0) (key_i64 hk)
  obtain ⟨p, rfl, e⟩ := rP_inv hv
  injection e with e
  rw [h3 k] at e
  rw [hrun, dP_inj e]
theorem look_none (w : World) {k : Int} (hk : -9223372036854775808 ≤ k ∧ k ≤ 9223372036854775807) :
    (Instr.lookup 52 (.map none) (.int .i64 k) false).run Try.prog w = .ok (vP p0) w :=
  Maps.look_nil false keyed3 Try.underlying52 (zero62 w) (key_i64 hk)
theorem MapAt.update {w : World} {b n : Nat} {M : Int → Pr} (h : MapAt w b n M) (hn : n < maxLen) {k : Int} (hk : -9223372036854775808 ≤ k ∧ k ≤ 9223372036854775807) (p : Pr) :
    ∃ w', (Instr.mapUpdate 52 (.map (some b)) (.int .i64 k) (vP p)).run Try.prog w = .ok () w' ∧ MapAt w' b (n + 1) (put M k p) ∧ w.grownBy w' (some b) := by
  obtain ⟨D, h1, h2, h3⟩ := h
  obtain ⟨w', hrun, k1, k2⟩ := h1.update keyed3 Try.underlying52 hn (key_i64 hk) (rP_vP p)
  refine ⟨w', hrun, ⟨_, k1, h2.put _ _, fun j => ?_⟩, k2⟩
  by_cases e : j = k
  · subst e
    rw [atKey_put_same h2 (by trivial), put_same]
  · rw [atKey_put_other (by simpa using e), h3, put_other M p e]
/-- Links: block l points to the map m, from base on. -/
structure Lk (w : World) (base l : Nat) (m : Option Nat) (n : Nat) (M : Int → Pr) : Prop where
  x : w.heap[l]? = some (.cells #[.map m] 54 (0, 0))
  b : base ≤ l
  no : m = none → M = fun _ => p0
  yes : ∀ b, m = some b → base ≤ b ∧ MapAt w b n M
theorem Lk.lt {w : World} {base l : Nat} {m : Option Nat} {n : Nat} {M : Int → Pr} (h : Lk w base l m n M) : l < w.heap.size := row_lt h.x
theorem Lk.base {w : World} {base l : Nat} {m : Option Nat} {n : Nat} {M : Int → Pr} (h : Lk w base l m n M) : base ≤ w.heap.size := Nat.le_trans h.b (Nat.le_of_lt h.lt)
theorem Lk.cell {w : World} {base l : Nat} {m : Option Nat} {n : Nat} {M : Int → Pr} (h : Lk w base l m n M) : w.cell? ⟨l, 0, none⟩ = some (.map m) := by rw [cell_of_row _ _ _ _ _ _ h.x]; rfl
theorem Lk.free {w : World} {base l : Nat} {m : Option Nat} {n : Nat} {M : Int → Pr} (h : Lk w base l m n M) : w.frozen? ⟨l, 0, none⟩ = false := by simp [World.frozen?, h.x]
theorem Lk.look {w : World} {base l : Nat} {m : Option Nat} {n : Nat} {M : Int → Pr} (h : Lk w base l m n M) {k : Int} (hk : -9223372036854775808 ≤ k ∧ k ≤ 9223372036854775807) :
    (Instr.lookup 52 (.map m) (.int .i64 k) false).run Try.prog w = .ok (.agg #[.int .i64 (M k).nw, .int .i64 (M k).fe, .int .i64 (M k).be, .int .i64 (M k).re]) w := by
  cases hm : m with
  | none =>
    rw [h.no hm]
    exact look_none w hk
  | some b => exact (h.yes b hm).2.look hk
theorem mapAt_same {w w' : World} {b n : Nat} {M : Int → Pr} (h : MapAt w b n M) (hb : w'.heap[b]? = w.heap[b]?) : MapAt w' b n M := by
  obtain ⟨D, ⟨es, clock, h1, h2⟩, h3⟩ := h
  exact ⟨D, ⟨es, clock, hb.trans h1, h2⟩, h3⟩
/-- From one world to a later one: but for new blocks only the links' own were written. -/
structure Ch (w w' : World) (l : Nat) (m m' : Option Nat) : Prop where
  os : w'.os = w.os
  tape : w'.tape = w.tape
  output : w'.output = w.output
  size : w.heap.size ≤ w'.heap.size
  block : ∀ k, k < w.heap.size → k ≠ l → some k ≠ m → w'.heap[k]? = w.heap[k]?
  lies : m' = m ∨ ∃ k, m' = some k ∧ w.heap.size ≤ k
theorem Ch.refl (w : World) (l : Nat) (m : Option Nat) : Ch w w l m m := ⟨rfl, rfl, rfl, Nat.le_refl _, fun _ _ _ _ => rfl, .inl rfl⟩
theorem Ch.trans {w w1 w2 : World} {l : Nat} {m m1 m2 : Option Nat} (h : Ch w w1 l m m1) (k : Ch w1 w2 l m1 m2) : Ch w w2 l m m2 := by
  refine ⟨k.os.trans h.os, k.tape.trans h.tape, k.output.trans h.output, Nat.le_trans h.size k.size, fun i hi hl hm => ?_, ?_⟩
  · rw [k.block i (Nat.lt_of_lt_of_le hi h.size) hl ?_, h.block i hi hl hm]
    rcases h.lies with e | ⟨j, e, hj⟩
    · rw [e]; exact hm
    · rw [e]; intro e2; injection e2; omega
  · rcases k.lies with e | ⟨j, e, hj⟩
    · rcases h.lies with e2 | ⟨j, e2, hj⟩
      · exact .inl (e.trans e2)
      · exact .inr ⟨j, e.trans e2, hj⟩
    · exact .inr ⟨j, e, Nat.le_trans h.size hj⟩
theorem Ch.below {w w' : World} (h : Below w.heap.size w w') (l : Nat) (m : Option Nat) : Ch w w' l m m := ⟨h.os, h.tape, h.output, h.size, fun k hk _ _ => h.block k hk, .inl rfl⟩
/-- What the links' blocks are not stays. -/
theorem Ch.kept {w w' : World} {base l n k : Nat} {m m' : Option Nat} {M : Int → Pr} (h : Ch w w' l m m') (hs : Lk w base l m n M) {cs : Array Value} {T : TypeId} {fr : Nat × Nat} (hk : w.heap[k]? = some (.cells cs T fr)) (hT : T ≠ 54) : w'.heap[k]? = some (.cells cs T fr) := by
  refine (h.block k (row_lt hk) (fun e => ?_) (fun e => ?_)).trans hk
  · subst e
    rw [hs.x] at hk
    injection hk with hk
    injection hk with _ ht
    exact hT ht.symm
  · obtain ⟨_, D, ⟨es, clock, h1, _⟩, _⟩ := hs.yes k e.symm
    rw [h1] at hk
    cases hk
/-- All that was there ahead of the links stays. -/
theorem Ch.ahead {w0 w w' : World} {base l n : Nat} {m m' : Option Nat} {M : Int → Pr} (hb : Below base w0 w) (h : Ch w w' l m m') (hs : Lk w base l m n M) : Below base w0 w' :=
  hb.trans ⟨h.os, h.tape, h.output, h.size, fun k hk => h.block k (Nat.lt_of_lt_of_le hk hs.base) (fun e => by have := hs.b; omega) (fun e => by have := (hs.yes k e.symm).1; omega)⟩
/-- Other links stay. -/
theorem Ch.other {w w' : World} {base l n l' n' base' : Nat} {m m' q : Option Nat} {M N : Int → Pr} (h : Ch w w' l m m') (hs : Lk w base l m n M) (ho : Lk w base' l' q n' N) (hl : l' ≠ l) (hq : ∀ b, q = some b → m ≠ some b) : Lk w' base' l' q n' N := by
  refine ⟨(h.block l' ho.lt hl (fun e => ?_)).trans ho.x, ho.b, ho.no, fun b e => ?_⟩
  · obtain ⟨_, D, ⟨es, clock, h1, _⟩, _⟩ := hs.yes l' e.symm
    rw [ho.x] at h1
    cases h1
  · obtain ⟨h1, h2⟩ := ho.yes b e
    refine ⟨h1, mapAt_same h2 (h.block b h2.lt (fun e2 => ?_) (fun e2 => hq b e e2.symm))⟩
    subst e2
    obtain ⟨D, ⟨es, clock, h3, _⟩, _⟩ := h2
    rw [hs.x] at h3
    cases h3
theorem Lk.below {w w' : World} {base l n : Nat} {m : Option Nat} {M : Int → Pr} (h : Lk w base l m n M) (hb : Below w.heap.size w w') : Lk w' base l m n M :=
  ⟨(hb.block l h.lt).trans h.x, h.b, h.no, fun b e => ⟨(h.yes b e).1, mapAt_same (h.yes b e).2 (hb.block b (h.yes b e).2.lt)⟩⟩
/-- A call that leaves the links as they are, and answers. -/
def New (base : Nat) (w : World) (e : Ending) (w' : World) : Prop := ∃ l, e = .returned (.pointer (some ⟨l, 0, none⟩)) ∧ w.heap.size ≤ l ∧ Lk w' base l none 0 (fun _ => p0) ∧ Below w.heap.size w w'
theorem new_any (base : Nat) (w : World) (hb : base ≤ w.heap.size) : Calls Try.prog 9 #[] w (New base w) := by
  have HB := Lib.hid hb
  clear hb
  go_enter Try.func9, Try.ntmps9
  go_wp2_with fail
  go_ret
  exact ⟨w.heap.size, rfl, Nat.le_refl _, ⟨heap_alloc_new w _, HB.out, fun _ => rfl, fun b e => by cases e⟩, below_one w _⟩
theorem newest_any (w : World) (base l n : Nat) (m : Option Nat) (M : Int → Pr) (h : Lk w base l m n M) (a : Int) (ha : -9223372036854775808 ≤ a ∧ a ≤ 9223372036854775807) :
    Calls Try.prog 20 #[.pointer (some ⟨l, 0, none⟩), .int .i64 a] w fun e w' => e = .returned (.int .i64 (M a).nw) ∧ w = w' := by
  have hc := h.cell
  have hr := h.look ha
  clear h
  have hfd : ∀ w : World, (Instr.field 62 (.agg #[.int .i64 (M a).nw, .int .i64 (M a).fe, .int .i64 (M a).be, .int .i64 (M a).re]) 0).run Try.prog w = .ok (.int .i64 (M a).nw) w := fun _ => by kernel_rfl
  go_enter Try.func20, Try.ntmps20
  go_wp2_with fail
  go_ret
  exact ⟨rfl, rfl⟩
theorem newest_nil (w : World) (a : Int) : Calls Try.prog 20 #[.pointer none, .int .i64 a] w fun e w' => e = .returned (.int .i64 0) ∧ w = w' := by
  go_enter Try.func20, Try.ntmps20
  go_wp2_with fail
  go_ret
  exact ⟨rfl, rfl⟩
end Go.Proofs.Ytgbbmhdkhhchhaa
