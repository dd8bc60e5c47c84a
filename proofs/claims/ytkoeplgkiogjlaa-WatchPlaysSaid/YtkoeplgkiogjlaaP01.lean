/-
  Carried over and put together: contracts of this program's functions, and plain facts. No statement is proved in this text.
-/
import Derived.WalkKit
import Derived.Below
import Derived.OwnWalk
import Derived.Deep.AppendLies
import Derived.Laws.AppendOwnNone
import Derived.Deep.Slices
import Derived.Lib.Hide
import Derived.Test.YtkoeplgkiogjlaaRows
import Derived.Test.YtkoeplgkiogjlaaProg
import Derived.WalkSpells
import Derived.WalkLawsBesides
import Derived.Outline
import Derived.IntWalk
import Derived.Carry
import Derived.Deep.LoopGhost
import Derived.Handy
import Derived.Deep.RegionWith
import Derived.Deep.RegionHeld3
import Derived.BigQuiet
import Derived.Deep.QuietTactic
import Derived.ArgAppend
import Derived.Deep.Onto
import Derived.Test.YtkoeplgkiogjlaaP00
set_option maxRecDepth 20000
namespace Go.Proofs.Ytkoeplgkiogjlaa
/-- A number kept within bounds. -/
def clampI (x lo hi : Int) : Int := max lo (min x hi)
/-- A detector: its bounds, its window, whether there is a last time, and which, and its gaps. -/
structure Dt where
  mn : Int
  mx : Int
  wi : Int
  bg : Bool
  la : Int
  ga : List Int
def Dt.time (d : Dt) (x : Int) : Int := clampI x d.la 1099511627776
def recd (wi : Int) (g : List Int) (x : Int) : List Int := g.drop (clampI (g.length + 1 - wi) 0 g.length).toNat ++ [x]
def Dt.start (d : Dt) (x : Int) : Dt := if d.bg = true then d else ⟨d.mn, d.mx, d.wi, true, d.time x, d.ga⟩
def Dt.heard (d : Dt) (x : Int) : Dt := ⟨d.mn, d.mx, d.wi, true, d.time x, if d.bg = true then recd d.wi d.ga (d.time x - d.la) else d.ga⟩
def sumI (l : List Int) : Int := l.foldl (fun a b => a + b) 0
def Dt.limit (d : Dt) : Int := if d.ga.length = 0 then d.mx else clampI ((2 * sumI d.ga + d.ga.length - 1).tdiv d.ga.length) d.mn d.mx
def Dt.late (d : Dt) (x : Int) : Bool := d.bg && decide (d.limit < d.time x - d.la)
/-- A detector that New made, whatever was done to it since. -/
structure Dt.Ok (d : Dt) : Prop where
  mn : 1 ≤ d.mn
  mx : d.mn ≤ d.mx
  hi : d.mx ≤ 4096
  wi : 1 ≤ d.wi
  wh : d.wi ≤ 4096
  l0 : 0 ≤ d.la
  l1 : d.la ≤ 1099511627776
  len : (d.ga.length : Int) ≤ d.wi
  each : ∀ g ∈ d.ga, 0 ≤ g ∧ g ≤ 1099511627776
  no : d.bg = false → d.la = 0 ∧ d.ga = []
theorem clamp_range {x lo hi : Int} (h : lo ≤ hi) : lo ≤ clampI x lo hi ∧ clampI x lo hi ≤ hi := by unfold clampI; omega
theorem Dt.time_range {d : Dt} (h : d.Ok) (x : Int) : d.la ≤ d.time x ∧ d.time x ≤ 1099511627776 := clamp_range h.l1
theorem recd_len {wi : Int} {g : List Int} {x : Int} (h1 : 1 ≤ wi) (h2 : (g.length : Int) ≤ wi) : ((recd wi g x).length : Int) ≤ wi ∧ 0 < (recd wi g x).length := by
  unfold recd clampI
  simp only [List.length_append, List.length_drop, List.length_cons, List.length_nil]
  omega
theorem recd_mem {wi : Int} {g : List Int} {x y : Int} (h : y ∈ recd wi g x) : y ∈ g ∨ y = x := by
  unfold recd at h
  rcases List.mem_append.1 h with h | h
  · exact .inl (List.mem_of_mem_drop h)
  · exact .inr (by simpa using h)
theorem Dt.start_ok {d : Dt} (h : d.Ok) (x : Int) : (d.start x).Ok := by
  unfold Dt.start
  split
  · exact h
  · have := Dt.time_range h x
    have := h.l0
    exact ⟨h.mn, h.mx, h.hi, h.wi, h.wh, by show 0 ≤ d.time x; omega, by show d.time x ≤ _; omega, h.len, h.each, fun e => by cases e⟩
theorem Dt.heard_ok {d : Dt} (h : d.Ok) (x : Int) : (d.heard x).Ok := by
  have h1 := Dt.time_range h x
  have h2 := h.l0
  have h3 := h.l1
  have h4 := recd_len (x := d.time x - d.la) h.wi h.len
  refine ⟨h.mn, h.mx, h.hi, h.wi, h.wh, by show 0 ≤ d.time x; omega, by show d.time x ≤ _; omega, ?_, ?_, fun e => by cases e⟩
  · show ((if d.bg = true then recd d.wi d.ga (d.time x - d.la) else d.ga).length : Int) ≤ d.wi
    split
    · exact h4.1
    · exact h.len
  · show ∀ g ∈ (if d.bg = true then recd d.wi d.ga (d.time x - d.la) else d.ga), 0 ≤ g ∧ g ≤ 1099511627776
    intro g hg
    split at hg
    · rcases recd_mem hg with hg | rfl
      · exact h.each g hg
      · omega
    · exact h.each g hg
/-- Which bounds and windows may be. -/
def newOk (mn mx wi : Int) : Bool := decide (1 ≤ mn ∧ mn ≤ mx ∧ mx ≤ 4096 ∧ 1 ≤ wi ∧ wi ≤ 4096)
def Dt.new (mn mx wi : Int) : Dt := ⟨mn, mx, wi, false, 0, []⟩
theorem newOk_yes {mn mx wi : Int} (h : newOk mn mx wi = true) : 1 ≤ mn ∧ mn ≤ mx ∧ mx ≤ 4096 ∧ 1 ≤ wi ∧ wi ≤ 4096 := by simpa [newOk] using h
theorem Dt.new_ok {mn mx wi : Int} (h : newOk mn mx wi = true) : (Dt.new mn mx wi).Ok := by
  obtain ⟨h1, h2, h3, h4, h5⟩ := newOk_yes h
  refine ⟨h1, h2, h3, h4, h5, ?_, ?_, ?_, ?_, fun _ => ⟨rfl, rfl⟩⟩
  · show (0 : Int) ≤ 0
    omega
  · show (0 : Int) ≤ 1099511627776
    omega
  · show ((0 : Nat) : Int) ≤ wi
    omega
  · intro g hg
    cases hg
theorem foldl_add (l : List Int) : ∀ a : Int, l.foldl (fun a b => a + b) a = a + sumI l := by
  unfold sumI
  induction l with
  | nil => intro a; simp
  | cons x l ih => intro a; rw [List.foldl_cons, List.foldl_cons, ih, ih (0 + x)]; omega
theorem sum_cons (x : Int) (l : List Int) : sumI (x :: l) = x + sumI l := by
  show (x :: l).foldl (fun a b => a + b) 0 = _
  rw [List.foldl_cons, foldl_add]
  omega
theorem sum_append (l m : List Int) : sumI (l ++ m) = sumI l + sumI m := by
  show (l ++ m).foldl (fun a b => a + b) 0 = _
  rw [List.foldl_append, foldl_add, foldl_add]
  omega
theorem sum_take {l : List Int} {k : Nat} (h : k < l.length) : sumI (l.take (k + 1)) = sumI (l.take k) + l[k] := by
  rw [List.take_succ_eq_append_getElem h, sum_append]
  congr 1
  show 0 + l[k] = l[k]
  omega
theorem sum_range {l : List Int} (h : ∀ g ∈ l, 0 ≤ g ∧ g ≤ 1099511627776) : 0 ≤ sumI l ∧ sumI l ≤ 1099511627776 * (l.length : Int) := by
  induction l with
  | nil => exact ⟨Int.le_refl _, Int.le_refl _⟩
  | cons x l ih =>
    have h1 := ih fun g hg => h g (List.mem_cons_of_mem _ hg)
    have h2 := h x (by simp)
    rw [sum_cons, List.length_cons]
    omega
theorem Dt.limit_range {d : Dt} (h : d.Ok) : d.mn ≤ d.limit ∧ d.limit ≤ d.mx := by
  unfold Dt.limit
  split
  · exact ⟨h.mx, Int.le_refl _⟩
  · exact clamp_range h.mx
end Go.Proofs.Ytkoeplgkiogjlaa
namespace Go.Proofs.Ytkoeplgkiogjlaa
open Go Go.RowKit
section
variable {α : Type}
/-- The cells of a list of structs. -/
def flatR (enc : α → List Value) (l : List α) : List Value := l.flatMap enc
theorem addr_add_add (a : Addr) (j k : Nat) (hj : 0 < j) : (a.add j).add k = a.add (j + k) := by
  unfold Addr.add
  rw [if_neg (show ¬ j = 0 by omega), if_neg (show ¬ j + k = 0 by omega)]
  split
  · rename_i h
    subst h
    rfl
  · simp
    omega
theorem addr_block (a : Addr) (n : Nat) : (a.add n).block = a.block := by unfold Addr.add; split <;> rfl
/-- As the walk spells it: a cell behind the first one. -/
theorem addr_behind (a : Addr) (m j : Nat) (hj : 0 < j) : a.add (m + j) = ⟨(a.add m).block, (a.add m).off + j, none⟩ := by
  unfold Addr.add
  rw [if_neg (by omega)]
  split
  · rename_i h
    subst h
    simp
  · simp
    omega
variable {enc : α → List Value} {sz : Nat}
/-- The slice v reads as the list l of structs. -/
def Rcs (enc : α → List Value) (sz : Nat) (w : World) (v : Value) (l : List α) : Prop :=
  ∃ A c, v = .slice A l.length c ∧ (A = none → c = 0) ∧ l.length ≤ c ∧ ∀ k (h : k < l.length), ∃ ad, A = some ad ∧ ad.block < w.heap.size ∧ ∀ j u, (enc l[k])[j]? = some u → w.cell? (ad.add (k * sz + j)) = some u
theorem Rcs.below {w w' : World} {v : Value} {l : List α} (h : Rcs enc sz w v l) (hb : Below w.heap.size w w') : Rcs enc sz w' v l := by
  obtain ⟨A, c, hv, h0, hc, hk⟩ := h
  refine ⟨A, c, hv, h0, hc, fun k h => ?_⟩
  obtain ⟨ad, h1, h2, h3⟩ := hk k h
  exact ⟨ad, h1, Nat.lt_of_lt_of_le h2 hb.size, fun j u hu => (hb.cell (by rw [addr_block]; exact h2)).trans (h3 j u hu)⟩
theorem Rcs.nil (w : World) : Rcs enc sz w (.slice none 0 0) [] := ⟨none, 0, rfl, fun _ => rfl, by simp, fun k hk => absurd hk (by simp)⟩
/-- The first cell of an element. -/
theorem Rcs.first {w w' : World} {ad : Addr} {n c : Nat} {l : List α} (h : Rcs enc sz w (.slice (some ad) n c) l) (hw : Below w.heap.size w w') {k : Nat} (hk : k < l.length) {u : Value} (hu : (enc l[k])[0]? = some u) : w'.cell? (ad.add (k * sz)) = some u := by
  obtain ⟨A', c', hv, _, _, hc⟩ := h.below hw
  injection hv with e1 e2 e3
  subst e1
  obtain ⟨ad', h1, _, h3⟩ := hc k hk
  injection h1 with h1
  subst h1
  exact h3 0 u hu
/-- A cell behind an element's first one. -/
theorem Rcs.cell {w w' : World} {ad : Addr} {n c : Nat} {l : List α} (h : Rcs enc sz w (.slice (some ad) n c) l) (hw : Below w.heap.size w w') {k : Nat} (hk : k < l.length) (j : Nat) (hj : 0 < j) {u : Value} (hu : (enc l[k])[j]? = some u) : w'.cell? ⟨(ad.add (k * sz)).block, (ad.add (k * sz)).off + j, none⟩ = some u := by
  obtain ⟨A', c', hv, _, _, hc⟩ := h.below hw
  injection hv with e1 e2 e3
  subst e1
  obtain ⟨ad', h1, _, h3⟩ := hc k hk
  injection h1 with h1
  subst h1
  rw [← addr_behind _ _ _ hj]
  exact h3 j u hu
theorem Rcs.addr {w : World} {A : Option Addr} {n c : Nat} {l : List α} (h : Rcs enc sz w (.slice A n c) l) (hl : 0 < l.length) : ∃ ad, A = some ad := by
  obtain ⟨A', c', hv, _, _, hc⟩ := h
  injection hv with e1 e2 e3
  subst e1
  obtain ⟨ad, h1, _⟩ := hc 0 hl
  exact ⟨ad, h1⟩
/-- The first k of a list. -/
theorem Rcs.take {w : World} {A : Option Addr} {n c k : Nat} {l : List α} (h : Rcs enc sz w (.slice A n c) l) (hk : k ≤ l.length) : Rcs enc sz w (.slice A k c) (l.take k) := by
  obtain ⟨A', c', hv, h0, hc, hx⟩ := h
  injection hv with e1 e2 e3
  subst e1 e3
  refine ⟨A, c, by rw [List.length_take, Nat.min_eq_left hk], h0, by rw [List.length_take, Nat.min_eq_left hk]; omega, fun j hj => ?_⟩
  rw [List.length_take, Nat.min_eq_left hk] at hj
  obtain ⟨ad, h1, h2, h3⟩ := hx j (by omega)
  exact ⟨ad, h1, h2, by rw [List.getElem_take]; exact h3⟩
/-- All but the first k of a list: the address goes on, where there is room behind. -/
theorem Rcs.drop {w : World} {ad : Addr} {n c k : Nat} {l : List α} (hs : 0 < sz) (h : Rcs enc sz w (.slice (some ad) n c) l) (hk : k ≤ l.length) (h0 : 0 < k) : Rcs enc sz w (.slice (some (ad.add (k * sz))) (n - k) (c - k)) (l.drop k) := by
  obtain ⟨A', c', hv, hn, hc2, hx⟩ := h
  injection hv with e1 e2 e3
  subst e1 e3
  refine ⟨some (ad.add (k * sz)), c - k, by rw [List.length_drop, e2], (fun h => by cases h), by rw [List.length_drop]; omega, fun j hj => ?_⟩
  rw [List.length_drop] at hj
  obtain ⟨ad', h1, h2, h3⟩ := hx (k + j) (by omega)
  injection h1 with h1
  subst h1
  refine ⟨_, rfl, by rw [addr_block]; exact h2, fun i u hu => ?_⟩
  rw [addr_add_add _ _ _ (Nat.mul_pos h0 hs), ← Nat.add_assoc, ← Nat.add_mul]
  rw [List.getElem_drop] at hu
  exact h3 i u hu
theorem flatR_len (hs : ∀ a, (enc a).length = sz) (l : List α) : (flatR enc l).length = l.length * sz := by
  unfold flatR
  induction l with
  | nil => simp
  | cons x l ih => rw [List.flatMap_cons, List.length_append, ih, hs, List.length_cons, Nat.add_mul]; omega
theorem flatR_append (l m : List α) : flatR enc (l ++ m) = flatR enc l ++ flatR enc m := List.flatMap_append
theorem flatR_at (hs : ∀ a, (enc a).length = sz) : ∀ (l : List α) (k : Nat) (hk : k < l.length) (j : Nat) (u : Value), (enc l[k])[j]? = some u → (flatR enc l)[k * sz + j]? = some u := by
  intro l
  induction l with
  | nil => intro k hk; simp at hk
  | cons x l ih =>
    intro k hk j u hu
    have hj : j < sz := by
      have := (List.getElem?_eq_some_iff.1 hu).1
      rwa [hs] at this
    unfold flatR
    rw [List.flatMap_cons]
    cases k with
    | zero =>
      rw [Nat.zero_mul, Nat.zero_add, List.getElem?_append_left (by rw [hs]; exact hj)]
      exact hu
    | succ k =>
      rw [List.getElem?_append_right (by rw [hs, Nat.succ_mul]; omega), hs, show (k + 1) * sz + j - sz = k * sz + j by rw [Nat.succ_mul]; omega]
      exact ih k (by simpa using hk) j u hu
theorem flatR_split (hs : ∀ a, (enc a).length = sz) (h0 : 0 < sz) {l : List α} {i : Nat} {u : Value} (h : (flatR enc l)[i]? = some u) : ∃ k, ∃ hk : k < l.length, ∃ j, i = k * sz + j ∧ (enc l[k])[j]? = some u := by
  have hi : i < l.length * sz := by
    have := (List.getElem?_eq_some_iff.1 h).1
    rwa [flatR_len hs] at this
  have hk : i / sz < l.length := (Nat.div_lt_iff_lt_mul h0).2 hi
  have he : i = i / sz * sz + i % sz := by rw [Nat.mul_comm]; exact (Nat.div_add_mod i sz).symm
  have hj := Nat.mod_lt i h0
  refine ⟨i / sz, hk, i % sz, he, ?_⟩
  have h2 : (enc l[i / sz])[i % sz]? = some ((enc l[i / sz])[i % sz]'(by rw [hs]; exact hj)) := List.getElem?_eq_getElem _
  have h3 := flatR_at hs l (i / sz) hk (i % sz) _ h2
  rw [← he, h] at h3
  rw [h2, ← Option.some.inj h3]
/-- The slice v is the call's own, and holds the list l. -/
def OwnsR (enc : α → List Value) (sz : Nat) (e : TypeId) (w : World) (base : Nat) (v : Value) (l : List α) : Prop := w.ownsRow base e sz v l.length (flatR enc l)
theorem OwnsR.nil (e : TypeId) (w : World) (base : Nat) : OwnsR enc sz e w base (.slice none 0 0) [] := World.ownsRow_nil w base e sz
theorem OwnsR.below {e : TypeId} {w w' : World} {base : Nat} {v : Value} {l : List α} (h : OwnsR enc sz e w base v l) (hb : Below w.heap.size w w') : OwnsR enc sz e w' base v l :=
  World.ownsRow.kept h ⟨hb.os, hb.tape, hb.output, hb.size, fun k hk _ => hb.block k hk⟩ (row := none) (by cases hv : v.ownBlock <;> simp)
theorem ownsR_split {e : TypeId} {w : World} {base n : Nat} {v : Value} {xs : List Value} (h : w.ownsRow base e sz v n xs) : (v = .slice none 0 0 ∧ n = 0) ∨ ∃ g cap, v = .slice (some ⟨g, 0, none⟩) n cap ∧ g < w.heap.size ∧ n ≤ cap := by
  rcases id h.2 with h1 | ⟨g, cap, cur, h1, _, _, hn, _⟩
  · exact .inl h1
  · exact .inr ⟨g, cap, h1, (World.ownsRow.lt h g (by rw [h1]; rfl)).2, hn⟩
theorem rcs_owns (hs : ∀ a, (enc a).length = sz) {e : TypeId} {w : World} {base : Nat} {v : Value} {l : List α} (h : OwnsR enc sz e w base v l) : Rcs enc sz w v l := by
  rcases ownsR_split h with ⟨rfl, hn⟩ | ⟨g, cap, rfl, hg, hc⟩
  · have : l = [] := List.eq_nil_of_length_eq_zero (by omega)
    subst this
    exact Rcs.nil w
  · exact ⟨some ⟨g, 0, none⟩, cap, rfl, (fun h => by cases h), hc, fun k hk => ⟨_, rfl, hg, fun j u hu => World.ownsRow.cells h (g := g) rfl _ _ (flatR_at hs l k hk j u hu)⟩⟩
/-- A literal, or what has just been made: a new block with these cells. -/
theorem rcs_lit (hs : ∀ a, (enc a).length = sz) (w : World) (l : List α) (cs : Array Value) (T : TypeId) (h : cs.toList = flatR enc l) : Rcs enc sz (w.alloc (.cells cs T)) (.slice (some ⟨w.heap.size, 0, none⟩) l.length l.length) l := by
  refine ⟨some ⟨w.heap.size, 0, none⟩, l.length, rfl, (fun h => by cases h), Nat.le_refl _, fun k hk => ⟨_, rfl, by simp, fun j u hu => ?_⟩⟩
  have hadd : (⟨w.heap.size, 0, none⟩ : Addr).add (k * sz + j) = ⟨w.heap.size, k * sz + j, none⟩ := by unfold Addr.add; split <;> simp_all
  rw [hadd, cell_of_row _ _ _ _ _ _ (heap_alloc_new w _), ← Array.getElem?_toList, h]
  exact flatR_at hs l k hk j u hu
variable {P : Program}
/-- append of a list to a slice of the call's own. -/
theorem wpList_append_recs {ops : Array Oper} {rest : List Oper} {o : Oper} {a : Act} {Q : Exit → Act → World → Prop} (t e : TypeId) {z : Value} {bytes : Nat} (ht : P.underlying t = some (.slice e))
    (hinfo : (P.info? e).map (fun i => (i.zero, i.size, i.bytes)) = some (some z, sz, bytes)) (hz : z.cells.size = sz) (hs : ∀ a, (enc a).length = sz) (h0 : 0 < sz) (h1 : ∀ a, ∀ u ∈ enc a, u.oneCell' = true) (hby : bytes ≤ 1000)
    (hgd : o.guard = none) (s x : Operand) (ho : o.op = .call { callee := .builtin .append, args := #[s, x], argTypes := #[t, t] })
    (wr : World) (base : Nat) (v u : Value) (d l : List α) (hsv : a.eval s = v) (hx : a.eval x = u)
    (hown : OwnsR enc sz e wr base v d) (hI : Rcs enc sz wr u l) (hl : d.length + l.length ≤ 100000) (hb : base ≤ wr.heap.size)
    (h : ∀ v' w', OwnsR enc sz e w' base v' (d ++ l) → Below base wr w' → wpList P ops Q rest (a.put o.dst v') w') :
    wpList P ops Q (o :: rest) a wr := by
  obtain ⟨i0, hi, hz0, hz1, hz2⟩ := info_parts hinfo
  obtain ⟨A, c, rfl, hn0, hc, hk⟩ := hI
  cases A with
  | none =>
    obtain rfl := hn0 rfl
    have hn : l = [] := List.eq_nil_of_length_eq_zero (by omega)
    subst hn
    refine wpList_append_own_none hgd s x t ho base e i0 sz ht hi _ d.length (flatR enc d) hsv hown hx (h _ _ (by rw [List.append_nil]; exact hown) (Below.refl _ _))
  | some ad =>
    refine wpList_append_own _ hgd s x t ho base e i0 z sz bytes ht hi hz0 hz1 hz2 hz h0 v d.length (flatR enc d) hsv hown ad l.length c (flatR enc l) hx (flatR_len hs l)
      (fun j u hu => ?_) (fun u hu => ?_) (by unfold maxLen; omega) ?_ hb ?_
    · obtain ⟨k, hlt, i, rfl, hu2⟩ := flatR_split hs h0 hu
      obtain ⟨ad', e, h1, h2⟩ := hk k hlt
      injection e with e
      subst e
      exact h2 i u hu2
    · obtain ⟨x, _, hx⟩ := List.mem_flatMap.1 hu
      exact h1 x u hx
    · have : (d.length + l.length) * bytes ≤ 100000 * 1000 := Nat.mul_le_mul hl hby
      omega
    · intro v' w' h1 h2 _
      refine h v' w' ?_ ((Below.refl base wr).grown h2 hb fun k hk => (World.ownsRow.lt hown k hk).1)
      unfold OwnsR
      rw [flatR_append, List.length_append]
      exact h1
end
section
variable {H : Type} {enc' : TypeId × Value → H} {P : Program} {w : World} {base : Nat} {spare : Nat → Bool} {held : Bool} {α : Type} {enc : α → List Value} {sz : Nat}
/-- A slice of structs that came in, opened; of each something more is known. -/
theorem open_recs_with (Pr : α → Prop) {t e : TypeId} {fuel : Nat} {cs : List Value} {x : DataW H × List MemPlace} (ht : P.underlying t = some (.slice e)) (ce : P.cellsOf e = sz) (hs : ∀ a, (enc a).length = sz)
    (elem : ∀ (n : Nat) (cs : List Value) (d : DataW H × List MemPlace), DataW.trod enc' P w base spare held n e cs = some d → ∃ r : α, cs = enc r ∧ Pr r)
    (hsz : 0 < sz) (h : DataW.trod enc' P w base spare held fuel t cs = some x) : ∃ v, cs = [v] ∧ ∃ l : List α, Rcs enc sz w v l ∧ ∀ r ∈ l, Pr r := by
  rcases Deep.open_slice ht h with ⟨rfl, _⟩ | ⟨a, len, cap, m, n, D, Pl, rfl, hb, hl, hm, hmm, rfl, hx⟩
  · exact ⟨_, rfl, [], Rcs.nil w, fun r hr => by cases hr⟩
  · have hlm : len ≤ m := by rw [hmm]; split <;> omega
    have each : ∀ i, i < len → ∃ r : α, Pr r ∧ ∀ j u, (enc r)[j]? = some u → w.cell? ((a.add (i * sz)).add j) = some u := by
      intro i hi
      obtain ⟨cs', h1, h2⟩ := hx i (by omega)
      rw [ce] at h1
      obtain ⟨r, rfl, hp⟩ := elem _ _ _ h2
      obtain ⟨_, hlen, hcell⟩ := World.cells?_some h1
      refine ⟨r, hp, fun j u hu => ?_⟩
      have hj := (List.getElem?_eq_some_iff.1 hu).1
      rw [hs] at hj
      rw [hcell j hj]
      exact hu
    obtain ⟨q, hq, hpq⟩ : ∃ q : List α, (q.length = len ∧ ∀ i (h : i < q.length), ∀ j u, (enc q[i])[j]? = some u → w.cell? ((a.add (i * sz)).add j) = some u) ∧ ∀ r ∈ q, Pr r := by
      clear hx hlm hmm hl hm h
      induction len with
      | zero => exact ⟨[], ⟨rfl, fun i h => absurd h (by simp)⟩, fun r hr => by cases hr⟩
      | succ len ih =>
        obtain ⟨q, ⟨h1, h2⟩, h3⟩ := ih (fun i hi => each i (by omega))
        obtain ⟨r, hp, hr⟩ := each len (by omega)
        refine ⟨q ++ [r], ⟨by simp [h1], fun i hi j u hu => ?_⟩, fun u hu => ?_⟩
        rotate_left
        · rcases List.mem_append.1 hu with hu | hu
          · exact h3 u hu
          · rw [List.mem_singleton.1 hu]; exact hp
        rw [List.length_append] at hi
        by_cases e : i < q.length
        · rw [List.getElem_append_left e] at hu
          exact h2 i e j u hu
        · have : i = q.length := by simp at hi; omega
          subst this
          rw [List.getElem_append_right (Nat.le_refl _)] at hu
          simp at hu
          rw [h1]
          exact hr j u hu
    refine ⟨_, rfl, q, ⟨some a, cap, by rw [hq.1], (fun h => by cases h), by rw [hq.1]; exact hl, fun k hk => ⟨a, rfl, ?_, fun j u hu => ?_⟩⟩, hpq⟩
    · have hcl : 0 < (enc q[k]).length := by rw [hs]; exact hsz
      have := hq.2 k hk 0 _ (List.getElem?_eq_getElem hcl)
      have := World.block_lt_of_cell? w _ this
      rwa [addr_block, addr_block] at this
    · have := hq.2 k hk j u hu
      rcases Nat.eq_zero_or_pos (k * sz) with e | e
      · rw [e] at this ⊢
        rw [Nat.zero_add]
        have e2 : a.add 0 = a := by unfold Addr.add; simp
        rwa [e2] at this
      · rwa [addr_add_add _ _ _ e] at this
end
end Go.Proofs.Ytkoeplgkiogjlaa
namespace Go.Proofs.Ytkoeplgkiogjlaa
open Go Go.RowKit
theorem below_oneX (w : World) (o : Obj) : Below w.heap.size w (w.alloc o) := (Below.refl _ _).alloc (Nat.le_refl _) _
def encN (n : Int) : List Value := [.int .i64 n]
theorem encN_len (n : Int) : (encN n).length = 1 := rfl
theorem encN_one (n : Int) : ∀ u ∈ encN n, u.oneCell' = true := fun u hu => by
  simp [encN] at hu
  subst hu
  rfl
theorem info3 : (Try.prog.info? 3).map (fun i => (i.zero, i.size, i.bytes)) = some (some (.int .i64 0), 1, 8) := by kernel_rfl
/-- Block l holds the detector d, of type T (81: the program's; 83: the document's). -/
def DBox (T : TypeId) (w : World) (l : Nat) (d : Dt) (v : Value) : Prop := w.heap[l]? = some (.cells #[.int .i64 d.mn, .int .i64 d.mx, .int .i64 d.wi, .bool d.bg, .int .i64 d.la, v] T (0, 0))
theorem dbox_lt {T : TypeId} {w : World} {l : Nat} {d : Dt} {v : Value} (h : DBox T w l d v) : l < w.heap.size := row_lt h
theorem dbox_cells {T : TypeId} {w : World} {l : Nat} {d : Dt} {v : Value} (h : DBox T w l d v) : w.cell? ⟨l, 0, none⟩ = some (.int .i64 d.mn) ∧ w.cell? ⟨l, 1, none⟩ = some (.int .i64 d.mx) ∧ w.cell? ⟨l, 2, none⟩ = some (.int .i64 d.wi) ∧ w.cell? ⟨l, 3, none⟩ = some (.bool d.bg) ∧ w.cell? ⟨l, 4, none⟩ = some (.int .i64 d.la) ∧ w.cell? ⟨l, 5, none⟩ = some v := by
  unfold DBox at h
  refine ⟨?_, ?_, ?_, ?_, ?_, ?_⟩ <;> (rw [cell_of_row _ _ _ _ _ _ h]; rfl)
theorem dbox_free {T : TypeId} {w : World} {l : Nat} {d : Dt} {v : Value} (h : DBox T w l d v) : w.frozen? ⟨l, 3, none⟩ = false ∧ w.frozen? ⟨l, 4, none⟩ = false ∧ w.frozen? ⟨l, 5, none⟩ = false := by
  unfold DBox at h
  refine ⟨?_, ?_, ?_⟩ <;> simp [World.frozen?, h]
theorem dbox_below {T : TypeId} {w w' : World} {l : Nat} {d : Dt} {v : Value} (h : DBox T w l d v) (hb : Below w.heap.size w w') : DBox T w' l d v := (hb.block _ (row_lt h)).trans h
/-- The gaps of a detector are a row of the call's own. -/
def Gaps (w : World) (base : Nat) (v : Value) (g : List Int) : Prop := OwnsR encN 1 3 w base v g
/-- A detector, whole: its box from base on, and its gaps. -/
structure Det (T : TypeId) (w : World) (base l : Nat) (d : Dt) (v : Value) : Prop where
  box : DBox T w l d v
  lo : base ≤ l
  gaps : Gaps w base v d.ga
  ne : T ≠ 3
theorem gaps_slice {w : World} {base : Nat} {v : Value} {g : List Int} (h : Gaps w base v g) : ∃ A c, v = .slice A g.length c ∧ g.length ≤ c ∧ (A = none → c = 0) := by
  rcases ownsR_split h with ⟨rfl, hn⟩ | ⟨b, cap, rfl, hg, hc⟩
  · exact ⟨none, 0, by rw [hn], by omega, fun _ => rfl⟩
  · exact ⟨_, cap, rfl, hc, fun e => by cases e⟩
theorem gaps_rcs {w : World} {base : Nat} {v : Value} {g : List Int} (h : Gaps w base v g) : Rcs encN 1 w v g := rcs_owns encN_len h
/-- A block of a row of numbers is of their type. -/
theorem gaps_type {w : World} {base b : Nat} {v : Value} {g : List Int} (h : Gaps w base v g) (hb : v.ownBlock = some b) : ∃ cs, w.heap[b]? = some (.cells cs 3 (0, 0)) := by
  rcases h.2 with ⟨rfl, _⟩ | ⟨g', cap, cur, rfl, _, hg, _⟩
  · cases hb
  · injection hb with hb
    subst hb
    exact ⟨cur, hg⟩
theorem Det.below {T : TypeId} {w w' : World} {base l : Nat} {d : Dt} {v : Value} (h : Det T w base l d v) (hb : Below w.heap.size w w') : Det T w' base l d v := ⟨dbox_below h.box hb, h.lo, OwnsR.below h.gaps hb, h.ne⟩
theorem Det.lt {T : TypeId} {w : World} {base l : Nat} {d : Dt} {v : Value} (h : Det T w base l d v) : l < w.heap.size := dbox_lt h.box
theorem Det.far {T : TypeId} {w : World} {base l : Nat} {d : Dt} {v : Value} (h : Det T w base l d v) : v.ownBlock ≠ some l := fun e => by
  obtain ⟨cs, h1⟩ := gaps_type h.gaps e
  have h2 := h.box
  unfold DBox at h2
  rw [h1] at h2
  injection h2 with h2
  injection h2 with _ h3
  exact h.ne h3.symm
/-- Another detector may be written. -/
theorem Det.kept {T T' : TypeId} {w w' : World} {base l l' b' : Nat} {d d' : Dt} {v v' : Value} (h : Det T w base l d v) (k : Det T' w b' l' d' v') (hg : w.grownBy w' (some l')) (hne : l ≠ l') : Det T w' base l d v := by
  refine ⟨(hg.block _ h.lt (fun e => hne (by injection e))).trans h.box, h.lo, World.ownsRow.kept h.gaps hg (.inr fun e => ?_), h.ne⟩
  obtain ⟨cs, h1⟩ := gaps_type h.gaps e
  have h2 := k.box
  unfold DBox at h2
  rw [h1] at h2
  injection h2 with h2
  injection h2 with _ h3
  exact k.ne h3.symm
theorem grown_refl (w : World) (l : Nat) : w.grownBy w (some l) := World.grownBy.refl w _
theorem grown_trans {a w w' : World} {row : Option Nat} (h : a.grownBy w row) (k : w.grownBy w' row) : a.grownBy w' row :=
  ⟨k.os.trans h.os, k.tape.trans h.tape, k.output.trans h.output, Nat.le_trans h.size k.size, fun i hi hne => (k.block i (Nat.lt_of_lt_of_le hi h.size) hne).trans (h.block i hi hne)⟩
theorem grown_below {w w' : World} (h : Below w.heap.size w w') (row : Option Nat) : w.grownBy w' row := ⟨h.os, h.tape, h.output, h.size, fun k hk _ => h.block k hk⟩
theorem grown_setX (w : World) (b i : Nat) (v : Value) : w.grownBy (w.setCell ⟨b, i, none⟩ v) (some b) :=
  ⟨rfl, rfl, rfl, by simp [World.setCell], fun k _ hne => Below.heap_setCell _ _ _ _ (fun e => hne (by rw [e]))⟩
/-- What a call has written lies from base on. -/
theorem below_grown {B : Nat} {a w w' : World} {l : Nat} (h : Below B a w) (hg : w.grownBy w' (some l)) (hB : B ≤ a.heap.size) (hl : B ≤ l) : Below B a w' :=
  h.grown hg (Nat.le_trans hB h.size) fun k hk => by injection hk with hk; omega
theorem dbox_set4 {T : TypeId} {w : World} {l : Nat} {d : Dt} {v : Value} (h : DBox T w l d v) (x : Int) : DBox T (w.setCell ⟨l, 4, none⟩ (.int .i64 x)) l ⟨d.mn, d.mx, d.wi, d.bg, x, d.ga⟩ v := by
  unfold DBox at *
  simp [World.setCell, Array.getElem?_modify, h]
theorem dbox_set3 {T : TypeId} {w : World} {l : Nat} {d : Dt} {v : Value} (h : DBox T w l d v) (b : Bool) : DBox T (w.setCell ⟨l, 3, none⟩ (.bool b)) l ⟨d.mn, d.mx, d.wi, b, d.la, d.ga⟩ v := by
  unfold DBox at *
  simp [World.setCell, Array.getElem?_modify, h]
theorem dbox_set5 {T : TypeId} {w : World} {l : Nat} {d : Dt} {v : Value} (h : DBox T w l d v) (u : Value) (g : List Int) : DBox T (w.setCell ⟨l, 5, none⟩ u) l ⟨d.mn, d.mx, d.wi, d.bg, d.la, g⟩ u := by
  unfold DBox at *
  simp [World.setCell, Array.getElem?_modify, h]
theorem gaps_set {T : TypeId} {w : World} {base l i : Nat} {d : Dt} {v u : Value} (h : DBox T w l d v) (hT : T ≠ 3) {u' : Value} {g : List Int} (hu : Gaps w base u' g) : Gaps (w.setCell ⟨l, i, none⟩ u) base u' g :=
  World.ownsRow.kept hu (grown_setX w l i u) (.inr fun e => by
    obtain ⟨cs, h1⟩ := gaps_type hu e
    unfold DBox at h
    rw [h1] at h
    injection h with h
    injection h with _ h3
    exact hT h3.symm)
/-- The last time is written, and that there is one. -/
theorem Det.put {T : TypeId} {w : World} {base l : Nat} {d : Dt} {v : Value} (h : Det T w base l d v) (x : Int) : Det T ((w.setCell ⟨l, 4, none⟩ (.int .i64 x)).setCell ⟨l, 3, none⟩ (.bool true)) base l ⟨d.mn, d.mx, d.wi, true, x, d.ga⟩ v ∧ w.grownBy ((w.setCell ⟨l, 4, none⟩ (.int .i64 x)).setCell ⟨l, 3, none⟩ (.bool true)) (some l) :=
  ⟨⟨dbox_set3 (dbox_set4 h.box x) true, h.lo, gaps_set (dbox_set4 h.box x) h.ne (gaps_set h.box h.ne h.gaps), h.ne⟩, grown_trans (grown_setX _ _ _ _) (grown_setX _ _ _ _)⟩
/-- Other gaps are written. -/
theorem Det.gap {T : TypeId} {w : World} {base l : Nat} {d : Dt} {v u : Value} {g : List Int} (h : Det T w base l d v) (hu : Gaps w base u g) : Det T (w.setCell ⟨l, 5, none⟩ u) base l ⟨d.mn, d.mx, d.wi, d.bg, d.la, g⟩ u ∧ w.grownBy (w.setCell ⟨l, 5, none⟩ u) (some l) :=
  ⟨⟨dbox_set5 h.box u g, h.lo, gaps_set h.box h.ne hu, h.ne⟩, grown_setX _ _ _ _⟩
/-- A new detector. -/
theorem Det.new (w : World) (T : TypeId) (hT : T ≠ 3) (mn mx wi : Int) : Det T (w.alloc (.cells #[.int .i64 mn, .int .i64 mx, .int .i64 wi, .bool false, .int .i64 0, .slice none 0 0] T)) w.heap.size w.heap.size (Dt.new mn mx wi) (.slice none 0 0) :=
  ⟨heap_alloc_new w _, Nat.le_refl _, OwnsR.nil _ _ _, hT⟩
theorem Det.mono {T : TypeId} {w : World} {base base' l : Nat} {d : Dt} {v : Value} (h : Det T w base l d v) (hb : base' ≤ base) : Det T w base' l d v := ⟨h.box, Nat.le_trans hb h.lo, World.ownsRow.mono h.gaps hb, h.ne⟩
end Go.Proofs.Ytkoeplgkiogjlaa
namespace Go.Proofs.Ytkoeplgkiogjlaa
open Go Go.RowKit
theorem min_two (a b : Int) (w : World) : (Builtin.min_ #[3, 3] 3 #[.int .i64 a, .int .i64 b]).run Try.prog w = .ok (.int .i64 (min a b)) w := by
  have e : (if b < a then b else a) = min a b := by split <;> omega
  have h2 : Builtin.min2 (.int .i64 a) (.int .i64 b) = pure (.int .i64 (min a b)) := by simp [Builtin.min2, e]
  simp [Builtin.min_, h2, List.foldlM, Sem.run_pure]
theorem max_two (a b : Int) (w : World) : (Builtin.max_ #[3, 3] 3 #[.int .i64 a, .int .i64 b]).run Try.prog w = .ok (.int .i64 (max a b)) w := by
  have e : (if a < b then b else a) = max a b := by split <;> omega
  have h2 : Builtin.max2 (.int .i64 a) (.int .i64 b) = pure (.int .i64 (max a b)) := by simp [Builtin.max2, e]
  simp [Builtin.max_, h2, List.foldlM, Sem.run_pure]
theorem within_any (x lo hi : Int) (w : World) : Calls Try.prog 58 #[.int .i64 x, .int .i64 lo, .int .i64 hi] w fun e w' => e = .returned (.int .i64 (clampI x lo hi)) ∧ w' = w := by
  have h1 : ∀ W, (Builtin.min_ #[3, 3] 3 #[.int .i64 x, .int .i64 hi]).run Try.prog W = .ok (.int .i64 (min x hi)) W := fun W => min_two _ _ W
  have h2 : ∀ W, (Builtin.max_ #[3, 3] 3 #[.int .i64 lo, .int .i64 (min x hi)]).run Try.prog W = .ok (.int .i64 (clampI x lo hi)) W := fun W => max_two _ _ W
  go_enter Try.func58, Try.ntmps58
  go_wp2_with fail
  go_ret
  exact ⟨rfl, rfl⟩
theorem time_any (l : Nat) (d : Dt) (v : Value) (x : Int) (w : World) (h : DBox 81 w l d v) : Calls Try.prog 47 #[.pointer (some ⟨l, 0, none⟩), .int .i64 x] w fun e w' => e = .returned (.int .i64 (d.time x)) ∧ w' = w := by
  obtain ⟨c0, c1, c2, c3, c4, c5⟩ := dbox_cells h
  clear h
  go_enter Try.func47, Try.ntmps47
  go_wp2_with fail
  (with_reducible refine (within_any _ _ _ _).mono ?_)
  rintro e w1 ⟨rfl, rfl⟩
  go_wp2_with fail
  go_ret
  exact ⟨rfl, rfl⟩
/-- What was done to the detector at l. -/
def Done (T : TypeId) (base l : Nat) (d : Dt) (v0 : Value) (w : World) (e : Ending) (w' : World) : Prop := e = .returned (.tuple #[]) ∧ ∃ v, Det T w' base l d v ∧ w.grownBy w' (some l) ∧ ∀ g, v.ownBlock = some g → v0.ownBlock = some g ∨ w.heap.size ≤ g
theorem begin_any (base l : Nat) (d : Dt) (v : Value) (x : Int) (w : World) (h : Det 81 w base l d v) : Calls Try.prog 53 #[.pointer (some ⟨l, 0, none⟩), .int .i64 x] w (Done 81 base l (d.start x) v w) := by
  have H := Lib.hid h
  obtain ⟨c0, c1, c2, c3, c4, c5⟩ := dbox_cells h.box
  obtain ⟨f3, f4, f5⟩ := dbox_free h.box
  clear h
  cases hb : d.bg
  · have E := Lib.hid (show d.start x = ⟨d.mn, d.mx, d.wi, true, d.time x, d.ga⟩ by unfold Dt.start; rw [hb]; rfl)
    have HB := Lib.hid hb
    rw [hb] at c3
    clear hb
    go_enter Try.func53, Try.ntmps53
    go_wp2_with fail
    (with_reducible refine (time_any l d v x _ H.out.box).mono ?_)
    rintro e w1 ⟨rfl, rfl⟩
    go_wp2_with fail
    go_end0
    refine ⟨rfl, v, ?_, (H.out.put _).2, fun g hg => .inl hg⟩
    rw [E.out]
    exact (H.out.put _).1
  · have E := Lib.hid (show d.start x = d by unfold Dt.start; rw [hb]; rfl)
    rw [hb] at c3
    clear hb
    go_enter Try.func53, Try.ntmps53
    go_wp2_with fail
    go_end0
    refine ⟨rfl, v, ?_, grown_refl _ _, fun g hg => .inl hg⟩
    rw [E.out]
    exact H.out
end Go.Proofs.Ytkoeplgkiogjlaa
namespace Go.Proofs.Ytkoeplgkiogjlaa
open Go Go.RowKit
theorem elem34 : Try.prog.elem 45 = 3 := by kernel_rfl
theorem under34 : Try.prog.underlying 45 = some (.slice (Try.prog.elem 45)) := by rw [elem34]; exact Try.underlying45
theorem size3 (W : World) : (sizeOf 3).run Try.prog W = .ok 1 W := by kernel_rfl
/-- The last gaps, cut with their capacity. -/
theorem run_cut {w : World} {base : Nat} {v : Value} {g : List Int} (h : Gaps w base v g) (k : Nat) (hk : k ≤ g.length) :
    ∃ A, (∀ W, (Instr.slice 45 v (some (.int .i64 (k : Int))) (some (.int .i64 (g.length : Int))) (some (.int .i64 (g.length : Int)))).run Try.prog W = .ok (.slice A (g.length - k) (g.length - k)) W) ∧ Rcs encN 1 w (.slice A (g.length - k) (g.length - k)) (g.drop k) := by
  obtain ⟨A, c, rfl, h0, hc, hx⟩ := gaps_rcs h
  refine ⟨if g.length = k then A else A.map (·.add (k * 1)), fun W => ?_, ?_⟩
  · rw [run_slice_lhm (w := W) (P := Try.prog) 45 A g.length c under34 .i64 .i64 .i64 (k : Int) _ _ (by omega) (by omega) (by omega) (by omega), elem34, size3]
    simp [Result.andThen, sliced]
  · refine ⟨_, g.length - k, by rw [List.length_drop], fun e => ?_, by rw [List.length_drop]; omega, fun j hj => ?_⟩
    · by_cases e2 : g.length = k
      · omega
      · rw [if_neg e2] at e
        cases A with
        | none => have := h0 rfl; omega
        | some a => cases e
    · rw [List.length_drop] at hj
      rw [if_neg (by omega)]
      obtain ⟨ad, rfl, h2, h3⟩ := hx (k + j) (by omega)
      refine ⟨_, rfl, by rw [addr_block]; exact h2, fun i u hu => ?_⟩
      rw [List.getElem_drop] at hu
      have h4 := h3 i u hu
      rw [Nat.mul_one] at h4
      show w.cell? ((ad.add (k * 1)).add (j * 1 + i)) = some u
      rw [Nat.mul_one, Nat.mul_one]
      rcases Nat.eq_zero_or_pos k with e | e
      · subst e
        rw [add_zero']
        rwa [Nat.zero_add] at h4
      · rw [addr_add_add _ _ _ e, ← Nat.add_assoc]
        exact h4
theorem flatN_len (l : List Int) : (flatR encN l).length = l.length * 1 := flatR_len encN_len l
/-- append of one number to a list that is cut with its capacity: a new row. -/
theorem wpList_record {ops : Array Oper} {rest : List Oper} {o : Oper} {a : Act} {Q : Exit → Act → World → Prop} (hgd : o.guard = none) (s x : Operand)
    (ho : o.op = .call { callee := .builtin .append, args := #[s, x], argTypes := #[45, 45] })
    (wr : World) (A : Option Addr) (n : Nat) (l : List Int) (y : Int) (hs : a.eval s = .slice A n n) (hx : a.eval x = .slice (some ⟨wr.heap.size, 0, none⟩) 1 1)
    (hI : Rcs encN 1 wr (.slice A n n) l) (hn : n = l.length) (hl : l.length ≤ 100000)
    (h : ∀ v' w', Gaps w' wr.heap.size v' (l ++ [y]) → Below wr.heap.size wr w' → wpList Try.prog ops Q rest (a.put o.dst v') w') :
    wpList Try.prog ops Q (o :: rest) a (wr.alloc (.cells #[.int .i64 y] 3)) := by
  obtain ⟨i0, hi, hz0, hz1, hz2⟩ := info_parts info3
  have hI' := hI.below (below_oneX wr (.cells #[.int .i64 y] 3))
  subst hn
  obtain ⟨A', c', hv, h0, hc, hk⟩ := id hI'
  injection hv with e1 e2 e3
  subst e1 e3
  refine wpList_append_grows _ hgd s x 45 ho 3 i0 (.int .i64 0) 1 8 Try.underlying45 hi hz0 hz1 hz2 rfl (by decide) A l.length l.length (flatR encN l) hs (fun e => ⟨h0 e, h0 e⟩) (flatN_len l)
    (fun b e j u hu => ?_) ⟨wr.heap.size, 0, none⟩ 1 1 [.int .i64 y] hx rfl (fun j u hu => ?_) (by simp [Value.oneCell']) (by omega) (by unfold maxLen; omega) (by omega) ?_
  · subst e
    obtain ⟨k, hlt, i, rfl, hu2⟩ := flatR_split encN_len (by decide) hu
    obtain ⟨ad', e, h1, h2⟩ := hk k hlt
    injection e with e
    subst e
    exact h2 i u hu2
  · cases j with
    | zero =>
      simp at hu
      subst hu
      show (wr.alloc (.cells #[.int .i64 y] 3)).cell? ⟨wr.heap.size, 0, none⟩ = _
      rw [cell_of_row _ _ 0 _ _ _ (heap_alloc_new wr _)]
      rfl
    | succ j => simp at hu
  · intro v' w' h1 h2
    have hb : Below wr.heap.size wr w' := ((Below.refl _ wr).alloc (Nat.le_refl _) _).grown h2 (by simp) fun k hk => by cases hk
    refine h v' w' ?_ hb
    unfold Gaps OwnsR
    rw [flatR_append, List.length_append]
    exact World.ownsRow.mono h1 (by simp)
theorem OwnsR.mono_base {w : World} {base base' : Nat} {v : Value} {g : List Int} (h : Gaps w base v g) (hb : base' ≤ base) : Gaps w base' v g := World.ownsRow.mono h hb
set_option maxHeartbeats 1000000 in
theorem record_any (base l : Nat) (d : Dt) (v : Value) (x : Int) (w : World) (h : Det 81 w base l d v) (hd : d.Ok) (hB : base ≤ w.heap.size) : Calls Try.prog 48 #[.pointer (some ⟨l, 0, none⟩), .int .i64 x] w (Done 81 base l ⟨d.mn, d.mx, d.wi, d.bg, d.la, recd d.wi d.ga x⟩ v w) := by
  have H := Lib.hid h
  have hlen := hd.len
  have hw1 := hd.wi
  have hw2 := hd.wh
  obtain ⟨k, hk⟩ : ∃ k : Nat, clampI ((d.ga.length : Int) + 1 - d.wi) 0 (d.ga.length : Int) = k := ⟨(clampI ((d.ga.length : Int) + 1 - d.wi) 0 (d.ga.length : Int)).toNat, by unfold clampI; omega⟩
  have hkl : k ≤ d.ga.length := by unfold clampI at hk; omega
  have K := Lib.hid (show clampI ((d.ga.length : Int) + 1 - d.wi) 0 (d.ga.length : Int) = k from hk)
  have E := Lib.hid (show recd d.wi d.ga x = d.ga.drop k ++ [x] by unfold recd; rw [hk]; simp)
  obtain ⟨c0, c1, c2, c3, c4, c5⟩ := dbox_cells h.box
  obtain ⟨f3, f4, f5⟩ := dbox_free h.box
  obtain ⟨V, hcut, hR⟩ := run_cut h.gaps k hkl
  have HR := Lib.hid hR
  obtain ⟨A, c, rfl, hc, hnn⟩ := gaps_slice h.gaps
  have HB := Lib.hid hB
  have HK := Lib.hid hkl
  clear h hd hR hk hnn hc f3 f4 hB hkl
  have hwr : IntKind.i64.wrap ((d.ga.length : Int) + 1) = (d.ga.length : Int) + 1 := IntWalk.i64_in _ ⟨by omega, by omega⟩
  have hws : IntKind.i64.wrap ((d.ga.length : Int) + 1 - d.wi) = (d.ga.length : Int) + 1 - d.wi := IntWalk.i64_in _ ⟨by omega, by omega⟩
  go_enter Try.func48, Try.ntmps48
  go_wp2_with fail
  (with_reducible refine (within_any _ _ _ _).mono ?_)
  rintro e w1 ⟨rfl, rfl⟩
  rw [K.out]
  go_wp2_with (refine wpList_record rfl _ _ rfl w1 V _ _ _ rfl rfl HR.out (by simp) (by simp; omega) ?_; intro v' w' hg hb; obtain ⟨A2, n2, c2, rfl⟩ : ∃ A2 n2 c2, v' = .slice A2 n2 c2 := (by obtain ⟨A2, c2, e, _⟩ := gaps_slice hg; exact ⟨A2, _, c2, e⟩); have G := Lib.hid hg; have B := Lib.hid hb; have H2 := Lib.hid (H.out.below hb); have c5' := (dbox_cells H2.out.box).2.2.2.2.2; have f5' := (dbox_free H2.out.box).2.2; clear hg hb)
  go_end0
  have X := H2.out.gap (OwnsR.mono_base G.out HB.out)
  rw [← E.out] at X
  exact ⟨rfl, .slice A2 n2 c2, X.1, grown_trans (grown_below B.out _) X.2, fun g hg => .inr (World.ownsRow.lt G.out g hg).1⟩
end Go.Proofs.Ytkoeplgkiogjlaa
namespace Go.Proofs.Ytkoeplgkiogjlaa
open Go Go.RowKit
theorem heard_any (base l : Nat) (d : Dt) (v : Value) (x : Int) (w : World) (h : Det 81 w base l d v) (hd : d.Ok) (hB : base ≤ w.heap.size) : Calls Try.prog 30 #[.pointer (some ⟨l, 0, none⟩), .int .i64 x] w (Done 81 base l (d.heard x) v w) := by
  have H := Lib.hid h
  have HD := Lib.hid hd
  have HB := Lib.hid hB
  have hr1 := (Dt.time_range hd x).1
  have hr2 := (Dt.time_range hd x).2
  have hr3 := hd.l0
  obtain ⟨c0, c1, c2, c3, c4, c5⟩ := dbox_cells h.box
  obtain ⟨f3, f4, f5⟩ := dbox_free h.box
  have hwr : IntKind.i64.wrap (d.time x - d.la) = d.time x - d.la := IntWalk.i64_in _ ⟨by omega, by omega⟩
  clear h hd hB
  cases hb : d.bg
  · have E := Lib.hid (show d.heard x = ⟨d.mn, d.mx, d.wi, true, d.time x, d.ga⟩ by unfold Dt.heard; rw [hb]; rfl)
    rw [hb] at c3
    clear hb hr1 hr2 hr3
    go_enter Try.func30, Try.ntmps30
    go_wp2_with fail
    (with_reducible refine (time_any l d v x _ H.out.box).mono ?_)
    rintro e w1 ⟨rfl, rfl⟩
    go_wp2_with fail
    go_end0
    refine ⟨rfl, v, ?_, (H.out.put _).2, fun g hg => .inl hg⟩
    rw [E.out]
    exact (H.out.put _).1
  · have E := Lib.hid (show d.heard x = ⟨d.mn, d.mx, d.wi, true, d.time x, recd d.wi d.ga (d.time x - d.la)⟩ by unfold Dt.heard; rw [hb]; rfl)
    rw [hb] at c3
    clear hb hr1 hr2 hr3
    go_enter Try.func30, Try.ntmps30
    go_wp2_with fail
    (with_reducible refine (time_any l d v x _ H.out.box).mono ?_)
    rintro e w1 ⟨rfl, rfl⟩
    go_wp2_with fail
    (with_reducible refine (record_any base l d v _ _ H.out HD.out HB.out).mono ?_)
    rintro e w2 ⟨rfl, v2, hv, hg, hn⟩
    have H2 := Lib.hid hv
    have G2 := Lib.hid hg
    have N2 := Lib.hid hn
    clear c0 c1 c2 c3 c4 c5 f3 f4 f5 hv hg hn
    obtain ⟨c0, c1, c2, c3, c4, c5⟩ := dbox_cells H2.out.box
    obtain ⟨f3, f4, f5⟩ := dbox_free H2.out.box
    go_wp2_with fail
    go_end0
    have X := H2.out.put (d.time x)
    have E2 := E.out
    refine ⟨rfl, v2, ?_, grown_trans G2.out X.2, N2.out⟩
    rw [E2]
    exact X.1
theorem new_yes (mn mx wi : Int) (h : newOk mn mx wi = true) (w : World) : Calls Try.prog 26 #[.int .i64 mn, .int .i64 mx, .int .i64 wi] w fun e w' => ∃ l v, e = .returned (.tuple #[.pointer (some ⟨l, 0, none⟩), .int .i64 0]) ∧ Det 81 w' w.heap.size l (Dt.new mn mx wi) v ∧ Below w.heap.size w w' := by
  obtain ⟨h1, h2, h3, h4, h5⟩ := newOk_yes h
  clear h
  have X := Lib.hid (Det.new w 81 (by decide) mn mx wi)
  have B := Lib.hid (below_oneX w (.cells #[.int .i64 mn, .int .i64 mx, .int .i64 wi, .bool false, .int .i64 0, .slice none 0 0] 81))
  go_enter Try.func26, Try.ntmps26
  go_wp2_with fail
  go_ret2
  exact ⟨_, _, rfl, X.out, B.out⟩
theorem new_no (mn mx wi : Int) (h : newOk mn mx wi = false) (w : World) : Calls Try.prog 26 #[.int .i64 mn, .int .i64 mx, .int .i64 wi] w fun e w' => e = .returned (.tuple #[.pointer none, .int .i64 1]) ∧ Below w.heap.size w w' := by
  have HN := Lib.hid (show ¬ (1 ≤ mn ∧ mn ≤ mx ∧ mx ≤ 4096 ∧ 1 ≤ wi ∧ wi ≤ 4096) by simpa [newOk] using h)
  clear h
  by_cases h1 : mn < 1
  · go_enter Try.func26, Try.ntmps26
    go_wp2_with fail
    go_ret2
    exact ⟨rfl, Below.refl _ _⟩
  · by_cases h2 : mx < mn
    · go_enter Try.func26, Try.ntmps26
      go_wp2_with fail
      go_ret2
      exact ⟨rfl, Below.refl _ _⟩
    · by_cases h3 : 4096 < mx
      · go_enter Try.func26, Try.ntmps26
        go_wp2_with fail
        go_ret2
        exact ⟨rfl, Below.refl _ _⟩
      · by_cases h4 : wi < 1
        · go_enter Try.func26, Try.ntmps26
          go_wp2_with fail
          go_ret2
          exact ⟨rfl, Below.refl _ _⟩
        · have h5 : 4096 < wi := by have := HN.out; omega
          go_enter Try.func26, Try.ntmps26
          go_wp2_with fail
          go_ret2
          exact ⟨rfl, Below.refl _ _⟩
end Go.Proofs.Ytkoeplgkiogjlaa
