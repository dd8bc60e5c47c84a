/-
  Carried over and put together: contracts of this program's functions, and plain facts. No statement is proved in this text.
-/
import Derived.Deep.DeepCutAuto
import Derived.WalkKit
import Derived.Below
import Derived.OwnWalk
import Derived.Deep.AppendLies
import Derived.Laws.AppendOwnNone
import Derived.Deep.Slices
import Derived.Lib.Hide
import Derived.Laws.IdiomCopy
import Derived.Laws.NewBlocks
import Derived.Test.YtkeiekljedhllaaGreatF00
import Derived.Test.YtkeiekljedhllaaGreatF01
import Derived.Test.YtkeiekljedhllaaGreatF03
set_option maxRecDepth 20000
namespace Go.Proofs.YtkeiekljedhllaaGreat
open Go.RowKit
/-- The slice v reads as the list l of numbers. -/
def Nums (w : World) (v : Value) (l : List Int) : Prop :=
  ∃ A c, v = .slice A l.length c ∧ ∀ k (h : k < l.length), ∃ ad, A = some ad ∧ ad.block < w.heap.size ∧ w.cell? (ad.add k) = some (.int .i64 l[k])
theorem Nums.below {w w' : World} {v : Value} {l : List Int} (h : Nums w v l) (hb : Below w.heap.size w w') : Nums w' v l := by
  obtain ⟨A, c, hv, hk⟩ := h
  refine ⟨A, c, hv, fun k h => ?_⟩
  obtain ⟨ad, h1, h2, h3⟩ := hk k h
  exact ⟨ad, h1, Nat.lt_of_lt_of_le h2 hb.size, (hb.cell (by rw [block_of_add]; exact h2)).trans h3⟩
theorem Nums.at_ {w w' : World} {A : Option Addr} {c n : Nat} {l : List Int} (h : Nums w (.slice A n c) l) (hw : Below w.heap.size w w') {k : Nat} (hk : k < l.length) :
    ∃ ad, A = some ad ∧ w'.cell? (ad.add k) = some (.int .i64 l[k]) := by
  obtain ⟨A', c', hv, hc⟩ := h
  injection hv with e1 e2 e3
  subst e1
  obtain ⟨ad, h1, h2, h3⟩ := hc k hk
  exact ⟨ad, h1, (hw.cell (by rw [block_of_add]; exact h2)).trans h3⟩
/-- The slice v is the call's own, and holds the numbers l. -/
def OwnsN (w : World) (base : Nat) (v : Value) (l : List Int) : Prop := w.ownsRow base 3 1 v l.length (l.map fun n => .int .i64 n)
theorem OwnsN.below {w w' : World} {base : Nat} {v : Value} {l : List Int} (h : OwnsN w base v l) (hb : Below w.heap.size w w') : OwnsN w' base v l :=
  World.ownsRow.kept h ⟨hb.os, hb.tape, hb.output, hb.size, fun k hk _ => hb.block k hk⟩ (row := none) (by cases hv : v.ownBlock <;> simp)
/-- May a number be? -/
def good (n : Int) : Bool := decide (0 ≤ n ∧ n ≤ 1099511627776)
theorem good_yes {n : Int} (h : good n = true) : 0 ≤ n ∧ n ≤ 1099511627776 := by simpa [good] using h
theorem good_no {n : Int} (h : good n = false) : n < 0 ∨ 1099511627776 < n := by
  unfold good at h
  have := of_decide_eq_false h
  omega
def kept (l : List Int) : List Int := l.filter good
/-- What is written of any list, and what was wrong. -/
def listOk (l : List (Int × Int)) : Bool := decide (l.length ≤ 64) && (allVid l && risesBCOD l)
def outL (l : List (Int × Int)) : List UInt8 := if listOk l = true then encIDs l else []
def errL (l : List (Int × Int)) : Nat := if listOk l = true then 0 else if 64 < l.length then 40 else 4
theorem bs_none (s : ByteArray) : s ++ bs [] = s := WideShapes.bytes_inj (by simp [bs])
theorem ids_gen (s : ByteArray) (v : Value) (l : List (Int × Int)) (w : World) (h : IdsC w v l) (hs : s.size ≤ 100000) : Calls Tryz.prog 92 #[.string s, v] w fun e w' => e = .returned (.tuple #[.string (s ++ bs (outL l)), .int .i64 (errL l : Nat)]) ∧ Below w.heap.size w w' := by
  by_cases hl : 64 < l.length
  · have hn : listOk l = false := by unfold listOk; rw [decide_eq_false (by omega)]; rfl
    have e1 : outL l = [] := by unfold outL; rw [hn]; rfl
    have e2 : errL l = 40 := by unfold errL; rw [hn, if_neg (by decide), if_pos hl]
    rw [e1, e2, bs_none]
    exact (idsLong v l s w h hl).mono fun e w' ⟨he, hb⟩ => ⟨he, hb ▸ Below.refl _ _⟩
  · cases hv : (allVid l && risesBCOD l)
    · have hn : listOk l = false := by unfold listOk; rw [hv, Bool.and_false]
      have e1 : outL l = [] := by unfold outL; rw [hn]; rfl
      have e2 : errL l = 4 := by unfold errL; rw [hn, if_neg (by decide), if_neg hl]
      rw [e1, e2, bs_none]
      exact idsB v l s w h (by omega) hv
    · have hn : listOk l = true := by unfold listOk; rw [hv, decide_eq_true (by omega)]; rfl
      have e1 : outL l = encIDs l := by unfold outL; rw [if_pos hn]
      have e2 : errL l = 0 := by unfold errL; rw [if_pos hn]
      rw [e1, e2]
      exact ids_yes v l s w h (by omega) (by omega) hv
theorem outL_len (l : List (Int × Int)) : (outL l).length ≤ 1000 := by
  unfold outL
  split
  · rename_i h
    have h2 : l.length ≤ 64 := by unfold listOk at h; simp at h; exact h.1
    exact (encIDs_len l h2).2
  · simp
section
open Go.WideShapes Go.ChangeShapes Go.ChangeAt
variable {H : Type} {enc : TypeId × Value → H}
end
end Go.Proofs.YtkeiekljedhllaaGreat
namespace Go.Proofs.YtkeiekljedhllaaGreat
open Go.RowKit
theorem listOk_yes {l : List (Int × Int)} (h : listOk l = true) : l.length ≤ 64 ∧ allVid l = true ∧ risesBCOD l = true ∧ outL l = encIDs l ∧ errL l = 0 := by
  have h1 : outL l = encIDs l := if_pos h
  have h2 : errL l = 0 := if_pos h
  unfold listOk at h
  simp at h
  exact ⟨h.1, h.2.1, h.2.2, h1, h2⟩
theorem listOk_no {l : List (Int × Int)} (h : listOk l = false) : outL l = [] ∧ errL l ≠ 0 := by
  constructor
  · unfold outL
    rw [h]
    rfl
  · unfold errL
    rw [h, if_neg (by decide)]
    split <;> decide
section
open Go.ChangeShapes Go.WideShapes Go.ChangeAt
open Go.ChangeMaps (open_string)
end
end Go.Proofs.YtkeiekljedhllaaGreat
namespace Go.Proofs.YtkeiekljedhllaaGreat
open Go Go.RowKit
section
variable {α : Type}
/-- The cells of a list of structs. -/
def flatR (enc : α → List Value) (l : List α) : List Value := l.flatMap enc
theorem addr_add_add (a : Addr) (j k : Nat) (hj : 0 < j) : (a.add j).add k = a.add (j + k) := by
  unfold Addr.add
  rw [if_neg (show ¬ j = 0 by omega), if_neg (show ¬ j + k = 0 by omega)]
  split
  · rename_i h
    subst h
    rfl
  · simp
    omega
theorem addr_block (a : Addr) (n : Nat) : (a.add n).block = a.block := by unfold Addr.add; split <;> rfl
/-- As the walk spells it: a cell behind the first one. -/
theorem addr_behind (a : Addr) (m j : Nat) (hj : 0 < j) : a.add (m + j) = ⟨(a.add m).block, (a.add m).off + j, none⟩ := by
  unfold Addr.add
  rw [if_neg (by omega)]
  split
  · rename_i h
    subst h
    simp
  · simp
    omega
variable {enc : α → List Value} {sz : Nat}
/-- The slice v reads as the list l of structs. -/
def Rcs (enc : α → List Value) (sz : Nat) (w : World) (v : Value) (l : List α) : Prop :=
  ∃ A c, v = .slice A l.length c ∧ (A = none → c = 0) ∧ l.length ≤ c ∧ ∀ k (h : k < l.length), ∃ ad, A = some ad ∧ ad.block < w.heap.size ∧ ∀ j u, (enc l[k])[j]? = some u → w.cell? (ad.add (k * sz + j)) = some u
theorem Rcs.below {w w' : World} {v : Value} {l : List α} (h : Rcs enc sz w v l) (hb : Below w.heap.size w w') : Rcs enc sz w' v l := by
  obtain ⟨A, c, hv, h0, hc, hk⟩ := h
  refine ⟨A, c, hv, h0, hc, fun k h => ?_⟩
  obtain ⟨ad, h1, h2, h3⟩ := hk k h
  exact ⟨ad, h1, Nat.lt_of_lt_of_le h2 hb.size, fun j u hu => (hb.cell (by rw [addr_block]; exact h2)).trans (h3 j u hu)⟩
theorem Rcs.nil (w : World) : Rcs enc sz w (.slice none 0 0) [] := ⟨none, 0, rfl, fun _ => rfl, by simp, fun k hk => absurd hk (by simp)⟩
/-- The first cell of an element. -/
theorem Rcs.first {w w' : World} {ad : Addr} {n c : Nat} {l : List α} (h : Rcs enc sz w (.slice (some ad) n c) l) (hw : Below w.heap.size w w') {k : Nat} (hk : k < l.length) {u : Value} (hu : (enc l[k])[0]? = some u) : w'.cell? (ad.add (k * sz)) = some u := by
  obtain ⟨A', c', hv, _, _, hc⟩ := h.below hw
  injection hv with e1 e2 e3
  subst e1
  obtain ⟨ad', h1, _, h3⟩ := hc k hk
  injection h1 with h1
  subst h1
  exact h3 0 u hu
/-- A cell behind an element's first one. -/
theorem Rcs.cell {w w' : World} {ad : Addr} {n c : Nat} {l : List α} (h : Rcs enc sz w (.slice (some ad) n c) l) (hw : Below w.heap.size w w') {k : Nat} (hk : k < l.length) (j : Nat) (hj : 0 < j) {u : Value} (hu : (enc l[k])[j]? = some u) : w'.cell? ⟨(ad.add (k * sz)).block, (ad.add (k * sz)).off + j, none⟩ = some u := by
  obtain ⟨A', c', hv, _, _, hc⟩ := h.below hw
  injection hv with e1 e2 e3
  subst e1
  obtain ⟨ad', h1, _, h3⟩ := hc k hk
  injection h1 with h1
  subst h1
  rw [← addr_behind _ _ _ hj]
  exact h3 j u hu
/-- A slice's shape: nil and empty, or at an address. -/
theorem Rcs.shape {w : World} {v : Value} {l : List α} (h : Rcs enc sz w v l) : (v = .slice none 0 0 ∧ l = []) ∨ ∃ ad c, v = .slice (some ad) l.length c ∧ l.length ≤ c := by
  obtain ⟨A, c, rfl, h0, hc, hk⟩ := h
  cases A with
  | none =>
    obtain rfl := h0 rfl
    have : l = [] := List.eq_nil_of_length_eq_zero (by omega)
    subst this
    exact .inl ⟨rfl, rfl⟩
  | some ad => exact .inr ⟨ad, c, rfl, hc⟩
theorem Rcs.addr {w : World} {A : Option Addr} {n c : Nat} {l : List α} (h : Rcs enc sz w (.slice A n c) l) (hl : 0 < l.length) : ∃ ad, A = some ad := by
  obtain ⟨A', c', hv, _, _, hc⟩ := h
  injection hv with e1 e2 e3
  subst e1
  obtain ⟨ad, h1, _⟩ := hc 0 hl
  exact ⟨ad, h1⟩
/-- The first k of a list. -/
theorem Rcs.take {w : World} {A : Option Addr} {n c k : Nat} {l : List α} (h : Rcs enc sz w (.slice A n c) l) (hk : k ≤ l.length) : Rcs enc sz w (.slice A k c) (l.take k) := by
  obtain ⟨A', c', hv, h0, hc, hx⟩ := h
  injection hv with e1 e2 e3
  subst e1 e3
  refine ⟨A, c, by rw [List.length_take, Nat.min_eq_left hk], h0, by rw [List.length_take, Nat.min_eq_left hk]; omega, fun j hj => ?_⟩
  rw [List.length_take, Nat.min_eq_left hk] at hj
  obtain ⟨ad, h1, h2, h3⟩ := hx j (by omega)
  exact ⟨ad, h1, h2, by rw [List.getElem_take]; exact h3⟩
/-- All but the first k of a list: the address goes on, where there is room behind. -/
theorem Rcs.drop {w : World} {ad : Addr} {n c k : Nat} {l : List α} (hs : 0 < sz) (h : Rcs enc sz w (.slice (some ad) n c) l) (hk : k ≤ l.length) (h0 : 0 < k) : Rcs enc sz w (.slice (some (ad.add (k * sz))) (n - k) (c - k)) (l.drop k) := by
  obtain ⟨A', c', hv, hn, hc2, hx⟩ := h
  injection hv with e1 e2 e3
  subst e1 e3
  refine ⟨some (ad.add (k * sz)), c - k, by rw [List.length_drop, e2], (fun h => by cases h), by rw [List.length_drop]; omega, fun j hj => ?_⟩
  rw [List.length_drop] at hj
  obtain ⟨ad', h1, h2, h3⟩ := hx (k + j) (by omega)
  injection h1 with h1
  subst h1
  refine ⟨_, rfl, by rw [addr_block]; exact h2, fun i u hu => ?_⟩
  rw [addr_add_add _ _ _ (Nat.mul_pos h0 hs), ← Nat.add_assoc, ← Nat.add_mul]
  rw [List.getElem_drop] at hu
  exact h3 i u hu
theorem flatR_len (hs : ∀ a, (enc a).length = sz) (l : List α) : (flatR enc l).length = l.length * sz := by
  unfold flatR
  induction l with
  | nil => simp
  | cons x l ih => rw [List.flatMap_cons, List.length_append, ih, hs, List.length_cons, Nat.add_mul]; omega
theorem flatR_append (l m : List α) : flatR enc (l ++ m) = flatR enc l ++ flatR enc m := List.flatMap_append
theorem flatR_at (hs : ∀ a, (enc a).length = sz) : ∀ (l : List α) (k : Nat) (hk : k < l.length) (j : Nat) (u : Value), (enc l[k])[j]? = some u → (flatR enc l)[k * sz + j]? = some u := by
  intro l
  induction l with
  | nil => intro k hk; simp at hk
  | cons x l ih =>
    intro k hk j u hu
    have hj : j < sz := by
      have := (List.getElem?_eq_some_iff.1 hu).1
      rwa [hs] at this
    unfold flatR
    rw [List.flatMap_cons]
    cases k with
    | zero =>
      rw [Nat.zero_mul, Nat.zero_add, List.getElem?_append_left (by rw [hs]; exact hj)]
      exact hu
    | succ k =>
      rw [List.getElem?_append_right (by rw [hs, Nat.succ_mul]; omega), hs, show (k + 1) * sz + j - sz = k * sz + j by rw [Nat.succ_mul]; omega]
      exact ih k (by simpa using hk) j u hu
theorem flatR_split (hs : ∀ a, (enc a).length = sz) (h0 : 0 < sz) {l : List α} {i : Nat} {u : Value} (h : (flatR enc l)[i]? = some u) : ∃ k, ∃ hk : k < l.length, ∃ j, i = k * sz + j ∧ (enc l[k])[j]? = some u := by
  have hi : i < l.length * sz := by
    have := (List.getElem?_eq_some_iff.1 h).1
    rwa [flatR_len hs] at this
  have hk : i / sz < l.length := (Nat.div_lt_iff_lt_mul h0).2 hi
  have he : i = i / sz * sz + i % sz := by rw [Nat.mul_comm]; exact (Nat.div_add_mod i sz).symm
  have hj := Nat.mod_lt i h0
  refine ⟨i / sz, hk, i % sz, he, ?_⟩
  have h2 : (enc l[i / sz])[i % sz]? = some ((enc l[i / sz])[i % sz]'(by rw [hs]; exact hj)) := List.getElem?_eq_getElem _
  have h3 := flatR_at hs l (i / sz) hk (i % sz) _ h2
  rw [← he, h] at h3
  rw [h2, ← Option.some.inj h3]
/-- The slice v is the call's own, and holds the list l. -/
def OwnsR (enc : α → List Value) (sz : Nat) (e : TypeId) (w : World) (base : Nat) (v : Value) (l : List α) : Prop := w.ownsRow base e sz v l.length (flatR enc l)
theorem OwnsR.nil (e : TypeId) (w : World) (base : Nat) : OwnsR enc sz e w base (.slice none 0 0) [] := World.ownsRow_nil w base e sz
theorem OwnsR.below {e : TypeId} {w w' : World} {base : Nat} {v : Value} {l : List α} (h : OwnsR enc sz e w base v l) (hb : Below w.heap.size w w') : OwnsR enc sz e w' base v l :=
  World.ownsRow.kept h ⟨hb.os, hb.tape, hb.output, hb.size, fun k hk _ => hb.block k hk⟩ (row := none) (by cases hv : v.ownBlock <;> simp)
theorem ownsR_split {e : TypeId} {w : World} {base n : Nat} {v : Value} {xs : List Value} (h : w.ownsRow base e sz v n xs) : (v = .slice none 0 0 ∧ n = 0) ∨ ∃ g cap, v = .slice (some ⟨g, 0, none⟩) n cap ∧ g < w.heap.size ∧ n ≤ cap := by
  rcases id h.2 with h1 | ⟨g, cap, cur, h1, _, _, hn, _⟩
  · exact .inl h1
  · exact .inr ⟨g, cap, h1, (World.ownsRow.lt h g (by rw [h1]; rfl)).2, hn⟩
theorem rcs_owns (hs : ∀ a, (enc a).length = sz) {e : TypeId} {w : World} {base : Nat} {v : Value} {l : List α} (h : OwnsR enc sz e w base v l) : Rcs enc sz w v l := by
  rcases ownsR_split h with ⟨rfl, hn⟩ | ⟨g, cap, rfl, hg, hc⟩
  · have : l = [] := List.eq_nil_of_length_eq_zero (by omega)
    subst this
    exact Rcs.nil w
  · exact ⟨some ⟨g, 0, none⟩, cap, rfl, (fun h => by cases h), hc, fun k hk => ⟨_, rfl, hg, fun j u hu => World.ownsRow.cells h (g := g) rfl _ _ (flatR_at hs l k hk j u hu)⟩⟩
/-- A literal, or what has just been made: a new block with these cells. -/
theorem rcs_lit (hs : ∀ a, (enc a).length = sz) (w : World) (l : List α) (cs : Array Value) (T : TypeId) (h : cs.toList = flatR enc l) : Rcs enc sz (w.alloc (.cells cs T)) (.slice (some ⟨w.heap.size, 0, none⟩) l.length l.length) l := by
  refine ⟨some ⟨w.heap.size, 0, none⟩, l.length, rfl, (fun h => by cases h), Nat.le_refl _, fun k hk => ⟨_, rfl, by simp, fun j u hu => ?_⟩⟩
  have hadd : (⟨w.heap.size, 0, none⟩ : Addr).add (k * sz + j) = ⟨w.heap.size, k * sz + j, none⟩ := by unfold Addr.add; split <;> simp_all
  rw [hadd, cell_of_row _ _ _ _ _ _ (heap_alloc_new w _), ← Array.getElem?_toList, h]
  exact flatR_at hs l k hk j u hu
variable {P : Program}
/-- append of a list to a slice of the call's own. -/
theorem wpList_append_recs {ops : Array Oper} {rest : List Oper} {o : Oper} {a : Act} {Q : Exit → Act → World → Prop} (t e : TypeId) {z : Value} {bytes : Nat} (ht : P.underlying t = some (.slice e))
    (hinfo : (P.info? e).map (fun i => (i.zero, i.size, i.bytes)) = some (some z, sz, bytes)) (hz : z.cells.size = sz) (hs : ∀ a, (enc a).length = sz) (h0 : 0 < sz) (h1 : ∀ a, ∀ u ∈ enc a, u.oneCell' = true) (hby : bytes ≤ 1000)
    (hgd : o.guard = none) (s x : Operand) (ho : o.op = .call { callee := .builtin .append, args := #[s, x], argTypes := #[t, t] })
    (wr : World) (base : Nat) (v u : Value) (d l : List α) (hsv : a.eval s = v) (hx : a.eval x = u)
    (hown : OwnsR enc sz e wr base v d) (hI : Rcs enc sz wr u l) (hl : d.length + l.length ≤ 100000) (hb : base ≤ wr.heap.size)
    (h : ∀ v' w', OwnsR enc sz e w' base v' (d ++ l) → Below base wr w' → wpList P ops Q rest (a.put o.dst v') w') :
    wpList P ops Q (o :: rest) a wr := by
  obtain ⟨i0, hi, hz0, hz1, hz2⟩ := info_parts hinfo
  obtain ⟨A, c, rfl, hn0, hc, hk⟩ := hI
  cases A with
  | none =>
    obtain rfl := hn0 rfl
    have hn : l = [] := List.eq_nil_of_length_eq_zero (by omega)
    subst hn
    refine wpList_append_own_none hgd s x t ho base e i0 sz ht hi _ d.length (flatR enc d) hsv hown hx (h _ _ (by rw [List.append_nil]; exact hown) (Below.refl _ _))
  | some ad =>
    refine wpList_append_own _ hgd s x t ho base e i0 z sz bytes ht hi hz0 hz1 hz2 hz h0 v d.length (flatR enc d) hsv hown ad l.length c (flatR enc l) hx (flatR_len hs l)
      (fun j u hu => ?_) (fun u hu => ?_) (by unfold maxLen; omega) ?_ hb ?_
    · obtain ⟨k, hlt, i, rfl, hu2⟩ := flatR_split hs h0 hu
      obtain ⟨ad', e, h1, h2⟩ := hk k hlt
      injection e with e
      subst e
      exact h2 i u hu2
    · obtain ⟨x, _, hx⟩ := List.mem_flatMap.1 hu
      exact h1 x u hx
    · have : (d.length + l.length) * bytes ≤ 100000 * 1000 := Nat.mul_le_mul hl hby
      omega
    · intro v' w' h1 h2 _
      refine h v' w' ?_ ((Below.refl base wr).grown h2 hb fun k hk => (World.ownsRow.lt hown k hk).1)
      unfold OwnsR
      rw [flatR_append, List.length_append]
      exact h1
end
section
variable {H : Type} {enc' : TypeId × Value → H} {P : Program} {w : World} {base : Nat} {spare : Nat → Bool} {held : Bool} {α : Type} {enc : α → List Value} {sz : Nat}
end
end Go.Proofs.YtkeiekljedhllaaGreat
namespace Go.Proofs.YtkeiekljedhllaaGreat.RowSets
open Go.Proofs.YtkeiekljedhllaaGreat.Sets
/-- What a row says: its version, and whom its ID does not reach. -/
abbrev Says := Int × List Id2
abbrev Row := Id2 × Says
/-- The IDs of rows. -/
def ids (l : List Row) : List Id2 := l.map (·.1)
/-- Of two rows of one ID: the newer one; of one version: all that are in either. -/
def two : Option Says → Option Says → Option Says
  | none, s => s
  | some r, none => some r
  | some r, some s => if s.1 < r.1 then some r else if r.1 < s.1 then some s else some (r.1, join r.2 s.2)
/-- Is an ID removed? -/
def rem (fl : List Id2) (x : Id2) : Bool := fl.any fun f => decide (f.1 = x.1) && decide (x.2 ≤ f.2)
def keepN (fl : List Id2) (l : List Id2) : List Id2 := l.filter fun x => !rem fl x
/-- Rows without those that are removed. -/
def gone (fl : List Id2) (l : List Row) : List Row := (l.filter fun r => !rem fl r.1).map fun r => (r.1, r.2.1, keepN fl r.2.2)
/-- Those whom an ID is not to reach. -/
def wanted (of : Id2) (not : List Id2) : List Id2 := setOf (not.filter fun x => decide (x ≠ of))
/-- A row put in its place. -/
def place (r : Row) : List Row → List Row
  | [] => [r]
  | u :: l => if u.1 = r.1 then r :: l else if lt u.1 r.1 then u :: place r l else r :: u :: l
end Go.Proofs.YtkeiekljedhllaaGreat.RowSets
namespace Go.Proofs.YtkeiekljedhllaaGreat
open Go.RowKit Sets
/-- A list is answered, in new memory or not; what was there stands. -/
def Lists (l : List (Int × Int)) (w : World) (e : Ending) (w' : World) : Prop := ∃ v', e = .returned v' ∧ Ids w' v' l ∧ Below w.heap.size w w'
/-- A list is answered, in new memory; what was there stands. -/
def News (l : List (Int × Int)) (w : World) (e : Ending) (w' : World) : Prop := ∃ v', e = .returned v' ∧ Owns w' w.heap.size v' l ∧ Below w.heap.size w w'
theorem News.lists {l : List (Int × Int)} {w w' : World} {e : Ending} (h : News l w e w') : Lists l w e w' := by
  obtain ⟨v, h1, h2, h3⟩ := h
  exact ⟨v, h1, ids_of_owns h2, h3⟩
theorem Owns.mono {w : World} {base b : Nat} {v : Value} {l : List (Int × Int)} (h : Owns w base v l) (hb : b ≤ base) : Owns w b v l := by
  refine ⟨h.1, ?_⟩
  rcases id h.2 with h1 | ⟨g, cap, cur, h1, h2, h3⟩
  · exact .inl h1
  · exact .inr ⟨g, cap, cur, h1, Nat.le_trans hb h2, h3⟩
set_option maxHeartbeats 1000000 in
theorem sorted_rising (v : Value) (l : List (Int × Int)) (w : World) (h : Ids w v l) (hl : l.length ≤ 40000) (hr : risesB l = true) :
    Calls Tryz.prog 84 #[v, .func (.func 54) #[] #[]] w (News (setOf l) w) := by
  have HS := Lib.hid (setOf_self ((risesB_iff l).1 hr))
  have HR := Lib.hid hr
  have HI := Lib.hid h
  obtain ⟨A, c, rfl, hz⟩ := h
  clear hr hz
  go_enter Tryz.func84, Tryz.ntmps84
  go_wp2_with fail
  (with_reducible refine (rising_gen _ l _ HI.out (by omega)).mono ?_)
  rintro e w1 ⟨rfl, hb⟩
  rw [HR.out]
  have HB := Lib.hid hb
  have HJ := Lib.hid (HI.out.below hb)
  clear hb
  go_wp2_with (first
    | (at_make; refine wpList_make_room _ rfl (.tmp 10) rfl _ rfl (by omega) (by omega) ?_; intro v2 w2 h1 h2; have HO := Lib.hid h1; have H2 := Lib.hid h2; have HK := Lib.hid (HJ.out.below h2); have HZ := Lib.hid h2.size; clear h1 h2)
    | (at_builtin; refine wpList_append_list rfl (.tmp 11) (.tmp 12) rfl _ w1.heap.size v2 _ [] l rfl rfl HO.out HK.out (by simp; omega) HZ.out ?_; intro v3 w3 h1 h2; have HP := Lib.hid h1; have H3 := Lib.hid (H2.out.trans h2); clear h1 h2))
  go_ret
  exact ⟨v3, rfl, by rw [HS.out]; exact HP.out.mono HB.out.size, below_after HB.out H3.out (Nat.le_refl _)⟩
set_option maxHeartbeats 2000000 in
theorem sorted_ind (n : Nat) : ∀ (v : Value) (l : List (Int × Int)) (w : World), Ids w v l → l.length ≤ n → l.length ≤ 40000 →
    Calls Tryz.prog 84 #[v, .func (.func 54) #[] #[]] w (News (setOf l) w) := by
  induction n with
  | zero =>
    intro v l w h h0 hl
    exact sorted_rising v l w h hl (by rw [List.eq_nil_of_length_eq_zero (by omega : l.length = 0)]; rfl)
  | succ n ih =>
    intro v l w h hn hl
    cases hr : risesB l
    · have h2 : 2 ≤ l.length := by
        cases l with
        | nil => cases hr
        | cons x l =>
          cases l with
          | nil => cases hr
          | cons y l => simp
      obtain ⟨V, ht, hv⟩ := run_to h (l.length / 2) (by omega)
      obtain ⟨U, hu, hw⟩ := run_from h (l.length / 2) (by omega)
      have hl1 : (l.take (l.length / 2)).length ≤ n := by rw [List.length_take]; omega
      have hl2 : (l.drop (l.length / 2)).length ≤ n := by rw [List.length_drop]; omega
      have hl3 : (l.take (l.length / 2)).length ≤ 40000 := by rw [List.length_take]; omega
      have hl4 : (l.drop (l.length / 2)).length ≤ 40000 := by rw [List.length_drop]; omega
      have HE := Lib.hid (join_halves l (l.length / 2))
      have HA := Lib.hid fun W (hb : Below w.heap.size w W) => ih V _ W (hv.below hb) hl1 hl3
      have HC := Lib.hid fun W (hb : Below w.heap.size w W) => ih U _ W (hw.below hb) hl2 hl4
      have HM := Lib.hid fun v1 v2 W h1 h2 => merged_any 98 _ keeps_all v1 v2 (setOf (l.take (l.length / 2))) (setOf (l.drop (l.length / 2))) W h1 h2 (by have := setOf_len (l.take (l.length / 2)); omega) (by have := setOf_len (l.drop (l.length / 2)); omega)
      have HR := Lib.hid hr
      have HI := Lib.hid h
      rw [show ((l.length / 2 : Nat) : Int) = (l.length : Int) / 2 by omega] at ht hu
      obtain ⟨A, c, rfl, hz⟩ := h
      clear hr hz hv hw hl1 hl2 hl3 hl4 ih
      go_enter Tryz.func84, Tryz.ntmps84
      go_wp2_with fail
      (with_reducible refine (rising_gen _ l _ HI.out (by omega)).mono ?_)
      rintro e w1 ⟨rfl, hb⟩
      rw [HR.out]
      have HB := Lib.hid hb
      clear hb
      go_wp2_with fail
      go_region_held3 (fun w' => Hid (Below w.heap.size w w'))
        (first | exact Lib.hid HB.out.drew | exact HK)
        (first
          | (go_at_call 84; (with_reducible refine (HA.out _ HB.out.drew).mono ?_); rintro e w' ⟨r1, rfl, hi, hb⟩; have HK := Lib.hid (below_after HB.out.drew hb (Nat.le_refl _)); have J1 := Lib.hid hi; clear hb hi)
          | (go_at_call 84; (with_reducible refine (HC.out _ HK.out).mono ?_); rintro e w' ⟨r2, rfl, hi, hb⟩; have HK := Lib.hid (below_after HK.out hb (Nat.le_refl _)); have J1 := Lib.hid (J1.out.below hb); have J2 := Lib.hid hi; clear hb hi)
          | (go_at_call 97; (with_reducible refine (HM.out _ _ _ (ids_of_owns J1.out) (ids_of_owns J2.out)).mono ?_); rintro e w' ⟨r3, rfl, hi, hb⟩; have HZ := Lib.hid HK.out.size; have HK := Lib.hid (below_after HK.out hb (Nat.le_refl _)); have J3 := Lib.hid hi; clear hb hi))
      go_wp2_with fail
      go_ret
      exact ⟨_, rfl, by rw [← HE.out, ← mrg_all]; exact J3.out.mono HZ.out, HK.out⟩
    · exact sorted_rising v l w h hl hr
end Go.Proofs.YtkeiekljedhllaaGreat
namespace Go.Proofs.YtkeiekljedhllaaGreat
open Go.RowKit Sets
theorem set_new (v : Value) (l : List (Int × Int)) (w : World) (h : Ids w v l) (hl : l.length ≤ 40000) : Calls Tryz.prog 51 #[v] w (News (setOf l) w) := by
  have HI := Lib.hid h
  clear h
  go_enter Tryz.func51, Tryz.ntmps51
  go_wp2_with fail
  refine (sorted_ind l.length v l _ HI.out (Nat.le_refl _) hl).mono ?_
  rintro e w1 ⟨r, rfl, hi, hb⟩
  have H1 := Lib.hid hi
  have B1 := Lib.hid hb
  clear hi hb
  go_wp2_with fail
  go_ret
  exact ⟨r, rfl, H1.out, B1.out⟩
theorem set_any (v : Value) (l : List (Int × Int)) (w : World) (h : Ids w v l) (hl : l.length ≤ 40000) : Calls Tryz.prog 51 #[v] w (Lists (setOf l) w) := (set_new v l w h hl).mono fun _ _ h => h.lists
theorem same_any (v u : Value) (l m : List (Int × Int)) (w : World) (h : Ids w v l) (h2 : Ids w u m) (hl : l.length ≤ 40000) (hm : m.length ≤ 40000) :
    Calls Tryz.prog 50 #[v, u] w fun e w' => e = .returned (.bool (sameB (setOf l) (setOf m))) ∧ Below w.heap.size w w' := by
  have HI := Lib.hid h
  have HJ := Lib.hid h2
  have hl2 := setOf_len l
  clear h h2
  go_enter Tryz.func50, Tryz.ntmps50
  go_wp2_with fail
  refine (set_any v l _ HI.out hl).mono ?_
  rintro e w1 ⟨r, rfl, hi, hb⟩
  have H1 := Lib.hid hi
  have B1 := Lib.hid hb
  have J1 := Lib.hid (HJ.out.below hb)
  clear hi hb
  go_wp2_with fail
  refine (set_any u m _ J1.out hm).mono ?_
  rintro e w2 ⟨r2, rfl, hi, hb⟩
  have H2 := Lib.hid hi
  have B2 := Lib.hid (below_after B1.out hb (Nat.le_refl _))
  have K2 := Lib.hid (H1.out.below hb)
  clear hi hb
  go_wp2_with fail
  refine (equal_any r r2 _ _ _ K2.out H2.out (by omega)).mono ?_
  rintro e w3 ⟨rfl, hb⟩
  have B3 := Lib.hid (below_after B2.out hb (Nat.le_refl _))
  clear hb
  go_wp2_with fail
  go_ret
  exact ⟨rfl, B3.out⟩
end Go.Proofs.YtkeiekljedhllaaGreat
namespace Go.Proofs.YtkeiekljedhllaaGreat
open Go Go.RowKit Sets RowSets
/-- An ID's cells. -/
def encI (x : Id2) : List Value := [.int .i64 x.1, .int .i64 x.2]
theorem encI_len (x : Id2) : (encI x).length = 2 := rfl
theorem encI_one (x : Id2) : ∀ u ∈ encI x, u.oneCell' = true := by
  intro u hu
  simp [encI] at hu
  rcases hu with rfl | rfl <;> rfl
theorem ids_rcs {w : World} {v : Value} {l : List Id2} (h : Rcs encI 2 w v l) : Ids w v l := by
  obtain ⟨A, c, rfl, h0, hc, hk⟩ := id h
  refine ⟨A, c, rfl, h0, hc, fun k hlt => ?_⟩
  obtain ⟨ad, rfl, h1, h2⟩ := hk k hlt
  exact ⟨ad, rfl, h1, h.first (Below.refl _ _) hlt rfl, h.cell (Below.refl _ _) hlt 1 (by omega) rfl⟩
theorem rcs_ids {w : World} {v : Value} {l : List Id2} (h : Ids w v l) : Rcs encI 2 w v l := by
  obtain ⟨A, c, rfl, h0, hc, hk⟩ := id h
  refine ⟨A, c, rfl, h0, hc, fun k hlt => ?_⟩
  obtain ⟨ad, rfl, h1, c1, c2⟩ := hk k hlt
  refine ⟨ad, rfl, h1, fun j u hu => ?_⟩
  have hj : j < 2 := (List.getElem?_eq_some_iff.1 hu).1
  match j, hj with
  | 0, _ => rw [← Option.some.inj hu]; exact c1
  | 1, _ => rw [← Option.some.inj hu, addr_behind _ _ _ (by omega)]; exact c2
theorem flat_is (l : List Id2) : flat l = flatR encI l := by
  induction l with
  | nil => rfl
  | cons x l ih =>
    unfold flatR at *
    rw [List.flatMap_cons, ← ih]
    rfl
theorem ownsI_of {w : World} {base : Nat} {v : Value} {l : List Id2} (h : Owns w base v l) : OwnsR encI 2 24 w base v l := by
  unfold OwnsR
  rw [← flat_is]
  exact h
/-- A row as it lies in memory: its list is a slice. -/
abbrev Raw := Id2 × Int × (Option Addr × Nat × Nat)
/-- Its slice. -/
def slc (r : Raw) : Value := .slice r.2.2.1 r.2.2.2.1 r.2.2.2.2
def encW (r : Raw) : List Value := [.int .i64 r.1.1, .int .i64 r.1.2, .int .i64 r.2.1, slc r]
theorem encW_len (r : Raw) : (encW r).length = 4 := rfl
theorem encW_one (r : Raw) : ∀ u ∈ encW r, u.oneCell' = true := by
  intro u hu
  simp [encW, slc] at hu
  rcases hu with rfl | rfl | rfl | rfl <;> rfl
/-- A row in memory reads as a row. -/
def Reads (w : World) (q : Raw) (r : Row) : Prop := q.1 = r.1 ∧ q.2.1 = r.2.1 ∧ Ids w (slc q) r.2.2
theorem Reads.below {w w' : World} {q : Raw} {r : Row} (h : Reads w q r) (hb : Below w.heap.size w w') : Reads w' q r := ⟨h.1, h.2.1, h.2.2.below hb⟩
/-- One by one. -/
def EachReads (w : World) : List Raw → List Row → Prop
  | [], [] => True
  | q :: qs, r :: l => Reads w q r ∧ EachReads w qs l
  | _, _ => False
theorem EachReads.below {w w' : World} (hb : Below w.heap.size w w') : ∀ {qs : List Raw} {l : List Row}, EachReads w qs l → EachReads w' qs l
  | [], [], _ => trivial
  | _ :: _, _ :: _, h => ⟨h.1.below hb, EachReads.below hb h.2⟩
  | [], _ :: _, h => h.elim
  | _ :: _, [], h => h.elim
theorem EachReads.len {w : World} : ∀ {qs : List Raw} {l : List Row}, EachReads w qs l → qs.length = l.length
  | [], [], _ => rfl
  | _ :: _, _ :: _, h => by rw [List.length_cons, List.length_cons, h.2.len]
  | [], _ :: _, h => h.elim
  | _ :: _, [], h => h.elim
theorem EachReads.at_ {w : World} : ∀ {qs : List Raw} {l : List Row}, EachReads w qs l → ∀ (k : Nat) (h : k < qs.length) (h' : k < l.length), Reads w qs[k] l[k]
  | _ :: _, _ :: _, h, 0, _, _ => h.1
  | _ :: _, _ :: _, h, k + 1, h1, h2 => EachReads.at_ h.2 k (by simpa using h1) (by simpa using h2)
  | [], [], _, _, h1, _ => absurd h1 (by simp)
  | [], _ :: _, h, _, _, _ => h.elim
  | _ :: _, [], h, _, _, _ => h.elim
theorem EachReads.append {w : World} {qs qs' : List Raw} {l l' : List Row} (h : EachReads w qs l) (h' : EachReads w qs' l') : EachReads w (qs ++ qs') (l ++ l') := by
  induction qs generalizing l with
  | nil =>
    cases l with
    | nil => exact h'
    | cons r l => exact h.elim
  | cons q qs ih =>
    cases l with
    | nil => exact h.elim
    | cons r l => exact ⟨h.1, ih h.2⟩
theorem EachReads.one {w : World} {q : Raw} {r : Row} (h : Reads w q r) : EachReads w [q] [r] := ⟨h, trivial⟩
theorem EachReads.take {w : World} : ∀ {qs : List Raw} {l : List Row} (k : Nat), EachReads w qs l → EachReads w (qs.take k) (l.take k)
  | [], [], k, _ => by simp [EachReads]
  | _ :: _, _ :: _, 0, _ => trivial
  | _ :: _, _ :: _, k + 1, h => ⟨h.1, EachReads.take k h.2⟩
  | [], _ :: _, _, h => h.elim
  | _ :: _, [], _, h => h.elim
theorem EachReads.drop {w : World} : ∀ {qs : List Raw} {l : List Row} (k : Nat), EachReads w qs l → EachReads w (qs.drop k) (l.drop k)
  | [], [], k, _ => by simp [EachReads]
  | _ :: _, _ :: _, 0, h => h
  | _ :: _, _ :: _, k + 1, h => EachReads.drop k h.2
  | [], _ :: _, _, h => h.elim
  | _ :: _, [], _, h => h.elim
/-- The slice v reads as the list l of rows. -/
def RowsAt (w : World) (v : Value) (l : List Row) : Prop := ∃ qs, Rcs encW 4 w v qs ∧ EachReads w qs l
theorem RowsAt.below {w w' : World} {v : Value} {l : List Row} (h : RowsAt w v l) (hb : Below w.heap.size w w') : RowsAt w' v l := by
  obtain ⟨qs, h1, h2⟩ := h
  exact ⟨qs, h1.below hb, h2.below hb⟩
theorem RowsAt.nil (w : World) : RowsAt w (.slice none 0 0) [] := ⟨[], Rcs.nil w, trivial⟩
/-- An element's cells, and its list. -/
theorem RowsAt.at_ {w w' : World} {A : Option Addr} {n c : Nat} {l : List Row} (h : RowsAt w (.slice A n c) l) (hw : Below w.heap.size w w') {k : Nat} (hk : k < l.length) :
    ∃ ad s, A = some ad ∧ w'.cell? (ad.add (k * 4)) = some (.int .i64 l[k].1.1) ∧ w'.cell? ⟨(ad.add (k * 4)).block, (ad.add (k * 4)).off + 1, none⟩ = some (.int .i64 l[k].1.2) ∧
      w'.cell? ⟨(ad.add (k * 4)).block, (ad.add (k * 4)).off + 2, none⟩ = some (.int .i64 l[k].2.1) ∧ w'.cell? ⟨(ad.add (k * 4)).block, (ad.add (k * 4)).off + 3, none⟩ = some s ∧ Ids w s l[k].2.2 := by
  obtain ⟨qs, h1, h2⟩ := h
  have hl := h2.len
  have hq : k < qs.length := by omega
  obtain ⟨e1, e2, e3⟩ := h2.at_ k hq hk
  obtain ⟨ad, rfl⟩ := h1.addr (by omega)
  refine ⟨ad, slc qs[k], rfl, ?_, ?_, ?_, h1.cell hw hq 3 (by omega) rfl, e3⟩
  · rw [← e1]; exact h1.first hw hq rfl
  · rw [← e1]; exact h1.cell hw hq 1 (by omega) rfl
  · rw [← e2]; exact h1.cell hw hq 2 (by omega) rfl
theorem RowsAt.shape {w : World} {v : Value} {l : List Row} (h : RowsAt w v l) : ∃ A c, v = .slice A l.length c ∧ (A = none → c = 0) ∧ l.length ≤ c := by
  obtain ⟨qs, ⟨A, c, rfl, h0, hc, _⟩, h2⟩ := h
  rw [← h2.len]
  exact ⟨A, c, rfl, h0, hc⟩
section
variable {α : Type} [Inhabited α] {enc : α → List Value} {sz : Nat}
theorem add_lit (g j : Nat) : (⟨g, 0, none⟩ : Addr).add j = ⟨g, j, none⟩ := by unfold Addr.add; split <;> simp_all
/-- From the beginning of block g on the structs of d lie, free to be written. -/
def RowAtR (enc : α → List Value) (sz : Nat) (w : World) (g : Nat) (d : Array α) : Prop :=
  g < w.heap.size ∧ ∀ k, k < d.size → ∀ j u, (enc d[k]!)[j]? = some u → w.cell? ⟨g, k * sz + j, none⟩ = some u ∧ w.frozen? ⟨g, k * sz + j, none⟩ = false
theorem rowAtR_rcs {w : World} {g c : Nat} {d : Array α} (h : RowAtR enc sz w g d) (hc : d.size ≤ c) : Rcs enc sz w (.slice (some ⟨g, 0, none⟩) d.size c) d.toList := by
  refine ⟨some ⟨g, 0, none⟩, c, by simp, (fun h => by cases h), by simpa using hc, fun k hk => ⟨_, rfl, h.1, fun j u hu => ?_⟩⟩
  have hk2 : k < d.size := by simpa using hk
  have he : d.toList[k] = d[k]! := by rw [getElem!_pos d k hk2]; simp
  rw [he] at hu
  rw [add_lit]
  exact (h.2 k hk2 j u hu).1
theorem rowAtR_block {w w' : World} {g : Nat} {d : Array α} (h : RowAtR enc sz w g d) (hs : w.heap.size ≤ w'.heap.size) (hb : w'.heap[g]? = w.heap[g]?) : RowAtR enc sz w' g d :=
  ⟨Nat.lt_of_lt_of_le h.1 hs, fun k hk j u hu => ⟨(World.cell?_of_block hb).trans (h.2 k hk j u hu).1, (World.frozen?_of_block hb).trans (h.2 k hk j u hu).2⟩⟩
theorem rowAtR_kept {w w' : World} {g : Nat} {d : Array α} (h : RowAtR enc sz w g d) (hb : Below w.heap.size w w') : RowAtR enc sz w' g d := rowAtR_block h hb.size (hb.block g h.1)
/-- A row of the call's own. -/
theorem rowAtR_owns (hs : ∀ a, (enc a).length = sz) {e : TypeId} {w : World} {base g c : Nat} {d : Array α} (h : OwnsR enc sz e w base (.slice (some ⟨g, 0, none⟩) d.size c) d.toList) : RowAtR enc sz w g d := by
  have hr := rcs_owns hs h
  rcases id h.2 with ⟨h1, _⟩ | ⟨g', cap, cur, h1, hb, hh, _⟩
  · cases h1
  · injection h1 with e1 e2 e3
    injection e1 with e1
    injection e1 with e1
    subst e1
    refine ⟨row_lt hh, fun k hk j u hu => ⟨?_, by simp [World.frozen?, hh]⟩⟩
    have hk2 : k < d.toList.length := by simpa using hk
    obtain ⟨A, c', hv, _, _, hx⟩ := hr
    injection hv with a1 a2 a3
    subst a1
    obtain ⟨ad, e, _, hc⟩ := hx k hk2
    injection e with e
    subst e
    have he : d.toList[k] = d[k]! := by rw [getElem!_pos d k hk]; simp
    rw [he] at hc
    have c1 := hc j u hu
    rwa [add_lit] at c1
theorem heap_setCells (g : Nat) : ∀ (vs : List Value) (o : Nat) (w : World) (k : Nat), k ≠ g → (w.setCells g o vs).heap[k]? = w.heap[k]?
  | [], _, _, _, _ => rfl
  | v :: vs, o, w, k, h => by rw [World.setCells, heap_setCells g vs _ _ k h, Below.heap_setCell _ _ _ _ h]
theorem size_setCells (g : Nat) : ∀ (vs : List Value) (o : Nat) (w : World), (w.setCells g o vs).heap.size = w.heap.size
  | [], _, _ => rfl
  | v :: vs, o, w => by rw [World.setCells, size_setCells g vs, World.size_setCell]
theorem rest_setCells (g : Nat) : ∀ (vs : List Value) (o : Nat) (w : World), (w.setCells g o vs).os = w.os ∧ (w.setCells g o vs).tape = w.tape ∧ (w.setCells g o vs).output = w.output
  | [], _, _ => ⟨rfl, rfl, rfl⟩
  | v :: vs, o, w => by rw [World.setCells]; exact rest_setCells g vs _ _
theorem grown_setCells {a w : World} {g : Nat} (h : a.grownBy w (some g)) (o : Nat) (vs : List Value) : a.grownBy (w.setCells g o vs) (some g) := by
  obtain ⟨r1, r2, r3⟩ := rest_setCells g vs o w
  refine ⟨r1.trans h.os, r2.trans h.tape, r3.trans h.output, by rw [size_setCells]; exact h.size, fun m hm hne => ?_⟩
  rw [heap_setCells _ _ _ _ _ (fun e => hne (by rw [e]))]
  exact h.block m hm hne
theorem below_setCells {b0 : Nat} {a w : World} {g : Nat} (h : Below b0 a w) (hg : b0 ≤ g) (o : Nat) (vs : List Value) : Below b0 a (w.setCells g o vs) := by
  obtain ⟨r1, r2, r3⟩ := rest_setCells g vs o w
  refine ⟨r1.trans h.os, r2.trans h.tape, r3.trans h.output, by rw [size_setCells]; exact h.size, fun m hm => ?_⟩
  rw [heap_setCells _ _ _ _ _ (by omega)]
  exact h.block m hm
theorem grown_below {a w w' : World} {g : Nat} (h : a.grownBy w (some g)) (hb : Below w.heap.size w w') : a.grownBy w' (some g) :=
  ⟨hb.os.trans h.os, hb.tape.trans h.tape, hb.output.trans h.output, Nat.le_trans h.size hb.size, fun k hk hne => (hb.block k (Nat.lt_of_lt_of_le hk h.size)).trans (h.block k hk hne)⟩
theorem below_grown {b0 : Nat} {w w' : World} {g : Nat} (h : w.grownBy w' (some g)) (hg : b0 ≤ g) (hw : b0 ≤ w.heap.size) : Below b0 w w' := (Below.refl b0 w).grown h hw fun k e => by cases e; exact hg
/-- One struct written. -/
theorem rowAtR_set (hs : ∀ a, (enc a).length = sz) {w : World} {g : Nat} {d : Array α} (h : RowAtR enc sz w g d) {i : Nat} (hi : i < d.size) (t : α) :
    RowAtR enc sz (w.setCells g (i * sz) (enc t)) g (d.setIfInBounds i t) := by
  refine ⟨by rw [size_setCells]; exact h.1, fun k hk j u hu => ⟨?_, ?_⟩⟩
  · have hk2 : k < d.size := by simpa using hk
    by_cases e : k = i
    · subst e
      rw [getElem!_pos _ k hk, Array.getElem_setIfInBounds_self] at hu
      have hj : j < (enc t).length := (List.getElem?_eq_some_iff.1 hu).1
      rw [World.cell?_setCells_in g (enc t) (k * sz) w (fun m hm => ?_) j hj]
      · rw [← hu, List.getElem?_eq_getElem hj]
      · have hm2 : m < (enc d[k]!).length := by rw [hs] at hm ⊢; exact hm
        rw [(h.2 k hk2 m _ (List.getElem?_eq_getElem hm2)).1]
        rfl
    · have hg : (d.setIfInBounds i t)[k]! = d[k]! := by
        rw [getElem!_pos _ k hk, getElem!_pos d k hk2, Array.getElem_setIfInBounds_ne _ (fun h => e h.symm)]
      rw [hg] at hu
      have hj : j < sz := by rw [← hs d[k]!]; exact (List.getElem?_eq_some_iff.1 hu).1
      rw [World.cell?_setCells_out g (enc t) (i * sz) w _ (fun _ _ => ?_)]
      · exact (h.2 k hk2 j u hu).1
      · rw [hs]
        show k * sz + j < i * sz ∨ i * sz + sz ≤ k * sz + j
        rcases Nat.lt_or_gt_of_ne e with h1 | h1
        · have : (k + 1) * sz ≤ i * sz := Nat.mul_le_mul_right _ h1
          rw [Nat.add_mul] at this
          omega
        · have : (i + 1) * sz ≤ k * sz := Nat.mul_le_mul_right _ h1
          rw [Nat.add_mul] at this
          omega
  · have hk2 : k < d.size := by simpa using hk
    rw [World.frozen?_setCells]
    have hj : j < sz := by rw [← hs (d.setIfInBounds i t)[k]!]; exact (List.getElem?_eq_some_iff.1 hu).1
    have hj2 : j < (enc d[k]!).length := by rw [hs]; exact hj
    exact (h.2 k hk2 j _ (List.getElem?_eq_getElem hj2)).2
theorem rowAtR_front (hs : ∀ a, (enc a).length = sz) {w : World} {g : Nat} {d : Array α} (h : RowAtR enc sz w g d) {i : Nat} (hi : i ≤ d.size) (vs : List Value) : RowAtR enc sz (w.setCells g (i * sz) vs) g (d.extract 0 i) := by
  refine ⟨by rw [size_setCells]; exact h.1, fun k hk j u hu => ?_⟩
  have hk2 : k < i := by simp at hk; omega
  have hg : (d.extract 0 i)[k]! = d[k]! := by
    rw [getElem!_pos _ k hk, getElem!_pos d k (by omega)]
    simp
  rw [hg] at hu
  have hj : j < sz := by rw [← hs d[k]!]; exact (List.getElem?_eq_some_iff.1 hu).1
  rw [World.cell?_setCells_out g vs _ w _ (fun _ _ => .inl ?_), World.frozen?_setCells]
  · exact h.2 k (by omega) j u hu
  · show k * sz + j < i * sz
    have : (k + 1) * sz ≤ i * sz := Nat.mul_le_mul_right _ hk2
    rw [Nat.add_mul] at this
    omega
/-- clear, from place i on. -/
theorem run_clear_recs {P : Program} (hs : ∀ a, (enc a).length = sz) (h0 : 0 < sz) {t e : TypeId} (ht : P.underlying t = some (.slice e)) {z : Value} (hz : ∀ w, (zeroValue e).run P w = .ok z w) (hzs : z.cells.size = sz) (hz1 : ∀ u ∈ z.cells.toList, u.oneCell' = true)
    {w : World} {g : Nat} {d : Array α} (h : RowAtR enc sz w g d) {i : Nat} (hi : i < d.size) (c : Nat) (ty : TypeId) :
    ∃ vs, (Builtin.clear_ #[t] ty #[.slice (some ⟨g, i * sz, none⟩) (d.size - i) c]).run P w = .ok (.tuple #[]) (w.setCells g (i * sz) vs) := by
  obtain ⟨m, hm⟩ : ∃ m, d.size - i = m + 1 := ⟨d.size - i - 1, by omega⟩
  rw [hm]
  refine ⟨(Builtin.zeroCells z.cells (m + 1)).toList, ?_⟩
  have hlen : (Builtin.zeroCells z.cells (m + 1)).toList.length = (m + 1) * sz := by simp [size_zeroCells, hzs]
  have cell : ∀ j, j < (m + 1) * sz → (w.cell? ⟨g, i * sz + j, none⟩).isSome = true ∧ w.frozen? ⟨g, i * sz + j, none⟩ = false := by
    intro j hj
    have hq : j / sz < m + 1 := (Nat.div_lt_iff_lt_mul h0).2 hj
    have hr := Nat.mod_lt j h0
    have he : j = j / sz * sz + j % sz := by rw [Nat.mul_comm]; exact (Nat.div_add_mod j sz).symm
    have hl : j % sz < (enc d[i + j / sz]!).length := by rw [hs]; exact hr
    have hx := h.2 (i + j / sz) (by omega) (j % sz) _ (List.getElem?_eq_getElem hl)
    have e2 : (i + j / sz) * sz + j % sz = i * sz + j := by rw [Nat.add_mul]; omega
    rw [e2] at hx
    exact ⟨by rw [hx.1]; rfl, hx.2⟩
  have hst := run_storeCells_cells (P := P) g (i * sz) (Builtin.zeroCells z.cells (m + 1)).toList 0 w (by rw [hlen]; simpa using fun j hj => (cell j hj).1) (by rw [hlen]; simpa using fun j hj => (cell j hj).2) (by
    intro v hv
    simp only [Builtin.zeroCells, Array.toList_map, List.mem_map] at hv
    obtain ⟨x, _, rfl⟩ := hv
    have h3 : x % z.cells.size < z.cells.size := Nat.mod_lt _ (by omega)
    rw [getElem!_pos z.cells _ h3]
    exact hz1 _ (by simp))
  simp only [Nat.add_zero] at hst
  simp [Builtin.clear_, run_underlying ht, hz, hst]
end
end Go.Proofs.YtkeiekljedhllaaGreat
