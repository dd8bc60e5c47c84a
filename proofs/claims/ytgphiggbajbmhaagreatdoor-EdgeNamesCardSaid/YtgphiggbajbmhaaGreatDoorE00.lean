/-
  Carried over and put together: contracts of this program's functions, and plain facts. No statement is proved in this text.
-/
import Derived.WalkKit
import Derived.Below
import Derived.OwnWalk
import Derived.Deep.AppendLies
import Derived.Laws.AppendOwnNone
import Derived.Deep.Slices
import Derived.Lib.Hide
set_option maxRecDepth 20000
namespace Go.Proofs.YtgphiggbajbmhaaGreatDoor
open Go Go.RowKit
section
variable {α : Type}
def flatR (enc : α → List Value) (l : List α) : List Value := l.flatMap enc
theorem addr_add_add (a : Addr) (j k : Nat) (hj : 0 < j) : (a.add j).add k = a.add (j + k) := by
 unfold Addr.add
 rw [if_neg (show ¬ j = 0 by omega), if_neg (show ¬ j + k = 0 by omega)]
 split
 ·rename_i h
  subst h
  rfl
 ·simp
  omega
theorem addr_block (a : Addr) (n : Nat) : (a.add n).block = a.block := by unfold Addr.add; split <;> rfl
theorem addr_behind (a : Addr) (m j : Nat) (hj : 0 < j) : a.add (m + j) = ⟨(a.add m).block, (a.add m).off + j, none⟩ := by
 unfold Addr.add
 rw [if_neg (by omega)]
 split
 ·rename_i h
  subst h
  simp
 ·simp
  omega
variable {enc : α → List Value} {sz : Nat}
def Rcs (enc : α → List Value) (sz : Nat) (w : World) (v : Value) (l : List α) : Prop :=
 ∃ A c, v = .slice A l.length c ∧ (A = none → c = 0) ∧ l.length ≤ c ∧ ∀ k (h : k < l.length), ∃ ad, A = some ad ∧ ad.block < w.heap.size ∧ ∀ j u, (enc l[k])[j]? = some u → w.cell? (ad.add (k * sz + j)) = some u
theorem Rcs.below {w w' : World} {v : Value} {l : List α} (h : Rcs enc sz w v l) (hb : Below w.heap.size w w') : Rcs enc sz w' v l := by
 obtain ⟨A, c, hv, h0, hc, hk⟩ := h
 refine ⟨A, c, hv, h0, hc, fun k h => ?_⟩
 obtain ⟨ad, h1, h2, h3⟩ := hk k h
 exact ⟨ad, h1, Nat.lt_of_lt_of_le h2 hb.size, fun j u hu => (hb.cell (by rw [addr_block]; exact h2)).trans (h3 j u hu)⟩
theorem Rcs.nil (w : World) : Rcs enc sz w (.slice none 0 0) [] := ⟨none, 0, rfl, fun _ => rfl, by simp, fun k hk => absurd hk (by simp)⟩
theorem Rcs.first {w w' : World} {ad : Addr} {n c : Nat} {l : List α} (h : Rcs enc sz w (.slice (some ad) n c) l) (hw : Below w.heap.size w w') {k : Nat} (hk : k < l.length) {u : Value} (hu : (enc l[k])[0]? = some u) : w'.cell? (ad.add (k * sz)) = some u := by
 obtain ⟨A', c', hv, _, _, hc⟩ := h.below hw
 injection hv with e1 e2 e3
 subst e1
 obtain ⟨ad', h1, _, h3⟩ := hc k hk
 injection h1 with h1
 subst h1
 exact h3 0 u hu
theorem Rcs.cell {w w' : World} {ad : Addr} {n c : Nat} {l : List α} (h : Rcs enc sz w (.slice (some ad) n c) l) (hw : Below w.heap.size w w') {k : Nat} (hk : k < l.length) (j : Nat) (hj : 0 < j) {u : Value} (hu : (enc l[k])[j]? = some u) : w'.cell? ⟨(ad.add (k * sz)).block, (ad.add (k * sz)).off + j, none⟩ = some u := by
 obtain ⟨A', c', hv, _, _, hc⟩ := h.below hw
 injection hv with e1 e2 e3
 subst e1
 obtain ⟨ad', h1, _, h3⟩ := hc k hk
 injection h1 with h1
 subst h1
 rw [← addr_behind _ _ _ hj]
 exact h3 j u hu
theorem Rcs.shape {w : World} {v : Value} {l : List α} (h : Rcs enc sz w v l) : (v = .slice none 0 0 ∧ l = []) ∨ ∃ ad c, v = .slice (some ad) l.length c ∧ l.length ≤ c := by
 obtain ⟨A, c, rfl, h0, hc, hk⟩ := h
 cases A with
 | none =>
  obtain rfl := h0 rfl
  have : l = [] := List.eq_nil_of_length_eq_zero (by omega)
  subst this
  exact .inl ⟨rfl, rfl⟩
 | some ad => exact .inr ⟨ad, c, rfl, hc⟩
theorem Rcs.addr {w : World} {A : Option Addr} {n c : Nat} {l : List α} (h : Rcs enc sz w (.slice A n c) l) (hl : 0 < l.length) : ∃ ad, A = some ad := by
 obtain ⟨A', c', hv, _, _, hc⟩ := h
 injection hv with e1 e2 e3
 subst e1
 obtain ⟨ad, h1, _⟩ := hc 0 hl
 exact ⟨ad, h1⟩
theorem Rcs.take {w : World} {A : Option Addr} {n c k : Nat} {l : List α} (h : Rcs enc sz w (.slice A n c) l) (hk : k ≤ l.length) : Rcs enc sz w (.slice A k c) (l.take k) := by
 obtain ⟨A', c', hv, h0, hc, hx⟩ := h
 injection hv with e1 e2 e3
 subst e1 e3
 refine ⟨A, c, by rw [List.length_take, Nat.min_eq_left hk], h0, by rw [List.length_take, Nat.min_eq_left hk]; omega, fun j hj => ?_⟩
 rw [List.length_take, Nat.min_eq_left hk] at hj
 obtain ⟨ad, h1, h2, h3⟩ := hx j (by omega)
 exact ⟨ad, h1, h2, by rw [List.getElem_take]; exact h3⟩
theorem Rcs.drop {w : World} {ad : Addr} {n c k : Nat} {l : List α} (hs : 0 < sz) (h : Rcs enc sz w (.slice (some ad) n c) l) (hk : k ≤ l.length) (h0 : 0 < k) : Rcs enc sz w (.slice (some (ad.add (k * sz))) (n - k) (c - k)) (l.drop k) := by
 obtain ⟨A', c', hv, hn, hc2, hx⟩ := h
 injection hv with e1 e2 e3
 subst e1 e3
 refine ⟨some (ad.add (k * sz)), c - k, by rw [List.length_drop, e2], (fun h => by cases h), by rw [List.length_drop]; omega, fun j hj => ?_⟩
 rw [List.length_drop] at hj
 obtain ⟨ad', h1, h2, h3⟩ := hx (k + j) (by omega)
 injection h1 with h1
 subst h1
 refine ⟨_, rfl, by rw [addr_block]; exact h2, fun i u hu => ?_⟩
 rw [addr_add_add _ _ _ (Nat.mul_pos h0 hs), ← Nat.add_assoc, ← Nat.add_mul]
 rw [List.getElem_drop] at hu
 exact h3 i u hu
theorem flatR_len (hs : ∀ a, (enc a).length = sz) (l : List α) : (flatR enc l).length = l.length * sz := by
 unfold flatR
 induction l with
 | nil => simp
 | cons x l ih => rw [List.flatMap_cons, List.length_append, ih, hs, List.length_cons, Nat.add_mul]; omega
theorem flatR_append (l m : List α) : flatR enc (l ++ m) = flatR enc l ++ flatR enc m := List.flatMap_append
theorem flatR_at (hs : ∀ a, (enc a).length = sz) : ∀ (l : List α) (k : Nat) (hk : k < l.length) (j : Nat) (u : Value), (enc l[k])[j]? = some u → (flatR enc l)[k * sz + j]? = some u := by
 intro l
 induction l with
 | nil => intro k hk; simp at hk
 | cons x l ih =>
  intro k hk j u hu
  have hj : j < sz := by
   have := (List.getElem?_eq_some_iff.1 hu).1
   rwa [hs] at this
  unfold flatR
  rw [List.flatMap_cons]
  cases k with
  | zero =>
   rw [Nat.zero_mul, Nat.zero_add, List.getElem?_append_left (by rw [hs]; exact hj)]
   exact hu
  | succ k =>
   rw [List.getElem?_append_right (by rw [hs, Nat.succ_mul]; omega), hs, show (k + 1) * sz + j - sz = k * sz + j by rw [Nat.succ_mul]; omega]
   exact ih k (by simpa using hk) j u hu
theorem flatR_split (hs : ∀ a, (enc a).length = sz) (h0 : 0 < sz) {l : List α} {i : Nat} {u : Value} (h : (flatR enc l)[i]? = some u) : ∃ k, ∃ hk : k < l.length, ∃ j, i = k * sz + j ∧ (enc l[k])[j]? = some u := by
 have hi : i < l.length * sz := by
  have := (List.getElem?_eq_some_iff.1 h).1
  rwa [flatR_len hs] at this
 have hk : i / sz < l.length := (Nat.div_lt_iff_lt_mul h0).2 hi
 have he : i = i / sz * sz + i % sz := by rw [Nat.mul_comm]; exact (Nat.div_add_mod i sz).symm
 have hj := Nat.mod_lt i h0
 refine ⟨i / sz, hk, i % sz, he, ?_⟩
 have h2 : (enc l[i / sz])[i % sz]? = some ((enc l[i / sz])[i % sz]'(by rw [hs]; exact hj)) := List.getElem?_eq_getElem _
 have h3 := flatR_at hs l (i / sz) hk (i % sz) _ h2
 rw [← he, h] at h3
 rw [h2, ← Option.some.inj h3]
def OwnsR (enc : α → List Value) (sz : Nat) (e : TypeId) (w : World) (base : Nat) (v : Value) (l : List α) : Prop := w.ownsRow base e sz v l.length (flatR enc l)
theorem OwnsR.nil (e : TypeId) (w : World) (base : Nat) : OwnsR enc sz e w base (.slice none 0 0) [] := World.ownsRow_nil w base e sz
theorem OwnsR.below {e : TypeId} {w w' : World} {base : Nat} {v : Value} {l : List α} (h : OwnsR enc sz e w base v l) (hb : Below w.heap.size w w') : OwnsR enc sz e w' base v l :=
 World.ownsRow.kept h ⟨hb.os, hb.tape, hb.output, hb.size, fun k hk _ => hb.block k hk⟩ (row := none) (by cases hv : v.ownBlock <;> simp)
theorem ownsR_split {e : TypeId} {w : World} {base n : Nat} {v : Value} {xs : List Value} (h : w.ownsRow base e sz v n xs) : (v = .slice none 0 0 ∧ n = 0) ∨ ∃ g cap, v = .slice (some ⟨g, 0, none⟩) n cap ∧ g < w.heap.size ∧ n ≤ cap := by
 rcases id h.2 with h1 | ⟨g, cap, cur, h1, _, _, hn, _⟩
 ·exact .inl h1
 ·exact .inr ⟨g, cap, h1, (World.ownsRow.lt h g (by rw [h1]; rfl)).2, hn⟩
theorem rcs_owns (hs : ∀ a, (enc a).length = sz) {e : TypeId} {w : World} {base : Nat} {v : Value} {l : List α} (h : OwnsR enc sz e w base v l) : Rcs enc sz w v l := by
 rcases ownsR_split h with ⟨rfl, hn⟩ | ⟨g, cap, rfl, hg, hc⟩
 ·have : l = [] := List.eq_nil_of_length_eq_zero (by omega)
  subst this
  exact Rcs.nil w
 ·exact ⟨some ⟨g, 0, none⟩, cap, rfl, (fun h => by cases h), hc, fun k hk => ⟨_, rfl, hg, fun j u hu => World.ownsRow.cells h (g := g) rfl _ _ (flatR_at hs l k hk j u hu)⟩⟩
theorem rcs_lit (hs : ∀ a, (enc a).length = sz) (w : World) (l : List α) (cs : Array Value) (T : TypeId) (h : cs.toList = flatR enc l) : Rcs enc sz (w.alloc (.cells cs T)) (.slice (some ⟨w.heap.size, 0, none⟩) l.length l.length) l := by
 refine ⟨some ⟨w.heap.size, 0, none⟩, l.length, rfl, (fun h => by cases h), Nat.le_refl _, fun k hk => ⟨_, rfl, by simp, fun j u hu => ?_⟩⟩
 have hadd : (⟨w.heap.size, 0, none⟩ : Addr).add (k * sz + j) = ⟨w.heap.size, k * sz + j, none⟩ := by unfold Addr.add; split <;> simp_all
 rw [hadd, cell_of_row _ _ _ _ _ _ (heap_alloc_new w _), ← Array.getElem?_toList, h]
 exact flatR_at hs l k hk j u hu
variable {P : Program}
theorem wpList_append_recs {ops : Array Oper} {rest : List Oper} {o : Oper} {a : Act} {Q : Exit → Act → World → Prop} (t e : TypeId) {z : Value} {bytes : Nat} (ht : P.underlying t = some (.slice e))
  (hinfo : (P.info? e).map (fun i => (i.zero, i.size, i.bytes)) = some (some z, sz, bytes)) (hz : z.cells.size = sz) (hs : ∀ a, (enc a).length = sz) (h0 : 0 < sz) (h1 : ∀ a, ∀ u ∈ enc a, u.oneCell' = true) (hby : bytes ≤ 1000)
  (hgd : o.guard = none) (s x : Operand) (ho : o.op = .call { callee := .builtin .append, args := #[s, x], argTypes := #[t, t] })
  (wr : World) (base : Nat) (v u : Value) (d l : List α) (hsv : a.eval s = v) (hx : a.eval x = u)
  (hown : OwnsR enc sz e wr base v d) (hI : Rcs enc sz wr u l) (hl : d.length + l.length ≤ 100000) (hb : base ≤ wr.heap.size)
  (h : ∀ v' w', OwnsR enc sz e w' base v' (d ++ l) → Below base wr w' → wpList P ops Q rest (a.put o.dst v') w') :
  wpList P ops Q (o :: rest) a wr := by
 obtain ⟨i0, hi, hz0, hz1, hz2⟩ := info_parts hinfo
 obtain ⟨A, c, rfl, hn0, hc, hk⟩ := hI
 cases A with
 | none =>
  obtain rfl := hn0 rfl
  have hn : l = [] := List.eq_nil_of_length_eq_zero (by omega)
  subst hn
  refine wpList_append_own_none hgd s x t ho base e i0 sz ht hi _ d.length (flatR enc d) hsv hown hx (h _ _ (by rw [List.append_nil]; exact hown) (Below.refl _ _))
 | some ad =>
  refine wpList_append_own _ hgd s x t ho base e i0 z sz bytes ht hi hz0 hz1 hz2 hz h0 v d.length (flatR enc d) hsv hown ad l.length c (flatR enc l) hx (flatR_len hs l)
   (fun j u hu => ?_) (fun u hu => ?_) (by unfold maxLen; omega) ?_ hb ?_
  ·obtain ⟨k, hlt, i, rfl, hu2⟩ := flatR_split hs h0 hu
   obtain ⟨ad', e, h1, h2⟩ := hk k hlt
   injection e with e
   subst e
   exact h2 i u hu2
  ·obtain ⟨x, _, hx⟩ := List.mem_flatMap.1 hu
   exact h1 x u hx
  ·have : (d.length + l.length) * bytes ≤ 100000 * 1000 := Nat.mul_le_mul hl hby
   omega
  ·intro v' w' h1 h2 _
   refine h v' w' ?_ ((Below.refl base wr).grown h2 hb fun k hk => (World.ownsRow.lt hown k hk).1)
   unfold OwnsR
   rw [flatR_append, List.length_append]
   exact h1
theorem wpList_make_recs {ops : Array Oper} {rest : List Oper} {o : Oper} {a : Act} {Q : Exit → Act → World → Prop} (t e : TypeId) {z : Value} {bytes : Nat} (ht : P.underlying t = some (.slice e))
  (hinfo : (P.info? e).map (fun i => (i.zero, i.size, i.bytes)) = some (some z, sz, bytes)) (hby : bytes ≤ 1000)
  (w : World) (hgd : o.guard = none) (x : Operand) (hop : o.op = .makeSlice t (.const (.int .i64 0)) x) (C : Int) (hx : a.eval x = .int .i64 C) (h0 : 0 ≤ C) (hn : C ≤ 100000)
  (h : ∀ v' w', OwnsR enc sz e w' w.heap.size v' [] → Below w.heap.size w w' → wpList P ops Q rest (a.put o.dst v') w') : wpList P ops Q (o :: rest) a w := by
 obtain ⟨i0, hi, hz0, hz1, hz2⟩ := info_parts hinfo
 obtain ⟨n, rfl⟩ := Int.eq_ofNat_of_zero_le h0
 have hnb : n * bytes ≤ 100000 * 1000 := Nat.mul_le_mul (by omega) hby
 exact wpList_make_own w hgd _ x t hop w.heap.size e i0 z sz ht hi hz0 hz1 .i64 .i64 n n rfl hx rfl (by rw [hz2]; have := Nat.mul_comm n bytes; omega) (by unfold maxLen; omega) (Nat.le_refl _)
  fun w' h1 h2 => h _ w' h1 ((Below.refl w.heap.size w).grown h2 (Nat.le_refl _) (fun k hk => by cases hk))
end
section
variable {H : Type} {enc' : TypeId × Value → H} {P : Program} {w : World} {base : Nat} {spare : Nat → Bool} {held : Bool} {α : Type} {enc : α → List Value} {sz : Nat}
end
end Go.Proofs.YtgphiggbajbmhaaGreatDoor
namespace Go.Proofs.YtgphiggbajbmhaaGreatDoor.Sets
abbrev Id2 := Int × Int
def lt (a b : Id2) : Prop := a.1 < b.1 ∨ a.1 = b.1 ∧ a.2 < b.2
instance (a b : Id2) : Decidable (lt a b) := by unfold lt; infer_instance
theorem lt_irrefl (a : Id2) : ¬ lt a a := by unfold lt; omega
theorem lt_trans {a b c : Id2} (h : lt a b) (k : lt b c) : lt a c := by unfold lt at *; omega
theorem lt_asymm {a b : Id2} (h : lt a b) : ¬ lt b a := by unfold lt at *; omega
theorem lt_total (a b : Id2) : lt a b ∨ a = b ∨ lt b a := by
 obtain ⟨a1, a2⟩ := a
 obtain ⟨b1, b2⟩ := b
 unfold lt
 simp only [Prod.mk.injEq]
 omega
def Rises (l : List Id2) : Prop := l.Pairwise lt
theorem rises_nil : Rises [] := List.Pairwise.nil
theorem rises_cons {x : Id2} {l : List Id2} : Rises (x :: l) ↔ (∀ y ∈ l, lt x y) ∧ Rises l := List.pairwise_cons
theorem rises_ext : ∀ {l m : List Id2}, Rises l → Rises m → (∀ x, x ∈ l ↔ x ∈ m) → l = m
 | [], [], _, _, _ => rfl
 | [], y :: m, _, _, h => absurd ((h y).2 (List.mem_cons_self ..)) (by simp)
 | x :: l, [], _, _, h => absurd ((h x).1 (List.mem_cons_self ..)) (by simp)
 | x :: l, y :: m, hl, hm, h => by
  have h1 := rises_cons.1 hl
  have h2 := rises_cons.1 hm
  have e : x = y := by
   rcases List.mem_cons.1 ((h x).1 (List.mem_cons_self ..)) with e | e
   ·exact e
   ·rcases List.mem_cons.1 ((h y).2 (List.mem_cons_self ..)) with e2 | e2
    ·exact e2.symm
    ·exact absurd (h1.1 y e2) (lt_asymm (h2.1 x e))
  subst e
  congr 1
  refine rises_ext h1.2 h2.2 fun z => ?_
  have hz := h z
  simp only [List.mem_cons] at hz
  constructor
  ·intro hzl
   rcases hz.1 (.inr hzl) with e | e
   ·subst e
    exact absurd (h1.1 z hzl) (lt_irrefl z)
   ·exact e
  ·intro hzm
   rcases hz.2 (.inr hzm) with e | e
   ·subst e
    exact absurd (h2.1 z hzm) (lt_irrefl z)
   ·exact e
def ins (x : Id2) : List Id2 → List Id2
 | [] => [x]
 | y :: l => if lt x y then x :: y :: l else if x = y then y :: l else y :: ins x l
theorem mem_ins (x z : Id2) (l : List Id2) : z ∈ ins x l ↔ z = x ∨ z ∈ l := by
 induction l with
 | nil => simp [ins]
 | cons y l ih =>
  rw [ins]
  split
  ·simp
  ·split
   ·rename_i _ e
    subst e
    simp
   ·simp only [List.mem_cons, ih]
    constructor
    ·rintro (h | h | h)
     ·exact .inr (.inl h)
     ·exact .inl h
     ·exact .inr (.inr h)
    ·rintro (h | h | h)
     ·exact .inr (.inl h)
     ·exact .inl h
     ·exact .inr (.inr h)
theorem rises_ins (x : Id2) (l : List Id2) (h : Rises l) : Rises (ins x l) := by
 induction l with
 | nil => exact rises_cons.2 ⟨by simp, rises_nil⟩
 | cons y l ih =>
  have h1 := rises_cons.1 h
  rw [ins]
  split
  ·rename_i hlt
   refine rises_cons.2 ⟨fun z hz => ?_, h⟩
   rcases List.mem_cons.1 hz with e | e
   ·subst e
    exact hlt
   ·exact lt_trans hlt (h1.1 z e)
  ·split
   ·exact h
   ·rename_i hn he
    refine rises_cons.2 ⟨fun z hz => ?_, ih h1.2⟩
    rcases (mem_ins x z l).1 hz with e | e
    ·subst e
     rcases lt_total z y with k | k | k
     ·exact absurd k hn
     ·exact absurd k he
     ·exact k
    ·exact h1.1 z e
def setOf (l : List Id2) : List Id2 := l.foldl (fun acc x => ins x acc) []
theorem mem_foldl (l acc : List Id2) (z : Id2) : z ∈ l.foldl (fun acc x => ins x acc) acc ↔ z ∈ acc ∨ z ∈ l := by
 induction l generalizing acc with
 | nil => simp
 | cons x l ih =>
  rw [List.foldl_cons, ih, mem_ins, List.mem_cons]
  constructor
  ·rintro ((h | h) | h)
   ·exact .inr (.inl h)
   ·exact .inl h
   ·exact .inr (.inr h)
  ·rintro (h | h | h)
   ·exact .inl (.inr h)
   ·exact .inl (.inl h)
   ·exact .inr h
theorem rises_foldl (l acc : List Id2) (h : Rises acc) : Rises (l.foldl (fun acc x => ins x acc) acc) := by
 induction l generalizing acc with
 | nil => exact h
 | cons x l ih => exact ih _ (rises_ins x acc h)
theorem mem_setOf (l : List Id2) (z : Id2) : z ∈ setOf l ↔ z ∈ l := by
 unfold setOf
 rw [mem_foldl]
 simp
theorem rises_setOf (l : List Id2) : Rises (setOf l) := rises_foldl l [] rises_nil
theorem setOf_self {l : List Id2} (h : Rises l) : setOf l = l := rises_ext (rises_setOf l) h (mem_setOf l)
theorem setOf_ext {l m : List Id2} (h : ∀ x, x ∈ l ↔ x ∈ m) : setOf l = setOf m :=
 rises_ext (rises_setOf l) (rises_setOf m) fun x => by rw [mem_setOf, mem_setOf]; exact h x
def put (l : List Id2) (x : Id2) : List Id2 := setOf (x :: l)
def del (l : List Id2) (x : Id2) : List Id2 := setOf (l.filter fun y => decide (y ≠ x))
def join (l m : List Id2) : List Id2 := setOf (l ++ m)
def both (l m : List Id2) : List Id2 := setOf (l.filter fun y => decide (y ∈ m))
def without (l m : List Id2) : List Id2 := setOf (l.filter fun y => decide (y ∉ m))
theorem mem_del (l : List Id2) (x z : Id2) : z ∈ del l x ↔ z ∈ l ∧ z ≠ x := by unfold del; rw [mem_setOf]; simp
theorem mem_join (l m : List Id2) (z : Id2) : z ∈ join l m ↔ z ∈ l ∨ z ∈ m := by unfold join; rw [mem_setOf]; simp
theorem mem_both (l m : List Id2) (z : Id2) : z ∈ both l m ↔ z ∈ l ∧ z ∈ m := by unfold both; rw [mem_setOf]; simp
theorem mem_without (l m : List Id2) (z : Id2) : z ∈ without l m ↔ z ∈ l ∧ z ∉ m := by unfold without; rw [mem_setOf]; simp
theorem rises_del (l : List Id2) (x : Id2) : Rises (del l x) := rises_setOf _
theorem rises_join (l m : List Id2) : Rises (join l m) := rises_setOf _
theorem rises_both (l m : List Id2) : Rises (both l m) := rises_setOf _
theorem rises_without (l m : List Id2) : Rises (without l m) := rises_setOf _
theorem both_comm (a b : List Id2) : both a b = both b a := rises_ext (rises_both _ _) (rises_both _ _) fun x => by rw [mem_both, mem_both]; exact And.comm
theorem ins_len (x : Id2) (l : List Id2) : (ins x l).length ≤ l.length + 1 := by
 induction l with
 | nil => simp [ins]
 | cons y l ih =>
  rw [ins]
  split
  ·simp
  ·split
   ·simp
   ·simpa using ih
theorem foldl_len (l acc : List Id2) : (l.foldl (fun acc x => ins x acc) acc).length ≤ acc.length + l.length := by
 induction l generalizing acc with
 | nil => simp
 | cons x l ih =>
  have h1 := ih (ins x acc)
  have h2 := ins_len x acc
  simp only [List.foldl_cons, List.length_cons]
  omega
theorem setOf_len (l : List Id2) : (setOf l).length ≤ l.length := by
 have := foldl_len l []
 simpa [setOf] using this
end Go.Proofs.YtgphiggbajbmhaaGreatDoor.Sets
namespace Go.Proofs.YtgphiggbajbmhaaGreatDoor.RowSets
open Go.Proofs.YtgphiggbajbmhaaGreatDoor.Sets
abbrev Says := Int × List Id2
abbrev Row := Id2 × Says
def get : List Row → Id2 → Option Says
 | [], _ => none
 | r :: l, x => if r.1 = x then some r.2 else get l x
def ids (l : List Row) : List Id2 := l.map (·.1)
theorem get_none {l : List Row} {x : Id2} : get l x = none ↔ x ∉ ids l := by
 induction l with
 | nil => simp [get, ids]
 | cons r l ih =>
  rw [get]
  by_cases e : r.1 = x
  ·rw [if_pos e]
   simp [ids, e]
  ·rw [if_neg e, ih]
   unfold ids
   rw [List.map_cons, List.mem_cons, not_or]
   exact ⟨fun h => ⟨fun k => e k.symm, h⟩, fun h => h.2⟩
theorem get_mem {l : List Row} {x : Id2} {s : Says} (h : get l x = some s) : (x, s) ∈ l := by
 induction l with
 | nil => simp [get] at h
 | cons r l ih =>
  rw [get] at h
  by_cases e : r.1 = x
  ·rw [if_pos e] at h
   rw [← Option.some.inj h, ← e]
   exact List.mem_cons_self ..
  ·rw [if_neg e] at h
   exact List.mem_cons_of_mem _ (ih h)
theorem get_some {l : List Row} {x : Id2} (h : x ∈ ids l) : ∃ s, get l x = some s := by
 rcases hg : get l x with _ | s
 ·exact absurd h (get_none.1 hg)
 ·exact ⟨s, rfl⟩
def Up (l : List Row) : Prop := Rises (ids l)
theorem up_cons {r : Row} {l : List Row} : Up (r :: l) ↔ (∀ u ∈ l, lt r.1 u.1) ∧ Up l := by
 unfold Up ids
 rw [List.map_cons, rises_cons]
 constructor
 ·rintro ⟨h1, h2⟩
  exact ⟨fun u hu => h1 _ (List.mem_map_of_mem hu), h2⟩
 ·rintro ⟨h1, h2⟩
  exact ⟨fun y hy => by obtain ⟨u, hu, rfl⟩ := List.mem_map.1 hy; exact h1 u hu, h2⟩
theorem get_of_mem {l : List Row} (h : Up l) {r : Row} (hr : r ∈ l) : get l r.1 = some r.2 := by
 induction l with
 | nil => cases hr
 | cons u l ih =>
  obtain ⟨h1, h2⟩ := up_cons.1 h
  rw [get]
  rcases List.mem_cons.1 hr with rfl | hr
  ·rw [if_pos rfl]
  ·rw [if_neg (fun e => absurd (e ▸ h1 r hr) (lt_irrefl _))]
   exact ih h2 hr
def table (f : Id2 → Option Says) (l : List Id2) : List Row := (setOf l).filterMap fun x => (f x).map fun s => (x, s)
theorem filterMap_ids (f : Id2 → Option Says) (l : List Id2) : (l.filterMap fun x => (f x).map fun s => (x, s)).map (·.1) = l.filter fun x => (f x).isSome := by
 induction l with
 | nil => rfl
 | cons x l ih =>
  rcases h : f x with _ | s
  ·rw [List.filterMap_cons_none (by rw [h]; rfl), List.filter_cons_of_neg (by rw [h]; simp), ih]
  ·rw [List.filterMap_cons_some (by rw [h]; rfl), List.filter_cons_of_pos (by rw [h]; rfl), List.map_cons, ih]
theorem up_table (f : Id2 → Option Says) (l : List Id2) : Up (table f l) := by
 unfold Up ids table
 rw [filterMap_ids]
 exact List.Pairwise.filter _ (rises_setOf l)
theorem get_table {f : Id2 → Option Says} {l : List Id2} (h : ∀ x s, f x = some s → x ∈ l) (x : Id2) : get (table f l) x = f x := by
 rcases hf : f x with _ | s
 ·rw [get_none]
  intro hi
  unfold ids table at hi
  rw [filterMap_ids, List.mem_filter] at hi
  rw [hf] at hi
  simp at hi
 ·have hm : (x, s) ∈ table f l := List.mem_filterMap.2 ⟨x, (mem_setOf l x).2 (h x s hf), by rw [hf]; rfl⟩
  exact get_of_mem (up_table f l) hm
theorem table_len (f : Id2 → Option Says) (l : List Id2) : (table f l).length ≤ l.length := Nat.le_trans (List.length_filterMap_le _ _) (setOf_len l)
def two : Option Says → Option Says → Option Says
 | none, s => s
 | some r, none => some r
 | some r, some s => if s.1 < r.1 then some r else if r.1 < s.1 then some s else some (r.1, join r.2 s.2)
theorem two_none (r : Option Says) : two r none = r := by cases r <;> rfl
def joinR (a b : List Row) : List Row := table (fun x => two (get a x) (get b x)) (ids a ++ ids b)
theorem get_joinR (a b : List Row) (x : Id2) : get (joinR a b) x = two (get a x) (get b x) := by
 refine get_table (f := fun x => two (get a x) (get b x)) (fun y s h => ?_) x
 rw [List.mem_append]
 refine Decidable.byContradiction fun hn => ?_
 rw [not_or] at hn
 rw [get_none.2 hn.1, get_none.2 hn.2] at h
 cases h
theorem up_joinR (a b : List Row) : Up (joinR a b) := up_table _ _
theorem joinR_len (a b : List Row) : (joinR a b).length ≤ a.length + b.length := Nat.le_trans (table_len _ _) (by simp [ids])
def Norm (l : List Row) : Prop := Up l ∧ ∀ r ∈ l, Rises r.2.2
def rem (fl : List Id2) (x : Id2) : Bool := fl.any fun f => decide (f.1 = x.1) && decide (x.2 ≤ f.2)
def keepN (fl : List Id2) (l : List Id2) : List Id2 := l.filter fun x => !rem fl x
def gone (fl : List Id2) (l : List Row) : List Row := (l.filter fun r => !rem fl r.1).map fun r => (r.1, r.2.1, keepN fl r.2.2)
def nots (o : Option Says) : List Id2 := match o with
 | none => []
 | some s => s.2
def vers (o : Option Says) : Int := match o with
 | none => 0
 | some s => s.1
def wanted (of : Id2) (not : List Id2) : List Id2 := setOf (not.filter fun x => decide (x ≠ of))
def place (r : Row) : List Row → List Row
 | [] => [r]
 | u :: l => if u.1 = r.1 then r :: l else if lt u.1 r.1 then u :: place r l else r :: u :: l
end Go.Proofs.YtgphiggbajbmhaaGreatDoor.RowSets
namespace Go.Proofs.YtgphiggbajbmhaaGreatDoor
open Sets
def lss (a i b j : Int) : Bool := decide (a < b ∨ a = b ∧ i < j)
theorem lss_iff (x y : Id2) : lss x.1 x.2 y.1 y.2 = true ↔ lt x y := by simp [lss, lt]
def cmpZ (a i b j : Int) : Int := if lss a i b j = true then -1 else if lss b j a i = true then 1 else 0
theorem cmpZ_eq (x y : Id2) : cmpZ x.1 x.2 y.1 y.2 = if lt x y then -1 else if lt y x then 1 else 0 := by
 unfold cmpZ
 simp only [lss_iff]
def risesB : List Id2 → Bool
 | x :: y :: l => lss x.1 x.2 y.1 y.2 && risesB (y :: l)
 | _ => true
theorem risesB_iff : ∀ l : List Id2, risesB l = true ↔ Rises l
 | [] => by simp [risesB, Rises]
 | [x] => by simp [risesB, Rises]
 | x :: y :: l => by
  rw [risesB, Bool.and_eq_true, lss_iff, risesB_iff (y :: l), rises_cons (x := x)]
  constructor
  ·rintro ⟨h1, h2⟩
   refine ⟨fun z hz => ?_, h2⟩
   rcases List.mem_cons.1 hz with e | e
   ·exact e ▸ h1
   ·exact lt_trans h1 ((rises_cons.1 h2).1 z e)
  ·rintro ⟨h1, h2⟩
   exact ⟨h1 y (List.mem_cons_self ..), h2⟩
theorem risesB_take {l : List Id2} : ∀ {k : Nat} (h : k + 1 < l.length), risesB (l.take (k + 2)) = (risesB (l.take (k + 1)) && lss l[k].1 l[k].2 l[k+1].1 l[k+1].2) := by
 induction l with
 | nil => intro k h; simp at h
 | cons x l ih =>
  intro k h
  cases l with
  | nil => simp at h
  | cons y l =>
   cases k with
   | zero => simp [risesB]
   | succ k =>
    have := ih (k := k) (by simpa using h)
    simp only [List.take_succ_cons, risesB] at this ⊢
    rw [this, Bool.and_assoc]
    rfl
theorem risesB_not {l : List Id2} : ∀ {k : Nat} (h : k + 1 < l.length), lss l[k].1 l[k].2 l[k+1].1 l[k+1].2 = false → risesB l = false := by
 induction l with
 | nil => intro k h; simp at h
 | cons x l ih =>
  intro k h hv
  cases l with
  | nil => simp at h
  | cons y l =>
   cases k with
   | zero => simp only [risesB, Bool.and_eq_false_iff]; exact .inl hv
   | succ k => simp only [risesB, Bool.and_eq_false_iff]; exact .inr (ih (k := k) (by simpa using h) hv)
theorem risesB_one (l : List Id2) : risesB (l.take 1) = true := by
 cases l <;> rfl
def headZ : List Id2 → List Id2 → Int
 | _, [] => -1
 | [], _ :: _ => 1
 | x :: _, y :: _ => cmpZ x.1 x.2 y.1 y.2
def stepL (l m : List Id2) : List Id2 := if headZ l m ≤ 0 then l.tail else l
def stepM (l m : List Id2) : List Id2 := if 0 ≤ headZ l m then m.tail else m
def stepX (l m : List Id2) : Id2 := if 0 ≤ headZ l m then m.headD (0, 0) else l.headD (0, 0)
theorem step_less (l m : List Id2) (h : ¬ (l = [] ∧ m = [])) : (stepL l m).length + (stepM l m).length < l.length + m.length := by
 unfold stepL stepM
 cases l with
 | nil =>
  cases m with
  | nil => exact absurd ⟨rfl, rfl⟩ h
  | cons y m => simp [headZ]
 | cons x l =>
  cases m with
  | nil => simp [headZ]
  | cons y m =>
   by_cases h1 : headZ (x :: l) (y :: m) ≤ 0
   ·by_cases h2 : 0 ≤ headZ (x :: l) (y :: m)
    ·rw [if_pos h1, if_pos h2]
     simp only [List.tail, List.length_cons]
     omega
    ·rw [if_pos h1, if_neg h2]
     simp only [List.tail, List.length_cons]
     omega
   ·rw [if_neg h1, if_pos (by omega)]
    simp only [List.tail, List.length_cons]
    omega
def mrgN (k : Bool → Bool → Bool) : Nat → List Id2 → List Id2 → List Id2
 | 0, _, _ => []
 | n + 1, l, m => if l = [] ∧ m = [] then [] else (if k (decide (headZ l m ≤ 0)) (decide (0 ≤ headZ l m)) = true then [stepX l m] else []) ++ mrgN k n (stepL l m) (stepM l m)
def mrg (k : Bool → Bool → Bool) (l m : List Id2) : List Id2 := mrgN k (l.length + m.length) l m
theorem mrgN_none (k : Bool → Bool → Bool) (n : Nat) : mrgN k n [] [] = [] := by
 cases n with
 | zero => rfl
 | succ n => rw [mrgN, if_pos ⟨rfl, rfl⟩]
theorem both_none {l m : List Id2} (h : l.length + m.length ≤ 0) : l = [] ∧ m = [] := ⟨List.eq_nil_of_length_eq_zero (by omega), List.eq_nil_of_length_eq_zero (by omega)⟩
theorem mrgN_same (k : Bool → Bool → Bool) : ∀ (a b : Nat) (l m : List Id2), l.length + m.length ≤ a → l.length + m.length ≤ b → mrgN k a l m = mrgN k b l m := by
 intro a
 induction a with
 | zero =>
  intro b l m h _
  obtain ⟨rfl, rfl⟩ := both_none h
  rw [mrgN_none, mrgN_none]
 | succ a ih =>
  intro b l m h h2
  cases b with
  | zero =>
   obtain ⟨rfl, rfl⟩ := both_none h2
   rw [mrgN_none, mrgN_none]
  | succ b =>
   rw [mrgN, mrgN]
   by_cases hn : l = [] ∧ m = []
   ·rw [if_pos hn, if_pos hn]
   ·have := step_less l m hn
    rw [if_neg hn, if_neg hn, ih b (stepL l m) (stepM l m) (by omega) (by omega)]
theorem mrg_none (k : Bool → Bool → Bool) : mrg k [] [] = [] := rfl
theorem mrg_step (k : Bool → Bool → Bool) (l m : List Id2) (h : ¬ (l = [] ∧ m = [])) :
  mrg k l m = (if k (decide (headZ l m ≤ 0)) (decide (0 ≤ headZ l m)) = true then [stepX l m] else []) ++ mrg k (stepL l m) (stepM l m) := by
 have hs := step_less l m h
 unfold mrg
 obtain ⟨n, hn⟩ : ∃ n, l.length + m.length = n + 1 := ⟨l.length + m.length - 1, by omega⟩
 rw [hn, mrgN, if_neg h, mrgN_same k n _ (stepL l m) (stepM l m) (by omega) (Nat.le_refl _)]
theorem mrg_left {k : Bool → Bool → Bool} {x : Id2} {l m : List Id2} (h : headZ (x :: l) m = -1) : mrg k (x :: l) m = (if k true false = true then [x] else []) ++ mrg k l m := by
 rw [mrg_step k (x :: l) m (by simp)]
 unfold stepX stepL stepM
 rw [h]
 rfl
theorem mrg_same {k : Bool → Bool → Bool} {x y : Id2} {l m : List Id2} (h : headZ (x :: l) (y :: m) = 0) : mrg k (x :: l) (y :: m) = (if k true true = true then [y] else []) ++ mrg k l m := by
 rw [mrg_step k (x :: l) (y :: m) (by simp)]
 unfold stepX stepL stepM
 rw [h]
 rfl
theorem mrg_right {k : Bool → Bool → Bool} {y : Id2} {l m : List Id2} (h : headZ l (y :: m) = 1) : mrg k l (y :: m) = (if k false true = true then [y] else []) ++ mrg k l m := by
 rw [mrg_step k l (y :: m) (by simp)]
 unfold stepX stepL stepM
 rw [h]
 rfl
def Kept (k : Bool → Bool → Bool) (l m r : List Id2) : Prop := Rises r ∧ ∀ z, z ∈ r ↔ (z ∈ l ∨ z ∈ m) ∧ k (decide (z ∈ l)) (decide (z ∈ m)) = true
theorem kept_one {k : Bool → Bool → Bool} {l m l' m' r : List Id2} {x : Id2} {p q : Bool} (ih : Kept k l' m' r) (hl : ∀ z, z ∈ l ↔ (z = x ∧ p = true) ∨ z ∈ l') (hm : ∀ z, z ∈ m ↔ (z = x ∧ q = true) ∨ z ∈ m')
  (hpq : p = true ∨ q = true) (h1 : ∀ z ∈ l', lt x z) (h2 : ∀ z ∈ m', lt x z) : Kept k l m ((if k p q = true then [x] else []) ++ r) := by
 obtain ⟨i1, i2⟩ := ih
 have xl : x ∉ l' := fun h => lt_irrefl x (h1 x h)
 have xm : x ∉ m' := fun h => lt_irrefl x (h2 x h)
 have dl : decide (x ∈ l) = p := by
  cases p
  ·exact decide_eq_false fun h => by rcases (hl x).1 h with e | e; exact absurd e.2 (by decide); exact xl e
  ·exact decide_eq_true ((hl x).2 (.inl ⟨rfl, rfl⟩))
 have dm : decide (x ∈ m) = q := by
  cases q
  ·exact decide_eq_false fun h => by rcases (hm x).1 h with e | e; exact absurd e.2 (by decide); exact xm e
  ·exact decide_eq_true ((hm x).2 (.inl ⟨rfl, rfl⟩))
 have hx : x ∈ l ∨ x ∈ m := by
  rcases hpq with e | e
  ·exact .inl ((hl x).2 (.inl ⟨rfl, e⟩))
  ·exact .inr ((hm x).2 (.inl ⟨rfl, e⟩))
 have xr : x ∉ r := fun h => by
  rcases ((i2 x).1 h).1 with e | e
  ·exact xl e
  ·exact xm e
 have other : ∀ z, z ≠ x → ((z ∈ l ↔ z ∈ l') ∧ (z ∈ m ↔ z ∈ m')) := fun z hz => by
  rw [hl z, hm z]
  simp [hz]
 have hmem : ∀ z, z ≠ x → (z ∈ r ↔ (z ∈ l ∨ z ∈ m) ∧ k (decide (z ∈ l)) (decide (z ∈ m)) = true) := fun z hz => by
  rw [i2 z]
  have h3 := other z hz
  have e1 : decide (z ∈ l) = decide (z ∈ l') := by rw [Bool.eq_iff_iff, decide_eq_true_iff, decide_eq_true_iff]; exact h3.1
  have e2 : decide (z ∈ m) = decide (z ∈ m') := by rw [Bool.eq_iff_iff, decide_eq_true_iff, decide_eq_true_iff]; exact h3.2
  rw [e1, e2, h3.1, h3.2]
 by_cases hk : k p q = true
 ·rw [if_pos hk]
  refine ⟨rises_cons.2 ⟨fun z hz => ?_, i1⟩, fun z => ?_⟩
  ·rcases ((i2 z).1 hz).1 with e | e
   ·exact h1 z e
   ·exact h2 z e
  ·by_cases hz : z = x
   ·subst hz
    rw [dl, dm]
    exact ⟨fun _ => ⟨hx, hk⟩, fun _ => List.mem_cons_self ..⟩
   ·rw [← hmem z hz]
    simp [hz]
 ·rw [if_neg hk]
  refine ⟨i1, fun z => ?_⟩
  by_cases hz : z = x
  ·subst hz
   rw [dl, dm]
   exact ⟨fun h => absurd h xr, fun h => absurd h.2 hk⟩
  ·rw [← hmem z hz]
   simp
theorem mrg_kept (k : Bool → Bool → Bool) : ∀ (n : Nat) (l m : List Id2), l.length + m.length ≤ n → Rises l → Rises m → Kept k l m (mrg k l m) := by
 intro n
 induction n with
 | zero =>
  intro l m h _ _
  obtain ⟨rfl, rfl⟩ := both_none h
  exact ⟨rises_nil, by simp [mrg_none]⟩
 | succ n ih =>
  intro l m h hl hm
  cases l with
  | nil =>
   cases m with
   | nil => exact ⟨rises_nil, by simp [mrg_none]⟩
   | cons y m =>
    have h2 := rises_cons.1 hm
    rw [mrg_right rfl]
    exact kept_one (ih [] m (by simp at h ⊢; omega) hl h2.2) (by simp) (by simp) (.inr rfl) (by simp) h2.1
  | cons x l =>
   have h1 := rises_cons.1 hl
   cases m with
   | nil =>
    rw [mrg_left rfl]
    exact kept_one (ih l [] (by simp at h ⊢; omega) h1.2 hm) (by simp) (by simp) (.inl rfl) h1.1 (by simp)
   | cons y m =>
    have h2 := rises_cons.1 hm
    have hz : headZ (x :: l) (y :: m) = cmpZ x.1 x.2 y.1 y.2 := rfl
    rw [cmpZ_eq] at hz
    by_cases hlt : lt x y
    ·rw [if_pos hlt] at hz
     rw [mrg_left hz]
     refine kept_one (ih l (y :: m) (by simp at h ⊢; omega) h1.2 hm) (by simp) (by simp) (.inl rfl) h1.1 fun z hz => ?_
     rcases List.mem_cons.1 hz with e | e
     ·exact e ▸ hlt
     ·exact lt_trans hlt (h2.1 z e)
    ·rw [if_neg hlt] at hz
     by_cases hgt : lt y x
     ·rw [if_pos hgt] at hz
      rw [mrg_right hz]
      refine kept_one (ih (x :: l) m (by simp at h ⊢; omega) hl h2.2) (by simp) (by simp) (.inr rfl) (fun z hz => ?_) h2.1
      rcases List.mem_cons.1 hz with e | e
      ·exact e ▸ hgt
      ·exact lt_trans hgt (h1.1 z e)
     ·rw [if_neg hgt] at hz
      have exy : x = y := by
       rcases lt_total x y with e | e | e
       ·exact absurd e hlt
       ·exact e
       ·exact absurd e hgt
      subst exy
      rw [mrg_same hz]
      exact kept_one (ih l m (by simp at h ⊢; omega) h1.2 h2.2) (by simp) (by simp) (.inl rfl) h1.1 h2.1
theorem mrg_is (k : Bool → Bool → Bool) (l m : List Id2) (hl : Rises l) (hm : Rises m) :
  Rises (mrg k l m) ∧ ∀ z, z ∈ mrg k l m ↔ (z ∈ l ∨ z ∈ m) ∧ k (decide (z ∈ l)) (decide (z ∈ m)) = true := mrg_kept k _ l m (Nat.le_refl _) hl hm
theorem mrg_all (l m : List Id2) : mrg (fun _ _ => true) (setOf l) (setOf m) = join l m := by
 obtain ⟨h1, h2⟩ := mrg_is (fun _ _ => true) _ _ (rises_setOf l) (rises_setOf m)
 exact rises_ext h1 (rises_join _ _) fun z => by rw [h2, mem_join, mem_setOf, mem_setOf]; simp
theorem mrg_or (l m : List Id2) : mrg (fun a b => a || b) (setOf l) (setOf m) = join l m := by
 obtain ⟨h1, h2⟩ := mrg_is (fun a b => a || b) _ _ (rises_setOf l) (rises_setOf m)
 exact rises_ext h1 (rises_join _ _) fun z => by
  rw [h2, mem_join]
  simp only [Bool.or_eq_true, decide_eq_true_eq]
  rw [mem_setOf, mem_setOf, and_self]
theorem mrg_and (l m : List Id2) : mrg (fun a b => a && b) (setOf l) (setOf m) = both l m := by
 obtain ⟨h1, h2⟩ := mrg_is (fun a b => a && b) _ _ (rises_setOf l) (rises_setOf m)
 exact rises_ext h1 (rises_both _ _) fun z => by
  rw [h2, mem_both]
  simp only [Bool.and_eq_true, decide_eq_true_eq]
  rw [mem_setOf, mem_setOf]
  exact ⟨fun h => h.2, fun h => ⟨.inl h.1, h⟩⟩
theorem mrg_not (l m : List Id2) : mrg (fun a b => a && !b) (setOf l) (setOf m) = without l m := by
 obtain ⟨h1, h2⟩ := mrg_is (fun a b => a && !b) _ _ (rises_setOf l) (rises_setOf m)
 exact rises_ext h1 (rises_without _ _) fun z => by
  rw [h2, mem_without]
  simp only [Bool.and_eq_true, decide_eq_true_eq, Bool.not_eq_true', decide_eq_false_iff_not]
  rw [mem_setOf, mem_setOf]
  exact ⟨fun h => h.2, fun h => ⟨.inl h.1, h⟩⟩
theorem join_halves (l : List Id2) (k : Nat) : join (l.take k) (l.drop k) = setOf l := by
 unfold join
 rw [List.take_append_drop]
theorem del_is (l : List Id2) (x : Id2) : without l [x] = del l x := rises_ext (rises_without _ _) (rises_del _ _) fun z => by
 rw [mem_without, mem_del, List.mem_singleton]
theorem len_join (l m : List Id2) : (join l m).length ≤ l.length + m.length := by
 have := setOf_len (l ++ m)
 simpa [join] using this
end Go.Proofs.YtgphiggbajbmhaaGreatDoor
