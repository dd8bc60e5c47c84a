/-
  Carried over and put together: contracts of this program's functions, and plain facts. No statement is proved in this text.
-/
import Derived.Test.YtloghkiabgnpnaaDoorRows
import Derived.WalkKit
import Derived.WalkSpells
import Derived.WalkLawsBesides
import Derived.OwnWalk
import Derived.Deep.AppendLies
import Derived.Outline
import Derived.IntWalk
import Derived.Deep.LoopGhost
import Derived.Handy
import Derived.Lib.Hide
import Derived.Deep.RegionWith
import Derived.Deep.RegionHeld3
import Derived.BigQuiet
import Derived.Deep.QuietTactic
import Derived.Laws.AppendOwnNone
import Derived.Laws.IdiomCopy
import Derived.Laws.NewBlocks
import Derived.Below
import Derived.Deep.Slices
import Derived.Lib.SliceRun
import Derived.Lib.SlKept
import Derived.BigRegion
import Derived.Test.YtloghkiabgnpnaaDoorH01
import Derived.Test.YtloghkiabgnpnaaDoorH02
import Derived.Test.YtloghkiabgnpnaaDoorH03
import Derived.Test.YtloghkiabgnpnaaDoorH05
set_option maxRecDepth 20000
namespace Go.Proofs.YtloghkiabgnpnaaDoor
open Go Go.RowKit Sets RowSets
section
variable {α : Type} [Inhabited α] {enc : α → List Value} {sz : Nat}
omit [Inhabited α] in
/-- What make lays: as many structs of zeros. -/
theorem made_flat (hs : ∀ a, (enc a).length = sz) (h0 : 0 < sz) {zc : Array Value} {r0 : α} (hz : zc.toList = enc r0) (n : Nat) : (madeCells zc (n * sz)).toList = flatR enc (List.replicate n r0) := by
  have hzs : zc.size = sz := by rw [← Array.length_toList, hz, hs]
  apply List.ext_getElem?
  intro j
  by_cases hj : j < n * sz
  · have hk : j / sz < n := (Nat.div_lt_iff_lt_mul h0).2 hj
    have hm := Nat.mod_lt j h0
    have he : j = j / sz * sz + j % sz := by rw [Nat.mul_comm]; exact (Nat.div_add_mod j sz).symm
    have hk2 : j / sz < (List.replicate n r0).length := by simpa using hk
    have hg : (List.replicate n r0)[j / sz] = r0 := by simp
    have hl : j % sz < (enc r0).length := by rw [hs]; exact hm
    have h1 := flatR_at hs (List.replicate n r0) (j / sz) hk2 (j % sz) ((enc r0)[j % sz]) (by rw [hg]; exact List.getElem?_eq_getElem hl)
    rw [← he] at h1
    rw [h1, Array.getElem?_toList, Array.getElem?_eq_getElem (by rw [size_madeCells]; exact hj)]
    congr 1
    have hl2 : j % sz < zc.size := by rw [hzs]; exact hm
    simp only [madeCells, Array.getElem_map, Array.getElem_range, hzs]
    rw [getElem!_pos zc _ hl2, ← Array.getElem_toList]
    simp only [hz]
  · rw [List.getElem?_eq_none (by simp [size_madeCells]; omega), List.getElem?_eq_none (by rw [flatR_len hs]; simp; omega)]
variable {P : Program}
/-- make of a list of n structs. -/
theorem wpList_make_all {ops : Array Oper} {rest : List Oper} {o : Oper} {a : Act} {Q : Exit → Act → World → Prop} (t e : TypeId) {z : Value} {bytes : Nat} (r0 : α) (ht : P.underlying t = some (.slice e))
    (hinfo : (P.info? e).map (fun i => (i.zero, i.size, i.bytes)) = some (some z, sz, bytes)) (hs : ∀ a, (enc a).length = sz) (h0 : 0 < sz) (hz : z.cells.toList = enc r0) (hby : bytes ≤ 1000)
    (w : World) (hgd : o.guard = none) (x : Operand) (hop : o.op = .makeSlice t x x) (n : Nat) (hx : a.eval x = .int .i64 n) (hn : n ≤ 1000000)
    (h : ∀ w', RowAtR enc sz w' w.heap.size (Array.replicate n r0) → w.heap.size < w'.heap.size → Below w.heap.size w w' → wpList P ops Q rest (a.put o.dst (.slice (some ⟨w.heap.size, 0, none⟩) n n)) w') : wpList P ops Q (o :: rest) a w := by
  obtain ⟨i0, hi, hz0, hz1, hz2⟩ := info_parts hinfo
  have hnb : n * bytes ≤ 1000000 * 1000 := Nat.mul_le_mul hn hby
  refine wpList_make_full w hgd x x t hop w.heap.size e i0 z sz ht hi hz0 hz1 .i64 .i64 n n n hx hx rfl rfl (by rw [hz2]; have := Nat.mul_comm n bytes; omega) (by unfold maxLen; omega) (Nat.le_refl _) fun w' h1 h2 => ?_
  rw [made_flat hs h0 hz] at h1
  have ho : OwnsR enc sz e w' w.heap.size (.slice (some ⟨w.heap.size, 0, none⟩) (Array.replicate n r0).size n) (Array.replicate n r0).toList := by
    unfold OwnsR
    simpa using h1
  have hr := rowAtR_owns hs ho
  exact h w' hr hr.1 ((Below.refl w.heap.size w).grown h2 (Nat.le_refl _) (fun k hk => by cases hk))
end
/-- The cells of a row in place. -/
theorem RowAtR.row {w : World} {g : Nat} {d : Array Raw} (h : RowAtR encW 4 w g d) {k : Nat} (hk : k < d.size) :
    (w.cell? ⟨g, k * 4, none⟩ = some (.int .i64 d[k]!.1.1) ∧ w.cell? ⟨g, k * 4 + 1, none⟩ = some (.int .i64 d[k]!.1.2) ∧ w.cell? ⟨g, k * 4 + 2, none⟩ = some (.int .i64 d[k]!.2.1) ∧ w.cell? ⟨g, k * 4 + 3, none⟩ = some (.slice d[k]!.2.2.1 d[k]!.2.2.2.1 d[k]!.2.2.2.2)) ∧
    (w.frozen? ⟨g, k * 4, none⟩ = false ∧ w.frozen? ⟨g, k * 4 + 1, none⟩ = false ∧ w.frozen? ⟨g, k * 4 + 2, none⟩ = false ∧ w.frozen? ⟨g, k * 4 + 3, none⟩ = false) :=
  ⟨⟨(h.2 k hk 0 _ rfl).1, (h.2 k hk 1 _ rfl).1, (h.2 k hk 2 _ rfl).1, (h.2 k hk 3 _ rfl).1⟩, (h.2 k hk 0 _ rfl).2, (h.2 k hk 1 _ rfl).2, (h.2 k hk 2 _ rfl).2, (h.2 k hk 3 _ rfl).2⟩
theorem RowAtR.id {w : World} {g : Nat} {d : Array Id2} (h : RowAtR encI 2 w g d) {k : Nat} (hk : k < d.size) :
    (w.cell? ⟨g, k * 2, none⟩ = some (.int .i64 d[k]!.1) ∧ w.cell? ⟨g, k * 2 + 1, none⟩ = some (.int .i64 d[k]!.2)) ∧
    (w.frozen? ⟨g, k * 2, none⟩ = false ∧ w.frozen? ⟨g, k * 2 + 1, none⟩ = false) :=
  ⟨⟨(h.2 k hk 0 _ rfl).1, (h.2 k hk 1 _ rfl).1⟩, (h.2 k hk 0 _ rfl).2, (h.2 k hk 1 _ rfl).2⟩
/-- A row written. -/
theorem rowW_set {w : World} {g : Nat} {d : Array Raw} (h : RowAtR encW 4 w g d) {i : Nat} (hi : i < d.size) (a j n : Int) (A : Option Addr) (m c : Nat) :
    RowAtR encW 4 ((((w.setCell ⟨g, i * 4, none⟩ (.int .i64 a)).setCell ⟨g, i * 4 + 1, none⟩ (.int .i64 j)).setCell ⟨g, i * 4 + 2, none⟩ (.int .i64 n)).setCell ⟨g, i * 4 + 3, none⟩ (.slice A m c)) g (d.setIfInBounds i ((a, j), n, A, m, c)) :=
  rowAtR_set encW_len h hi ((a, j), n, A, m, c)
theorem rowI_set {w : World} {g : Nat} {d : Array Id2} (h : RowAtR encI 2 w g d) {i : Nat} (hi : i < d.size) (a j : Int) :
    RowAtR encI 2 ((w.setCell ⟨g, i * 2, none⟩ (.int .i64 a)).setCell ⟨g, i * 2 + 1, none⟩ (.int .i64 j)) g (d.setIfInBounds i (a, j)) :=
  rowAtR_set encI_len h hi (a, j)
theorem grown_setW {a w : World} {g : Nat} (h : a.grownBy w (some g)) (i : Nat) (x y z t : Value) : a.grownBy ((((w.setCell ⟨g, i * 4, none⟩ x).setCell ⟨g, i * 4 + 1, none⟩ y).setCell ⟨g, i * 4 + 2, none⟩ z).setCell ⟨g, i * 4 + 3, none⟩ t) (some g) := grown_setCells h (i * 4) [x, y, z, t]
theorem grown_setI {a w : World} {g : Nat} (h : a.grownBy w (some g)) (i : Nat) (x y : Value) : a.grownBy ((w.setCell ⟨g, i * 2, none⟩ x).setCell ⟨g, i * 2 + 1, none⟩ y) (some g) := grown_setCells h (i * 2) [x, y]
theorem below_setW {b0 : Nat} {a w : World} {g : Nat} (h : Below b0 a w) (hg : b0 ≤ g) (i : Nat) (x y z t : Value) : Below b0 a ((((w.setCell ⟨g, i * 4, none⟩ x).setCell ⟨g, i * 4 + 1, none⟩ y).setCell ⟨g, i * 4 + 2, none⟩ z).setCell ⟨g, i * 4 + 3, none⟩ t) := below_setCells h hg (i * 4) [x, y, z, t]
theorem below_setI {b0 : Nat} {a w : World} {g : Nat} (h : Below b0 a w) (hg : b0 ≤ g) (i : Nat) (x y : Value) : Below b0 a ((w.setCell ⟨g, i * 2, none⟩ x).setCell ⟨g, i * 2 + 1, none⟩ y) := below_setCells h hg (i * 2) [x, y]
/-- A row whose list is the call's own. -/
def OwnRow (w : World) (lo : Nat) (q : Raw) (r : Row) : Prop := q.1 = r.1 ∧ q.2.1 = r.2.1 ∧ OwnsI w lo (slc q) r.2.2
/-- One by one. -/
def EachOwn (w : World) (lo : Nat) : List Raw → List Row → Prop
  | [], [] => True
  | q :: qs, r :: l => OwnRow w lo q r ∧ EachOwn w lo qs l
  | _, _ => False
/-- Two rows whose lists lie in two blocks. -/
def Apart (q q' : Raw) : Prop := ∀ b, (slc q).ownBlock = some b → (slc q').ownBlock ≠ some b
theorem EachOwn.imp {w w' : World} {lo lo' : Nat} (f : ∀ q r, OwnRow w lo q r → OwnRow w' lo' q r) : ∀ {qs : List Raw} {l : List Row}, EachOwn w lo qs l → EachOwn w' lo' qs l
  | [], [], _ => trivial
  | _ :: _, _ :: _, h => ⟨f _ _ h.1, EachOwn.imp f h.2⟩
  | [], _ :: _, h => h.elim
  | _ :: _, [], h => h.elim
theorem EachOwn.below {w w' : World} {lo : Nat} {qs : List Raw} {l : List Row} (h : EachOwn w lo qs l) (hb : Below w.heap.size w w') : EachOwn w' lo qs l := h.imp fun _ _ k => ⟨k.1, k.2.1, k.2.2.below hb⟩
theorem EachOwn.mono {w : World} {lo lo' : Nat} {qs : List Raw} {l : List Row} (h : EachOwn w lo qs l) (hb : lo' ≤ lo) : EachOwn w lo' qs l := h.imp fun _ _ k => ⟨k.1, k.2.1, k.2.2.mono hb⟩
theorem EachOwn.grown {w w' : World} {lo g : Nat} {qs : List Raw} {l : List Row} (h : EachOwn w lo qs l) (hb : w.grownBy w' (some g)) (hg : g < lo) : EachOwn w' lo qs l := h.imp fun _ _ k => ⟨k.1, k.2.1, k.2.2.grown hb (ownsR_ne k.2.2 hg)⟩
theorem EachOwn.append {w : World} {lo : Nat} {qs qs' : List Raw} {l l' : List Row} (h : EachOwn w lo qs l) (h' : EachOwn w lo qs' l') : EachOwn w lo (qs ++ qs') (l ++ l') := by
  induction qs generalizing l with
  | nil =>
    cases l with
    | nil => exact h'
    | cons r l => exact h.elim
  | cons q qs ih =>
    cases l with
    | nil => exact h.elim
    | cons r l => exact ⟨h.1, ih h.2⟩
theorem EachOwn.reads {w : World} {lo : Nat} : ∀ {qs : List Raw} {l : List Row}, EachOwn w lo qs l → EachReads w qs l
  | [], [], _ => trivial
  | _ :: _, _ :: _, h => ⟨⟨h.1.1, h.1.2.1, ownsI_ids h.1.2.2⟩, EachOwn.reads h.2⟩
  | [], _ :: _, h => h.elim
  | _ :: _, [], h => h.elim
theorem EachOwn.len {w : World} {lo : Nat} {qs : List Raw} {l : List Row} (h : EachOwn w lo qs l) : qs.length = l.length := h.reads.len
theorem EachOwn.lt {w : World} {lo : Nat} : ∀ {qs : List Raw} {l : List Row}, EachOwn w lo qs l → ∀ q ∈ qs, ∀ b, (slc q).ownBlock = some b → lo ≤ b ∧ b < w.heap.size
  | [], [], _ => fun q hq => by cases hq
  | _ :: _, _ :: _, h => fun q hq b hb => by
    rcases List.mem_cons.1 hq with rfl | hq
    · exact World.ownsRow.lt h.1.2.2 b hb
    · exact EachOwn.lt h.2 q hq b hb
  | [], _ :: _, h => h.elim
  | _ :: _, [], h => h.elim
theorem apart_snoc {w : World} {lo : Nat} {qs : List Raw} {l : List Row} {q : Raw} (h : EachOwn w lo qs l) (ha : qs.Pairwise Apart) (hq : ∀ b, (slc q).ownBlock = some b → w.heap.size ≤ b) : (qs ++ [q]).Pairwise Apart := by
  refine List.pairwise_append.2 ⟨ha, List.pairwise_singleton _ _, fun x hx y hy b hb e => ?_⟩
  rw [List.mem_singleton.1 hy] at e
  have h1 := (h.lt x hx b hb).2
  have h2 := hq b e
  omega
theorem take_set_snoc {α : Type} {d : Array α} {k : Nat} (hk : k < d.size) (q : α) : (d.setIfInBounds k q).toList.take (k + 1) = d.toList.take k ++ [q] := by
  have hk2 : k < (d.setIfInBounds k q).toList.length := by simpa using hk
  rw [List.take_succ_eq_append_getElem hk2]
  congr 1
  · rw [Array.toList_setIfInBounds, List.take_set_of_le (Nat.le_refl _)]
  · simp
theorem take_snoc {α : Type} {l : List α} {k : Nat} (hk : k < l.length) : l.take (k + 1) = l.take k ++ [l[k]] := List.take_succ_eq_append_getElem hk
theorem slc_own (a j n : Int) (A : Option Addr) (m c : Nat) : slc ((a, j), n, A, m, c) = .slice A m c := rfl
end Go.Proofs.YtloghkiabgnpnaaDoor
set_option maxRecDepth 20000
namespace Go.Proofs.YtloghkiabgnpnaaDoor
namespace Ros
/-- An ID: address, life. -/
abbrev Id2 := Int × Int
/-- A member: its ID, its status, its number. -/
abbrev Mm := Id2 × Int × Int
/-- Of two numbers the lesser one above 0. -/
def elder (a b : Int) : Int := if a ≤ 0 then max b 0 else if b ≤ 0 then a else min a b
theorem elder_comm (a b : Int) : elder a b = elder b a := by unfold elder; split <;> split <;> omega
theorem elder_assoc (a b c : Int) : elder (elder a b) c = elder a (elder b c) := by unfold elder; repeat' split <;> omega
theorem elder_self {a : Int} (h : 0 ≤ a) : elder a a = a := by unfold elder; repeat' split <;> omega
theorem elder_zero {a : Int} (h : 0 ≤ a) : elder a 0 = a := by unfold elder; repeat' split <;> omega
theorem zero_elder (a : Int) : elder 0 a = max a 0 := by unfold elder; repeat' split <;> omega
theorem elder_nn (a b : Int) : 0 ≤ elder a b := by unfold elder; repeat' split <;> omega
theorem elder_max (a b : Int) : elder a (max b 0) = elder a b := by unfold elder; repeat' split <;> omega
/-- What is known of an address: its floor, its newest life, that one's status and number. -/
structure St where
  f : Int
  n : Int
  s : Int
  p : Int
deriving DecidableEq
theorem St.ext4 {x y : St} (h1 : x.f = y.f) (h2 : x.n = y.n) (h3 : x.s = y.s) (h4 : x.p = y.p) : x = y := by
  cases x; cases y; simp_all
def St.zero : St := ⟨0, 0, 0, 0⟩
/-- Two together. -/
def St.or (x y : St) : St :=
  ⟨max (max x.f y.f) (if x.n = y.n then 0 else min x.n y.n), max x.n y.n, if x.n = y.n then max x.s y.s else if x.n < y.n then y.s else x.s, if x.n = y.n then elder x.p y.p else if x.n < y.n then y.p else x.p⟩
/-- Nothing is below 0; where there is no life there is no status. -/
structure Good (x : St) : Prop where
  f0 : 0 ≤ x.f
  n0 : 0 ≤ x.n
  s0 : 0 ≤ x.s
  p0 : 0 ≤ x.p
  zs : x.n = 0 → x.s = 0
  zp : x.n = 0 → x.p = 0
theorem good_zero : Good St.zero := ⟨by decide, by decide, by decide, by decide, fun _ => rfl, fun _ => rfl⟩
theorem or_comm (x y : St) : x.or y = y.or x := by
  refine St.ext4 ?_ ?_ ?_ ?_ <;> simp only [St.or]
  · by_cases h : x.n = y.n
    · rw [if_pos h, if_pos h.symm]; omega
    · rw [if_neg h, if_neg (show ¬ y.n = x.n from fun e => h e.symm)]; omega
  · omega
  · by_cases h : x.n = y.n
    · rw [if_pos h, if_pos h.symm]; omega
    · rw [if_neg h, if_neg (show ¬ y.n = x.n from fun e => h e.symm)]
      by_cases h2 : x.n < y.n
      · rw [if_pos h2, if_neg (by omega)]
      · rw [if_neg h2, if_pos (by omega)]
  · by_cases h : x.n = y.n
    · rw [if_pos h, if_pos h.symm, elder_comm]
    · rw [if_neg h, if_neg (show ¬ y.n = x.n from fun e => h e.symm)]
      by_cases h2 : x.n < y.n
      · rw [if_pos h2, if_neg (by omega)]
      · rw [if_neg h2, if_pos (by omega)]
theorem or_n (x y : St) : (x.or y).n = max x.n y.n := rfl
theorem or_lt {x y : St} (h : x.n < y.n) : x.or y = ⟨max (max x.f y.f) x.n, y.n, y.s, y.p⟩ := by
  refine St.ext4 ?_ ?_ ?_ ?_ <;> simp only [St.or]
  · rw [if_neg (by omega)]; omega
  · omega
  · rw [if_neg (by omega), if_pos h]
  · rw [if_neg (by omega), if_pos h]
theorem or_gt {x y : St} (h : y.n < x.n) : x.or y = ⟨max (max x.f y.f) y.n, x.n, x.s, x.p⟩ := by
  rw [or_comm, or_lt h, Int.max_comm y.f x.f]
theorem or_eq {x y : St} (hx : 0 ≤ x.f) (h : x.n = y.n) : x.or y = ⟨max x.f y.f, y.n, max x.s y.s, elder x.p y.p⟩ := by
  refine St.ext4 ?_ ?_ ?_ ?_ <;> simp only [St.or]
  · rw [if_pos h]; omega
  · omega
  · rw [if_pos h]
  · rw [if_pos h]
theorem or_good {x y : St} (hx : Good x) (hy : Good y) : Good (x.or y) := by
  obtain ⟨a1, a2, a3, a4, a5, a6⟩ := hx
  obtain ⟨b1, b2, b3, b4, b5, b6⟩ := hy
  rcases Int.lt_trichotomy x.n y.n with h | h | h
  · rw [or_lt h]; exact ⟨by show 0 ≤ max (max x.f y.f) x.n; omega, b2, b3, b4, b5, b6⟩
  · rw [or_eq a1 h]
    refine ⟨by show 0 ≤ max x.f y.f; omega, b2, by show 0 ≤ max x.s y.s; omega, elder_nn _ _, fun e => ?_, fun e => ?_⟩
    · have e' : y.n = 0 := e
      show max x.s y.s = 0
      rw [a5 (by omega), b5 e']; rfl
    · have e' : y.n = 0 := e
      show elder x.p y.p = 0
      rw [a6 (by omega), b6 e']; rfl
  · rw [or_gt h]; exact ⟨by show 0 ≤ max (max x.f y.f) y.n; omega, a2, a3, a4, a5, a6⟩
theorem or_assoc {x y z : St} (hx : Good x) (hy : Good y) (hz : Good z) : (x.or y).or z = x.or (y.or z) := by
  have a := hx.f0
  have b := hy.f0
  have c := hz.f0
  have a' := hx.n0
  have b' := hy.n0
  have c' := hz.n0
  have ha := (or_good hx hy).f0
  have hb := (or_good hy hz).f0
  rcases Int.lt_trichotomy x.n y.n with h | h | h <;> rcases Int.lt_trichotomy y.n z.n with k | k | k
  · rw [or_lt h, or_lt k, or_lt (x := ⟨_, y.n, y.s, y.p⟩) (by exact k), or_lt (x := x) (by show x.n < z.n; omega)]
    refine St.ext4 ?_ rfl rfl rfl
    show max (max (max (max x.f y.f) x.n) z.f) y.n = max (max x.f (max (max y.f z.f) y.n)) x.n
    omega
  · rw [or_lt h, or_eq b k, or_eq (x := ⟨max (max x.f y.f) x.n, y.n, y.s, y.p⟩) (by show 0 ≤ max (max x.f y.f) x.n; omega) k, or_lt (x := x) (by show x.n < z.n; omega)]
    refine St.ext4 ?_ rfl rfl rfl
    show max (max (max x.f y.f) x.n) z.f = max (max x.f (max y.f z.f)) x.n
    omega
  · rw [or_lt h, or_gt k, or_gt (x := ⟨_, y.n, y.s, y.p⟩) (by exact k), or_lt (x := x) (by exact h)]
    refine St.ext4 ?_ rfl rfl rfl
    show max (max (max (max x.f y.f) x.n) z.f) z.n = max (max x.f (max (max y.f z.f) z.n)) x.n
    omega
  · rw [or_eq a h, or_lt k, or_lt (x := ⟨_, y.n, _, _⟩) (by exact k), or_lt (x := x) (by show x.n < z.n; omega)]
    refine St.ext4 ?_ rfl rfl rfl
    show max (max (max x.f y.f) z.f) y.n = max (max x.f (max (max y.f z.f) y.n)) x.n
    omega
  · rw [or_eq a h, or_eq b k, or_eq (x := ⟨max x.f y.f, y.n, max x.s y.s, elder x.p y.p⟩) (by show 0 ≤ max x.f y.f; omega) k, or_eq (x := x) a (by show x.n = z.n; omega)]
    refine St.ext4 ?_ rfl ?_ (elder_assoc _ _ _)
    · show max (max x.f y.f) z.f = max x.f (max y.f z.f)
      omega
    · show max (max x.s y.s) z.s = max x.s (max y.s z.s)
      omega
  · rw [or_eq a h, or_gt k, or_gt (x := ⟨_, y.n, _, _⟩) (by exact k), or_eq (x := x) a (by exact h)]
    refine St.ext4 ?_ rfl rfl rfl
    show max (max (max x.f y.f) z.f) z.n = max x.f (max (max y.f z.f) z.n)
    omega
  · rw [or_gt h, or_lt k]
    rcases Int.lt_trichotomy x.n z.n with m | m | m
    · rw [or_lt (x := ⟨_, x.n, x.s, x.p⟩) (by exact m), or_lt (x := x) (by exact m)]
      refine St.ext4 ?_ rfl rfl rfl
      show max (max (max (max x.f y.f) y.n) z.f) x.n = max (max x.f (max (max y.f z.f) y.n)) x.n
      omega
    · rw [or_eq (x := ⟨max (max x.f y.f) y.n, x.n, x.s, x.p⟩) (by show 0 ≤ max (max x.f y.f) y.n; omega) m, or_eq (x := x) a (by exact m)]
      refine St.ext4 ?_ rfl rfl rfl
      show max (max (max x.f y.f) y.n) z.f = max x.f (max (max y.f z.f) y.n)
      omega
    · rw [or_gt (x := ⟨_, x.n, x.s, x.p⟩) (by exact m), or_gt (x := x) (by exact m)]
      refine St.ext4 ?_ rfl rfl rfl
      show max (max (max (max x.f y.f) y.n) z.f) z.n = max (max x.f (max (max y.f z.f) y.n)) z.n
      omega
  · rw [or_gt h, or_eq b k, or_gt (x := ⟨_, x.n, x.s, x.p⟩) (by show z.n < x.n; omega), or_gt (x := x) (by show z.n < x.n; omega)]
    refine St.ext4 ?_ rfl rfl rfl
    show max (max (max (max x.f y.f) y.n) z.f) z.n = max (max x.f (max y.f z.f)) z.n
    omega
  · rw [or_gt h, or_gt k, or_gt (x := ⟨_, x.n, x.s, x.p⟩) (by show z.n < x.n; omega), or_gt (x := x) (by show y.n < x.n; omega)]
    refine St.ext4 ?_ rfl rfl rfl
    show max (max (max (max x.f y.f) y.n) z.f) z.n = max (max x.f (max (max y.f z.f) z.n)) y.n
    omega
theorem or_self {x : St} (h : Good x) : x.or x = x := by
  rw [or_eq h.f0 rfl]
  exact St.ext4 (by show max x.f x.f = x.f; omega) rfl (by show max x.s x.s = x.s; omega) (elder_self h.p0)
theorem or_zero {x : St} (h : Good x) : x.or St.zero = x := by
  have f0 := h.f0
  have n0 := h.n0
  have s0 := h.s0
  rcases Int.lt_or_le 0 x.n with k | k
  · rw [or_gt (y := St.zero) k]
    exact St.ext4 (by show max (max x.f 0) 0 = x.f; omega) rfl rfl rfl
  · have e : x.n = 0 := by omega
    rw [or_eq (y := St.zero) h.f0 e]
    exact St.ext4 (by show max x.f 0 = x.f; omega) e.symm (by show max x.s 0 = x.s; omega) (elder_zero h.p0)
theorem zero_or {x : St} (h : Good x) : St.zero.or x = x := by rw [or_comm, or_zero h]
/-- A life at its floor, or below, is none. -/
def kill (x : St) : St := if x.n ≤ x.f then ⟨x.f, 0, 0, 0⟩ else x
theorem kill_good {x : St} (h : Good x) : Good (kill x) := by
  unfold kill
  split
  · exact ⟨h.f0, Int.le_refl _, Int.le_refl _, Int.le_refl _, fun _ => rfl, fun _ => rfl⟩
  · exact h
theorem kill_kill {x : St} (h : Good x) : kill (kill x) = kill x := by
  unfold kill
  by_cases k : x.n ≤ x.f
  · rw [if_pos k]
    have := h.f0
    exact if_pos this
  · rw [if_neg k, if_neg k]
theorem kill_or {x y : St} (hx : Good x) (hy : Good y) : kill ((kill x).or y) = kill (x.or y) := by
  by_cases k : x.n ≤ x.f
  · have e : kill x = ⟨x.f, 0, 0, 0⟩ := if_pos k
    have f0 := hx.f0
    have g0 := hy.f0
    have n0 := hx.n0
    have m0 := hy.n0
    rw [e]
    rcases Int.lt_trichotomy x.n y.n with h | h | h
    · rw [or_lt h, or_lt (x := ⟨x.f, 0, 0, 0⟩) (by show 0 < y.n; omega)]
      congr 1
      exact St.ext4 (by show max (max x.f y.f) 0 = max (max x.f y.f) x.n; omega) rfl rfl rfl
    · rw [or_eq f0 h]
      have r : kill ⟨max x.f y.f, y.n, max x.s y.s, elder x.p y.p⟩ = ⟨max x.f y.f, 0, 0, 0⟩ := if_pos (by show y.n ≤ max x.f y.f; omega)
      rw [r]
      rcases Int.lt_or_le 0 y.n with m | m
      · rw [or_lt (x := ⟨x.f, 0, 0, 0⟩) m]
        have r2 : kill ⟨max (max x.f y.f) 0, y.n, y.s, y.p⟩ = ⟨max (max x.f y.f) 0, 0, 0, 0⟩ := if_pos (by show y.n ≤ max (max x.f y.f) 0; omega)
        rw [r2]
        exact St.ext4 (by show max (max x.f y.f) 0 = max x.f y.f; omega) rfl rfl rfl
      · rw [or_eq (x := ⟨x.f, 0, 0, 0⟩) f0 (by show 0 = y.n; omega)]
        exact if_pos (by show y.n ≤ max x.f y.f; omega)
    · rw [or_gt h]
      have r : kill ⟨max (max x.f y.f) y.n, x.n, x.s, x.p⟩ = ⟨max (max x.f y.f) y.n, 0, 0, 0⟩ := if_pos (by show x.n ≤ max (max x.f y.f) y.n; omega)
      rw [r]
      rcases Int.lt_or_le 0 y.n with m | m
      · rw [or_lt (x := ⟨x.f, 0, 0, 0⟩) m]
        have r2 : kill ⟨max (max x.f y.f) 0, y.n, y.s, y.p⟩ = ⟨max (max x.f y.f) 0, 0, 0, 0⟩ := if_pos (by show y.n ≤ max (max x.f y.f) 0; omega)
        rw [r2]
        exact St.ext4 (by show max (max x.f y.f) 0 = max (max x.f y.f) y.n; omega) rfl rfl rfl
      · rw [or_eq (x := ⟨x.f, 0, 0, 0⟩) f0 (by show 0 = y.n; omega)]
        have r2 : kill ⟨max x.f y.f, y.n, max 0 y.s, elder 0 y.p⟩ = ⟨max x.f y.f, 0, 0, 0⟩ := if_pos (by show y.n ≤ max x.f y.f; omega)
        rw [r2]
        exact St.ext4 (by show max x.f y.f = max (max x.f y.f) y.n; omega) rfl rfl rfl
  · have e : kill x = x := if_neg k
    rw [e]
theorem kill_or_r {x y : St} (hx : Good x) (hy : Good y) : kill (x.or (kill y)) = kill (x.or y) := by rw [or_comm, kill_or hy hx, or_comm]
/-- Many together. -/
def big (l : List St) : St := l.foldr St.or St.zero
theorem big_good {l : List St} (h : ∀ x ∈ l, Good x) : Good (big l) := by
  induction l with
  | nil => exact good_zero
  | cons x l ih => exact or_good (h x (List.mem_cons_self ..)) (ih fun y hy => h y (List.mem_cons_of_mem _ hy))
theorem big_append {l m : List St} (hl : ∀ x ∈ l, Good x) (hm : ∀ x ∈ m, Good x) : big (l ++ m) = (big l).or (big m) := by
  induction l with
  | nil => exact (zero_or (big_good hm)).symm
  | cons x l ih =>
    have hl' : ∀ y ∈ l, Good y := fun y hy => hl y (List.mem_cons_of_mem _ hy)
    show x.or (big (l ++ m)) = (x.or (big l)).or (big m)
    rw [ih hl', or_assoc (hl x (List.mem_cons_self ..)) (big_good hl') (big_good hm)]
end Ros
end Go.Proofs.YtloghkiabgnpnaaDoor
set_option maxRecDepth 20000
namespace Go.Proofs.YtloghkiabgnpnaaDoor
open Go.RowKit Ros
/-- Does an ID stand ahead of another one? -/
def lssROS (a i b j : Int) : Bool := decide (a < b ∨ a = b ∧ i < j)
theorem less_anyROS (a i b j : Int) (w : World) :
    Calls Tryd.prog 30 #[.agg #[.int .i64 a, .int .i64 i], .agg #[.int .i64 b, .int .i64 j]] w fun e w' => e = .returned (.bool (lssROS a i b j)) ∧ Below w.heap.size w w' := by
  have hb := Lib.hid (fun o o' : Obj => (((Below.refl w.heap.size w).alloc (Nat.le_refl _) o).alloc (by simp) o'))
  by_cases h1 : a < b
  · have h5 := Lib.hid (show lssROS a i b j = true by simp [lssROS]; omega)
    go_enter Tryd.func30, Tryd.ntmps30
    go_wp2_with fail
    go_ret
    exact ⟨by rw [h5.out]; rfl, hb.out _ _⟩
  · by_cases h2 : a = b
    · subst h2
      by_cases h3 : i < j
      · have h5 := Lib.hid (show lssROS a i a j = true by simp [lssROS]; omega)
        go_enter Tryd.func30, Tryd.ntmps30
        go_wp2_with fail
        go_ret
        exact ⟨by rw [h5.out]; rfl, hb.out _ _⟩
      · have h5 := Lib.hid (show lssROS a i a j = false by simp [lssROS]; omega)
        go_enter Tryd.func30, Tryd.ntmps30
        go_wp2_with fail
        go_ret
        exact ⟨by rw [h5.out]; rfl, hb.out _ _⟩
    · have h5 := Lib.hid (show lssROS a i b j = false by simp [lssROS]; omega)
      have h3 : (a == b) = false := by simpa using h2
      go_enter Tryd.func30, Tryd.ntmps30
      go_wp2_with fail
      go_ret
      exact ⟨by rw [h5.out]; rfl, hb.out _ _⟩
end Go.Proofs.YtloghkiabgnpnaaDoor
set_option maxRecDepth 20000
namespace Go.Proofs.YtloghkiabgnpnaaDoor
open Go.RowKit
theorem info30 : (Tryd.prog.info? 32).map (fun i => (i.zero, i.size, i.bytes)) = some (some (.agg #[.int .i64 0, .int .i64 0]), 2, 16) := by kernel_rfl
/-- append of a list to a slice of the call's own. -/
theorem wpList_append_listROS {ops : Array Oper} {rest : List Oper} {o : Oper} {a : Act} {Q : Exit → Act → World → Prop} (hgd : o.guard = none) (s x : Operand)
    (ho : o.op = .call { callee := .builtin .append, args := #[s, x], argTypes := #[25, 25] })
    (wr : World) (base : Nat) (v u : Value) (d l : List (Int × Int)) (hs : a.eval s = v) (hx : a.eval x = u)
    (hown : Owns wr base v d) (hI : Ids wr u l) (hl : d.length + l.length ≤ 1000000) (hb : base ≤ wr.heap.size)
    (h : ∀ v' w', Owns w' base v' (d ++ l) → Below base wr w' → wpList Tryd.prog ops Q rest (a.put o.dst v') w') :
    wpList Tryd.prog ops Q (o :: rest) a wr := by
  obtain ⟨i0, hi, hz0, hz1, hz2⟩ := info_parts info30
  obtain ⟨A, c, rfl, h0, hc, hk⟩ := hI
  cases A with
  | none =>
    obtain rfl := h0 rfl
    have hn : l = [] := List.eq_nil_of_length_eq_zero (by omega)
    subst hn
    refine wpList_append_own_none hgd s x 25 ho base 32 i0 2 Tryd.underlying25 hi _ d.length (flat d) hs hown hx (h _ _ (by rw [List.append_nil]; exact hown) (Below.refl _ _))
  | some ad =>
    refine wpList_append_own _ hgd s x 25 ho base 32 i0 (.agg #[.int .i64 0, .int .i64 0]) 2 16 Tryd.underlying25 hi hz0 hz1 hz2 rfl (by decide) v d.length (flat d) hs hown ad l.length c (flat l) hx (flat_len l)
      (fun j u hu => ?_) (flat_one l) (by unfold maxLen; omega) (by omega) hb ?_
    · obtain ⟨k, hlt, hj⟩ := flat_split hu
      obtain ⟨ad', e, h1, h2, h3⟩ := hk k hlt
      injection e with e
      subst e
      rcases hj with ⟨rfl, rfl⟩ | ⟨rfl, rfl⟩
      · exact h2
      · rw [add_odd]
        exact h3
    · intro v' w' h1 h2 _
      refine h v' w' ?_ ((Below.refl base wr).grown h2 hb fun k hk => (World.ownsRow.lt hown k hk).1)
      unfold Owns
      rw [flat_append, List.length_append]
      exact h1
/-- append of one ID that has just been put into a row of its own. -/
theorem wpList_append_oneROS {ops : Array Oper} {rest : List Oper} {o : Oper} {a : Act} {Q : Exit → Act → World → Prop} (hgd : o.guard = none) (s x : Operand)
    (ho : o.op = .call { callee := .builtin .append, args := #[s, x], argTypes := #[25, 25] })
    (wr : World) (base : Nat) (v : Value) (d : List (Int × Int)) (p q : Int) (hs : a.eval s = v) (hx : a.eval x = .slice (some ⟨wr.heap.size, 0, none⟩) 1 1)
    (hown : Owns wr base v d) (hl : d.length ≤ 999999) (hb : base ≤ wr.heap.size)
    (h : ∀ v' w', Owns w' base v' (d ++ [(p, q)]) → Below base wr w' → wpList Tryd.prog ops Q rest (a.put o.dst v') w') :
    wpList Tryd.prog ops Q (o :: rest) a (wr.alloc (.cells #[.int .i64 p, .int .i64 q] 32)) := by
  refine wpList_append_listROS hgd s x ho _ base v _ d [(p, q)] hs hx (hown.below ((Below.refl _ _).alloc (Nat.le_refl _) _)) (ids_one wr p q) (by simp; omega) (by simp; omega) fun v' w' h1 h2 => h v' w' h1 ?_
  exact ((Below.refl base wr).alloc hb _).trans h2
/-- make of a list, empty, with room for n IDs. -/
theorem wpList_make_roomROS {ops : Array Oper} {rest : List Oper} {o : Oper} {a : Act} {Q : Exit → Act → World → Prop} (w : World) (hgd : o.guard = none) (x : Operand) (hop : o.op = .makeSlice 25 (.const (.int .i64 0)) x) (C : Int) (hx : a.eval x = .int .i64 C) (h0 : 0 ≤ C) (hn : C ≤ 1000000)
    (h : ∀ v' w', Owns w' w.heap.size v' [] → Below w.heap.size w w' → wpList Tryd.prog ops Q rest (a.put o.dst v') w') : wpList Tryd.prog ops Q (o :: rest) a w := by
  obtain ⟨i0, hi, hz0, hz1, hz2⟩ := info_parts info30
  obtain ⟨n, rfl⟩ := Int.eq_ofNat_of_zero_le h0
  exact wpList_make_own w hgd _ x 25 hop w.heap.size 32 i0 (.agg #[.int .i64 0, .int .i64 0]) 2 Tryd.underlying25 hi hz0 hz1 .i64 .i64 n n rfl hx rfl (by rw [hz2]; omega) (by unfold maxLen; omega) (Nat.le_refl _)
    fun w' h1 h2 => h _ w' h1 ((Below.refl w.heap.size w).grown h2 (Nat.le_refl _) (fun k hk => by cases hk))
end Go.Proofs.YtloghkiabgnpnaaDoor
set_option maxRecDepth 20000
namespace Go.Proofs.YtloghkiabgnpnaaDoor
open Go Go.RowKit Ros
/-- A member's cells. -/
def encM (x : Mm) : List Value := [.int .i64 x.1.1, .int .i64 x.1.2, .int .u8 x.2.1, .int .i64 x.2.2]
theorem encM_len (x : Mm) : (encM x).length = 4 := rfl
theorem encM_one (x : Mm) : ∀ u ∈ encM x, u.oneCell' = true := by
  intro u hu
  simp [encM] at hu
  rcases hu with rfl | rfl | rfl | rfl <;> rfl
/-- The slice v reads as the list l of members. -/
abbrev Ms (w : World) (v : Value) (l : List Mm) : Prop := Rcs encM 4 w v l
/-- An element's cells. -/
theorem Ms.at_ {w w' : World} {A : Option Addr} {n c : Nat} {l : List Mm} (h : Ms w (.slice A n c) l) (hw : Below w.heap.size w w') {k : Nat} (hk : k < l.length) :
    ∃ ad, A = some ad ∧ w'.cell? (ad.add (k * 4)) = some (.int .i64 l[k].1.1) ∧ w'.cell? ⟨(ad.add (k * 4)).block, (ad.add (k * 4)).off + 1, none⟩ = some (.int .i64 l[k].1.2) ∧ w'.cell? ⟨(ad.add (k * 4)).block, (ad.add (k * 4)).off + 2, none⟩ = some (.int .u8 l[k].2.1) ∧ w'.cell? ⟨(ad.add (k * 4)).block, (ad.add (k * 4)).off + 3, none⟩ = some (.int .i64 l[k].2.2) := by
  obtain ⟨ad, rfl⟩ := h.addr (by omega)
  exact ⟨ad, rfl, h.first hw hk rfl, h.cell hw hk 1 (by omega) rfl, h.cell hw hk 2 (by omega) rfl, h.cell hw hk 3 (by omega) rfl⟩
theorem info32 : (Tryd.prog.info? 52).map (fun i => (i.zero, i.size, i.bytes)) = some (some (.agg #[.int .i64 0, .int .i64 0, .int .u8 0, .int .i64 0]), 4, 0x20) := by kernel_rfl
section
variable {α : Type} [Inhabited α] {enc : α → List Value} {sz : Nat}
end
/-- The cells of a member in place. -/
theorem RowAtR.mem {w : World} {g : Nat} {d : Array Mm} (h : RowAtR encM 4 w g d) {k : Nat} (hk : k < d.size) :
    (w.cell? ⟨g, k * 4, none⟩ = some (.int .i64 d[k]!.1.1) ∧ w.cell? ⟨g, k * 4 + 1, none⟩ = some (.int .i64 d[k]!.1.2) ∧ w.cell? ⟨g, k * 4 + 2, none⟩ = some (.int .u8 d[k]!.2.1) ∧ w.cell? ⟨g, k * 4 + 3, none⟩ = some (.int .i64 d[k]!.2.2)) ∧
    (w.frozen? ⟨g, k * 4, none⟩ = false ∧ w.frozen? ⟨g, k * 4 + 1, none⟩ = false ∧ w.frozen? ⟨g, k * 4 + 2, none⟩ = false ∧ w.frozen? ⟨g, k * 4 + 3, none⟩ = false) :=
  ⟨⟨(h.2 k hk 0 _ rfl).1, (h.2 k hk 1 _ rfl).1, (h.2 k hk 2 _ rfl).1, (h.2 k hk 3 _ rfl).1⟩, (h.2 k hk 0 _ rfl).2, (h.2 k hk 1 _ rfl).2, (h.2 k hk 2 _ rfl).2, (h.2 k hk 3 _ rfl).2⟩
theorem rowM_set {w : World} {g : Nat} {d : Array Mm} (h : RowAtR encM 4 w g d) {i : Nat} (hi : i < d.size) (a j s n : Int) :
    RowAtR encM 4 ((((w.setCell ⟨g, i * 4, none⟩ (.int .i64 a)).setCell ⟨g, i * 4 + 1, none⟩ (.int .i64 j)).setCell ⟨g, i * 4 + 2, none⟩ (.int .u8 s)).setCell ⟨g, i * 4 + 3, none⟩ (.int .i64 n)) g (d.setIfInBounds i ((a, j), s, n)) :=
  rowAtR_set encM_len h hi ((a, j), s, n)
theorem grown_setM {a w : World} {g : Nat} (h : a.grownBy w (some g)) (i : Nat) (x y z t : Value) : a.grownBy ((((w.setCell ⟨g, i * 4, none⟩ x).setCell ⟨g, i * 4 + 1, none⟩ y).setCell ⟨g, i * 4 + 2, none⟩ z).setCell ⟨g, i * 4 + 3, none⟩ t) (some g) := grown_setCells h (i * 4) [x, y, z, t]
theorem below_setM {b0 : Nat} {a w : World} {g : Nat} (h : Below b0 a w) (hg : b0 ≤ g) (i : Nat) (x y z t : Value) : Below b0 a ((((w.setCell ⟨g, i * 4, none⟩ x).setCell ⟨g, i * 4 + 1, none⟩ y).setCell ⟨g, i * 4 + 2, none⟩ z).setCell ⟨g, i * 4 + 3, none⟩ t) := below_setCells h hg (i * 4) [x, y, z, t]
end Go.Proofs.YtloghkiabgnpnaaDoor
set_option maxRecDepth 20000
namespace Go.Proofs.YtloghkiabgnpnaaDoor
open Go.RowKit Ros
/-- Block g holds a member. -/
def MBox (w : World) (g : Nat) (a i s n : Int) : Prop := w.heap[g]? = some (.cells #[.int .i64 a, .int .i64 i, .int .u8 s, .int .i64 n] 52 (0, 0))
theorem mbox_cells {w : World} {g : Nat} {a i s n : Int} (h : MBox w g a i s n) : w.cell? ⟨g, 0, none⟩ = some (.int .i64 a) ∧ w.cell? ⟨g, 1, none⟩ = some (.int .i64 i) ∧ w.cell? ⟨g, 2, none⟩ = some (.int .u8 s) ∧ w.cell? ⟨g, 3, none⟩ = some (.int .i64 n) := by
  unfold MBox at h
  exact ⟨by rw [cell_of_row _ _ 0 _ _ _ h]; rfl, by rw [cell_of_row _ _ 1 _ _ _ h]; rfl, by rw [cell_of_row _ _ 2 _ _ _ h]; rfl, by rw [cell_of_row _ _ 3 _ _ _ h]; rfl⟩
theorem mbox_free {w : World} {g : Nat} {a i s n : Int} (h : MBox w g a i s n) : w.frozen? ⟨g, 0, none⟩ = false ∧ w.frozen? ⟨g, 1, none⟩ = false ∧ w.frozen? ⟨g, 2, none⟩ = false ∧ w.frozen? ⟨g, 3, none⟩ = false := by
  unfold MBox at h
  exact ⟨by simp [World.frozen?, h], by simp [World.frozen?, h], by simp [World.frozen?, h], by simp [World.frozen?, h]⟩
theorem mbox_new (w : World) (a i s n : Int) : MBox (w.alloc (.cells #[.int .i64 a, .int .i64 i, .int .u8 s, .int .i64 n] 52)) w.heap.size a i s n := heap_alloc_new w _
theorem mbox_lt {w : World} {g : Nat} {a i s n : Int} (h : MBox w g a i s n) : g < w.heap.size := row_lt h
theorem mbox_below {w w' : World} {g : Nat} {a i s n : Int} (h : MBox w g a i s n) (hb : Below w.heap.size w w') : MBox w' g a i s n := (hb.block _ (mbox_lt h)).trans h
/-- Block g holds the lives of addresses 0 to 12, free to be written. -/
def Lives (w : World) (g : Nat) (L : Nat → Int) : Prop := g < w.heap.size ∧ ∀ k, k < 13 → w.cell? ⟨g, k, none⟩ = some (.int .i64 (L k)) ∧ w.frozen? ⟨g, k, none⟩ = false
theorem lives_block {w w' : World} {g : Nat} {L : Nat → Int} (h : Lives w g L) (hs : w.heap.size ≤ w'.heap.size) (hb : w'.heap[g]? = w.heap[g]?) : Lives w' g L :=
  ⟨Nat.lt_of_lt_of_le h.1 hs, fun k hk => ⟨(World.cell?_of_block hb).trans (h.2 k hk).1, (World.frozen?_of_block hb).trans (h.2 k hk).2⟩⟩
theorem lives_below {w w' : World} {g : Nat} {L : Nat → Int} (h : Lives w g L) (hb : Below w.heap.size w w') : Lives w' g L := lives_block h hb.size (hb.block g h.1)
theorem lives_grown {w w' : World} {g r : Nat} {L : Nat → Int} (h : Lives w g L) (hb : w.grownBy w' (some r)) (hg : g ≠ r) : Lives w' g L := lives_block h hb.size (hb.block g h.1 (by simpa using fun e => hg e))
theorem one_grown {w w' : World} {g r t : Nat} {v : Value} (h : One w g t v) (hb : w.grownBy w' (some r)) (hg : g ≠ r) : One w' g t v := (hb.block g (one_lt h) (by simpa using fun e => hg e)).trans h
/-- A closure that is asked of members, of which D holds. -/
structure AsksM (K : Nat) (caps : Array Value) (p : Mm → Bool) (S : World → Prop) (D : Mm → Prop) : Prop where
  enters : ∀ args W, (callFunc K args).run Tryd.prog W = .ok (.enter K args) W
  kept : ∀ W W', S W → Below W.heap.size W W' → S W'
  call : ∀ a i s n W, D ((a, i), s, n) → S W → Calls Tryd.prog K (#[.agg #[.int .i64 a, .int .i64 i, .int .u8 s, .int .i64 n]] ++ caps) W fun e w' => e = .returned (.bool (p ((a, i), s, n))) ∧ Below W.heap.size W w'
/-- Is the member of an ID? -/
def isM (y : Id2) (x : Mm) : Bool := decide (x.1 = y)
theorem isM_asks (X : Nat) (p q : Int) : AsksM 57 #[.pointer (some ⟨X, 0, none⟩)] (isM (p, q)) (fun W => Box W X p q) (fun _ => True) where
  enters := fun args W => enters_fn Tryd.func57 (by kernel_rfl) rfl args W
  kept _ _ h hb := box_below h hb
  call a i s n W _ hS := by
    have HB := Lib.hid (below_one W (.cells #[.int .i64 a, .int .i64 i, .int .u8 s, .int .i64 n] 52))
    have HX := Lib.hid (box_below hS HB.out)
    clear hS
    obtain ⟨c1, c2⟩ := box_cells HX.out
    by_cases h1 : a = p
    · subst h1
      by_cases h2 : i = q
      · subst h2
        have HR := Lib.hid (show isM (a, i) ((a, i), s, n) = true by simp [isM])
        go_enter Tryd.func57, Tryd.ntmps57
        go_wp2_with fail
        go_ret
        exact ⟨ret_bool HR.out.symm, HB.out⟩
      · have h3 : (i == q) = false := by simpa using h2
        have HR := Lib.hid (show isM (a, q) ((a, i), s, n) = false by simp [isM, h2])
        clear h2
        go_enter Tryd.func57, Tryd.ntmps57
        go_wp2_with fail
        go_ret
        exact ⟨ret_bool HR.out.symm, HB.out⟩
    · have h3 : (a == p) = false := by simpa using h1
      have HR := Lib.hid (show isM (p, q) ((a, i), s, n) = false by simp [isM, h1])
      clear h1
      go_enter Tryd.func57, Tryd.ntmps57
      go_wp2_with fail
      go_ret
      exact ⟨ret_bool HR.out.symm, HB.out⟩
end Go.Proofs.YtloghkiabgnpnaaDoor
set_option maxRecDepth 20000
namespace Go.Proofs.YtloghkiabgnpnaaDoor
open Go Go.RowKit Ros
/-- What a search answers: the first place, or -1. -/
def FoundPROS {α : Type} (p : α → Bool) (l : List α) (r : Int) : Prop := (r = -1 ∧ ∀ x ∈ l, p x = false) ∨ ∃ k : Nat, ∃ h : k < l.length, r = k ∧ p l[k] = true ∧ ∀ x ∈ l.take k, p x = false
theorem foundP_nextROS {α : Type} {p : α → Bool} {l : List α} {k : Nat} (hk : k < l.length) (h : ∀ x ∈ l.take k, p x = false) (hn : p l[k] = false) : ∀ x ∈ l.take (k + 1), p x = false := by
  intro x hx
  rw [List.take_succ_eq_append_getElem hk] at hx
  rcases List.mem_append.1 hx with h1 | h1
  · exact h x h1
  · rw [List.mem_singleton.1 h1]
    exact hn
theorem foundP_noneROS {α : Type} {p : α → Bool} {l : List α} {k : Nat} (hk : l.length ≤ k) (h : ∀ x ∈ l.take k, p x = false) : FoundPROS p l (-1) := .inl ⟨rfl, by rwa [List.take_of_length_le hk] at h⟩
set_option maxHeartbeats 1000000 in
/-- slices.IndexFunc over members. -/
theorem indexM_any {K : Nat} {caps : Array Value} {p : Mm → Bool} {S : World → Prop} {D : Mm → Prop} (hP : AsksM K caps p S D) (v : Value) (l : List Mm) (w : World) (h : Ms w v l) (hS : S w) (hl : l.length ≤ 1000000) (hD : ∀ x ∈ l, D x) :
    Calls Tryd.prog 56 #[v, .func (.func K) #[] caps] w fun e w' => (∃ r, e = .returned (.int .i64 r) ∧ FoundPROS p l r) ∧ Below w.heap.size w w' := by
  have HP := Lib.hid hP
  have HI := Lib.hid h
  have HS0 := Lib.hid hS
  have HD := Lib.hid hD
  have hK := hP.enters
  obtain ⟨A, c, rfl, hz⟩ := h
  clear hz hP hS hD
  go_enter Tryd.func56, Tryd.ntmps56
  go_wp2_with fail
  go_loopw [8] (fun s3 wr => ∃ k : Nat, k ≤ l.length ∧ s3 = .int .i64 k ∧ Hid (∀ x ∈ l.take k, p x = false) ∧ Hid (S wr) ∧ Hid (Below w.heap.size w wr)) (fun s3 _ => l.length - (intOf s3).toNat)
  case atStart => exact ⟨0, by omega, rfl, Lib.hid (fun x hx => by simp at hx), HS0, Lib.hid (Below.refl _ _)⟩
  case round =>
    obtain ⟨k, hkl, rfl, HT, HS, HW⟩ := hrel
    have i3 : (0 : Int) ≤ (k : Int) := by omega
    by_cases hlt : k < l.length
    · have hd : decide ((k : Int) < (l.length : Int)) = true := by simp; omega
      have i4 : (k : Int) < (l.length : Int) := by omega
      obtain ⟨ad, rfl, c1, c2, c3, c4⟩ := Ms.at_ HI.out HW.out hlt
      have HM : Hid (l[k] = ((l[k].1.1, l[k].1.2), l[k].2.1, l[k].2.2)) := Lib.hid rfl
      have HC := Lib.hid fun W hs => HP.out.call l[k].1.1 l[k].1.2 l[k].2.1 l[k].2.2 W (HD.out _ (List.getElem_mem hlt)) hs
      have H0 := Lib.hid fun h => foundP_nextROS (p := p) hlt HT.out h
      have H1 := Lib.hid fun h => (show FoundPROS p l k from .inr ⟨k, hlt, rfl, h, HT.out⟩)
      rw [HM.out] at H0 H1
      clear HM
      generalize l[k].1.1 = a at *
      generalize l[k].1.2 = i at *
      generalize l[k].2.1 = s at *
      generalize l[k].2.2 = n at *
      cases hp : p ((a, i), s, n)
      · rw [hp] at HC
        have HF := Lib.hid (H0.out hp)
        clear hp H0 H1
        go_wp2_with fail
        (with_reducible refine (HC.out _ HS.out).mono ?_)
        rintro e w1 ⟨rfl, hb⟩
        have HB := Lib.hid (below_after HW.out hb (Nat.le_refl _))
        have HS1 := Lib.hid (HP.out.kept _ _ HS.out hb)
        clear hb
        go_wp2_with fail
        go_roundw
        case rel => exact ⟨k + 1, by omega, by go_num, HF, HS1, HB⟩
        case measure => simp [intOf]; omega
      · rw [hp] at HC
        have HF := Lib.hid (H1.out hp)
        clear hp H0 H1
        go_wp2_with fail
        (with_reducible refine (HC.out _ HS.out).mono ?_)
        rintro e w1 ⟨rfl, hb⟩
        have HB := Lib.hid (below_after HW.out hb (Nat.le_refl _))
        clear hb
        go_wp2_with fail
        go_ret
        exact ⟨⟨_, rfl, HF.out⟩, HB.out⟩
    · have hd : decide ((k : Int) < (l.length : Int)) = false := by simp; omega
      have HF := Lib.hid (foundP_noneROS (by omega) HT.out)
      go_wp2_with fail
      go_ret
      exact ⟨⟨_, rfl, HF.out⟩, HW.out⟩
end Go.Proofs.YtloghkiabgnpnaaDoor
set_option maxRecDepth 20000
namespace Go.Proofs.YtloghkiabgnpnaaDoor
open Go Go.RowKit Ros
theorem zero30 (W : World) : (zeroValue 32).run Tryd.prog W = .ok (.agg #[.int .i64 0, .int .i64 0]) W := by kernel_rfl
theorem zero32 (W : World) : (zeroValue 52).run Tryd.prog W = .ok (.agg #[.int .i64 0, .int .i64 0, .int .u8 0, .int .i64 0]) W := by kernel_rfl
theorem kept_front {α : Type} [Inhabited α] {kp : Nat → Bool} {d dk : Array α} {k : Nat} (h : Go.Lib.KeptInv kp d d.size k dk) : (dk.extract 0 k).toList = Go.Lib.keptUpTo kp d d.size := by
  have hk := h.lt
  have hs := h.size
  apply List.ext_getElem?
  intro j
  by_cases c : j < k
  · rw [h.low j c]
    have h1 : j < (dk.extract 0 k).size := by simp; omega
    rw [Array.getElem?_toList, Array.getElem?_eq_getElem h1, getElem!_pos dk j (by omega)]
    simp
  · rw [List.getElem?_eq_none (by simp; omega), List.getElem?_eq_none (by rw [h.len]; omega)]
/-- What a search answers, as the kept ones see it. -/
theorem found_none {α : Type} [Inhabited α] {d : Array α} {pp : α → Bool} (h : ∀ x ∈ d.toList, pp x = false) (j : Nat) (hj : j < d.size) : pp d[j]! = false := by
  rw [getElem!_pos d j hj]
  exact h _ (by simp)
theorem found_take {α : Type} [Inhabited α] {d : Array α} {pp : α → Bool} {k : Nat} (hk : k ≤ d.size) (h : ∀ x ∈ d.toList.take k, pp x = false) (j : Nat) (hj : j < k) : pp d[j]! = false := by
  rw [getElem!_pos d j (by omega)]
  refine h _ ?_
  have : d[j]'(by omega) = (d.toList.take k)[j]'(by simp; omega) := by simp
  rw [this]
  exact List.getElem_mem _
end Go.Proofs.YtloghkiabgnpnaaDoor
