/-
  Carried over and put together: contracts of this program's functions, and plain facts. No statement is proved in this text.
-/
import Derived.Test.YtloghkiabgnpnaaDoorH00
import Derived.Test.YtloghkiabgnpnaaDoorH03
import Derived.Test.YtloghkiabgnpnaaDoorH06
namespace Go.Proofs.YtloghkiabgnpnaaDoor
open Go Go.RowKit Ros
/-- A member's ID. -/
abbrev kM (x : Mm) : Sets.Id2 := x.1
theorem cmpM_any (a i s n b j t m : Int) (w : World) :
    Calls Tryd.prog 68 #[.agg #[.int .i64 a, .int .i64 i, .int .u8 s, .int .i64 n], .agg #[.int .i64 b, .int .i64 j, .int .u8 t, .int .i64 m]] w fun e w' => e = .returned (.int .i64 (cmpZ a i b j)) ∧ Below w.heap.size w w' := by
  have HB := Lib.hid (below_two w (.cells #[.int .i64 a, .int .i64 i, .int .u8 s, .int .i64 n] 52) (.cells #[.int .i64 b, .int .i64 j, .int .u8 t, .int .i64 m] 52))
  have HC := Lib.hid fun W => compare_any a i b j W
  generalize cmpZ a i b j = z at *
  go_enter Tryd.func68, Tryd.ntmps68
  go_wp2_with fail
  refine (HC.out _).mono ?_
  rintro e w1 ⟨rfl, hb⟩
  have H1 := Lib.hid (below_after HB.out hb (Nat.le_refl _))
  clear hb
  go_wp2_with fail
  go_ret
  exact ⟨rfl, H1.out⟩
/-- Are two IDs one? -/
def sameI (x y : Sets.Id2) : Bool := decide (x = y)
theorem eqM_any (a i s n b j t m : Int) (w : World) :
    Calls Tryd.prog 70 #[.agg #[.int .i64 a, .int .i64 i, .int .u8 s, .int .i64 n], .agg #[.int .i64 b, .int .i64 j, .int .u8 t, .int .i64 m]] w fun e w' => e = .returned (.bool (sameI (a, i) (b, j))) ∧ Below w.heap.size w w' := by
  have HB := Lib.hid (below_two w (.cells #[.int .i64 a, .int .i64 i, .int .u8 s, .int .i64 n] 52) (.cells #[.int .i64 b, .int .i64 j, .int .u8 t, .int .i64 m] 52))
  by_cases h1 : a = b
  · subst h1
    by_cases h2 : i = j
    · subst h2
      have HR := Lib.hid (show sameI (a, i) (a, i) = true by simp [sameI])
      go_enter Tryd.func70, Tryd.ntmps70
      go_wp2_with fail
      go_ret
      exact ⟨ret_bool HR.out.symm, HB.out⟩
    · have h3 : (i == j) = false := by simpa using h2
      have HR := Lib.hid (show sameI (a, i) (a, j) = false by simp [sameI, h2])
      clear h2
      go_enter Tryd.func70, Tryd.ntmps70
      go_wp2_with fail
      go_ret
      exact ⟨ret_bool HR.out.symm, HB.out⟩
  · have h3 : (a == b) = false := by simpa using h1
    have HR := Lib.hid (show sameI (a, i) (b, j) = false by simp [sameI, h1])
    clear h1
    go_enter Tryd.func70, Tryd.ntmps70
    go_wp2_with fail
    go_ret
    exact ⟨ret_bool HR.out.symm, HB.out⟩
theorem cmpZ_lt {x y : Sets.Id2} (h : Sets.lt x y) : decide (cmpZ x.1 x.2 y.1 y.2 < 0) = true := by
  rw [cmpZ_eq, if_pos h]
  rfl
theorem cmpZ_ge {x y : Sets.Id2} (h : ¬ Sets.lt x y) : decide (cmpZ x.1 x.2 y.1 y.2 < 0) = false := by
  rw [cmpZ_eq, if_neg h]
  split <;> rfl
/-- The block g holds the members of a list, from its head on, free to be written. -/
abbrev RowL (w : World) (g : Nat) (l : List Mm) : Prop := RowAtR encM 4 w g l.toArray
theorem rowL_kept {w w' : World} {g : Nat} {l : List Mm} (h : RowL w g l) (hb : Below w.heap.size w w') : RowL w' g l := rowAtR_kept h hb
theorem rowL_rcs {w : World} {g c : Nat} {l : List Mm} (h : RowL w g l) (hc : l.length ≤ c) : Ms w (.slice (some ⟨g, 0, none⟩) l.length c) l := by
  have := rowAtR_rcs (c := c) h (by simpa using hc)
  simpa using this
/-- The cells of one of them. -/
theorem rowL_cells {w : World} {g : Nat} {l : List Mm} (h : RowL w g l) {k : Nat} (hk : k < l.length) {a i s n : Int} (e : l[k]! = ((a, i), s, n)) :
    w.cell? ⟨g, k * 4, none⟩ = some (.int .i64 a) ∧ w.cell? ⟨g, k * 4 + 1, none⟩ = some (.int .i64 i) ∧ w.cell? ⟨g, k * 4 + 2, none⟩ = some (.int .u8 s) ∧ w.cell? ⟨g, k * 4 + 3, none⟩ = some (.int .i64 n) := by
  have := (RowAtR.mem h (k := k) (by simpa using hk)).1
  rw [show l.toArray[k]! = ((a, i), s, n) by rw [← e]; simp] at this
  exact this
theorem rowL_free {w : World} {g : Nat} {l : List Mm} (h : RowL w g l) {k : Nat} (hk : k < l.length) :
    w.frozen? ⟨g, k * 4, none⟩ = false ∧ w.frozen? ⟨g, k * 4 + 1, none⟩ = false ∧ w.frozen? ⟨g, k * 4 + 2, none⟩ = false ∧ w.frozen? ⟨g, k * 4 + 3, none⟩ = false := (RowAtR.mem h (k := k) (by simpa using hk)).2
theorem rowL_set {w : World} {g : Nat} {l : List Mm} (h : RowL w g l) {i : Nat} (hi : i < l.length) (a j s n : Int) :
    RowL ((((w.setCell ⟨g, i * 4, none⟩ (.int .i64 a)).setCell ⟨g, i * 4 + 1, none⟩ (.int .i64 j)).setCell ⟨g, i * 4 + 2, none⟩ (.int .u8 s)).setCell ⟨g, i * 4 + 3, none⟩ (.int .i64 n)) g (l.set i ((a, j), s, n)) := by
  have := rowM_set h (i := i) (by simpa using hi) a j s n
  simpa using this
theorem at_mid {α : Type} [Inhabited α] (P Q : List α) (x : α) {k : Nat} (hk : P.length = k) : (P ++ x :: Q)[k]! = x := by
  subst hk
  rw [getElem!_pos _ _ (by simp)]
  simp
theorem set_mid {α : Type} (P Q : List α) (x y : α) {k : Nat} (hk : P.length = k) : (P ++ x :: Q).set k y = P ++ y :: Q := by
  subst hk
  simp
/-- Two of them exchanged. -/
theorem set_two {α : Type} (P M Q : List α) (x y : α) {p q : Nat} (hp : P.length = p) (hq : P.length + 1 + M.length = q) : ((P ++ x :: M ++ y :: Q).set p y).set q x = P ++ y :: M ++ x :: Q := by
  rw [List.append_assoc, List.cons_append, set_mid P _ x y hp, ← List.cons_append, ← List.append_assoc, set_mid (P ++ y :: M) Q y x (by simp; omega)]
theorem set_two' {α : Type} (P M Q : List α) (x y : α) {p q : Nat} (hp : P.length = p) (hq : P.length + 1 + M.length = q) : ((P ++ x :: M ++ y :: Q).set q x).set p y = P ++ y :: M ++ x :: Q := by
  rw [set_mid (P ++ x :: M) Q y x (by simp; omega), List.append_assoc, List.cons_append, set_mid P _ x y hp, List.append_assoc, List.cons_append]
theorem at_two {α : Type} [Inhabited α] (P M Q : List α) (x y : α) {p q : Nat} (hp : P.length = p) (hq : P.length + 1 + M.length = q) : (P ++ x :: M ++ y :: Q)[p]! = x ∧ (P ++ x :: M ++ y :: Q)[q]! = y := by
  constructor
  · rw [List.append_assoc, List.cons_append]
    exact at_mid P _ x hp
  · exact at_mid (P ++ x :: M) Q y (by simp; omega)
/-- The cells of two that are exchanged. -/
theorem two_cellsL {w : World} {g : Nat} {P M Q : List Mm} {a i s n b j t m : Int} (h : RowL w g (P ++ ((a, i), s, n) :: M ++ ((b, j), t, m) :: Q)) {p q : Nat} (hp : P.length = p) (hq : P.length + 1 + M.length = q) :
    (w.cell? ⟨g, p * 4, none⟩ = some (.int .i64 a) ∧ w.cell? ⟨g, p * 4 + 1, none⟩ = some (.int .i64 i) ∧ w.cell? ⟨g, p * 4 + 2, none⟩ = some (.int .u8 s) ∧ w.cell? ⟨g, p * 4 + 3, none⟩ = some (.int .i64 n)) ∧
    (w.cell? ⟨g, q * 4, none⟩ = some (.int .i64 b) ∧ w.cell? ⟨g, q * 4 + 1, none⟩ = some (.int .i64 j) ∧ w.cell? ⟨g, q * 4 + 2, none⟩ = some (.int .u8 t) ∧ w.cell? ⟨g, q * 4 + 3, none⟩ = some (.int .i64 m)) ∧
    (w.frozen? ⟨g, p * 4, none⟩ = false ∧ w.frozen? ⟨g, p * 4 + 1, none⟩ = false ∧ w.frozen? ⟨g, p * 4 + 2, none⟩ = false ∧ w.frozen? ⟨g, p * 4 + 3, none⟩ = false) ∧
    (w.frozen? ⟨g, q * 4, none⟩ = false ∧ w.frozen? ⟨g, q * 4 + 1, none⟩ = false ∧ w.frozen? ⟨g, q * 4 + 2, none⟩ = false ∧ w.frozen? ⟨g, q * 4 + 3, none⟩ = false) := by
  obtain ⟨e1, e2⟩ := at_two P M Q ((a, i), s, n) ((b, j), t, m) hp hq
  exact ⟨rowL_cells h (by simp; omega) e1, rowL_cells h (by simp; omega) e2, rowL_free h (by simp; omega), rowL_free h (by simp; omega)⟩
theorem swapL_up {w : World} {g : Nat} {P M Q : List Mm} {a i s n b j t m : Int} (h : RowL w g (P ++ ((a, i), s, n) :: M ++ ((b, j), t, m) :: Q)) {p q : Nat} (hp : P.length = p) (hq : P.length + 1 + M.length = q) :
    RowL ((((((((w.setCell ⟨g, p * 4, none⟩ (.int .i64 b)).setCell ⟨g, p * 4 + 1, none⟩ (.int .i64 j)).setCell ⟨g, p * 4 + 2, none⟩ (.int .u8 t)).setCell ⟨g, p * 4 + 3, none⟩ (.int .i64 m)).setCell ⟨g, q * 4, none⟩ (.int .i64 a)).setCell ⟨g, q * 4 + 1, none⟩ (.int .i64 i)).setCell ⟨g, q * 4 + 2, none⟩ (.int .u8 s)).setCell ⟨g, q * 4 + 3, none⟩ (.int .i64 n)) g (P ++ ((b, j), t, m) :: M ++ ((a, i), s, n) :: Q) := by
  have h1 := rowL_set (rowL_set h (i := p) (by simp; omega) b j t m) (i := q) (by simp; omega) a i s n
  rwa [set_two P M Q _ _ hp hq] at h1
theorem swapL_down {w : World} {g : Nat} {P M Q : List Mm} {a i s n b j t m : Int} (h : RowL w g (P ++ ((a, i), s, n) :: M ++ ((b, j), t, m) :: Q)) {p q : Nat} (hp : P.length = p) (hq : P.length + 1 + M.length = q) :
    RowL ((((((((w.setCell ⟨g, q * 4, none⟩ (.int .i64 a)).setCell ⟨g, q * 4 + 1, none⟩ (.int .i64 i)).setCell ⟨g, q * 4 + 2, none⟩ (.int .u8 s)).setCell ⟨g, q * 4 + 3, none⟩ (.int .i64 n)).setCell ⟨g, p * 4, none⟩ (.int .i64 b)).setCell ⟨g, p * 4 + 1, none⟩ (.int .i64 j)).setCell ⟨g, p * 4 + 2, none⟩ (.int .u8 t)).setCell ⟨g, p * 4 + 3, none⟩ (.int .i64 m)) g (P ++ ((b, j), t, m) :: M ++ ((a, i), s, n) :: Q) := by
  have h1 := rowL_set (rowL_set h (i := q) (by simp; omega) a i s n) (i := p) (by simp; omega) b j t m
  rwa [set_two' P M Q _ _ hp hq] at h1
theorem grown_swap {a w : World} {g : Nat} (h : a.grownBy w (some g)) (i k : Nat) (x y z t x' y' z' t' : Value) : a.grownBy ((((((((w.setCell ⟨g, i * 4, none⟩ x).setCell ⟨g, i * 4 + 1, none⟩ y).setCell ⟨g, i * 4 + 2, none⟩ z).setCell ⟨g, i * 4 + 3, none⟩ t).setCell ⟨g, k * 4, none⟩ x').setCell ⟨g, k * 4 + 1, none⟩ y').setCell ⟨g, k * 4 + 2, none⟩ z').setCell ⟨g, k * 4 + 3, none⟩ t') (some g) := grown_setM (grown_setM h i x y z t) k x' y' z' t'
end Go.Proofs.YtloghkiabgnpnaaDoor
namespace Go.Proofs.YtloghkiabgnpnaaDoor
open Go Go.RowKit Ros
/-- Two ranges, of which the first ones are exchanged already. -/
def swapped (P X M Y Q : List Mm) (k : Nat) : List Mm := P ++ Y.take k ++ (X.drop k ++ M ++ X.take k) ++ (Y.drop k ++ Q)
theorem swapped_zero (P X M Y Q : List Mm) : swapped P X M Y Q 0 = P ++ X ++ M ++ Y ++ Q := by simp [swapped]
theorem swapped_all {P X M Y Q : List Mm} {n : Nat} (hx : X.length = n) (hy : Y.length = n) : swapped P X M Y Q n = P ++ Y ++ M ++ X ++ Q := by
  unfold swapped
  rw [List.take_of_length_le (l := Y) (by omega), List.take_of_length_le (l := X) (by omega), List.drop_of_length_le (l := X) (by omega), List.drop_of_length_le (l := Y) (by omega)]
  simp
theorem swapped_at {P X M Y Q : List Mm} {n k : Nat} (hx : X.length = n) (hy : Y.length = n) (hk : k < n) :
    swapped P X M Y Q k = (P ++ Y.take k) ++ X[k]! :: (X.drop (k + 1) ++ M ++ X.take k) ++ Y[k]! :: (Y.drop (k + 1) ++ Q) := by
  have e1 : X.drop k = X[k]! :: X.drop (k + 1) := by rw [getElem!_pos X k (by omega)]; exact List.drop_eq_getElem_cons (by omega)
  have e2 : Y.drop k = Y[k]! :: Y.drop (k + 1) := by rw [getElem!_pos Y k (by omega)]; exact List.drop_eq_getElem_cons (by omega)
  unfold swapped
  rw [e1, e2]
  simp only [List.append_assoc, List.cons_append]
theorem swapped_next {P X M Y Q : List Mm} {n k : Nat} (hx : X.length = n) (hy : Y.length = n) (hk : k < n) :
    (P ++ Y.take k) ++ Y[k]! :: (X.drop (k + 1) ++ M ++ X.take k) ++ X[k]! :: (Y.drop (k + 1) ++ Q) = swapped P X M Y Q (k + 1) := by
  have e1 : X.take (k + 1) = X.take k ++ [X[k]!] := by rw [getElem!_pos X k (by omega)]; exact List.take_succ_eq_append_getElem (by omega)
  have e2 : Y.take (k + 1) = Y.take k ++ [Y[k]!] := by rw [getElem!_pos Y k (by omega)]; exact List.take_succ_eq_append_getElem (by omega)
  unfold swapped
  rw [e1, e2]
  simp only [List.append_assoc, List.cons_append, List.nil_append]
theorem swapped_len {P X M Y : List Mm} {n k : Nat} (hx : X.length = n) (hy : Y.length = n) (hk : k < n) : (P ++ Y.take k).length = P.length + k ∧ (P ++ Y.take k).length + 1 + (X.drop (k + 1) ++ M ++ X.take k).length = P.length + n + M.length + k := by
  simp only [List.length_append, List.length_take, List.length_drop]
  omega
set_option maxHeartbeats 2000000 in
set_option maxRecDepth 100000 in
theorem swapRange_any (g c N a b n : Nat) (P X M Y Q : List Mm) (w : World) (h : RowL w g (P ++ X ++ M ++ Y ++ Q)) (hN : P.length + n + M.length + n + Q.length = N) (hl : N ≤ 100000)
    (ha : P.length = a) (hb : P.length + n + M.length = b) (hx : X.length = n) (hy : Y.length = n) :
    Calls Tryd.prog 78 #[.slice (some ⟨g, 0, none⟩) N c, .int .i64 a, .int .i64 b, .int .i64 n, .func (.func 68) #[] #[]] w fun e w' => e = .returned (.tuple #[]) ∧ RowL w' g (P ++ Y ++ M ++ X ++ Q) ∧ w.grownBy w' (some g) := by
  have HR := Lib.hid h
  have HX := Lib.hid hx
  have HY := Lib.hid hy
  have HA := Lib.hid ha
  have HB := Lib.hid hb
  have HN := Lib.hid hN
  clear h hx hy ha hb hN
  go_enter Tryd.func78, Tryd.ntmps78
  go_wp2_with fail
  go_loopw [10] (fun s10 wr => ∃ k : Nat, s10 = .int .i64 k ∧ k ≤ n ∧ Hid (RowL wr g (swapped P X M Y Q k)) ∧ Hid (w.grownBy wr (some g))) (fun s10 _ => n - (intOf s10).toNat)
  case atStart => exact ⟨0, rfl, by omega, Lib.hid (by rw [swapped_zero]; exact HR.out), Lib.hid (World.grownBy.refl _ _)⟩
  case round =>
    obtain ⟨k, rfl, hk, H1, H2⟩ := hrel
    by_cases hlt : k < n
    · have hd : decide ((k : Int) < (n : Int)) = true := decide_eq_true (by omega)
      obtain ⟨l1, l2⟩ := swapped_len (P := P) (X := X) (M := M) (Y := Y) HX.out HY.out hlt
      obtain ⟨p, hp⟩ : ∃ p : Nat, (a : Int) + (k : Int) = (p : Int) := ⟨a + k, by omega⟩
      obtain ⟨q, hq⟩ : ∃ q : Nat, (b : Int) + (k : Int) = (q : Int) := ⟨b + k, by omega⟩
      have hpN : p < N := by have := HA.out; have := HB.out; have := HN.out; omega
      have hqN : q < N := by have := HA.out; have := HB.out; have := HN.out; omega
      have L1 : Hid ((P ++ Y.take k).length = p) := Lib.hid (by have := HA.out; omega)
      have L2 : Hid ((P ++ Y.take k).length + 1 + (X.drop (k + 1) ++ M ++ X.take k).length = q) := Lib.hid (by have := HB.out; omega)
      clear l1 l2
      have n1 : ¬ p = q := by have := HB.out; have := HA.out; omega
      have n2 : ¬ q = p := fun e => n1 e.symm
      have hpw : IntKind.i64.wrap (p : Int) = (p : Int) := IntWalk.i64_in _ ⟨by omega, by omega⟩
      have hqw : IntKind.i64.wrap (q : Int) = (q : Int) := IntWalk.i64_in _ ⟨by omega, by omega⟩
      have p1 : (0 : Int) ≤ (p : Int) := by omega
      have p2 : (p : Int) < (N : Int) := by omega
      have q1 : (0 : Int) ≤ (q : Int) := by omega
      have q2 : (q : Int) < (N : Int) := by omega
      have E1 := Lib.hid (swapped_at (P := P) (M := M) (Q := Q) HX.out HY.out hlt)
      have E2 := Lib.hid (swapped_next (P := P) (M := M) (Q := Q) HX.out HY.out hlt)
      obtain ⟨⟨⟨x1, x2⟩, x3, x4⟩, hx⟩ : ∃ x, x = X[k]! := ⟨_, rfl⟩
      obtain ⟨⟨⟨y1, y2⟩, y3, y4⟩, hy⟩ : ∃ x, x = Y[k]! := ⟨_, rfl⟩
      rw [← hx, ← hy] at E1 E2
      have R1 := Lib.hid (show RowL wr g _ from E1.out ▸ H1.out)
      have R2 := Lib.hid (swapL_up R1.out L1.out L2.out)
      rw [E2.out] at R2
      have G2 := Lib.hid (grown_swap H2.out p q (.int .i64 y1) (.int .i64 y2) (.int .u8 y3) (.int .i64 y4) (.int .i64 x1) (.int .i64 x2) (.int .u8 x3) (.int .i64 x4))
      obtain ⟨⟨c1, c2, c3, c4⟩, ⟨d1, d2, d3, d4⟩, ⟨f1, f2, f3, f4⟩, e1, e2, e3, e4⟩ := two_cellsL R1.out L1.out L2.out
      clear hx hy
      go_wp2_with fail
      go_region
      go_wp2_with fail
      go_roundw
      case rel =>
        trace_state
        exact ⟨k + 1, by go_num, by omega, Lib.hid (rowL_kept R2.out (below_drewN (n := 1) (Below.refl _ _))), Lib.hid (grown_below G2.out (below_drewN (n := 1) (Below.refl _ _)))⟩
      case measure => simp [intOf]; omega
    · obtain rfl : k = n := by omega
      have hd : decide ((k : Int) < (k : Int)) = false := decide_eq_false (by omega)
      have R1 := Lib.hid (swapped_all (P := P) (M := M) (Q := Q) HX.out HY.out ▸ H1.out)
      go_wp2_with fail
      go_end0
      exact ⟨rfl, R1.out, H2.out⟩
end Go.Proofs.YtloghkiabgnpnaaDoor
namespace Go.Proofs.YtloghkiabgnpnaaDoor
open Go Go.RowKit Ros
/-- Two parts that are being turned about. -/
structure Turn (w : World) (g m N i j : Nat) (T : List Mm) (W : World) : Prop where
  ex : ∃ P X Y Q : List Mm, RowL W g (P ++ X ++ Y ++ Q) ∧ P.length + X.length = m ∧ X.length = i ∧ Y.length = j ∧ P ++ Y ++ X ++ Q = T ∧ P.length + X.length + Y.length + Q.length = N
  grown : w.grownBy W (some g)
theorem turn_left {w : World} {g m N i j : Nat} {T : List Mm} {W : World} (h : Turn w g m N i j T W) (hij : j < i) :
    ∃ P X1 X2 Y Q : List Mm, RowL W g (P ++ X1 ++ X2 ++ Y ++ Q) ∧ P.length + j + X2.length + j + Q.length = N ∧ P.length = m - i ∧ P.length + j + X2.length = m ∧ X1.length = j ∧ Y.length = j ∧ i ≤ m ∧ m + j ≤ N ∧
      ∀ W', RowL W' g (P ++ Y ++ X2 ++ X1 ++ Q) → W.grownBy W' (some g) → Turn w g m N (i - j) j T W' := by
  obtain ⟨⟨P, X, Y, Q, hr, h1, h2, h3, h4, h5⟩, hg⟩ := h
  refine ⟨P, X.take j, X.drop j, Y, Q, ?_, ?_, by omega, ?_, by rw [List.length_take]; omega, h3, by omega, by omega, fun W' hr' hg' => ⟨⟨P ++ Y, X.drop j, X.take j, Q, ?_, ?_, ?_, ?_, ?_, ?_⟩, grown_trans hg hg'⟩⟩
  · rw [List.append_assoc P (X.take j), List.take_append_drop]; exact hr
  · rw [List.length_drop]; omega
  · rw [List.length_drop]; omega
  · exact hr'
  · rw [List.length_append, List.length_drop]; omega
  · rw [List.length_drop]; omega
  · rw [List.length_take]; omega
  · rw [List.append_assoc (P ++ Y), List.take_append_drop]; exact h4
  · rw [List.length_append, List.length_drop, List.length_take]; omega
theorem turn_right {w : World} {g m N i j : Nat} {T : List Mm} {W : World} (h : Turn w g m N i j T W) (hij : i < j) :
    ∃ P X Y1 Y2 Q : List Mm, RowL W g (P ++ X ++ Y1 ++ Y2 ++ Q) ∧ P.length + i + Y1.length + i + Q.length = N ∧ P.length = m - i ∧ P.length + i + Y1.length = m + j - i ∧ X.length = i ∧ Y2.length = i ∧ i ≤ m ∧ m + j ≤ N ∧
      ∀ W', RowL W' g (P ++ Y2 ++ Y1 ++ X ++ Q) → W.grownBy W' (some g) → Turn w g m N i (j - i) T W' := by
  obtain ⟨⟨P, X, Y, Q, hr, h1, h2, h3, h4, h5⟩, hg⟩ := h
  refine ⟨P, X, Y.take (j - i), Y.drop (j - i), Q, ?_, ?_, by omega, ?_, h2, by rw [List.length_drop]; omega, by omega, by omega, fun W' hr' hg' => ⟨⟨P, Y.drop (j - i), Y.take (j - i), X ++ Q, ?_, ?_, ?_, ?_, ?_, ?_⟩, grown_trans hg hg'⟩⟩
  · rw [List.append_assoc (P ++ X), List.take_append_drop]; exact hr
  · rw [List.length_take]; omega
  · rw [List.length_take]; omega
  · rw [← List.append_assoc (P ++ _ ++ _)]; exact hr'
  · rw [List.length_drop]; omega
  · rw [List.length_drop]; omega
  · rw [List.length_take]; omega
  · rw [List.append_assoc P (Y.take _), List.take_append_drop, ← List.append_assoc]; exact h4
  · rw [List.length_append, List.length_drop, List.length_take]; omega
theorem turn_end {w : World} {g m N i : Nat} {T : List Mm} {W : World} (h : Turn w g m N i i T W) :
    ∃ P X Y Q : List Mm, RowL W g (P ++ X ++ [] ++ Y ++ Q) ∧ P.length + i + ([] : List Mm).length + i + Q.length = N ∧ P.length = m - i ∧ P.length + i + ([] : List Mm).length = m ∧ X.length = i ∧ Y.length = i ∧ i ≤ m ∧ m + i ≤ N ∧
      ∀ W', RowL W' g (P ++ Y ++ [] ++ X ++ Q) → W.grownBy W' (some g) → RowL W' g T ∧ w.grownBy W' (some g) := by
  obtain ⟨⟨P, X, Y, Q, hr, h1, h2, h3, h4, h5⟩, hg⟩ := h
  refine ⟨P, X, Y, Q, by simpa using hr, by simp; omega, by omega, by simp; omega, h2, h3, by omega, by omega, fun W' hr' hg' => ⟨?_, grown_trans hg hg'⟩⟩
  rw [← h4]
  simpa using hr'
set_option maxHeartbeats 2000000 in
set_option maxRecDepth 100000 in
theorem rotate_any (g c N a m b : Nat) (P X Y Q : List Mm) (w : World) (h : RowL w g (P ++ X ++ Y ++ Q)) (hN : P.length + X.length + Y.length + Q.length = N) (hl : N ≤ 100000)
    (ha : P.length = a) (hm : P.length + X.length = m) (hb : P.length + X.length + Y.length = b) (hx : 0 < X.length) (hy : 0 < Y.length) :
    Calls Tryd.prog 77 #[.slice (some ⟨g, 0, none⟩) N c, .int .i64 a, .int .i64 m, .int .i64 b, .func (.func 68) #[] #[]] w fun e w' => e = .returned (.tuple #[]) ∧ RowL w' g (P ++ Y ++ X ++ Q) ∧ w.grownBy w' (some g) := by
  obtain ⟨i0, hi0⟩ : ∃ i : Nat, (m : Int) - (a : Int) = (i : Int) := ⟨m - a, by omega⟩
  obtain ⟨j0, hj0⟩ : ∃ j : Nat, (b : Int) - (m : Int) = (j : Int) := ⟨b - m, by omega⟩
  have hi1 : 0 < i0 := by omega
  have hj1 : 0 < j0 := by omega
  have H0 : Hid (Turn w g m N i0 j0 (P ++ Y ++ X ++ Q) w) := Lib.hid ⟨⟨P, X, Y, Q, h, hm, by omega, by omega, rfl, hN⟩, World.grownBy.refl _ _⟩
  have hm2 : m ≤ N := by omega
  have w1 : IntKind.i64.wrap (i0 : Int) = (i0 : Int) := IntWalk.i64_in _ ⟨by omega, by omega⟩
  have w2 : IntKind.i64.wrap (j0 : Int) = (j0 : Int) := IntWalk.i64_in _ ⟨by omega, by omega⟩
  generalize P ++ Y ++ X ++ Q = T at *
  clear h hN ha hm hb hx hy
  go_enter Tryd.func77, Tryd.ntmps77
  go_wp2_with fail
  clear hi0 hj0
  go_loopw [10, 11] (fun s10 s11 wr => ∃ i j : Nat, s10 = .int .i64 i ∧ s11 = .int .i64 j ∧ 0 < i ∧ 0 < j ∧ Hid (Turn w g m N i j T wr)) (fun s10 s11 _ => (intOf s10).toNat + (intOf s11).toNat)
  case atStart => exact ⟨i0, j0, rfl, rfl, hi1, hj1, H0⟩
  case round =>
    obtain ⟨i, j, rfl, rfl, hi, hj, HT⟩ := hrel
    clear w1 w2
    by_cases hne : i = j
    · subst hne
      obtain ⟨P', X', Y', Q', r1, r2, r3, r4, r5, r6, r7, r8, r9⟩ := turn_end HT.out
      obtain ⟨p, hp⟩ : ∃ p : Nat, (m : Int) - (i : Int) = (p : Int) := ⟨m - i, by omega⟩
      have hpw : IntKind.i64.wrap (p : Int) = (p : Int) := IntWalk.i64_in _ ⟨by omega, by omega⟩
      have HC := Lib.hid (swapRange_any g c N p m i P' X' [] Y' Q' wr r1 r2 hl (by omega) r4 r5 r6)
      have HE := Lib.hid r9
      clear r1 r2 r3 r4 r5 r6 r9
      go_wp2_with fail
      (with_reducible refine HC.out.mono ?_)
      rintro e w3 ⟨rfl, hr, hg⟩
      have HF := Lib.hid (HE.out _ hr hg)
      clear hr hg
      go_wp2_with fail
      go_end0
      exact ⟨rfl, HF.out⟩
    · have h1 : (i == j) = false := by simpa using hne
      have h2 : (i != j) = true := by simpa using hne
      have h3 : ((i : Int) == (j : Int)) = false := beq_eq_false_iff_ne.2 (by omega)
      have h4 : ((i : Int) != (j : Int)) = true := bne_iff_ne.2 (by omega)
      by_cases hlt : j < i
      · have hd : decide (j < i) = true := decide_eq_true hlt
        obtain ⟨P', X1, X2, Y', Q', r1, r2, r3, r4, r5, r6, r7, r8, r9⟩ := turn_left HT.out hlt
        obtain ⟨p, hp⟩ : ∃ p : Nat, (m : Int) - (i : Int) = (p : Int) := ⟨m - i, by omega⟩
        obtain ⟨q, hq⟩ : ∃ p : Nat, (i : Int) - (j : Int) = (p : Int) := ⟨i - j, by omega⟩
        have hpw : IntKind.i64.wrap (p : Int) = (p : Int) := IntWalk.i64_in _ ⟨by omega, by omega⟩
        have hqw : IntKind.i64.wrap (q : Int) = (q : Int) := IntWalk.i64_in _ ⟨by omega, by omega⟩
        have HC := Lib.hid (swapRange_any g c N p m j P' X1 X2 Y' Q' wr r1 r2 hl (by omega) r4 r5 r6)
        rw [show i - j = q by omega] at r9
        have HE := Lib.hid r9
        clear r1 r2 r3 r4 r5 r6 r9
        go_wp2_with fail
        (with_reducible refine HC.out.mono ?_)
        rintro e w3 ⟨rfl, hr, hg⟩
        have HF := Lib.hid (HE.out _ hr hg)
        clear hr hg
        go_wp2_with fail
        go_roundw
        case rel => exact ⟨q, j, rfl, rfl, by omega, hj, HF⟩
        case measure => simp [intOf]; omega
      · have hd : decide (j < i) = false := decide_eq_false hlt
        obtain ⟨P', X', Y1, Y2, Q', r1, r2, r3, r4, r5, r6, r7, r8, r9⟩ := turn_right HT.out (show i < j by omega)
        obtain ⟨p, hp⟩ : ∃ p : Nat, (m : Int) - (i : Int) = (p : Int) := ⟨m - i, by omega⟩
        obtain ⟨q, hq⟩ : ∃ p : Nat, (j : Int) - (i : Int) = (p : Int) := ⟨j - i, by omega⟩
        obtain ⟨s, hs⟩ : ∃ p : Nat, (m : Int) + (j : Int) - (i : Int) = (p : Int) := ⟨m + j - i, by omega⟩
        have hpw : IntKind.i64.wrap (p : Int) = (p : Int) := IntWalk.i64_in _ ⟨by omega, by omega⟩
        have hqw : IntKind.i64.wrap (q : Int) = (q : Int) := IntWalk.i64_in _ ⟨by omega, by omega⟩
        have hsw : IntKind.i64.wrap (s : Int) = (s : Int) := IntWalk.i64_in _ ⟨by omega, by omega⟩
        have hsw2 : IntKind.i64.wrap ((m : Int) + (j : Int)) = (m : Int) + (j : Int) := IntWalk.i64_in _ ⟨by omega, by omega⟩
        have HC := Lib.hid (swapRange_any g c N p s i P' X' Y1 Y2 Q' wr r1 r2 hl (by omega) (by omega) r5 r6)
        rw [show j - i = q by omega] at r9
        have HE := Lib.hid r9
        clear r1 r2 r3 r4 r5 r6 r9
        go_wp2_with fail
        (with_reducible refine HC.out.mono ?_)
        rintro e w3 ⟨rfl, hr, hg⟩
        have HF := Lib.hid (HE.out _ hr hg)
        clear hr hg
        go_wp2_with fail
        go_roundw
        case rel => exact ⟨i, q, rfl, rfl, hi, by omega, HF⟩
        case measure => simp [intOf]; omega
end Go.Proofs.YtloghkiabgnpnaaDoor
