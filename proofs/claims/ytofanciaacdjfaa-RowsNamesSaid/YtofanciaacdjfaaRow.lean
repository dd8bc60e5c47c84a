/-
  Boxes that hold a row; the program's closures over rows and IDs. No statement is proved in this text; it holds for every input that its premises let by.
-/
import Derived.Test.YtofanciaacdjfaaMem
namespace Go.Proofs.Ytofanciaacdjfaa
open Go.RowKit Sets RowSets
/-- Block g holds a row. -/
def WBox (w : World) (g : Nat) (a i n : Int) (v : Value) : Prop := w.heap[g]? = some (.cells #[.int .i64 a, .int .i64 i, .int .i64 n, v] 26 (0, 0))
theorem wbox_cells {w : World} {g : Nat} {a i n : Int} {v : Value} (h : WBox w g a i n v) : w.cell? ⟨g, 0, none⟩ = some (.int .i64 a) ∧ w.cell? ⟨g, 1, none⟩ = some (.int .i64 i) ∧ w.cell? ⟨g, 2, none⟩ = some (.int .i64 n) ∧ w.cell? ⟨g, 3, none⟩ = some v := by
  unfold WBox at h
  exact ⟨by rw [cell_of_row _ _ 0 _ _ _ h]; rfl, by rw [cell_of_row _ _ 1 _ _ _ h]; rfl, by rw [cell_of_row _ _ 2 _ _ _ h]; rfl, by rw [cell_of_row _ _ 3 _ _ _ h]; rfl⟩
theorem wbox_free {w : World} {g : Nat} {a i n : Int} {v : Value} (h : WBox w g a i n v) : w.frozen? ⟨g, 0, none⟩ = false ∧ w.frozen? ⟨g, 1, none⟩ = false ∧ w.frozen? ⟨g, 2, none⟩ = false ∧ w.frozen? ⟨g, 3, none⟩ = false := by
  unfold WBox at h
  exact ⟨by simp [World.frozen?, h], by simp [World.frozen?, h], by simp [World.frozen?, h], by simp [World.frozen?, h]⟩
theorem wbox_new (w : World) (a i n : Int) (v : Value) : WBox (w.alloc (.cells #[.int .i64 a, .int .i64 i, .int .i64 n, v] 26)) w.heap.size a i n v := heap_alloc_new w _
theorem wbox_lt {w : World} {g : Nat} {a i n : Int} {v : Value} (h : WBox w g a i n v) : g < w.heap.size := row_lt h
theorem wbox_below {w w' : World} {g : Nat} {a i n : Int} {v : Value} (h : WBox w g a i n v) (hb : Below w.heap.size w w') : WBox w' g a i n v := (hb.block _ (wbox_lt h)).trans h
/-- Block g holds one value, of type t. -/
def One (w : World) (g t : Nat) (v : Value) : Prop := w.heap[g]? = some (.cells #[v] t (0, 0))
theorem one_cell {w : World} {g t : Nat} {v : Value} (h : One w g t v) : w.cell? ⟨g, 0, none⟩ = some v := by
  unfold One at h
  rw [cell_of_row _ _ 0 _ _ _ h]
  rfl
theorem one_free {w : World} {g t : Nat} {v : Value} (h : One w g t v) : w.frozen? ⟨g, 0, none⟩ = false := by
  unfold One at h
  simp [World.frozen?, h]
theorem one_new (w : World) (t : Nat) (v : Value) : One (w.alloc (.cells #[v] t)) w.heap.size t v := heap_alloc_new w _
theorem one_lt {w : World} {g t : Nat} {v : Value} (h : One w g t v) : g < w.heap.size := row_lt h
theorem one_below {w w' : World} {g t : Nat} {v : Value} (h : One w g t v) (hb : Below w.heap.size w w') : One w' g t v := (hb.block _ (one_lt h)).trans h
theorem below_one (w : World) (o : Obj) : Below w.heap.size w (w.alloc o) := (Below.refl _ _).alloc (Nat.le_refl _) o
/-- Does the row belong to the ID? -/
def isI (x y : Id2) : Bool := decide (x = y)
/-- Is an ID not less than another one? -/
def notLess (x y : Id2) : Bool := !lss x.1 x.2 y.1 y.2
/-- May an ID not be? -/
def badI (x : Id2) : Bool := !vid x.1 x.2
/-- A closure that is asked of IDs: its number, what it holds, what it answers while S stands. -/
structure AsksI (K : Nat) (caps : Array Value) (p : Id2 → Bool) (S : World → Prop) : Prop where
  enters : ∀ args W, (callFunc K args).run Try.prog W = .ok (.enter K args) W
  kept : ∀ W W', S W → Below W.heap.size W W' → S W'
  call : ∀ a i W, S W → Calls Try.prog K (#[.agg #[.int .i64 a, .int .i64 i]] ++ caps) W fun e w' => e = .returned (.bool (p (a, i))) ∧ Below W.heap.size W w'
/-- A closure that is asked of rows, and looks at their IDs alone. -/
structure AsksW (K : Nat) (caps : Array Value) (p : Id2 → Bool) (S : World → Prop) : Prop where
  enters : ∀ args W, (callFunc K args).run Try.prog W = .ok (.enter K args) W
  kept : ∀ W W', S W → Below W.heap.size W W' → S W'
  call : ∀ a i n A m c W, S W → Calls Try.prog K (#[.agg #[.int .i64 a, .int .i64 i, .int .i64 n, .slice A m c]] ++ caps) W fun e w' => e = .returned (.bool (p (a, i))) ∧ Below W.heap.size W w'
theorem badI_asks : AsksI 43 #[] badI (fun _ => True) where
  enters := fun args W => enters_fn Try.func43 (by kernel_rfl) rfl args W
  kept _ _ _ _ := trivial
  call a i W _ := by
    have HB := Lib.hid (below_one W (.cells #[.int .i64 a, .int .i64 i] 23))
    have HN : Hid (badI (a, i) = !vid a i) := Lib.hid rfl
    have HC := Lib.hid fun W => may_any a i W
    generalize badI (a, i) = z at *
    generalize vid a i = y at *
    have HE := Lib.hid HN.out.symm
    clear HN
    go_enter Try.func43, Try.ntmps43
    go_wp2_with fail
    refine (HC.out _).mono ?_
    rintro e w1 ⟨rfl, hb⟩
    have H1 := Lib.hid (below_after HB.out hb (Nat.le_refl _))
    clear hb
    go_wp2_with fail
    go_ret
    exact ⟨ret_bool HE.out, H1.out⟩
theorem isI_asks (X : Nat) (p q : Int) : AsksW 46 #[.pointer (some ⟨X, 0, none⟩)] (fun x => isI x (p, q)) (fun W => Box W X p q) where
  enters := fun args W => enters_fn Try.func46 (by kernel_rfl) rfl args W
  kept _ _ h hb := box_below h hb
  call a i n A m c W hS := by
    have HB := Lib.hid (below_one W (.cells #[.int .i64 a, .int .i64 i, .int .i64 n, .slice A m c] 26))
    have HX := Lib.hid (box_below hS HB.out)
    clear hS
    obtain ⟨c1, c2⟩ := box_cells HX.out
    by_cases h1 : a = p
    · subst h1
      by_cases h2 : i = q
      · subst h2
        have HR := Lib.hid (show isI (a, i) (a, i) = true by simp [isI])
        go_enter Try.func46, Try.ntmps46
        go_wp2_with fail
        go_ret
        exact ⟨ret_bool HR.out.symm, HB.out⟩
      · have h3 : (i == q) = false := by simpa using h2
        have HR := Lib.hid (show isI (a, i) (a, q) = false by simp [isI, h2])
        clear h2
        go_enter Try.func46, Try.ntmps46
        go_wp2_with fail
        go_ret
        exact ⟨ret_bool HR.out.symm, HB.out⟩
    · have h3 : (a == p) = false := by simpa using h1
      have HR := Lib.hid (show isI (a, i) (p, q) = false by simp [isI, h1])
      clear h1
      go_enter Try.func46, Try.ntmps46
      go_wp2_with fail
      go_ret
      exact ⟨ret_bool HR.out.symm, HB.out⟩
theorem notLess_asks (X : Nat) (p q k : Int) (v : Value) : AsksW 48 #[.pointer (some ⟨X, 0, none⟩)] (fun x => notLess x (p, q)) (fun W => WBox W X p q k v) where
  enters := fun args W => enters_fn Try.func48 (by kernel_rfl) rfl args W
  kept _ _ h hb := wbox_below h hb
  call a i n A m c W hS := by
    have HB := Lib.hid (below_one W (.cells #[.int .i64 a, .int .i64 i, .int .i64 n, .slice A m c] 26))
    have HX := Lib.hid (wbox_below hS HB.out)
    clear hS
    obtain ⟨c1, c2, c3, c4⟩ := wbox_cells HX.out
    have HN : Hid (notLess (a, i) (p, q) = !lss a i p q) := Lib.hid rfl
    have HC := Lib.hid fun W => less_any a i p q W
    generalize notLess (a, i) (p, q) = z at *
    generalize lss a i p q = y at *
    have HE := Lib.hid HN.out.symm
    clear HN
    go_enter Try.func48, Try.ntmps48
    go_wp2_with fail
    refine (HC.out _).mono ?_
    rintro e w1 ⟨rfl, hb⟩
    have H1 := Lib.hid (below_after HB.out hb (Nat.le_refl _))
    clear hb
    go_wp2_with fail
    go_ret
    exact ⟨ret_bool HE.out, H1.out⟩
/-- Two rows compared by their IDs. -/
theorem cmpW_any (a i n : Int) (A : Option Addr) (m c : Nat) (b j k : Int) (B : Option Addr) (m' c' : Nat) (w : World) :
    Calls Try.prog 62 #[.agg #[.int .i64 a, .int .i64 i, .int .i64 n, .slice A m c], .agg #[.int .i64 b, .int .i64 j, .int .i64 k, .slice B m' c']] w fun e w' => e = .returned (.int .i64 (cmpZ a i b j)) ∧ Below w.heap.size w w' := by
  have HB := Lib.hid (below_two w (.cells #[.int .i64 a, .int .i64 i, .int .i64 n, .slice A m c] 26) (.cells #[.int .i64 b, .int .i64 j, .int .i64 k, .slice B m' c'] 26))
  have HC := Lib.hid fun W => compare_any a i b j W
  generalize cmpZ a i b j = z at *
  go_enter Try.func62, Try.ntmps62
  go_wp2_with fail
  refine (HC.out _).mono ?_
  rintro e w1 ⟨rfl, hb⟩
  have H1 := Lib.hid (below_after HB.out hb (Nat.le_refl _))
  clear hb
  go_wp2_with fail
  go_ret
  exact ⟨rfl, H1.out⟩
theorem eqW_any (a i n : Int) (A : Option Addr) (m c : Nat) (b j k : Int) (B : Option Addr) (m' c' : Nat) (w : World) :
    Calls Try.prog 64 #[.agg #[.int .i64 a, .int .i64 i, .int .i64 n, .slice A m c], .agg #[.int .i64 b, .int .i64 j, .int .i64 k, .slice B m' c']] w fun e w' => e = .returned (.bool (isI (a, i) (b, j))) ∧ Below w.heap.size w w' := by
  have HB := Lib.hid (below_two w (.cells #[.int .i64 a, .int .i64 i, .int .i64 n, .slice A m c] 26) (.cells #[.int .i64 b, .int .i64 j, .int .i64 k, .slice B m' c'] 26))
  by_cases h1 : a = b
  · subst h1
    by_cases h2 : i = j
    · subst h2
      have HR := Lib.hid (show isI (a, i) (a, i) = true by simp [isI])
      go_enter Try.func64, Try.ntmps64
      go_wp2_with fail
      go_ret
      exact ⟨ret_bool HR.out.symm, HB.out⟩
    · have h3 : (i == j) = false := by simpa using h2
      have HR := Lib.hid (show isI (a, i) (a, j) = false by simp [isI, h2])
      clear h2
      go_enter Try.func64, Try.ntmps64
      go_wp2_with fail
      go_ret
      exact ⟨ret_bool HR.out.symm, HB.out⟩
  · have h3 : (a == b) = false := by simpa using h1
    have HR := Lib.hid (show isI (a, i) (b, j) = false by simp [isI, h1])
    clear h1
    go_enter Try.func64, Try.ntmps64
    go_wp2_with fail
    go_ret
    exact ⟨ret_bool HR.out.symm, HB.out⟩
end Go.Proofs.Ytofanciaacdjfaa
