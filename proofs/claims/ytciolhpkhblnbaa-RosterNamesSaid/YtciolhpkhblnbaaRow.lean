/-
  Boxes that hold a member; the program's closures over members and IDs. No statement is proved in this text; it holds for every input that its premises let by.
-/
import Derived.Test.YtciolhpkhblnbaaMem
namespace Go.Proofs.Ytciolhpkhblnbaa
open Go.RowKit Ros
/-- Block g holds a member. -/
def MBox (w : World) (g : Nat) (a i s n : Int) : Prop := w.heap[g]? = some (.cells #[.int .i64 a, .int .i64 i, .int .u8 s, .int .i64 n] 32 (0, 0))
theorem mbox_cells {w : World} {g : Nat} {a i s n : Int} (h : MBox w g a i s n) : w.cell? ⟨g, 0, none⟩ = some (.int .i64 a) ∧ w.cell? ⟨g, 1, none⟩ = some (.int .i64 i) ∧ w.cell? ⟨g, 2, none⟩ = some (.int .u8 s) ∧ w.cell? ⟨g, 3, none⟩ = some (.int .i64 n) := by
  unfold MBox at h
  exact ⟨by rw [cell_of_row _ _ 0 _ _ _ h]; rfl, by rw [cell_of_row _ _ 1 _ _ _ h]; rfl, by rw [cell_of_row _ _ 2 _ _ _ h]; rfl, by rw [cell_of_row _ _ 3 _ _ _ h]; rfl⟩
theorem mbox_free {w : World} {g : Nat} {a i s n : Int} (h : MBox w g a i s n) : w.frozen? ⟨g, 0, none⟩ = false ∧ w.frozen? ⟨g, 1, none⟩ = false ∧ w.frozen? ⟨g, 2, none⟩ = false ∧ w.frozen? ⟨g, 3, none⟩ = false := by
  unfold MBox at h
  exact ⟨by simp [World.frozen?, h], by simp [World.frozen?, h], by simp [World.frozen?, h], by simp [World.frozen?, h]⟩
theorem mbox_new (w : World) (a i s n : Int) : MBox (w.alloc (.cells #[.int .i64 a, .int .i64 i, .int .u8 s, .int .i64 n] 32)) w.heap.size a i s n := heap_alloc_new w _
theorem mbox_lt {w : World} {g : Nat} {a i s n : Int} (h : MBox w g a i s n) : g < w.heap.size := row_lt h
theorem mbox_below {w w' : World} {g : Nat} {a i s n : Int} (h : MBox w g a i s n) (hb : Below w.heap.size w w') : MBox w' g a i s n := (hb.block _ (mbox_lt h)).trans h
/-- Block g holds one value, of type t. -/
def One (w : World) (g t : Nat) (v : Value) : Prop := w.heap[g]? = some (.cells #[v] t (0, 0))
theorem one_cell {w : World} {g t : Nat} {v : Value} (h : One w g t v) : w.cell? ⟨g, 0, none⟩ = some v := by
  unfold One at h
  rw [cell_of_row _ _ 0 _ _ _ h]
  rfl
theorem one_free {w : World} {g t : Nat} {v : Value} (h : One w g t v) : w.frozen? ⟨g, 0, none⟩ = false := by
  unfold One at h
  simp [World.frozen?, h]
theorem one_new (w : World) (t : Nat) (v : Value) : One (w.alloc (.cells #[v] t)) w.heap.size t v := heap_alloc_new w _
theorem one_lt {w : World} {g t : Nat} {v : Value} (h : One w g t v) : g < w.heap.size := row_lt h
theorem one_below {w w' : World} {g t : Nat} {v : Value} (h : One w g t v) (hb : Below w.heap.size w w') : One w' g t v := (hb.block _ (one_lt h)).trans h
theorem enters_fn {f : FuncId} {fn : Func} {c : Code} (hf : Try.prog.funcs[f]? = some fn) (hname : (fn.name == "runtime.NumGoroutine") = false) (hb : fn.body = some c) (args : Array Value) (w : World) : (callFunc f args).run Try.prog w = .ok (.enter f args) w := by
  have h1 : fn.name ≠ "runtime.NumGoroutine" := by simpa using hname
  simp [callFunc, hf, h1, hb, mark, go_sem]
theorem below_one (w : World) (o : Obj) : Below w.heap.size w (w.alloc o) := (Below.refl _ _).alloc (Nat.le_refl _) o
/-- Block g holds the lives of addresses 0 to 12, free to be written. -/
def Lives (w : World) (g : Nat) (L : Nat → Int) : Prop := g < w.heap.size ∧ ∀ k, k < 13 → w.cell? ⟨g, k, none⟩ = some (.int .i64 (L k)) ∧ w.frozen? ⟨g, k, none⟩ = false
theorem lives_block {w w' : World} {g : Nat} {L : Nat → Int} (h : Lives w g L) (hs : w.heap.size ≤ w'.heap.size) (hb : w'.heap[g]? = w.heap[g]?) : Lives w' g L :=
  ⟨Nat.lt_of_lt_of_le h.1 hs, fun k hk => ⟨(World.cell?_of_block hb).trans (h.2 k hk).1, (World.frozen?_of_block hb).trans (h.2 k hk).2⟩⟩
theorem lives_below {w w' : World} {g : Nat} {L : Nat → Int} (h : Lives w g L) (hb : Below w.heap.size w w') : Lives w' g L := lives_block h hb.size (hb.block g h.1)
theorem lives_grown {w w' : World} {g r : Nat} {L : Nat → Int} (h : Lives w g L) (hb : w.grownBy w' (some r)) (hg : g ≠ r) : Lives w' g L := lives_block h hb.size (hb.block g h.1 (by simpa using fun e => hg e))
theorem one_grown {w w' : World} {g r t : Nat} {v : Value} (h : One w g t v) (hb : w.grownBy w' (some r)) (hg : g ≠ r) : One w' g t v := (hb.block g (one_lt h) (by simpa using fun e => hg e)).trans h
/-- A closure that is asked of IDs: its number, what it holds, what it answers while S stands. -/
structure AsksI (K : Nat) (caps : Array Value) (p : Id2 → Bool) (S : World → Prop) : Prop where
  enters : ∀ args W, (callFunc K args).run Try.prog W = .ok (.enter K args) W
  kept : ∀ W W', S W → Below W.heap.size W W' → S W'
  call : ∀ a i W, S W → Calls Try.prog K (#[.agg #[.int .i64 a, .int .i64 i]] ++ caps) W fun e w' => e = .returned (.bool (p (a, i))) ∧ Below W.heap.size W w'
/-- A closure that is asked of members, of which D holds. -/
structure AsksM (K : Nat) (caps : Array Value) (p : Mm → Bool) (S : World → Prop) (D : Mm → Prop) : Prop where
  enters : ∀ args W, (callFunc K args).run Try.prog W = .ok (.enter K args) W
  kept : ∀ W W', S W → Below W.heap.size W W' → S W'
  call : ∀ a i s n W, D ((a, i), s, n) → S W → Calls Try.prog K (#[.agg #[.int .i64 a, .int .i64 i, .int .u8 s, .int .i64 n]] ++ caps) W fun e w' => e = .returned (.bool (p ((a, i), s, n))) ∧ Below W.heap.size W w'
/-- May an ID not be? -/
def badI (x : Id2) : Bool := !vid x.1 x.2
theorem badI_asks : AsksI 46 #[] badI (fun _ => True) where
  enters := fun args W => enters_fn Try.func46 (by kernel_rfl) rfl args W
  kept _ _ _ _ := trivial
  call a i W _ := by
    have HB := Lib.hid (below_one W (.cells #[.int .i64 a, .int .i64 i] 30))
    have HN : Hid (badI (a, i) = !vid a i) := Lib.hid rfl
    have HC := Lib.hid fun W => may_any a i W
    generalize badI (a, i) = z at *
    generalize vid a i = y at *
    have HE := Lib.hid HN.out.symm
    clear HN
    go_enter Try.func46, Try.ntmps46
    go_wp2_with fail
    refine (HC.out _).mono ?_
    rintro e w1 ⟨rfl, hb⟩
    have H1 := Lib.hid (below_after HB.out hb (Nat.le_refl _))
    clear hb
    go_wp2_with fail
    go_ret
    exact ⟨ret_bool HE.out, H1.out⟩
set_option maxHeartbeats 1000000 in
theorem counts_any (a i s n : Int) (w : World) :
    Calls Try.prog 43 #[.agg #[.int .i64 a, .int .i64 i, .int .u8 s, .int .i64 n]] w fun e w' => e = .returned (.bool (cnt ((a, i), s, n))) ∧ Below w.heap.size w w' := by
  have HB := Lib.hid (below_one w (.cells #[.int .i64 a, .int .i64 i, .int .u8 s, .int .i64 n] 32))
  have HM := Lib.hid (mbox_new w a i s n)
  have HC := Lib.hid fun W => may_any a i W
  have HE : Hid (cnt ((a, i), s, n) = (vid a i && decide (1 ≤ s ∧ s ≤ 7))) := Lib.hid rfl
  generalize vid a i = y at *
  cases y
  · have HR := Lib.hid (show cnt ((a, i), s, n) = false by rw [HE.out]; rfl)
    go_enter Try.func43, Try.ntmps43
    go_wp2_with fail
    refine (HC.out _).mono ?_
    rintro e w1 ⟨rfl, hb⟩
    have H1 := Lib.hid (below_after HB.out hb (Nat.le_refl _))
    clear hb
    go_wp2_with fail
    go_ret
    exact ⟨ret_bool HR.out.symm, H1.out⟩
  · by_cases h1 : 1 ≤ s
    · by_cases h2 : s ≤ 7
      · have HR := Lib.hid (show cnt ((a, i), s, n) = true by rw [HE.out]; simp; omega)
        clear HE
        go_enter Try.func43, Try.ntmps43
        go_wp2_with fail
        refine (HC.out _).mono ?_
        rintro e w1 ⟨rfl, hb⟩
        have H1 := Lib.hid (below_after HB.out hb (Nat.le_refl _))
        obtain ⟨c1, c2, c3, c4⟩ := mbox_cells (mbox_below HM.out hb)
        clear hb
        go_wp2_with fail
        go_ret
        exact ⟨ret_bool HR.out.symm, H1.out⟩
      · have HR := Lib.hid (show cnt ((a, i), s, n) = false by rw [HE.out]; simp; omega)
        clear HE
        go_enter Try.func43, Try.ntmps43
        go_wp2_with fail
        refine (HC.out _).mono ?_
        rintro e w1 ⟨rfl, hb⟩
        have H1 := Lib.hid (below_after HB.out hb (Nat.le_refl _))
        obtain ⟨c1, c2, c3, c4⟩ := mbox_cells (mbox_below HM.out hb)
        clear hb
        go_wp2_with fail
        go_ret
        exact ⟨ret_bool (by rw [HR.out]; simpa using h2), H1.out⟩
    · have HR := Lib.hid (show cnt ((a, i), s, n) = false by rw [HE.out]; simp; omega)
      clear HE
      go_enter Try.func43, Try.ntmps43
      go_wp2_with fail
      refine (HC.out _).mono ?_
      rintro e w1 ⟨rfl, hb⟩
      have H1 := Lib.hid (below_after HB.out hb (Nat.le_refl _))
      obtain ⟨c1, c2, c3, c4⟩ := mbox_cells (mbox_below HM.out hb)
      clear hb
      go_wp2_with fail
      go_ret
      exact ⟨ret_bool HR.out.symm, H1.out⟩
/-- Does an entry not count? -/
def badM (x : Mm) : Bool := !cnt x
theorem badM_asks : AsksM 42 #[] badM (fun _ => True) (fun _ => True) where
  enters := fun args W => enters_fn Try.func42 (by kernel_rfl) rfl args W
  kept _ _ _ _ := trivial
  call a i s n W _ _ := by
    have HB := Lib.hid (below_one W (.cells #[.int .i64 a, .int .i64 i, .int .u8 s, .int .i64 n] 32))
    have HN : Hid (badM ((a, i), s, n) = !cnt ((a, i), s, n)) := Lib.hid rfl
    have HC := Lib.hid fun W => counts_any a i s n W
    generalize badM ((a, i), s, n) = z at *
    generalize cnt ((a, i), s, n) = y at *
    have HE := Lib.hid HN.out.symm
    clear HN
    go_enter Try.func42, Try.ntmps42
    go_wp2_with fail
    refine (HC.out _).mono ?_
    rintro e w1 ⟨rfl, hb⟩
    have H1 := Lib.hid (below_after HB.out hb (Nat.le_refl _))
    clear hb
    go_wp2_with fail
    go_ret
    exact ⟨ret_bool HE.out, H1.out⟩
theorem noM_asks : AsksM 58 #[] noM (fun _ => True) (fun _ => True) where
  enters := fun args W => enters_fn Try.func58 (by kernel_rfl) rfl args W
  kept _ _ _ _ := trivial
  call a i s n W _ _ := by
    have HB := Lib.hid (below_one W (.cells #[.int .i64 a, .int .i64 i, .int .u8 s, .int .i64 n] 32))
    by_cases h : s = 0
    · subst h
      have HR := Lib.hid (show noM ((a, i), (0 : Int), n) = true by simp [noM])
      go_enter Try.func58, Try.ntmps58
      go_wp2_with fail
      go_ret
      exact ⟨ret_bool HR.out.symm, HB.out⟩
    · have h2 : (s == 0) = false := by simpa using h
      have HR := Lib.hid (show noM ((a, i), s, n) = false by simp [noM, h])
      go_enter Try.func58, Try.ntmps58
      go_wp2_with fail
      go_ret
      exact ⟨ret_bool HR.out.symm, HB.out⟩
/-- Is the member of an ID? -/
def isM (y : Id2) (x : Mm) : Bool := decide (x.1 = y)
theorem isM_asks (X : Nat) (p q : Int) : AsksM 39 #[.pointer (some ⟨X, 0, none⟩)] (isM (p, q)) (fun W => Box W X p q) (fun _ => True) where
  enters := fun args W => enters_fn Try.func39 (by kernel_rfl) rfl args W
  kept _ _ h hb := box_below h hb
  call a i s n W _ hS := by
    have HB := Lib.hid (below_one W (.cells #[.int .i64 a, .int .i64 i, .int .u8 s, .int .i64 n] 32))
    have HX := Lib.hid (box_below hS HB.out)
    clear hS
    obtain ⟨c1, c2⟩ := box_cells HX.out
    by_cases h1 : a = p
    · subst h1
      by_cases h2 : i = q
      · subst h2
        have HR := Lib.hid (show isM (a, i) ((a, i), s, n) = true by simp [isM])
        go_enter Try.func39, Try.ntmps39
        go_wp2_with fail
        go_ret
        exact ⟨ret_bool HR.out.symm, HB.out⟩
      · have h3 : (i == q) = false := by simpa using h2
        have HR := Lib.hid (show isM (a, q) ((a, i), s, n) = false by simp [isM, h2])
        clear h2
        go_enter Try.func39, Try.ntmps39
        go_wp2_with fail
        go_ret
        exact ⟨ret_bool HR.out.symm, HB.out⟩
    · have h3 : (a == p) = false := by simpa using h1
      have HR := Lib.hid (show isM (p, q) ((a, i), s, n) = false by simp [isM, h1])
      clear h1
      go_enter Try.func39, Try.ntmps39
      go_wp2_with fail
      go_ret
      exact ⟨ret_bool HR.out.symm, HB.out⟩
end Go.Proofs.Ytciolhpkhblnbaa
