/-
  Carried over: contracts of this program's functions. No statement is proved in this text.
-/
import Derived.Test.YtkoeplgkiogjlaaXAccF
set_option maxRecDepth 20000
set_option maxRecDepth 20000
namespace Go.Proofs.Ytkoeplgkiogjlaa
open Go Go.RowKit
theorem eq_nil (w : World) (a : Option Addr) (n c : Nat) : (binOp .eql 45 (.slice a n c) (.slice none 0 0)).run Try.prog w = .ok (.bool a.isNone) w := Lib.run_eql_slice_nil w _ _ a n c 0 0 Try.underlying45
/-- append of a list of numbers to an empty literal. -/
theorem wpList_copied {ops : Array Oper} {rest : List Oper} {o : Oper} {a : Act} {Q : Exit → Act → World → Prop} (hgd : o.guard = none) (s x : Operand)
    (ho : o.op = .call { callee := .builtin .append, args := #[s, x], argTypes := #[45, 45] }) (w : World) (v : Value) (g : List Int)
    (hs : a.eval s = .slice (some ⟨w.heap.size, 0, none⟩) 0 0) (hx : a.eval x = v) (hI : Rcs encN 1 w v g) (hl : g.length ≤ 4096)
    (h : ∀ A' c' w', Gaps w' w.heap.size (.slice A' g.length c') g → Below w.heap.size w w' → wpList Try.prog ops Q rest (a.put o.dst (.slice A' g.length c')) w') :
    wpList Try.prog ops Q (o :: rest) a (w.alloc (.cells #[] 3)) := by
  have HO : Gaps (w.alloc (.cells #[] 3)) w.heap.size (.slice (some ⟨w.heap.size, 0, none⟩) 0 0) [] := World.ownsRow_made w #[] 0 (Nat.le_refl _) (by decide) rfl
  refine wpList_append_recs (enc := encN) (sz := 1) 45 3 Try.underlying45 info3 rfl encN_len (by decide) encN_one (by decide) hgd s x ho _ w.heap.size _ v [] g hs hx HO (hI.below (below_oneX w _)) (by simp; omega) (by simp) fun v' w' h1 h2 => ?_
  obtain ⟨A', c', rfl, _⟩ := gaps_slice (g := g) h1
  exact h A' c' w' h1 ((below_oneX w _).trans h2)
theorem clone_any (b0 : Nat) (v : Value) (g : List Int) (w : World) (h : Gaps w b0 v g) (hl : g.length ≤ 4096) : Calls Try.prog 46 #[v] w fun e w' => ∃ u, e = .returned u ∧ Gaps w' w.heap.size u g ∧ Below w.heap.size w w' := by
  have HI := Lib.hid (gaps_rcs h)
  have HL := Lib.hid hl
  obtain ⟨A, c, rfl, _, hn⟩ := gaps_slice h
  clear h hl
  cases A with
  | none =>
    obtain rfl := hn rfl
    have hg : g = [] := by
      obtain ⟨A', c', hv, h0, hc, _⟩ := HI.out
      injection hv with e1 e2 e3
      exact List.eq_nil_of_length_eq_zero (by omega)
    subst hg
    clear hn HI
    have hq : ∀ (w : World) (a : Option Addr) (n c : Nat), (binOp .eql 45 (.slice a n c) (.slice none 0 0)).run Try.prog w = .ok (.bool a.isNone) w := eq_nil
    go_enter Try.func46, Try.ntmps46
    go_wp2_with fail
    go_ret
    exact ⟨_, rfl, OwnsR.nil _ _ _, Below.refl _ _⟩
  | some ad =>
    clear hn
    have hq : ∀ (w : World) (a : Option Addr) (n c : Nat), (binOp .eql 45 (.slice a n c) (.slice none 0 0)).run Try.prog w = .ok (.bool a.isNone) w := eq_nil
    go_enter Try.func46, Try.ntmps46
    go_wp2_with (refine wpList_copied (by rfl) _ _ (by rfl) w _ g (by rfl) (by rfl) HI.out HL.out ?_; intro A2 c2 w2 h1 h2; have G := Lib.hid h1; have B2 := Lib.hid h2; clear h1 h2)
    go_ret
    exact ⟨_, rfl, G.out, B2.out⟩
theorem copy_any (base l : Nat) (d : Dt) (v : Value) (w : World) (h : Det 81 w base l d v) (hd : d.Ok) : Calls Try.prog 28 #[.pointer (some ⟨l, 0, none⟩)] w fun e w' => ∃ l' v', e = .returned (.pointer (some ⟨l', 0, none⟩)) ∧ Det 81 w' w.heap.size l' d v' ∧ Below w.heap.size w w' := by
  have H := Lib.hid h
  have HF := Lib.hid (few hd)
  obtain ⟨c0, c1, c2, c3, c4, c5⟩ := dbox_cells h.box
  obtain ⟨A, c, rfl, -, -⟩ := gaps_slice h.gaps
  have B := Lib.hid (below_oneX w (.cells #[.int .i64 d.mn, .int .i64 d.mx, .int .i64 d.wi, .bool d.bg, .int .i64 d.la, .slice A d.ga.length c] 81))
  have X : Hid (DBox 81 (w.alloc (.cells #[.int .i64 d.mn, .int .i64 d.mx, .int .i64 d.wi, .bool d.bg, .int .i64 d.la, .slice A d.ga.length c] 81)) w.heap.size d (.slice A d.ga.length c)) := Lib.hid (heap_alloc_new w _)
  have HL := Lib.hid h.lt
  have H2 := Lib.hid (h.below B.out)
  have c5' := (dbox_cells H2.out.box).2.2.2.2.2
  clear h hd
  go_enter Try.func28, Try.ntmps28
  go_wp2_with fail
  (with_reducible refine (clone_any base _ d.ga _ H2.out.gaps HF.out).mono ?_)
  rintro e w2 ⟨u, rfl, h1, h2⟩
  obtain ⟨A2, c2', rfl, -, -⟩ := gaps_slice h1
  have G := Lib.hid (World.ownsRow.mono (base' := w.heap.size) h1 (by simp))
  have B2 := Lib.hid (below_after B.out h2 (Nat.le_refl _))
  have X2 := Lib.hid (dbox_below X.out h2)
  have f5 := (dbox_free X2.out).2.2
  have c5'' := (dbox_cells X2.out).2.2.2.2.2
  clear h1 h2 c0 c1 c2 c3 c4 c5 c5'
  go_wp2_with fail
  go_ret
  exact ⟨_, _, rfl, ⟨dbox_set5 X2.out _ d.ga, Nat.le_refl _, gaps_set X2.out (by decide) G.out, by decide⟩, B2.out.setCell (p := ⟨w.heap.size, 5, none⟩) (Nat.le_refl _) _⟩
end Go.Proofs.Ytkoeplgkiogjlaa
