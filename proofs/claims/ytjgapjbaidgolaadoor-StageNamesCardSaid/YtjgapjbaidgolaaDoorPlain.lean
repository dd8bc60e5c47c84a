/-
  What a package-level variable of numbers, texts and arrays of such holds, cell for cell, where its datum is known. No statement is proved in this text; it speaks of any program.
-/
import Derived.ChangeArms
import Derived.OpenShut
import Derived.LaidMore
import Derived.Lib.LaidTab
namespace Go.Proofs.YtjgapjbaidgolaaDoor
open Go.ChangeShapes Go.WideShapes
mutual
/-- The cells of a datum of numbers, texts, and arrays of such. -/
def flatData {H : Type} : DataW H → List Value
  | .lit (.int k n) => [.int k n]
  | .lit (.string l) => [.string ⟨l.toArray⟩]
  | .agg ds => flatAll ds
  | _ => []
def flatAll {H : Type} : List (DataW H) → List Value
  | [] => []
  | d :: r => flatData d ++ flatAll r
end
theorem flatAll_map {H : Type} (ds : List (DataW H)) : flatAll ds = ds.flatMap flatData := by
  induction ds with
  | nil => rfl
  | cons d r ih => simp [flatAll, ih]
/-- A type of numbers, texts, and arrays of such. -/
def FlatTy (P : Program) : Nat → TypeId → Prop
  | 0, _ => False
  | g + 1, t => (∃ k, P.underlying t = some (.int k)) ∨ P.underlying t = some .string ∨ ∃ n e, P.underlying t = some (.array n e) ∧ P.cellsOf t = n * P.cellsOf e ∧ FlatTy P g e
theorem chunks {α : Type} (c : Nat) : ∀ (n : Nat) (cs : List α), cs.length = n * c → cs = (List.range n).flatMap fun i => (cs.drop (i * c)).take c := by
  intro n
  induction n with
  | zero => intro cs h; simp at h; subst h; rfl
  | succ n ih =>
    intro cs h
    have h1 := ih (cs.drop c) (by rw [List.length_drop, h, Nat.succ_mul]; omega)
    conv => lhs; rw [← List.take_append_drop c cs, h1]
    rw [List.range_succ_eq_map, List.flatMap_cons, List.flatMap_map]
    congr 1
    · simp
    · congr 1
      funext i
      rw [List.drop_drop]
      congr 2
      rw [Nat.succ_mul]; omega
theorem flatMap_congr' {α β : Type} {f g : α → List β} : ∀ (l : List α), (∀ x ∈ l, f x = g x) → l.flatMap f = l.flatMap g
  | [], _ => rfl
  | x :: l, h => by
    rw [List.flatMap_cons, List.flatMap_cons, h x (by simp), flatMap_congr' l fun y hy => h y (by simp [hy])]
theorem flatMap_get {α β : Type} (f : α → List β) (l : List α) : (List.range l.length).flatMap (fun i => match l[i]? with | some x => f x | none => []) = l.flatMap f := by
  induction l with
  | nil => rfl
  | cons x l ih =>
    rw [List.length_cons, List.range_succ_eq_map, List.flatMap_cons, List.flatMap_map, List.flatMap_cons]
    congr 1
theorem cells_of_flat {H : Type} {enc : TypeId × Value → H} {P : Program} {w : World} {base : Nat} {sp : Nat → Bool} {held : Bool} : ∀ (g fuel : Nat) (t : TypeId) (cs : List Value) (d : DataW H) (p : List MemPlace),
    FlatTy P g t → DataW.trod enc P w base sp held fuel t cs = some (d, p) → cs = flatData d := by
  intro g
  induction g with
  | zero => intro _ _ _ _ _ h; exact h.elim
  | succ g ih =>
    intro fuel t cs d p hf h
    rcases hf with ⟨k, hk⟩ | hs | ⟨n, e, ha, hc, hr⟩
    · obtain ⟨m, rfl, e, _⟩ := DataW.trod_int hk h
      injection e with e1 e2
      subst e1
      rfl
    · obtain ⟨s, rfl, e, _⟩ := DataW.trod_string hs h
      injection e with e1 e2
      subst e1
      simp [flatData]
    · obtain ⟨xs, m, rfl, hx, hl, hn, hall⟩ := DataW.trod_array ha h
      injection hx with e1 e2
      subst e1
      rw [hc] at hl
      show cs = flatAll _
      rw [flatAll_map, List.flatMap_map]
      conv => lhs; rw [chunks _ n cs hl]
      rw [← flatMap_get (fun a => flatData (Prod.fst a)) xs, hn]
      refine flatMap_congr' _ fun i hi => ?_
      have hi2 : i < n := List.mem_range.1 hi
      have h1 := hall i hi2
      rw [List.getElem?_eq_getElem (by omega)] at h1 ⊢
      exact ih m e _ _ _ hr h1
end Go.Proofs.YtjgapjbaidgolaaDoor
