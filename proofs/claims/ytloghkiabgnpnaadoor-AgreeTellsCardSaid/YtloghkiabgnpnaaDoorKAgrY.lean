/-
  What each of the proofs uses at its end: a call that answered true and left all that was there as it was has met its statement; what the table of ranks holds when it begins; and how rows and numbers that come in as arguments read. No statement is proved in this text.
-/
import Derived.Test.YtloghkiabgnpnaaDoorRows
import Derived.Test.YtloghkiabgnpnaaDoorTie
import Derived.Test.YtloghkiabgnpnaaDoorCards
import Derived.Test.YtloghkiabgnpnaaDoorH17
import Derived.ProofKit
import Derived.Carry
import Derived.LaidMore
import Derived.SevenTiedAt
import Derived.Stop.Joined
import Derived.OpenShut
import Derived.Lib.LaidTab
namespace Go.Proofs.YtloghkiabgnpnaaDoor
open Go.RowKit Go.WideShapes Go.ChangeShapes Go.ChangeAt
mutual
/-- The cells of a datum of numbers, texts, and arrays of such. -/
def flatData {H : Type} : DataW H → List Value
  | .lit (.int k n) => [.int k n]
  | .lit (.string l) => [.string ⟨l.toArray⟩]
  | .agg ds => flatAll ds
  | _ => []
def flatAll {H : Type} : List (DataW H) → List Value
  | [] => []
  | d :: r => flatData d ++ flatAll r
end
theorem flatAll_map {H : Type} (ds : List (DataW H)) : flatAll ds = ds.flatMap flatData := by
  induction ds with
  | nil => rfl
  | cons d r ih => simp [flatAll, ih]
/-- A type of numbers, texts, arrays of such, and structs of two such. -/
def FlatTy (P : Program) : Nat → TypeId → Prop
  | 0, _ => False
  | g + 1, t => (∃ k, P.underlying t = some (.int k)) ∨ P.underlying t = some .string ∨ (∃ n e, P.underlying t = some (.array n e) ∧ P.cellsOf t = n * P.cellsOf e ∧ FlatTy P g e) ∨
    ∃ f0 f1, P.underlying t = some (.struct #[f0, f1]) ∧ f0.offset = 0 ∧ f1.offset = P.cellsOf f0.type ∧ P.cellsOf t = P.cellsOf f0.type + P.cellsOf f1.type ∧ FlatTy P g f0.type ∧ FlatTy P g f1.type
theorem chunks {α : Type} (c : Nat) : ∀ (n : Nat) (cs : List α), cs.length = n * c → cs = (List.range n).flatMap fun i => (cs.drop (i * c)).take c := by
  intro n
  induction n with
  | zero => intro cs h; simp at h; subst h; rfl
  | succ n ih =>
    intro cs h
    have h1 := ih (cs.drop c) (by rw [List.length_drop, h, Nat.succ_mul]; omega)
    conv => lhs; rw [← List.take_append_drop c cs, h1]
    rw [List.range_succ_eq_map, List.flatMap_cons, List.flatMap_map]
    congr 1
    · simp
    · congr 1
      funext i
      rw [List.drop_drop]
      congr 2
      rw [Nat.succ_mul]; omega
theorem flatMap_congr' {α β : Type} {f g : α → List β} : ∀ (l : List α), (∀ x ∈ l, f x = g x) → l.flatMap f = l.flatMap g
  | [], _ => rfl
  | x :: l, h => by
    rw [List.flatMap_cons, List.flatMap_cons, h x (by simp), flatMap_congr' l fun y hy => h y (by simp [hy])]
theorem flatMap_get {α β : Type} (f : α → List β) (l : List α) : (List.range l.length).flatMap (fun i => match l[i]? with | some x => f x | none => []) = l.flatMap f := by
  induction l with
  | nil => rfl
  | cons x l ih =>
    rw [List.length_cons, List.range_succ_eq_map, List.flatMap_cons, List.flatMap_map, List.flatMap_cons]
    congr 1
theorem cells_of_flat {H : Type} {enc : TypeId × Value → H} {P : Program} {w : World} {base : Nat} {sp : Nat → Bool} {held : Bool} : ∀ (g fuel : Nat) (t : TypeId) (cs : List Value) (d : DataW H) (p : List MemPlace),
    FlatTy P g t → DataW.trod enc P w base sp held fuel t cs = some (d, p) → cs = flatData d := by
  intro g
  induction g with
  | zero => intro _ _ _ _ _ h; exact h.elim
  | succ g ih =>
    intro fuel t cs d p hf h
    rcases hf with ⟨k, hk⟩ | hs | ⟨n, e, ha, hc, hr⟩ | ⟨f0, f1, ht, o0, o1, hc, r0, r1⟩
    · obtain ⟨m, rfl, e, _⟩ := DataW.trod_int hk h
      injection e with e1 e2
      subst e1
      rfl
    · obtain ⟨s, rfl, e, _⟩ := DataW.trod_string hs h
      injection e with e1 e2
      subst e1
      simp [flatData]
    · obtain ⟨xs, m, rfl, hx, hl, hn, hall⟩ := DataW.trod_array ha h
      injection hx with e1 e2
      subst e1
      rw [hc] at hl
      show cs = flatAll _
      rw [flatAll_map, List.flatMap_map]
      conv => lhs; rw [chunks _ n cs hl]
      rw [← flatMap_get (fun a => flatData (Prod.fst a)) xs, hn]
      refine flatMap_congr' _ fun i hi => ?_
      have hi2 : i < n := List.mem_range.1 hi
      have h1 := hall i hi2
      rw [List.getElem?_eq_getElem (by omega)] at h1 ⊢
      exact ih m e _ _ _ hr h1
    · obtain ⟨y0, y1, m, e, hl, h0, h1⟩ := trod_struct2 ht h
      injection e with e1 e2
      subst e1
      have k0 := ih _ _ _ _ _ r0 h0
      have k1 := ih _ _ _ _ _ r1 h1
      rw [o0, List.drop_zero] at k0
      rw [o1] at k1
      show cs = flatData y0.1 ++ (flatData y1.1 ++ [])
      rw [List.append_nil, ← k0, ← k1, List.take_of_length_le (l := cs.drop _) (by rw [List.length_drop, hl, hc]; omega), List.take_append_drop]
section
variable {H : Type} {enc : TypeId × Value → H}
/-- What one argument weighs is among what all weigh. -/
theorem weight_at {ts : List TypeId} {ds : List (DataW H)} (h : (DataW.weightsEach Tryd.prog ts ds).all (· ≤ reachBytes) = true) (j : Nat) {t : TypeId} {d : DataW H} (ht : ts[j]? = some t) (hd : ds[j]? = some d) :
    ∀ k ∈ d.weights Tryd.prog t, k ≤ reachBytes := fun k hk => by
  have := List.all_eq_true.1 h k (DataW.weights_mem_each ht hd k hk)
  simpa using this
theorem open_row_wide {w : World} {b0 : Nat} {v : Value} {d : DataW H} {p : List MemPlace} (hv : Value.okWide Tryd.prog w .any b0 37 v) (h : DataW.Trod enc Tryd.prog w 0 (fun _ => true) true 37 v d p) (hw : ∀ k ∈ d.weights Tryd.prog 37, k ≤ reachBytes) :
    ∃ (x1 x2 x3 : Int) (u : Value) (l : List Sets.Id2), v = .agg #[.int .i64 x1, .int .i64 x2, .int .i64 x3, u] ∧ Ids w u l := by
  obtain ⟨cs, rfl, _⟩ := okWide_struct Tryd.underlying37 hv
  obtain ⟨fuel, hf⟩ := h
  obtain ⟨q, e, l, hl, _⟩ := velem_row_in fuel cs.toList (d, p) hf hw
  obtain ⟨⟨x1, x2⟩, x3, sl⟩ := q
  refine ⟨x1, x2, x3, _, l, ?_, hl⟩
  congr 1
  exact Array.toList_inj.1 e
theorem velem_num {w : World} {base : Nat} {spare : Nat → Bool} {held : Bool} (n : Nat) (cs : List Value) (d : DataW H × List MemPlace) (h : DataW.trod enc Tryd.prog w base spare held n 3 cs = some d) : ∃ x : Int, cs = encN x := by
  obtain ⟨x, e, _, _⟩ := DataW.trod_int Tryd.underlying3 h
  exact ⟨x, e⟩
theorem open_nums {w : World} {b0 : Nat} {v : Value} {d : DataW H} {p : List MemPlace} (hv : Value.okWide Tryd.prog w .any b0 34 v) (h : DataW.Trod enc Tryd.prog w 0 (fun _ => true) true 34 v d p) (hw : ∀ k ∈ d.weights Tryd.prog 34, k ≤ reachBytes) :
    ∃ l : List Int, Rcs encN 1 w v l := by
  obtain ⟨A, len, cap, rfl⟩ := okWide_slice Tryd.underlying34 hv
  obtain ⟨fuel, hf⟩ := h
  obtain ⟨v', e, l, hl, _, _⟩ := open_recs_sized (enc := encN) (sz := 1) (fun _ => True) Tryd.underlying34 (by kernel_rfl) encN_len (fun n cs d h _ => by obtain ⟨r, hr⟩ := velem_num n cs d h; exact ⟨r, hr, trivial⟩) (by omega) hf hw
  simp [Value.cells] at e
  rw [e]
  exact ⟨l, hl⟩
theorem open_idl {w : World} {b0 : Nat} {v : Value} {d : DataW H} {p : List MemPlace} (hv : Value.okWide Tryd.prog w .any b0 25 v) (h : DataW.Trod enc Tryd.prog w 0 (fun _ => true) true 25 v d p) (hw : ∀ k ∈ d.weights Tryd.prog 25, k ≤ reachBytes) :
    ∃ l : List Sets.Id2, Ids w v l := by
  obtain ⟨A, len, cap, rfl⟩ := okWide_slice Tryd.underlying25 hv
  obtain ⟨fuel, hf⟩ := h
  obtain ⟨v', e, l, hl, _, _⟩ := open_recs_sized (enc := encI) (sz := 2) (fun _ => True) Tryd.underlying25 vcells29 encI_len (fun n cs d h _ => by obtain ⟨r, hr⟩ := velem_id n cs d h; exact ⟨r, hr, trivial⟩) (by omega) hf hw
  simp [Value.cells] at e
  rw [e]
  exact ⟨l, ids_rcs hl⟩
end
/-- What the table of ranks is listed with. -/
def laidAll : List (String × DataW Unit) := Rows.agreeNamesRow.laid
theorem tRanks : (Tryd.prog.globals[0]?).map (·.type) = some 63 := by kernel_rfl
theorem flat63 : FlatTy Tryd.prog 3 63 := .inr (.inr (.inl ⟨3, 62, by kernel_rfl, by kernel_rfl, .inr (.inr (.inr ⟨_, _, Tryd.underlying62, by kernel_rfl, by kernel_rfl, by kernel_rfl, .inl ⟨.u8, by kernel_rfl⟩, .inl ⟨.u8, by kernel_rfl⟩⟩))⟩))
/-- What the condition gives. -/
theorem tabs_of_laid {W : World} (h : laidMetH Tryd.prog laidAll W) : Tabs W := by
  rw [MakeChecks.laidMetH_plain _ _ _ (by kernel_rfl)] at h
  obtain ⟨ps, ⟨g0, t0, cs0, f0, p0, q0, hg0, ht0, hv0, hd0, _, _⟩, _, _⟩ := h
  obtain rfl := Option.some.inj ((show _ = some 0 by kernel_rfl).symm.trans hg0)
  obtain rfl := Option.some.inj (tRanks.symm.trans ht0)
  have e0 := cells_of_flat _ _ _ _ _ _ flat63 hd0
  have hc : ∀ i, W.cell? ⟨0, i, none⟩ = [Value.int .u8 3, .int .u8 4, .int .u8 2, .int .u8 2, .int .u8 1, .int .u8 1][i]? := fun i => by
    rw [World.var?_cell hg0 hv0 i, ← Array.getElem?_toList, e0]
    rfl
  exact ⟨⟨hc 0, hc 1, hc 2, hc 3, hc 4, hc 5⟩, World.block_lt_of_cell? W _ (hc 0)⟩
/-- The door's own heap meets the condition. -/
theorem door_met (os : Os) (args : Array Value) : laidMetH Tryd.prog laidAll ((World.doorLaid Tryd.prog 400 os).forCall (fun _ _ => 0) ⟨#[], args, []⟩).memory :=
  laidMetH_of_parts3 (fuel := 8) (laidMet_of_run' 8 (by kernel_rfl) (by kernel_rfl)) (by kernel_rfl) (by kernel_rfl)
end Go.Proofs.YtloghkiabgnpnaaDoor
