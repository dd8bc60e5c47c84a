/-
  What each of the proofs uses at its end: a call that answered true and left all that was there as it was has met its statement; and what the two tables of package stage hold when it begins. No statement is proved in this text.
-/
import Derived.Test.YtjgapjbaidgolaaDoorRows
import Derived.Test.YtjgapjbaidgolaaDoorTie
import Derived.Test.YtjgapjbaidgolaaDoorCards
import Derived.Test.YtjgapjbaidgolaaDoorPlain
import Derived.ProofKit
import Derived.SizedLaws
import Derived.Below
import Derived.Carry
import Derived.LaidMore
import Derived.SevenTiedAt
import Derived.Stop.Joined
namespace Go.Proofs.YtjgapjbaidgolaaDoor
open Go.RowKit Go.WideShapes Go.ChangeShapes Go.ChangeAt
theorem Tryd.own : ownKnob Tryd.prog.godebug = none := by kernel_rfl
theorem Tryd.laidOut : laidOutB Tryd.prog = true := by kernel_rfl
theorem in_u8 {n : Int} (h : (Lit.int .u8 n).wf = true) : ∃ m : Nat, n = m ∧ m < 256 := by
  simp [Lit.wf, IntKind.min, IntKind.max, IntKind.signed, IntKind.bits] at h
  exact ⟨n.toNat, by omega, by omega⟩
section
variable {H : Type} {enc : TypeId × Value → H}
/-- May each of these types be read as data, to the bottom? -/
def Legible (ts : List TypeId) : Prop := (ts.all fun t => Tryd.prog.readableRec t && decide (t < Tryd.prog.types.size)) = true
/-- All arguments read behind the call as they did, where nothing that was there has turned. -/
theorem read_again {W W' : World} (hb : Below W.heap.size W W') (ts : List TypeId) (hts : Legible ts) : ∀ (vs : List Value) (ds : List (DataW H)) (ps : List MemPlace),
    DataW.TrodAll enc Tryd.prog W 0 (fun _ => true) true ts vs ds ps → (∀ x ∈ ps, x.block < W.heap.size) →
    DataW.TrodAll enc Tryd.prog W' 0 (fun b => decide (b < W.heap.size)) true ts vs ds ps := by
  induction ts with
  | nil =>
    intro vs ds ps h _
    obtain ⟨rfl, rfl, rfl⟩ := trodAll_nil h
    rfl
  | cons t ts ih =>
    intro vs ds ps h hlt
    obtain ⟨v, vs', d, ds', p, q, rfl, rfl, rfl, h1, h2⟩ := trodAll_cons h
    simp only [Legible, List.all_cons, Bool.and_eq_true, decide_eq_true_eq] at hts
    exact ⟨p, q, Below.trod Tryd.laidOut hts.1.1 hts.1.2 h1 hb (fun x hx => hlt x (List.mem_append_left _ hx)),
      ih (by simpa [Legible] using hts.2) vs' ds' q h2 (fun x hx => hlt x (List.mem_append_right _ hx)), rfl⟩
/-- The statement's last step: true was answered, and all old memory stands. -/
theorem law_post {f : Func} {s : ChangeSpec} {W W' : World} {args : Array Value} {ds gs : List (DataW H)} {before : List MemPlace} {t : TypeId}
    (hW : DataW.Whole enc Tryd.prog f.params.toList s.vars false W args.toList ds gs before) (hvars : s.vars = []) (hres : f.resultTypes = #[t]) (ht : Tryd.prog.underlying t = some .bool)
    (hspec : s.fn H (ds ++ gs) = { results := [.lit (.bool true)], args := ds }) (hts : Legible f.params.toList) (hb : Below W.heap.size W W') :
    s.post enc Tryd.prog f false true false false W args (.bool true) W' := by
  have hlt := hW.lt
  obtain ⟨p, q, hA, hV, rfl, hz, hn⟩ := hW
  refine ⟨ds, gs, p ++ q, [], p, [], ⟨p, q, hA, hV, rfl, hz, hn⟩, ?_, ?_, ?_, hb.frame _, fun h => by cases h⟩
  · rw [hspec, hres]
    exact trodAll_mk1 (shut_bool ht true)
  · rw [hspec]
    exact read_again hb _ hts _ _ _ hA fun x hx => hlt x (List.mem_append_left _ hx)
  · rw [hspec, hvars]
    rfl
end
/-- What the two tables of package stage are listed with. -/
def laidAll : List (String × DataW Unit) := Rows.stageNamesRow.laid
/-- The texts of the table of names. -/
def nameCells : List Value := flatData (H := Unit) Rows.laid_covey_stage_names
/-- The numbers of the table of edges, row behind row. -/
def edgeCells : List Value := flatData (H := Unit) Rows.laid_covey_stage_edges
/-- The two tables hold what the program's text lays there. -/
def Tabs (w : World) : Prop := (∀ i, i < 8 → w.cell? ⟨0, i, none⟩ = nameCells[i]?) ∧ ∀ i, i < 64 → w.cell? ⟨1, i, none⟩ = edgeCells[i]?
theorem tNames : (Tryd.prog.globals[0]?).map (·.type) = some 35 := by kernel_rfl
theorem tEdges : (Tryd.prog.globals[1]?).map (·.type) = some 38 := by kernel_rfl
theorem flat35 : FlatTy Tryd.prog 2 35 := .inr (.inr ⟨8, 9, by kernel_rfl, by kernel_rfl, .inr (.inl (by kernel_rfl))⟩)
theorem flat38 : FlatTy Tryd.prog 3 38 := .inr (.inr ⟨8, 37, by kernel_rfl, by kernel_rfl, .inr (.inr ⟨8, 5, by kernel_rfl, by kernel_rfl, .inl ⟨.u8, by kernel_rfl⟩⟩)⟩)
/-- What the condition gives. -/
theorem tabs_of_laid {W : World} (h : laidMetH Tryd.prog laidAll W) : Tabs W := by
  rw [MakeChecks.laidMetH_plain _ _ _ (by kernel_rfl)] at h
  obtain ⟨ps, ⟨g0, t0, cs0, f0, p0, q0, hg0, ht0, hv0, hd0, ⟨g1, t1, cs1, f1, p1, q1, hg1, ht1, hv1, hd1, _, _⟩, _⟩, _, _⟩ := h
  obtain rfl := Option.some.inj ((show _ = some 0 by kernel_rfl).symm.trans hg0)
  obtain rfl := Option.some.inj ((show _ = some 1 by kernel_rfl).symm.trans hg1)
  obtain rfl := Option.some.inj (tNames.symm.trans ht0)
  obtain rfl := Option.some.inj (tEdges.symm.trans ht1)
  have e0 := cells_of_flat _ _ _ _ _ _ flat35 hd0
  have e1 := cells_of_flat _ _ _ _ _ _ flat38 hd1
  refine ⟨fun i _ => ?_, fun i _ => ?_⟩
  · rw [World.var?_cell hg0 hv0 i, ← Array.getElem?_toList, e0]
    rfl
  · rw [World.var?_cell hg1 hv1 i, ← Array.getElem?_toList, e1]
    rfl
/-- The door's own heap meets the condition. -/
theorem door_met (os : Os) (args : Array Value) : laidMetH Tryd.prog laidAll ((World.doorLaid Tryd.prog 400 os).forCall (fun _ _ => 0) ⟨#[], args, []⟩).memory :=
  laidMetH_of_parts3 (fuel := 8) (laidMet_of_run' 8 (by kernel_rfl) (by kernel_rfl)) (by kernel_rfl) (by kernel_rfl)
end Go.Proofs.YtjgapjbaidgolaaDoor
