/-
  No cell of these rows narrows 'for every input' (looked for: loops, veiled, ifaces, maps, wideKeys, modest, calm, conditions, laid).
  DERIVED. THE GIVEN ROWS OF THIS SEAT. 7 by the template 'for every input the law returns true; each argument reads behind the call as it read before'; 0 by the template 'total and deterministic' (their statements: YtbglghfdfigefaaTotals.lean).
  GIVEN WITH THE SEED: the statements are not yours to turn. If you find one false, say at which input.
  Laid BY PROGRAM, IN A SANDBOX (cutbox-rows.mjs): the forced cells as the released guide's own fill.sh prints them over the translation 9f4d7c720e9ba8e0… (all of the seat's roots in one cut). By AI agents, Wed Nov 11 2026. No macro, syntax, notation, axiom, sorry.
-/
import Derived.Test.YtbglghfdfigefaaChecked
import GoSem.Claim
import GoSem.ClaimJoined
import GoSem.ClaimMapViews
import Derived.JoinedTies
import Derived.KernelRfl
namespace Go.Proofs.Ytbglghfdfigefaa
/- THE CELL 'sum', in the pinned program and in every row, IS THE sha256 OF THE DUMP (.gsa) THAT YtbglghfdfigefaaProg.lean LOADS. Nothing in Lean hashes anything: it is a label: what it is worth is what the hold of that sum in a sandbox is worth. -/
noncomputable def Try.pinned : Pinned := { name := "ytbglghfdfigefaa", sum := "9f4d7c720e9ba8e0eef85905ee70620d5309f571014c320410c749a8ef015933", checked := Try.checked }
namespace Rows
def none {H : Type} : Left H := { results := [], args := [] }

/-- 'coveylaw15.AccrualNames': WHATEVER THE INPUT: true; the input reads as it did. -/
def accrualNamesSpec : ChangeSpec := { name := "accrualNames", fn := fun _ => fun
  | [] => { results := [.lit (.bool true)], args := [] }
  | _ => none }
def accrualNamesRow : OpenClaim := { program := "ytbglghfdfigefaa", sum := "9f4d7c720e9ba8e0eef85905ee70620d5309f571014c320410c749a8ef015933", func := "covey/coveylaw15.AccrualNames", spec := "accrualNames", apart := false }
def AccrualNamesSaid : Prop := accrualNamesRow.holds Try.pinned (OpenSpec.ofChange accrualNamesSpec)

/-- ITS FALSE NEIGHBOUR: 'it returns false'. Refute it at one input. -/
def accrualNamesWrong : ChangeSpec := { name := "accrualNames", fn := fun _ => fun
  | [] => { results := [.lit (.bool false)], args := [] }
  | _ => none }
def AccrualNamesWrongFalsely : Prop := accrualNamesRow.holds Try.pinned (OpenSpec.ofChange accrualNamesWrong)

/-- 'coveylaw15.AccrualPlays': WHATEVER THE INPUT: true; the input reads as it did. -/
def accrualPlaysSpec : ChangeSpec := { name := "accrualPlays", fn := fun _ => fun
  | [d1, d2, d3, d4, d5] => { results := [.lit (.bool true)], args := [d1, d2, d3, d4, d5] }
  | _ => none }
def accrualPlaysRow : OpenClaim := { program := "ytbglghfdfigefaa", sum := "9f4d7c720e9ba8e0eef85905ee70620d5309f571014c320410c749a8ef015933", func := "covey/coveylaw15.AccrualPlays", spec := "accrualPlays", apart := false }
def AccrualPlaysSaid : Prop := accrualPlaysRow.holds Try.pinned (OpenSpec.ofChange accrualPlaysSpec)

/-- ITS FALSE NEIGHBOUR: 'it returns false'. Refute it at one input. -/
def accrualPlaysWrong : ChangeSpec := { name := "accrualPlays", fn := fun _ => fun
  | [d1, d2, d3, d4, d5] => { results := [.lit (.bool false)], args := [d1, d2, d3, d4, d5] }
  | _ => none }
def AccrualPlaysWrongFalsely : Prop := accrualPlaysRow.holds Try.pinned (OpenSpec.ofChange accrualPlaysWrong)

/-- 'coveylaw15.AccrualBounds': WHATEVER THE INPUT: true; the input reads as it did. -/
def accrualBoundsSpec : ChangeSpec := { name := "accrualBounds", fn := fun _ => fun
  | [d1, d2, d3, d4, d5, d6] => { results := [.lit (.bool true)], args := [d1, d2, d3, d4, d5, d6] }
  | _ => none }
def accrualBoundsRow : OpenClaim := { program := "ytbglghfdfigefaa", sum := "9f4d7c720e9ba8e0eef85905ee70620d5309f571014c320410c749a8ef015933", func := "covey/coveylaw15.AccrualBounds", spec := "accrualBounds", apart := false }
def AccrualBoundsSaid : Prop := accrualBoundsRow.holds Try.pinned (OpenSpec.ofChange accrualBoundsSpec)

/-- ITS FALSE NEIGHBOUR: 'it returns false'. Refute it at one input. -/
def accrualBoundsWrong : ChangeSpec := { name := "accrualBounds", fn := fun _ => fun
  | [d1, d2, d3, d4, d5, d6] => { results := [.lit (.bool false)], args := [d1, d2, d3, d4, d5, d6] }
  | _ => none }
def AccrualBoundsWrongFalsely : Prop := accrualBoundsRow.holds Try.pinned (OpenSpec.ofChange accrualBoundsWrong)

/-- 'coveylaw15.AccrualSteady': WHATEVER THE INPUT: true; the input reads as it did. -/
def accrualSteadySpec : ChangeSpec := { name := "accrualSteady", fn := fun _ => fun
  | [d1, d2, d3, d4, d5] => { results := [.lit (.bool true)], args := [d1, d2, d3, d4, d5] }
  | _ => none }
def accrualSteadyRow : OpenClaim := { program := "ytbglghfdfigefaa", sum := "9f4d7c720e9ba8e0eef85905ee70620d5309f571014c320410c749a8ef015933", func := "covey/coveylaw15.AccrualSteady", spec := "accrualSteady", apart := false }
def AccrualSteadySaid : Prop := accrualSteadyRow.holds Try.pinned (OpenSpec.ofChange accrualSteadySpec)

/-- ITS FALSE NEIGHBOUR: 'it returns false'. Refute it at one input. -/
def accrualSteadyWrong : ChangeSpec := { name := "accrualSteady", fn := fun _ => fun
  | [d1, d2, d3, d4, d5] => { results := [.lit (.bool false)], args := [d1, d2, d3, d4, d5] }
  | _ => none }
def AccrualSteadyWrongFalsely : Prop := accrualSteadyRow.holds Try.pinned (OpenSpec.ofChange accrualSteadyWrong)

/-- 'coveylaw15.AccrualLater': WHATEVER THE INPUT: true; the input reads as it did. -/
def accrualLaterSpec : ChangeSpec := { name := "accrualLater", fn := fun _ => fun
  | [d1, d2, d3, d4, d5, d6] => { results := [.lit (.bool true)], args := [d1, d2, d3, d4, d5, d6] }
  | _ => none }
def accrualLaterRow : OpenClaim := { program := "ytbglghfdfigefaa", sum := "9f4d7c720e9ba8e0eef85905ee70620d5309f571014c320410c749a8ef015933", func := "covey/coveylaw15.AccrualLater", spec := "accrualLater", apart := false }
def AccrualLaterSaid : Prop := accrualLaterRow.holds Try.pinned (OpenSpec.ofChange accrualLaterSpec)

/-- ITS FALSE NEIGHBOUR: 'it returns false'. Refute it at one input. -/
def accrualLaterWrong : ChangeSpec := { name := "accrualLater", fn := fun _ => fun
  | [d1, d2, d3, d4, d5, d6] => { results := [.lit (.bool false)], args := [d1, d2, d3, d4, d5, d6] }
  | _ => none }
def AccrualLaterWrongFalsely : Prop := accrualLaterRow.holds Try.pinned (OpenSpec.ofChange accrualLaterWrong)

/-- 'coveylaw15.AccrualWindow': WHATEVER THE INPUT: true; the input reads as it did. -/
def accrualWindowSpec : ChangeSpec := { name := "accrualWindow", fn := fun _ => fun
  | [d1, d2, d3, d4, d5] => { results := [.lit (.bool true)], args := [d1, d2, d3, d4, d5] }
  | _ => none }
def accrualWindowRow : OpenClaim := { program := "ytbglghfdfigefaa", sum := "9f4d7c720e9ba8e0eef85905ee70620d5309f571014c320410c749a8ef015933", func := "covey/coveylaw15.AccrualWindow", spec := "accrualWindow", apart := false }
def AccrualWindowSaid : Prop := accrualWindowRow.holds Try.pinned (OpenSpec.ofChange accrualWindowSpec)

/-- ITS FALSE NEIGHBOUR: 'it returns false'. Refute it at one input. -/
def accrualWindowWrong : ChangeSpec := { name := "accrualWindow", fn := fun _ => fun
  | [d1, d2, d3, d4, d5] => { results := [.lit (.bool false)], args := [d1, d2, d3, d4, d5] }
  | _ => none }
def AccrualWindowWrongFalsely : Prop := accrualWindowRow.holds Try.pinned (OpenSpec.ofChange accrualWindowWrong)

/-- 'coveylaw15.AccrualCopies': WHATEVER THE INPUT: true; the input reads as it did. -/
def accrualCopiesSpec : ChangeSpec := { name := "accrualCopies", fn := fun _ => fun
  | [d1, d2, d3, d4, d5] => { results := [.lit (.bool true)], args := [d1, d2, d3, d4, d5] }
  | _ => none }
def accrualCopiesRow : OpenClaim := { program := "ytbglghfdfigefaa", sum := "9f4d7c720e9ba8e0eef85905ee70620d5309f571014c320410c749a8ef015933", func := "covey/coveylaw15.AccrualCopies", spec := "accrualCopies", apart := false }
def AccrualCopiesSaid : Prop := accrualCopiesRow.holds Try.pinned (OpenSpec.ofChange accrualCopiesSpec)

/-- ITS FALSE NEIGHBOUR: 'it returns false'. Refute it at one input. -/
def accrualCopiesWrong : ChangeSpec := { name := "accrualCopies", fn := fun _ => fun
  | [d1, d2, d3, d4, d5] => { results := [.lit (.bool false)], args := [d1, d2, d3, d4, d5] }
  | _ => none }
def AccrualCopiesWrongFalsely : Prop := accrualCopiesRow.holds Try.pinned (OpenSpec.ofChange accrualCopiesWrong)

/- THE SECOND FORM. 'bulk': how many values and letters a reading holds, each counted each time it is reached (what is shared counts as often as it is met; a slice's spare places count too). A statement '..UptoSaid' is the law's where the arguments, and the package variables that the reading takes, are together of bulk at most 1048576: NARROWER than '..Said'. Prove '..Said' where nothing that the law and all that it calls make is longer than what came in: it says more and counts as full. Else prove '..UptoSaid'. A law counts once. -/
mutual
def uptoBulk {H : Type} : DataW H → Nat
  | .lit (.string bytes) => bytes.length + 1
  | .lit _ => 1
  | .nil => 1
  | .ptr d => uptoBulk d + 1
  | .slice elems spare => uptoBulkAll elems + uptoBulkAll spare + 1
  | .agg parts => uptoBulkAll parts + 1
  | .iface _ d => uptoBulk d + 1
  | .map entries => uptoBulkEntries entries + 1
  | .held _ => 1
def uptoBulkAll {H : Type} : List (DataW H) → Nat
  | [] => 0
  | d :: r => uptoBulk d + uptoBulkAll r
def uptoBulkEntries {H : Type} : List (Lit × DataW H) → Nat
  | [] => 0
  | x :: r => uptoBulkEntry x + uptoBulkEntries r
def uptoBulkEntry {H : Type} : Lit × DataW H → Nat
  | (.string bytes, d) => bytes.length + uptoBulk d + 1
  | (_, d) => uptoBulk d + 1
 end
def uptoSmall : (H : Type) → List (DataW H) → Bool := fun _ ds => decide (uptoBulkAll ds ≤ 1048576)
def OpenSpec.upto (s : _root_.Go.ChangeSpec) : _root_.Go.OpenSpec := { _root_.Go.OpenSpec.ofChange s with cond := some uptoSmall }

/-- 'coveylaw15.AccrualNames', WHERE WHAT IT READS IS OF BULK AT MOST 1048576: true; the input reads as it did. -/
def accrualNamesUptoRow : OpenClaim := { program := "ytbglghfdfigefaa", sum := "9f4d7c720e9ba8e0eef85905ee70620d5309f571014c320410c749a8ef015933", func := "covey/coveylaw15.AccrualNames", spec := "accrualNames", apart := false, narrowed := true }
def AccrualNamesUptoSaid : Prop := accrualNamesUptoRow.holds Try.pinned (OpenSpec.upto accrualNamesSpec)

/-- 'coveylaw15.AccrualPlays', WHERE WHAT IT READS IS OF BULK AT MOST 1048576: true; the input reads as it did. -/
def accrualPlaysUptoRow : OpenClaim := { program := "ytbglghfdfigefaa", sum := "9f4d7c720e9ba8e0eef85905ee70620d5309f571014c320410c749a8ef015933", func := "covey/coveylaw15.AccrualPlays", spec := "accrualPlays", apart := false, narrowed := true }
def AccrualPlaysUptoSaid : Prop := accrualPlaysUptoRow.holds Try.pinned (OpenSpec.upto accrualPlaysSpec)

/-- 'coveylaw15.AccrualBounds', WHERE WHAT IT READS IS OF BULK AT MOST 1048576: true; the input reads as it did. -/
def accrualBoundsUptoRow : OpenClaim := { program := "ytbglghfdfigefaa", sum := "9f4d7c720e9ba8e0eef85905ee70620d5309f571014c320410c749a8ef015933", func := "covey/coveylaw15.AccrualBounds", spec := "accrualBounds", apart := false, narrowed := true }
def AccrualBoundsUptoSaid : Prop := accrualBoundsUptoRow.holds Try.pinned (OpenSpec.upto accrualBoundsSpec)

/-- 'coveylaw15.AccrualSteady', WHERE WHAT IT READS IS OF BULK AT MOST 1048576: true; the input reads as it did. -/
def accrualSteadyUptoRow : OpenClaim := { program := "ytbglghfdfigefaa", sum := "9f4d7c720e9ba8e0eef85905ee70620d5309f571014c320410c749a8ef015933", func := "covey/coveylaw15.AccrualSteady", spec := "accrualSteady", apart := false, narrowed := true }
def AccrualSteadyUptoSaid : Prop := accrualSteadyUptoRow.holds Try.pinned (OpenSpec.upto accrualSteadySpec)

/-- 'coveylaw15.AccrualLater', WHERE WHAT IT READS IS OF BULK AT MOST 1048576: true; the input reads as it did. -/
def accrualLaterUptoRow : OpenClaim := { program := "ytbglghfdfigefaa", sum := "9f4d7c720e9ba8e0eef85905ee70620d5309f571014c320410c749a8ef015933", func := "covey/coveylaw15.AccrualLater", spec := "accrualLater", apart := false, narrowed := true }
def AccrualLaterUptoSaid : Prop := accrualLaterUptoRow.holds Try.pinned (OpenSpec.upto accrualLaterSpec)

/-- 'coveylaw15.AccrualWindow', WHERE WHAT IT READS IS OF BULK AT MOST 1048576: true; the input reads as it did. -/
def accrualWindowUptoRow : OpenClaim := { program := "ytbglghfdfigefaa", sum := "9f4d7c720e9ba8e0eef85905ee70620d5309f571014c320410c749a8ef015933", func := "covey/coveylaw15.AccrualWindow", spec := "accrualWindow", apart := false, narrowed := true }
def AccrualWindowUptoSaid : Prop := accrualWindowUptoRow.holds Try.pinned (OpenSpec.upto accrualWindowSpec)

/-- 'coveylaw15.AccrualCopies', WHERE WHAT IT READS IS OF BULK AT MOST 1048576: true; the input reads as it did. -/
def accrualCopiesUptoRow : OpenClaim := { program := "ytbglghfdfigefaa", sum := "9f4d7c720e9ba8e0eef85905ee70620d5309f571014c320410c749a8ef015933", func := "covey/coveylaw15.AccrualCopies", spec := "accrualCopies", apart := false, narrowed := true }
def AccrualCopiesUptoSaid : Prop := accrualCopiesUptoRow.holds Try.pinned (OpenSpec.upto accrualCopiesSpec)

end Rows
end Go.Proofs.Ytbglghfdfigefaa
