/-
  No cell of these rows narrows 'for every input' (looked for: loops, veiled, ifaces, maps, wideKeys, modest, calm, conditions, laid).
  DERIVED. THE GIVEN ROWS OF THIS SEAT. 6 by the template 'for every input the law returns true; each argument reads behind the call as it read before'; 0 by the template 'total and deterministic' (their statements: YtciolhpkhblnbaaTotals.lean).
  GIVEN WITH THE SEED: the statements are not yours to turn. If you find one false, say at which input.
  Laid BY PROGRAM, IN A SANDBOX (cutbox-rows.mjs): the forced cells as the released guide's own fill.sh prints them over the translation 1fa085712ea4502e… (all of the seat's roots in one cut). By AI agents, Wed Nov 11 2026. No macro, syntax, notation, axiom, sorry.
-/
import Derived.Test.YtciolhpkhblnbaaChecked
import GoSem.Claim
import GoSem.ClaimJoined
import GoSem.ClaimMapViews
import Derived.JoinedTies
import Derived.KernelRfl
namespace Go.Proofs.Ytciolhpkhblnbaa
/- THE CELL 'sum', in the pinned program and in every row, IS THE sha256 OF THE DUMP (.gsa) THAT YtciolhpkhblnbaaProg.lean LOADS. Nothing in Lean hashes anything: it is a label: what it is worth is what the hold of that sum in a sandbox is worth. -/
noncomputable def Try.pinned : Pinned := { name := "ytciolhpkhblnbaa", sum := "1fa085712ea4502ee7ba5e1f88cc919adbf3d3471efae3ac5f36d14d6a25a585", checked := Try.checked }
namespace Rows
def none {H : Type} : Left H := { results := [], args := [] }

/-- 'coveylaw07.RosterNames': WHATEVER THE INPUT: true; the input reads as it did. -/
def rosterNamesSpec : ChangeSpec := { name := "rosterNames", fn := fun _ => fun
  | [] => { results := [.lit (.bool true)], args := [] }
  | _ => none }
def rosterNamesRow : OpenClaim := { program := "ytciolhpkhblnbaa", sum := "1fa085712ea4502ee7ba5e1f88cc919adbf3d3471efae3ac5f36d14d6a25a585", func := "covey/coveylaw07.RosterNames", spec := "rosterNames", unfollowed := true, recurses := true, apart := false }
def RosterNamesSaid : Prop := rosterNamesRow.holds Try.pinned (OpenSpec.ofChange rosterNamesSpec)

/-- ITS FALSE NEIGHBOUR: 'it returns false'. Refute it at one input. -/
def rosterNamesWrong : ChangeSpec := { name := "rosterNames", fn := fun _ => fun
  | [] => { results := [.lit (.bool false)], args := [] }
  | _ => none }
def RosterNamesWrongFalsely : Prop := rosterNamesRow.holds Try.pinned (OpenSpec.ofChange rosterNamesWrong)

/-- 'coveylaw07.RosterRow': WHATEVER THE INPUT: true; the input reads as it did. -/
def rosterRowSpec : ChangeSpec := { name := "rosterRow", fn := fun _ => fun
  | [d1, d2, d3] => { results := [.lit (.bool true)], args := [d1, d2, d3] }
  | _ => none }
def rosterRowRow : OpenClaim := { program := "ytciolhpkhblnbaa", sum := "1fa085712ea4502ee7ba5e1f88cc919adbf3d3471efae3ac5f36d14d6a25a585", func := "covey/coveylaw07.RosterRow", spec := "rosterRow", unfollowed := true, recurses := true, apart := false }
def RosterRowSaid : Prop := rosterRowRow.holds Try.pinned (OpenSpec.ofChange rosterRowSpec)

/-- ITS FALSE NEIGHBOUR: 'it returns false'. Refute it at one input. -/
def rosterRowWrong : ChangeSpec := { name := "rosterRow", fn := fun _ => fun
  | [d1, d2, d3] => { results := [.lit (.bool false)], args := [d1, d2, d3] }
  | _ => none }
def RosterRowWrongFalsely : Prop := rosterRowRow.holds Try.pinned (OpenSpec.ofChange rosterRowWrong)

/-- 'coveylaw07.RosterMay': WHATEVER THE INPUT: true; the input reads as it did. -/
def rosterMaySpec : ChangeSpec := { name := "rosterMay", fn := fun _ => fun
  | [d1, d2] => { results := [.lit (.bool true)], args := [d1, d2] }
  | _ => none }
def rosterMayRow : OpenClaim := { program := "ytciolhpkhblnbaa", sum := "1fa085712ea4502ee7ba5e1f88cc919adbf3d3471efae3ac5f36d14d6a25a585", func := "covey/coveylaw07.RosterMay", spec := "rosterMay", unfollowed := true, recurses := true, apart := false }
def RosterMaySaid : Prop := rosterMayRow.holds Try.pinned (OpenSpec.ofChange rosterMaySpec)

/-- ITS FALSE NEIGHBOUR: 'it returns false'. Refute it at one input. -/
def rosterMayWrong : ChangeSpec := { name := "rosterMay", fn := fun _ => fun
  | [d1, d2] => { results := [.lit (.bool false)], args := [d1, d2] }
  | _ => none }
def RosterMayWrongFalsely : Prop := rosterMayRow.holds Try.pinned (OpenSpec.ofChange rosterMayWrong)

/-- 'coveylaw07.RosterNever': WHATEVER THE INPUT: true; the input reads as it did. -/
def rosterNeverSpec : ChangeSpec := { name := "rosterNever", fn := fun _ => fun
  | [d1, d2, d3] => { results := [.lit (.bool true)], args := [d1, d2, d3] }
  | _ => none }
def rosterNeverRow : OpenClaim := { program := "ytciolhpkhblnbaa", sum := "1fa085712ea4502ee7ba5e1f88cc919adbf3d3471efae3ac5f36d14d6a25a585", func := "covey/coveylaw07.RosterNever", spec := "rosterNever", unfollowed := true, recurses := true, apart := false }
def RosterNeverSaid : Prop := rosterNeverRow.holds Try.pinned (OpenSpec.ofChange rosterNeverSpec)

/-- ITS FALSE NEIGHBOUR: 'it returns false'. Refute it at one input. -/
def rosterNeverWrong : ChangeSpec := { name := "rosterNever", fn := fun _ => fun
  | [d1, d2, d3] => { results := [.lit (.bool false)], args := [d1, d2, d3] }
  | _ => none }
def RosterNeverWrongFalsely : Prop := rosterNeverRow.holds Try.pinned (OpenSpec.ofChange rosterNeverWrong)

/-- 'coveylaw07.RosterLife': WHATEVER THE INPUT: true; the input reads as it did. -/
def rosterLifeSpec : ChangeSpec := { name := "rosterLife", fn := fun _ => fun
  | [d1, d2, d3] => { results := [.lit (.bool true)], args := [d1, d2, d3] }
  | _ => none }
def rosterLifeRow : OpenClaim := { program := "ytciolhpkhblnbaa", sum := "1fa085712ea4502ee7ba5e1f88cc919adbf3d3471efae3ac5f36d14d6a25a585", func := "covey/coveylaw07.RosterLife", spec := "rosterLife", unfollowed := true, recurses := true, apart := false }
def RosterLifeSaid : Prop := rosterLifeRow.holds Try.pinned (OpenSpec.ofChange rosterLifeSpec)

/-- ITS FALSE NEIGHBOUR: 'it returns false'. Refute it at one input. -/
def rosterLifeWrong : ChangeSpec := { name := "rosterLife", fn := fun _ => fun
  | [d1, d2, d3] => { results := [.lit (.bool false)], args := [d1, d2, d3] }
  | _ => none }
def RosterLifeWrongFalsely : Prop := rosterLifeRow.holds Try.pinned (OpenSpec.ofChange rosterLifeWrong)

/-- 'coveylaw07.RosterSet': WHATEVER THE INPUT: true; the input reads as it did. -/
def rosterSetSpec : ChangeSpec := { name := "rosterSet", fn := fun _ => fun
  | [d1, d2] => { results := [.lit (.bool true)], args := [d1, d2] }
  | _ => none }
def rosterSetRow : OpenClaim := { program := "ytciolhpkhblnbaa", sum := "1fa085712ea4502ee7ba5e1f88cc919adbf3d3471efae3ac5f36d14d6a25a585", func := "covey/coveylaw07.RosterSet", spec := "rosterSet", unfollowed := true, recurses := true, apart := false }
def RosterSetSaid : Prop := rosterSetRow.holds Try.pinned (OpenSpec.ofChange rosterSetSpec)

/-- ITS FALSE NEIGHBOUR: 'it returns false'. Refute it at one input. -/
def rosterSetWrong : ChangeSpec := { name := "rosterSet", fn := fun _ => fun
  | [d1, d2] => { results := [.lit (.bool false)], args := [d1, d2] }
  | _ => none }
def RosterSetWrongFalsely : Prop := rosterSetRow.holds Try.pinned (OpenSpec.ofChange rosterSetWrong)

/- THE SECOND FORM. 'bulk': how many values and letters a reading holds, each counted each time it is reached (what is shared counts as often as it is met; a slice's spare places count too). A statement '..UptoSaid' is the law's where the arguments, and the package variables that the reading takes, are together of bulk at most 1048576: NARROWER than '..Said'. Prove '..Said' where nothing that the law and all that it calls make is longer than what came in: it says more and counts as full. Else prove '..UptoSaid'. A law counts once. -/
mutual
def uptoBulk {H : Type} : DataW H → Nat
  | .lit (.string bytes) => bytes.length + 1
  | .lit _ => 1
  | .nil => 1
  | .ptr d => uptoBulk d + 1
  | .slice elems spare => uptoBulkAll elems + uptoBulkAll spare + 1
  | .agg parts => uptoBulkAll parts + 1
  | .iface _ d => uptoBulk d + 1
  | .map entries => uptoBulkEntries entries + 1
  | .held _ => 1
def uptoBulkAll {H : Type} : List (DataW H) → Nat
  | [] => 0
  | d :: r => uptoBulk d + uptoBulkAll r
def uptoBulkEntries {H : Type} : List (Lit × DataW H) → Nat
  | [] => 0
  | x :: r => uptoBulkEntry x + uptoBulkEntries r
def uptoBulkEntry {H : Type} : Lit × DataW H → Nat
  | (.string bytes, d) => bytes.length + uptoBulk d + 1
  | (_, d) => uptoBulk d + 1
 end
def uptoSmall : (H : Type) → List (DataW H) → Bool := fun _ ds => decide (uptoBulkAll ds ≤ 1048576)
def OpenSpec.upto (s : _root_.Go.ChangeSpec) : _root_.Go.OpenSpec := { _root_.Go.OpenSpec.ofChange s with cond := some uptoSmall }

/-- 'coveylaw07.RosterNames', WHERE WHAT IT READS IS OF BULK AT MOST 1048576: true; the input reads as it did. -/
def rosterNamesUptoRow : OpenClaim := { program := "ytciolhpkhblnbaa", sum := "1fa085712ea4502ee7ba5e1f88cc919adbf3d3471efae3ac5f36d14d6a25a585", func := "covey/coveylaw07.RosterNames", spec := "rosterNames", unfollowed := true, recurses := true, apart := false, narrowed := true }
def RosterNamesUptoSaid : Prop := rosterNamesUptoRow.holds Try.pinned (OpenSpec.upto rosterNamesSpec)

/-- 'coveylaw07.RosterRow', WHERE WHAT IT READS IS OF BULK AT MOST 1048576: true; the input reads as it did. -/
def rosterRowUptoRow : OpenClaim := { program := "ytciolhpkhblnbaa", sum := "1fa085712ea4502ee7ba5e1f88cc919adbf3d3471efae3ac5f36d14d6a25a585", func := "covey/coveylaw07.RosterRow", spec := "rosterRow", unfollowed := true, recurses := true, apart := false, narrowed := true }
def RosterRowUptoSaid : Prop := rosterRowUptoRow.holds Try.pinned (OpenSpec.upto rosterRowSpec)

/-- 'coveylaw07.RosterMay', WHERE WHAT IT READS IS OF BULK AT MOST 1048576: true; the input reads as it did. -/
def rosterMayUptoRow : OpenClaim := { program := "ytciolhpkhblnbaa", sum := "1fa085712ea4502ee7ba5e1f88cc919adbf3d3471efae3ac5f36d14d6a25a585", func := "covey/coveylaw07.RosterMay", spec := "rosterMay", unfollowed := true, recurses := true, apart := false, narrowed := true }
def RosterMayUptoSaid : Prop := rosterMayUptoRow.holds Try.pinned (OpenSpec.upto rosterMaySpec)

/-- 'coveylaw07.RosterNever', WHERE WHAT IT READS IS OF BULK AT MOST 1048576: true; the input reads as it did. -/
def rosterNeverUptoRow : OpenClaim := { program := "ytciolhpkhblnbaa", sum := "1fa085712ea4502ee7ba5e1f88cc919adbf3d3471efae3ac5f36d14d6a25a585", func := "covey/coveylaw07.RosterNever", spec := "rosterNever", unfollowed := true, recurses := true, apart := false, narrowed := true }
def RosterNeverUptoSaid : Prop := rosterNeverUptoRow.holds Try.pinned (OpenSpec.upto rosterNeverSpec)

/-- 'coveylaw07.RosterLife', WHERE WHAT IT READS IS OF BULK AT MOST 1048576: true; the input reads as it did. -/
def rosterLifeUptoRow : OpenClaim := { program := "ytciolhpkhblnbaa", sum := "1fa085712ea4502ee7ba5e1f88cc919adbf3d3471efae3ac5f36d14d6a25a585", func := "covey/coveylaw07.RosterLife", spec := "rosterLife", unfollowed := true, recurses := true, apart := false, narrowed := true }
def RosterLifeUptoSaid : Prop := rosterLifeUptoRow.holds Try.pinned (OpenSpec.upto rosterLifeSpec)

/-- 'coveylaw07.RosterSet', WHERE WHAT IT READS IS OF BULK AT MOST 1048576: true; the input reads as it did. -/
def rosterSetUptoRow : OpenClaim := { program := "ytciolhpkhblnbaa", sum := "1fa085712ea4502ee7ba5e1f88cc919adbf3d3471efae3ac5f36d14d6a25a585", func := "covey/coveylaw07.RosterSet", spec := "rosterSet", unfollowed := true, recurses := true, apart := false, narrowed := true }
def RosterSetUptoSaid : Prop := rosterSetUptoRow.holds Try.pinned (OpenSpec.upto rosterSetSpec)

end Rows
end Go.Proofs.Ytciolhpkhblnbaa
