/-
  No cell of these rows narrows 'for every input' (looked for: loops, veiled, ifaces, maps, wideKeys, modest, calm, conditions, laid).
  DERIVED. THE GIVEN ROWS OF THIS SEAT. 5 by the template 'for every input the law returns true; each argument reads behind the call as it read before'; 0 by the template 'total and deterministic' (their statements: YtkoeplgkiogjlaaTotals.lean).
  GIVEN WITH THE SEED: the statements are not yours to turn. If you find one false, say at which input.
  Laid BY PROGRAM, IN A SANDBOX (cutbox-rows.mjs): the forced cells as the released guide's own fill.sh prints them over the translation 3b424d44aba75636… (all of the seat's roots in one cut). By AI agents, Wed Nov 11 2026. No macro, syntax, notation, axiom, sorry.
-/
import Derived.Test.YtkoeplgkiogjlaaChecked
import GoSem.Claim
import GoSem.ClaimJoined
import GoSem.ClaimMapViews
import Derived.JoinedTies
import Derived.KernelRfl
namespace Go.Proofs.Ytkoeplgkiogjlaa
/- THE CELL 'sum', in the pinned program and in every row, IS THE sha256 OF THE DUMP (.gsa) THAT YtkoeplgkiogjlaaProg.lean LOADS. Nothing in Lean hashes anything: it is a label: what it is worth is what the hold of that sum in a sandbox is worth. -/
noncomputable def Try.pinned : Pinned := { name := "ytkoeplgkiogjlaa", sum := "3b424d44aba75636d8d9345166595475032b60b1a053e25ac2a6ac3c9473b6f3", checked := Try.checked }
namespace Rows
def none {H : Type} : Left H := { results := [], args := [] }

/-- 'coveylaw16.WatchPlays': WHATEVER THE INPUT: true; the input reads as it did. -/
def watchPlaysSpec : ChangeSpec := { name := "watchPlays", fn := fun _ => fun
  | [d1, d2, d3, d4] => { results := [.lit (.bool true)], args := [d1, d2, d3, d4] }
  | _ => none }
def watchPlaysRow : OpenClaim := { program := "ytkoeplgkiogjlaa", sum := "3b424d44aba75636d8d9345166595475032b60b1a053e25ac2a6ac3c9473b6f3", func := "covey/coveylaw16.WatchPlays", spec := "watchPlays", unfollowed := true, recurses := true, plainKeys := false, apart := false }
def WatchPlaysSaid : Prop := watchPlaysRow.holds Try.pinned (OpenSpec.ofChange watchPlaysSpec)

/-- ITS FALSE NEIGHBOUR: 'it returns false'. Refute it at one input. -/
def watchPlaysWrong : ChangeSpec := { name := "watchPlays", fn := fun _ => fun
  | [d1, d2, d3, d4] => { results := [.lit (.bool false)], args := [d1, d2, d3, d4] }
  | _ => none }
def WatchPlaysWrongFalsely : Prop := watchPlaysRow.holds Try.pinned (OpenSpec.ofChange watchPlaysWrong)

/-- 'coveylaw16.WatchNames': WHATEVER THE INPUT: true; the input reads as it did. -/
def watchNamesSpec : ChangeSpec := { name := "watchNames", fn := fun _ => fun
  | [] => { results := [.lit (.bool true)], args := [] }
  | _ => none }
def watchNamesRow : OpenClaim := { program := "ytkoeplgkiogjlaa", sum := "3b424d44aba75636d8d9345166595475032b60b1a053e25ac2a6ac3c9473b6f3", func := "covey/coveylaw16.WatchNames", spec := "watchNames", unfollowed := true, recurses := true, plainKeys := false, apart := false }
def WatchNamesSaid : Prop := watchNamesRow.holds Try.pinned (OpenSpec.ofChange watchNamesSpec)

/-- ITS FALSE NEIGHBOUR: 'it returns false'. Refute it at one input. -/
def watchNamesWrong : ChangeSpec := { name := "watchNames", fn := fun _ => fun
  | [] => { results := [.lit (.bool false)], args := [] }
  | _ => none }
def WatchNamesWrongFalsely : Prop := watchNamesRow.holds Try.pinned (OpenSpec.ofChange watchNamesWrong)

/-- 'coveylaw16.WatchTime': WHATEVER THE INPUT: true; the input reads as it did. -/
def watchTimeSpec : ChangeSpec := { name := "watchTime", fn := fun _ => fun
  | [d1, d2, d3, d4] => { results := [.lit (.bool true)], args := [d1, d2, d3, d4] }
  | _ => none }
def watchTimeRow : OpenClaim := { program := "ytkoeplgkiogjlaa", sum := "3b424d44aba75636d8d9345166595475032b60b1a053e25ac2a6ac3c9473b6f3", func := "covey/coveylaw16.WatchTime", spec := "watchTime", unfollowed := true, recurses := true, plainKeys := false, apart := false }
def WatchTimeSaid : Prop := watchTimeRow.holds Try.pinned (OpenSpec.ofChange watchTimeSpec)

/-- ITS FALSE NEIGHBOUR: 'it returns false'. Refute it at one input. -/
def watchTimeWrong : ChangeSpec := { name := "watchTime", fn := fun _ => fun
  | [d1, d2, d3, d4] => { results := [.lit (.bool false)], args := [d1, d2, d3, d4] }
  | _ => none }
def WatchTimeWrongFalsely : Prop := watchTimeRow.holds Try.pinned (OpenSpec.ofChange watchTimeWrong)

/-- 'coveylaw16.WatchApart': WHATEVER THE INPUT: true; the input reads as it did. -/
def watchApartSpec : ChangeSpec := { name := "watchApart", fn := fun _ => fun
  | [d1, d2, d3, d4, d5, d6] => { results := [.lit (.bool true)], args := [d1, d2, d3, d4, d5, d6] }
  | _ => none }
def watchApartRow : OpenClaim := { program := "ytkoeplgkiogjlaa", sum := "3b424d44aba75636d8d9345166595475032b60b1a053e25ac2a6ac3c9473b6f3", func := "covey/coveylaw16.WatchApart", spec := "watchApart", unfollowed := true, recurses := true, plainKeys := false, apart := false }
def WatchApartSaid : Prop := watchApartRow.holds Try.pinned (OpenSpec.ofChange watchApartSpec)

/-- ITS FALSE NEIGHBOUR: 'it returns false'. Refute it at one input. -/
def watchApartWrong : ChangeSpec := { name := "watchApart", fn := fun _ => fun
  | [d1, d2, d3, d4, d5, d6] => { results := [.lit (.bool false)], args := [d1, d2, d3, d4, d5, d6] }
  | _ => none }
def WatchApartWrongFalsely : Prop := watchApartRow.holds Try.pinned (OpenSpec.ofChange watchApartWrong)

/-- 'coveylaw16.WatchNew': WHATEVER THE INPUT: true; the input reads as it did. -/
def watchNewSpec : ChangeSpec := { name := "watchNew", fn := fun _ => fun
  | [d1, d2, d3, d4, d5, d6] => { results := [.lit (.bool true)], args := [d1, d2, d3, d4, d5, d6] }
  | _ => none }
def watchNewRow : OpenClaim := { program := "ytkoeplgkiogjlaa", sum := "3b424d44aba75636d8d9345166595475032b60b1a053e25ac2a6ac3c9473b6f3", func := "covey/coveylaw16.WatchNew", spec := "watchNew", unfollowed := true, recurses := true, plainKeys := false, apart := false }
def WatchNewSaid : Prop := watchNewRow.holds Try.pinned (OpenSpec.ofChange watchNewSpec)

/-- ITS FALSE NEIGHBOUR: 'it returns false'. Refute it at one input. -/
def watchNewWrong : ChangeSpec := { name := "watchNew", fn := fun _ => fun
  | [d1, d2, d3, d4, d5, d6] => { results := [.lit (.bool false)], args := [d1, d2, d3, d4, d5, d6] }
  | _ => none }
def WatchNewWrongFalsely : Prop := watchNewRow.holds Try.pinned (OpenSpec.ofChange watchNewWrong)

/- THE SECOND FORM. 'bulk': how many values and letters a reading holds, each counted each time it is reached (what is shared counts as often as it is met; a slice's spare places count too). A statement '..UptoSaid' is the law's where the arguments, and the package variables that the reading takes, are together of bulk at most 1048576: NARROWER than '..Said'. Prove '..Said' where nothing that the law and all that it calls make is longer than what came in: it says more and counts as full. Else prove '..UptoSaid'. A law counts once. -/
mutual
def uptoBulk {H : Type} : DataW H → Nat
  | .lit (.string bytes) => bytes.length + 1
  | .lit _ => 1
  | .nil => 1
  | .ptr d => uptoBulk d + 1
  | .slice elems spare => uptoBulkAll elems + uptoBulkAll spare + 1
  | .agg parts => uptoBulkAll parts + 1
  | .iface _ d => uptoBulk d + 1
  | .map entries => uptoBulkEntries entries + 1
  | .held _ => 1
def uptoBulkAll {H : Type} : List (DataW H) → Nat
  | [] => 0
  | d :: r => uptoBulk d + uptoBulkAll r
def uptoBulkEntries {H : Type} : List (Lit × DataW H) → Nat
  | [] => 0
  | x :: r => uptoBulkEntry x + uptoBulkEntries r
def uptoBulkEntry {H : Type} : Lit × DataW H → Nat
  | (.string bytes, d) => bytes.length + uptoBulk d + 1
  | (_, d) => uptoBulk d + 1
 end
def uptoSmall : (H : Type) → List (DataW H) → Bool := fun _ ds => decide (uptoBulkAll ds ≤ 1048576)
def OpenSpec.upto (s : _root_.Go.ChangeSpec) : _root_.Go.OpenSpec := { _root_.Go.OpenSpec.ofChange s with cond := some uptoSmall }

/-- 'coveylaw16.WatchPlays', WHERE WHAT IT READS IS OF BULK AT MOST 1048576: true; the input reads as it did. -/
def watchPlaysUptoRow : OpenClaim := { program := "ytkoeplgkiogjlaa", sum := "3b424d44aba75636d8d9345166595475032b60b1a053e25ac2a6ac3c9473b6f3", func := "covey/coveylaw16.WatchPlays", spec := "watchPlays", unfollowed := true, recurses := true, plainKeys := false, apart := false, narrowed := true }
def WatchPlaysUptoSaid : Prop := watchPlaysUptoRow.holds Try.pinned (OpenSpec.upto watchPlaysSpec)

/-- 'coveylaw16.WatchNames', WHERE WHAT IT READS IS OF BULK AT MOST 1048576: true; the input reads as it did. -/
def watchNamesUptoRow : OpenClaim := { program := "ytkoeplgkiogjlaa", sum := "3b424d44aba75636d8d9345166595475032b60b1a053e25ac2a6ac3c9473b6f3", func := "covey/coveylaw16.WatchNames", spec := "watchNames", unfollowed := true, recurses := true, plainKeys := false, apart := false, narrowed := true }
def WatchNamesUptoSaid : Prop := watchNamesUptoRow.holds Try.pinned (OpenSpec.upto watchNamesSpec)

/-- 'coveylaw16.WatchTime', WHERE WHAT IT READS IS OF BULK AT MOST 1048576: true; the input reads as it did. -/
def watchTimeUptoRow : OpenClaim := { program := "ytkoeplgkiogjlaa", sum := "3b424d44aba75636d8d9345166595475032b60b1a053e25ac2a6ac3c9473b6f3", func := "covey/coveylaw16.WatchTime", spec := "watchTime", unfollowed := true, recurses := true, plainKeys := false, apart := false, narrowed := true }
def WatchTimeUptoSaid : Prop := watchTimeUptoRow.holds Try.pinned (OpenSpec.upto watchTimeSpec)

/-- 'coveylaw16.WatchApart', WHERE WHAT IT READS IS OF BULK AT MOST 1048576: true; the input reads as it did. -/
def watchApartUptoRow : OpenClaim := { program := "ytkoeplgkiogjlaa", sum := "3b424d44aba75636d8d9345166595475032b60b1a053e25ac2a6ac3c9473b6f3", func := "covey/coveylaw16.WatchApart", spec := "watchApart", unfollowed := true, recurses := true, plainKeys := false, apart := false, narrowed := true }
def WatchApartUptoSaid : Prop := watchApartUptoRow.holds Try.pinned (OpenSpec.upto watchApartSpec)

/-- 'coveylaw16.WatchNew', WHERE WHAT IT READS IS OF BULK AT MOST 1048576: true; the input reads as it did. -/
def watchNewUptoRow : OpenClaim := { program := "ytkoeplgkiogjlaa", sum := "3b424d44aba75636d8d9345166595475032b60b1a053e25ac2a6ac3c9473b6f3", func := "covey/coveylaw16.WatchNew", spec := "watchNew", unfollowed := true, recurses := true, plainKeys := false, apart := false, narrowed := true }
def WatchNewUptoSaid : Prop := watchNewUptoRow.holds Try.pinned (OpenSpec.upto watchNewSpec)

end Rows
end Go.Proofs.Ytkoeplgkiogjlaa
