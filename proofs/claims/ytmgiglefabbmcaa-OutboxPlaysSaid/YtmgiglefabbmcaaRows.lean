/-
  No cell of these rows narrows 'for every input' (looked for: loops, veiled, ifaces, maps, wideKeys, modest, calm, conditions, laid).
  DERIVED. THE GIVEN ROWS OF THIS SEAT. 6 by the template 'for every input the law returns true; each argument reads behind the call as it read before'; 0 by the template 'total and deterministic' (their statements: YtmgiglefabbmcaaTotals.lean).
  GIVEN WITH THE SEED: the statements are not yours to turn. If you find one false, say at which input.
  Laid BY PROGRAM, IN A SANDBOX (cutbox-rows.mjs): the forced cells as the released guide's own fill.sh prints them over the translation ae6694b1a6f88397… (all of the seat's roots in one cut). By AI agents, Wed Nov 11 2026. No macro, syntax, notation, axiom, sorry.
-/
import Derived.Test.YtmgiglefabbmcaaChecked
import GoSem.Claim
import GoSem.ClaimJoined
import GoSem.ClaimMapViews
import Derived.JoinedTies
import Derived.KernelRfl
namespace Go.Proofs.Ytmgiglefabbmcaa
/- THE CELL 'sum', in the pinned program and in every row, IS THE sha256 OF THE DUMP (.gsa) THAT YtmgiglefabbmcaaProg.lean LOADS. Nothing in Lean hashes anything: it is a label: what it is worth is what the hold of that sum in a sandbox is worth. -/
noncomputable def Try.pinned : Pinned := { name := "ytmgiglefabbmcaa", sum := "ae6694b1a6f883976d1c1554e811a7480482566e1015962807b56f7db73a1bf6", checked := Try.checked }
namespace Rows
def none {H : Type} : Left H := { results := [], args := [] }

/-- 'coveylaw13.OutboxNames': WHATEVER THE INPUT: true; the input reads as it did. -/
def outboxNamesSpec : ChangeSpec := { name := "outboxNames", fn := fun _ => fun
  | [] => { results := [.lit (.bool true)], args := [] }
  | _ => none }
def outboxNamesRow : OpenClaim := { program := "ytmgiglefabbmcaa", sum := "ae6694b1a6f883976d1c1554e811a7480482566e1015962807b56f7db73a1bf6", func := "covey/coveylaw13.OutboxNames", spec := "outboxNames", unfollowed := true, recurses := true, apart := false }
def OutboxNamesSaid : Prop := outboxNamesRow.holds Try.pinned (OpenSpec.ofChange outboxNamesSpec)

/-- ITS FALSE NEIGHBOUR: 'it returns false'. Refute it at one input. -/
def outboxNamesWrong : ChangeSpec := { name := "outboxNames", fn := fun _ => fun
  | [] => { results := [.lit (.bool false)], args := [] }
  | _ => none }
def OutboxNamesWrongFalsely : Prop := outboxNamesRow.holds Try.pinned (OpenSpec.ofChange outboxNamesWrong)

/-- 'coveylaw13.OutboxPlays': WHATEVER THE INPUT: true; the input reads as it did. -/
def outboxPlaysSpec : ChangeSpec := { name := "outboxPlays", fn := fun _ => fun
  | [d1, d2] => { results := [.lit (.bool true)], args := [d1, d2] }
  | _ => none }
def outboxPlaysRow : OpenClaim := { program := "ytmgiglefabbmcaa", sum := "ae6694b1a6f883976d1c1554e811a7480482566e1015962807b56f7db73a1bf6", func := "covey/coveylaw13.OutboxPlays", spec := "outboxPlays", unfollowed := true, recurses := true, apart := false }
def OutboxPlaysSaid : Prop := outboxPlaysRow.holds Try.pinned (OpenSpec.ofChange outboxPlaysSpec)

/-- ITS FALSE NEIGHBOUR: 'it returns false'. Refute it at one input. -/
def outboxPlaysWrong : ChangeSpec := { name := "outboxPlays", fn := fun _ => fun
  | [d1, d2] => { results := [.lit (.bool false)], args := [d1, d2] }
  | _ => none }
def OutboxPlaysWrongFalsely : Prop := outboxPlaysRow.holds Try.pinned (OpenSpec.ofChange outboxPlaysWrong)

/-- 'coveylaw13.OutboxRow': WHATEVER THE INPUT: true; the input reads as it did. -/
def outboxRowSpec : ChangeSpec := { name := "outboxRow", fn := fun _ => fun
  | [d1, d2, d3] => { results := [.lit (.bool true)], args := [d1, d2, d3] }
  | _ => none }
def outboxRowRow : OpenClaim := { program := "ytmgiglefabbmcaa", sum := "ae6694b1a6f883976d1c1554e811a7480482566e1015962807b56f7db73a1bf6", func := "covey/coveylaw13.OutboxRow", spec := "outboxRow", unfollowed := true, recurses := true, apart := false }
def OutboxRowSaid : Prop := outboxRowRow.holds Try.pinned (OpenSpec.ofChange outboxRowSpec)

/-- ITS FALSE NEIGHBOUR: 'it returns false'. Refute it at one input. -/
def outboxRowWrong : ChangeSpec := { name := "outboxRow", fn := fun _ => fun
  | [d1, d2, d3] => { results := [.lit (.bool false)], args := [d1, d2, d3] }
  | _ => none }
def OutboxRowWrongFalsely : Prop := outboxRowRow.holds Try.pinned (OpenSpec.ofChange outboxRowWrong)

/-- 'coveylaw13.OutboxStays': WHATEVER THE INPUT: true; the input reads as it did. -/
def outboxStaysSpec : ChangeSpec := { name := "outboxStays", fn := fun _ => fun
  | [d1, d2] => { results := [.lit (.bool true)], args := [d1, d2] }
  | _ => none }
def outboxStaysRow : OpenClaim := { program := "ytmgiglefabbmcaa", sum := "ae6694b1a6f883976d1c1554e811a7480482566e1015962807b56f7db73a1bf6", func := "covey/coveylaw13.OutboxStays", spec := "outboxStays", unfollowed := true, recurses := true, apart := false }
def OutboxStaysSaid : Prop := outboxStaysRow.holds Try.pinned (OpenSpec.ofChange outboxStaysSpec)

/-- ITS FALSE NEIGHBOUR: 'it returns false'. Refute it at one input. -/
def outboxStaysWrong : ChangeSpec := { name := "outboxStays", fn := fun _ => fun
  | [d1, d2] => { results := [.lit (.bool false)], args := [d1, d2] }
  | _ => none }
def OutboxStaysWrongFalsely : Prop := outboxStaysRow.holds Try.pinned (OpenSpec.ofChange outboxStaysWrong)

/-- 'coveylaw13.OutboxLast': WHATEVER THE INPUT: true; the input reads as it did. -/
def outboxLastSpec : ChangeSpec := { name := "outboxLast", fn := fun _ => fun
  | [d1, d2] => { results := [.lit (.bool true)], args := [d1, d2] }
  | _ => none }
def outboxLastRow : OpenClaim := { program := "ytmgiglefabbmcaa", sum := "ae6694b1a6f883976d1c1554e811a7480482566e1015962807b56f7db73a1bf6", func := "covey/coveylaw13.OutboxLast", spec := "outboxLast", unfollowed := true, recurses := true, apart := false }
def OutboxLastSaid : Prop := outboxLastRow.holds Try.pinned (OpenSpec.ofChange outboxLastSpec)

/-- ITS FALSE NEIGHBOUR: 'it returns false'. Refute it at one input. -/
def outboxLastWrong : ChangeSpec := { name := "outboxLast", fn := fun _ => fun
  | [d1, d2] => { results := [.lit (.bool false)], args := [d1, d2] }
  | _ => none }
def OutboxLastWrongFalsely : Prop := outboxLastRow.holds Try.pinned (OpenSpec.ofChange outboxLastWrong)

/-- 'coveylaw13.OutboxCopies': WHATEVER THE INPUT: true; the input reads as it did. -/
def outboxCopiesSpec : ChangeSpec := { name := "outboxCopies", fn := fun _ => fun
  | [d1, d2, d3] => { results := [.lit (.bool true)], args := [d1, d2, d3] }
  | _ => none }
def outboxCopiesRow : OpenClaim := { program := "ytmgiglefabbmcaa", sum := "ae6694b1a6f883976d1c1554e811a7480482566e1015962807b56f7db73a1bf6", func := "covey/coveylaw13.OutboxCopies", spec := "outboxCopies", unfollowed := true, recurses := true, apart := false }
def OutboxCopiesSaid : Prop := outboxCopiesRow.holds Try.pinned (OpenSpec.ofChange outboxCopiesSpec)

/-- ITS FALSE NEIGHBOUR: 'it returns false'. Refute it at one input. -/
def outboxCopiesWrong : ChangeSpec := { name := "outboxCopies", fn := fun _ => fun
  | [d1, d2, d3] => { results := [.lit (.bool false)], args := [d1, d2, d3] }
  | _ => none }
def OutboxCopiesWrongFalsely : Prop := outboxCopiesRow.holds Try.pinned (OpenSpec.ofChange outboxCopiesWrong)

/- THE SECOND FORM. 'bulk': how many values and letters a reading holds, each counted each time it is reached (what is shared counts as often as it is met; a slice's spare places count too). A statement '..UptoSaid' is the law's where the arguments, and the package variables that the reading takes, are together of bulk at most 1048576: NARROWER than '..Said'. Prove '..Said' where nothing that the law and all that it calls make is longer than what came in: it says more and counts as full. Else prove '..UptoSaid'. A law counts once. -/
mutual
def uptoBulk {H : Type} : DataW H → Nat
  | .lit (.string bytes) => bytes.length + 1
  | .lit _ => 1
  | .nil => 1
  | .ptr d => uptoBulk d + 1
  | .slice elems spare => uptoBulkAll elems + uptoBulkAll spare + 1
  | .agg parts => uptoBulkAll parts + 1
  | .iface _ d => uptoBulk d + 1
  | .map entries => uptoBulkEntries entries + 1
  | .held _ => 1
def uptoBulkAll {H : Type} : List (DataW H) → Nat
  | [] => 0
  | d :: r => uptoBulk d + uptoBulkAll r
def uptoBulkEntries {H : Type} : List (Lit × DataW H) → Nat
  | [] => 0
  | x :: r => uptoBulkEntry x + uptoBulkEntries r
def uptoBulkEntry {H : Type} : Lit × DataW H → Nat
  | (.string bytes, d) => bytes.length + uptoBulk d + 1
  | (_, d) => uptoBulk d + 1
 end
def uptoSmall : (H : Type) → List (DataW H) → Bool := fun _ ds => decide (uptoBulkAll ds ≤ 1048576)
def OpenSpec.upto (s : _root_.Go.ChangeSpec) : _root_.Go.OpenSpec := { _root_.Go.OpenSpec.ofChange s with cond := some uptoSmall }

/-- 'coveylaw13.OutboxNames', WHERE WHAT IT READS IS OF BULK AT MOST 1048576: true; the input reads as it did. -/
def outboxNamesUptoRow : OpenClaim := { program := "ytmgiglefabbmcaa", sum := "ae6694b1a6f883976d1c1554e811a7480482566e1015962807b56f7db73a1bf6", func := "covey/coveylaw13.OutboxNames", spec := "outboxNames", unfollowed := true, recurses := true, apart := false, narrowed := true }
def OutboxNamesUptoSaid : Prop := outboxNamesUptoRow.holds Try.pinned (OpenSpec.upto outboxNamesSpec)

/-- 'coveylaw13.OutboxPlays', WHERE WHAT IT READS IS OF BULK AT MOST 1048576: true; the input reads as it did. -/
def outboxPlaysUptoRow : OpenClaim := { program := "ytmgiglefabbmcaa", sum := "ae6694b1a6f883976d1c1554e811a7480482566e1015962807b56f7db73a1bf6", func := "covey/coveylaw13.OutboxPlays", spec := "outboxPlays", unfollowed := true, recurses := true, apart := false, narrowed := true }
def OutboxPlaysUptoSaid : Prop := outboxPlaysUptoRow.holds Try.pinned (OpenSpec.upto outboxPlaysSpec)

/-- 'coveylaw13.OutboxRow', WHERE WHAT IT READS IS OF BULK AT MOST 1048576: true; the input reads as it did. -/
def outboxRowUptoRow : OpenClaim := { program := "ytmgiglefabbmcaa", sum := "ae6694b1a6f883976d1c1554e811a7480482566e1015962807b56f7db73a1bf6", func := "covey/coveylaw13.OutboxRow", spec := "outboxRow", unfollowed := true, recurses := true, apart := false, narrowed := true }
def OutboxRowUptoSaid : Prop := outboxRowUptoRow.holds Try.pinned (OpenSpec.upto outboxRowSpec)

/-- 'coveylaw13.OutboxStays', WHERE WHAT IT READS IS OF BULK AT MOST 1048576: true; the input reads as it did. -/
def outboxStaysUptoRow : OpenClaim := { program := "ytmgiglefabbmcaa", sum := "ae6694b1a6f883976d1c1554e811a7480482566e1015962807b56f7db73a1bf6", func := "covey/coveylaw13.OutboxStays", spec := "outboxStays", unfollowed := true, recurses := true, apart := false, narrowed := true }
def OutboxStaysUptoSaid : Prop := outboxStaysUptoRow.holds Try.pinned (OpenSpec.upto outboxStaysSpec)

/-- 'coveylaw13.OutboxLast', WHERE WHAT IT READS IS OF BULK AT MOST 1048576: true; the input reads as it did. -/
def outboxLastUptoRow : OpenClaim := { program := "ytmgiglefabbmcaa", sum := "ae6694b1a6f883976d1c1554e811a7480482566e1015962807b56f7db73a1bf6", func := "covey/coveylaw13.OutboxLast", spec := "outboxLast", unfollowed := true, recurses := true, apart := false, narrowed := true }
def OutboxLastUptoSaid : Prop := outboxLastUptoRow.holds Try.pinned (OpenSpec.upto outboxLastSpec)

/-- 'coveylaw13.OutboxCopies', WHERE WHAT IT READS IS OF BULK AT MOST 1048576: true; the input reads as it did. -/
def outboxCopiesUptoRow : OpenClaim := { program := "ytmgiglefabbmcaa", sum := "ae6694b1a6f883976d1c1554e811a7480482566e1015962807b56f7db73a1bf6", func := "covey/coveylaw13.OutboxCopies", spec := "outboxCopies", unfollowed := true, recurses := true, apart := false, narrowed := true }
def OutboxCopiesUptoSaid : Prop := outboxCopiesUptoRow.holds Try.pinned (OpenSpec.upto outboxCopiesSpec)

end Rows
end Go.Proofs.Ytmgiglefabbmcaa
