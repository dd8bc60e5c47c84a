/-
  NARROWER THAN 'FOR EVERY INPUT', by the rows' own cells (each row's printed sentence says how): AgreeNames: laid · AgreeTells: laid · AgreeSame: laid · AgreeAll: laid · AgreeLeads: laid · AgreeRows: laid · AgreeParts: laid.
  DERIVED. THE GIVEN ROWS OF THIS SEAT. 7 by the template 'for every input the law returns true; each argument reads behind the call as it read before'; 0 by the template 'total and deterministic' (their statements: YtloghkiabgnpnaaDoorTotals.lean).
  GIVEN WITH THE SEED: the statements are not yours to turn. If you find one false, say at which input.
  Laid BY PROGRAM, IN A SANDBOX (cutbox-rows.mjs): the forced cells as the released guide's own fill.sh prints them over the translation cebaed8133f83d25… (all of the seat's roots in one cut). By AI agents, Wed Nov 11 2026. No macro, syntax, notation, axiom, sorry.
-/
import Derived.Test.YtloghkiabgnpnaaDoorChecked
import GoSem.Claim
import GoSem.ClaimJoined
import GoSem.ClaimMapViews
import Derived.JoinedTies
import Derived.KernelRfl
namespace Go.Proofs.YtloghkiabgnpnaaDoor
/- THE CELL 'sum', in the pinned program and in every row, IS THE sha256 OF THE DUMP (.gsa) THAT YtloghkiabgnpnaaDoorProg.lean LOADS. Nothing in Lean hashes anything: it is a label: what it is worth is what the hold of that sum in a sandbox is worth. -/
noncomputable def Tryd.pinned : Pinned := { name := "ytloghkiabgnpnaadoor", sum := "cebaed8133f83d25dfc3d481fd3527be7a839d91ca6e9ed653bdfc62b9ba04e5", checked := Tryd.checked }
namespace Rows
def none {H : Type} : Left H := { results := [], args := [] }

/- WHAT THE LISTED PACKAGE-LEVEL VARIABLES READ AS WHEN THE CALL BEGINS. Each datum BY PROGRAM (the guide's laid-datum.mjs) off the statement by which the dump's own 'gosem.cut.vars' lays the variable. In a bare row this is a premise. The card (YtloghkiabgnpnaaDoorCards.lean) ties it to the program's text. -/
def laid_covey_agree_ranks {H : Type} : DataW H := .agg [.agg [.lit (.int .u8 3), .lit (.int .u8 4)], .agg [.lit (.int .u8 2), .lit (.int .u8 2)], .agg [.lit (.int .u8 1), .lit (.int .u8 1)]]

/-- 'coveylaw09.AgreeNames': WHATEVER THE INPUT: true; the input reads as it did. -/
def agreeNamesSpec : ChangeSpec := { name := "agreeNames", fn := fun _ => fun
  | [] => { results := [.lit (.bool true)], args := [] }
  | _ => none }
def agreeNamesRow : OpenClaim := { program := "ytloghkiabgnpnaadoor", sum := "cebaed8133f83d25dfc3d481fd3527be7a839d91ca6e9ed653bdfc62b9ba04e5", func := "covey/coveylaw09.AgreeNames", spec := "agreeNames", unfollowed := true, recurses := true, named := ["covey/agree.ranks"], apart := false, laid := [("covey/agree.ranks", laid_covey_agree_ranks)] }
def AgreeNamesSaid : Prop := agreeNamesRow.holds Tryd.pinned (OpenSpec.ofChange agreeNamesSpec)

/-- ITS FALSE NEIGHBOUR: 'it returns false'. Refute it at one input. -/
def agreeNamesWrong : ChangeSpec := { name := "agreeNames", fn := fun _ => fun
  | [] => { results := [.lit (.bool false)], args := [] }
  | _ => none }
def AgreeNamesWrongFalsely : Prop := agreeNamesRow.holds Tryd.pinned (OpenSpec.ofChange agreeNamesWrong)

/-- 'coveylaw09.AgreeTells': WHATEVER THE INPUT: true; the input reads as it did. -/
def agreeTellsSpec : ChangeSpec := { name := "agreeTells", fn := fun _ => fun
  | [d1, d2] => { results := [.lit (.bool true)], args := [d1, d2] }
  | _ => none }
def agreeTellsRow : OpenClaim := { program := "ytloghkiabgnpnaadoor", sum := "cebaed8133f83d25dfc3d481fd3527be7a839d91ca6e9ed653bdfc62b9ba04e5", func := "covey/coveylaw09.AgreeTells", spec := "agreeTells", unfollowed := true, recurses := true, named := ["covey/agree.ranks"], apart := false, laid := [("covey/agree.ranks", laid_covey_agree_ranks)] }
def AgreeTellsSaid : Prop := agreeTellsRow.holds Tryd.pinned (OpenSpec.ofChange agreeTellsSpec)

/-- ITS FALSE NEIGHBOUR: 'it returns false'. Refute it at one input. -/
def agreeTellsWrong : ChangeSpec := { name := "agreeTells", fn := fun _ => fun
  | [d1, d2] => { results := [.lit (.bool false)], args := [d1, d2] }
  | _ => none }
def AgreeTellsWrongFalsely : Prop := agreeTellsRow.holds Tryd.pinned (OpenSpec.ofChange agreeTellsWrong)

/-- 'coveylaw09.AgreeSame': WHATEVER THE INPUT: true; the input reads as it did. -/
def agreeSameSpec : ChangeSpec := { name := "agreeSame", fn := fun _ => fun
  | [d1, d2] => { results := [.lit (.bool true)], args := [d1, d2] }
  | _ => none }
def agreeSameRow : OpenClaim := { program := "ytloghkiabgnpnaadoor", sum := "cebaed8133f83d25dfc3d481fd3527be7a839d91ca6e9ed653bdfc62b9ba04e5", func := "covey/coveylaw09.AgreeSame", spec := "agreeSame", unfollowed := true, recurses := true, named := ["covey/agree.ranks"], apart := false, laid := [("covey/agree.ranks", laid_covey_agree_ranks)] }
def AgreeSameSaid : Prop := agreeSameRow.holds Tryd.pinned (OpenSpec.ofChange agreeSameSpec)

/-- ITS FALSE NEIGHBOUR: 'it returns false'. Refute it at one input. -/
def agreeSameWrong : ChangeSpec := { name := "agreeSame", fn := fun _ => fun
  | [d1, d2] => { results := [.lit (.bool false)], args := [d1, d2] }
  | _ => none }
def AgreeSameWrongFalsely : Prop := agreeSameRow.holds Tryd.pinned (OpenSpec.ofChange agreeSameWrong)

/-- 'coveylaw09.AgreeAll': WHATEVER THE INPUT: true; the input reads as it did. -/
def agreeAllSpec : ChangeSpec := { name := "agreeAll", fn := fun _ => fun
  | [d] => { results := [.lit (.bool true)], args := [d] }
  | _ => none }
def agreeAllRow : OpenClaim := { program := "ytloghkiabgnpnaadoor", sum := "cebaed8133f83d25dfc3d481fd3527be7a839d91ca6e9ed653bdfc62b9ba04e5", func := "covey/coveylaw09.AgreeAll", spec := "agreeAll", unfollowed := true, recurses := true, named := ["covey/agree.ranks"], apart := false, laid := [("covey/agree.ranks", laid_covey_agree_ranks)] }
def AgreeAllSaid : Prop := agreeAllRow.holds Tryd.pinned (OpenSpec.ofChange agreeAllSpec)

/-- ITS FALSE NEIGHBOUR: 'it returns false'. Refute it at one input. -/
def agreeAllWrong : ChangeSpec := { name := "agreeAll", fn := fun _ => fun
  | [d] => { results := [.lit (.bool false)], args := [d] }
  | _ => none }
def AgreeAllWrongFalsely : Prop := agreeAllRow.holds Tryd.pinned (OpenSpec.ofChange agreeAllWrong)

/-- 'coveylaw09.AgreeLeads': WHATEVER THE INPUT: true; the input reads as it did. -/
def agreeLeadsSpec : ChangeSpec := { name := "agreeLeads", fn := fun _ => fun
  | [d] => { results := [.lit (.bool true)], args := [d] }
  | _ => none }
def agreeLeadsRow : OpenClaim := { program := "ytloghkiabgnpnaadoor", sum := "cebaed8133f83d25dfc3d481fd3527be7a839d91ca6e9ed653bdfc62b9ba04e5", func := "covey/coveylaw09.AgreeLeads", spec := "agreeLeads", unfollowed := true, recurses := true, named := ["covey/agree.ranks"], apart := false, laid := [("covey/agree.ranks", laid_covey_agree_ranks)] }
def AgreeLeadsSaid : Prop := agreeLeadsRow.holds Tryd.pinned (OpenSpec.ofChange agreeLeadsSpec)

/-- ITS FALSE NEIGHBOUR: 'it returns false'. Refute it at one input. -/
def agreeLeadsWrong : ChangeSpec := { name := "agreeLeads", fn := fun _ => fun
  | [d] => { results := [.lit (.bool false)], args := [d] }
  | _ => none }
def AgreeLeadsWrongFalsely : Prop := agreeLeadsRow.holds Tryd.pinned (OpenSpec.ofChange agreeLeadsWrong)

/-- 'coveylaw09.AgreeRows': WHATEVER THE INPUT: true; the input reads as it did. -/
def agreeRowsSpec : ChangeSpec := { name := "agreeRows", fn := fun _ => fun
  | [d1, d2, d3] => { results := [.lit (.bool true)], args := [d1, d2, d3] }
  | _ => none }
def agreeRowsRow : OpenClaim := { program := "ytloghkiabgnpnaadoor", sum := "cebaed8133f83d25dfc3d481fd3527be7a839d91ca6e9ed653bdfc62b9ba04e5", func := "covey/coveylaw09.AgreeRows", spec := "agreeRows", unfollowed := true, recurses := true, named := ["covey/agree.ranks"], apart := false, laid := [("covey/agree.ranks", laid_covey_agree_ranks)] }
def AgreeRowsSaid : Prop := agreeRowsRow.holds Tryd.pinned (OpenSpec.ofChange agreeRowsSpec)

/-- ITS FALSE NEIGHBOUR: 'it returns false'. Refute it at one input. -/
def agreeRowsWrong : ChangeSpec := { name := "agreeRows", fn := fun _ => fun
  | [d1, d2, d3] => { results := [.lit (.bool false)], args := [d1, d2, d3] }
  | _ => none }
def AgreeRowsWrongFalsely : Prop := agreeRowsRow.holds Tryd.pinned (OpenSpec.ofChange agreeRowsWrong)

/-- 'coveylaw09.AgreeParts': WHATEVER THE INPUT: true; the input reads as it did. -/
def agreePartsSpec : ChangeSpec := { name := "agreeParts", fn := fun _ => fun
  | [d1, d2] => { results := [.lit (.bool true)], args := [d1, d2] }
  | _ => none }
def agreePartsRow : OpenClaim := { program := "ytloghkiabgnpnaadoor", sum := "cebaed8133f83d25dfc3d481fd3527be7a839d91ca6e9ed653bdfc62b9ba04e5", func := "covey/coveylaw09.AgreeParts", spec := "agreeParts", unfollowed := true, recurses := true, named := ["covey/agree.ranks"], apart := false, laid := [("covey/agree.ranks", laid_covey_agree_ranks)] }
def AgreePartsSaid : Prop := agreePartsRow.holds Tryd.pinned (OpenSpec.ofChange agreePartsSpec)

/-- ITS FALSE NEIGHBOUR: 'it returns false'. Refute it at one input. -/
def agreePartsWrong : ChangeSpec := { name := "agreeParts", fn := fun _ => fun
  | [d1, d2] => { results := [.lit (.bool false)], args := [d1, d2] }
  | _ => none }
def AgreePartsWrongFalsely : Prop := agreePartsRow.holds Tryd.pinned (OpenSpec.ofChange agreePartsWrong)

/- THE SECOND FORM. 'bulk': how many values and letters a reading holds, each counted each time it is reached (what is shared counts as often as it is met; a slice's spare places count too). A statement '..UptoSaid' is the law's where the arguments, and the package variables that the reading takes, are together of bulk at most 1048576: NARROWER than '..Said'. Prove '..Said' where nothing that the law and all that it calls make is longer than what came in: it says more and counts as full. Else prove '..UptoSaid'. A law counts once. -/
mutual
def uptoBulk {H : Type} : DataW H → Nat
  | .lit (.string bytes) => bytes.length + 1
  | .lit _ => 1
  | .nil => 1
  | .ptr d => uptoBulk d + 1
  | .slice elems spare => uptoBulkAll elems + uptoBulkAll spare + 1
  | .agg parts => uptoBulkAll parts + 1
  | .iface _ d => uptoBulk d + 1
  | .map entries => uptoBulkEntries entries + 1
  | .held _ => 1
def uptoBulkAll {H : Type} : List (DataW H) → Nat
  | [] => 0
  | d :: r => uptoBulk d + uptoBulkAll r
def uptoBulkEntries {H : Type} : List (Lit × DataW H) → Nat
  | [] => 0
  | x :: r => uptoBulkEntry x + uptoBulkEntries r
def uptoBulkEntry {H : Type} : Lit × DataW H → Nat
  | (.string bytes, d) => bytes.length + uptoBulk d + 1
  | (_, d) => uptoBulk d + 1
 end
def uptoSmall : (H : Type) → List (DataW H) → Bool := fun _ ds => decide (uptoBulkAll ds ≤ 1048576)
def OpenSpec.upto (s : _root_.Go.ChangeSpec) : _root_.Go.OpenSpec := { _root_.Go.OpenSpec.ofChange s with cond := some uptoSmall }

/-- 'coveylaw09.AgreeNames', WHERE WHAT IT READS IS OF BULK AT MOST 1048576: true; the input reads as it did. -/
def agreeNamesUptoRow : OpenClaim := { program := "ytloghkiabgnpnaadoor", sum := "cebaed8133f83d25dfc3d481fd3527be7a839d91ca6e9ed653bdfc62b9ba04e5", func := "covey/coveylaw09.AgreeNames", spec := "agreeNames", unfollowed := true, recurses := true, named := ["covey/agree.ranks"], apart := false, laid := [("covey/agree.ranks", laid_covey_agree_ranks)], narrowed := true }
def AgreeNamesUptoSaid : Prop := agreeNamesUptoRow.holds Tryd.pinned (OpenSpec.upto agreeNamesSpec)

/-- 'coveylaw09.AgreeTells', WHERE WHAT IT READS IS OF BULK AT MOST 1048576: true; the input reads as it did. -/
def agreeTellsUptoRow : OpenClaim := { program := "ytloghkiabgnpnaadoor", sum := "cebaed8133f83d25dfc3d481fd3527be7a839d91ca6e9ed653bdfc62b9ba04e5", func := "covey/coveylaw09.AgreeTells", spec := "agreeTells", unfollowed := true, recurses := true, named := ["covey/agree.ranks"], apart := false, laid := [("covey/agree.ranks", laid_covey_agree_ranks)], narrowed := true }
def AgreeTellsUptoSaid : Prop := agreeTellsUptoRow.holds Tryd.pinned (OpenSpec.upto agreeTellsSpec)

/-- 'coveylaw09.AgreeSame', WHERE WHAT IT READS IS OF BULK AT MOST 1048576: true; the input reads as it did. -/
def agreeSameUptoRow : OpenClaim := { program := "ytloghkiabgnpnaadoor", sum := "cebaed8133f83d25dfc3d481fd3527be7a839d91ca6e9ed653bdfc62b9ba04e5", func := "covey/coveylaw09.AgreeSame", spec := "agreeSame", unfollowed := true, recurses := true, named := ["covey/agree.ranks"], apart := false, laid := [("covey/agree.ranks", laid_covey_agree_ranks)], narrowed := true }
def AgreeSameUptoSaid : Prop := agreeSameUptoRow.holds Tryd.pinned (OpenSpec.upto agreeSameSpec)

/-- 'coveylaw09.AgreeAll', WHERE WHAT IT READS IS OF BULK AT MOST 1048576: true; the input reads as it did. -/
def agreeAllUptoRow : OpenClaim := { program := "ytloghkiabgnpnaadoor", sum := "cebaed8133f83d25dfc3d481fd3527be7a839d91ca6e9ed653bdfc62b9ba04e5", func := "covey/coveylaw09.AgreeAll", spec := "agreeAll", unfollowed := true, recurses := true, named := ["covey/agree.ranks"], apart := false, laid := [("covey/agree.ranks", laid_covey_agree_ranks)], narrowed := true }
def AgreeAllUptoSaid : Prop := agreeAllUptoRow.holds Tryd.pinned (OpenSpec.upto agreeAllSpec)

/-- 'coveylaw09.AgreeLeads', WHERE WHAT IT READS IS OF BULK AT MOST 1048576: true; the input reads as it did. -/
def agreeLeadsUptoRow : OpenClaim := { program := "ytloghkiabgnpnaadoor", sum := "cebaed8133f83d25dfc3d481fd3527be7a839d91ca6e9ed653bdfc62b9ba04e5", func := "covey/coveylaw09.AgreeLeads", spec := "agreeLeads", unfollowed := true, recurses := true, named := ["covey/agree.ranks"], apart := false, laid := [("covey/agree.ranks", laid_covey_agree_ranks)], narrowed := true }
def AgreeLeadsUptoSaid : Prop := agreeLeadsUptoRow.holds Tryd.pinned (OpenSpec.upto agreeLeadsSpec)

/-- 'coveylaw09.AgreeRows', WHERE WHAT IT READS IS OF BULK AT MOST 1048576: true; the input reads as it did. -/
def agreeRowsUptoRow : OpenClaim := { program := "ytloghkiabgnpnaadoor", sum := "cebaed8133f83d25dfc3d481fd3527be7a839d91ca6e9ed653bdfc62b9ba04e5", func := "covey/coveylaw09.AgreeRows", spec := "agreeRows", unfollowed := true, recurses := true, named := ["covey/agree.ranks"], apart := false, laid := [("covey/agree.ranks", laid_covey_agree_ranks)], narrowed := true }
def AgreeRowsUptoSaid : Prop := agreeRowsUptoRow.holds Tryd.pinned (OpenSpec.upto agreeRowsSpec)

/-- 'coveylaw09.AgreeParts', WHERE WHAT IT READS IS OF BULK AT MOST 1048576: true; the input reads as it did. -/
def agreePartsUptoRow : OpenClaim := { program := "ytloghkiabgnpnaadoor", sum := "cebaed8133f83d25dfc3d481fd3527be7a839d91ca6e9ed653bdfc62b9ba04e5", func := "covey/coveylaw09.AgreeParts", spec := "agreeParts", unfollowed := true, recurses := true, named := ["covey/agree.ranks"], apart := false, laid := [("covey/agree.ranks", laid_covey_agree_ranks)], narrowed := true }
def AgreePartsUptoSaid : Prop := agreePartsUptoRow.holds Tryd.pinned (OpenSpec.upto agreePartsSpec)

end Rows
end Go.Proofs.YtloghkiabgnpnaaDoor
