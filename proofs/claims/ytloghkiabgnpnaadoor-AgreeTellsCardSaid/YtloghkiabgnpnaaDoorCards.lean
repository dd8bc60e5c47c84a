/-
  DERIVED. GIVEN WITH THE SEED: THE CARDS: each row of YtloghkiabgnpnaaDoorRows.lean that lists a variable, with what it lists TIED to the program's text (the seventh form; the later family's looks); each row that meets fmt, with fmt's text TOLD by the authors' own Lean function (tested against real Go, not proved from fmt's source: count such statements apart). THE CARD IS WHAT COUNTS. Prove the row's statement (the work); the ties are given (YtloghkiabgnpnaaDoorTie.lean); close each card by the builder's one call (the guide's Derived/Test/ToyasCard.lean, 'card_holds'). Laid BY PROGRAM, IN A SANDBOX (cutbox-door.mjs). By AI agents, Wed Nov 11 2026. No macro, syntax, notation, axiom, sorry.
-/
import Derived.Test.YtloghkiabgnpnaaDoorRows
import GoSem.ClaimSeven
namespace Go.Proofs.YtloghkiabgnpnaaDoor
namespace Rows

/-- THE TIED CARD OF 'coveylaw09.AgreeNames'. -/
def agreeNamesCard : Claim7 := { stood := { row := agreeNamesRow, standIns := [], harness := (true, "d4a6b6a6e505883e715e2ce4bde1c62170a166212b7e5814eb49da6784e08dca"), looks := false }, kinds := [], alts := [], laidByText := true, laidKinds := [.data], laidTests := true, laidLooks := .later }
def AgreeNamesCardSaid : Prop := Claim7.holds Tryd.pinned (.plain (OpenSpec.ofChange agreeNamesSpec)) agreeNamesCard

/-- THE TIED CARD OF 'coveylaw09.AgreeTells'. -/
def agreeTellsCard : Claim7 := { stood := { row := agreeTellsRow, standIns := [], harness := (true, "d4a6b6a6e505883e715e2ce4bde1c62170a166212b7e5814eb49da6784e08dca"), looks := false }, kinds := [], alts := [], laidByText := true, laidKinds := [.data], laidTests := true, laidLooks := .later }
def AgreeTellsCardSaid : Prop := Claim7.holds Tryd.pinned (.plain (OpenSpec.ofChange agreeTellsSpec)) agreeTellsCard

/-- THE TIED CARD OF 'coveylaw09.AgreeSame'. -/
def agreeSameCard : Claim7 := { stood := { row := agreeSameRow, standIns := [], harness := (true, "d4a6b6a6e505883e715e2ce4bde1c62170a166212b7e5814eb49da6784e08dca"), looks := false }, kinds := [], alts := [], laidByText := true, laidKinds := [.data], laidTests := true, laidLooks := .later }
def AgreeSameCardSaid : Prop := Claim7.holds Tryd.pinned (.plain (OpenSpec.ofChange agreeSameSpec)) agreeSameCard

/-- THE TIED CARD OF 'coveylaw09.AgreeAll'. -/
def agreeAllCard : Claim7 := { stood := { row := agreeAllRow, standIns := [], harness := (true, "d4a6b6a6e505883e715e2ce4bde1c62170a166212b7e5814eb49da6784e08dca"), looks := false }, kinds := [], alts := [], laidByText := true, laidKinds := [.data], laidTests := true, laidLooks := .later }
def AgreeAllCardSaid : Prop := Claim7.holds Tryd.pinned (.plain (OpenSpec.ofChange agreeAllSpec)) agreeAllCard

/-- THE TIED CARD OF 'coveylaw09.AgreeLeads'. -/
def agreeLeadsCard : Claim7 := { stood := { row := agreeLeadsRow, standIns := [], harness := (true, "d4a6b6a6e505883e715e2ce4bde1c62170a166212b7e5814eb49da6784e08dca"), looks := false }, kinds := [], alts := [], laidByText := true, laidKinds := [.data], laidTests := true, laidLooks := .later }
def AgreeLeadsCardSaid : Prop := Claim7.holds Tryd.pinned (.plain (OpenSpec.ofChange agreeLeadsSpec)) agreeLeadsCard

/-- THE TIED CARD OF 'coveylaw09.AgreeRows'. -/
def agreeRowsCard : Claim7 := { stood := { row := agreeRowsRow, standIns := [], harness := (true, "d4a6b6a6e505883e715e2ce4bde1c62170a166212b7e5814eb49da6784e08dca"), looks := false }, kinds := [], alts := [], laidByText := true, laidKinds := [.data], laidTests := true, laidLooks := .later }
def AgreeRowsCardSaid : Prop := Claim7.holds Tryd.pinned (.plain (OpenSpec.ofChange agreeRowsSpec)) agreeRowsCard

/-- THE TIED CARD OF 'coveylaw09.AgreeParts'. -/
def agreePartsCard : Claim7 := { stood := { row := agreePartsRow, standIns := [], harness := (true, "d4a6b6a6e505883e715e2ce4bde1c62170a166212b7e5814eb49da6784e08dca"), looks := false }, kinds := [], alts := [], laidByText := true, laidKinds := [.data], laidTests := true, laidLooks := .later }
def AgreePartsCardSaid : Prop := Claim7.holds Tryd.pinned (.plain (OpenSpec.ofChange agreePartsSpec)) agreePartsCard

/-- THE SECOND FORM's CARD OF 'coveylaw09.AgreeNames'. -/
def agreeNamesUptoCard : Claim7 := { stood := { row := agreeNamesUptoRow, standIns := [], harness := (true, "d4a6b6a6e505883e715e2ce4bde1c62170a166212b7e5814eb49da6784e08dca"), looks := false }, kinds := [], alts := [], laidByText := true, laidKinds := [.data], laidTests := true, laidLooks := .later }
def AgreeNamesUptoCardSaid : Prop := Claim7.holds Tryd.pinned (.plain (OpenSpec.upto agreeNamesSpec)) agreeNamesUptoCard

/-- THE SECOND FORM's CARD OF 'coveylaw09.AgreeTells'. -/
def agreeTellsUptoCard : Claim7 := { stood := { row := agreeTellsUptoRow, standIns := [], harness := (true, "d4a6b6a6e505883e715e2ce4bde1c62170a166212b7e5814eb49da6784e08dca"), looks := false }, kinds := [], alts := [], laidByText := true, laidKinds := [.data], laidTests := true, laidLooks := .later }
def AgreeTellsUptoCardSaid : Prop := Claim7.holds Tryd.pinned (.plain (OpenSpec.upto agreeTellsSpec)) agreeTellsUptoCard

/-- THE SECOND FORM's CARD OF 'coveylaw09.AgreeSame'. -/
def agreeSameUptoCard : Claim7 := { stood := { row := agreeSameUptoRow, standIns := [], harness := (true, "d4a6b6a6e505883e715e2ce4bde1c62170a166212b7e5814eb49da6784e08dca"), looks := false }, kinds := [], alts := [], laidByText := true, laidKinds := [.data], laidTests := true, laidLooks := .later }
def AgreeSameUptoCardSaid : Prop := Claim7.holds Tryd.pinned (.plain (OpenSpec.upto agreeSameSpec)) agreeSameUptoCard

/-- THE SECOND FORM's CARD OF 'coveylaw09.AgreeAll'. -/
def agreeAllUptoCard : Claim7 := { stood := { row := agreeAllUptoRow, standIns := [], harness := (true, "d4a6b6a6e505883e715e2ce4bde1c62170a166212b7e5814eb49da6784e08dca"), looks := false }, kinds := [], alts := [], laidByText := true, laidKinds := [.data], laidTests := true, laidLooks := .later }
def AgreeAllUptoCardSaid : Prop := Claim7.holds Tryd.pinned (.plain (OpenSpec.upto agreeAllSpec)) agreeAllUptoCard

/-- THE SECOND FORM's CARD OF 'coveylaw09.AgreeLeads'. -/
def agreeLeadsUptoCard : Claim7 := { stood := { row := agreeLeadsUptoRow, standIns := [], harness := (true, "d4a6b6a6e505883e715e2ce4bde1c62170a166212b7e5814eb49da6784e08dca"), looks := false }, kinds := [], alts := [], laidByText := true, laidKinds := [.data], laidTests := true, laidLooks := .later }
def AgreeLeadsUptoCardSaid : Prop := Claim7.holds Tryd.pinned (.plain (OpenSpec.upto agreeLeadsSpec)) agreeLeadsUptoCard

/-- THE SECOND FORM's CARD OF 'coveylaw09.AgreeRows'. -/
def agreeRowsUptoCard : Claim7 := { stood := { row := agreeRowsUptoRow, standIns := [], harness := (true, "d4a6b6a6e505883e715e2ce4bde1c62170a166212b7e5814eb49da6784e08dca"), looks := false }, kinds := [], alts := [], laidByText := true, laidKinds := [.data], laidTests := true, laidLooks := .later }
def AgreeRowsUptoCardSaid : Prop := Claim7.holds Tryd.pinned (.plain (OpenSpec.upto agreeRowsSpec)) agreeRowsUptoCard

/-- THE SECOND FORM's CARD OF 'coveylaw09.AgreeParts'. -/
def agreePartsUptoCard : Claim7 := { stood := { row := agreePartsUptoRow, standIns := [], harness := (true, "d4a6b6a6e505883e715e2ce4bde1c62170a166212b7e5814eb49da6784e08dca"), looks := false }, kinds := [], alts := [], laidByText := true, laidKinds := [.data], laidTests := true, laidLooks := .later }
def AgreePartsUptoCardSaid : Prop := Claim7.holds Tryd.pinned (.plain (OpenSpec.upto agreePartsSpec)) agreePartsUptoCard
end Rows
end Go.Proofs.YtloghkiabgnpnaaDoor
