/-
  DERIVED. GIVEN WITH THE SEED: THE CARDS: each row of YtjpohjcnjanoaaaGreatDoorRows.lean that lists a variable, with what it lists TIED to the program's text (the seventh form; the later family's looks); each row that meets fmt, with fmt's text TOLD by the authors' own Lean function (tested against real Go, not proved from fmt's source: count such statements apart). THE CARD IS WHAT COUNTS. Prove the row's statement (the work); the ties are given (YtjpohjcnjanoaaaGreatDoorTie.lean); close each card by the builder's one call (the guide's Derived/Test/ToyasCard.lean, 'card_holds'). Laid BY PROGRAM, IN A SANDBOX (cutbox-door.mjs). By AI agents, Wed Nov 11 2026. No macro, syntax, notation, axiom, sorry.
-/
import Derived.Test.YtjpohjcnjanoaaaGreatDoorRows
import GoSem.ClaimSeven
namespace Go.Proofs.YtjpohjcnjanoaaaGreatDoor
namespace Rows

/-- THE TIED CARD OF 'lychgatelaw09.CheckType'. -/
def checkTypeCard : Claim7 := { stood := { row := checkTypeRow, standIns := [], harness := (true, "d9ee1ced4fae01f9aa3f8aa25ff7441eb052322e449c905b4de11d86b92af075"), looks := true }, kinds := [], alts := [], laidByText := true, laidKinds := [.data, .data, .data, .handle, .sentinel, .sentinel, .data, .data], laidTests := true, laidLooks := .later }
def CheckTypeCardSaid : Prop := Claim7.holds Tryz.pinned (.plain (OpenSpec.ofChange checkTypeSpec)) checkTypeCard

/-- THE TIED CARD OF 'lychgatelaw09.CheckLessened'. -/
def checkLessenedCard : Claim7 := { stood := { row := checkLessenedRow, standIns := [], harness := (true, "d9ee1ced4fae01f9aa3f8aa25ff7441eb052322e449c905b4de11d86b92af075"), looks := true }, kinds := [], alts := [], laidByText := true, laidKinds := [.data, .data, .data, .sentinel, .sentinel, .data, .data], laidTests := true, laidLooks := .later }
def CheckLessenedCardSaid : Prop := Claim7.holds Tryz.pinned (.plain (OpenSpec.ofChange checkLessenedSpec)) checkLessenedCard

/-- THE TIED CARD OF 'lychgatelaw09.CheckParts'. -/
def checkPartsCard : Claim7 := { stood := { row := checkPartsRow, standIns := [], harness := (true, "d9ee1ced4fae01f9aa3f8aa25ff7441eb052322e449c905b4de11d86b92af075"), looks := true }, kinds := [], alts := [], laidByText := true, laidKinds := [.data, .data, .data, .sentinel, .sentinel, .data, .data], laidTests := true, laidLooks := .later }
def CheckPartsCardSaid : Prop := Claim7.holds Tryz.pinned (.plain (OpenSpec.ofChange checkPartsSpec)) checkPartsCard

/-- THE TIED CARD OF 'lychgatelaw11.StaticType'. -/
def staticTypeCard : Claim7 := { stood := { row := staticTypeRow, standIns := [], harness := (true, "d9ee1ced4fae01f9aa3f8aa25ff7441eb052322e449c905b4de11d86b92af075"), looks := true }, kinds := [], alts := [], laidByText := true, laidKinds := [.data, .data, .data, .handle, .sentinel, .sentinel, .data, .data], laidTests := true, laidLooks := .later }
def StaticTypeCardSaid : Prop := Claim7.holds Tryz.pinned (.plain (OpenSpec.ofChange staticTypeSpec)) staticTypeCard

/-- THE TIED CARD OF 'lychgatelaw11.StaticSame'. -/
def staticSameCard : Claim7 := { stood := { row := staticSameRow, standIns := [], harness := (true, "d9ee1ced4fae01f9aa3f8aa25ff7441eb052322e449c905b4de11d86b92af075"), looks := true }, kinds := [], alts := [], laidByText := true, laidKinds := [.data, .data, .data, .handle, .sentinel, .sentinel, .data, .data], laidTests := true, laidLooks := .later }
def StaticSameCardSaid : Prop := Claim7.holds Tryz.pinned (.plain (OpenSpec.ofChange staticSameSpec)) staticSameCard

/-- THE SECOND FORM's CARD OF 'lychgatelaw09.CheckType'. -/
def checkTypeUptoCard : Claim7 := { stood := { row := checkTypeUptoRow, standIns := [], harness := (true, "d9ee1ced4fae01f9aa3f8aa25ff7441eb052322e449c905b4de11d86b92af075"), looks := true }, kinds := [], alts := [], laidByText := true, laidKinds := [.data, .data, .data, .handle, .sentinel, .sentinel, .data, .data], laidTests := true, laidLooks := .later }
def CheckTypeUptoCardSaid : Prop := Claim7.holds Tryz.pinned (.plain (OpenSpec.upto checkTypeSpec)) checkTypeUptoCard

/-- THE SECOND FORM's CARD OF 'lychgatelaw09.CheckLessened'. -/
def checkLessenedUptoCard : Claim7 := { stood := { row := checkLessenedUptoRow, standIns := [], harness := (true, "d9ee1ced4fae01f9aa3f8aa25ff7441eb052322e449c905b4de11d86b92af075"), looks := true }, kinds := [], alts := [], laidByText := true, laidKinds := [.data, .data, .data, .sentinel, .sentinel, .data, .data], laidTests := true, laidLooks := .later }
def CheckLessenedUptoCardSaid : Prop := Claim7.holds Tryz.pinned (.plain (OpenSpec.upto checkLessenedSpec)) checkLessenedUptoCard

/-- THE SECOND FORM's CARD OF 'lychgatelaw09.CheckParts'. -/
def checkPartsUptoCard : Claim7 := { stood := { row := checkPartsUptoRow, standIns := [], harness := (true, "d9ee1ced4fae01f9aa3f8aa25ff7441eb052322e449c905b4de11d86b92af075"), looks := true }, kinds := [], alts := [], laidByText := true, laidKinds := [.data, .data, .data, .sentinel, .sentinel, .data, .data], laidTests := true, laidLooks := .later }
def CheckPartsUptoCardSaid : Prop := Claim7.holds Tryz.pinned (.plain (OpenSpec.upto checkPartsSpec)) checkPartsUptoCard

/-- THE SECOND FORM's CARD OF 'lychgatelaw11.StaticType'. -/
def staticTypeUptoCard : Claim7 := { stood := { row := staticTypeUptoRow, standIns := [], harness := (true, "d9ee1ced4fae01f9aa3f8aa25ff7441eb052322e449c905b4de11d86b92af075"), looks := true }, kinds := [], alts := [], laidByText := true, laidKinds := [.data, .data, .data, .handle, .sentinel, .sentinel, .data, .data], laidTests := true, laidLooks := .later }
def StaticTypeUptoCardSaid : Prop := Claim7.holds Tryz.pinned (.plain (OpenSpec.upto staticTypeSpec)) staticTypeUptoCard

/-- THE SECOND FORM's CARD OF 'lychgatelaw11.StaticSame'. -/
def staticSameUptoCard : Claim7 := { stood := { row := staticSameUptoRow, standIns := [], harness := (true, "d9ee1ced4fae01f9aa3f8aa25ff7441eb052322e449c905b4de11d86b92af075"), looks := true }, kinds := [], alts := [], laidByText := true, laidKinds := [.data, .data, .data, .handle, .sentinel, .sentinel, .data, .data], laidTests := true, laidLooks := .later }
def StaticSameUptoCardSaid : Prop := Claim7.holds Tryz.pinned (.plain (OpenSpec.upto staticSameSpec)) staticSameUptoCard
end Rows
end Go.Proofs.YtjpohjcnjanoaaaGreatDoor
