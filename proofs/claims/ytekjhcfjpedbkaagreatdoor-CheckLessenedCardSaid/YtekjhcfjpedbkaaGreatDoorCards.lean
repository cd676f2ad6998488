/-
  DERIVED. GIVEN WITH THE SEED: THE CARDS: each row of YtekjhcfjpedbkaaGreatDoorRows.lean that lists a variable, with what it lists TIED to the program's text (the seventh form; the later family's looks); each row that meets fmt, with fmt's text TOLD by the authors' own Lean function (tested against real Go, not proved from fmt's source: count such statements apart). THE CARD IS WHAT COUNTS. Prove the row's statement (the work); the ties are given (YtekjhcfjpedbkaaGreatDoorTie.lean); close each card by the builder's one call (the guide's Derived/Test/ToyasCard.lean, 'card_holds'). Laid BY PROGRAM, IN A SANDBOX (cutbox-door.mjs). By AI agents, Wed Nov 11 2026. No macro, syntax, notation, axiom, sorry.
-/
import Derived.Test.YtekjhcfjpedbkaaGreatDoorRows
import GoSem.ClaimSeven
namespace Go.Proofs.YtekjhcfjpedbkaaGreatDoor
namespace Rows

/-- THE TIED CARD OF 'lychgatelaw09.CheckType'. -/
def checkTypeCard : Claim7 := { stood := { row := checkTypeRow, standIns := [], harness := (true, "3514694403d5e5bddc5ce28b0a5ec8ac16d3c32b790162a9c0a07c843501cbe8"), looks := true }, kinds := [], alts := [], laidByText := true, laidKinds := [.data, .data, .data, .handle, .sentinel, .sentinel, .data, .data], laidTests := true, laidLooks := .later }
def CheckTypeCardSaid : Prop := Claim7.holds Tryz.pinned (.plain (OpenSpec.ofChange checkTypeSpec)) checkTypeCard

/-- THE TIED CARD OF 'lychgatelaw09.CheckLessened'. -/
def checkLessenedCard : Claim7 := { stood := { row := checkLessenedRow, standIns := [], harness := (true, "3514694403d5e5bddc5ce28b0a5ec8ac16d3c32b790162a9c0a07c843501cbe8"), looks := true }, kinds := [], alts := [], laidByText := true, laidKinds := [.data, .data, .data, .sentinel, .sentinel, .data, .data], laidTests := true, laidLooks := .later }
def CheckLessenedCardSaid : Prop := Claim7.holds Tryz.pinned (.plain (OpenSpec.ofChange checkLessenedSpec)) checkLessenedCard

/-- THE TIED CARD OF 'lychgatelaw09.CheckParts'. -/
def checkPartsCard : Claim7 := { stood := { row := checkPartsRow, standIns := [], harness := (true, "3514694403d5e5bddc5ce28b0a5ec8ac16d3c32b790162a9c0a07c843501cbe8"), looks := true }, kinds := [], alts := [], laidByText := true, laidKinds := [.data, .data, .data, .sentinel, .sentinel, .data, .data], laidTests := true, laidLooks := .later }
def CheckPartsCardSaid : Prop := Claim7.holds Tryz.pinned (.plain (OpenSpec.ofChange checkPartsSpec)) checkPartsCard

/-- THE TIED CARD OF 'lychgatelaw11.StaticType'. -/
def staticTypeCard : Claim7 := { stood := { row := staticTypeRow, standIns := [], harness := (true, "3514694403d5e5bddc5ce28b0a5ec8ac16d3c32b790162a9c0a07c843501cbe8"), looks := true }, kinds := [], alts := [], laidByText := true, laidKinds := [.data, .data, .data, .handle, .sentinel, .sentinel, .data, .data], laidTests := true, laidLooks := .later }
def StaticTypeCardSaid : Prop := Claim7.holds Tryz.pinned (.plain (OpenSpec.ofChange staticTypeSpec)) staticTypeCard

/-- THE TIED CARD OF 'lychgatelaw11.StaticSame'. -/
def staticSameCard : Claim7 := { stood := { row := staticSameRow, standIns := [], harness := (true, "3514694403d5e5bddc5ce28b0a5ec8ac16d3c32b790162a9c0a07c843501cbe8"), looks := true }, kinds := [], alts := [], laidByText := true, laidKinds := [.data, .data, .data, .handle, .sentinel, .sentinel, .data, .data], laidTests := true, laidLooks := .later }
def StaticSameCardSaid : Prop := Claim7.holds Tryz.pinned (.plain (OpenSpec.ofChange staticSameSpec)) staticSameCard

/-- THE TIED CARD OF 'lychgatelaw13.KernelType'. -/
def kernelTypeCard : Claim7 := { stood := { row := kernelTypeRow, standIns := [], harness := (true, "3514694403d5e5bddc5ce28b0a5ec8ac16d3c32b790162a9c0a07c843501cbe8"), looks := true }, kinds := [], alts := [], laidByText := true, laidKinds := [.data, .data, .data, .sentinel, .sentinel, .data, .data], laidTests := true, laidLooks := .later }
def KernelTypeCardSaid : Prop := Claim7.holds Tryz.pinned (.plain (OpenSpec.ofChange kernelTypeSpec)) kernelTypeCard

/-- THE TIED CARD OF 'lychgatelaw13.KernelKnown'. -/
def kernelKnownCard : Claim7 := { stood := { row := kernelKnownRow, standIns := [], harness := (true, "3514694403d5e5bddc5ce28b0a5ec8ac16d3c32b790162a9c0a07c843501cbe8"), looks := true }, kinds := [], alts := [], laidByText := true, laidKinds := [.data, .data, .data, .sentinel, .sentinel, .data, .data], laidTests := true, laidLooks := .later }
def KernelKnownCardSaid : Prop := Claim7.holds Tryz.pinned (.plain (OpenSpec.ofChange kernelKnownSpec)) kernelKnownCard

/-- THE TIED CARD OF 'lychgatelaw13.KernelCast'. -/
def kernelCastCard : Claim7 := { stood := { row := kernelCastRow, standIns := [], harness := (true, "3514694403d5e5bddc5ce28b0a5ec8ac16d3c32b790162a9c0a07c843501cbe8"), looks := true }, kinds := [], alts := [], laidByText := true, laidKinds := [.data, .data, .data, .sentinel, .sentinel, .data, .data], laidTests := true, laidLooks := .later }
def KernelCastCardSaid : Prop := Claim7.holds Tryz.pinned (.plain (OpenSpec.ofChange kernelCastSpec)) kernelCastCard

/-- THE SECOND FORM's CARD OF 'lychgatelaw09.CheckType'. -/
def checkTypeUptoCard : Claim7 := { stood := { row := checkTypeUptoRow, standIns := [], harness := (true, "3514694403d5e5bddc5ce28b0a5ec8ac16d3c32b790162a9c0a07c843501cbe8"), looks := true }, kinds := [], alts := [], laidByText := true, laidKinds := [.data, .data, .data, .handle, .sentinel, .sentinel, .data, .data], laidTests := true, laidLooks := .later }
def CheckTypeUptoCardSaid : Prop := Claim7.holds Tryz.pinned (.plain (OpenSpec.upto checkTypeSpec)) checkTypeUptoCard

/-- THE SECOND FORM's CARD OF 'lychgatelaw09.CheckLessened'. -/
def checkLessenedUptoCard : Claim7 := { stood := { row := checkLessenedUptoRow, standIns := [], harness := (true, "3514694403d5e5bddc5ce28b0a5ec8ac16d3c32b790162a9c0a07c843501cbe8"), looks := true }, kinds := [], alts := [], laidByText := true, laidKinds := [.data, .data, .data, .sentinel, .sentinel, .data, .data], laidTests := true, laidLooks := .later }
def CheckLessenedUptoCardSaid : Prop := Claim7.holds Tryz.pinned (.plain (OpenSpec.upto checkLessenedSpec)) checkLessenedUptoCard

/-- THE SECOND FORM's CARD OF 'lychgatelaw09.CheckParts'. -/
def checkPartsUptoCard : Claim7 := { stood := { row := checkPartsUptoRow, standIns := [], harness := (true, "3514694403d5e5bddc5ce28b0a5ec8ac16d3c32b790162a9c0a07c843501cbe8"), looks := true }, kinds := [], alts := [], laidByText := true, laidKinds := [.data, .data, .data, .sentinel, .sentinel, .data, .data], laidTests := true, laidLooks := .later }
def CheckPartsUptoCardSaid : Prop := Claim7.holds Tryz.pinned (.plain (OpenSpec.upto checkPartsSpec)) checkPartsUptoCard

/-- THE SECOND FORM's CARD OF 'lychgatelaw11.StaticType'. -/
def staticTypeUptoCard : Claim7 := { stood := { row := staticTypeUptoRow, standIns := [], harness := (true, "3514694403d5e5bddc5ce28b0a5ec8ac16d3c32b790162a9c0a07c843501cbe8"), looks := true }, kinds := [], alts := [], laidByText := true, laidKinds := [.data, .data, .data, .handle, .sentinel, .sentinel, .data, .data], laidTests := true, laidLooks := .later }
def StaticTypeUptoCardSaid : Prop := Claim7.holds Tryz.pinned (.plain (OpenSpec.upto staticTypeSpec)) staticTypeUptoCard

/-- THE SECOND FORM's CARD OF 'lychgatelaw11.StaticSame'. -/
def staticSameUptoCard : Claim7 := { stood := { row := staticSameUptoRow, standIns := [], harness := (true, "3514694403d5e5bddc5ce28b0a5ec8ac16d3c32b790162a9c0a07c843501cbe8"), looks := true }, kinds := [], alts := [], laidByText := true, laidKinds := [.data, .data, .data, .handle, .sentinel, .sentinel, .data, .data], laidTests := true, laidLooks := .later }
def StaticSameUptoCardSaid : Prop := Claim7.holds Tryz.pinned (.plain (OpenSpec.upto staticSameSpec)) staticSameUptoCard

/-- THE SECOND FORM's CARD OF 'lychgatelaw13.KernelType'. -/
def kernelTypeUptoCard : Claim7 := { stood := { row := kernelTypeUptoRow, standIns := [], harness := (true, "3514694403d5e5bddc5ce28b0a5ec8ac16d3c32b790162a9c0a07c843501cbe8"), looks := true }, kinds := [], alts := [], laidByText := true, laidKinds := [.data, .data, .data, .sentinel, .sentinel, .data, .data], laidTests := true, laidLooks := .later }
def KernelTypeUptoCardSaid : Prop := Claim7.holds Tryz.pinned (.plain (OpenSpec.upto kernelTypeSpec)) kernelTypeUptoCard

/-- THE SECOND FORM's CARD OF 'lychgatelaw13.KernelKnown'. -/
def kernelKnownUptoCard : Claim7 := { stood := { row := kernelKnownUptoRow, standIns := [], harness := (true, "3514694403d5e5bddc5ce28b0a5ec8ac16d3c32b790162a9c0a07c843501cbe8"), looks := true }, kinds := [], alts := [], laidByText := true, laidKinds := [.data, .data, .data, .sentinel, .sentinel, .data, .data], laidTests := true, laidLooks := .later }
def KernelKnownUptoCardSaid : Prop := Claim7.holds Tryz.pinned (.plain (OpenSpec.upto kernelKnownSpec)) kernelKnownUptoCard

/-- THE SECOND FORM's CARD OF 'lychgatelaw13.KernelCast'. -/
def kernelCastUptoCard : Claim7 := { stood := { row := kernelCastUptoRow, standIns := [], harness := (true, "3514694403d5e5bddc5ce28b0a5ec8ac16d3c32b790162a9c0a07c843501cbe8"), looks := true }, kinds := [], alts := [], laidByText := true, laidKinds := [.data, .data, .data, .sentinel, .sentinel, .data, .data], laidTests := true, laidLooks := .later }
def KernelCastUptoCardSaid : Prop := Claim7.holds Tryz.pinned (.plain (OpenSpec.upto kernelCastSpec)) kernelCastUptoCard
end Rows
end Go.Proofs.YtekjhcfjpedbkaaGreatDoor
