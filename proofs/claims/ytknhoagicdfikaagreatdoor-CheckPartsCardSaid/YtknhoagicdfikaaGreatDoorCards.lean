/-
  DERIVED. GIVEN WITH THE SEED: THE CARDS: each row of YtknhoagicdfikaaGreatDoorRows.lean that lists a variable, with what it lists TIED to the program's text (the seventh form; the later family's looks); each row that meets fmt, with fmt's text TOLD by the authors' own Lean function (tested against real Go, not proved from fmt's source: count such statements apart). THE CARD IS WHAT COUNTS. Prove the row's statement (the work); the ties are given (YtknhoagicdfikaaGreatDoorTie.lean); close each card by the builder's one call (the guide's Derived/Test/ToyasCard.lean, 'card_holds'). Laid BY PROGRAM, IN A SANDBOX (cutbox-door.mjs). By AI agents, Wed Nov 11 2026. No macro, syntax, notation, axiom, sorry.
-/
import Derived.Test.YtknhoagicdfikaaGreatDoorRows
import GoSem.ClaimSeven
namespace Go.Proofs.YtknhoagicdfikaaGreatDoor
namespace Rows

/-- THE TIED CARD OF 'lychgatelaw09.CheckParts'. -/
def checkPartsCard : Claim7 := { stood := { row := checkPartsRow, standIns := [], harness := (true, "b05a52666a61018ee266423bee1e6788434c3bfcc42ecbaa43380d8b95f3e682"), looks := true }, kinds := [], alts := [], laidByText := true, laidKinds := [.data, .data, .data, .sentinel, .sentinel, .data, .data], laidTests := true, laidLooks := .later }
def CheckPartsCardSaid : Prop := Claim7.holds Tryz.pinned (.plain (OpenSpec.ofChange checkPartsSpec)) checkPartsCard

/-- THE TIED CARD OF 'lychgatelaw11.StaticSame'. -/
def staticSameCard : Claim7 := { stood := { row := staticSameRow, standIns := [], harness := (true, "b05a52666a61018ee266423bee1e6788434c3bfcc42ecbaa43380d8b95f3e682"), looks := true }, kinds := [], alts := [], laidByText := true, laidKinds := [.data, .data, .data, .handle, .sentinel, .sentinel, .data, .data], laidTests := true, laidLooks := .later }
def StaticSameCardSaid : Prop := Claim7.holds Tryz.pinned (.plain (OpenSpec.ofChange staticSameSpec)) staticSameCard

/-- THE SECOND FORM's CARD OF 'lychgatelaw09.CheckParts'. -/
def checkPartsUptoCard : Claim7 := { stood := { row := checkPartsUptoRow, standIns := [], harness := (true, "b05a52666a61018ee266423bee1e6788434c3bfcc42ecbaa43380d8b95f3e682"), looks := true }, kinds := [], alts := [], laidByText := true, laidKinds := [.data, .data, .data, .sentinel, .sentinel, .data, .data], laidTests := true, laidLooks := .later }
def CheckPartsUptoCardSaid : Prop := Claim7.holds Tryz.pinned (.plain (OpenSpec.upto checkPartsSpec)) checkPartsUptoCard

/-- THE SECOND FORM's CARD OF 'lychgatelaw11.StaticSame'. -/
def staticSameUptoCard : Claim7 := { stood := { row := staticSameUptoRow, standIns := [], harness := (true, "b05a52666a61018ee266423bee1e6788434c3bfcc42ecbaa43380d8b95f3e682"), looks := true }, kinds := [], alts := [], laidByText := true, laidKinds := [.data, .data, .data, .handle, .sentinel, .sentinel, .data, .data], laidTests := true, laidLooks := .later }
def StaticSameUptoCardSaid : Prop := Claim7.holds Tryz.pinned (.plain (OpenSpec.upto staticSameSpec)) staticSameUptoCard
end Rows
end Go.Proofs.YtknhoagicdfikaaGreatDoor
