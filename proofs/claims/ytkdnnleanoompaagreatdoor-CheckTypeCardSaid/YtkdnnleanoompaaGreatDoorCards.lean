/-
  DERIVED. GIVEN WITH THE SEED: THE CARDS: each row of YtkdnnleanoompaaGreatDoorRows.lean that lists a variable, with what it lists TIED to the program's text (the seventh form; the later family's looks); each row that meets fmt, with fmt's text TOLD by the authors' own Lean function (tested against real Go, not proved from fmt's source: count such statements apart). THE CARD IS WHAT COUNTS. Prove the row's statement (the work); the ties are given (YtkdnnleanoompaaGreatDoorTie.lean); close each card by the builder's one call (the guide's Derived/Test/ToyasCard.lean, 'card_holds'). Laid BY PROGRAM, IN A SANDBOX (cutbox-door.mjs). By AI agents, Wed Nov 11 2026. No macro, syntax, notation, axiom, sorry.
-/
import Derived.Test.YtkdnnleanoompaaGreatDoorRows
import GoSem.ClaimSeven
namespace Go.Proofs.YtkdnnleanoompaaGreatDoor
namespace Rows

/-- THE TIED CARD OF 'lychgatelaw09.CheckType'. -/
def checkTypeCard : Claim7 := { stood := { row := checkTypeRow, standIns := [], harness := (true, "b6046e1d3ef8865c576cfc3317dd6b5a1a30ef5e5899bfce01017215dbba31c4"), looks := true }, kinds := [], alts := [], laidByText := true, laidKinds := [.data, .data, .data, .handle, .sentinel, .sentinel, .data, .data], laidTests := true, laidLooks := .later }
def CheckTypeCardSaid : Prop := Claim7.holds Tryz.pinned (.plain (OpenSpec.ofChange checkTypeSpec)) checkTypeCard

/-- THE SECOND FORM's CARD OF 'lychgatelaw09.CheckType'. -/
def checkTypeUptoCard : Claim7 := { stood := { row := checkTypeUptoRow, standIns := [], harness := (true, "b6046e1d3ef8865c576cfc3317dd6b5a1a30ef5e5899bfce01017215dbba31c4"), looks := true }, kinds := [], alts := [], laidByText := true, laidKinds := [.data, .data, .data, .handle, .sentinel, .sentinel, .data, .data], laidTests := true, laidLooks := .later }
def CheckTypeUptoCardSaid : Prop := Claim7.holds Tryz.pinned (.plain (OpenSpec.upto checkTypeSpec)) checkTypeUptoCard
end Rows
end Go.Proofs.YtkdnnleanoompaaGreatDoor
