/-
  DERIVED. GIVEN WITH THE SEED: THE CARDS: each row of YteefhebdfeaojaaGreatDoorRows.lean that lists a variable, with what it lists TIED to the program's text (the seventh form; the later family's looks); each row that meets fmt, with fmt's text TOLD by the authors' own Lean function (tested against real Go, not proved from fmt's source: count such statements apart). THE CARD IS WHAT COUNTS. Prove the row's statement (the work); the ties are given (YteefhebdfeaojaaGreatDoorTie.lean); close each card by the builder's one call (the guide's Derived/Test/ToyasCard.lean, 'card_holds'). Laid BY PROGRAM, IN A SANDBOX (cutbox-door.mjs). By AI agents, Wed Nov 11 2026. No macro, syntax, notation, axiom, sorry.
-/
import Derived.Test.YteefhebdfeaojaaGreatDoorRows
import GoSem.ClaimSeven
namespace Go.Proofs.YteefhebdfeaojaaGreatDoor
namespace Rows

/-- THE TIED CARD OF 'lychgatelaw13.KernelKnown'. -/
def kernelKnownCard : Claim7 := { stood := { row := kernelKnownRow, standIns := [], harness := (true, "15fa3b2cde1d18c1c99876aa7c861933c4e54593c829751637a45e0102ec3135"), looks := true }, kinds := [], alts := [], laidByText := true, laidKinds := [.data, .data, .data, .sentinel, .sentinel, .data, .data], laidTests := true, laidLooks := .later }
def KernelKnownCardSaid : Prop := Claim7.holds Tryz.pinned (.plain (OpenSpec.ofChange kernelKnownSpec)) kernelKnownCard

/-- THE TIED CARD OF 'lychgatelaw13.KernelCast'. -/
def kernelCastCard : Claim7 := { stood := { row := kernelCastRow, standIns := [], harness := (true, "15fa3b2cde1d18c1c99876aa7c861933c4e54593c829751637a45e0102ec3135"), looks := true }, kinds := [], alts := [], laidByText := true, laidKinds := [.data, .data, .data, .sentinel, .sentinel, .data, .data], laidTests := true, laidLooks := .later }
def KernelCastCardSaid : Prop := Claim7.holds Tryz.pinned (.plain (OpenSpec.ofChange kernelCastSpec)) kernelCastCard

/-- THE SECOND FORM's CARD OF 'lychgatelaw13.KernelKnown'. -/
def kernelKnownUptoCard : Claim7 := { stood := { row := kernelKnownUptoRow, standIns := [], harness := (true, "15fa3b2cde1d18c1c99876aa7c861933c4e54593c829751637a45e0102ec3135"), looks := true }, kinds := [], alts := [], laidByText := true, laidKinds := [.data, .data, .data, .sentinel, .sentinel, .data, .data], laidTests := true, laidLooks := .later }
def KernelKnownUptoCardSaid : Prop := Claim7.holds Tryz.pinned (.plain (OpenSpec.upto kernelKnownSpec)) kernelKnownUptoCard

/-- THE SECOND FORM's CARD OF 'lychgatelaw13.KernelCast'. -/
def kernelCastUptoCard : Claim7 := { stood := { row := kernelCastUptoRow, standIns := [], harness := (true, "15fa3b2cde1d18c1c99876aa7c861933c4e54593c829751637a45e0102ec3135"), looks := true }, kinds := [], alts := [], laidByText := true, laidKinds := [.data, .data, .data, .sentinel, .sentinel, .data, .data], laidTests := true, laidLooks := .later }
def KernelCastUptoCardSaid : Prop := Claim7.holds Tryz.pinned (.plain (OpenSpec.upto kernelCastSpec)) kernelCastUptoCard
end Rows
end Go.Proofs.YteefhebdfeaojaaGreatDoor
