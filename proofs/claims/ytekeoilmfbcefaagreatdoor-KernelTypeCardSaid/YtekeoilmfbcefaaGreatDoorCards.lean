/-
  DERIVED. GIVEN WITH THE SEED: THE CARDS: each row of YtekeoilmfbcefaaGreatDoorRows.lean that lists a variable, with what it lists TIED to the program's text (the seventh form; the later family's looks); each row that meets fmt, with fmt's text TOLD by the authors' own Lean function (tested against real Go, not proved from fmt's source: count such statements apart). THE CARD IS WHAT COUNTS. Prove the row's statement (the work); the ties are given (YtekeoilmfbcefaaGreatDoorTie.lean); close each card by the builder's one call (the guide's Derived/Test/ToyasCard.lean, 'card_holds'). Laid BY PROGRAM, IN A SANDBOX (cutbox-door.mjs). By AI agents, Wed Nov 11 2026. No macro, syntax, notation, axiom, sorry.
-/
import Derived.Test.YtekeoilmfbcefaaGreatDoorRows
import GoSem.ClaimSeven
namespace Go.Proofs.YtekeoilmfbcefaaGreatDoor
namespace Rows

/-- THE TIED CARD OF 'lychgatelaw13.KernelType'. -/
def kernelTypeCard : Claim7 := { stood := { row := kernelTypeRow, standIns := [], harness := (true, "83190f3b87e1905cdec3e0be620a6aa45b913a8c2272c51c08d35f567b89aca2"), looks := true }, kinds := [], alts := [], laidByText := true, laidKinds := [.data, .data, .data, .sentinel, .sentinel, .data, .data], laidTests := true, laidLooks := .later }
def KernelTypeCardSaid : Prop := Claim7.holds Tryz.pinned (.plain (OpenSpec.ofChange kernelTypeSpec)) kernelTypeCard

/-- THE SECOND FORM's CARD OF 'lychgatelaw13.KernelType'. -/
def kernelTypeUptoCard : Claim7 := { stood := { row := kernelTypeUptoRow, standIns := [], harness := (true, "83190f3b87e1905cdec3e0be620a6aa45b913a8c2272c51c08d35f567b89aca2"), looks := true }, kinds := [], alts := [], laidByText := true, laidKinds := [.data, .data, .data, .sentinel, .sentinel, .data, .data], laidTests := true, laidLooks := .later }
def KernelTypeUptoCardSaid : Prop := Claim7.holds Tryz.pinned (.plain (OpenSpec.upto kernelTypeSpec)) kernelTypeUptoCard
end Rows
end Go.Proofs.YtekeoilmfbcefaaGreatDoor
