/-
  DERIVED. GIVEN WITH THE SEED: THE CARDS: each row of YtdeomggkhbdkaaaGreatDoorRows.lean that lists a variable, with what it lists TIED to the program's text (the seventh form; the later family's looks); each row that meets fmt, with fmt's text TOLD by the authors' own Lean function (tested against real Go, not proved from fmt's source: count such statements apart). THE CARD IS WHAT COUNTS. Prove the row's statement (the work); the ties are given (YtdeomggkhbdkaaaGreatDoorTie.lean); close each card by the builder's one call (the guide's Derived/Test/ToyasCard.lean, 'card_holds'). Laid BY PROGRAM, IN A SANDBOX (cutbox-door.mjs). By AI agents, Wed Nov 11 2026. No macro, syntax, notation, axiom, sorry.
-/
import Derived.Test.YtdeomggkhbdkaaaGreatDoorRows
import GoSem.ClaimSeven
namespace Go.Proofs.YtdeomggkhbdkaaaGreatDoor
namespace Rows

/-- THE TIED CARD OF 'lychgatelaw05.ShowText'. -/
def showTextCard : Claim7 := { stood := { row := showTextRow, standIns := [], harness := (true, "2e28ac41a3fb2b0e39885e4f45d502ed9fce089bed460d6c0303335ab5eaef36"), looks := true }, kinds := [], alts := [], laidByText := true, laidKinds := [.data, .data, .data, .sentinel, .sentinel, .data, .data], laidTests := true, laidLooks := .later }
def ShowTextCardSaid : Prop := Claim7.holds Tryz.pinned (.plain (OpenSpec.ofChange showTextSpec)) showTextCard

/-- THE SECOND FORM's CARD OF 'lychgatelaw05.ShowText'. -/
def showTextUptoCard : Claim7 := { stood := { row := showTextUptoRow, standIns := [], harness := (true, "2e28ac41a3fb2b0e39885e4f45d502ed9fce089bed460d6c0303335ab5eaef36"), looks := true }, kinds := [], alts := [], laidByText := true, laidKinds := [.data, .data, .data, .sentinel, .sentinel, .data, .data], laidTests := true, laidLooks := .later }
def ShowTextUptoCardSaid : Prop := Claim7.holds Tryz.pinned (.plain (OpenSpec.upto showTextSpec)) showTextUptoCard
end Rows
end Go.Proofs.YtdeomggkhbdkaaaGreatDoor
