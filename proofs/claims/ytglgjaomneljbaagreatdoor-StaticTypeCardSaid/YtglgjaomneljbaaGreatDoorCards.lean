/-
  DERIVED. GIVEN WITH THE SEED: THE CARDS: each row of YtglgjaomneljbaaGreatDoorRows.lean that lists a variable, with what it lists TIED to the program's text (the seventh form; the later family's looks); each row that meets fmt, with fmt's text TOLD by the authors' own Lean function (tested against real Go, not proved from fmt's source: count such statements apart). THE CARD IS WHAT COUNTS. Prove the row's statement (the work); the ties are given (YtglgjaomneljbaaGreatDoorTie.lean); close each card by the builder's one call (the guide's Derived/Test/ToyasCard.lean, 'card_holds'). Laid BY PROGRAM, IN A SANDBOX (cutbox-door.mjs). By AI agents, Wed Nov 11 2026. No macro, syntax, notation, axiom, sorry.
-/
import Derived.Test.YtglgjaomneljbaaGreatDoorRows
import GoSem.ClaimSeven
namespace Go.Proofs.YtglgjaomneljbaaGreatDoor
namespace Rows

/-- THE TIED CARD OF 'lychgatelaw11.StaticType'. -/
def staticTypeCard : Claim7 := { stood := { row := staticTypeRow, standIns := [], harness := (true, "937086bf6a44e8b79f192a458292b8a437ae629a5a32807a1315ff6be5a66d31"), looks := true }, kinds := [], alts := [], laidByText := true, laidKinds := [.data, .data, .data, .handle, .sentinel, .sentinel, .data, .data], laidTests := true, laidLooks := .later }
def StaticTypeCardSaid : Prop := Claim7.holds Tryz.pinned (.plain (OpenSpec.ofChange staticTypeSpec)) staticTypeCard

/-- THE SECOND FORM's CARD OF 'lychgatelaw11.StaticType'. -/
def staticTypeUptoCard : Claim7 := { stood := { row := staticTypeUptoRow, standIns := [], harness := (true, "937086bf6a44e8b79f192a458292b8a437ae629a5a32807a1315ff6be5a66d31"), looks := true }, kinds := [], alts := [], laidByText := true, laidKinds := [.data, .data, .data, .handle, .sentinel, .sentinel, .data, .data], laidTests := true, laidLooks := .later }
def StaticTypeUptoCardSaid : Prop := Claim7.holds Tryz.pinned (.plain (OpenSpec.upto staticTypeSpec)) staticTypeUptoCard
end Rows
end Go.Proofs.YtglgjaomneljbaaGreatDoor
