/-
  DERIVED. GIVEN WITH THE SEED: THE CARDS: each row of YtgjemmmbnpkamaaGreatDoorRows.lean that lists a variable, with what it lists TIED to the program's text (the seventh form; the later family's looks); each row that meets fmt, with fmt's text TOLD by the authors' own Lean function (tested against real Go, not proved from fmt's source: count such statements apart). THE CARD IS WHAT COUNTS. Prove the row's statement (the work); the ties are given (YtgjemmmbnpkamaaGreatDoorTie.lean); close each card by the builder's one call (the guide's Derived/Test/ToyasCard.lean, 'card_holds'). Laid BY PROGRAM, IN A SANDBOX (cutbox-door.mjs). By AI agents, Wed Nov 11 2026. No macro, syntax, notation, axiom, sorry.
-/
import Derived.Test.YtgjemmmbnpkamaaGreatDoorRows
import GoSem.ClaimSeven
namespace Go.Proofs.YtgjemmmbnpkamaaGreatDoor
namespace Rows

/-- THE TIED CARD OF 'lychgatelaw11.StaticKnown'. -/
def staticKnownCard : Claim7 := { stood := { row := staticKnownRow, standIns := [], harness := (true, "29cfdfd48c2dbc6ed2b29c4cb5fdd58ccf68e39cfe53b4f86230ee1e228983ea"), looks := true }, kinds := [], alts := [], laidByText := true, laidKinds := [.data, .data, .data, .handle, .sentinel, .sentinel, .data, .data], laidTests := true, laidLooks := .later }
def StaticKnownCardSaid : Prop := Claim7.holds Tryz.pinned (.plain (OpenSpec.ofChange staticKnownSpec)) staticKnownCard

/-- THE SECOND FORM's CARD OF 'lychgatelaw11.StaticKnown'. -/
def staticKnownUptoCard : Claim7 := { stood := { row := staticKnownUptoRow, standIns := [], harness := (true, "29cfdfd48c2dbc6ed2b29c4cb5fdd58ccf68e39cfe53b4f86230ee1e228983ea"), looks := true }, kinds := [], alts := [], laidByText := true, laidKinds := [.data, .data, .data, .handle, .sentinel, .sentinel, .data, .data], laidTests := true, laidLooks := .later }
def StaticKnownUptoCardSaid : Prop := Claim7.holds Tryz.pinned (.plain (OpenSpec.upto staticKnownSpec)) staticKnownUptoCard
end Rows
end Go.Proofs.YtgjemmmbnpkamaaGreatDoor
