/-
  DERIVED. GIVEN WITH THE SEED: THE CARDS: each row of YtocopanencbmeaaGreatDoorRows.lean that lists a variable, with what it lists TIED to the program's text (the seventh form; the later family's looks); each row that meets fmt, with fmt's text TOLD by the authors' own Lean function (tested against real Go, not proved from fmt's source: count such statements apart). THE CARD IS WHAT COUNTS. Prove the row's statement (the work); the ties are given (YtocopanencbmeaaGreatDoorTie.lean); close each card by the builder's one call (the guide's Derived/Test/ToyasCard.lean, 'card_holds'). Laid BY PROGRAM, IN A SANDBOX (cutbox-door.mjs). By AI agents, Wed Nov 11 2026. No macro, syntax, notation, axiom, sorry.
-/
import Derived.Test.YtocopanencbmeaaGreatDoorRows
import GoSem.ClaimSeven
namespace Go.Proofs.YtocopanencbmeaaGreatDoor
namespace Rows

/-- THE TIED CARD OF 'lychgatelaw07.OrderTerms'. -/
def orderTermsCard : Claim7 := { stood := { row := orderTermsRow, standIns := [], harness := (true, "31eabbcadc7f38b6ae4a275260d7b21ff72035dcb04885749e55a66a970c1607"), looks := true }, kinds := [], alts := [], laidByText := true, laidKinds := [.data, .data, .data, .sentinel, .sentinel, .data, .data], laidTests := true, laidLooks := .later }
def OrderTermsCardSaid : Prop := Claim7.holds Tryz.pinned (.plain (OpenSpec.ofChange orderTermsSpec)) orderTermsCard

/-- THE SECOND FORM's CARD OF 'lychgatelaw07.OrderTerms'. -/
def orderTermsUptoCard : Claim7 := { stood := { row := orderTermsUptoRow, standIns := [], harness := (true, "31eabbcadc7f38b6ae4a275260d7b21ff72035dcb04885749e55a66a970c1607"), looks := true }, kinds := [], alts := [], laidByText := true, laidKinds := [.data, .data, .data, .sentinel, .sentinel, .data, .data], laidTests := true, laidLooks := .later }
def OrderTermsUptoCardSaid : Prop := Claim7.holds Tryz.pinned (.plain (OpenSpec.upto orderTermsSpec)) orderTermsUptoCard
end Rows
end Go.Proofs.YtocopanencbmeaaGreatDoor
