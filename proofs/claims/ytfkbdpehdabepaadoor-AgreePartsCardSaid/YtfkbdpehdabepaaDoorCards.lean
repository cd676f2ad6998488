/-
  DERIVED. GIVEN WITH THE SEED: THE CARDS: each row of YtfkbdpehdabepaaDoorRows.lean that lists a variable, with what it lists TIED to the program's text (the seventh form; the later family's looks); each row that meets fmt, with fmt's text TOLD by the authors' own Lean function (tested against real Go, not proved from fmt's source: count such statements apart). THE CARD IS WHAT COUNTS. Prove the row's statement (the work); the ties are given (YtfkbdpehdabepaaDoorTie.lean); close each card by the builder's one call (the guide's Derived/Test/ToyasCard.lean, 'card_holds'). Laid BY PROGRAM, IN A SANDBOX (cutbox-door.mjs). By AI agents, Wed Nov 11 2026. No macro, syntax, notation, axiom, sorry.
-/
import Derived.Test.YtfkbdpehdabepaaDoorRows
import GoSem.ClaimSeven
namespace Go.Proofs.YtfkbdpehdabepaaDoor
namespace Rows

/-- THE TIED CARD OF 'lychgatelaw06.AgreeTells'. -/
def agreeTellsCard : Claim7 := { stood := { row := agreeTellsRow, standIns := [], harness := (true, "4a4ad875764abb62946345ff2568280c21233336a42d0dd7b96d5a51cdf95695"), looks := true }, kinds := [], alts := [], laidByText := true, laidKinds := [.data], laidTests := true, laidLooks := .later }
def AgreeTellsCardSaid : Prop := Claim7.holds Tryd.pinned (.plain (OpenSpec.ofChange agreeTellsSpec)) agreeTellsCard

/-- THE TIED CARD OF 'lychgatelaw06.AgreeParts'. -/
def agreePartsCard : Claim7 := { stood := { row := agreePartsRow, standIns := [], harness := (true, "4a4ad875764abb62946345ff2568280c21233336a42d0dd7b96d5a51cdf95695"), looks := true }, kinds := [], alts := [], laidByText := true, laidKinds := [.data], laidTests := true, laidLooks := .later }
def AgreePartsCardSaid : Prop := Claim7.holds Tryd.pinned (.plain (OpenSpec.ofChange agreePartsSpec)) agreePartsCard

/-- THE TIED CARD OF 'lychgatelaw07.OrderMeet'. -/
def orderMeetCard : Claim7 := { stood := { row := orderMeetRow, standIns := [], harness := (true, "4a4ad875764abb62946345ff2568280c21233336a42d0dd7b96d5a51cdf95695"), looks := true }, kinds := [], alts := [], laidByText := true, laidKinds := [.data], laidTests := true, laidLooks := .later }
def OrderMeetCardSaid : Prop := Claim7.holds Tryd.pinned (.plain (OpenSpec.ofChange orderMeetSpec)) orderMeetCard

/-- THE SECOND FORM's CARD OF 'lychgatelaw06.AgreeTells'. -/
def agreeTellsUptoCard : Claim7 := { stood := { row := agreeTellsUptoRow, standIns := [], harness := (true, "4a4ad875764abb62946345ff2568280c21233336a42d0dd7b96d5a51cdf95695"), looks := true }, kinds := [], alts := [], laidByText := true, laidKinds := [.data], laidTests := true, laidLooks := .later }
def AgreeTellsUptoCardSaid : Prop := Claim7.holds Tryd.pinned (.plain (OpenSpec.upto agreeTellsSpec)) agreeTellsUptoCard

/-- THE SECOND FORM's CARD OF 'lychgatelaw06.AgreeParts'. -/
def agreePartsUptoCard : Claim7 := { stood := { row := agreePartsUptoRow, standIns := [], harness := (true, "4a4ad875764abb62946345ff2568280c21233336a42d0dd7b96d5a51cdf95695"), looks := true }, kinds := [], alts := [], laidByText := true, laidKinds := [.data], laidTests := true, laidLooks := .later }
def AgreePartsUptoCardSaid : Prop := Claim7.holds Tryd.pinned (.plain (OpenSpec.upto agreePartsSpec)) agreePartsUptoCard

/-- THE SECOND FORM's CARD OF 'lychgatelaw07.OrderMeet'. -/
def orderMeetUptoCard : Claim7 := { stood := { row := orderMeetUptoRow, standIns := [], harness := (true, "4a4ad875764abb62946345ff2568280c21233336a42d0dd7b96d5a51cdf95695"), looks := true }, kinds := [], alts := [], laidByText := true, laidKinds := [.data], laidTests := true, laidLooks := .later }
def OrderMeetUptoCardSaid : Prop := Claim7.holds Tryd.pinned (.plain (OpenSpec.upto orderMeetSpec)) orderMeetUptoCard
end Rows
end Go.Proofs.YtfkbdpehdabepaaDoor
