/-
  DERIVED. GIVEN WITH THE SEED: THE CARDS: each row of YtmcmdlaedpdoiaaGreatDoorRows.lean that lists a variable, with what it lists TIED to the program's text (the seventh form; the later family's looks); each row that meets fmt, with fmt's text TOLD by the authors' own Lean function (tested against real Go, not proved from fmt's source: count such statements apart). THE CARD IS WHAT COUNTS. Prove the row's statement (the work); the ties are given (YtmcmdlaedpdoiaaGreatDoorTie.lean); close each card by the builder's one call (the guide's Derived/Test/ToyasCard.lean, 'card_holds'). Laid BY PROGRAM, IN A SANDBOX (cutbox-door.mjs). By AI agents, Wed Nov 11 2026. No macro, syntax, notation, axiom, sorry.
-/
import Derived.Test.YtmcmdlaedpdoiaaGreatDoorRows
import GoSem.ClaimSeven
namespace Go.Proofs.YtmcmdlaedpdoiaaGreatDoor
namespace Rows

/-- THE TIED CARD OF 'lychgatelaw14.CastsTells'. -/
def castsTellsCard : Claim7 := { stood := { row := castsTellsRow, standIns := [], harness := (true, "e8343f1e0ec1012179417134dbcf5429149acde7e9e5bf2348faa51a2f596d5f"), looks := true }, kinds := [], alts := [], laidByText := true, laidKinds := [.data, .data, .data, .sentinel, .sentinel, .data, .data], laidTests := true, laidLooks := .later }
def CastsTellsCardSaid : Prop := Claim7.holds Tryz.pinned (.plain (OpenSpec.ofChange castsTellsSpec)) castsTellsCard

/-- THE TIED CARD OF 'lychgatelaw14.CastsSides'. -/
def castsSidesCard : Claim7 := { stood := { row := castsSidesRow, standIns := [], harness := (true, "e8343f1e0ec1012179417134dbcf5429149acde7e9e5bf2348faa51a2f596d5f"), looks := true }, kinds := [], alts := [], laidByText := true, laidKinds := [.data, .data, .data, .sentinel, .sentinel, .data, .data], laidTests := true, laidLooks := .later }
def CastsSidesCardSaid : Prop := Claim7.holds Tryz.pinned (.plain (OpenSpec.ofChange castsSidesSpec)) castsSidesCard

/-- THE TIED CARD OF 'lychgatelaw14.CastsWrapped'. -/
def castsWrappedCard : Claim7 := { stood := { row := castsWrappedRow, standIns := [], harness := (true, "e8343f1e0ec1012179417134dbcf5429149acde7e9e5bf2348faa51a2f596d5f"), looks := true }, kinds := [], alts := [], laidByText := true, laidKinds := [.data, .data, .data, .sentinel, .sentinel, .data, .data], laidTests := true, laidLooks := .later }
def CastsWrappedCardSaid : Prop := Claim7.holds Tryz.pinned (.plain (OpenSpec.ofChange castsWrappedSpec)) castsWrappedCard

/-- THE SECOND FORM's CARD OF 'lychgatelaw14.CastsTells'. -/
def castsTellsUptoCard : Claim7 := { stood := { row := castsTellsUptoRow, standIns := [], harness := (true, "e8343f1e0ec1012179417134dbcf5429149acde7e9e5bf2348faa51a2f596d5f"), looks := true }, kinds := [], alts := [], laidByText := true, laidKinds := [.data, .data, .data, .sentinel, .sentinel, .data, .data], laidTests := true, laidLooks := .later }
def CastsTellsUptoCardSaid : Prop := Claim7.holds Tryz.pinned (.plain (OpenSpec.upto castsTellsSpec)) castsTellsUptoCard

/-- THE SECOND FORM's CARD OF 'lychgatelaw14.CastsSides'. -/
def castsSidesUptoCard : Claim7 := { stood := { row := castsSidesUptoRow, standIns := [], harness := (true, "e8343f1e0ec1012179417134dbcf5429149acde7e9e5bf2348faa51a2f596d5f"), looks := true }, kinds := [], alts := [], laidByText := true, laidKinds := [.data, .data, .data, .sentinel, .sentinel, .data, .data], laidTests := true, laidLooks := .later }
def CastsSidesUptoCardSaid : Prop := Claim7.holds Tryz.pinned (.plain (OpenSpec.upto castsSidesSpec)) castsSidesUptoCard

/-- THE SECOND FORM's CARD OF 'lychgatelaw14.CastsWrapped'. -/
def castsWrappedUptoCard : Claim7 := { stood := { row := castsWrappedUptoRow, standIns := [], harness := (true, "e8343f1e0ec1012179417134dbcf5429149acde7e9e5bf2348faa51a2f596d5f"), looks := true }, kinds := [], alts := [], laidByText := true, laidKinds := [.data, .data, .data, .sentinel, .sentinel, .data, .data], laidTests := true, laidLooks := .later }
def CastsWrappedUptoCardSaid : Prop := Claim7.holds Tryz.pinned (.plain (OpenSpec.upto castsWrappedSpec)) castsWrappedUptoCard
end Rows
end Go.Proofs.YtmcmdlaedpdoiaaGreatDoor
