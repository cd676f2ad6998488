/-
  DERIVED. GIVEN WITH THE SEED: THE CARDS: each row of YtocopanencbmeaaDoorRows.lean that lists a variable, with what it lists TIED to the program's text (the seventh form; the later family's looks); each row that meets fmt, with fmt's text TOLD by the authors' own Lean function (tested against real Go, not proved from fmt's source: count such statements apart). THE CARD IS WHAT COUNTS. Prove the row's statement (the work); the ties are given (YtocopanencbmeaaDoorTie.lean); close each card by the builder's one call (the guide's Derived/Test/ToyasCard.lean, 'card_holds'). Laid BY PROGRAM, IN A SANDBOX (cutbox-door.mjs). By AI agents, Wed Nov 11 2026. No macro, syntax, notation, axiom, sorry.
-/
import Derived.Test.YtocopanencbmeaaDoorRows
import GoSem.ClaimSeven
namespace Go.Proofs.YtocopanencbmeaaDoor
namespace Rows

/-- THE TIED CARD OF 'lychgatelaw07.OrderLess'. -/
def orderLessCard : Claim7 := { stood := { row := orderLessRow, standIns := [], harness := (true, "b8d0d01788c593bc9cbb861e0b08bffe1d2931303dcc5b6d7d7f938cdffbc0b8"), looks := true }, kinds := [], alts := [], laidByText := true, laidKinds := [.data], laidTests := true, laidLooks := .later }
def OrderLessCardSaid : Prop := Claim7.holds Tryd.pinned (.plain (OpenSpec.ofChange orderLessSpec)) orderLessCard

/-- THE TIED CARD OF 'lychgatelaw07.OrderMeet'. -/
def orderMeetCard : Claim7 := { stood := { row := orderMeetRow, standIns := [], harness := (true, "b8d0d01788c593bc9cbb861e0b08bffe1d2931303dcc5b6d7d7f938cdffbc0b8"), looks := true }, kinds := [], alts := [], laidByText := true, laidKinds := [.data], laidTests := true, laidLooks := .later }
def OrderMeetCardSaid : Prop := Claim7.holds Tryd.pinned (.plain (OpenSpec.ofChange orderMeetSpec)) orderMeetCard

/-- THE TIED CARD OF 'lychgatelaw07.OrderGoes'. -/
def orderGoesCard : Claim7 := { stood := { row := orderGoesRow, standIns := [], harness := (true, "b8d0d01788c593bc9cbb861e0b08bffe1d2931303dcc5b6d7d7f938cdffbc0b8"), looks := true }, kinds := [], alts := [], laidByText := true, laidKinds := [.data], laidTests := true, laidLooks := .later }
def OrderGoesCardSaid : Prop := Claim7.holds Tryd.pinned (.plain (OpenSpec.ofChange orderGoesSpec)) orderGoesCard

/-- THE SECOND FORM's CARD OF 'lychgatelaw07.OrderLess'. -/
def orderLessUptoCard : Claim7 := { stood := { row := orderLessUptoRow, standIns := [], harness := (true, "b8d0d01788c593bc9cbb861e0b08bffe1d2931303dcc5b6d7d7f938cdffbc0b8"), looks := true }, kinds := [], alts := [], laidByText := true, laidKinds := [.data], laidTests := true, laidLooks := .later }
def OrderLessUptoCardSaid : Prop := Claim7.holds Tryd.pinned (.plain (OpenSpec.upto orderLessSpec)) orderLessUptoCard

/-- THE SECOND FORM's CARD OF 'lychgatelaw07.OrderMeet'. -/
def orderMeetUptoCard : Claim7 := { stood := { row := orderMeetUptoRow, standIns := [], harness := (true, "b8d0d01788c593bc9cbb861e0b08bffe1d2931303dcc5b6d7d7f938cdffbc0b8"), looks := true }, kinds := [], alts := [], laidByText := true, laidKinds := [.data], laidTests := true, laidLooks := .later }
def OrderMeetUptoCardSaid : Prop := Claim7.holds Tryd.pinned (.plain (OpenSpec.upto orderMeetSpec)) orderMeetUptoCard

/-- THE SECOND FORM's CARD OF 'lychgatelaw07.OrderGoes'. -/
def orderGoesUptoCard : Claim7 := { stood := { row := orderGoesUptoRow, standIns := [], harness := (true, "b8d0d01788c593bc9cbb861e0b08bffe1d2931303dcc5b6d7d7f938cdffbc0b8"), looks := true }, kinds := [], alts := [], laidByText := true, laidKinds := [.data], laidTests := true, laidLooks := .later }
def OrderGoesUptoCardSaid : Prop := Claim7.holds Tryd.pinned (.plain (OpenSpec.upto orderGoesSpec)) orderGoesUptoCard
end Rows
end Go.Proofs.YtocopanencbmeaaDoor
