/-
  DERIVED. GIVEN WITH THE SEED: THE CARDS: each row of YtjngdhbaobbaeaaDoorRows.lean that lists a variable, with what it lists TIED to the program's text (the seventh form; the later family's looks); each row that meets fmt, with fmt's text TOLD by the authors' own Lean function (tested against real Go, not proved from fmt's source: count such statements apart). THE CARD IS WHAT COUNTS. Prove the row's statement (the work); the ties are given (YtjngdhbaobbaeaaDoorTie.lean); close each card by the builder's one call (the guide's Derived/Test/ToyasCard.lean, 'card_holds'). Laid BY PROGRAM, IN A SANDBOX (cutbox-door.mjs). By AI agents, Wed Nov 11 2026. No macro, syntax, notation, axiom, sorry.
-/
import Derived.Test.YtjngdhbaobbaeaaDoorRows
import GoSem.ClaimSeven
namespace Go.Proofs.YtjngdhbaobbaeaaDoor
namespace Rows

/-- THE TIED CARD OF 'lychgatelaw01.ScanAll'. -/
def scanAllCard : Claim7 := { stood := { row := scanAllRow, standIns := [], harness := (true, "f267bb914fae2b9f4682e5570336dc6419a8e92b918f84a0a7393ddc307c9de2"), looks := true }, kinds := [], alts := [], laidByText := true, laidKinds := [.data, .data, .data, .handle, .sentinel, .sentinel], laidTests := true, laidLooks := .later }
def ScanAllCardSaid : Prop := Claim7.holds Tryd.pinned (.plain (OpenSpec.ofChange scanAllSpec)) scanAllCard

/-- THE TIED CARD OF 'lychgatelaw01.ScanWord'. -/
def scanWordCard : Claim7 := { stood := { row := scanWordRow, standIns := [], harness := (true, "f267bb914fae2b9f4682e5570336dc6419a8e92b918f84a0a7393ddc307c9de2"), looks := true }, kinds := [], alts := [], laidByText := true, laidKinds := [.data, .data, .data, .sentinel, .sentinel], laidTests := true, laidLooks := .later }
def ScanWordCardSaid : Prop := Claim7.holds Tryd.pinned (.plain (OpenSpec.ofChange scanWordSpec)) scanWordCard

/-- THE TIED CARD OF 'lychgatelaw01.ScanKnown'. -/
def scanKnownCard : Claim7 := { stood := { row := scanKnownRow, standIns := [], harness := (true, "f267bb914fae2b9f4682e5570336dc6419a8e92b918f84a0a7393ddc307c9de2"), looks := true }, kinds := [], alts := [], laidByText := true, laidKinds := [.data, .data, .data, .handle, .sentinel, .sentinel], laidTests := true, laidLooks := .later }
def ScanKnownCardSaid : Prop := Claim7.holds Tryd.pinned (.plain (OpenSpec.ofChange scanKnownSpec)) scanKnownCard

/-- THE TIED CARD OF 'lychgatelaw01.ScanParted'. -/
def scanPartedCard : Claim7 := { stood := { row := scanPartedRow, standIns := [], harness := (true, "f267bb914fae2b9f4682e5570336dc6419a8e92b918f84a0a7393ddc307c9de2"), looks := true }, kinds := [], alts := [], laidByText := true, laidKinds := [.data, .data, .data, .sentinel, .sentinel], laidTests := true, laidLooks := .later }
def ScanPartedCardSaid : Prop := Claim7.holds Tryd.pinned (.plain (OpenSpec.ofChange scanPartedSpec)) scanPartedCard

/-- THE TIED CARD OF 'lychgatelaw01.ScanAhead'. -/
def scanAheadCard : Claim7 := { stood := { row := scanAheadRow, standIns := [], harness := (true, "f267bb914fae2b9f4682e5570336dc6419a8e92b918f84a0a7393ddc307c9de2"), looks := true }, kinds := [], alts := [], laidByText := true, laidKinds := [.data, .data, .data, .sentinel, .sentinel], laidTests := true, laidLooks := .later }
def ScanAheadCardSaid : Prop := Claim7.holds Tryd.pinned (.plain (OpenSpec.ofChange scanAheadSpec)) scanAheadCard

/-- THE SECOND FORM's CARD OF 'lychgatelaw01.ScanAll'. -/
def scanAllUptoCard : Claim7 := { stood := { row := scanAllUptoRow, standIns := [], harness := (true, "f267bb914fae2b9f4682e5570336dc6419a8e92b918f84a0a7393ddc307c9de2"), looks := true }, kinds := [], alts := [], laidByText := true, laidKinds := [.data, .data, .data, .handle, .sentinel, .sentinel], laidTests := true, laidLooks := .later }
def ScanAllUptoCardSaid : Prop := Claim7.holds Tryd.pinned (.plain (OpenSpec.upto scanAllSpec)) scanAllUptoCard

/-- THE SECOND FORM's CARD OF 'lychgatelaw01.ScanWord'. -/
def scanWordUptoCard : Claim7 := { stood := { row := scanWordUptoRow, standIns := [], harness := (true, "f267bb914fae2b9f4682e5570336dc6419a8e92b918f84a0a7393ddc307c9de2"), looks := true }, kinds := [], alts := [], laidByText := true, laidKinds := [.data, .data, .data, .sentinel, .sentinel], laidTests := true, laidLooks := .later }
def ScanWordUptoCardSaid : Prop := Claim7.holds Tryd.pinned (.plain (OpenSpec.upto scanWordSpec)) scanWordUptoCard

/-- THE SECOND FORM's CARD OF 'lychgatelaw01.ScanKnown'. -/
def scanKnownUptoCard : Claim7 := { stood := { row := scanKnownUptoRow, standIns := [], harness := (true, "f267bb914fae2b9f4682e5570336dc6419a8e92b918f84a0a7393ddc307c9de2"), looks := true }, kinds := [], alts := [], laidByText := true, laidKinds := [.data, .data, .data, .handle, .sentinel, .sentinel], laidTests := true, laidLooks := .later }
def ScanKnownUptoCardSaid : Prop := Claim7.holds Tryd.pinned (.plain (OpenSpec.upto scanKnownSpec)) scanKnownUptoCard

/-- THE SECOND FORM's CARD OF 'lychgatelaw01.ScanParted'. -/
def scanPartedUptoCard : Claim7 := { stood := { row := scanPartedUptoRow, standIns := [], harness := (true, "f267bb914fae2b9f4682e5570336dc6419a8e92b918f84a0a7393ddc307c9de2"), looks := true }, kinds := [], alts := [], laidByText := true, laidKinds := [.data, .data, .data, .sentinel, .sentinel], laidTests := true, laidLooks := .later }
def ScanPartedUptoCardSaid : Prop := Claim7.holds Tryd.pinned (.plain (OpenSpec.upto scanPartedSpec)) scanPartedUptoCard

/-- THE SECOND FORM's CARD OF 'lychgatelaw01.ScanAhead'. -/
def scanAheadUptoCard : Claim7 := { stood := { row := scanAheadUptoRow, standIns := [], harness := (true, "f267bb914fae2b9f4682e5570336dc6419a8e92b918f84a0a7393ddc307c9de2"), looks := true }, kinds := [], alts := [], laidByText := true, laidKinds := [.data, .data, .data, .sentinel, .sentinel], laidTests := true, laidLooks := .later }
def ScanAheadUptoCardSaid : Prop := Claim7.holds Tryd.pinned (.plain (OpenSpec.upto scanAheadSpec)) scanAheadUptoCard
end Rows
end Go.Proofs.YtjngdhbaobbaeaaDoor
