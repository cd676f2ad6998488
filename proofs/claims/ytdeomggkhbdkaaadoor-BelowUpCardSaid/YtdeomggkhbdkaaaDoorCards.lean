/-
  DERIVED. GIVEN WITH THE SEED: THE CARDS: each row of YtdeomggkhbdkaaaDoorRows.lean that lists a variable, with what it lists TIED to the program's text (the seventh form; the later family's looks); each row that meets fmt, with fmt's text TOLD by the authors' own Lean function (tested against real Go, not proved from fmt's source: count such statements apart). THE CARD IS WHAT COUNTS. Prove the row's statement (the work); the ties are given (YtdeomggkhbdkaaaDoorTie.lean); close each card by the builder's one call (the guide's Derived/Test/ToyasCard.lean, 'card_holds'). Laid BY PROGRAM, IN A SANDBOX (cutbox-door.mjs). By AI agents, Wed Nov 11 2026. No macro, syntax, notation, axiom, sorry.
-/
import Derived.Test.YtdeomggkhbdkaaaDoorRows
import GoSem.ClaimSeven
namespace Go.Proofs.YtdeomggkhbdkaaaDoor
namespace Rows

/-- THE TIED CARD OF 'lychgatelaw08.BelowTells'. -/
def belowTellsCard : Claim7 := { stood := { row := belowTellsRow, standIns := [], harness := (true, "6b22801065ad3c55e6a16d394c7a13b7c57c6724b91909f08869291bdfd16064"), looks := true }, kinds := [], alts := [], laidByText := true, laidKinds := [.data], laidTests := true, laidLooks := .later }
def BelowTellsCardSaid : Prop := Claim7.holds Tryd.pinned (.plain (OpenSpec.ofChange belowTellsSpec)) belowTellsCard

/-- THE TIED CARD OF 'lychgatelaw08.BelowBoth'. -/
def belowBothCard : Claim7 := { stood := { row := belowBothRow, standIns := [], harness := (true, "6b22801065ad3c55e6a16d394c7a13b7c57c6724b91909f08869291bdfd16064"), looks := true }, kinds := [], alts := [], laidByText := true, laidKinds := [.data], laidTests := true, laidLooks := .later }
def BelowBothCardSaid : Prop := Claim7.holds Tryd.pinned (.plain (OpenSpec.ofChange belowBothSpec)) belowBothCard

/-- THE TIED CARD OF 'lychgatelaw08.BelowOrders'. -/
def belowOrdersCard : Claim7 := { stood := { row := belowOrdersRow, standIns := [], harness := (true, "6b22801065ad3c55e6a16d394c7a13b7c57c6724b91909f08869291bdfd16064"), looks := true }, kinds := [], alts := [], laidByText := true, laidKinds := [.data], laidTests := true, laidLooks := .later }
def BelowOrdersCardSaid : Prop := Claim7.holds Tryd.pinned (.plain (OpenSpec.ofChange belowOrdersSpec)) belowOrdersCard

/-- THE TIED CARD OF 'lychgatelaw08.BelowUp'. -/
def belowUpCard : Claim7 := { stood := { row := belowUpRow, standIns := [], harness := (true, "6b22801065ad3c55e6a16d394c7a13b7c57c6724b91909f08869291bdfd16064"), looks := true }, kinds := [], alts := [], laidByText := true, laidKinds := [.data], laidTests := true, laidLooks := .later }
def BelowUpCardSaid : Prop := Claim7.holds Tryd.pinned (.plain (OpenSpec.ofChange belowUpSpec)) belowUpCard

/-- THE SECOND FORM's CARD OF 'lychgatelaw08.BelowTells'. -/
def belowTellsUptoCard : Claim7 := { stood := { row := belowTellsUptoRow, standIns := [], harness := (true, "6b22801065ad3c55e6a16d394c7a13b7c57c6724b91909f08869291bdfd16064"), looks := true }, kinds := [], alts := [], laidByText := true, laidKinds := [.data], laidTests := true, laidLooks := .later }
def BelowTellsUptoCardSaid : Prop := Claim7.holds Tryd.pinned (.plain (OpenSpec.upto belowTellsSpec)) belowTellsUptoCard

/-- THE SECOND FORM's CARD OF 'lychgatelaw08.BelowBoth'. -/
def belowBothUptoCard : Claim7 := { stood := { row := belowBothUptoRow, standIns := [], harness := (true, "6b22801065ad3c55e6a16d394c7a13b7c57c6724b91909f08869291bdfd16064"), looks := true }, kinds := [], alts := [], laidByText := true, laidKinds := [.data], laidTests := true, laidLooks := .later }
def BelowBothUptoCardSaid : Prop := Claim7.holds Tryd.pinned (.plain (OpenSpec.upto belowBothSpec)) belowBothUptoCard

/-- THE SECOND FORM's CARD OF 'lychgatelaw08.BelowOrders'. -/
def belowOrdersUptoCard : Claim7 := { stood := { row := belowOrdersUptoRow, standIns := [], harness := (true, "6b22801065ad3c55e6a16d394c7a13b7c57c6724b91909f08869291bdfd16064"), looks := true }, kinds := [], alts := [], laidByText := true, laidKinds := [.data], laidTests := true, laidLooks := .later }
def BelowOrdersUptoCardSaid : Prop := Claim7.holds Tryd.pinned (.plain (OpenSpec.upto belowOrdersSpec)) belowOrdersUptoCard

/-- THE SECOND FORM's CARD OF 'lychgatelaw08.BelowUp'. -/
def belowUpUptoCard : Claim7 := { stood := { row := belowUpUptoRow, standIns := [], harness := (true, "6b22801065ad3c55e6a16d394c7a13b7c57c6724b91909f08869291bdfd16064"), looks := true }, kinds := [], alts := [], laidByText := true, laidKinds := [.data], laidTests := true, laidLooks := .later }
def BelowUpUptoCardSaid : Prop := Claim7.holds Tryd.pinned (.plain (OpenSpec.upto belowUpSpec)) belowUpUptoCard
end Rows
end Go.Proofs.YtdeomggkhbdkaaaDoor
