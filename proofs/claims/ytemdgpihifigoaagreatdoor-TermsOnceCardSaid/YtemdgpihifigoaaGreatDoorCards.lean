/-
  DERIVED. GIVEN WITH THE SEED: THE CARDS: each row of YtemdgpihifigoaaGreatDoorRows.lean that lists a variable, with what it lists TIED to the program's text (the seventh form; the later family's looks); each row that meets fmt, with fmt's text TOLD by the authors' own Lean function (tested against real Go, not proved from fmt's source: count such statements apart). THE CARD IS WHAT COUNTS. Prove the row's statement (the work); the ties are given (YtemdgpihifigoaaGreatDoorTie.lean); close each card by the builder's one call (the guide's Derived/Test/ToyasCard.lean, 'card_holds'). Laid BY PROGRAM, IN A SANDBOX (cutbox-door.mjs). By AI agents, Wed Nov 11 2026. No macro, syntax, notation, axiom, sorry.
-/
import Derived.Test.YtemdgpihifigoaaGreatDoorRows
import GoSem.ClaimSeven
namespace Go.Proofs.YtemdgpihifigoaaGreatDoor
namespace Rows

/-- THE TIED CARD OF 'lychgatelaw03.TermsFree'. -/
def termsFreeCard : Claim7 := { stood := { row := termsFreeRow, standIns := [], harness := (true, "febcfa29f65b270ad115bbb045b710d316b393588a97b9f5dfadae752cc3ca4d"), looks := true }, kinds := [], alts := [], laidByText := true, laidKinds := [.data, .data, .data, .sentinel, .sentinel, .data, .data], laidTests := true, laidLooks := .later }
def TermsFreeCardSaid : Prop := Claim7.holds Tryz.pinned (.plain (OpenSpec.ofChange termsFreeSpec)) termsFreeCard

/-- THE TIED CARD OF 'lychgatelaw03.TermsKnown'. -/
def termsKnownCard : Claim7 := { stood := { row := termsKnownRow, standIns := [], harness := (true, "febcfa29f65b270ad115bbb045b710d316b393588a97b9f5dfadae752cc3ca4d"), looks := true }, kinds := [], alts := [], laidByText := true, laidKinds := [.data, .data, .data, .sentinel, .sentinel, .data, .data], laidTests := true, laidLooks := .later }
def TermsKnownCardSaid : Prop := Claim7.holds Tryz.pinned (.plain (OpenSpec.ofChange termsKnownSpec)) termsKnownCard

/-- THE TIED CARD OF 'lychgatelaw03.TermsOnce'. -/
def termsOnceCard : Claim7 := { stood := { row := termsOnceRow, standIns := [], harness := (true, "febcfa29f65b270ad115bbb045b710d316b393588a97b9f5dfadae752cc3ca4d"), looks := true }, kinds := [], alts := [], laidByText := true, laidKinds := [.data, .data, .data, .sentinel, .sentinel, .data, .data], laidTests := true, laidLooks := .later }
def TermsOnceCardSaid : Prop := Claim7.holds Tryz.pinned (.plain (OpenSpec.ofChange termsOnceSpec)) termsOnceCard

/-- THE TIED CARD OF 'lychgatelaw04.ParseTexts'. -/
def parseTextsCard : Claim7 := { stood := { row := parseTextsRow, standIns := [], harness := (true, "febcfa29f65b270ad115bbb045b710d316b393588a97b9f5dfadae752cc3ca4d"), looks := true }, kinds := [], alts := [], laidByText := true, laidKinds := [.data, .data, .data, .handle, .sentinel, .sentinel, .data, .data], laidTests := true, laidLooks := .later }
def ParseTextsCardSaid : Prop := Claim7.holds Tryz.pinned (.plain (OpenSpec.ofChange parseTextsSpec)) parseTextsCard

/-- THE SECOND FORM's CARD OF 'lychgatelaw03.TermsFree'. -/
def termsFreeUptoCard : Claim7 := { stood := { row := termsFreeUptoRow, standIns := [], harness := (true, "febcfa29f65b270ad115bbb045b710d316b393588a97b9f5dfadae752cc3ca4d"), looks := true }, kinds := [], alts := [], laidByText := true, laidKinds := [.data, .data, .data, .sentinel, .sentinel, .data, .data], laidTests := true, laidLooks := .later }
def TermsFreeUptoCardSaid : Prop := Claim7.holds Tryz.pinned (.plain (OpenSpec.upto termsFreeSpec)) termsFreeUptoCard

/-- THE SECOND FORM's CARD OF 'lychgatelaw03.TermsKnown'. -/
def termsKnownUptoCard : Claim7 := { stood := { row := termsKnownUptoRow, standIns := [], harness := (true, "febcfa29f65b270ad115bbb045b710d316b393588a97b9f5dfadae752cc3ca4d"), looks := true }, kinds := [], alts := [], laidByText := true, laidKinds := [.data, .data, .data, .sentinel, .sentinel, .data, .data], laidTests := true, laidLooks := .later }
def TermsKnownUptoCardSaid : Prop := Claim7.holds Tryz.pinned (.plain (OpenSpec.upto termsKnownSpec)) termsKnownUptoCard

/-- THE SECOND FORM's CARD OF 'lychgatelaw03.TermsOnce'. -/
def termsOnceUptoCard : Claim7 := { stood := { row := termsOnceUptoRow, standIns := [], harness := (true, "febcfa29f65b270ad115bbb045b710d316b393588a97b9f5dfadae752cc3ca4d"), looks := true }, kinds := [], alts := [], laidByText := true, laidKinds := [.data, .data, .data, .sentinel, .sentinel, .data, .data], laidTests := true, laidLooks := .later }
def TermsOnceUptoCardSaid : Prop := Claim7.holds Tryz.pinned (.plain (OpenSpec.upto termsOnceSpec)) termsOnceUptoCard

/-- THE SECOND FORM's CARD OF 'lychgatelaw04.ParseTexts'. -/
def parseTextsUptoCard : Claim7 := { stood := { row := parseTextsUptoRow, standIns := [], harness := (true, "febcfa29f65b270ad115bbb045b710d316b393588a97b9f5dfadae752cc3ca4d"), looks := true }, kinds := [], alts := [], laidByText := true, laidKinds := [.data, .data, .data, .handle, .sentinel, .sentinel, .data, .data], laidTests := true, laidLooks := .later }
def ParseTextsUptoCardSaid : Prop := Claim7.holds Tryz.pinned (.plain (OpenSpec.upto parseTextsSpec)) parseTextsUptoCard
end Rows
end Go.Proofs.YtemdgpihifigoaaGreatDoor
