/-
  DERIVED. GIVEN WITH THE SEED: THE CARDS: each row of YtccobmjakmjekaaGreatDoorRows.lean that lists a variable, with what it lists TIED to the program's text (the seventh form; the later family's looks); each row that meets fmt, with fmt's text TOLD by the authors' own Lean function (tested against real Go, not proved from fmt's source: count such statements apart). THE CARD IS WHAT COUNTS. Prove the row's statement (the work); the ties are given (YtccobmjakmjekaaGreatDoorTie.lean); close each card by the builder's one call (the guide's Derived/Test/ToyasCard.lean, 'card_holds'). Laid BY PROGRAM, IN A SANDBOX (cutbox-door.mjs). By AI agents, Wed Nov 11 2026. No macro, syntax, notation, axiom, sorry.
-/
import Derived.Test.YtccobmjakmjekaaGreatDoorRows
import GoSem.ClaimSeven
namespace Go.Proofs.YtccobmjakmjekaaGreatDoor
namespace Rows

/-- THE TIED CARD OF 'lychgatelaw03.TermsCheck'. -/
def termsCheckCard : Claim7 := { stood := { row := termsCheckRow, standIns := [], harness := (true, "65d70fbc11b92cfd658c29e30b7901d4e63297c67d3863155dfa0fe44a927503"), looks := true }, kinds := [], alts := [], laidByText := true, laidKinds := [.data, .data, .data, .sentinel, .sentinel, .data, .data], laidTests := true, laidLooks := .later }
def TermsCheckCardSaid : Prop := Claim7.holds Tryz.pinned (.plain (OpenSpec.ofChange termsCheckSpec)) termsCheckCard

/-- THE TIED CARD OF 'lychgatelaw03.TermsSame'. -/
def termsSameCard : Claim7 := { stood := { row := termsSameRow, standIns := [], harness := (true, "65d70fbc11b92cfd658c29e30b7901d4e63297c67d3863155dfa0fe44a927503"), looks := true }, kinds := [], alts := [], laidByText := true, laidKinds := [.data, .data, .data, .sentinel, .sentinel, .data, .data], laidTests := true, laidLooks := .later }
def TermsSameCardSaid : Prop := Claim7.holds Tryz.pinned (.plain (OpenSpec.ofChange termsSameSpec)) termsSameCard

/-- THE TIED CARD OF 'lychgatelaw03.TermsFree'. -/
def termsFreeCard : Claim7 := { stood := { row := termsFreeRow, standIns := [], harness := (true, "65d70fbc11b92cfd658c29e30b7901d4e63297c67d3863155dfa0fe44a927503"), looks := true }, kinds := [], alts := [], laidByText := true, laidKinds := [.data, .data, .data, .sentinel, .sentinel, .data, .data], laidTests := true, laidLooks := .later }
def TermsFreeCardSaid : Prop := Claim7.holds Tryz.pinned (.plain (OpenSpec.ofChange termsFreeSpec)) termsFreeCard

/-- THE TIED CARD OF 'lychgatelaw03.TermsBare'. -/
def termsBareCard : Claim7 := { stood := { row := termsBareRow, standIns := [], harness := (true, "65d70fbc11b92cfd658c29e30b7901d4e63297c67d3863155dfa0fe44a927503"), looks := true }, kinds := [], alts := [], laidByText := true, laidKinds := [.data, .data, .data, .sentinel, .sentinel, .data, .data], laidTests := true, laidLooks := .later }
def TermsBareCardSaid : Prop := Claim7.holds Tryz.pinned (.plain (OpenSpec.ofChange termsBareSpec)) termsBareCard

/-- THE TIED CARD OF 'lychgatelaw03.TermsKnown'. -/
def termsKnownCard : Claim7 := { stood := { row := termsKnownRow, standIns := [], harness := (true, "65d70fbc11b92cfd658c29e30b7901d4e63297c67d3863155dfa0fe44a927503"), looks := true }, kinds := [], alts := [], laidByText := true, laidKinds := [.data, .data, .data, .sentinel, .sentinel, .data, .data], laidTests := true, laidLooks := .later }
def TermsKnownCardSaid : Prop := Claim7.holds Tryz.pinned (.plain (OpenSpec.ofChange termsKnownSpec)) termsKnownCard

/-- THE TIED CARD OF 'lychgatelaw03.TermsOnce'. -/
def termsOnceCard : Claim7 := { stood := { row := termsOnceRow, standIns := [], harness := (true, "65d70fbc11b92cfd658c29e30b7901d4e63297c67d3863155dfa0fe44a927503"), looks := true }, kinds := [], alts := [], laidByText := true, laidKinds := [.data, .data, .data, .sentinel, .sentinel, .data, .data], laidTests := true, laidLooks := .later }
def TermsOnceCardSaid : Prop := Claim7.holds Tryz.pinned (.plain (OpenSpec.ofChange termsOnceSpec)) termsOnceCard

/-- THE SECOND FORM's CARD OF 'lychgatelaw03.TermsCheck'. -/
def termsCheckUptoCard : Claim7 := { stood := { row := termsCheckUptoRow, standIns := [], harness := (true, "65d70fbc11b92cfd658c29e30b7901d4e63297c67d3863155dfa0fe44a927503"), looks := true }, kinds := [], alts := [], laidByText := true, laidKinds := [.data, .data, .data, .sentinel, .sentinel, .data, .data], laidTests := true, laidLooks := .later }
def TermsCheckUptoCardSaid : Prop := Claim7.holds Tryz.pinned (.plain (OpenSpec.upto termsCheckSpec)) termsCheckUptoCard

/-- THE SECOND FORM's CARD OF 'lychgatelaw03.TermsSame'. -/
def termsSameUptoCard : Claim7 := { stood := { row := termsSameUptoRow, standIns := [], harness := (true, "65d70fbc11b92cfd658c29e30b7901d4e63297c67d3863155dfa0fe44a927503"), looks := true }, kinds := [], alts := [], laidByText := true, laidKinds := [.data, .data, .data, .sentinel, .sentinel, .data, .data], laidTests := true, laidLooks := .later }
def TermsSameUptoCardSaid : Prop := Claim7.holds Tryz.pinned (.plain (OpenSpec.upto termsSameSpec)) termsSameUptoCard

/-- THE SECOND FORM's CARD OF 'lychgatelaw03.TermsFree'. -/
def termsFreeUptoCard : Claim7 := { stood := { row := termsFreeUptoRow, standIns := [], harness := (true, "65d70fbc11b92cfd658c29e30b7901d4e63297c67d3863155dfa0fe44a927503"), looks := true }, kinds := [], alts := [], laidByText := true, laidKinds := [.data, .data, .data, .sentinel, .sentinel, .data, .data], laidTests := true, laidLooks := .later }
def TermsFreeUptoCardSaid : Prop := Claim7.holds Tryz.pinned (.plain (OpenSpec.upto termsFreeSpec)) termsFreeUptoCard

/-- THE SECOND FORM's CARD OF 'lychgatelaw03.TermsBare'. -/
def termsBareUptoCard : Claim7 := { stood := { row := termsBareUptoRow, standIns := [], harness := (true, "65d70fbc11b92cfd658c29e30b7901d4e63297c67d3863155dfa0fe44a927503"), looks := true }, kinds := [], alts := [], laidByText := true, laidKinds := [.data, .data, .data, .sentinel, .sentinel, .data, .data], laidTests := true, laidLooks := .later }
def TermsBareUptoCardSaid : Prop := Claim7.holds Tryz.pinned (.plain (OpenSpec.upto termsBareSpec)) termsBareUptoCard

/-- THE SECOND FORM's CARD OF 'lychgatelaw03.TermsKnown'. -/
def termsKnownUptoCard : Claim7 := { stood := { row := termsKnownUptoRow, standIns := [], harness := (true, "65d70fbc11b92cfd658c29e30b7901d4e63297c67d3863155dfa0fe44a927503"), looks := true }, kinds := [], alts := [], laidByText := true, laidKinds := [.data, .data, .data, .sentinel, .sentinel, .data, .data], laidTests := true, laidLooks := .later }
def TermsKnownUptoCardSaid : Prop := Claim7.holds Tryz.pinned (.plain (OpenSpec.upto termsKnownSpec)) termsKnownUptoCard

/-- THE SECOND FORM's CARD OF 'lychgatelaw03.TermsOnce'. -/
def termsOnceUptoCard : Claim7 := { stood := { row := termsOnceUptoRow, standIns := [], harness := (true, "65d70fbc11b92cfd658c29e30b7901d4e63297c67d3863155dfa0fe44a927503"), looks := true }, kinds := [], alts := [], laidByText := true, laidKinds := [.data, .data, .data, .sentinel, .sentinel, .data, .data], laidTests := true, laidLooks := .later }
def TermsOnceUptoCardSaid : Prop := Claim7.holds Tryz.pinned (.plain (OpenSpec.upto termsOnceSpec)) termsOnceUptoCard
end Rows
end Go.Proofs.YtccobmjakmjekaaGreatDoor
