/-
  DERIVED. GIVEN WITH THE SEED: THE CARDS: each row of YtjbjadadlicbcaaDoorRows.lean that lists a variable, with what it lists TIED to the program's text (the seventh form; the later family's looks); each row that meets fmt, with fmt's text TOLD by the authors' own Lean function (tested against real Go, not proved from fmt's source: count such statements apart). THE CARD IS WHAT COUNTS. Prove the row's statement (the work); the ties are given (YtjbjadadlicbcaaDoorTie.lean); close each card by the builder's one call (the guide's Derived/Test/ToyasCard.lean, 'card_holds'). Laid BY PROGRAM, IN A SANDBOX (cutbox-door.mjs). By AI agents, Wed Nov 11 2026. No macro, syntax, notation, axiom, sorry.
-/
import Derived.Test.YtjbjadadlicbcaaDoorRows
import GoSem.ClaimSeven
namespace Go.Proofs.YtjbjadadlicbcaaDoor
namespace Rows

/-- THE TIED CARD OF 'lychgatelaw06.AgreeTells'. -/
def agreeTellsCard : Claim7 := { stood := { row := agreeTellsRow, standIns := [], harness := (true, "c89610da85499a1eb0be0718bd14dc03096db4cb2132d7d105175ebb2852a593"), looks := true }, kinds := [], alts := [], laidByText := true, laidKinds := [.data], laidTests := true, laidLooks := .later }
def AgreeTellsCardSaid : Prop := Claim7.holds Tryd.pinned (.plain (OpenSpec.ofChange agreeTellsSpec)) agreeTellsCard

/-- THE TIED CARD OF 'lychgatelaw06.AgreeGoes'. -/
def agreeGoesCard : Claim7 := { stood := { row := agreeGoesRow, standIns := [], harness := (true, "c89610da85499a1eb0be0718bd14dc03096db4cb2132d7d105175ebb2852a593"), looks := true }, kinds := [], alts := [], laidByText := true, laidKinds := [.data], laidTests := true, laidLooks := .later }
def AgreeGoesCardSaid : Prop := Claim7.holds Tryd.pinned (.plain (OpenSpec.ofChange agreeGoesSpec)) agreeGoesCard

/-- THE TIED CARD OF 'lychgatelaw06.AgreeParts'. -/
def agreePartsCard : Claim7 := { stood := { row := agreePartsRow, standIns := [], harness := (true, "c89610da85499a1eb0be0718bd14dc03096db4cb2132d7d105175ebb2852a593"), looks := true }, kinds := [], alts := [], laidByText := true, laidKinds := [.data], laidTests := true, laidLooks := .later }
def AgreePartsCardSaid : Prop := Claim7.holds Tryd.pinned (.plain (OpenSpec.ofChange agreePartsSpec)) agreePartsCard

/-- THE SECOND FORM's CARD OF 'lychgatelaw06.AgreeTells'. -/
def agreeTellsUptoCard : Claim7 := { stood := { row := agreeTellsUptoRow, standIns := [], harness := (true, "c89610da85499a1eb0be0718bd14dc03096db4cb2132d7d105175ebb2852a593"), looks := true }, kinds := [], alts := [], laidByText := true, laidKinds := [.data], laidTests := true, laidLooks := .later }
def AgreeTellsUptoCardSaid : Prop := Claim7.holds Tryd.pinned (.plain (OpenSpec.upto agreeTellsSpec)) agreeTellsUptoCard

/-- THE SECOND FORM's CARD OF 'lychgatelaw06.AgreeGoes'. -/
def agreeGoesUptoCard : Claim7 := { stood := { row := agreeGoesUptoRow, standIns := [], harness := (true, "c89610da85499a1eb0be0718bd14dc03096db4cb2132d7d105175ebb2852a593"), looks := true }, kinds := [], alts := [], laidByText := true, laidKinds := [.data], laidTests := true, laidLooks := .later }
def AgreeGoesUptoCardSaid : Prop := Claim7.holds Tryd.pinned (.plain (OpenSpec.upto agreeGoesSpec)) agreeGoesUptoCard

/-- THE SECOND FORM's CARD OF 'lychgatelaw06.AgreeParts'. -/
def agreePartsUptoCard : Claim7 := { stood := { row := agreePartsUptoRow, standIns := [], harness := (true, "c89610da85499a1eb0be0718bd14dc03096db4cb2132d7d105175ebb2852a593"), looks := true }, kinds := [], alts := [], laidByText := true, laidKinds := [.data], laidTests := true, laidLooks := .later }
def AgreePartsUptoCardSaid : Prop := Claim7.holds Tryd.pinned (.plain (OpenSpec.upto agreePartsSpec)) agreePartsUptoCard
end Rows
end Go.Proofs.YtjbjadadlicbcaaDoor
