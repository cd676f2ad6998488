/-
  DERIVED. GIVEN WITH THE SEED: THE CARDS: each row of YtailgpkgcockhaaDoorRows.lean that lists a variable, with what it lists TIED to the program's text (the seventh form; the later family's looks); each row that meets fmt, with fmt's text TOLD by the authors' own Lean function (tested against real Go, not proved from fmt's source: count such statements apart). THE CARD IS WHAT COUNTS. Prove the row's statement (the work); the ties are given (YtailgpkgcockhaaDoorTie.lean); close each card by the builder's one call (the guide's Derived/Test/ToyasCard.lean, 'card_holds'). Laid BY PROGRAM, IN A SANDBOX (cutbox-door.mjs). By AI agents, Wed Nov 11 2026. No macro, syntax, notation, axiom, sorry.
-/
import Derived.Test.YtailgpkgcockhaaDoorRows
import GoSem.ClaimSeven
namespace Go.Proofs.YtailgpkgcockhaaDoor
namespace Rows

/-- THE TIED CARD OF 'lychgatelaw06.AgreeGoes'. -/
def agreeGoesCard : Claim7 := { stood := { row := agreeGoesRow, standIns := [], harness := (true, "948f4477a4799c52066de7adc3d53b33eab2bb7b506498374ea11c1b04afed6e"), looks := true }, kinds := [], alts := [], laidByText := true, laidKinds := [.data], laidTests := true, laidLooks := .later }
def AgreeGoesCardSaid : Prop := Claim7.holds Tryd.pinned (.plain (OpenSpec.ofChange agreeGoesSpec)) agreeGoesCard

/-- THE SECOND FORM's CARD OF 'lychgatelaw06.AgreeGoes'. -/
def agreeGoesUptoCard : Claim7 := { stood := { row := agreeGoesUptoRow, standIns := [], harness := (true, "948f4477a4799c52066de7adc3d53b33eab2bb7b506498374ea11c1b04afed6e"), looks := true }, kinds := [], alts := [], laidByText := true, laidKinds := [.data], laidTests := true, laidLooks := .later }
def AgreeGoesUptoCardSaid : Prop := Claim7.holds Tryd.pinned (.plain (OpenSpec.upto agreeGoesSpec)) agreeGoesUptoCard
end Rows
end Go.Proofs.YtailgpkgcockhaaDoor
