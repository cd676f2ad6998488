/-
  DERIVED. GIVEN WITH THE SEED: THE CARDS: each row of YtfkbdpehdabepaaGreatDoorRows.lean that lists a variable, with what it lists TIED to the program's text (the seventh form; the later family's looks); each row that meets fmt, with fmt's text TOLD by the authors' own Lean function (tested against real Go, not proved from fmt's source: count such statements apart). THE CARD IS WHAT COUNTS. Prove the row's statement (the work); the ties are given (YtfkbdpehdabepaaGreatDoorTie.lean); close each card by the builder's one call (the guide's Derived/Test/ToyasCard.lean, 'card_holds'). Laid BY PROGRAM, IN A SANDBOX (cutbox-door.mjs). By AI agents, Wed Nov 11 2026. No macro, syntax, notation, axiom, sorry.
-/
import Derived.Test.YtfkbdpehdabepaaGreatDoorRows
import GoSem.ClaimSeven
namespace Go.Proofs.YtfkbdpehdabepaaGreatDoor
namespace Rows

/-- THE TIED CARD OF 'lychgatelaw03.TermsBare'. -/
def termsBareCard : Claim7 := { stood := { row := termsBareRow, standIns := [], harness := (true, "cfbdbe63737c495b92cbf6b793c4c755cb8fd153a6cc0b17123e5ac58c6b30fd"), looks := true }, kinds := [], alts := [], laidByText := true, laidKinds := [.data, .data, .data, .sentinel, .sentinel, .data, .data], laidTests := true, laidLooks := .later }
def TermsBareCardSaid : Prop := Claim7.holds Tryz.pinned (.plain (OpenSpec.ofChange termsBareSpec)) termsBareCard

/-- THE TIED CARD OF 'lychgatelaw03.TermsOnce'. -/
def termsOnceCard : Claim7 := { stood := { row := termsOnceRow, standIns := [], harness := (true, "cfbdbe63737c495b92cbf6b793c4c755cb8fd153a6cc0b17123e5ac58c6b30fd"), looks := true }, kinds := [], alts := [], laidByText := true, laidKinds := [.data, .data, .data, .sentinel, .sentinel, .data, .data], laidTests := true, laidLooks := .later }
def TermsOnceCardSaid : Prop := Claim7.holds Tryz.pinned (.plain (OpenSpec.ofChange termsOnceSpec)) termsOnceCard

/-- THE TIED CARD OF 'lychgatelaw07.OrderTerms'. -/
def orderTermsCard : Claim7 := { stood := { row := orderTermsRow, standIns := [], harness := (true, "cfbdbe63737c495b92cbf6b793c4c755cb8fd153a6cc0b17123e5ac58c6b30fd"), looks := true }, kinds := [], alts := [], laidByText := true, laidKinds := [.data, .data, .data, .sentinel, .sentinel, .data, .data], laidTests := true, laidLooks := .later }
def OrderTermsCardSaid : Prop := Claim7.holds Tryz.pinned (.plain (OpenSpec.ofChange orderTermsSpec)) orderTermsCard

/-- THE TIED CARD OF 'lychgatelaw14.CastsTells'. -/
def castsTellsCard : Claim7 := { stood := { row := castsTellsRow, standIns := [], harness := (true, "cfbdbe63737c495b92cbf6b793c4c755cb8fd153a6cc0b17123e5ac58c6b30fd"), looks := true }, kinds := [], alts := [], laidByText := true, laidKinds := [.data, .data, .data, .sentinel, .sentinel, .data, .data], laidTests := true, laidLooks := .later }
def CastsTellsCardSaid : Prop := Claim7.holds Tryz.pinned (.plain (OpenSpec.ofChange castsTellsSpec)) castsTellsCard

/-- THE TIED CARD OF 'lychgatelaw14.CastsSides'. -/
def castsSidesCard : Claim7 := { stood := { row := castsSidesRow, standIns := [], harness := (true, "cfbdbe63737c495b92cbf6b793c4c755cb8fd153a6cc0b17123e5ac58c6b30fd"), looks := true }, kinds := [], alts := [], laidByText := true, laidKinds := [.data, .data, .data, .sentinel, .sentinel, .data, .data], laidTests := true, laidLooks := .later }
def CastsSidesCardSaid : Prop := Claim7.holds Tryz.pinned (.plain (OpenSpec.ofChange castsSidesSpec)) castsSidesCard

/-- THE TIED CARD OF 'lychgatelaw14.CastsWrapped'. -/
def castsWrappedCard : Claim7 := { stood := { row := castsWrappedRow, standIns := [], harness := (true, "cfbdbe63737c495b92cbf6b793c4c755cb8fd153a6cc0b17123e5ac58c6b30fd"), looks := true }, kinds := [], alts := [], laidByText := true, laidKinds := [.data, .data, .data, .sentinel, .sentinel, .data, .data], laidTests := true, laidLooks := .later }
def CastsWrappedCardSaid : Prop := Claim7.holds Tryz.pinned (.plain (OpenSpec.ofChange castsWrappedSpec)) castsWrappedCard

/-- THE SECOND FORM's CARD OF 'lychgatelaw03.TermsBare'. -/
def termsBareUptoCard : Claim7 := { stood := { row := termsBareUptoRow, standIns := [], harness := (true, "cfbdbe63737c495b92cbf6b793c4c755cb8fd153a6cc0b17123e5ac58c6b30fd"), looks := true }, kinds := [], alts := [], laidByText := true, laidKinds := [.data, .data, .data, .sentinel, .sentinel, .data, .data], laidTests := true, laidLooks := .later }
def TermsBareUptoCardSaid : Prop := Claim7.holds Tryz.pinned (.plain (OpenSpec.upto termsBareSpec)) termsBareUptoCard

/-- THE SECOND FORM's CARD OF 'lychgatelaw03.TermsOnce'. -/
def termsOnceUptoCard : Claim7 := { stood := { row := termsOnceUptoRow, standIns := [], harness := (true, "cfbdbe63737c495b92cbf6b793c4c755cb8fd153a6cc0b17123e5ac58c6b30fd"), looks := true }, kinds := [], alts := [], laidByText := true, laidKinds := [.data, .data, .data, .sentinel, .sentinel, .data, .data], laidTests := true, laidLooks := .later }
def TermsOnceUptoCardSaid : Prop := Claim7.holds Tryz.pinned (.plain (OpenSpec.upto termsOnceSpec)) termsOnceUptoCard

/-- THE SECOND FORM's CARD OF 'lychgatelaw07.OrderTerms'. -/
def orderTermsUptoCard : Claim7 := { stood := { row := orderTermsUptoRow, standIns := [], harness := (true, "cfbdbe63737c495b92cbf6b793c4c755cb8fd153a6cc0b17123e5ac58c6b30fd"), looks := true }, kinds := [], alts := [], laidByText := true, laidKinds := [.data, .data, .data, .sentinel, .sentinel, .data, .data], laidTests := true, laidLooks := .later }
def OrderTermsUptoCardSaid : Prop := Claim7.holds Tryz.pinned (.plain (OpenSpec.upto orderTermsSpec)) orderTermsUptoCard

/-- THE SECOND FORM's CARD OF 'lychgatelaw14.CastsTells'. -/
def castsTellsUptoCard : Claim7 := { stood := { row := castsTellsUptoRow, standIns := [], harness := (true, "cfbdbe63737c495b92cbf6b793c4c755cb8fd153a6cc0b17123e5ac58c6b30fd"), looks := true }, kinds := [], alts := [], laidByText := true, laidKinds := [.data, .data, .data, .sentinel, .sentinel, .data, .data], laidTests := true, laidLooks := .later }
def CastsTellsUptoCardSaid : Prop := Claim7.holds Tryz.pinned (.plain (OpenSpec.upto castsTellsSpec)) castsTellsUptoCard

/-- THE SECOND FORM's CARD OF 'lychgatelaw14.CastsSides'. -/
def castsSidesUptoCard : Claim7 := { stood := { row := castsSidesUptoRow, standIns := [], harness := (true, "cfbdbe63737c495b92cbf6b793c4c755cb8fd153a6cc0b17123e5ac58c6b30fd"), looks := true }, kinds := [], alts := [], laidByText := true, laidKinds := [.data, .data, .data, .sentinel, .sentinel, .data, .data], laidTests := true, laidLooks := .later }
def CastsSidesUptoCardSaid : Prop := Claim7.holds Tryz.pinned (.plain (OpenSpec.upto castsSidesSpec)) castsSidesUptoCard

/-- THE SECOND FORM's CARD OF 'lychgatelaw14.CastsWrapped'. -/
def castsWrappedUptoCard : Claim7 := { stood := { row := castsWrappedUptoRow, standIns := [], harness := (true, "cfbdbe63737c495b92cbf6b793c4c755cb8fd153a6cc0b17123e5ac58c6b30fd"), looks := true }, kinds := [], alts := [], laidByText := true, laidKinds := [.data, .data, .data, .sentinel, .sentinel, .data, .data], laidTests := true, laidLooks := .later }
def CastsWrappedUptoCardSaid : Prop := Claim7.holds Tryz.pinned (.plain (OpenSpec.upto castsWrappedSpec)) castsWrappedUptoCard
end Rows
end Go.Proofs.YtfkbdpehdabepaaGreatDoor
