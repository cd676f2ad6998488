/-
  NARROWER THAN 'FOR EVERY INPUT', by the rows' own cells (each row's printed sentence says how): BelowTells: loops, laid · BelowBoth: loops, laid · BelowOrders: loops, laid · BelowUp: loops, laid.
  DERIVED. THE GIVEN ROWS OF THIS SEAT. 4 by the template 'for every input the law returns true; each argument reads behind the call as it read before'; 0 by the template 'total and deterministic' (their statements: YtdeomggkhbdkaaaDoorTotals.lean).
  GIVEN WITH THE SEED: the statements are not yours to turn. If you find one false, say at which input.
  Laid BY PROGRAM, IN A SANDBOX (cutbox-rows.mjs): the forced cells as the released guide's own fill.sh prints them over the translation 63e41c71816b9583… (all of the seat's roots in one cut). By AI agents, Wed Nov 11 2026. No macro, syntax, notation, axiom, sorry.
-/
import Derived.Test.YtdeomggkhbdkaaaDoorChecked
import GoSem.Claim
import GoSem.ClaimJoined
import GoSem.ClaimMapViews
import Derived.JoinedTies
import Derived.KernelRfl
namespace Go.Proofs.YtdeomggkhbdkaaaDoor
/- THE CELL 'sum', in the pinned program and in every row, IS THE sha256 OF THE DUMP (.gsa) THAT YtdeomggkhbdkaaaDoorProg.lean LOADS. Nothing in Lean hashes anything: it is a label: what it is worth is what the hold of that sum in a sandbox is worth. -/
noncomputable def Tryd.pinned : Pinned := { name := "ytdeomggkhbdkaaadoor", sum := "63e41c71816b9583dd61720c4c2ec6c0dcdc9fc45a7642695b0c2b980207abe5", checked := Tryd.checked }
namespace Rows
def none {H : Type} : Left H := { results := [], args := [] }

/- WHAT THE LISTED PACKAGE-LEVEL VARIABLES READ AS WHEN THE CALL BEGINS. Each datum BY PROGRAM (the guide's laid-datum.mjs) off the statement by which the dump's own 'gosem.cut.vars' lays the variable. In a bare row this is a premise. The card (YtdeomggkhbdkaaaDoorCards.lean) ties it to the program's text. -/
def laid_lychgate_types_shapes {H : Type} : DataW H := .agg [.agg [.lit (.int .i8 4), .lit (.string [63]), .lit (.int .i64 0), .lit (.int .i64 4)], .agg [.lit (.int .i8 3), .lit (.string [105, 110, 116]), .lit (.int .i64 0), .lit (.int .i64 4)], .agg [.lit (.int .i8 3), .lit (.string [98, 111, 111, 108]), .lit (.int .i64 0), .lit (.int .i64 4)], .agg [.lit (.int .i8 4), .lit (.string [45, 62]), .lit (.int .i64 2), .lit (.int .i64 1)], .agg [.lit (.int .i8 4), .lit (.string [42]), .lit (.int .i64 2), .lit (.int .i64 3)], .agg [.lit (.int .i8 4), .lit (.string [43]), .lit (.int .i64 2), .lit (.int .i64 2)]]

/-- 'lychgatelaw08.BelowTells': WHATEVER THE INPUT: true; the input reads as it did. -/
def belowTellsSpec : ChangeSpec := { name := "belowTells", fn := fun _ => fun
  | [d1, d2] => { results := [.lit (.bool true)], args := [d1, d2] }
  | _ => none }
def belowTellsRow : OpenClaim := { program := "ytdeomggkhbdkaaadoor", sum := "63e41c71816b9583dd61720c4c2ec6c0dcdc9fc45a7642695b0c2b980207abe5", func := "lychgate/lychgatelaw08.BelowTells", spec := "belowTells", unfollowed := true, recurses := true, named := ["lychgate/types.shapes"], loops := true, apart := false, laid := [("lychgate/types.shapes", laid_lychgate_types_shapes)] }
def BelowTellsSaid : Prop := belowTellsRow.holds Tryd.pinned (OpenSpec.ofChange belowTellsSpec)

/-- ITS FALSE NEIGHBOUR: 'it returns false'. Refute it at one input. -/
def belowTellsWrong : ChangeSpec := { name := "belowTells", fn := fun _ => fun
  | [d1, d2] => { results := [.lit (.bool false)], args := [d1, d2] }
  | _ => none }
def BelowTellsWrongFalsely : Prop := belowTellsRow.holds Tryd.pinned (OpenSpec.ofChange belowTellsWrong)

/-- 'lychgatelaw08.BelowBoth': WHATEVER THE INPUT: true; the input reads as it did. -/
def belowBothSpec : ChangeSpec := { name := "belowBoth", fn := fun _ => fun
  | [d1, d2] => { results := [.lit (.bool true)], args := [d1, d2] }
  | _ => none }
def belowBothRow : OpenClaim := { program := "ytdeomggkhbdkaaadoor", sum := "63e41c71816b9583dd61720c4c2ec6c0dcdc9fc45a7642695b0c2b980207abe5", func := "lychgate/lychgatelaw08.BelowBoth", spec := "belowBoth", unfollowed := true, recurses := true, named := ["lychgate/types.shapes"], loops := true, apart := false, laid := [("lychgate/types.shapes", laid_lychgate_types_shapes)] }
def BelowBothSaid : Prop := belowBothRow.holds Tryd.pinned (OpenSpec.ofChange belowBothSpec)

/-- ITS FALSE NEIGHBOUR: 'it returns false'. Refute it at one input. -/
def belowBothWrong : ChangeSpec := { name := "belowBoth", fn := fun _ => fun
  | [d1, d2] => { results := [.lit (.bool false)], args := [d1, d2] }
  | _ => none }
def BelowBothWrongFalsely : Prop := belowBothRow.holds Tryd.pinned (OpenSpec.ofChange belowBothWrong)

/-- 'lychgatelaw08.BelowOrders': WHATEVER THE INPUT: true; the input reads as it did. -/
def belowOrdersSpec : ChangeSpec := { name := "belowOrders", fn := fun _ => fun
  | [d1, d2, d3] => { results := [.lit (.bool true)], args := [d1, d2, d3] }
  | _ => none }
def belowOrdersRow : OpenClaim := { program := "ytdeomggkhbdkaaadoor", sum := "63e41c71816b9583dd61720c4c2ec6c0dcdc9fc45a7642695b0c2b980207abe5", func := "lychgate/lychgatelaw08.BelowOrders", spec := "belowOrders", unfollowed := true, recurses := true, named := ["lychgate/types.shapes"], loops := true, apart := false, laid := [("lychgate/types.shapes", laid_lychgate_types_shapes)] }
def BelowOrdersSaid : Prop := belowOrdersRow.holds Tryd.pinned (OpenSpec.ofChange belowOrdersSpec)

/-- ITS FALSE NEIGHBOUR: 'it returns false'. Refute it at one input. -/
def belowOrdersWrong : ChangeSpec := { name := "belowOrders", fn := fun _ => fun
  | [d1, d2, d3] => { results := [.lit (.bool false)], args := [d1, d2, d3] }
  | _ => none }
def BelowOrdersWrongFalsely : Prop := belowOrdersRow.holds Tryd.pinned (OpenSpec.ofChange belowOrdersWrong)

/-- 'lychgatelaw08.BelowUp': WHATEVER THE INPUT: true; the input reads as it did. -/
def belowUpSpec : ChangeSpec := { name := "belowUp", fn := fun _ => fun
  | [d1, d2, d3, d4] => { results := [.lit (.bool true)], args := [d1, d2, d3, d4] }
  | _ => none }
def belowUpRow : OpenClaim := { program := "ytdeomggkhbdkaaadoor", sum := "63e41c71816b9583dd61720c4c2ec6c0dcdc9fc45a7642695b0c2b980207abe5", func := "lychgate/lychgatelaw08.BelowUp", spec := "belowUp", unfollowed := true, recurses := true, named := ["lychgate/types.shapes"], loops := true, apart := false, laid := [("lychgate/types.shapes", laid_lychgate_types_shapes)] }
def BelowUpSaid : Prop := belowUpRow.holds Tryd.pinned (OpenSpec.ofChange belowUpSpec)

/-- ITS FALSE NEIGHBOUR: 'it returns false'. Refute it at one input. -/
def belowUpWrong : ChangeSpec := { name := "belowUp", fn := fun _ => fun
  | [d1, d2, d3, d4] => { results := [.lit (.bool false)], args := [d1, d2, d3, d4] }
  | _ => none }
def BelowUpWrongFalsely : Prop := belowUpRow.holds Tryd.pinned (OpenSpec.ofChange belowUpWrong)

/- THE SECOND FORM. 'bulk': how many values and letters a reading holds, each counted each time it is reached (what is shared counts as often as it is met; a slice's spare places count too). A statement '..UptoSaid' is the law's where the arguments, and the package variables that the reading takes, are together of bulk at most 1048576: NARROWER than '..Said'. Prove '..Said' where nothing that the law and all that it calls make is longer than what came in: it says more and counts as full. Else prove '..UptoSaid'. A law counts once. -/
mutual
def uptoBulk {H : Type} : DataW H → Nat
  | .lit (.string bytes) => bytes.length + 1
  | .lit _ => 1
  | .nil => 1
  | .ptr d => uptoBulk d + 1
  | .slice elems spare => uptoBulkAll elems + uptoBulkAll spare + 1
  | .agg parts => uptoBulkAll parts + 1
  | .iface _ d => uptoBulk d + 1
  | .map entries => uptoBulkEntries entries + 1
  | .held _ => 1
def uptoBulkAll {H : Type} : List (DataW H) → Nat
  | [] => 0
  | d :: r => uptoBulk d + uptoBulkAll r
def uptoBulkEntries {H : Type} : List (Lit × DataW H) → Nat
  | [] => 0
  | x :: r => uptoBulkEntry x + uptoBulkEntries r
def uptoBulkEntry {H : Type} : Lit × DataW H → Nat
  | (.string bytes, d) => bytes.length + uptoBulk d + 1
  | (_, d) => uptoBulk d + 1
 end
def uptoSmall : (H : Type) → List (DataW H) → Bool := fun _ ds => decide (uptoBulkAll ds ≤ 1048576)
def OpenSpec.upto (s : _root_.Go.ChangeSpec) : _root_.Go.OpenSpec := { _root_.Go.OpenSpec.ofChange s with cond := some uptoSmall }

/-- 'lychgatelaw08.BelowTells', WHERE WHAT IT READS IS OF BULK AT MOST 1048576: true; the input reads as it did. -/
def belowTellsUptoRow : OpenClaim := { program := "ytdeomggkhbdkaaadoor", sum := "63e41c71816b9583dd61720c4c2ec6c0dcdc9fc45a7642695b0c2b980207abe5", func := "lychgate/lychgatelaw08.BelowTells", spec := "belowTells", unfollowed := true, recurses := true, named := ["lychgate/types.shapes"], loops := true, apart := false, laid := [("lychgate/types.shapes", laid_lychgate_types_shapes)], narrowed := true }
def BelowTellsUptoSaid : Prop := belowTellsUptoRow.holds Tryd.pinned (OpenSpec.upto belowTellsSpec)

/-- 'lychgatelaw08.BelowBoth', WHERE WHAT IT READS IS OF BULK AT MOST 1048576: true; the input reads as it did. -/
def belowBothUptoRow : OpenClaim := { program := "ytdeomggkhbdkaaadoor", sum := "63e41c71816b9583dd61720c4c2ec6c0dcdc9fc45a7642695b0c2b980207abe5", func := "lychgate/lychgatelaw08.BelowBoth", spec := "belowBoth", unfollowed := true, recurses := true, named := ["lychgate/types.shapes"], loops := true, apart := false, laid := [("lychgate/types.shapes", laid_lychgate_types_shapes)], narrowed := true }
def BelowBothUptoSaid : Prop := belowBothUptoRow.holds Tryd.pinned (OpenSpec.upto belowBothSpec)

/-- 'lychgatelaw08.BelowOrders', WHERE WHAT IT READS IS OF BULK AT MOST 1048576: true; the input reads as it did. -/
def belowOrdersUptoRow : OpenClaim := { program := "ytdeomggkhbdkaaadoor", sum := "63e41c71816b9583dd61720c4c2ec6c0dcdc9fc45a7642695b0c2b980207abe5", func := "lychgate/lychgatelaw08.BelowOrders", spec := "belowOrders", unfollowed := true, recurses := true, named := ["lychgate/types.shapes"], loops := true, apart := false, laid := [("lychgate/types.shapes", laid_lychgate_types_shapes)], narrowed := true }
def BelowOrdersUptoSaid : Prop := belowOrdersUptoRow.holds Tryd.pinned (OpenSpec.upto belowOrdersSpec)

/-- 'lychgatelaw08.BelowUp', WHERE WHAT IT READS IS OF BULK AT MOST 1048576: true; the input reads as it did. -/
def belowUpUptoRow : OpenClaim := { program := "ytdeomggkhbdkaaadoor", sum := "63e41c71816b9583dd61720c4c2ec6c0dcdc9fc45a7642695b0c2b980207abe5", func := "lychgate/lychgatelaw08.BelowUp", spec := "belowUp", unfollowed := true, recurses := true, named := ["lychgate/types.shapes"], loops := true, apart := false, laid := [("lychgate/types.shapes", laid_lychgate_types_shapes)], narrowed := true }
def BelowUpUptoSaid : Prop := belowUpUptoRow.holds Tryd.pinned (OpenSpec.upto belowUpSpec)

end Rows
end Go.Proofs.YtdeomggkhbdkaaaDoor
