/-
  order.together held against order.less's own closure: at most as precise; order.less, order.Less. order.less, order.Less; the document's less, Less.
-/
import Derived.Test.YteefhebdfeaojaaGreatDoorM7
import Derived.Deep.DeepCutAuto
namespace Go.Proofs.YteefhebdfeaojaaGreatDoor
open Go.RowKit

end Go.Proofs.YteefhebdfeaojaaGreatDoor
namespace Go.Proofs.YteefhebdfeaojaaGreatDoor
open Go.RowKit

end Go.Proofs.YteefhebdfeaojaaGreatDoor
