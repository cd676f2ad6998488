/-
  order.together held against order.less's own closure: at most as precise; order.less, order.Less. order.less, order.Less; the document's less, Less.
-/
import Derived.Test.YtknhoagicdfikaaGreatDoorM6
import Derived.Deep.DeepCutAuto
namespace Go.Proofs.YtknhoagicdfikaaGreatDoor
open Go.RowKit

end Go.Proofs.YtknhoagicdfikaaGreatDoor
namespace Go.Proofs.YtknhoagicdfikaaGreatDoor
open Go.RowKit

end Go.Proofs.YtknhoagicdfikaaGreatDoor
