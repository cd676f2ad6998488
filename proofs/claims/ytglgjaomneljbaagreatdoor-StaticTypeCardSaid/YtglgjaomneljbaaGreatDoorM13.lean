import Derived.Test.YtglgjaomneljbaaGreatDoorM7
import Derived.Deep.DeepCutAuto
namespace Go.Proofs.YtglgjaomneljbaaGreatDoor
open Go.RowKit
end Go.Proofs.YtglgjaomneljbaaGreatDoor
