import Derived.Test.YtglgjaomneljbacGreatDoorM10
import Derived.Deep.DeepCutAuto
namespace Go.Proofs.YtglgjaomneljbacGreatDoor
open Go.RowKit
end Go.Proofs.YtglgjaomneljbacGreatDoor
