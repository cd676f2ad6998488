import Derived.Test.YtkdnnleanoompaaGreatDoorM7
import Derived.Deep.DeepCutAuto
namespace Go.Proofs.YtkdnnleanoompaaGreatDoor
open Go.RowKit
end Go.Proofs.YtkdnnleanoompaaGreatDoor
