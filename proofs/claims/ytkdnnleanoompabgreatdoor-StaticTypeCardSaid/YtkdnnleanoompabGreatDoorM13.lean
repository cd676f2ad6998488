import Derived.Test.YtkdnnleanoompabGreatDoorM7
import Derived.Deep.DeepCutAuto
namespace Go.Proofs.YtkdnnleanoompabGreatDoor
open Go.RowKit
end Go.Proofs.YtkdnnleanoompabGreatDoor
