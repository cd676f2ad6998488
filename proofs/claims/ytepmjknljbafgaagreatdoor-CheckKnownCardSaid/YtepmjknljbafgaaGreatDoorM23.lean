import Derived.Test.YtepmjknljbafgaaGreatDoorM9
import Derived.Deep.DeepCutAuto
namespace Go.Proofs.YtepmjknljbafgaaGreatDoor
open Go.RowKit
end Go.Proofs.YtepmjknljbafgaaGreatDoor
