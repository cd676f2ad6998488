import Derived.Test.YtekeoilmfbcefaaGreatDoorM7
import Derived.Deep.DeepCutAuto
namespace Go.Proofs.YtekeoilmfbcefaaGreatDoor
open Go.RowKit
end Go.Proofs.YtekeoilmfbcefaaGreatDoor
