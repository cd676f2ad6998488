import Derived.Test.YtlfcbmobgbcgnaaGreatDoorM8
import Derived.Deep.DeepCutAuto
namespace Go.Proofs.YtlfcbmobgbcgnaaGreatDoor
open Go.RowKit
end Go.Proofs.YtlfcbmobgbcgnaaGreatDoor
namespace Go.Proofs.YtlfcbmobgbcgnaaGreatDoor
open Go.RowKit
end Go.Proofs.YtlfcbmobgbcgnaaGreatDoor
