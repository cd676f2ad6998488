import Derived.Test.YtgjemmmbnpkamaaGreatDoorM9
import Derived.Deep.DeepCutAuto
namespace Go.Proofs.YtgjemmmbnpkamaaGreatDoor
open Go.RowKit
end Go.Proofs.YtgjemmmbnpkamaaGreatDoor
