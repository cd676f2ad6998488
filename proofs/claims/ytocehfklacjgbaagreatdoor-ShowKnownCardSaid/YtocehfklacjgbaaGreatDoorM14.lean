/-
  The law's wakes. The reference's strength, sign, text, Text.
-/
import Derived.Test.YtocehfklacjgbaaGreatDoorM8
import Derived.Deep.RegionHeld3
import Derived.Deep.RegionWith
import Derived.Deep.DeepCutAuto
import Derived.Test.YtocehfklacjgbaaGreatDoorLow
namespace Go.Proofs.YtocehfklacjgbaaGreatDoor
open Go.RowKit

end Go.Proofs.YtocehfklacjgbaaGreatDoor
namespace Go.Proofs.YtocehfklacjgbaaGreatDoor
open Go.RowKit

end Go.Proofs.YtocehfklacjgbaaGreatDoor
