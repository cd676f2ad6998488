/-
  The document's digits; how strong a term is; a type's text.
-/
import Derived.Test.YtocehfklacjgbaaGreatDoorSh0
import Derived.Test.YtocehfklacjgbaaGreatDoorM4
import Derived.Test.YtocehfklacjgbaaGreatDoorM14
import Derived.Test.YtocehfklacjgbaaGreatDoorM6
namespace Go.Proofs.YtocehfklacjgbaaGreatDoor
open Go.RowKit

end Go.Proofs.YtocehfklacjgbaaGreatDoor
