/-
  order's copies of types.
-/
import Derived.Test.YtfkbdpehdabepaaDoorOr2
import Derived.Test.YtfkbdpehdabepaaDoorCp
namespace Go.Proofs.YtfkbdpehdabepaaDoor
open Go.RowKit

end Go.Proofs.YtfkbdpehdabepaaDoor
