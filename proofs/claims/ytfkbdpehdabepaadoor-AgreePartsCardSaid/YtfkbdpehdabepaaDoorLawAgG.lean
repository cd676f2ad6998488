/-
  P6.3: what is known must be the same. The law's walk.
-/
import Derived.Test.YtfkbdpehdabepaaDoorAg7
import Derived.Test.YtfkbdpehdabepaaDoorAg8
import Derived.Test.YtfkbdpehdabepaaDoorCounted
namespace Go.Proofs.YtfkbdpehdabepaaDoor
open Go.RowKit

end Go.Proofs.YtfkbdpehdabepaaDoor
