/-
  order.less, order.Less; the document's less, Less.
-/
import Derived.Test.YtfkbdpehdabepaaDoorOr1
namespace Go.Proofs.YtfkbdpehdabepaaDoor
open Go.RowKit

end Go.Proofs.YtfkbdpehdabepaaDoor
