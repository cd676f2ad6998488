/-
  order.together held against order.less's own closure: at most as precise; order.less, order.Less.
-/
import Derived.Test.YtfkbdpehdabepaaDoorOr0
import Derived.Test.YtfkbdpehdabepaaDoorAg2
import Derived.Deep.DeepCutAuto
namespace Go.Proofs.YtfkbdpehdabepaaDoor
open Go.RowKit

end Go.Proofs.YtfkbdpehdabepaaDoor
