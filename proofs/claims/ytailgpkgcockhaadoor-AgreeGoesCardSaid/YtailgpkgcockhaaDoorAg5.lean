/-
  The document's As.
-/
import Derived.Test.YtailgpkgcockhaaDoorAg4
namespace Go.Proofs.YtailgpkgcockhaaDoor
open Go.RowKit

end Go.Proofs.YtailgpkgcockhaaDoor
