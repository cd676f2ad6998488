/-
  agree.Agree; the document's Right and Agree.
-/
import Derived.Test.YtdeomggkhbdkaaaDoorAg1
namespace Go.Proofs.YtdeomggkhbdkaaaDoor
open Go.RowKit

end Go.Proofs.YtdeomggkhbdkaaaDoor
