/-
  The reference's Equal, Same, Known, Of, Ground; types.Ground. The reference's Same, Known, Of, Ground; types.Ground. Types that agree: what the word says of forests. agree.agreeing, agree.Agree; the document's Right, Agree. agree.Agree; the document's Right and Agree.
-/
import Derived.Test.YtfkbdpehdabepaaGreatDoorRefRight
import Derived.Deep.OwnRows
import Derived.Test.YtfkbdpehdabepaaGreatDoorLow
import Derived.Laws.StructEq
namespace Go.Proofs.YtfkbdpehdabepaaGreatDoor
open Go.RowKit

end Go.Proofs.YtfkbdpehdabepaaGreatDoor
namespace Go.Proofs.YtfkbdpehdabepaaGreatDoor
open Go.RowKit

theorem Ty.chk_ok {k : Int} {kids : Fo} (h : Ty.chk k kids = 0) : Ty.okT k kids = true ∧ Ty.nodes kids + 1 ≤ 8192 ∧ Ty.dep kids + 1 ≤ 200 := by
  unfold Ty.chk at h
  split at h
  · cases h
  · split at h
    · cases h
    · split at h
      · rename_i h1 h2 h3; exact ⟨h3, by omega, by omega⟩
      · cases h

namespace Ty
end Ty

namespace Ty
end Ty
end Go.Proofs.YtfkbdpehdabepaaGreatDoor
namespace Go.Proofs.YtfkbdpehdabepaaGreatDoor
namespace Ty
end Ty
end Go.Proofs.YtfkbdpehdabepaaGreatDoor
namespace Go.Proofs.YtfkbdpehdabepaaGreatDoor
open Go.RowKit

end Go.Proofs.YtfkbdpehdabepaaGreatDoor
namespace Go.Proofs.YtfkbdpehdabepaaGreatDoor
open Go.RowKit

end Go.Proofs.YtfkbdpehdabepaaGreatDoor
