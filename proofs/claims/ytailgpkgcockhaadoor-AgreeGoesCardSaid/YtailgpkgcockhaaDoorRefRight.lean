/-
  The reference's Kids, right, Check, Equal, Same, open, Known.
-/
import Derived.Test.YtailgpkgcockhaaDoorRefCount
import Derived.Test.YtailgpkgcockhaaDoorTypesFn
namespace Go.Proofs.YtailgpkgcockhaaDoor
open Go.RowKit

namespace Ty
def kidsI (k : Int) : Int := if 0 ≤ k ∧ k ≤ 2 then 0 else if 3 ≤ k ∧ k ≤ 5 then 2 else -1
theorem okK_kids (k : Int) (n : Nat) : okK k n = (kidsI k == n) := by
  rw [Bool.eq_iff_iff]; unfold okK kidsI
  split
  · simp <;> omega
  · split
    · simp <;> omega
    · simp <;> omega
end Ty

end Go.Proofs.YtailgpkgcockhaaDoor
