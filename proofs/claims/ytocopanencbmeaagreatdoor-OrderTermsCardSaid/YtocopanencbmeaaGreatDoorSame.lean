/-
  types.alike, types.Same; Nodes, Depth, Known, Ground.
-/
import Derived.Test.YtocopanencbmeaaGreatDoorFormed
import Derived.Deep.OwnRows
namespace Go.Proofs.YtocopanencbmeaaGreatDoor
open Go.RowKit

namespace Ty
def eqT (k : Int) (kids : Fo) (k' : Int) (kids' : Fo) : Bool := (k == k') && eqF kids kids'
def sameT (k : Int) (kids : Fo) (k' : Int) (kids' : Fo) : Bool := (chk k kids == 0) && (chk k' kids' == 0) && eqT k kids k' kids'
theorem eqF_ne (f g : Fo) (h : len f ≠ len g) : eqF f g = false := by
  cases hq : eqF f g
  · rfl
  · exact absurd (eqF_len f g hq) h
end Ty

/-- a loop's state over a second list -/
structure Over2 (w wr : World) (A : Option Addr) (n i : Nat) (rest : Fo) : Prop where
  i_eq : i + Ty.len rest = n
  lies : Ty.Lies wr rest A i

end Go.Proofs.YtocopanencbmeaaGreatDoor
