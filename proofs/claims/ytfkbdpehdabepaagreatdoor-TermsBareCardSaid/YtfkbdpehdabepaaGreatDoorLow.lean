/-
  A region that draws its order and calls what only makes memory: one walk of the text's order serves every order (the class: worlds that are as w was, below its end).
-/
import Derived.Test.YtfkbdpehdabepaaGreatDoorFo
import Derived.BigQuiet
import Derived.Deep.QuietTactic
namespace Go.Proofs.YtfkbdpehdabepaaGreatDoor
open Go.RowKit

/-- a later world: below w's end nothing has turned -/
structure Later (w : World) : Type where
  u : World
  low : Below w.heap.size w u
instance (w : World) : Nonempty (Later w) := ⟨⟨w, Below.refl _ _⟩⟩
def Later.to {w u : World} (h : Later w) (hb : Below h.u.heap.size h.u u) : Later w := ⟨u, h.low.trans (hb.mono h.low.size)⟩
end Go.Proofs.YtfkbdpehdabepaaGreatDoor
