import Derived.Test.YtgjemmmbnpkamaaGreatDoorM1
import Derived.BigQuiet
import Derived.Deep.QuietTactic
namespace Go.Proofs.YtgjemmmbnpkamaaGreatDoor
open Go.RowKit
structure Later (w : World) : Type where
  u : World
  low : Below w.heap.size w u
instance (w : World) : Nonempty (Later w) := ⟨⟨w, Below.refl _ _⟩⟩
def Later.to {w u : World} (h : Later w) (hb : Below h.u.heap.size h.u u) : Later w := ⟨u, h.low.trans (hb.mono h.low.size)⟩
end Go.Proofs.YtgjemmmbnpkamaaGreatDoor
