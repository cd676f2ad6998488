/-
  The reference's count, Nodes, deep, Depth.
-/
import Derived.Test.YtailgpkgcockhaaDoorAllOf
namespace Go.Proofs.YtailgpkgcockhaaDoor
open Go.RowKit

/-- a round's box: the type's own cells are as they were -/
theorem Over.box {w1 wr : World} {A : Option Addr} {n nk i b : Nat} {rest : Fo} {v0 v1 : Value} (h : Over w1 wr A n nk i rest) (h0 : w1.cell? ⟨b, 0, none⟩ = some v0) (h1 : w1.cell? ⟨b, 1, none⟩ = some v1) :
    wr.cell? ⟨b, 0, none⟩ = some v0 ∧ wr.cell? ⟨b, 1, none⟩ = some v1 :=
  ⟨by rw [(bcell h.below).1 _ _ (Ty.cell_lt h0)]; exact h0, by rw [(bcell h.below).1 _ _ (Ty.cell_lt h1)]; exact h1⟩

end Go.Proofs.YtailgpkgcockhaaDoor
