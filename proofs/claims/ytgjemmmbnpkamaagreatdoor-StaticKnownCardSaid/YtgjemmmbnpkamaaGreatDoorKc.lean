import Derived.Test.YtgjemmmbnpkamaaGreatDoorM1
import Derived.Test.YtgjemmmbnpkamaaGreatDoorM3
namespace Go.Proofs.YtgjemmmbnpkamaaGreatDoor
open Go.RowKit
theorem zB {w w' : World} {b o : Nat} {v : Value} (h : w.cell? ⟨b, o, none⟩ = some v) (hb : Below w.heap.size w w') : w'.cell? ⟨b, o, none⟩ = some v := by rw [hb.cell (p := ⟨b, o, none⟩) (Ty.zR h)]; exact h
end Go.Proofs.YtgjemmmbnpkamaaGreatDoor
