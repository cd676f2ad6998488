import Derived.Test.YtglgjaomneljbacGreatDoorM1
import Derived.Test.YtglgjaomneljbacGreatDoorM3
namespace Go.Proofs.YtglgjaomneljbacGreatDoor
open Go.RowKit
theorem zA {w w' : World} {b o : Nat} {v : Value} (h : w.cell? ⟨b, o, none⟩ = some v) (hb : Below w.heap.size w w') : w'.cell? ⟨b, o, none⟩ = some v := by rw [hb.cell (p := ⟨b, o, none⟩) (Ty.zO h)]; exact h
end Go.Proofs.YtglgjaomneljbacGreatDoor
