import Derived.Test.YtepmjknljbafgaaGreatDoorM1
import Derived.Test.YtepmjknljbafgaaGreatDoorM3
namespace Go.Proofs.YtepmjknljbafgaaGreatDoor
open Go.RowKit
theorem zC {w w' : World} {b o : Nat} {v : Value} (h : w.cell? ⟨b, o, none⟩ = some v) (hb : Below w.heap.size w w') : w'.cell? ⟨b, o, none⟩ = some v := by rw [hb.cell (p := ⟨b, o, none⟩) (Ty.zN h)]; exact h
end Go.Proofs.YtepmjknljbafgaaGreatDoor
