/-
  A cell that a later world keeps.
-/
import Derived.Test.YteefhebdfeaojaaGreatDoorM1
import Derived.Test.YteefhebdfeaojaaGreatDoorM2
namespace Go.Proofs.YteefhebdfeaojaaGreatDoor
open Go.RowKit
theorem keep_cell {w w' : World} {b o : Nat} {v : Value} (h : w.cell? ⟨b, o, none⟩ = some v) (hb : Below w.heap.size w w') : w'.cell? ⟨b, o, none⟩ = some v := by rw [hb.cell (p := ⟨b, o, none⟩) (Ty.cell_lt h)]; exact h
end Go.Proofs.YteefhebdfeaojaaGreatDoor
