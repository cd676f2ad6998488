/-
  A cell that a later world keeps.
-/
import Derived.Test.YtknhoagicdfikaaGreatDoorM1
import Derived.Test.YtknhoagicdfikaaGreatDoorM2
namespace Go.Proofs.YtknhoagicdfikaaGreatDoor
open Go.RowKit
theorem keep_cell {w w' : World} {b o : Nat} {v : Value} (h : w.cell? ⟨b, o, none⟩ = some v) (hb : Below w.heap.size w w') : w'.cell? ⟨b, o, none⟩ = some v := by rw [hb.cell (p := ⟨b, o, none⟩) (Ty.cell_lt h)]; exact h
end Go.Proofs.YtknhoagicdfikaaGreatDoor
