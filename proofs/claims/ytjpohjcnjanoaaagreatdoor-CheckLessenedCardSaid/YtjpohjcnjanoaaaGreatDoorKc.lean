import Derived.Test.YtjpohjcnjanoaaaGreatDoorM1
import Derived.Test.YtjpohjcnjanoaaaGreatDoorM2
namespace Go.Proofs.YtjpohjcnjanoaaaGreatDoor
open Go.RowKit
theorem zB {w w' : World} {b o : Nat} {v : Value} (h : w.cell? ⟨b, o, none⟩ = some v) (hb : Below w.heap.size w w') : w'.cell? ⟨b, o, none⟩ = some v := by rw [hb.cell (p := ⟨b, o, none⟩) (Ty.zN h)]; exact h
end Go.Proofs.YtjpohjcnjanoaaaGreatDoor
