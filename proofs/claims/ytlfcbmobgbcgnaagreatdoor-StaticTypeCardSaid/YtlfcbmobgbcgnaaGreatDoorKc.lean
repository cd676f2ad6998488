import Derived.Test.YtlfcbmobgbcgnaaGreatDoorM1
import Derived.Test.YtlfcbmobgbcgnaaGreatDoorM3
namespace Go.Proofs.YtlfcbmobgbcgnaaGreatDoor
open Go.RowKit
theorem zB {w w' : World} {b o : Nat} {v : Value} (h : w.cell? ⟨b, o, none⟩ = some v) (hb : Below w.heap.size w w') : w'.cell? ⟨b, o, none⟩ = some v := by rw [hb.cell (p := ⟨b, o, none⟩) (Ty.zY h)]; exact h
end Go.Proofs.YtlfcbmobgbcgnaaGreatDoor
