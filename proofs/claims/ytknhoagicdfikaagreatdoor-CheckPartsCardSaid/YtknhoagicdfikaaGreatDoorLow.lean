/-
  A region that draws its order and calls what only makes memory: one walk of the text's order serves every order (the class: worlds that are as w was, below its end).
-/
import Derived.Test.YtknhoagicdfikaaGreatDoorM1
import Derived.BigQuiet
import Derived.Deep.QuietTactic
namespace Go.Proofs.YtknhoagicdfikaaGreatDoor
open Go.RowKit

/-- a later world: below w's end nothing has turned -/
structure Later (w : World) : Type where
  u : World
  low : Below w.heap.size w u
instance (w : World) : Nonempty (Later w) := ⟨⟨w, Below.refl _ _⟩⟩
def Later.to {w u : World} (h : Later w) (hb : Below h.u.heap.size h.u u) : Later w := ⟨u, h.low.trans (hb.mono h.low.size)⟩
theorem call_low {P : Program} {f : FuncId} {args : Array Value} {w : World} {v : Value} (h : Later w) (hc : Calls P f args h.u fun e w' => e = .returned v ∧ Below h.u.heap.size h.u w') :
    Calls P f args h.u fun e w'' => e = .returned v ∧ ∃ h' : Later w, w'' = h'.u :=
  hc.mono fun _ _ ⟨he, hb⟩ => ⟨he, h.to hb, rfl⟩
theorem wp_region_low {P : Program} {id : Nat} {Q : Exit → Act → World → Prop} {a : Act} {w : World} {l : List Oper} (hm : P.follows .mixedOrders = true) (hB : Region.lexB .any l.toArray = true)
    (h : wpQuiet P l.toArray (fun u => ∃ h : Later w, u = h.u) (fun a' => ∀ w', (∃ h : Later w, w' = h.u) → Q .normal a' w') l a) : (Code.region id l.toArray true).wp P Q a w :=
  wp_region_quiet (C := fun u => ∃ h : Later w, u = h.u) hm hB ⟨⟨w.drew, (Below.refl _ _).drew⟩, rfl⟩ (by simpa using h)
theorem later_cell {w : World} {b o : Nat} {v : Value} (hc : w.cell? ⟨b, o, none⟩ = some v) : ∀ h : Later w, h.u.cell? ⟨b, o, none⟩ = some v :=
  fun h => by rw [h.low.cell (p := ⟨b, o, none⟩) (Ty.cell_lt hc)]; exact hc
end Go.Proofs.YtknhoagicdfikaaGreatDoor
