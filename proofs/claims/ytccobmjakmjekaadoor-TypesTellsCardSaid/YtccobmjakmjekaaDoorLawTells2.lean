/-
  TypesTells: the law's walk, whole.
-/
import Derived.Test.YtccobmjakmjekaaDoorLawTells
import Derived.Test.YtccobmjakmjekaaDoorCopy
namespace Go.Proofs.YtccobmjakmjekaaDoor
open Go.RowKit

theorem law_TypesTells (k : Int) (kids : Fo) (A : Option Addr) (n c : Nat) (w : World) (hIs : Ty.Is w k kids A n c) (hS : Shapes w) :
    Calls Tryd.prog 3 #[.agg #[.int .i8 k, .slice A n c]] w fun e w' => e = .returned (.bool true) ∧ Below w.heap.size w w' :=
  law_TypesTells_of (fun k kids A n c w hI hs => (copy_any (Ty.nodes kids + 1) k kids A n c w (by omega) hI hs).mono fun _ _ ⟨G, m, c', h1, h2, h3⟩ => ⟨G, m, c', h1, h2.is, h3⟩) k kids A n c w hIs hS
end Go.Proofs.YtccobmjakmjekaaDoor
