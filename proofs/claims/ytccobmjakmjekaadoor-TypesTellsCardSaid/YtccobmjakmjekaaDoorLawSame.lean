/-
  P2.3: any two types: Same as the document's own answer tells it. The law's walk.
-/
import Derived.Test.YtccobmjakmjekaaDoorWakes
namespace Go.Proofs.YtccobmjakmjekaaDoor
open Go.RowKit

theorem Ty.same_self (k : Int) (kids : Fo) : Ty.sameT k kids k kids = (Ty.chk k kids == 0) := by
  unfold Ty.sameT Ty.eqT
  rw [Ty.eqF_refl]
  simp
theorem keep4 {wb w2 : World} {X I : Nat} {v0 v1 v2 v3 : Value} (h0 : wb.cell? ⟨X, 0, none⟩ = some v0) (h1 : wb.cell? ⟨X, 1, none⟩ = some v1) (h2 : wb.cell? ⟨I, 0, none⟩ = some v2) (h3 : wb.cell? ⟨I, 1, none⟩ = some v3) (hb : Below wb.heap.size wb w2) :
    w2.cell? ⟨X, 0, none⟩ = some v0 ∧ w2.cell? ⟨X, 1, none⟩ = some v1 ∧ w2.cell? ⟨I, 0, none⟩ = some v2 ∧ w2.cell? ⟨I, 1, none⟩ = some v3 :=
  ⟨by rw [(bcell hb).1 _ _ (Ty.cell_lt h0)]; exact h0, by rw [(bcell hb).1 _ _ (Ty.cell_lt h1)]; exact h1, by rw [(bcell hb).1 _ _ (Ty.cell_lt h2)]; exact h2, by rw [(bcell hb).1 _ _ (Ty.cell_lt h3)]; exact h3⟩

end Go.Proofs.YtccobmjakmjekaaDoor
