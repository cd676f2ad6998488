/-
  agree.agreeing, agree.Agree; the document's Right, Agree.
-/
import Derived.Test.YtdeomggkhbdkaaaDoorAg0
import Derived.Test.YtdeomggkhbdkaaaDoorLow
import Derived.Laws.StructEq
namespace Go.Proofs.YtdeomggkhbdkaaaDoor
open Go.RowKit

/-- two types in a row, opened -/
theorem Ty.lies2 {w : World} {a b c d : Nat} {k1 k2 : Int} {f1 f2 : Fo} {A : Option Addr} (h : Ty.Lies w (.node a b k1 f1 (.node c d k2 f2 .nil)) A 0) :
    ∃ bb oo B1 c1 B2 c2, A = some ⟨bb, oo, none⟩ ∧ w.cell? ⟨bb, oo, none⟩ = some (.int .i8 k1) ∧ w.cell? ⟨bb, oo + 1, none⟩ = some (.slice B1 (Ty.len f1) c1) ∧ w.cell? ⟨bb, oo + 2, none⟩ = some (.int .i8 k2) ∧ w.cell? ⟨bb, oo + 3, none⟩ = some (.slice B2 (Ty.len f2) c2) ∧ Ty.Is w k1 f1 B1 (Ty.len f1) c1 ∧ Ty.Is w k2 f2 B2 (Ty.len f2) c2 := by
  obtain ⟨bb, oo, B1, c1, rfl, ⟨h1, h2⟩, h3, h4, h5, h6, h7, ⟨bb', oo', B2, c2, e, ⟨g1, g2⟩, g3, g4, g5, g6, g7, -⟩⟩ := h
  injection e with e; injection e with e1 e2; subst e1; subst e2
  exact ⟨_, _, B1, c1, B2, c2, rfl, by simpa using h3, by simpa using h4, by simpa using g3, by simpa using g4, ⟨h7, rfl, h5, h6, h1, h2⟩, ⟨g7, rfl, g5, g6, g1, g2⟩⟩

end Go.Proofs.YtdeomggkhbdkaaaDoor
