/-
  What rows that reach errors.As share beside show's: the handle on a type; a world that meets the list.
-/
import Derived.Test.YtocehfklacjgbaaGreatDoorFrameShT
import Derived.Test.YtocehfklacjgbaaGreatDoorWk4W
import Derived.SizedLaws
namespace Go.Proofs.YtocehfklacjgbaaGreatDoor
open Go.ChangeShapes Go.WideShapes Go.ChangeAt Go.RowKit

theorem et : Tryz.prog.globalNamed "errors.errorType" = some 0 := by kernel_rfl
theorem etRt : (Tryz.prog.cutTypes.find? (·.1 == "internal/reflectlite.rtype")).map (·.2) = some 182 := by kernel_rfl
theorem etRow : ((List.range 300).filter fun t => Tryz.prog.rowNamed t [101, 114, 114, 111, 114]) = [32] := by kernel_rfl
theorem etSize : Tryz.prog.types.size = 300 := by kernel_rfl
theorem handle_of {l : List (String × DataW Unit)} {W : World} (h : handlesMet Tryz.prog (("errors.errorType", Rows.laid_errors_errorType) :: l) W) : ErrT W := by
  obtain ⟨name, u, ty, e1, e2, e3, e4, e5⟩ := h _ (List.mem_cons_self ..)
  have en : name = [101, 114, 114, 111, 114] := (Option.some.inj e1).symm
  subst en
  obtain rfl := Option.some.inj (etRt.symm.trans e2)
  have hm : ty ∈ (List.range 300).filter fun t => Tryz.prog.rowNamed t [101, 114, 114, 111, 114] := List.mem_filter.2 ⟨List.mem_range.2 (by rw [← etSize]; exact e3), e4⟩
  rw [etRow] at hm
  obtain rfl := List.mem_singleton.1 hm
  have hh : typeHandle Tryz.prog 32 = .pointer (some ⟨9, 32, none⟩) := by kernel_rfl
  rw [hh] at e5
  unfold ErrT
  simpa using World.var?_cell et e5 0
noncomputable def laidWorldE (os : Os) : World :=
  let w0 := laidWorldT os
  { w0 with heap := w0.heap.modify 0 fun
      | .cells _ t frozen => .cells #[.iface 182 (.agg #[.pointer (some ⟨9, 32, none⟩)])] t frozen
      | o => o }
end Go.Proofs.YtocehfklacjgbaaGreatDoor
