/-
  What the rows of show share beside layer 3's: an argument that is a term, with its numbers; the table of powers of ten.
-/
import Derived.Test.YtocehfklacjgbaaGreatDoorFrameTm
import Derived.Test.YtocehfklacjgbaaGreatDoorM10
namespace Go.Proofs.YtocehfklacjgbaaGreatDoor
open Go.ChangeShapes Go.WideShapes Go.ChangeAt Go.RowKit

theorem gT10 : Tryz.prog.globalNamed "internal/strconv.uint64pow10" = some 3 := by kernel_rfl
theorem gT10Type : (Tryz.prog.globals[3]?).map (·.type) = some 218 := by kernel_rfl
theorem tens_of {r : List (String × DataW Unit)} {W : World} {x0 x1 : String × DataW Unit} (h : laidMet Tryz.prog (x0 :: x1 :: ("internal/strconv.uint64pow10", Rows.laid_internal_strconv_uint64pow10) :: r) W) : Tens W :=
  Lib.tabIs_of_head gT10 gT10Type Tryz.underlying218 Tryz.underlying168 (by kernel_rfl) (by kernel_rfl) h.tail.tail
set_option maxRecDepth 100000 in
/-- an argument that is a term, its numbers' bounds too -/
theorem open_targN {H : Type} {enc : TypeId × Value → H} {W : World} {base b0 : Nat} {sp : Nat → Bool} {hd : Bool} {v : Value} {d : DataW H} {p : List MemPlace} (hv : Value.okWide Tryz.prog W .any b0 30 v)
    (hx : DataW.Trod enc Tryz.prog W base sp hd 30 v d p) (hsz : ∀ n ∈ d.weights Tryz.prog 30, n ≤ reachBytes) : ∃ h kids p, v = .agg #[.int .i8 h.kind, .string h.name, .string h.arg, .int .i64 h.num, .int .i8 h.tk, .slice p.TA p.tn p.tc, .int .i8 h.uk, .slice p.UA p.un p.uc, .int .i64 h.label, .int .i64 h.pos, .slice p.A p.n p.c] ∧ Tm.Is W h kids p ∧ Sh.nuT h kids = true := by
  obtain ⟨cs, rfl, -⟩ := okWide_struct Tryz.underlying30 hv
  obtain ⟨fuel, hf⟩ := hx
  obtain ⟨h, kids, p, hcs, hIs, hN⟩ := open_termN fuel _ _ hf hsz
  refine ⟨h, kids, p, ?_, hIs, hN⟩
  congr 1
  apply Array.ext'
  simpa [Value.cells] using hcs
end Go.Proofs.YtocehfklacjgbaaGreatDoor
