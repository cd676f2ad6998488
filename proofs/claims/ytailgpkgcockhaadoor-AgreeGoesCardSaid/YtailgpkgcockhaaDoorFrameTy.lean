/-
  What the rows of layer 2 share: what the table of shapes gives a walk; a world that meets the list; an argument that is a type.
-/
import Derived.Test.YtailgpkgcockhaaDoorCards
import Derived.Test.YtailgpkgcockhaaDoorTie
import Derived.Test.YtailgpkgcockhaaDoorOpen
import Derived.Test.YtailgpkgcockhaaDoorFormed
import Derived.WalkKit
import Derived.ProofKit
import Derived.OpenShut
import Derived.Deep.DeepHandedRow
import Derived.LaidHandle
namespace Go.Proofs.YtailgpkgcockhaaDoor
open Go.ChangeShapes Go.WideShapes Go.ChangeAt Go.RowKit
open Go.ChangeMaps (open_string shut_string)

theorem own : ownKnob Tryd.prog.godebug = none := by kernel_rfl
theorem gSh : Tryd.prog.globalNamed "lychgate/types.shapes" = some 0 := by kernel_rfl
theorem gShType : (Tryd.prog.globals[0]?).map (·.type) = some 50 := by kernel_rfl
theorem c_shapes : Tryd.prog.cellsOf 50 = 24 := by kernel_rfl
theorem c_shape : Tryd.prog.cellsOf 49 = 4 := by kernel_rfl
theorem c_int : Tryd.prog.cellsOf 3 = 1 := by kernel_rfl
theorem c_string : Tryd.prog.cellsOf 9 = 1 := by kernel_rfl
theorem laidOut : laidOutB Tryd.prog = true := by kernel_rfl
theorem u_shape : ∃ f0 f1 f2 f3 : Field, Tryd.prog.underlying 49 = some (.struct #[f0, f1, f2, f3]) ∧ (f0.type = 22 ∧ f0.offset = 0) ∧ (f1.type = 9 ∧ f1.offset = 1) ∧ (f2.type = 3 ∧ f2.offset = 2) ∧ (f3.type = 3 ∧ f3.offset = 3) := ⟨_, _, _, _, Tryd.underlying49, ⟨rfl, rfl⟩, ⟨rfl, rfl⟩, ⟨rfl, rfl⟩, ⟨rfl, rfl⟩⟩

theorem list4 {l : List Value} (h : l.length = 4) : ∃ a b c d, l = [a, b, c, d] := by
  match l, h with
  | [a, b, c, d], _ => exact ⟨a, b, c, d, rfl⟩
theorem string_of {H : Type} {enc : TypeId × Value → H} {w : World} {base : Nat} {sp : Nat → Bool} {hd : Bool} {fuel : Nat} {v : Value} {y : DataW H × List MemPlace}
    (h : DataW.trod enc Tryd.prog w base sp hd fuel 9 [v] = some y) (s : List UInt8) (hy : y.1 = .lit (.string s)) : v = .string ⟨s.toArray⟩ := by
  obtain ⟨b, hb, rfl, -⟩ := DataW.trod_string Tryd.underlying9 h
  injection hb with hb
  subst hb
  injection hy with hy
  injection hy with hy
  rw [← hy]

set_option maxRecDepth 100000 in
theorem shape_cells {H : Type} {enc : TypeId × Value → H} {w : World} {base : Nat} {sp : Nat → Bool} {hd : Bool} {fuel : Nat} {cs : List Value} {y : DataW H × List MemPlace}
    (h : DataW.trod enc Tryd.prog w base sp hd fuel 49 cs = some y) (a b c : Int) (s : List UInt8) (hy : y.1 = .agg [.lit (.int .i8 a), .lit (.string s), .lit (.int .i64 b), .lit (.int .i64 c)]) :
    cs = [.int .i8 a, .string ⟨s.toArray⟩, .int .i64 b, .int .i64 c] := by
  obtain ⟨f0, f1, f2, f3, hu, ⟨t0, o0⟩, ⟨t1, o1⟩, ⟨t2, o2⟩, ⟨t3, o3⟩⟩ := u_shape
  obtain ⟨xs, m, rfl, rfl, hl, hxl, hf⟩ := DataW.trod_struct hu h
  rw [c_shape] at hl
  obtain ⟨v0, v1, v2, v3, rfl⟩ := list4 hl
  have hm : xs.map (·.1) = [.lit (.int .i8 a), .lit (.string s), .lit (.int .i64 b), .lit (.int .i64 c)] := by injection hy
  match xs, hm with
  | [y0, y1, y2, y3], hm =>
  simp only [List.map_cons, List.map_nil, List.cons.injEq, and_true] at hm
  obtain ⟨m0, m1, m2, m3⟩ := hm
  have h0 := hf 0 f0 rfl
  have h1 := hf 1 f1 rfl
  have h2 := hf 2 f2 rfl
  have h3 := hf 3 f3 rfl
  rw [t0, o0, c_int8] at h0
  rw [t1, o1, c_string] at h1
  rw [t2, o2, c_int] at h2
  rw [t3, o3, c_int] at h3
  simp only [List.drop_zero, List.take_succ_cons, List.take_zero, List.drop_succ_cons, List.getElem?_cons_zero, List.getElem?_cons_succ] at h0 h1 h2 h3
  obtain ⟨n0, e0, hy0, -⟩ := DataW.trod_int Tryd.underlying22 h0
  have e1 := string_of h1 s m1
  obtain ⟨n2, e2, hy2, -⟩ := DataW.trod_int Tryd.underlying3 h2
  obtain ⟨n3, e3, hy3, -⟩ := DataW.trod_int Tryd.underlying3 h3
  rw [hy0] at m0
  rw [hy2] at m2
  rw [hy3] at m3
  injection m0 with m0; injection m0 with _ m0
  injection m2 with m2; injection m2 with _ m2
  injection m3 with m3; injection m3 with _ m3
  injection e0 with e0; injection e2 with e2; injection e3 with e3
  rw [e0, e1, e2, e3, m0, m2, m3]

theorem split24 (l : List Value) (h : l.length = 24) : l = (l.drop (0 * 4)).take 4 ++ ((l.drop (1 * 4)).take 4 ++ ((l.drop (2 * 4)).take 4 ++ ((l.drop (3 * 4)).take 4 ++ ((l.drop (4 * 4)).take 4 ++ (l.drop (5 * 4)).take 4)))) := by
  have e5 : (l.drop (5 * 4)).take 4 = l.drop 20 := List.take_of_length_le (by simp; omega)
  have e : ∀ k, (l.drop k).take 4 ++ l.drop (k + 4) = l.drop k := fun k => by rw [← List.drop_drop]; exact List.take_append_drop 4 (l.drop k)
  rw [e5, show (4 * 4 : Nat) = 16 from rfl, e 16, show (3 * 4 : Nat) = 12 from rfl, e 12, show (2 * 4 : Nat) = 8 from rfl, e 8, show (1 * 4 : Nat) = 4 from rfl, e 4, show (0 * 4 : Nat) = 0 from rfl, e 0]
  rfl

set_option maxRecDepth 100000 in
theorem shapes_of {r : List (String × DataW Unit)} {W : World} (h : laidMet Tryd.prog (("lychgate/types.shapes", Rows.laid_lychgate_types_shapes) :: r) W) : Shapes W := by
  obtain ⟨ps, ⟨g, t, cs, fuel, p, q, hg, ht, hvar, hd, _, _⟩, _⟩ := h
  obtain rfl := Option.some.inj (gSh.symm.trans hg)
  obtain rfl := Option.some.inj (gShType.symm.trans ht)
  obtain ⟨xs, m, rfl, hx, hl, hxl, hat⟩ := DataW.trod_array Tryd.underlying50 hd
  rw [c_shapes] at hl
  rw [c_shape] at hat
  have hm := congrArg Prod.fst hx
  unfold Rows.laid_lychgate_types_shapes at hm
  dsimp only at hm
  injection hm with hm2
  match xs, hxl with
  | [y0, y1, y2, y3, y4, y5], _ =>
  simp only [List.map_cons, List.map_nil, List.cons.injEq, and_true] at hm2
  obtain ⟨m0, m1, m2, m3, m4, m5⟩ := hm2
  have e0 := shape_cells (hat 0 (by omega)) _ _ _ _ m0.symm
  have e1 := shape_cells (hat 1 (by omega)) _ _ _ _ m1.symm
  have e2 := shape_cells (hat 2 (by omega)) _ _ _ _ m2.symm
  have e3 := shape_cells (hat 3 (by omega)) _ _ _ _ m3.symm
  have e4 := shape_cells (hat 4 (by omega)) _ _ _ _ m4.symm
  have e5 := shape_cells (hat 5 (by omega)) _ _ _ _ m5.symm
  have hcs : cs.toList = shapeCells := by
    have hsplit : cs.toList = (cs.toList.drop (0 * 4)).take 4 ++ ((cs.toList.drop (1 * 4)).take 4 ++ ((cs.toList.drop (2 * 4)).take 4 ++ ((cs.toList.drop (3 * 4)).take 4 ++ ((cs.toList.drop (4 * 4)).take 4 ++ (cs.toList.drop (5 * 4)).take 4)))) := split24 _ hl
    rw [hsplit, e0, e1, e2, e3, e4, e5]
    rfl
  refine ⟨?_, fun i v hv => ?_⟩
  · have h0 := World.var?_cell gSh hvar 0
    rw [← Array.getElem?_toList, hcs] at h0
    exact Ty.cell_lt (show W.cell? ⟨0, 0, none⟩ = some (.int .i8 4) from h0)
  · have h0 := World.var?_cell gSh hvar i
    rw [← Array.getElem?_toList, hcs, hv] at h0
    exact h0

/-- A world for the witness: the settled one, the table as its text lays it. -/
noncomputable def laidWorld (os : Os) : World :=
  let w0 := World.holding Tryd.prog os ⟨#[], #[], []⟩
  { w0 with heap := w0.heap.modify 0 fun
      | .cells _ t frozen => .cells shapeCells.toArray t frozen
      | o => o }
theorem laid_met (os : Os) (args : Array Value) : laidMetH Tryd.prog [("lychgate/types.shapes", Rows.laid_lychgate_types_shapes)] ((laidWorld os).forCall (fun _ _ => 0) ⟨#[], args, []⟩).memory :=
  laidMetH_of_parts (laidMet_of_run' 8 (by kernel_rfl) (by kernel_rfl)) (by kernel_rfl)

set_option maxRecDepth 100000 in
/-- an argument that is a type -/
theorem open_arg {H : Type} {enc : TypeId × Value → H} {W : World} {base b0 : Nat} {sp : Nat → Bool} {hd : Bool} {v : Value} {d : DataW H} {p : List MemPlace} (hv : Value.okWide Tryd.prog W .any b0 25 v)
    (h : DataW.Trod enc Tryd.prog W base sp hd 25 v d p) : ∃ k kids A n c, v = .agg #[.int .i8 k, .slice A n c] ∧ Ty.Is W k kids A n c := by
  obtain ⟨cs, rfl, -⟩ := okWide_struct Tryd.underlying25 hv
  obtain ⟨fuel, hf⟩ := h
  obtain ⟨k, kids, A, n, c, hcs, hIs⟩ := open_type fuel _ _ hf
  refine ⟨k, kids, A, n, c, ?_, hIs⟩
  congr 1
  apply Array.ext'
  simpa [Value.cells] using hcs
end Go.Proofs.YtailgpkgcockhaaDoor
