/-
  What the rows of layer 3 share: what the listed variables give a walk; a world that meets the list; an argument that is a term. What rows that reach errors.As share beside layer 3's: the handle on a type; a world that meets the list.
-/
import Derived.Test.YtknhoagicdfikaaGreatDoorCards
import Derived.Test.YtknhoagicdfikaaGreatDoorTie
import Derived.Test.YtknhoagicdfikaaGreatDoorM4
import Derived.Test.YtknhoagicdfikaaGreatDoorM8
import Derived.WalkKit
import Derived.ProofKit
import Derived.OpenShut
import Derived.Deep.DeepHandedRow
import Derived.Stop.LaidErr
import Derived.LaidHandle
import Derived.Test.YtknhoagicdfikaaGreatDoorM1
import Derived.SizedLaws
namespace Go.Proofs.YtknhoagicdfikaaGreatDoor
open Go.ChangeShapes Go.WideShapes Go.ChangeAt Go.RowKit
open Go.ChangeMaps (open_string shut_string)

theorem own : ownKnob Tryz.prog.godebug = none := by kernel_rfl
theorem gSh : Tryz.prog.globalNamed "lychgate/types.shapes" = some 1 := by kernel_rfl
theorem gShType : (Tryz.prog.globals[1]?).map (·.type) = some 110 := by kernel_rfl
theorem c_shapes : Tryz.prog.cellsOf 110 = 24 := by kernel_rfl
theorem c_shape : Tryz.prog.cellsOf 109 = 4 := by kernel_rfl
theorem c_int : Tryz.prog.cellsOf 3 = 1 := by kernel_rfl
theorem c_string : Tryz.prog.cellsOf 9 = 1 := by kernel_rfl
theorem laidOut : laidOutB Tryz.prog = true := by kernel_rfl
theorem u_shape : ∃ f0 f1 f2 f3 : Field, Tryz.prog.underlying 109 = some (.struct #[f0, f1, f2, f3]) ∧ (f0.type = 22 ∧ f0.offset = 0) ∧ (f1.type = 9 ∧ f1.offset = 1) ∧ (f2.type = 3 ∧ f2.offset = 2) ∧ (f3.type = 3 ∧ f3.offset = 3) := ⟨_, _, _, _, Tryz.underlying109, ⟨rfl, rfl⟩, ⟨rfl, rfl⟩, ⟨rfl, rfl⟩, ⟨rfl, rfl⟩⟩

theorem list4 {l : List Value} (h : l.length = 4) : ∃ a b c d, l = [a, b, c, d] := by
  match l, h with
  | [a, b, c, d], _ => exact ⟨a, b, c, d, rfl⟩
theorem string_of {H : Type} {enc : TypeId × Value → H} {w : World} {base : Nat} {sp : Nat → Bool} {hd : Bool} {fuel : Nat} {v : Value} {y : DataW H × List MemPlace}
    (h : DataW.trod enc Tryz.prog w base sp hd fuel 9 [v] = some y) (s : List UInt8) (hy : y.1 = .lit (.string s)) : v = .string ⟨s.toArray⟩ := by
  obtain ⟨b, hb, rfl, -⟩ := DataW.trod_string Tryz.underlying9 h
  injection hb with hb
  subst hb
  injection hy with hy
  injection hy with hy
  rw [← hy]

set_option maxRecDepth 100000 in
theorem shape_cells {H : Type} {enc : TypeId × Value → H} {w : World} {base : Nat} {sp : Nat → Bool} {hd : Bool} {fuel : Nat} {cs : List Value} {y : DataW H × List MemPlace}
    (h : DataW.trod enc Tryz.prog w base sp hd fuel 109 cs = some y) (a b c : Int) (s : List UInt8) (hy : y.1 = .agg [.lit (.int .i8 a), .lit (.string s), .lit (.int .i64 b), .lit (.int .i64 c)]) :
    cs = [.int .i8 a, .string ⟨s.toArray⟩, .int .i64 b, .int .i64 c] := by
  obtain ⟨f0, f1, f2, f3, hu, ⟨t0, o0⟩, ⟨t1, o1⟩, ⟨t2, o2⟩, ⟨t3, o3⟩⟩ := u_shape
  obtain ⟨xs, m, rfl, rfl, hl, hxl, hf⟩ := DataW.trod_struct hu h
  rw [c_shape] at hl
  obtain ⟨v0, v1, v2, v3, rfl⟩ := list4 hl
  have hm : xs.map (·.1) = [.lit (.int .i8 a), .lit (.string s), .lit (.int .i64 b), .lit (.int .i64 c)] := by injection hy
  match xs, hm with
  | [y0, y1, y2, y3], hm =>
  simp only [List.map_cons, List.map_nil, List.cons.injEq, and_true] at hm
  obtain ⟨m0, m1, m2, m3⟩ := hm
  have h0 := hf 0 f0 rfl
  have h1 := hf 1 f1 rfl
  have h2 := hf 2 f2 rfl
  have h3 := hf 3 f3 rfl
  rw [t0, o0, c_int8] at h0
  rw [t1, o1, c_string] at h1
  rw [t2, o2, c_int] at h2
  rw [t3, o3, c_int] at h3
  simp only [List.drop_zero, List.take_succ_cons, List.take_zero, List.drop_succ_cons, List.getElem?_cons_zero, List.getElem?_cons_succ] at h0 h1 h2 h3
  obtain ⟨n0, e0, hy0, -⟩ := DataW.trod_int Tryz.underlying22 h0
  have e1 := string_of h1 s m1
  obtain ⟨n2, e2, hy2, -⟩ := DataW.trod_int Tryz.underlying3 h2
  obtain ⟨n3, e3, hy3, -⟩ := DataW.trod_int Tryz.underlying3 h3
  rw [hy0] at m0
  rw [hy2] at m2
  rw [hy3] at m3
  injection m0 with m0; injection m0 with _ m0
  injection m2 with m2; injection m2 with _ m2
  injection m3 with m3; injection m3 with _ m3
  injection e0 with e0; injection e2 with e2; injection e3 with e3
  rw [e0, e1, e2, e3, m0, m2, m3]

theorem split24 (l : List Value) (h : l.length = 24) : l = (l.drop (0 * 4)).take 4 ++ ((l.drop (1 * 4)).take 4 ++ ((l.drop (2 * 4)).take 4 ++ ((l.drop (3 * 4)).take 4 ++ ((l.drop (4 * 4)).take 4 ++ (l.drop (5 * 4)).take 4)))) := by
  have e5 : (l.drop (5 * 4)).take 4 = l.drop 20 := List.take_of_length_le (by simp; omega)
  have e : ∀ k, (l.drop k).take 4 ++ l.drop (k + 4) = l.drop k := fun k => by rw [← List.drop_drop]; exact List.take_append_drop 4 (l.drop k)
  rw [e5, show (4 * 4 : Nat) = 16 from rfl, e 16, show (3 * 4 : Nat) = 12 from rfl, e 12, show (2 * 4 : Nat) = 8 from rfl, e 8, show (1 * 4 : Nat) = 4 from rfl, e 4, show (0 * 4 : Nat) = 0 from rfl, e 0]
  rfl

set_option maxRecDepth 100000 in
theorem shapes_of {r : List (String × DataW Unit)} {W : World} (h : laidMet Tryz.prog (("lychgate/types.shapes", Rows.laid_lychgate_types_shapes) :: r) W) : Shapes W := by
  obtain ⟨ps, ⟨g, t, cs, fuel, p, q, hg, ht, hvar, hd, _, _⟩, _⟩ := h
  obtain rfl := Option.some.inj (gSh.symm.trans hg)
  obtain rfl := Option.some.inj (gShType.symm.trans ht)
  obtain ⟨xs, m, rfl, hx, hl, hxl, hat⟩ := DataW.trod_array Tryz.underlying110 hd
  rw [c_shapes] at hl
  rw [c_shape] at hat
  have hm := congrArg Prod.fst hx
  unfold Rows.laid_lychgate_types_shapes at hm
  dsimp only at hm
  injection hm with hm2
  match xs, hxl with
  | [y0, y1, y2, y3, y4, y5], _ =>
  simp only [List.map_cons, List.map_nil, List.cons.injEq, and_true] at hm2
  obtain ⟨m0, m1, m2, m3, m4, m5⟩ := hm2
  have e0 := shape_cells (hat 0 (by omega)) _ _ _ _ m0.symm
  have e1 := shape_cells (hat 1 (by omega)) _ _ _ _ m1.symm
  have e2 := shape_cells (hat 2 (by omega)) _ _ _ _ m2.symm
  have e3 := shape_cells (hat 3 (by omega)) _ _ _ _ m3.symm
  have e4 := shape_cells (hat 4 (by omega)) _ _ _ _ m4.symm
  have e5 := shape_cells (hat 5 (by omega)) _ _ _ _ m5.symm
  have hcs : cs.toList = shapeCells := by
    have hsplit : cs.toList = (cs.toList.drop (0 * 4)).take 4 ++ ((cs.toList.drop (1 * 4)).take 4 ++ ((cs.toList.drop (2 * 4)).take 4 ++ ((cs.toList.drop (3 * 4)).take 4 ++ ((cs.toList.drop (4 * 4)).take 4 ++ (cs.toList.drop (5 * 4)).take 4)))) := split24 _ hl
    rw [hsplit, e0, e1, e2, e3, e4, e5]
    rfl
  refine ⟨?_, fun i v hv => ?_⟩
  · have h0 := World.var?_cell gSh hvar 0
    rw [← Array.getElem?_toList, hcs] at h0
    exact Ty.cell_lt (show W.cell? ⟨1, 0, none⟩ = some (.int .i8 4) from h0)
  · have h0 := World.var?_cell gSh hvar i
    rw [← Array.getElem?_toList, hcs, hv] at h0
    exact h0

theorem gER : Tryz.prog.globalNamed "strconv.ErrRange" = some 5 := by kernel_rfl
theorem gERType : (Tryz.prog.globals[5]?).map (·.type) = some 30 := by kernel_rfl
theorem cellsES : Tryz.prog.cellsOf 187 = 1 := by kernel_rfl
theorem starES : "*" ++ "errors.errorString" = "*errors.errorString" := by decide
theorem rowES (u : TypeId) (h : Tryz.prog.typeName? 3 u = some "*errors.errorString") : u = 185 :=
  typeName_ptr_named (nm := "errors.errorString") (by rw [starES]; kernel_rfl) (by kernel_rfl) (by decide) u (by rw [starES]; exact h)

/-- strconv.ErrRange, at the head of a list -/
theorem errRange_of {r : List (String × DataW Unit)} {W : World} (h : laidMet Tryz.prog (("strconv.ErrRange", Rows.laid_strconv_ErrRange) :: r) W) :
    ∃ (tp : TypeId) (p : Value), W.var? Tryz.prog "strconv.ErrRange" = some #[.iface tp p] := by
  obtain ⟨a0, s0, hv0, -, -, -⟩ := laid_sentinel h gER gERType Tryz.underlying30 rowES Tryz.underlying185 Tryz.underlying187 rfl rfl Tryz.underlying9 cellsES c_string
  exact ⟨_, _, hv0⟩

/-- So many blocks has the settled world. -/
noncomputable def low : Nat := (World.holding Tryz.prog default ⟨#[], #[], []⟩).heap.size

/-! the table of terms' shapes -/
def tshapeCells : List Value :=
  [.bool true, .bool false, .bool false, .bool false, .bool false, .bool false, .int .i64 0,
   .bool false, .bool false, .bool true, .bool false, .bool false, .bool false, .int .i64 0,
   .bool false, .bool false, .bool false, .bool false, .bool false, .bool false, .int .i64 0,
   .bool false, .bool false, .bool false, .bool false, .bool false, .bool false, .int .i64 0,
   .bool true, .bool false, .bool false, .bool true, .bool false, .bool false, .int .i64 1,
   .bool true, .bool true, .bool false, .bool true, .bool true, .bool false, .int .i64 1,
   .bool false, .bool false, .bool false, .bool false, .bool false, .bool false, .int .i64 2,
   .bool true, .bool false, .bool false, .bool true, .bool false, .bool false, .int .i64 2,
   .bool false, .bool false, .bool false, .bool false, .bool false, .bool false, .int .i64 3,
   .bool false, .bool false, .bool false, .bool false, .bool false, .bool false, .int .i64 2,
   .bool false, .bool false, .bool false, .bool false, .bool false, .bool false, .int .i64 1,
   .bool false, .bool false, .bool false, .bool false, .bool false, .bool false, .int .i64 1,
   .bool false, .bool false, .bool false, .bool true, .bool false, .bool false, .int .i64 1,
   .bool false, .bool false, .bool false, .bool true, .bool false, .bool false, .int .i64 1,
   .bool true, .bool true, .bool false, .bool false, .bool false, .bool false, .int .i64 3,
   .bool true, .bool false, .bool false, .bool false, .bool false, .bool false, .int .i64 2,
   .bool false, .bool false, .bool false, .bool true, .bool false, .bool false, .int .i64 1,
   .bool false, .bool false, .bool false, .bool true, .bool true, .bool true, .int .i64 1]
theorem gTSh : Tryz.prog.globalNamed "lychgate/terms.shapes" = some 2 := by kernel_rfl
theorem gTShType : (Tryz.prog.globals[2]?).map (·.type) = some 139 := by kernel_rfl
theorem c_tshapes : Tryz.prog.cellsOf 139 = 126 := by kernel_rfl
theorem c_tshape : Tryz.prog.cellsOf 97 = 7 := by kernel_rfl
theorem c_bool : Tryz.prog.cellsOf 4 = 1 := by kernel_rfl
theorem u_tshape : ∃ f0 f1 f2 f3 f4 f5 f6 : Field, Tryz.prog.underlying 97 = some (.struct #[f0, f1, f2, f3, f4, f5, f6]) ∧ (f0.type = 4 ∧ f0.offset = 0) ∧ (f1.type = 4 ∧ f1.offset = 1) ∧ (f2.type = 4 ∧ f2.offset = 2) ∧ (f3.type = 4 ∧ f3.offset = 3) ∧ (f4.type = 4 ∧ f4.offset = 4) ∧ (f5.type = 4 ∧ f5.offset = 5) ∧ (f6.type = 3 ∧ f6.offset = 6) := ⟨_, _, _, _, _, _, _, Tryz.underlying97, ⟨rfl, rfl⟩, ⟨rfl, rfl⟩, ⟨rfl, rfl⟩, ⟨rfl, rfl⟩, ⟨rfl, rfl⟩, ⟨rfl, rfl⟩, ⟨rfl, rfl⟩⟩
theorem list7 {l : List Value} (h : l.length = 7) : ∃ a b c d e f g, l = [a, b, c, d, e, f, g] := by
  match l, h with
  | [a, b, c, d, e, f, g], _ => exact ⟨a, b, c, d, e, f, g, rfl⟩
theorem bool_of {H : Type} {enc : TypeId × Value → H} {w : World} {base : Nat} {sp : Nat → Bool} {hd : Bool} {fuel : Nat} {v : Value} {y : DataW H × List MemPlace}
    (h : DataW.trod enc Tryz.prog w base sp hd fuel 4 [v] = some y) (b : Bool) (hy : y.1 = .lit (.bool b)) : v = .bool b := by
  obtain ⟨b', hb, rfl⟩ := DataW.trod_bool Tryz.underlying4 h
  injection hb with hb
  subst hb
  injection hy with hy
  injection hy with hy
  rw [hy]
/-- a row's datum -/
def tdatum {H : Type} (k : Nat) : DataW H := .agg [.lit (.bool (Tm.hasName k)), .lit (.bool (Tm.hasArg k)), .lit (.bool (Tm.hasNum k)), .lit (.bool (Tm.hasType k)), .lit (.bool (Tm.hasTo k)), .lit (.bool (Tm.hasLabel k)), .lit (.int .i64 (Tm.kidsN k))]

set_option maxRecDepth 100000 in
theorem tshape_cells {H : Type} {enc : TypeId × Value → H} {w : World} {base : Nat} {sp : Nat → Bool} {hd : Bool} {fuel : Nat} {cs : List Value} {y : DataW H × List MemPlace}
    (h : DataW.trod enc Tryz.prog w base sp hd fuel 97 cs = some y) (k : Nat) (hy : y.1 = tdatum k) : cs = tshape k := by
  obtain ⟨f0, f1, f2, f3, f4, f5, f6, hu, ⟨t0, o0⟩, ⟨t1, o1⟩, ⟨t2, o2⟩, ⟨t3, o3⟩, ⟨t4, o4⟩, ⟨t5, o5⟩, ⟨t6, o6⟩⟩ := u_tshape
  obtain ⟨xs, m, rfl, rfl, hl, hxl, hf⟩ := DataW.trod_struct hu h
  rw [c_tshape] at hl
  obtain ⟨v0, v1, v2, v3, v4, v5, v6, rfl⟩ := list7 hl
  unfold tdatum at hy
  unfold tshape
  generalize Tm.hasName k = b0 at *
  generalize Tm.hasArg k = b1 at *
  generalize Tm.hasNum k = b2 at *
  generalize Tm.hasType k = b3 at *
  generalize Tm.hasTo k = b4 at *
  generalize Tm.hasLabel k = b5 at *
  generalize ((Tm.kidsN k : Nat) : Int) = b6 at *
  have hm : xs.map (·.1) = [.lit (.bool b0), .lit (.bool b1), .lit (.bool b2), .lit (.bool b3), .lit (.bool b4), .lit (.bool b5), .lit (.int .i64 b6)] := by injection hy
  match xs, hm with
  | [y0, y1, y2, y3, y4, y5, y6], hm =>
  simp only [List.map_cons, List.map_nil, List.cons.injEq, and_true] at hm
  obtain ⟨m0, m1, m2, m3, m4, m5, m6⟩ := hm
  have h0 := hf 0 f0 rfl
  rw [t0, o0, c_bool] at h0
  have h1 := hf 1 f1 rfl
  rw [t1, o1, c_bool] at h1
  have h2 := hf 2 f2 rfl
  rw [t2, o2, c_bool] at h2
  have h3 := hf 3 f3 rfl
  rw [t3, o3, c_bool] at h3
  have h4 := hf 4 f4 rfl
  rw [t4, o4, c_bool] at h4
  have h5 := hf 5 f5 rfl
  rw [t5, o5, c_bool] at h5
  have h6 := hf 6 f6 rfl
  rw [t6, o6, c_int] at h6
  simp only [List.drop_zero, List.take_succ_cons, List.take_zero, List.drop_succ_cons, List.getElem?_cons_zero, List.getElem?_cons_succ] at h0 h1 h2 h3 h4 h5 h6
  have e0 := bool_of h0 _ m0
  have e1 := bool_of h1 _ m1
  have e2 := bool_of h2 _ m2
  have e3 := bool_of h3 _ m3
  have e4 := bool_of h4 _ m4
  have e5 := bool_of h5 _ m5
  obtain ⟨n6, e6, hy6, -⟩ := DataW.trod_int Tryz.underlying3 h6
  rw [hy6] at m6
  injection m6 with m6; injection m6 with _ m6
  injection e6 with e6
  rw [e0, e1, e2, e3, e4, e5, e6, m6]

theorem tdata_at (i : Nat) (hi : i < 18) : ∃ l : List (DataW Unit), Rows.laid_lychgate_terms_shapes = .agg l ∧ l[i]? = some (tdatum i) := by
  refine ⟨_, rfl, ?_⟩
  match i, hi with
  | 0, _ => rfl
  | 1, _ => rfl
  | 2, _ => rfl
  | 3, _ => rfl
  | 4, _ => rfl
  | 5, _ => rfl
  | 6, _ => rfl
  | 7, _ => rfl
  | 8, _ => rfl
  | 9, _ => rfl
  | 10, _ => rfl
  | 11, _ => rfl
  | 12, _ => rfl
  | 13, _ => rfl
  | 14, _ => rfl
  | 15, _ => rfl
  | 16, _ => rfl
  | 17, _ => rfl
  | (n + 18), h => exact absurd h (by omega)

set_option maxRecDepth 100000 in
theorem tshapes_of {r : List (String × DataW Unit)} {W : World} (h : laidMet Tryz.prog (("lychgate/terms.shapes", Rows.laid_lychgate_terms_shapes) :: r) W) : TShapes W := by
  obtain ⟨ps, ⟨g, t, cs, fuel, p, q, hg, ht, hvar, hd, _, _⟩, _⟩ := h
  obtain rfl := Option.some.inj (gTSh.symm.trans hg)
  obtain rfl := Option.some.inj (gTShType.symm.trans ht)
  obtain ⟨xs, m, rfl, hx, hl, hxl, hat⟩ := DataW.trod_array Tryz.underlying139 hd
  rw [c_tshapes] at hl
  rw [c_tshape] at hat
  have hm := congrArg Prod.fst hx
  have hrow : ∀ i, i < 18 → (cs.toList.drop (i * 7)).take 7 = tshape i := by
    intro i hi
    obtain ⟨l, hl2, hli⟩ := tdata_at i hi
    rw [hl2] at hm
    dsimp only at hm
    injection hm with hm2
    have hxi := hat i hi
    rw [List.getElem?_eq_getElem (show i < xs.length by rw [hxl]; exact hi)] at hxi
    refine tshape_cells hxi i ?_
    rw [hm2, List.getElem?_map, List.getElem?_eq_getElem (show i < xs.length by rw [hxl]; exact hi)] at hli
    exact Option.some.inj hli
  have hcell : ∀ k : Int, 0 ≤ k → k < 18 → ∀ j v, (tshape k)[j]? = some v → W.cell? ⟨2, k.toNat * 7 + j, none⟩ = some v := by
    intro k h0 h1 j v hv
    have hj : j < 7 := by
      rcases Nat.lt_or_ge j 7 with h | h
      · exact h
      · rw [List.getElem?_eq_none (by simpa [tshape] using h)] at hv; cases hv
    have hr := hrow k.toNat (by omega)
    rw [show ((k.toNat : Nat) : Int) = k by omega] at hr
    rw [← hr, List.getElem?_take_of_lt hj, List.getElem?_drop] at hv
    have h2 := World.var?_cell gTSh hvar (k.toNat * 7 + j)
    rw [← Array.getElem?_toList, hv] at h2
    exact h2
  exact ⟨Ty.cell_lt (hcell 0 (by omega) (by omega) 0 _ rfl), hcell⟩

theorem glob_of {r : List (String × DataW Unit)} {W : World} {x0 x1 x2 x4 : String × DataW Unit} (h : laidMet Tryz.prog (x0 :: x1 :: x2 :: ("strconv.ErrRange", Rows.laid_strconv_ErrRange) :: x4 :: ("lychgate/types.shapes", Rows.laid_lychgate_types_shapes) :: ("lychgate/terms.shapes", Rows.laid_lychgate_terms_shapes) :: r) W) : TGlob W :=
  ⟨tshapes_of h.tail.tail.tail.tail.tail.tail, shapes_of h.tail.tail.tail.tail.tail, errRange_of h.tail.tail.tail⟩

/-- A world for the witness: the settled one, each listed variable as its text lays it. -/
noncomputable def laidWorldT (os : Os) : World :=
  let w0 := World.holding Tryz.prog os ⟨#[.cells #[.string ⟨#[118, 97, 108, 117, 101, 32, 111, 117, 116, 32, 111, 102, 32, 114, 97, 110, 103, 101]⟩] 187, .cells #[.string ⟨#[105, 110, 118, 97, 108, 105, 100, 32, 115, 121, 110, 116, 97, 120]⟩] 187], #[], []⟩
  let set := fun (h : Array Obj) (g : Nat) (cs : Array Value) => h.modify g fun
      | .cells _ t frozen => .cells cs t frozen
      | o => o
  let u64 := fun (l : List Int) => (l.map (Value.int .u64)).toArray
  let u8 := fun (l : List Int) => (l.map (Value.int .u8)).toArray
  let hp := set (set (set (set (set (set (set w0.heap
      1 shapeCells.toArray)
      2 tshapeCells.toArray)
      5 #[.iface 185 (.pointer (some ⟨low, 0, none⟩))])
      4 #[.iface 185 (.pointer (some ⟨low + 1, 0, none⟩))])
      6 (u64 [1, 10, 100, 1000, 10000, 100000, 1000000, 10000000, 100000000, 1000000000, 10000000000, 100000000000, 1000000000000, 10000000000000, 100000000000000, 1000000000000000, 10000000000000000, 100000000000000000, 1000000000000000000, 10000000000000000000]))
      7 (u8 [0, 1, 28, 2, 29, 14, 24, 3, 30, 22, 20, 15, 25, 17, 4, 8, 31, 27, 13, 23, 21, 19, 16, 7, 26, 12, 18, 6, 11, 5, 10, 9]))
      8 (u8 [0, 1, 56, 2, 57, 49, 28, 3, 61, 58, 42, 50, 38, 29, 17, 4, 62, 47, 59, 36, 45, 43, 51, 22, 53, 39, 33, 30, 24, 18, 12, 5, 63, 55, 48, 27, 60, 41, 37, 16, 46, 35, 44, 21, 52, 32, 23, 11, 54, 26, 40, 15, 34, 20, 31, 10, 25, 14, 19, 9, 13, 8, 7, 6])
  { w0 with heap := hp }


theorem laid_metT (os : Os) (args : Array Value) : laidMet Tryz.prog Rows.checkPartsRow.laid ((laidWorldT os).forCall (fun _ _ => 0) ⟨#[], args, []⟩).memory :=
  laidMet_of_run' 8 (by kernel_rfl) (by kernel_rfl)

set_option maxRecDepth 100000 in
/-- an argument that is a term -/
theorem open_targ {H : Type} {enc : TypeId × Value → H} {W : World} {base b0 : Nat} {sp : Nat → Bool} {hd : Bool} {v : Value} {d : DataW H} {p : List MemPlace} (hv : Value.okWide Tryz.prog W .any b0 28 v)
    (hx : DataW.Trod enc Tryz.prog W base sp hd 28 v d p) (hsz : ∀ n ∈ d.weights Tryz.prog 28, n ≤ reachBytes) : ∃ h kids p, v = .agg #[.int .i8 h.kind, .string h.name, .string h.arg, .int .i64 h.num, .int .i8 h.tk, .slice p.TA p.tn p.tc, .int .i8 h.uk, .slice p.UA p.un p.uc, .int .i64 h.label, .int .i64 h.pos, .slice p.A p.n p.c] ∧ Tm.Is W h kids p := by
  obtain ⟨cs, rfl, -⟩ := okWide_struct Tryz.underlying28 hv
  obtain ⟨fuel, hf⟩ := hx
  obtain ⟨h, kids, p, hcs, hIs⟩ := open_term fuel _ _ hf hsz
  refine ⟨h, kids, p, ?_, hIs⟩
  congr 1
  apply Array.ext'
  simpa [Value.cells] using hcs
theorem weigh {H : Type} {P : Program} {ts : List TypeId} {ds : List (DataW H)} (h : (DataW.weightsEach P ts ds).all (· ≤ reachBytes) = true) {j : Nat} {t : TypeId} {d : DataW H} (ht : ts[j]? = some t) (hd : ds[j]? = some d) : ∀ n ∈ d.weights P t, n ≤ reachBytes :=
  fun n hn => by simpa using List.all_eq_true.1 h n (DataW.weights_mem_each ht hd n hn)
end Go.Proofs.YtknhoagicdfikaaGreatDoor
namespace Go.Proofs.YtknhoagicdfikaaGreatDoor
open Go.ChangeShapes Go.WideShapes Go.ChangeAt Go.RowKit

theorem et : Tryz.prog.globalNamed "errors.errorType" = some 0 := by kernel_rfl
theorem etRt : (Tryz.prog.cutTypes.find? (·.1 == "internal/reflectlite.rtype")).map (·.2) = some 112 := by kernel_rfl
theorem etRow : ((List.range 230).filter fun t => Tryz.prog.rowNamed t [101, 114, 114, 111, 114]) = [30] := by kernel_rfl
theorem etSize : Tryz.prog.types.size = 230 := by kernel_rfl
theorem handle_of {l : List (String × DataW Unit)} {W : World} (h : handlesMet Tryz.prog (("errors.errorType", Rows.laid_errors_errorType) :: l) W) : ErrT W := by
  obtain ⟨name, u, ty, e1, e2, e3, e4, e5⟩ := h _ (List.mem_cons_self ..)
  have en : name = [101, 114, 114, 111, 114] := (Option.some.inj e1).symm
  subst en
  obtain rfl := Option.some.inj (etRt.symm.trans e2)
  have hm : ty ∈ (List.range 230).filter fun t => Tryz.prog.rowNamed t [101, 114, 114, 111, 114] := List.mem_filter.2 ⟨List.mem_range.2 (by rw [← etSize]; exact e3), e4⟩
  rw [etRow] at hm
  obtain rfl := List.mem_singleton.1 hm
  have hh : typeHandle Tryz.prog 30 = .pointer (some ⟨9, 30, none⟩) := by kernel_rfl
  rw [hh] at e5
  unfold ErrT
  simpa using World.var?_cell et e5 0
noncomputable def laidWorldE (os : Os) : World :=
  let w0 := laidWorldT os
  { w0 with heap := w0.heap.modify 0 fun
      | .cells _ t frozen => .cells #[.iface 112 (.agg #[.pointer (some ⟨9, 30, none⟩)])] t frozen
      | o => o }
end Go.Proofs.YtknhoagicdfikaaGreatDoor
