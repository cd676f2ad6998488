import Derived.Test.YtgjemmmbnpkamaaGreatDoorM3
import Derived.Maps.OwnOps
import Derived.Maps.OwnSet
import Derived.Laws.NewBlocks
namespace Go.Proofs.YtgjemmmbnpkamaaGreatDoor
open Go.RowKit Go.Maps
theorem qd : Keyed Tryz.prog 9 := string_keyed Tryz.underlying9
def opV (a b c d : Int) : Value := .agg #[.int .i8 a, .int .i64 b, .int .i64 c, .int .i64 d]
def opD (a b c d : Int) : DataW Unit := .agg [.lit (.int .i8 a), .lit (.int .i64 b), .lit (.int .i64 c), .lit (.int .i64 d)]
def opL (xs : List Value) : Option (DataW Unit × List MemPlace) := match xs with
  | [.int .i8 a, .int .i64 b, .int .i64 c, .int .i64 d] => some (opD a b c d, [])
  | _ => none
def opR (v : Value) : Option (DataW Unit × List MemPlace) := match v with
  | .agg xs => opL xs.toList
  | _ => none
theorem zEh {xs : List Value} {a b c d : Int} {ps : List MemPlace} (h : opL xs = some (opD a b c d, ps)) : xs = [.int .i8 a, .int .i64 b, .int .i64 c, .int .i64 d] := by
  unfold opL at h
  split at h
  · simp only [Option.some.injEq, Prod.mk.injEq, opD, DataW.agg.injEq, List.cons.injEq, DataW.lit.injEq, Lit.int.injEq, true_and, and_true] at h
    obtain ⟨⟨rfl, rfl, rfl, rfl⟩, -⟩ := h
    rfl
  · cases h
theorem zBp {v : Value} {a b c d : Int} {ps : List MemPlace} (h : opR v = some (opD a b c d, ps)) : v = opV a b c d := by
  unfold opR at h
  split at h
  · rename_i xs
    have e := zEh h
    unfold opV
    congr 1
    exact Array.ext' e
  · cases h
def opTab (x : List UInt8) : Option (Int × Int × Int × Int) :=
  if x = [58] then some (16, 0, 0, 0) else if x = [61] then some (15, 1, 2, 2) else if x = [60] then some (15, 1, 2, 2) else if x = [45] then some (15, 2, 2, 3) else if x = [43] then some (15, 2, 2, 3)
  else if x = [47] then some (15, 3, 3, 4) else if x = [42] then some (15, 3, 3, 4) else if x = [40] then some (6, 5, 5, 0) else none
def opGet : Option (Int × Int × Int × Int) → DataW Unit
  | some (a, b, c, d) => opD a b c d
  | none => opD 0 0 0 0
structure OpTab (D : DataW Unit) : Prop where
  at_ : ∀ x, D.atKey (.string x) (opD 0 0 0 0) = opGet (opTab x)
  has_ : ∀ x, Maps.has D (.string x) = (opTab x).isSome
theorem zA1 (x : List UInt8) : WideAt.IsKeyLit (.string x) := by simp [WideAt.IsKeyLit]
structure OpTo (D : DataW Unit) (f : List UInt8 → Option (Int × Int × Int × Int)) : Prop where
  map : IsMap D
  at_ : ∀ x, D.atKey (.string x) (opD 0 0 0 0) = opGet (f x)
  has_ : ∀ x, Maps.has D (.string x) = (f x).isSome
theorem OpTo.start : OpTo (.map []) (fun _ => none) := ⟨isMap_empty, fun x => by simp [DataW.atKey, opGet], fun x => by simp [Maps.has]⟩
theorem OpTo.put {D : DataW Unit} {f : List UInt8 → Option (Int × Int × Int × Int)} (h : OpTo D f) (y : List UInt8) (a b c d : Int) : OpTo (D.put (.string y) (opD a b c d)) (fun x => if x = y then some (a, b, c, d) else f x) := by
  refine ⟨h.map.put _ _, fun x => ?_, fun x => ?_⟩
  · by_cases e : x = y
    · subst e; rw [atKey_put_same h.map (zA1 x)]; simp [opGet]
    · rw [atKey_put_other (fun q => e (by injection q)), h.at_ x]; simp [e]
  · by_cases e : x = y
    · subst e; rw [has_put_same h.map (zA1 x)]; simp
    · rw [has_put_other (fun q => e (by injection q)), h.has_ x]; simp [e]
def OpM (w : World) (mv : Value) : Prop := ∃ M n D, mv = .map (some M) ∧ w.ownsMap Tryz.prog 9 opR M n D ∧ OpTab D
theorem OpM.same {w w' : World} {mv : Value} (h : OpM w mv) (he : ∀ M, mv = .map (some M) → M < w.heap.size → w'.heap[M]? = w.heap[M]?) : OpM w' mv := by
  obtain ⟨M, n, D, rfl, hown, hD⟩ := h
  have hl := hown.lt
  obtain ⟨es, c, hb, F, hs, hDD⟩ := hown
  exact ⟨M, n, D, rfl, ⟨es, c, (he M rfl hl).trans hb, F, hs, hDD⟩, hD⟩
theorem OpM.below {w w' : World} {mv : Value} (h : OpM w mv) (hb : Below w.heap.size w w') : OpM w' mv := h.same fun M _ hl => hb.block M hl
theorem OpM.grown {w w' : World} {mv : Value} {g : Nat} {cs : Array Value} {t : TypeId} {fr : Nat × Nat} (h : OpM w mv) (hg : w.grownBy w' (some g)) (hc : w.heap[g]? = some (.cells cs t fr)) : OpM w' mv := by
  obtain ⟨M, n, D, rfl, hown, hD⟩ := h
  have hl := hown.lt
  obtain ⟨es, c, hb, F, hs, hDD⟩ := hown
  have hne : M ≠ g := fun e => by subst e; rw [hc] at hb; cases hb
  exact ⟨M, n, D, rfl, ⟨es, c, (hg.block M hl (fun e => hne (by injection e))).trans hb, F, hs, hDD⟩, hD⟩
theorem zEf (w : World) : (zeroValue 103).run Tryz.prog w = .ok (opV 0 0 0 0) w := by kernel_rfl
theorem zEg {w : World} {mv : Value} (h : OpM w mv) (s : ByteArray) (hs : s.size ≤ maxLen) :
    ∀ m, (Instr.lookup 70 mv (.string s) true).run Tryz.prog (w.drewN m) = .ok (.tuple #[match opTab s.toList with | some (a, b, c, d) => opV a b c d | none => opV 0 0 0 0, .bool (opTab s.toList).isSome]) (w.drewN m) := by
  intro m
  obtain ⟨M, n, D, rfl, hown, hD⟩ := h
  have hw : (w.drewN m).ownsMap Tryz.prog 9 opR M n D := hown
  obtain ⟨v, ps, hr, hv⟩ := hw.look_ok qd Tryz.underlying70 (zEf _) (zd := opD 0 0 0 0) (zp := []) rfl (key := .string s) (WideMaps.keyOf_string_mk Tryz.underlying9 hs)
  have e : s.data.toList = s.toList := (ByteArray.toList_eq s).symm
  rw [e, hD.at_] at hv
  rw [e, hD.has_] at hr
  rw [hr]
  cases hq : opTab s.toList with
  | none => rw [hq] at hv; rw [zBp hv]
  | some q =>
    obtain ⟨a, b, c, d⟩ := q
    rw [hq] at hv
    rw [zBp hv]
set_option maxHeartbeats 4000000 in
set_option maxRecDepth 100000 in
theorem zEd (w : World) : Calls Tryz.prog 20 #[] w fun e w' => ∃ M, e = .returned (.map (some M)) ∧ OpM w' (.map (some M)) ∧ w.heap.size ≤ M ∧ Below w.heap.size w w' := by
  have hmm := @run_makeMap Tryz.prog
  have h0 := World.ownsMap_made (H := Unit) w Tryz.prog 9 opR
  have g0 : Below w.heap.size w (w.alloc (.map #[] 0)) := (Below.refl _ _).alloc (Nat.le_refl _) _
  obtain ⟨u1, r1, h1, q1⟩ := h0.update qd Tryz.underlying70 (by unfold maxLen; omega) (key := .string ⟨#[40]⟩) (val := opV 6 5 5 0) (d := opD 6 5 5 0) (ps := []) (WideMaps.keyOf_string_mk Tryz.underlying9 (by show 1 ≤ maxLen; unfold maxLen; omega)) rfl
  have g1 := g0.grown q1 (by have := g0.size; omega) (fun k hk => by injection hk with hk; omega)
  obtain ⟨u2, r2, h2, q2⟩ := h1.update qd Tryz.underlying70 (by unfold maxLen; omega) (key := .string ⟨#[42]⟩) (val := opV 15 3 3 4) (d := opD 15 3 3 4) (ps := []) (WideMaps.keyOf_string_mk Tryz.underlying9 (by show 1 ≤ maxLen; unfold maxLen; omega)) rfl
  have g2 := g1.grown q2 (by have := g1.size; omega) (fun k hk => by injection hk with hk; omega)
  obtain ⟨u3, r3, h3, q3⟩ := h2.update qd Tryz.underlying70 (by unfold maxLen; omega) (key := .string ⟨#[47]⟩) (val := opV 15 3 3 4) (d := opD 15 3 3 4) (ps := []) (WideMaps.keyOf_string_mk Tryz.underlying9 (by show 1 ≤ maxLen; unfold maxLen; omega)) rfl
  have g3 := g2.grown q3 (by have := g2.size; omega) (fun k hk => by injection hk with hk; omega)
  obtain ⟨u4, r4, h4, q4⟩ := h3.update qd Tryz.underlying70 (by unfold maxLen; omega) (key := .string ⟨#[43]⟩) (val := opV 15 2 2 3) (d := opD 15 2 2 3) (ps := []) (WideMaps.keyOf_string_mk Tryz.underlying9 (by show 1 ≤ maxLen; unfold maxLen; omega)) rfl
  have g4 := g3.grown q4 (by have := g3.size; omega) (fun k hk => by injection hk with hk; omega)
  obtain ⟨u5, r5, h5, q5⟩ := h4.update qd Tryz.underlying70 (by unfold maxLen; omega) (key := .string ⟨#[45]⟩) (val := opV 15 2 2 3) (d := opD 15 2 2 3) (ps := []) (WideMaps.keyOf_string_mk Tryz.underlying9 (by show 1 ≤ maxLen; unfold maxLen; omega)) rfl
  have g5 := g4.grown q5 (by have := g4.size; omega) (fun k hk => by injection hk with hk; omega)
  obtain ⟨u6, r6, h6, q6⟩ := h5.update qd Tryz.underlying70 (by unfold maxLen; omega) (key := .string ⟨#[60]⟩) (val := opV 15 1 2 2) (d := opD 15 1 2 2) (ps := []) (WideMaps.keyOf_string_mk Tryz.underlying9 (by show 1 ≤ maxLen; unfold maxLen; omega)) rfl
  have g6 := g5.grown q6 (by have := g5.size; omega) (fun k hk => by injection hk with hk; omega)
  obtain ⟨u7, r7, h7, q7⟩ := h6.update qd Tryz.underlying70 (by unfold maxLen; omega) (key := .string ⟨#[61]⟩) (val := opV 15 1 2 2) (d := opD 15 1 2 2) (ps := []) (WideMaps.keyOf_string_mk Tryz.underlying9 (by show 1 ≤ maxLen; unfold maxLen; omega)) rfl
  have g7 := g6.grown q7 (by have := g6.size; omega) (fun k hk => by injection hk with hk; omega)
  obtain ⟨u8, r8, h8, q8⟩ := h7.update qd Tryz.underlying70 (by unfold maxLen; omega) (key := .string ⟨#[58]⟩) (val := opV 16 0 0 0) (d := opD 16 0 0 0) (ps := []) (WideMaps.keyOf_string_mk Tryz.underlying9 (by show 1 ≤ maxLen; unfold maxLen; omega)) rfl
  have g8 := g7.grown q8 (by have := g7.size; omega) (fun k hk => by injection hk with hk; omega)
  have hT := ((((((((OpTo.start.put [40] 6 5 5 0).put [42] 15 3 3 4).put [47] 15 3 3 4).put [43] 15 2 2 3).put [45] 15 2 2 3).put [60] 15 1 2 2).put [61] 15 1 2 2).put [58] 16 0 0 0)
  have HF := k0_ (show OpM u8 (.map (some w.heap.size)) ∧ Below w.heap.size w u8 from ⟨⟨_, _, _, rfl, h8, ⟨fun x => (hT.at_ x).trans rfl, fun x => (hT.has_ x).trans rfl⟩⟩, g8⟩)
  clear h0 h1 h2 h3 h4 h5 h6 h7 h8 g0 g1 g2 g3 g4 g5 g6 g7 g8 q1 q2 q3 q4 q5 q6 q7 q8 hT
  unfold opV at *
  go_enter Tryz.func20, Tryz.ntmps20
  go_wp2_with fail
  go_ret
  exact ⟨w.heap.size, rfl, HF.out.1, Nat.le_refl _, HF.out.2⟩
end Go.Proofs.YtgjemmmbnpkamaaGreatDoor
