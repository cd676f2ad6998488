/-
  What the row of TypesReads gives a walk: the handle on a type; an argument that is a row of words; a world that meets the list.
-/
import Derived.Test.YtkpdddlonmkebaaDoorFrameTy
import Derived.Test.YtkpdddlonmkebaaDoorRd1
import Derived.SizedLaws
namespace Go.Proofs.YtkpdddlonmkebaaDoor
open Go.ChangeShapes Go.WideShapes Go.ChangeAt Go.RowKit Rd

theorem et : Tryd.prog.globalNamed "errors.errorType" = some 1 := by kernel_rfl
theorem etRt : (Tryd.prog.cutTypes.find? (·.1 == "internal/reflectlite.rtype")).map (·.2) = some 118 := by kernel_rfl
theorem etRow : ((List.range 201).filter fun t => Tryd.prog.rowNamed t [101, 114, 114, 111, 114]) = [31] := by kernel_rfl
theorem etSize : Tryd.prog.types.size = 201 := by kernel_rfl

theorem handle_of {l : List (String × DataW Unit)} {W : World} (h : handlesMet Tryd.prog (("errors.errorType", Rows.laid_errors_errorType) :: l) W) : W.cell? ⟨1, 0, none⟩ = some (.iface 118 (.agg #[.pointer (some ⟨8, 31, none⟩)])) := by
  obtain ⟨name, u, ty, e1, e2, e3, e4, e5⟩ := h _ (List.mem_cons_self ..)
  have en : name = [101, 114, 114, 111, 114] := (Option.some.inj e1).symm
  subst en
  obtain rfl := Option.some.inj (etRt.symm.trans e2)
  have hm : ty ∈ (List.range 201).filter fun t => Tryd.prog.rowNamed t [101, 114, 114, 111, 114] := List.mem_filter.2 ⟨List.mem_range.2 (by rw [← etSize]; exact e3), e4⟩
  rw [etRow] at hm
  obtain rfl := List.mem_singleton.1 hm
  have hh : typeHandle Tryd.prog 31 = .pointer (some ⟨8, 31, none⟩) := by kernel_rfl
  rw [hh] at e5
  simpa using World.var?_cell et e5 0

noncomputable def laidWorldR (os : Os) : World :=
  let w0 := laidWorld os
  { w0 with heap := w0.heap.modify 1 fun
      | .cells _ t frozen => .cells #[.iface 118 (.agg #[.pointer (some ⟨8, 31, none⟩)])] t frozen
      | o => o }
theorem laid_metR (os : Os) (args : Array Value) : laidMetH Tryd.prog Rows.typesReadsRow.laid ((laidWorldR os).forCall (fun _ _ => 0) ⟨#[], args, []⟩).memory :=
  laidMetH_of_parts (laidMet_of_run' 8 (by kernel_rfl) (by kernel_rfl)) (by kernel_rfl)

theorem u_Word : ∃ f0 f1 f2 f3 : Field, Tryd.prog.underlying 26 = some (.struct #[f0, f1, f2, f3]) ∧ (f0.type = 24 ∧ f0.offset = 0) ∧ (f1.type = 9 ∧ f1.offset = 1) ∧ (f2.type = 2 ∧ f2.offset = 2) ∧ (f3.type = 3 ∧ f3.offset = 3) := ⟨_, _, _, _, Tryd.underlying26, ⟨rfl, rfl⟩, ⟨rfl, rfl⟩, ⟨rfl, rfl⟩, ⟨rfl, rfl⟩⟩
theorem c_Word : Tryd.prog.cellsOf 26 = 4 := by kernel_rfl
theorem c_int64 : Tryd.prog.cellsOf 2 = 1 := by kernel_rfl
theorem weights_elems {H : Type} {P : Program} {e : TypeId} {d : DataW H} : ∀ {l : List (DataW H)}, d ∈ l → ∀ n ∈ d.weights P e, n ∈ DataW.weightsAll P e l
  | [], h, _, _ => by cases h
  | x :: r, h, n, hn => by
    simp only [DataW.weightsAll, List.mem_append]
    rcases List.mem_cons.1 h with rfl | h
    · exact .inl hn
    · exact .inr (weights_elems h n hn)
theorem data_len' (s : ByteArray) : s.data.toList.length = s.size := by
  show s.data.toList.length = s.data.size
  exact Array.length_toList

set_option maxRecDepth 100000 in
theorem open_word {H : Type} {enc : TypeId × Value → H} {w : World} {base : Nat} {sp : Nat → Bool} {hd : Bool} (fuel : Nat) (cs : List Value) (x : DataW H × List MemPlace) (hx : DataW.trod enc Tryd.prog w base sp hd fuel 26 cs = some x)
    (hsz : ∀ n ∈ x.1.weights Tryd.prog 26, n ≤ reachBytes) : ∃ y : W4, cs = [.int .i8 y.kind, .string y.text, .int .i64 y.num, .int .i64 y.pos] ∧ y.text.size ≤ 281474976710656 := by
  obtain ⟨f0, f1, f2, f3, hu, ⟨t0, o0⟩, ⟨t1, o1⟩, ⟨t2, o2⟩, ⟨t3, o3⟩⟩ := u_Word
  obtain ⟨xs, m, rfl, rfl, hl, hxl, hf⟩ := DataW.trod_struct hu hx
  rw [c_Word] at hl
  match cs, hl with
  | [v0, v1, v2, v3], _ =>
  have hw : ∀ (i : Nat) (f : Field) (hi : i < 4), (#[f0, f1, f2, f3] : Array Field)[i]? = some f → ∀ n ∈ (xs[i]'(by rw [hxl]; exact hi)).1.weights Tryd.prog f.type, n ≤ reachBytes := by
    intro i f hi hfi n hn
    refine hsz n ?_
    simp only [DataW.weights, hu]
    refine DataW.weights_mem_each (j := i) (t := f.type) (d := (xs[i]'(by rw [hxl]; exact hi)).1) ?_ ?_ n hn
    · rw [List.getElem?_map, Array.getElem?_toList, hfi]; rfl
    · rw [List.getElem?_map, List.getElem?_eq_getElem (by rw [hxl]; exact hi)]; rfl
  have h0 := hf 0 f0 rfl
  rw [t0, o0, c_int8] at h0
  have hx0 : xs[0]? = some (xs[0]'(by rw [hxl]; simp)) := List.getElem?_eq_getElem _
  rw [hx0] at h0
  simp only [List.drop_zero, List.take_succ_cons, List.take_zero] at h0
  have h1 := hf 1 f1 rfl
  rw [t1, o1, c_string] at h1
  have hx1 : xs[1]? = some (xs[1]'(by rw [hxl]; simp)) := List.getElem?_eq_getElem _
  rw [hx1] at h1
  simp only [List.drop_zero, List.take_succ_cons, List.take_zero, List.drop_succ_cons] at h1
  have h2 := hf 2 f2 rfl
  rw [t2, o2, c_int64] at h2
  have hx2 : xs[2]? = some (xs[2]'(by rw [hxl]; simp)) := List.getElem?_eq_getElem _
  rw [hx2] at h2
  simp only [List.drop_zero, List.take_succ_cons, List.take_zero, List.drop_succ_cons] at h2
  have h3 := hf 3 f3 rfl
  rw [t3, o3, c_int] at h3
  have hx3 : xs[3]? = some (xs[3]'(by rw [hxl]; simp)) := List.getElem?_eq_getElem _
  rw [hx3] at h3
  simp only [List.drop_zero, List.take_succ_cons, List.take_zero, List.drop_succ_cons] at h3
  obtain ⟨k, hk, -, -⟩ := DataW.trod_int Tryd.underlying24 h0
  obtain ⟨nm, hnm, hxn, -⟩ := DataW.trod_string Tryd.underlying9 h1
  obtain ⟨nu, hnu, -, -⟩ := DataW.trod_int Tryd.underlying2 h2
  obtain ⟨ps, hps, -, -⟩ := DataW.trod_int Tryd.underlying3 h3
  injection hk with hk
  injection hnm with hnm
  injection hnu with hnu
  injection hps with hps
  subst hk hnm hnu hps
  have hrb := reachBytes_lt
  have z1 : nm.size ≤ 281474976710656 := by
    have := hw 1 f1 (by decide) rfl nm.data.toList.length (by rw [hxn]; simp [DataW.weights])
    rw [data_len'] at this
    omega
  exact ⟨⟨k, nm, nu, ps⟩, rfl, z1⟩

theorem row_of {w : World} {b o : Nat} : ∀ n, (∀ i, i < n → ∃ y : W4, (w.cell? ⟨b, o + i * 4, none⟩ = some (.int .i8 y.kind) ∧ w.cell? ⟨b, o + i * 4 + 1, none⟩ = some (.string y.text) ∧ w.cell? ⟨b, o + i * 4 + 2, none⟩ = some (.int .i64 y.num) ∧ w.cell? ⟨b, o + i * 4 + 3, none⟩ = some (.int .i64 y.pos)) ∧ y.text.size ≤ 281474976710656) →
    ∃ l : List W4, l.length = n ∧ WRow w (some ⟨b, o, none⟩) l ∧ ∀ x ∈ l, x.text.size ≤ 281474976710656
  | 0, _ => ⟨[], rfl, fun i x h => (by cases h), fun x h => (by cases h)⟩
  | n + 1, h => by
    obtain ⟨l, hl, hW, hs⟩ := row_of n fun i hi => h i (by omega)
    obtain ⟨y, ⟨c0, c1, c2, c3⟩, hy⟩ := h n (Nat.lt_succ_self n)
    refine ⟨l ++ [y], by simp [hl], fun i x hx => ?_, fun x hx => ?_⟩
    · rcases Nat.lt_or_ge i n with hi | hi
      · rw [List.getElem?_append_left (by omega)] at hx
        exact hW i x hx
      · rw [List.getElem?_append_right (by omega), hl] at hx
        have hin : i = n := by
          have := (List.getElem?_eq_some_iff.1 hx).1
          simp at this; omega
        subst hin
        rw [Nat.sub_self] at hx
        injection hx with hx
        subst hx
        exact ⟨b, o, rfl, c0, c1, c2, c3⟩
    · rcases List.mem_append.1 hx with hx | hx
      · exact hs x hx
      · obtain rfl := List.mem_singleton.1 hx
        exact hy

theorem add_pos (b o i : Nat) : (⟨b, o, none⟩ : Addr).add i = ⟨b, o + i, none⟩ := add_at b o i
set_option maxRecDepth 100000 in
/-- an argument that is a row of words -/
theorem open_words {H : Type} {enc : TypeId × Value → H} {W : World} {base : Nat} {sp : Nat → Bool} {hd : Bool} {v : Value} {d : DataW H} {p : List MemPlace} (hv1 : v.cells = #[v])
    (h : DataW.Trod enc Tryd.prog W base sp hd 22 v d p) (hsz : ∀ n ∈ d.weights Tryd.prog 22, n ≤ reachBytes) :
    ∃ l A c, v = .slice A l.length c ∧ WRow W A l ∧ l.length ≤ maxLen ∧ (A = none → l.length = 0 ∧ c = 0) ∧ ∀ x ∈ l, x.text.size ≤ 281474976710656 := by
  obtain ⟨fuel, hf⟩ := h
  rw [hv1] at hf
  rcases DataW.trod_slice Tryd.underlying22 hf with ⟨hcs, -⟩ | ⟨a, len, cap, elems, rest, m', hm, hcs, hx8', hb, hle, hcap, hel, hat, -, -⟩
  · injection hcs with hcs
    subst hcs
    exact ⟨[], none, 0, rfl, fun i x h => (by cases h), Nat.zero_le _, fun _ => ⟨rfl, rfl⟩, fun x h => (by cases h)⟩
  · injection hcs with hcs
    subst hcs
    rw [c_Word] at hat
    obtain ⟨b, o, s⟩ := a
    by_cases hz : len = 0
    · subst hz
      exact ⟨[], some ⟨b, o, s⟩, cap, rfl, fun i x h => (by cases h), Nat.zero_le _, fun h => (by cases h), fun x h => (by cases h)⟩
    · have hsp : s = none := by
        have h2 := hat 0 (by omega)
        rw [List.getElem?_eq_getElem (by omega : 0 < elems.length)] at h2
        obtain ⟨cs', hc, -⟩ := Option.bind_eq_some_iff.1 h2
        obtain ⟨-, hcl, hcell⟩ := World.cells?_some hc
        have h3 := hcell 0 (by omega)
        rw [List.getElem?_eq_getElem (by omega : 0 < cs'.length)] at h3
        simpa [Addr.add] using World.cell?_spot h3
      subst hsp
      have hfor : ∀ i, i < len → ∃ y : W4, (W.cell? ⟨b, o + i * 4, none⟩ = some (.int .i8 y.kind) ∧ W.cell? ⟨b, o + i * 4 + 1, none⟩ = some (.string y.text) ∧ W.cell? ⟨b, o + i * 4 + 2, none⟩ = some (.int .i64 y.num) ∧ W.cell? ⟨b, o + i * 4 + 3, none⟩ = some (.int .i64 y.pos)) ∧ y.text.size ≤ 281474976710656 := by
        intro i hi
        have h2 := hat i hi
        rw [List.getElem?_eq_getElem (by omega : i < elems.length)] at h2
        obtain ⟨cs', hc, htr⟩ := Option.bind_eq_some_iff.1 h2
        have hwi : ∀ n ∈ (elems[i]'(by omega)).1.weights Tryd.prog 26, n ≤ reachBytes := by
          intro n hn
          refine hsz n ?_
          rw [show d = _ from congrArg Prod.fst hx8']
          simp only [DataW.weights, Tryd.underlying22]
          refine List.mem_cons_of_mem _ (List.mem_append_left _ (weights_elems ?_ n hn))
          exact List.mem_map.2 ⟨_, List.getElem_mem _, rfl⟩
        obtain ⟨y, rfl, hy⟩ := open_word m' cs' _ htr hwi
        obtain ⟨-, hcl, hcell⟩ := World.cells?_some hc
        have g0 := hcell 0 (by omega)
        have g1 := hcell 1 (by omega)
        have g2 := hcell 2 (by omega)
        have g3 := hcell 3 (by omega)
        rw [add_at, add_at] at g0 g1 g2 g3
        exact ⟨y, ⟨by simpa using g0, by simpa using g1, by simpa using g2, by simpa using g3⟩, hy⟩
      obtain ⟨l, rfl, hW, hs⟩ := row_of len hfor
      exact ⟨l, _, cap, rfl, hW, Nat.le_trans hle hcap, fun h => (by cases h), hs⟩
theorem weigh {H : Type} {P : Program} {ts : List TypeId} {ds : List (DataW H)} (h : (DataW.weightsEach P ts ds).all (· ≤ reachBytes) = true) {j : Nat} {t : TypeId} {d : DataW H} (ht : ts[j]? = some t) (hd : ds[j]? = some d) : ∀ n ∈ d.weights P t, n ≤ reachBytes :=
  fun n hn => by simpa using List.all_eq_true.1 h n (DataW.weights_mem_each ht hd n hn)
end Go.Proofs.YtkpdddlonmkebaaDoor
