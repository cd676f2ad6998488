/-
  An argument that is a term: its fields, its types, its kids, as they lie in memory.
-/
import Derived.Test.YtfkbdpehdabepaaGreatDoorTm
import Derived.Test.YtfkbdpehdabepaaGreatDoorM1
import Derived.SizedLaws
namespace Go.Proofs.YtfkbdpehdabepaaGreatDoor
open Go.RowKit Go.ChangeShapes Go.WideShapes

theorem u_Term : ∃ f0 f1 f2 f3 f4 f5 f6 f7 f8 : Field, Tryz.prog.underlying 28 = some (.struct #[f0, f1, f2, f3, f4, f5, f6, f7, f8]) ∧ (f0.type = 22 ∧ f0.offset = 0) ∧ (f1.type = 9 ∧ f1.offset = 1) ∧ (f2.type = 9 ∧ f2.offset = 2) ∧ (f3.type = 2 ∧ f3.offset = 3) ∧ (f4.type = 25 ∧ f4.offset = 4) ∧ (f5.type = 25 ∧ f5.offset = 6) ∧ (f6.type = 3 ∧ f6.offset = 8) ∧ (f7.type = 3 ∧ f7.offset = 9) ∧ (f8.type = 26 ∧ f8.offset = 10) := ⟨_, _, _, _, _, _, _, _, _, Tryz.underlying28, ⟨rfl, rfl⟩, ⟨rfl, rfl⟩, ⟨rfl, rfl⟩, ⟨rfl, rfl⟩, ⟨rfl, rfl⟩, ⟨rfl, rfl⟩, ⟨rfl, rfl⟩, ⟨rfl, rfl⟩, ⟨rfl, rfl⟩⟩
theorem c_Term : Tryz.prog.cellsOf 28 = 11 := by kernel_rfl
theorem ct_string : Tryz.prog.cellsOf 9 = 1 := by kernel_rfl
theorem ct_int : Tryz.prog.cellsOf 3 = 1 := by kernel_rfl
theorem ct_int64 : Tryz.prog.cellsOf 2 = 1 := by kernel_rfl
theorem ct_kids : Tryz.prog.cellsOf 26 = 1 := by kernel_rfl

namespace Tm
theorem forest {w : World} {b o n : Nat} (hh : ∀ i, i < n → ∃ h kids p, (∀ j v, (h.cells p)[j]? = some v → w.cell? ⟨b, o + i * 11 + j, none⟩ = some v) ∧ Is w h kids p) :
    ∀ j, j ≤ n → ∃ f : Tm, len f = j ∧ Lies w f (some ⟨b, o, none⟩) (n - j) := by
  intro j
  induction j with
  | zero => exact fun _ => ⟨.nil, rfl, trivial⟩
  | succ j ih =>
    intro hj
    obtain ⟨f, hf, hL⟩ := ih (by omega)
    obtain ⟨h, kids, p, h1, h2⟩ := hh (n - (j + 1)) (by omega)
    refine ⟨.node h kids f, by simp only [len]; omega, b, o, p, rfl, h1, h2.fit, h2.lies, ?_⟩
    rw [show n - (j + 1) + 1 = n - j by omega]
    exact hL
end Tm
theorem weights_elems {H : Type} {P : Program} {e : TypeId} {d : DataW H} : ∀ {l : List (DataW H)}, d ∈ l → ∀ n ∈ d.weights P e, n ∈ DataW.weightsAll P e l
  | [], h, _, _ => by cases h
  | x :: r, h, n, hn => by
    simp only [DataW.weightsAll, List.mem_append]
    rcases List.mem_cons.1 h with rfl | h
    · exact .inl hn
    · exact .inr (weights_elems h n hn)

set_option maxRecDepth 100000 in
set_option maxHeartbeats 1000000 in
theorem open_term {H : Type} {enc : TypeId × Value → H} {w : World} {base : Nat} {sp : Nat → Bool} {hd : Bool} : ∀ (fuel : Nat) (cs : List Value) (x : DataW H × List MemPlace), DataW.trod enc Tryz.prog w base sp hd fuel 28 cs = some x →
    (∀ n ∈ x.1.weights Tryz.prog 28, n ≤ reachBytes) → ∃ h kids p, cs = h.cells p ∧ Tm.Is w h kids p := by
  intro fuel
  induction fuel using Nat.strongRecOn with
  | _ fuel ih =>
    intro cs x hx hsz
    obtain ⟨f0, f1, f2, f3, f4, f5, f6, f7, f8, hu, ⟨t0, o0⟩, ⟨t1, o1⟩, ⟨t2, o2⟩, ⟨t3, o3⟩, ⟨t4, o4⟩, ⟨t5, o5⟩, ⟨t6, o6⟩, ⟨t7, o7⟩, ⟨t8, o8⟩⟩ := u_Term
    obtain ⟨xs, m, rfl, rfl, hl, hxl, hf⟩ := DataW.trod_struct hu hx
    rw [c_Term] at hl
    match cs, hl with
    | [v0, v1, v2, v3, v4, v5, v6, v7, v8, v9, v10], _ =>
    have hw : ∀ (i : Nat) (f : Field) (hi : i < 9), (#[f0, f1, f2, f3, f4, f5, f6, f7, f8] : Array Field)[i]? = some f → ∀ n ∈ (xs[i]'(by rw [hxl]; exact hi)).1.weights Tryz.prog f.type, n ≤ reachBytes := by
      intro i f hi hfi n hn
      refine hsz n ?_
      simp only [DataW.weights, hu]
      refine DataW.weights_mem_each (j := i) (t := f.type) (d := (xs[i]'(by rw [hxl]; exact hi)).1) ?_ ?_ n hn
      · rw [List.getElem?_map, Array.getElem?_toList, hfi]; rfl
      · rw [List.getElem?_map, List.getElem?_eq_getElem (by rw [hxl]; exact hi)]; rfl
    have h0 := hf 0 f0 rfl
    rw [t0, o0, c_int8] at h0
    have hx0 : xs[0]? = some (xs[0]'(by rw [hxl]; simp)) := List.getElem?_eq_getElem _
    rw [hx0] at h0
    simp only [List.drop_zero, List.take_succ_cons, List.take_zero] at h0
    have h1 := hf 1 f1 rfl
    rw [t1, o1, ct_string] at h1
    have hx1 : xs[1]? = some (xs[1]'(by rw [hxl]; simp)) := List.getElem?_eq_getElem _
    rw [hx1] at h1
    simp only [List.drop_zero, List.take_succ_cons, List.take_zero, List.drop_succ_cons] at h1
    have h2 := hf 2 f2 rfl
    rw [t2, o2, ct_string] at h2
    have hx2 : xs[2]? = some (xs[2]'(by rw [hxl]; simp)) := List.getElem?_eq_getElem _
    rw [hx2] at h2
    simp only [List.drop_zero, List.take_succ_cons, List.take_zero, List.drop_succ_cons] at h2
    have h3 := hf 3 f3 rfl
    rw [t3, o3, ct_int64] at h3
    have hx3 : xs[3]? = some (xs[3]'(by rw [hxl]; simp)) := List.getElem?_eq_getElem _
    rw [hx3] at h3
    simp only [List.drop_zero, List.take_succ_cons, List.take_zero, List.drop_succ_cons] at h3
    have h4 := hf 4 f4 rfl
    rw [t4, o4, c_Type] at h4
    have hx4 : xs[4]? = some (xs[4]'(by rw [hxl]; simp)) := List.getElem?_eq_getElem _
    rw [hx4] at h4
    simp only [List.drop_zero, List.take_succ_cons, List.take_zero, List.drop_succ_cons] at h4
    have h5 := hf 5 f5 rfl
    rw [t5, o5, c_Type] at h5
    have hx5 : xs[5]? = some (xs[5]'(by rw [hxl]; simp)) := List.getElem?_eq_getElem _
    rw [hx5] at h5
    simp only [List.drop_zero, List.take_succ_cons, List.take_zero, List.drop_succ_cons] at h5
    have h6 := hf 6 f6 rfl
    rw [t6, o6, ct_int] at h6
    have hx6 : xs[6]? = some (xs[6]'(by rw [hxl]; simp)) := List.getElem?_eq_getElem _
    rw [hx6] at h6
    simp only [List.drop_zero, List.take_succ_cons, List.take_zero, List.drop_succ_cons] at h6
    have h7 := hf 7 f7 rfl
    rw [t7, o7, ct_int] at h7
    have hx7 : xs[7]? = some (xs[7]'(by rw [hxl]; simp)) := List.getElem?_eq_getElem _
    rw [hx7] at h7
    simp only [List.drop_zero, List.take_succ_cons, List.take_zero, List.drop_succ_cons] at h7
    have h8 := hf 8 f8 rfl
    rw [t8, o8, ct_kids] at h8
    have hx8 : xs[8]? = some (xs[8]'(by rw [hxl]; simp)) := List.getElem?_eq_getElem _
    rw [hx8] at h8
    simp only [List.drop_zero, List.take_succ_cons, List.take_zero, List.drop_succ_cons] at h8
    obtain ⟨k, hk, -, hwf0⟩ := DataW.trod_int Tryz.underlying22 h0
    have hlo : -128 ≤ k ∧ k ≤ 127 := by
      have hmin : IntKind.i8.min = -128 := rfl
      have hmax : IntKind.i8.max = 127 := rfl
      simp only [Lit.wf, Bool.and_eq_true, decide_eq_true_eq, hmin, hmax] at hwf0
      omega
    obtain ⟨nm, hnm, hxn, -⟩ := DataW.trod_string Tryz.underlying9 h1
    obtain ⟨ar, har, hxa, -⟩ := DataW.trod_string Tryz.underlying9 h2
    obtain ⟨nu, hnu, -, -⟩ := DataW.trod_int Tryz.underlying2 h3
    obtain ⟨tk, tks, TA, tn, tc, htc, hIt⟩ := open_type m _ _ h4
    obtain ⟨uk, uks, UA, un, uc, huc, hIu⟩ := open_type m _ _ h5
    obtain ⟨lb, hlb, -, hwf6⟩ := DataW.trod_int Tryz.underlying3 h6
    have hll : -9223372036854775808 ≤ lb ∧ lb ≤ 9223372036854775807 := by
      have hmin : IntKind.i64.min = -9223372036854775808 := rfl
      have hmax : IntKind.i64.max = 9223372036854775807 := rfl
      simp only [Lit.wf, Bool.and_eq_true, decide_eq_true_eq, hmin, hmax] at hwf6
      omega
    obtain ⟨ps, hps, -, -⟩ := DataW.trod_int Tryz.underlying3 h7
    injection hk with hk
    injection hnm with hnm
    injection har with har
    injection hnu with hnu
    injection htc with htc1 htc
    injection htc with htc2
    injection huc with huc1 huc
    injection huc with huc2
    injection hlb with hlb
    injection hps with hps
    subst hk hnm har hnu htc1 htc2 huc1 huc2 hlb hps
    have hrb := reachBytes_lt
    have z1 : nm.size ≤ 281474976710656 := by
      have := hw 1 f1 (by decide) rfl nm.data.toList.length (by rw [hxn]; simp [DataW.weights])
      rw [Sc.data_len] at this
      omega
    have z2 : ar.size ≤ 281474976710656 := by
      have := hw 2 f2 (by decide) rfl ar.data.toList.length (by rw [hxa]; simp [DataW.weights])
      rw [Sc.data_len] at this
      omega
    rcases DataW.trod_slice Tryz.underlying26 h8 with ⟨hcs, -⟩ | ⟨a, len, cap, elems, rest, m', hm, hcs, hx8', hb, hle, hcap, hel, hat, -, -⟩
    · injection hcs with hcs
      subst hcs
      exact ⟨⟨k, nm, ar, nu, tk, tks, uk, uks, lb, ps⟩, .nil, ⟨TA, tn, tc, UA, un, uc, none, 0, 0⟩, rfl, ⟨hIt, hIu, rfl, Nat.le_refl _, Nat.zero_le _, hlo.1, hlo.2, hll.1, hll.2, z1, z2⟩, trivial⟩
    · injection hcs with hcs
      subst hcs
      rw [c_Term] at hat
      obtain ⟨b, o, s⟩ := a
      by_cases hz : len = 0
      · subst hz
        exact ⟨⟨k, nm, ar, nu, tk, tks, uk, uks, lb, ps⟩, .nil, ⟨TA, tn, tc, UA, un, uc, some ⟨b, o, s⟩, 0, cap⟩, rfl, ⟨hIt, hIu, rfl, hle, hcap, hlo.1, hlo.2, hll.1, hll.2, z1, z2⟩, trivial⟩
      · have hsp : s = none := by
          have h2 := hat 0 (by omega)
          rw [List.getElem?_eq_getElem (by omega : 0 < elems.length)] at h2
          obtain ⟨cs', hc, -⟩ := Option.bind_eq_some_iff.1 h2
          obtain ⟨-, hcl, hcell⟩ := World.cells?_some hc
          have h3 := hcell 0 (by omega)
          rw [List.getElem?_eq_getElem (by omega : 0 < cs'.length)] at h3
          simpa [Addr.add] using World.cell?_spot h3
        subst hsp
        have hfor : ∀ i, i < len → ∃ h kids p, (∀ j v, (Hd.cells h p)[j]? = some v → w.cell? ⟨b, o + i * 11 + j, none⟩ = some v) ∧ Tm.Is w h kids p := by
          intro i hi
          have h2 := hat i hi
          rw [List.getElem?_eq_getElem (by omega : i < elems.length)] at h2
          obtain ⟨cs', hc, htr⟩ := Option.bind_eq_some_iff.1 h2
          have hwi : ∀ n ∈ (elems[i]'(by omega)).1.weights Tryz.prog 28, n ≤ reachBytes := by
            intro n hn
            refine hw 8 f8 (by decide) rfl n ?_
            rw [hx8', t8]
            simp only [DataW.weights, Tryz.underlying26]
            refine List.mem_cons_of_mem _ (List.mem_append_left _ (weights_elems ?_ n hn))
            exact List.mem_map.2 ⟨_, List.getElem_mem _, rfl⟩
          obtain ⟨h', kids', p', rfl, hIs⟩ := ih m' (by omega) cs' _ htr hwi
          obtain ⟨-, hcl, hcell⟩ := World.cells?_some hc
          refine ⟨h', kids', p', fun j v hv => ?_, hIs⟩
          have hj : j < 11 := by
            rcases Nat.lt_or_ge j 11 with h | h
            · exact h
            · rw [List.getElem?_eq_none (by simpa using h)] at hv; cases hv
          have h3 := hcell j hj
          rw [add_at, add_at, hv] at h3
          exact h3
        obtain ⟨f, hf1, hf2⟩ := Tm.forest hfor len (Nat.le_refl _)
        rw [Nat.sub_self] at hf2
        exact ⟨⟨k, nm, ar, nu, tk, tks, uk, uks, lb, ps⟩, f, ⟨TA, tn, tc, UA, un, uc, some ⟨b, o, none⟩, len, cap⟩, rfl, ⟨hIt, hIu, hf1.symm, hle, hcap, hlo.1, hlo.2, hll.1, hll.2, z1, z2⟩, hf2⟩
end Go.Proofs.YtfkbdpehdabepaaGreatDoor
