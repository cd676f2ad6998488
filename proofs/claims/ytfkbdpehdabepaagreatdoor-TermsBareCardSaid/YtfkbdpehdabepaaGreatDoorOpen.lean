/-
  An argument that is a type: its kind, its kids, as they lie in memory.
-/
import Derived.Test.YtfkbdpehdabepaaGreatDoorFo
namespace Go.Proofs.YtfkbdpehdabepaaGreatDoor
open Go.RowKit Go.ChangeShapes Go.WideShapes

theorem u_Type : ∃ f0 f1 : Field, Tryz.prog.underlying 25 = some (.struct #[f0, f1]) ∧ f0.type = 22 ∧ f0.offset = 0 ∧ f1.type = 23 ∧ f1.offset = 1 := ⟨_, _, Tryz.underlying25, rfl, rfl, rfl, rfl⟩
theorem c_Type : Tryz.prog.cellsOf 25 = 2 := by kernel_rfl
theorem c_int8 : Tryz.prog.cellsOf 22 = 1 := by kernel_rfl
theorem c_kids : Tryz.prog.cellsOf 23 = 1 := by kernel_rfl

theorem add_at (b o i : Nat) : (⟨b, o, none⟩ : Addr).add i = ⟨b, o + i, none⟩ := by unfold Addr.add; by_cases h : i = 0 <;> simp [h]

namespace Ty
theorem forest {w : World} {b o n : Nat} (h : ∀ i, i < n → ∃ k kids B m c, w.cell? ⟨b, o + i * 2, none⟩ = some (.int .i8 k) ∧ w.cell? ⟨b, o + i * 2 + 1, none⟩ = some (.slice B m c) ∧ Is w k kids B m c) :
    ∀ j, j ≤ n → ∃ f : Fo, len f = j ∧ Lies w f (some ⟨b, o, none⟩) (n - j) := by
  intro j
  induction j with
  | zero => exact fun _ => ⟨.nil, rfl, trivial⟩
  | succ j ih =>
    intro hj
    obtain ⟨f, hf, hL⟩ := ih (by omega)
    obtain ⟨k, kids, B, m, c, h1, h2, h3⟩ := h (n - (j + 1)) (by omega)
    refine ⟨.node 0 0 k kids f, by simp only [len]; omega, b, o, B, c, rfl, ⟨h3.lo, h3.hi⟩, h1, by rw [← h3.n_eq]; exact h2, by rw [← h3.n_eq]; exact h3.n_le, h3.c_le, h3.lies, ?_⟩
    rw [show n - (j + 1) + 1 = n - j by omega]
    exact hL
end Ty

set_option maxRecDepth 100000 in
theorem open_type {H : Type} {enc : TypeId × Value → H} {w : World} {base : Nat} {sp : Nat → Bool} {hd : Bool} : ∀ (fuel : Nat) (cs : List Value) (x : DataW H × List MemPlace), DataW.trod enc Tryz.prog w base sp hd fuel 25 cs = some x →
    ∃ k kids A n c, cs = [.int .i8 k, .slice A n c] ∧ Ty.Is w k kids A n c := by
  intro fuel
  induction fuel using Nat.strongRecOn with
  | _ fuel ih =>
    intro cs x h
    obtain ⟨f0, f1, hu, t0, o0, t1, o1⟩ := u_Type
    obtain ⟨xs, m, rfl, -, hl, hxl, hf⟩ := DataW.trod_struct hu h
    rw [c_Type] at hl
    match cs, hl with
    | [v0, v1], _ =>
    have h0 := hf 0 f0 rfl
    have h1 := hf 1 f1 rfl
    rw [t0, o0, c_int8] at h0
    rw [t1, o1, c_kids] at h1
    have hx0 : xs[0]? = some (xs[0]'(by rw [hxl]; simp)) := List.getElem?_eq_getElem _
    have hx1 : xs[1]? = some (xs[1]'(by rw [hxl]; simp)) := List.getElem?_eq_getElem _
    rw [hx0] at h0
    rw [hx1] at h1
    simp only [List.drop_zero, List.take_succ_cons, List.take_zero, List.drop_succ_cons] at h0 h1
    obtain ⟨k, hk, -, hwf⟩ := DataW.trod_int Tryz.underlying22 h0
    have hlo : -128 ≤ k ∧ k ≤ 127 := by
      have hmin : IntKind.i8.min = -128 := rfl
      have hmax : IntKind.i8.max = 127 := rfl
      simp only [Lit.wf, Bool.and_eq_true, decide_eq_true_eq, hmin, hmax] at hwf
      omega
    injection hk with hk
    subst hk
    rcases DataW.trod_slice Tryz.underlying23 h1 with ⟨hcs, -⟩ | ⟨a, len, cap, elems, rest, m', hm, hcs, -, hb, hle, hcap, hel, hat, -, -⟩
    · injection hcs with hcs
      subst hcs
      exact ⟨k, .nil, none, 0, 0, rfl, ⟨trivial, rfl, Nat.le_refl _, Nat.zero_le _, hlo.1, hlo.2⟩⟩
    · injection hcs with hcs
      subst hcs
      rw [c_Type] at hat
      obtain ⟨b, o, s⟩ := a
      by_cases hz : len = 0
      · subst hz
        exact ⟨k, .nil, some ⟨b, o, s⟩, 0, cap, rfl, ⟨trivial, rfl, hle, hcap, hlo.1, hlo.2⟩⟩
      · have hsp : s = none := by
          have h2 := hat 0 (by omega)
          rw [List.getElem?_eq_getElem (by omega : 0 < elems.length)] at h2
          obtain ⟨cs', hc, -⟩ := Option.bind_eq_some_iff.1 h2
          obtain ⟨-, hcl, hcell⟩ := World.cells?_some hc
          have h3 := hcell 0 (by omega)
          rw [List.getElem?_eq_getElem (by omega : 0 < cs'.length)] at h3
          simpa [Addr.add] using World.cell?_spot h3
        subst hsp
        have hfor : ∀ i, i < len → ∃ k kids B m c, w.cell? ⟨b, o + i * 2, none⟩ = some (.int .i8 k) ∧ w.cell? ⟨b, o + i * 2 + 1, none⟩ = some (.slice B m c) ∧ Ty.Is w k kids B m c := by
          intro i hi
          have h2 := hat i hi
          rw [List.getElem?_eq_getElem (by omega : i < elems.length)] at h2
          obtain ⟨cs', hc, htr⟩ := Option.bind_eq_some_iff.1 h2
          obtain ⟨k', kids', A', n', c', rfl, hIs⟩ := ih m' (by omega) cs' _ htr
          obtain ⟨-, hcl, hcell⟩ := World.cells?_some hc
          have h3 := hcell 0 (by omega)
          have h4 := hcell 1 (by omega)
          refine ⟨k', kids', A', n', c', ?_, ?_, hIs⟩
          · rw [add_at, add_at] at h3; simpa using h3
          · rw [add_at, add_at] at h4; simpa using h4
        obtain ⟨f, hf1, hf2⟩ := Ty.forest hfor len (Nat.le_refl _)
        rw [Nat.sub_self] at hf2
        exact ⟨k, f, some ⟨b, o, none⟩, len, cap, rfl, ⟨hf2, hf1.symm, hle, hcap, hlo.1, hlo.2⟩⟩
end Go.Proofs.YtfkbdpehdabepaaGreatDoor
