/-
  The law's opened: a right type, one part made unknown.
-/
import Derived.Test.YtfkbdpehdabepaaDoorAg5
import Derived.Test.YtfkbdpehdabepaaDoorInP
import Derived.Deep.DeepCutAuto
namespace Go.Proofs.YtfkbdpehdabepaaDoor
open Go.RowKit

namespace Ty
theorem IsP.two {P : Nat → Prop} {w : World} {N : Nat} {kd k k' : Int} {kids kids' : Fo} {A A' : Option Addr} {n c n' c' : Nat} {t : TypeId} (hN : P N) (h1 : -128 ≤ kd) (h2 : kd ≤ 127) (h : w.heap[N]? = some (.cells #[.int .i8 k, .slice A n c, .int .i8 k', .slice A' n' c'] t (0, 0))) (g1 : IsP P w k kids A n c) (g2 : IsP P w k' kids' A' n' c') :
    IsP P w kd (two k kids k' kids') (some ⟨N, 0, none⟩) 2 2 := by
  refine ⟨⟨N, 0, A, c, rfl, hN, ⟨g1.lo, g1.hi⟩, by simp [World.cell?, h], by rw [← g1.n_eq]; simp [World.cell?, h], by rw [← g1.n_eq]; exact g1.n_le, g1.c_le, g1.lies, ?_⟩, rfl, Nat.le_refl _, by unfold maxLen; omega, h1, h2⟩
  exact ⟨N, 0, A', c', rfl, hN, ⟨g2.lo, g2.hi⟩, by simp [World.cell?, h], by rw [← g2.n_eq]; simp [World.cell?, h], by rw [← g2.n_eq]; exact g2.n_le, g2.c_le, g2.lies, trivial⟩

/-- what the opening of a right type keeps -/
structure Opens (k : Int) (kids : Fo) (kc : Int) (fc : Fo) : Prop where
  ok : okT kc fc = true
  nd : nodes fc ≤ nodes kids
  dp : dep fc ≤ dep kids
  self : agT k kids kc fc = true
  more : ∀ k' f', agT k kids k' f' = true → agT kc fc k' f' = true
theorem Opens.refl {k : Int} {kids : Fo} (h : okT k kids = true) : Opens k kids k kids := ⟨h, Nat.le_refl _, Nat.le_refl _, by unfold agT; simp [agF_refl], fun _ _ h => h⟩
theorem Opens.zero (k : Int) (kids : Fo) : Opens k kids 0 .nil := ⟨rfl, Nat.zero_le _, Nat.zero_le _, agT_zero_right _ _ _, fun _ _ _ => rfl⟩
theorem Opens.mk2 {k k1 k2 l1 l2 : Int} {f1 f2 g1 g2 : Fo} {a b c d : Nat} (h : okT k (.node a b k1 f1 (.node c d k2 f2 .nil)) = true) (h1 : Opens k1 f1 l1 g1) (h2 : Opens k2 f2 l2 g2) : Opens k (.node a b k1 f1 (.node c d k2 f2 .nil)) k (two l1 g1 l2 g2) := by
  have o1 := h1.ok
  have o2 := h2.ok
  refine ⟨?_, ?_, ?_, ?_, ?_⟩
  · unfold okT at h o1 o2 ⊢
    rw [Bool.and_eq_true] at h o1 o2 ⊢
    refine ⟨h.1, ?_⟩
    simp only [two, okF, Bool.and_eq_true]
    exact ⟨⟨o1.1, o1.2⟩, ⟨o2.1, o2.2⟩, trivial⟩
  · have := h1.nd; have := h2.nd; simp only [two, nodes]; omega
  · have := h1.dp; have := h2.dp; simp only [two, dep]; omega
  · have e1 := h1.self; have e2 := h2.self
    unfold agT at e1 e2
    unfold agT
    simp only [two, agF, e1, e2]
    simp
  · intro k' f' hh
    unfold agT at hh ⊢
    by_cases q : ((k == 0) || (k' == 0)) = true
    · simp only [q, Bool.true_or]
    · have q' : ((k == 0) || (k' == 0)) = false := by simpa using q
      rw [q', Bool.false_or, Bool.and_eq_true] at hh ⊢
      refine ⟨hh.1, ?_⟩
      have hf := hh.2
      match f', hf with
      | .nil, _ => rfl
      | .node _ _ m1 u1 .nil, hf =>
        simp only [two, agF] at hf ⊢
        have := h1.more m1 u1 (by unfold agT; simpa using hf)
        unfold agT at this
        simpa using this
      | .node _ _ m1 u1 (.node _ _ m2 u2 r), hf =>
        simp only [two, agF, Bool.and_eq_true] at hf ⊢
        have e1 := h1.more m1 u1 hf.1
        have e2 := h2.more m2 u2 hf.2.1
        exact ⟨e1, e2, trivial⟩
end Ty
theorem or_big {P : Nat → Prop} {b m m' : Nat} (h : P b ∨ m ≤ b) (hm : m' ≤ m) : P b ∨ m' ≤ b := h.imp id (Nat.le_trans hm)
theorem or_ne {P : Nat → Prop} {b m N X : Nat} (h : P b ∨ m ≤ b) (hP : ∀ b, P b → b < N) (h1 : N ≤ X) (h2 : X < m) : b ≠ X := by
  rcases h with h | h
  · have := hP b h; omega
  · omega
/-- what opened leaves -/
def OpenPost (P : Nat → Prop) (w : World) (k : Int) (kids : Fo) (e : Ending) (w' : World) : Prop :=
  ∃ kc fc G m cg x, e = .returned (.tuple #[.agg #[.int .i8 kc, .slice G m cg], .int .i64 x]) ∧ (-9223372036854775808 ≤ x ∧ x ≤ 9223372036854775807) ∧ Ty.IsP (fun b => P b ∨ w.heap.size ≤ b) w' kc fc G m cg ∧ Ty.Opens k kids kc fc ∧ Below w.heap.size w w'
theorem two_set {w u : World} {X : Nat} (h : Below w.heap.size w u) (hX : w.heap.size ≤ X) (v0 v1 : Value) : Below w.heap.size w ((u.setCell ⟨X, 0, none⟩ v0).setCell ⟨X, 1, none⟩ v1) :=
  (h.setCell (p := ⟨X, 0, none⟩) hX _).setCell (p := ⟨X, 1, none⟩) hX _
theorem two_keep {u : World} {X b o : Nat} {v v0 v1 : Value} (hX : b ≠ X) (hc : u.cell? ⟨b, o, none⟩ = some v) : ((u.setCell ⟨X, 0, none⟩ v0).setCell ⟨X, 1, none⟩ v1).cell? ⟨b, o, none⟩ = some v := by
  rw [World.cell?_setCell_other _ _ _ _ (fun e => hX (by injection e with e; exact e.symm)), World.cell?_setCell_other _ _ _ _ (fun e => hX (by injection e with e; exact e.symm))]
  exact hc

end Go.Proofs.YtfkbdpehdabepaaDoor
