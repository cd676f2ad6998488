/-
  Layer 9: the kids' types in a row; a called function in a drawn region.
-/
import Derived.Test.YtknhoagicdfikaaGreatDoorM18
import Derived.Test.YtknhoagicdfikaaGreatDoorM15
import Derived.Test.YtknhoagicdfikaaGreatDoorM2
import Derived.Deep.RegionLaw
namespace Go.Proofs.YtknhoagicdfikaaGreatDoor
open Go.RowKit
namespace Ck
/-- the kids' types, in a row -/
structure Row (Q : Nat → Prop) (w : World) (ts : List T2) (Y : Nat) : Prop where
  own : Q Y
  lt : Y < w.heap.size
  cell : ∀ i t, ts[i]? = some t → ∃ G m c, w.cell? ⟨Y, i * 2, none⟩ = some (.int .i8 t.1) ∧ w.cell? ⟨Y, i * 2 + 1, none⟩ = some (.slice G m c) ∧ Ly Q w t G m c
theorem Row.later {Q : Nat → Prop} {w w' : World} {ts : List T2} {Y : Nat} (h : Row Q w ts Y) (hb : Below w.heap.size w w') : Row Q w' ts Y :=
  ⟨h.own, Nat.lt_of_lt_of_le h.lt hb.size, fun i t ht => by
    obtain ⟨G, m, c, h1, h2, h3⟩ := h.cell i t ht
    exact ⟨G, m, c, keep_cell h1 hb, keep_cell h2 hb, h3.later hb⟩⟩
theorem Row.weak {Q Q' : Nat → Prop} {w : World} {ts : List T2} {Y : Nat} (h : Row Q w ts Y) (hq : ∀ b, b < w.heap.size → Q b → Q' b) : Row Q' w ts Y :=
  ⟨hq Y h.lt h.own, h.lt, fun i t ht => by
    obtain ⟨G, m, c, h1, h2, h3⟩ := h.cell i t ht
    exact ⟨G, m, c, h1, h2, h3.weak hq⟩⟩
/-- the row of two types is a type's parts -/
theorem Row.two {Q : Nat → Prop} {w : World} {a b : T2} {Y : Nat} (h : Row Q w [a, b] Y) (k : Int) (hk : -128 ≤ k ∧ k ≤ 127) (cap : Nat) (h1 : 2 ≤ cap) (h2 : cap ≤ maxLen) : Ly Q w (mk2 k a b) (some ⟨Y, 0, none⟩) 2 cap := by
  obtain ⟨G1, m1, c1, x0, x1, x2⟩ := h.cell 0 a rfl
  obtain ⟨G2, m2, c2, y0, y1, y2⟩ := h.cell 1 b rfl
  intro u hu
  have z1 := x2 u hu
  have z2 := y2 u hu
  have hu0 := hu _ _ _ h.own x0
  have hu1 := hu _ _ _ h.own x1
  have hu2 := hu _ _ _ h.own y0
  have hu3 := hu _ _ _ h.own y1
  have e1 := z1.n_eq
  have e2 := z2.n_eq
  subst e1 e2
  refine ⟨⟨Y, 0, G1, c1, rfl, ⟨z1.lo, z1.hi⟩, by simpa using hu0, by simpa using hu1, z1.n_le, z1.c_le, z1.lies, Y, 0, G2, c2, rfl, ⟨z2.lo, z2.hi⟩, by simpa using hu2, by simpa using hu3, z2.n_le, z2.c_le, z2.lies, trivial⟩, rfl, h1, h2, hk.1, hk.2⟩
end Ck
/-- a call that comes back -/
theorem wp_calls {P : Program} {Q : Exit → Act → World → Prop} {o : Oper} {K : Act → World → Prop} {a : Act} {w : World} (d : Nat) (hd : o.dst = some d) {f : FuncId} {args : Array Value} {C : Ending → World → Prop} (hr : (execOp a.eval o).run P w = .ok (.enter f args) w) (hc : Calls P f args w C) (h : ∀ e w', C e w' → ∃ v, e = .returned v ∧ K (a.put (some d) v) w') : o.wp P a w K Q := by
  unfold Oper.wp
  rw [hr]
  refine hc.mono fun e w' hC => ?_
  obtain ⟨v, rfl, hq⟩ := h e w' hC
  rw [← hd] at hq
  exact hq
end Go.Proofs.YtknhoagicdfikaaGreatDoor
