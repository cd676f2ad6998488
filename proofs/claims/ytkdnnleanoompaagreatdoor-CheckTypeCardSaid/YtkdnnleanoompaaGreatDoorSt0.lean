import Derived.Test.YtkdnnleanoompaaGreatDoorM17
namespace Go.Proofs.YtkdnnleanoompaaGreatDoor
open Go.RowKit
namespace St
end St
theorem vY {w : World} {b o : Nat} {v x : Value} (h : w.cell? ⟨b, o, none⟩ = some v) : (w.setCell ⟨b, o, none⟩ x).cell? ⟨b, o, none⟩ = some x := by
 unfold World.cell? at h ⊢;unfold World.setCell;simp only [Array.getElem?_modify, if_true]
 cases hb : w.heap[b]? with
 | none => rw [hb] at h; cases h
 | some ob =>
  rw [hb] at h
  cases ob with
  | cells c t z =>
   simp only [Option.isSome_none, Bool.false_eq_true, if_false] at h
   have hlt : o < c.size := by
    rcases Nat.lt_or_ge o c.size with q | q
    ·exact q
    ·rw [Array.getElem?_eq_none q] at h; cases h
   simp [hlt]
  | _ => cases h
theorem Ck.Ly.parts {Q : Nat -> Prop} {w : World} {k : Int} {a1 a2 a3 a4 : Nat} {p1 p2 : Int} {f1 f2 : Fo} {A : Option Addr} {n c : Nat} (h : Ck.Ly Q w (k, .node a1 a2 p1 f1 (.node a3 a4 p2 f2 .nil)) A n c) :
  ∃ bb oo B1 c1 B2 c2, A = some ⟨bb, oo, none⟩ /\ Q bb /\ w.cell? ⟨bb, oo, none⟩ = some (.int .i8 p1) /\ w.cell? ⟨bb, oo + 1, none⟩ = some (.slice B1 (Ty.len f1) c1) /\ w.cell? ⟨bb, oo + 2, none⟩ = some (.int .i8 p2) /\ w.cell? ⟨bb, oo + 3, none⟩ = some (.slice B2 (Ty.len f2) c2) /\ Ck.Ly Q w (p1, f1) B1 (Ty.len f1) c1 /\ Ck.Ly Q w (p2, f2) B2 (Ty.len f2) c2 := by
 obtain ⟨bb, oo, B1, c1, B2, c2, rfl, x0, x1, x2, x3, -, -⟩ := Ty.yD h.is.lies
 have hQ : Q bb := by
  refine Classical.byContradiction fun hn => ?_
  obtain ⟨bb', oo', B1', c1', B2', c2', e, y0, -, -, -, -, -⟩ := Ty.yD (h (w.setCell ⟨bb, oo, none⟩ (.bool true)) fun b o v hb hc => by
   rw [World.cell?_setCell_other _ _ _ _ (fun e => by injection e with e1 e2; exact hn (e1 ▸ hb))]; exact hc).lies
  injection e with e; injection e with e1 e2; subst e1; subst e2
  rw [vY x0] at y0;cases y0
 refine ⟨bb, oo, B1, c1, B2, c2, rfl, hQ, x0, x1, x2, x3, fun u hu => ?_, fun u hu => ?_⟩
 ·obtain ⟨bb', oo', B1', c1', B2', c2', e, y0, y1, y2, y3, i1, i2⟩ := Ty.yD (h u hu).lies
  injection e with e; injection e with e1 e2; subst e1; subst e2
  rw [hu _ _ _ hQ x1] at y1;injection y1 with y1; injection y1 with z1 z2 z3; subst z1; subst z3
  exact i1
 ·obtain ⟨bb', oo', B1', c1', B2', c2', e, y0, y1, y2, y3, i1, i2⟩ := Ty.yD (h u hu).lies
  injection e with e; injection e with e1 e2; subst e1; subst e2
  rw [hu _ _ _ hQ x3] at y3;injection y3 with y3; injection y3 with z1 z2 z3; subst z1; subst z3
  exact i2
end Go.Proofs.YtkdnnleanoompaaGreatDoor
