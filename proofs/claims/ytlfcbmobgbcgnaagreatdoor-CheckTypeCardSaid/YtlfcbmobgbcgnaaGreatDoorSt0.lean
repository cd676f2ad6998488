import Derived.Test.YtlfcbmobgbcgnaaGreatDoorM17
import Derived.Test.YtlfcbmobgbcgnaaGreatDoorM8
import Derived.Test.YtlfcbmobgbcgnaaGreatDoorM18
namespace Go.Proofs.YtlfcbmobgbcgnaaGreatDoor
open Go.RowKit
namespace St
def anno (h : Hd) : Fo :=
 if h.kind = 4 ∨ h.kind = 7 ∨ h.kind = 12 ∨ h.kind = 13 ∨ h.kind = 16 then .node 0 0 h.tk h.tkids .nil
 else if h.kind = 5 then .node 0 0 h.tk h.tkids (.node 0 0 h.uk h.ukids .nil) else .nil
def opnK (k : Int) (kids : Fo) : Bool := !Ty.knownT k kids
def opn (h : Hd) : Bool := Ty.anyF opnK (anno h)
def foF : Tm → Option Int
 | .nil => none
 | .node h k r => if opn h = true then some h.pos else match foF k with
  | some x => some x
  | none => foF r
def fo (h : Hd) (kids : Tm) : Option Int := if opn h = true then some h.pos else foF kids
def ref (h : Hd) (kids : Tm) : Option (Int × Int) := match Ck.refO h kids with
 | some x => some x
 | none => match fo h kids with
  | some x => some (110, x)
  | none => none
end St
theorem vU {w : World} {b o : Nat} {v x : Value} (h : w.cell? ⟨b, o, none⟩ = some v) : (w.setCell ⟨b, o, none⟩ x).cell? ⟨b, o, none⟩ = some x := by
 unfold World.cell? at h ⊢
 unfold World.setCell
 simp only [Array.getElem?_modify, if_true]
 cases hb : w.heap[b]? with
 | none => rw [hb] at h; cases h
 | some ob =>
  rw [hb] at h
  cases ob with
  | cells c t z =>
   simp only [Option.isSome_none, Bool.false_eq_true, if_false] at h
   have hlt : o < c.size := by
    rcases Nat.lt_or_ge o c.size with q | q
    ·exact q
    ·rw [Array.getElem?_eq_none q] at h; cases h
   simp [hlt]
  | _ => cases h
theorem Ck.Ly.parts {Q : Nat → Prop} {w : World} {k : Int} {a1 a2 a3 a4 : Nat} {p1 p2 : Int} {f1 f2 : Fo} {A : Option Addr} {n c : Nat} (h : Ck.Ly Q w (k, .node a1 a2 p1 f1 (.node a3 a4 p2 f2 .nil)) A n c) :
  ∃ bb oo B1 c1 B2 c2, A = some ⟨bb, oo, none⟩ ∧ Q bb ∧ w.cell? ⟨bb, oo, none⟩ = some (.int .i8 p1) ∧ w.cell? ⟨bb, oo + 1, none⟩ = some (.slice B1 (Ty.len f1) c1) ∧ w.cell? ⟨bb, oo + 2, none⟩ = some (.int .i8 p2) ∧ w.cell? ⟨bb, oo + 3, none⟩ = some (.slice B2 (Ty.len f2) c2) ∧ Ck.Ly Q w (p1, f1) B1 (Ty.len f1) c1 ∧ Ck.Ly Q w (p2, f2) B2 (Ty.len f2) c2 := by
 obtain ⟨bb, oo, B1, c1, B2, c2, rfl, x0, x1, x2, x3, -, -⟩ := Ty.kv h.is.lies
 have hQ : Q bb := by
  refine Classical.byContradiction fun hn => ?_
  obtain ⟨bb', oo', B1', c1', B2', c2', e, y0, -, -, -, -, -⟩ := Ty.kv (h (w.setCell ⟨bb, oo, none⟩ (.bool true)) fun b o v hb hc => by
   rw [World.cell?_setCell_other _ _ _ _ (fun e => by injection e with e1 e2; exact hn (e1 ▸ hb))]; exact hc).lies
  injection e with e; injection e with e1 e2; subst e1; subst e2
  rw [vU x0] at y0
  cases y0
 refine ⟨bb, oo, B1, c1, B2, c2, rfl, hQ, x0, x1, x2, x3, fun u hu => ?_, fun u hu => ?_⟩
 ·obtain ⟨bb', oo', B1', c1', B2', c2', e, y0, y1, y2, y3, i1, i2⟩ := Ty.kv (h u hu).lies
  injection e with e; injection e with e1 e2; subst e1; subst e2
  rw [hu _ _ _ hQ x1] at y1
  injection y1 with y1; injection y1 with z1 z2 z3; subst z1; subst z3
  exact i1
 ·obtain ⟨bb', oo', B1', c1', B2', c2', e, y0, y1, y2, y3, i1, i2⟩ := Ty.kv (h u hu).lies
  injection e with e; injection e with e1 e2; subst e1; subst e2
  rw [hu _ _ _ hQ x3] at y3
  injection y3 with y3; injection y3 with z1 z2 z3; subst z1; subst z3
  exact i2
end Go.Proofs.YtlfcbmobgbcgnaaGreatDoor
