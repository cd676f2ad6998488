/-
  terms.bare.
-/
import Derived.Test.YtfkbdpehdabepaaGreatDoorCopyT
import Derived.Test.YtfkbdpehdabepaaGreatDoorTmAlike
namespace Go.Proofs.YtfkbdpehdabepaaGreatDoor
open Go.RowKit

/-- the copy's block, the result's block -/
structure BareRel (w wx : World) (B R : Nat) (a : Hd) (q : Pl) : Prop where
  bx : wx.heap[B]? = some (.cells #[.int .i8 a.kind, .string a.name, .string a.arg, .int .i64 a.num, .int .i8 a.tk, .slice q.TA q.tn q.tc, .int .i8 a.uk, .slice q.UA q.un q.uc, .int .i64 a.label, .int .i64 a.pos, .slice q.A q.n q.c] 28 (0, 0))
  rx : wx.heap[R]? = some (.cells #[.int .i8 0, .string ⟨#[]⟩, .string ⟨#[]⟩, .int .i64 0, .int .i8 0, .slice none 0 0, .int .i8 0, .slice none 0 0, .int .i64 0, .int .i64 0, .slice none 0 0] 28 (0, 0))
  below : Below w.heap.size w wx
  gt : w.heap.size < B
  ne : R ≠ B
/-- behind the types -/
structure BareRel2 (w wx : World) (B R : Nat) (a : Hd) (q q2 : Pl) : Prop where
  rel : BareRel w wx B R a q2
  ty : Ty.Is (mask (fun b => decide (B < b)) wx) a.tk a.tkids q2.TA q2.tn q2.tc
  tu : Ty.Is (mask (fun b => decide (B < b)) wx) a.uk a.ukids q2.UA q2.un q2.uc
  A : q2.A = q.A
  n : q2.n = q.n
  c : q2.c = q.c

theorem BareRel.types {w u v : World} {B R : Nat} {a : Hd} {q : Pl} {G1 G2 : Option Addr} {m1 c1 m2 c2 n1 n2 : Nat} (hB : v.heap[B]? = some (.cells #[.int .i8 a.kind, .string a.name, .string a.arg, .int .i64 a.num, .int .i8 a.tk, .slice q.TA q.tn q.tc, .int .i8 a.uk, .slice q.UA q.un q.uc, .int .i64 a.label, .int .i64 a.pos, .slice q.A q.n q.c] 28 (0, 0))) (hR : v.heap[R]? = some (.cells #[.int .i8 0, .string ⟨#[]⟩, .string ⟨#[]⟩, .int .i64 0, .int .i8 0, .slice none 0 0, .int .i8 0, .slice none 0 0, .int .i64 0, .int .i64 0, .slice none 0 0] 28 (0, 0))) (hb : Below w.heap.size w v) (hg : w.heap.size < B) (hne : R ≠ B)
    (h1 : Ty.Is (mask (fun b => decide (n1 ≤ b)) u) a.tk a.tkids G1 m1 c1) (hn1 : B < n1) (huv : Below u.heap.size u v) (h2 : Ty.Is (mask (fun b => decide (n2 ≤ b)) v) a.uk a.ukids G2 m2 c2) (hn2 : B < n2) :
    BareRel2 w ((((v.setCell ⟨B, 4, none⟩ (.int .i8 a.tk)).setCell ⟨B, 5, none⟩ (.slice G1 m1 c1)).setCell ⟨B, 6, none⟩ (.int .i8 a.uk)).setCell ⟨B, 7, none⟩ (.slice G2 m2 c2)) B R a q ⟨G1, m1, c1, G2, m2, c2, q.A, q.n, q.c⟩ := by
  have hoth : ∀ (b o : Nat) (x : Value), b ≠ B → v.cell? ⟨b, o, none⟩ = some x → ((((v.setCell ⟨B, 4, none⟩ (.int .i8 a.tk)).setCell ⟨B, 5, none⟩ (.slice G1 m1 c1)).setCell ⟨B, 6, none⟩ (.int .i8 a.uk)).setCell ⟨B, 7, none⟩ (.slice G2 m2 c2)).cell? ⟨b, o, none⟩ = some x := by
    intro b o x hbB hx
    rw [World.cell?_setCell_other _ _ _ _ (fun e => hbB (by injection e with e; exact e.symm)), World.cell?_setCell_other _ _ _ _ (fun e => hbB (by injection e with e; exact e.symm)), World.cell?_setCell_other _ _ _ _ (fun e => hbB (by injection e with e; exact e.symm)), World.cell?_setCell_other _ _ _ _ (fun e => hbB (by injection e with e; exact e.symm))]
    exact hx
  refine ⟨⟨?_, ?_, (((hb.setCell (p := ⟨B, 4, none⟩) (Nat.le_of_lt hg) _).setCell (p := ⟨B, 5, none⟩) (Nat.le_of_lt hg) _).setCell (p := ⟨B, 6, none⟩) (Nat.le_of_lt hg) _).setCell (p := ⟨B, 7, none⟩) (Nat.le_of_lt hg) _, hg, hne⟩, ?_, ?_, rfl, rfl, rfl⟩
  · simp [World.setCell, Array.getElem?_modify, hB]
  · rw [Below.heap_setCell _ _ _ R hne, Below.heap_setCell _ _ _ R hne, Below.heap_setCell _ _ _ R hne, Below.heap_setCell _ _ _ R hne]; exact hR
  · refine h1.kept (kept_mask fun b o x hP hx => ?_)
    have hP' : n1 ≤ b := by simpa using hP
    exact ⟨by simp; omega, hoth b o x (by omega) (by rw [huv.cell (p := ⟨b, o, none⟩) (Ty.cell_lt hx)]; exact hx)⟩
  · refine h2.kept (kept_mask fun b o x hP hx => ?_)
    have hP' : n2 ≤ b := by simpa using hP
    exact ⟨by simp; omega, hoth b o x (by omega) hx⟩

attribute [local go_sem ↓] Go.wp_at_zero Go.wp_at_succ
end Go.Proofs.YtfkbdpehdabepaaGreatDoor
