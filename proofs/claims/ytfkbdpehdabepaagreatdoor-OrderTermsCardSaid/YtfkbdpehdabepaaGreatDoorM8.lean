/-
  terms.bare. terms.Bare, terms.Same.
-/
import Derived.Test.YtfkbdpehdabepaaGreatDoorM7
import Derived.Test.YtfkbdpehdabepaaGreatDoorM6
import Derived.Deep.RegionHeld3
namespace Go.Proofs.YtfkbdpehdabepaaGreatDoor
open Go.RowKit

/-- the copy's block, the result's block -/
structure BareRel (w wx : World) (B R : Nat) (a : Hd) (q : Pl) : Prop where
  bx : wx.heap[B]? = some (.cells #[.int .i8 a.kind, .string a.name, .string a.arg, .int .i64 a.num, .int .i8 a.tk, .slice q.TA q.tn q.tc, .int .i8 a.uk, .slice q.UA q.un q.uc, .int .i64 a.label, .int .i64 a.pos, .slice q.A q.n q.c] 28 (0, 0))
  rx : wx.heap[R]? = some (.cells #[.int .i8 0, .string ⟨#[]⟩, .string ⟨#[]⟩, .int .i64 0, .int .i8 0, .slice none 0 0, .int .i8 0, .slice none 0 0, .int .i64 0, .int .i64 0, .slice none 0 0] 28 (0, 0))
  below : Below w.heap.size w wx
  gt : w.heap.size < B
  ne : R ≠ B
/-- behind the types -/
structure BareRel2 (w wx : World) (B R : Nat) (a : Hd) (q q2 : Pl) : Prop where
  rel : BareRel w wx B R a q2
  ty : Ty.Is (mask (fun b => decide (B < b)) wx) a.tk a.tkids q2.TA q2.tn q2.tc
  tu : Ty.Is (mask (fun b => decide (B < b)) wx) a.uk a.ukids q2.UA q2.un q2.uc
  A : q2.A = q.A
  n : q2.n = q.n
  c : q2.c = q.c

theorem BareRel.types {w u v : World} {B R : Nat} {a : Hd} {q : Pl} {G1 G2 : Option Addr} {m1 c1 m2 c2 n1 n2 : Nat} (hB : v.heap[B]? = some (.cells #[.int .i8 a.kind, .string a.name, .string a.arg, .int .i64 a.num, .int .i8 a.tk, .slice q.TA q.tn q.tc, .int .i8 a.uk, .slice q.UA q.un q.uc, .int .i64 a.label, .int .i64 a.pos, .slice q.A q.n q.c] 28 (0, 0))) (hR : v.heap[R]? = some (.cells #[.int .i8 0, .string ⟨#[]⟩, .string ⟨#[]⟩, .int .i64 0, .int .i8 0, .slice none 0 0, .int .i8 0, .slice none 0 0, .int .i64 0, .int .i64 0, .slice none 0 0] 28 (0, 0))) (hb : Below w.heap.size w v) (hg : w.heap.size < B) (hne : R ≠ B)
    (h1 : Ty.Is (mask (fun b => decide (n1 ≤ b)) u) a.tk a.tkids G1 m1 c1) (hn1 : B < n1) (huv : Below u.heap.size u v) (h2 : Ty.Is (mask (fun b => decide (n2 ≤ b)) v) a.uk a.ukids G2 m2 c2) (hn2 : B < n2) :
    BareRel2 w ((((v.setCell ⟨B, 4, none⟩ (.int .i8 a.tk)).setCell ⟨B, 5, none⟩ (.slice G1 m1 c1)).setCell ⟨B, 6, none⟩ (.int .i8 a.uk)).setCell ⟨B, 7, none⟩ (.slice G2 m2 c2)) B R a q ⟨G1, m1, c1, G2, m2, c2, q.A, q.n, q.c⟩ := by
  have hoth : ∀ (b o : Nat) (x : Value), b ≠ B → v.cell? ⟨b, o, none⟩ = some x → ((((v.setCell ⟨B, 4, none⟩ (.int .i8 a.tk)).setCell ⟨B, 5, none⟩ (.slice G1 m1 c1)).setCell ⟨B, 6, none⟩ (.int .i8 a.uk)).setCell ⟨B, 7, none⟩ (.slice G2 m2 c2)).cell? ⟨b, o, none⟩ = some x := by
    intro b o x hbB hx
    rw [World.cell?_setCell_other _ _ _ _ (fun e => hbB (by injection e with e; exact e.symm)), World.cell?_setCell_other _ _ _ _ (fun e => hbB (by injection e with e; exact e.symm)), World.cell?_setCell_other _ _ _ _ (fun e => hbB (by injection e with e; exact e.symm)), World.cell?_setCell_other _ _ _ _ (fun e => hbB (by injection e with e; exact e.symm))]
    exact hx
  refine ⟨⟨?_, ?_, (((hb.setCell (p := ⟨B, 4, none⟩) (Nat.le_of_lt hg) _).setCell (p := ⟨B, 5, none⟩) (Nat.le_of_lt hg) _).setCell (p := ⟨B, 6, none⟩) (Nat.le_of_lt hg) _).setCell (p := ⟨B, 7, none⟩) (Nat.le_of_lt hg) _, hg, hne⟩, ?_, ?_, rfl, rfl, rfl⟩
  · simp [World.setCell, Array.getElem?_modify, hB]
  · rw [Below.heap_setCell _ _ _ R hne, Below.heap_setCell _ _ _ R hne, Below.heap_setCell _ _ _ R hne, Below.heap_setCell _ _ _ R hne]; exact hR
  · refine h1.kept (kept_mask fun b o x hP hx => ?_)
    have hP' : n1 ≤ b := by simpa using hP
    exact ⟨by simp; omega, hoth b o x (by omega) (by rw [huv.cell (p := ⟨b, o, none⟩) (Ty.cell_lt hx)]; exact hx)⟩
  · refine h2.kept (kept_mask fun b o x hP hx => ?_)
    have hP' : n2 ≤ b := by simpa using hP
    exact ⟨by simp; omega, hoth b o x (by omega) hx⟩

attribute [local go_sem ↓] Go.wp_at_zero Go.wp_at_succ
end Go.Proofs.YtfkbdpehdabepaaGreatDoor
namespace Go.Proofs.YtfkbdpehdabepaaGreatDoor
open Go.RowKit

theorem far11' {wr : World} {R b o : Nat} {v0 v1 v2 v3 v4 v5 v6 v7 v8 v9 v10 : Value} (h1 : b ≠ R) : (((((((((((wr.setCell ⟨R, 0, none⟩ v0).setCell ⟨R, 1, none⟩ v1).setCell ⟨R, 2, none⟩ v2).setCell ⟨R, 3, none⟩ v3).setCell ⟨R, 4, none⟩ v4).setCell ⟨R, 5, none⟩ v5).setCell ⟨R, 6, none⟩ v6).setCell ⟨R, 7, none⟩ v7).setCell ⟨R, 8, none⟩ v8).setCell ⟨R, 9, none⟩ v9).setCell ⟨R, 10, none⟩ v10).cell? ⟨b, o, none⟩ = wr.cell? ⟨b, o, none⟩ :=
  World.cell?_of_block (by rw [Below.heap_setCell _ _ _ b h1, Below.heap_setCell _ _ _ b h1, Below.heap_setCell _ _ _ b h1, Below.heap_setCell _ _ _ b h1, Below.heap_setCell _ _ _ b h1, Below.heap_setCell _ _ _ b h1, Below.heap_setCell _ _ _ b h1, Below.heap_setCell _ _ _ b h1, Below.heap_setCell _ _ _ b h1, Below.heap_setCell _ _ _ b h1, Below.heap_setCell _ _ _ b h1])
theorem far11 {wr : World} {R : Nat} (v0 v1 v2 v3 v4 v5 v6 v7 v8 v9 v10 : Value) (b o : Nat) (x : Value) (h1 : b ≠ R) (h2 : wr.cell? ⟨b, o, none⟩ = some x) : (((((((((((wr.setCell ⟨R, 0, none⟩ v0).setCell ⟨R, 1, none⟩ v1).setCell ⟨R, 2, none⟩ v2).setCell ⟨R, 3, none⟩ v3).setCell ⟨R, 4, none⟩ v4).setCell ⟨R, 5, none⟩ v5).setCell ⟨R, 6, none⟩ v6).setCell ⟨R, 7, none⟩ v7).setCell ⟨R, 8, none⟩ v8).setCell ⟨R, 9, none⟩ v9).setCell ⟨R, 10, none⟩ v10).cell? ⟨b, o, none⟩ = some x := by
  rw [far11' h1]; exact h2
def Tm.zero : Hd := ⟨0, ⟨#[]⟩, ⟨#[]⟩, 0, 0, .nil, 0, .nil, 0, 0⟩
/-- what Bare gives -/
def Tm.bH (h : Hd) (kids : Tm) : Hd := if Tm.chk h kids = 0 then Tm.cnt h else Tm.zero
def Tm.bK (h : Hd) (kids : Tm) : Tm := if Tm.chk h kids = 0 then Tm.bF kids else .nil
def BareP (w : World) (h : Hd) (kids : Tm) (e : Ending) (w' : World) : Prop :=
  ∃ p, e = .returned (.agg #[.int .i8 (Tm.bH h kids).kind, .string (Tm.bH h kids).name, .string (Tm.bH h kids).arg, .int .i64 (Tm.bH h kids).num, .int .i8 (Tm.bH h kids).tk, .slice p.TA p.tn p.tc, .int .i8 (Tm.bH h kids).uk, .slice p.UA p.un p.uc, .int .i64 (Tm.bH h kids).label, .int .i64 (Tm.bH h kids).pos, .slice p.A p.n p.c]) ∧ Tm.Is w' (Tm.bH h kids) (Tm.bK h kids) p ∧ Below w.heap.size w w'
theorem Tm.is_zero (w : World) : Tm.Is w Tm.zero .nil ⟨none, 0, 0, none, 0, 0, none, 0, 0⟩ := by
  have hz : ∀ w : World, Ty.Is w 0 .nil none 0 0 := fun w => ⟨trivial, rfl, Nat.le_refl _, Nat.zero_le _, by omega, by omega⟩
  exact ⟨⟨hz w, hz w, rfl, Nat.le_refl _, Nat.zero_le _, by decide, by decide, by decide, by decide, by decide, by decide⟩, trivial⟩
theorem Tm.small_of {h : Hd} {kids : Tm} (hc : Tm.chk h kids = 0) : Tm.tyN h + Tm.nodes kids ≤ 8192 := by
  have e : Tm.nd h kids = 1 + Tm.tyN h + Tm.nodes kids := rfl
  unfold Tm.chk at hc
  by_cases h1 : 8192 < Tm.nd h kids
  · rw [if_pos h1] at hc; omega
  · omega

def RowEl (w : World) (g : Nat) (h : Hd) (p : Pl) : Prop :=
  w.cell? ⟨g, 0, none⟩ = some (.int .i8 h.kind) ∧ w.cell? ⟨g, 1, none⟩ = some (.string h.name) ∧ w.cell? ⟨g, 2, none⟩ = some (.string h.arg) ∧ w.cell? ⟨g, 3, none⟩ = some (.int .i64 h.num) ∧ w.cell? ⟨g, 4, none⟩ = some (.int .i8 h.tk) ∧
  w.cell? ⟨g, 5, none⟩ = some (.slice p.TA p.tn p.tc) ∧ w.cell? ⟨g, 6, none⟩ = some (.int .i8 h.uk) ∧ w.cell? ⟨g, 7, none⟩ = some (.slice p.UA p.un p.uc) ∧ w.cell? ⟨g, 8, none⟩ = some (.int .i64 h.label) ∧ w.cell? ⟨g, 9, none⟩ = some (.int .i64 h.pos) ∧
  w.cell? ⟨g, 10, none⟩ = some (.slice p.A p.n p.c)
theorem RowEl.below {w w' : World} {g : Nat} {h : Hd} {p : Pl} (hr : RowEl w g h p) (hb : Below w.heap.size w w') : RowEl w' g h p := by
  have hl := Ty.cell_lt hr.1
  have hc := fun o => (bcell hb).1 g o hl
  unfold RowEl at *
  rw [hc, hc, hc, hc, hc, hc, hc, hc, hc, hc, hc]
  exact hr
theorem RowEl.of_heap {w : World} {g : Nat} {h : Hd} {p : Pl} (hh : w.heap[g]? = some (.cells #[.int .i8 h.kind, .string h.name, .string h.arg, .int .i64 h.num, .int .i8 h.tk, .slice p.TA p.tn p.tc, .int .i8 h.uk, .slice p.UA p.un p.uc, .int .i64 h.label, .int .i64 h.pos, .slice p.A p.n p.c] 28 (0, 0))) : RowEl w g h p := by
  obtain ⟨q0, q1, q2, q3, q4, q5, q6, q7, q8, q9, q10, _⟩ := own11 hh
  exact ⟨q0, q1, q2, q3, q4, q5, q6, q7, q8, q9, q10⟩
end Go.Proofs.YtfkbdpehdabepaaGreatDoor
