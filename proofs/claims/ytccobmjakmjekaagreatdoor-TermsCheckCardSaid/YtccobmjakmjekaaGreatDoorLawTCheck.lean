/-
  TermsCheck: the law's walk.
-/
import Derived.Test.YtccobmjakmjekaaGreatDoorTmRight
import Derived.Test.YtccobmjakmjekaaGreatDoorTmFn
namespace Go.Proofs.YtccobmjakmjekaaGreatDoor
open Go.RowKit

/-- a term's eleven cells in a block -/
def Row11 (w : World) (g : Nat) (h : Hd) (p : Pl) : Prop :=
  w.cell? ⟨g, 0, none⟩ = some (.int .i8 h.kind) ∧ w.cell? ⟨g, 1, none⟩ = some (.string h.name) ∧ w.cell? ⟨g, 2, none⟩ = some (.string h.arg) ∧ w.cell? ⟨g, 3, none⟩ = some (.int .i64 h.num) ∧ w.cell? ⟨g, 4, none⟩ = some (.int .i8 h.tk) ∧
  w.cell? ⟨g, 5, none⟩ = some (.slice p.TA p.tn p.tc) ∧ w.cell? ⟨g, 6, none⟩ = some (.int .i8 h.uk) ∧ w.cell? ⟨g, 7, none⟩ = some (.slice p.UA p.un p.uc) ∧ w.cell? ⟨g, 8, none⟩ = some (.int .i64 h.label) ∧ w.cell? ⟨g, 9, none⟩ = some (.int .i64 h.pos) ∧
  w.cell? ⟨g, 10, none⟩ = some (.slice p.A p.n p.c)
theorem Row11.below {w w' : World} {g : Nat} {h : Hd} {p : Pl} (hr : Row11 w g h p) (hb : Below w.heap.size w w') : Row11 w' g h p := by
  have hl := Ty.cell_lt hr.1
  have hc := fun o => (bcell hb).1 g o hl
  unfold Row11 at *
  rw [hc, hc, hc, hc, hc, hc, hc, hc, hc, hc, hc]
  exact hr
theorem Row11.of_heap {w : World} {g : Nat} {h : Hd} {p : Pl} (hh : w.heap[g]? = some (.cells #[.int .i8 h.kind, .string h.name, .string h.arg, .int .i64 h.num, .int .i8 h.tk, .slice p.TA p.tn p.tc, .int .i8 h.uk, .slice p.UA p.un p.uc, .int .i64 h.label, .int .i64 h.pos, .slice p.A p.n p.c] 28 (0, 0))) : Row11 w g h p := by
  obtain ⟨q0, q1, q2, q3, q4, q5, q6, q7, q8, q9, q10, _⟩ := own11 hh
  exact ⟨q0, q1, q2, q3, q4, q5, q6, q7, q8, q9, q10⟩

attribute [local go_sem ↓] Go.wp_at_zero Go.wp_at_succ
set_option maxHeartbeats 4000000 in
set_option maxRecDepth 100000 in
theorem law_TermsCheck (h : Hd) (kids : Tm) (p : Pl) (w : World) (hIs : Tm.Is w h kids p) (hG : TGlob w) :
    Calls Tryz.prog 3 #[.agg #[.int .i8 h.kind, .string h.name, .string h.arg, .int .i64 h.num, .int .i8 h.tk, .slice p.TA p.tn p.tc, .int .i8 h.uk, .slice p.UA p.un p.uc, .int .i64 h.label, .int .i64 h.pos, .slice p.A p.n p.c]] w fun e w' => e = .returned (.bool true) ∧ Below w.heap.size w w' := by
  have hB0 : Below w.heap.size w (w.alloc (.cells #[.int .i8 h.kind, .string h.name, .string h.arg, .int .i64 h.num, .int .i8 h.tk, .slice p.TA p.tn p.tc, .int .i8 h.uk, .slice p.UA p.un p.uc, .int .i64 h.label, .int .i64 h.pos, .slice p.A p.n p.c] 28)) := (Below.refl _ _).alloc (Nat.le_refl _) _
  have hIs1 := hIs.below hB0
  have hG1 := hG.below hB0
  have HRO := Lib.hid (Row11.of_heap (heap_new w (.cells #[.int .i8 h.kind, .string h.name, .string h.arg, .int .i64 h.num, .int .i8 h.tk, .slice p.TA p.tn p.tc, .int .i8 h.uk, .slice p.UA p.un p.uc, .int .i64 h.label, .int .i64 h.pos, .slice p.A p.n p.c] 28)))
  clear hIs hG
  generalize hw1 : w.alloc (.cells #[.int .i8 h.kind, .string h.name, .string h.arg, .int .i64 h.num, .int .i8 h.tk, .slice p.TA p.tn p.tc, .int .i8 h.uk, .slice p.UA p.un p.uc, .int .i64 h.label, .int .i64 h.pos, .slice p.A p.n p.c] 28) = w1 at *
  have HW1 := Lib.hid hw1
  clear hw1
  have C1 := Lib.hid (fun (W : World) (hb : Below w1.heap.size w1 W) => tcheck_any h kids p W (hIs1.below hb) (hG1.below hb))
  have C2 := Lib.hid (fun (W : World) (hb : Below w1.heap.size w1 W) => tref_check h kids p W (hIs1.below hb))
  have C3 := Lib.hid (fun (W : World) (hb : Below w1.heap.size w1 W) => tnodes_any h kids p W (hIs1.below hb) (hG1.terms.below hb))
  have C4 := Lib.hid (fun (W : World) (hb : Below w1.heap.size w1 W) => tref_nodes h kids p W (hIs1.below hb))
  have C5 := Lib.hid (fun (W : World) (hb : Below w1.heap.size w1 W) => tdepth_any h kids p W (hIs1.below hb) (hG1.terms.below hb))
  have C6 := Lib.hid (fun (W : World) (hb : Below w1.heap.size w1 W) => tref_depth h kids p W (hIs1.below hb))
  generalize ((Tm.chk h kids : Nat) : Int) = c1 at *
  generalize ((Tm.nod h kids : Nat) : Int) = c2 at *
  generalize ((Tm.dpt h kids : Nat) : Int) = c3 at *
  have D0 : Below w1.heap.size w1 w1.drew := (Below.refl _ _).drew
  clear hIs1 hG1
  go_enter Tryz.func3, Tryz.ntmps3
  go_wp2_with fail
  rw [HW1.out]
  go_region_held3 (fun w' => w'.cell? ⟨w.heap.size, 0, none⟩ = some (.int .i8 h.kind) ∧ w'.cell? ⟨w.heap.size, 1, none⟩ = some (.string h.name) ∧ w'.cell? ⟨w.heap.size, 2, none⟩ = some (.string h.arg) ∧ w'.cell? ⟨w.heap.size, 3, none⟩ = some (.int .i64 h.num) ∧ w'.cell? ⟨w.heap.size, 4, none⟩ = some (.int .i8 h.tk) ∧
      w'.cell? ⟨w.heap.size, 5, none⟩ = some (.slice p.TA p.tn p.tc) ∧ w'.cell? ⟨w.heap.size, 6, none⟩ = some (.int .i8 h.uk) ∧ w'.cell? ⟨w.heap.size, 7, none⟩ = some (.slice p.UA p.un p.uc) ∧ w'.cell? ⟨w.heap.size, 8, none⟩ = some (.int .i64 h.label) ∧ w'.cell? ⟨w.heap.size, 9, none⟩ = some (.int .i64 h.pos) ∧
      w'.cell? ⟨w.heap.size, 10, none⟩ = some (.slice p.A p.n p.c))
    (first | exact HRO.out.below D6 | exact HRO.out.below D5 | exact HRO.out.below D4 | exact HRO.out.below D3 | exact HRO.out.below D2 | exact HRO.out.below D1 | exact HRO.out.below D0)
    (first
      | (go_at_call 9; (with_reducible refine (C1.out _ D0).mono ?_); rintro e u1 ⟨rfl, hb⟩; have D1 := D0.trans hb; clear hb)
      | (go_at_call 10; (with_reducible refine (C2.out _ D1).mono ?_); rintro e u2 ⟨rfl, hb⟩; have D2 := D1.trans (hb.mono D1.size); clear hb)
      | (go_at_call 11; (with_reducible refine (C3.out _ D2).mono ?_); rintro e u3 ⟨rfl, hb⟩; have D3 := D2.trans (hb.mono D2.size); clear hb)
      | (go_at_call 12; (with_reducible refine (C4.out _ D3).mono ?_); rintro e u4 ⟨rfl, hb⟩; have D4 := D3.trans (hb.mono D3.size); clear hb)
      | (go_at_call 13; (with_reducible refine (C5.out _ D4).mono ?_); rintro e u5 ⟨rfl, hb⟩; have D5 := D4.trans (hb.mono D4.size); clear hb)
      | (go_at_call 14; (with_reducible refine (C6.out _ D5).mono ?_); rintro e u6 ⟨rfl, hb⟩; have D6 := D5.trans (hb.mono D5.size); clear hb))
  go_wp2_with fail
  go_ret
  exact ⟨rfl, hB0.trans (D6.mono hB0.size)⟩
end Go.Proofs.YtccobmjakmjekaaGreatDoor
