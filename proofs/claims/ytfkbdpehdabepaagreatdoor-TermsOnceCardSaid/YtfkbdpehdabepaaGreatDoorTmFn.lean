/-
  terms.Check, Nodes, Depth.
-/
import Derived.Test.YtfkbdpehdabepaaGreatDoorMalformed
namespace Go.Proofs.YtfkbdpehdabepaaGreatDoor
open Go.RowKit

set_option maxHeartbeats 1000000 in
set_option maxRecDepth 100000 in
theorem tnodes_any (h : Hd) (kids : Tm) (p : Pl) (w : World) (hIs : Tm.Is w h kids p) (hS : TShapes w) :
    Calls Tryz.prog 16 #[.agg #[.int .i8 h.kind, .string h.name, .string h.arg, .int .i64 h.num, .int .i8 h.tk, .slice p.TA p.tn p.tc, .int .i8 h.uk, .slice p.UA p.un p.uc, .int .i64 h.label, .int .i64 h.pos, .slice p.A p.n p.c]] w fun e w' => e = .returned (.int .i64 (Tm.nod h kids)) ∧ Below w.heap.size w w' := by
  have hB0 : Below w.heap.size w (w.alloc (.cells #[.int .i8 h.kind, .string h.name, .string h.arg, .int .i64 h.num, .int .i8 h.tk, .slice p.TA p.tn p.tc, .int .i8 h.uk, .slice p.UA p.un p.uc, .int .i64 h.label, .int .i64 h.pos, .slice p.A p.n p.c] 28)) := (Below.refl _ _).alloc (Nat.le_refl _) _
  have HM := Lib.hid (tmeasure_any h kids p _ (hIs.below hB0) (hS.below hB0))
  clear hIs hS
  go_enter Tryz.func16, Tryz.ntmps16
  go_wp2_with fail
  refine HM.out.mono ?_
  rintro e w3 ⟨rfl, hb⟩
  go_wp2_with fail
  go_ret
  exact ⟨rfl, hB0.trans (hb.mono hB0.size)⟩

set_option maxHeartbeats 1000000 in
set_option maxRecDepth 100000 in
theorem tdepth_any (h : Hd) (kids : Tm) (p : Pl) (w : World) (hIs : Tm.Is w h kids p) (hS : TShapes w) :
    Calls Tryz.prog 17 #[.agg #[.int .i8 h.kind, .string h.name, .string h.arg, .int .i64 h.num, .int .i8 h.tk, .slice p.TA p.tn p.tc, .int .i8 h.uk, .slice p.UA p.un p.uc, .int .i64 h.label, .int .i64 h.pos, .slice p.A p.n p.c]] w fun e w' => e = .returned (.int .i64 (Tm.dpt h kids)) ∧ Below w.heap.size w w' := by
  have hB0 : Below w.heap.size w (w.alloc (.cells #[.int .i8 h.kind, .string h.name, .string h.arg, .int .i64 h.num, .int .i8 h.tk, .slice p.TA p.tn p.tc, .int .i8 h.uk, .slice p.UA p.un p.uc, .int .i64 h.label, .int .i64 h.pos, .slice p.A p.n p.c] 28)) := (Below.refl _ _).alloc (Nat.le_refl _) _
  have HM := Lib.hid (tmeasure_any h kids p _ (hIs.below hB0) (hS.below hB0))
  clear hIs hS
  go_enter Tryz.func17, Tryz.ntmps17
  go_wp2_with fail
  refine HM.out.mono ?_
  rintro e w3 ⟨rfl, hb⟩
  go_wp2_with fail
  go_ret
  exact ⟨rfl, hB0.trans (hb.mono hB0.size)⟩

set_option maxHeartbeats 2000000 in
set_option maxRecDepth 100000 in
theorem tcheck_any (h : Hd) (kids : Tm) (p : Pl) (w : World) (hIs : Tm.Is w h kids p) (hG : TGlob w) :
    Calls Tryz.prog 12 #[.agg #[.int .i8 h.kind, .string h.name, .string h.arg, .int .i64 h.num, .int .i8 h.tk, .slice p.TA p.tn p.tc, .int .i8 h.uk, .slice p.UA p.un p.uc, .int .i64 h.label, .int .i64 h.pos, .slice p.A p.n p.c]] w fun e w' => e = .returned (.int .i64 (Tm.chk h kids)) ∧ Below w.heap.size w w' := by
  have hB0 : Below w.heap.size w (w.alloc (.cells #[.int .i8 h.kind, .string h.name, .string h.arg, .int .i64 h.num, .int .i8 h.tk, .slice p.TA p.tn p.tc, .int .i8 h.uk, .slice p.UA p.un p.uc, .int .i64 h.label, .int .i64 h.pos, .slice p.A p.n p.c] 28)) := (Below.refl _ _).alloc (Nat.le_refl _) _
  have HM := Lib.hid (tmeasure_any h kids p _ (hIs.below hB0) (hG.terms.below hB0))
  have HF := Lib.hid (fun (W : World) (hb : Below w.heap.size w W) => malformed_any (Tm.nodes kids + 1) h kids p W (by omega) (hIs.below hb) (hG.below hb))
  have HN := Lib.hid (heap_new w (.cells #[.int .i8 h.kind, .string h.name, .string h.arg, .int .i64 h.num, .int .i8 h.tk, .slice p.TA p.tn p.tc, .int .i8 h.uk, .slice p.UA p.un p.uc, .int .i64 h.label, .int .i64 h.pos, .slice p.A p.n p.c] 28))
  clear hIs hG
  by_cases h1 : 8192 < Tm.nd h kids
  · have e1 : Tm.chk h kids = 32 := by unfold Tm.chk; rw [if_pos h1]
    have e2 : ((Tm.nod h kids : Nat) : Int) = 8193 := by unfold Tm.nod; omega
    rw [e1]
    rw [e2] at HM
    clear e2 e1 h1 HF HN
    go_enter Tryz.func12, Tryz.ntmps12
    go_wp2_with fail
    refine HM.out.mono ?_
    rintro e w3 ⟨rfl, hb⟩
    go_wp2_with fail
    go_ret
    exact ⟨rfl, hB0.trans (hb.mono hB0.size)⟩
  · have e2 : ((Tm.nod h kids : Nat) : Int) ≤ 8192 := by unfold Tm.nod; omega
    have e4 : Tm.dpt h kids = min (Tm.dp h kids) 201 := by unfold Tm.dpt; rw [if_neg h1]
    by_cases h2 : 200 < Tm.dp h kids
    · have e1 : Tm.chk h kids = 31 := by unfold Tm.chk; rw [if_neg h1, if_pos h2]
      have e3 : ((Tm.dpt h kids : Nat) : Int) = 201 := by rw [e4]; omega
      rw [e1]
      rw [e3] at HM
      generalize Tm.nod h kids = N at *
      clear e3 e1 h1 h2 e4 HF HN
      go_enter Tryz.func12, Tryz.ntmps12
      go_wp2_with fail
      refine HM.out.mono ?_
      rintro e w3 ⟨rfl, hb⟩
      go_wp2_with fail
      go_ret
      exact ⟨rfl, hB0.trans (hb.mono hB0.size)⟩
    · have e3 : ((Tm.dpt h kids : Nat) : Int) ≤ 200 := by rw [e4]; omega
      have e1 : Tm.chk h kids = if Tm.okT h kids then 0 else 30 := by unfold Tm.chk; rw [if_neg h1, if_neg h2]
      rw [e1]
      generalize Tm.nod h kids = N at *
      generalize Tm.dpt h kids = D at *
      clear e1 h1 h2 e4
      cases ho : Tm.okT h kids
      all_goals
        rw [ho] at HF
        clear ho
        go_enter Tryz.func12, Tryz.ntmps12
        go_wp2_with fail
        refine HM.out.mono ?_
        rintro e w3 ⟨rfl, hb⟩
        have hB1 := hB0.trans (hb.mono hB0.size)
        obtain ⟨q0, q1, q2, q3, q4, q5, q6, q7, q8, q9, q10, ql⟩ := own11 (heap_below hb (by simp) HN.out)
        clear hb
        go_wp2_with fail
        refine (HF.out _ hB1).mono ?_
        rintro e w4 ⟨rfl, hb⟩
        go_wp2_with fail
        go_ret
        exact ⟨rfl, hB1.trans (hb.mono hB1.size)⟩
end Go.Proofs.YtfkbdpehdabepaaGreatDoor
