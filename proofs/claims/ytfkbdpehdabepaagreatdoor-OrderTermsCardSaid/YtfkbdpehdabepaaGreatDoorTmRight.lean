/-
  right, Check: any term.
-/
import Derived.Test.YtfkbdpehdabepaaGreatDoorTmRightA
import Derived.Test.YtfkbdpehdabepaaGreatDoorTmRightB
namespace Go.Proofs.YtfkbdpehdabepaaGreatDoor
open Go.RowKit

set_option maxHeartbeats 2000000 in
set_option maxRecDepth 100000 in
theorem tright_no (h : Hd) (kids : Tm) (p : Pl) (w : World) (hIs : Tm.Is w h kids p) (hno : (Tm.isKind h.kind && decide (Tm.len kids = Tm.kidsN h.kind)) = false) :
    Calls Tryz.prog 77 #[.agg #[.int .i8 h.kind, .string h.name, .string h.arg, .int .i64 h.num, .int .i8 h.tk, .slice p.TA p.tn p.tc, .int .i8 h.uk, .slice p.UA p.un p.uc, .int .i64 h.label, .int .i64 h.pos, .slice p.A p.n p.c]] w fun e w' => e = .returned (.bool (Tm.okT h kids)) ∧ Below w.heap.size w w' := by
  have HX := Lib.hid (RightCtx.mk_of hIs)
  have hKD : ∀ W : World, Calls Tryz.prog 119 #[.int .i8 h.kind] W fun e w' => e = .returned (.int .i64 (Tm.kidsI h.kind)) ∧ w' = W := fun W => (ref_kids_any h.kind W).mono fun e w' ⟨h1, h2⟩ => ⟨h1, h2.symm⟩
  have hne := Tm.kidsI_ne h.kind p.n
  have hO := Tm.okT_eq h kids
  rw [hIs.fit.n_eq, hno, Bool.not_false, ← hIs.fit.n_eq] at hne
  rw [← Bool.and_assoc, hno, Bool.false_and] at hO
  rw [hO]
  have i5 := HX.out.n_max
  clear hO hno hIs
  go_enter Tryz.func77, Tryz.ntmps77
  go_wp2_with fail
  obtain ⟨q0, q1, q2, q3, q4, q5, q6, q7, q8, q9, q10, ql⟩ := own11 (heap_new w (.cells #[.int .i8 h.kind, .string h.name, .string h.arg, .int .i64 h.num, .int .i8 h.tk, .slice p.TA p.tn p.tc, .int .i8 h.uk, .slice p.UA p.un p.uc, .int .i64 h.label, .int .i64 h.pos, .slice p.A p.n p.c] 28))
  go_quiet ((go_at_call 119; exact Calls.quiet_of_same (hKD _)))
  clear q0 q1 q2 q3 q4 q5 q6 q7 q8 q9 q10 ql
  generalize hwq : World.drewN (w.alloc (.cells #[.int .i8 h.kind, .string h.name, .string h.arg, .int .i64 h.num, .int .i8 h.tk, .slice p.TA p.tn p.tc, .int .i8 h.uk, .slice p.UA p.un p.uc, .int .i64 h.label, .int .i64 h.pos, .slice p.A p.n p.c] 28)) _ = wq
  have hBq : Below w.heap.size w wq := hwq ▸ (HX.out.row _).1
  have RQ := Lib.hid (show wq.heap[w.heap.size]? = some (.cells #[.int .i8 h.kind, .string h.name, .string h.arg, .int .i64 h.num, .int .i8 h.tk, .slice p.TA p.tn p.tc, .int .i8 h.uk, .slice p.UA p.un p.uc, .int .i64 h.label, .int .i64 h.pos, .slice p.A p.n p.c] 28 (0, 0)) from hwq ▸ (HX.out.row _).2)
  clear hwq
  obtain ⟨q0, q1, q2, q3, q4, q5, q6, q7, q8, q9, q10, ql⟩ := own11 RQ.out
  go_wp2_with fail
  go_ret
  exact ⟨rfl, hBq⟩

theorem tright_any (K : Nat) : ∀ (h : Hd) (kids : Tm) (p : Pl) (w : World), Tm.nodes kids < K → Tm.Is w h kids p →
    Calls Tryz.prog 77 #[.agg #[.int .i8 h.kind, .string h.name, .string h.arg, .int .i64 h.num, .int .i8 h.tk, .slice p.TA p.tn p.tc, .int .i8 h.uk, .slice p.UA p.un p.uc, .int .i64 h.label, .int .i64 h.pos, .slice p.A p.n p.c]] w fun e w' => e = .returned (.bool (Tm.okT h kids)) ∧ Below w.heap.size w w' := by
  induction K with
  | zero => intro _ _ _ _ hK; omega
  | succ K ih =>
    intro h kids p w hK hIs
    cases hno : (Tm.isKind h.kind && decide (Tm.len kids = Tm.kidsN h.kind))
    · exact tright_no h kids p w hIs hno
    · simp only [Bool.and_eq_true, decide_eq_true_eq] at hno
      obtain ⟨h1, h2⟩ := hno
      have h3 : 0 ≤ h.kind ∧ h.kind ≤ 17 := by simpa [Tm.isKind] using h1
      have h4 : (h.kind = 1 ∨ h.kind = 2 ∨ h.kind = 3 ∨ h.kind = 6 ∨ h.kind = 8 ∨ h.kind = 9 ∨ h.kind = 10 ∨ h.kind = 11) ∨ (h.kind = 0) ∨ (h.kind = 4 ∨ h.kind = 7) ∨ (h.kind = 5) ∨ (h.kind = 12 ∨ h.kind = 13 ∨ h.kind = 16) ∨ (h.kind = 14) ∨ (h.kind = 15) ∨ (h.kind = 17) := by omega
      rcases h4 with h4 | h4 | h4 | h4 | h4 | h4 | h4 | h4
      · exact tright_A h kids p w K hK hIs h4 h2 ih
      · exact tright_V h kids p w K hK hIs h4 h2 ih
      · exact tright_L h kids p w K hK hIs h4 h2 ih
      · exact tright_R h kids p w K hK hIs h4 h2 ih
      · exact tright_I h kids p w K hK hIs h4 h2 ih
      · exact tright_C h kids p w K hK hIs h4 h2 ih
      · exact tright_O h kids p w K hK hIs h4 h2 ih
      · exact tright_K h kids p w K hK hIs h4 h2 ih

set_option maxHeartbeats 2000000 in
set_option maxRecDepth 100000 in
theorem tref_check (h : Hd) (kids : Tm) (p : Pl) (w : World) (hIs : Tm.Is w h kids p) :
    Calls Tryz.prog 39 #[.agg #[.int .i8 h.kind, .string h.name, .string h.arg, .int .i64 h.num, .int .i8 h.tk, .slice p.TA p.tn p.tc, .int .i8 h.uk, .slice p.UA p.un p.uc, .int .i64 h.label, .int .i64 h.pos, .slice p.A p.n p.c]] w fun e w' => e = .returned (.int .i64 (Tm.chk h kids)) ∧ Below w.heap.size w w' := by
  have hB0 : Below w.heap.size w (w.alloc (.cells #[.int .i8 h.kind, .string h.name, .string h.arg, .int .i64 h.num, .int .i8 h.tk, .slice p.TA p.tn p.tc, .int .i8 h.uk, .slice p.UA p.un p.uc, .int .i64 h.label, .int .i64 h.pos, .slice p.A p.n p.c] 28)) := (Below.refl _ _).alloc (Nat.le_refl _) _
  have HNO := Lib.hid (tref_nodes h kids p _ (hIs.below hB0))
  have HDP := Lib.hid (fun (W : World) (hb : Below w.heap.size w W) => tref_depth h kids p W (hIs.below hb))
  have HF := Lib.hid (fun (W : World) (hb : Below w.heap.size w W) => tright_any (Tm.nodes kids + 1) h kids p W (by omega) (hIs.below hb))
  have HN := Lib.hid (heap_new w (.cells #[.int .i8 h.kind, .string h.name, .string h.arg, .int .i64 h.num, .int .i8 h.tk, .slice p.TA p.tn p.tc, .int .i8 h.uk, .slice p.UA p.un p.uc, .int .i64 h.label, .int .i64 h.pos, .slice p.A p.n p.c] 28))
  clear hIs
  by_cases h1 : 8192 < Tm.nd h kids
  · have e1 : Tm.chk h kids = 32 := by unfold Tm.chk; rw [if_pos h1]
    have e2 : ((Tm.nod h kids : Nat) : Int) = 8193 := by unfold Tm.nod; omega
    rw [e1]
    rw [e2] at HNO
    clear e2 e1 h1 HF HN HDP
    go_enter Tryz.func39, Tryz.ntmps39
    go_wp2_with fail
    refine HNO.out.mono ?_
    rintro e w3 ⟨rfl, hb⟩
    go_wp2_with fail
    go_ret
    exact ⟨rfl, hB0.trans (hb.mono hB0.size)⟩
  · have e2 : ((Tm.nod h kids : Nat) : Int) ≤ 8192 := by unfold Tm.nod; omega
    have e4 : Tm.dpt h kids = min (Tm.dp h kids) 201 := by unfold Tm.dpt; rw [if_neg h1]
    by_cases h2 : 200 < Tm.dp h kids
    · have e1 : Tm.chk h kids = 31 := by unfold Tm.chk; rw [if_neg h1, if_pos h2]
      have e3 : ((Tm.dpt h kids : Nat) : Int) = 201 := by rw [e4]; omega
      rw [e1]
      rw [e3] at HDP
      generalize Tm.nod h kids = N at *
      clear e3 e1 h1 h2 e4 HF
      go_enter Tryz.func39, Tryz.ntmps39
      go_wp2_with fail
      refine HNO.out.mono ?_
      rintro e w3 ⟨rfl, hb⟩
      have hB1 := hB0.trans (hb.mono hB0.size)
      obtain ⟨q0, q1, q2, q3, q4, q5, q6, q7, q8, q9, q10, ql⟩ := own11 (heap_below hb (by simp) HN.out)
      clear hb
      go_wp2_with fail
      refine (HDP.out _ hB1).mono ?_
      rintro e w4 ⟨rfl, hb⟩
      go_wp2_with fail
      go_ret
      exact ⟨rfl, hB1.trans (hb.mono hB1.size)⟩
    · have e3 : ((Tm.dpt h kids : Nat) : Int) ≤ 200 := by rw [e4]; omega
      have e1 : Tm.chk h kids = if Tm.okT h kids then 0 else 30 := by unfold Tm.chk; rw [if_neg h1, if_neg h2]
      rw [e1]
      generalize Tm.nod h kids = N at *
      generalize Tm.dpt h kids = D at *
      clear e1 h1 h2 e4
      cases ho : Tm.okT h kids
      all_goals
        rw [ho] at HF
        clear ho
        go_enter Tryz.func39, Tryz.ntmps39
        go_wp2_with fail
        refine HNO.out.mono ?_
        rintro e w3 ⟨rfl, hb⟩
        have hB1 := hB0.trans (hb.mono hB0.size)
        have HN1 := Lib.hid (heap_below hb (by simp) HN.out)
        obtain ⟨q0, q1, q2, q3, q4, q5, q6, q7, q8, q9, q10, ql⟩ := own11 HN1.out
        clear hb
        go_wp2_with fail
        refine (HDP.out _ hB1).mono ?_
        rintro e w4 ⟨rfl, hb⟩
        have hB2 := hB1.trans (hb.mono hB1.size)
        clear q0 q1 q2 q3 q4 q5 q6 q7 q8 q9 q10 ql
        obtain ⟨q0, q1, q2, q3, q4, q5, q6, q7, q8, q9, q10, ql⟩ := own11 (heap_below hb (heap_lt HN1.out) HN1.out)
        clear hb
        go_wp2_with fail
        refine (HF.out _ hB2).mono ?_
        rintro e w5 ⟨rfl, hb⟩
        go_wp2_with fail
        go_ret
        exact ⟨rfl, hB2.trans (hb.mono hB2.size)⟩
end Go.Proofs.YtfkbdpehdabepaaGreatDoor
