/-
  terms.Check, Nodes, Depth. The reference's right, Check of terms.
-/
import Derived.Test.YtfkbdpehdabepaaGreatDoorMalformed
import Derived.Test.YtfkbdpehdabepaaGreatDoorTmRef
import Derived.Test.YtfkbdpehdabepaaGreatDoorM2
namespace Go.Proofs.YtfkbdpehdabepaaGreatDoor
open Go.RowKit

set_option maxHeartbeats 2000000 in
set_option maxRecDepth 100000 in
theorem tcheck_any (h : Hd) (kids : Tm) (p : Pl) (w : World) (hIs : Tm.Is w h kids p) (hG : TGlob w) :
    Calls Tryz.prog 12 #[.agg #[.int .i8 h.kind, .string h.name, .string h.arg, .int .i64 h.num, .int .i8 h.tk, .slice p.TA p.tn p.tc, .int .i8 h.uk, .slice p.UA p.un p.uc, .int .i64 h.label, .int .i64 h.pos, .slice p.A p.n p.c]] w fun e w' => e = .returned (.int .i64 (Tm.chk h kids)) ∧ Below w.heap.size w w' := by
  have hB0 : Below w.heap.size w (w.alloc (.cells #[.int .i8 h.kind, .string h.name, .string h.arg, .int .i64 h.num, .int .i8 h.tk, .slice p.TA p.tn p.tc, .int .i8 h.uk, .slice p.UA p.un p.uc, .int .i64 h.label, .int .i64 h.pos, .slice p.A p.n p.c] 28)) := (Below.refl _ _).alloc (Nat.le_refl _) _
  have HM := Lib.hid (tmeasure_any h kids p _ (hIs.below hB0) (hG.terms.below hB0))
  have HF := Lib.hid (fun (W : World) (hb : Below w.heap.size w W) => malformed_any (Tm.nodes kids + 1) h kids p W (by omega) (hIs.below hb) (hG.below hb))
  have HN := Lib.hid (heap_new w (.cells #[.int .i8 h.kind, .string h.name, .string h.arg, .int .i64 h.num, .int .i8 h.tk, .slice p.TA p.tn p.tc, .int .i8 h.uk, .slice p.UA p.un p.uc, .int .i64 h.label, .int .i64 h.pos, .slice p.A p.n p.c] 28))
  clear hIs hG
  by_cases h1 : 8192 < Tm.nd h kids
  · have e1 : Tm.chk h kids = 32 := by unfold Tm.chk; rw [if_pos h1]
    have e2 : ((Tm.nod h kids : Nat) : Int) = 8193 := by unfold Tm.nod; omega
    rw [e1]
    rw [e2] at HM
    clear e2 e1 h1 HF HN
    go_enter Tryz.func12, Tryz.ntmps12
    go_wp2_with fail
    refine HM.out.mono ?_
    rintro e w3 ⟨rfl, hb⟩
    go_wp2_with fail
    go_ret
    exact ⟨rfl, hB0.trans (hb.mono hB0.size)⟩
  · have e2 : ((Tm.nod h kids : Nat) : Int) ≤ 8192 := by unfold Tm.nod; omega
    have e4 : Tm.dpt h kids = min (Tm.dp h kids) 201 := by unfold Tm.dpt; rw [if_neg h1]
    by_cases h2 : 200 < Tm.dp h kids
    · have e1 : Tm.chk h kids = 31 := by unfold Tm.chk; rw [if_neg h1, if_pos h2]
      have e3 : ((Tm.dpt h kids : Nat) : Int) = 201 := by rw [e4]; omega
      rw [e1]
      rw [e3] at HM
      generalize Tm.nod h kids = N at *
      clear e3 e1 h1 h2 e4 HF HN
      go_enter Tryz.func12, Tryz.ntmps12
      go_wp2_with fail
      refine HM.out.mono ?_
      rintro e w3 ⟨rfl, hb⟩
      go_wp2_with fail
      go_ret
      exact ⟨rfl, hB0.trans (hb.mono hB0.size)⟩
    · have e3 : ((Tm.dpt h kids : Nat) : Int) ≤ 200 := by rw [e4]; omega
      have e1 : Tm.chk h kids = if Tm.okT h kids then 0 else 30 := by unfold Tm.chk; rw [if_neg h1, if_neg h2]
      rw [e1]
      generalize Tm.nod h kids = N at *
      generalize Tm.dpt h kids = D at *
      clear e1 h1 h2 e4
      cases ho : Tm.okT h kids
      all_goals
        rw [ho] at HF
        clear ho
        go_enter Tryz.func12, Tryz.ntmps12
        go_wp2_with fail
        refine HM.out.mono ?_
        rintro e w3 ⟨rfl, hb⟩
        have hB1 := hB0.trans (hb.mono hB0.size)
        obtain ⟨q0, q1, q2, q3, q4, q5, q6, q7, q8, q9, q10, ql⟩ := own11 (heap_below hb (by simp) HN.out)
        clear hb
        go_wp2_with fail
        refine (HF.out _ hB1).mono ?_
        rintro e w4 ⟨rfl, hb⟩
        go_wp2_with fail
        go_ret
        exact ⟨rfl, hB1.trans (hb.mono hB1.size)⟩
end Go.Proofs.YtfkbdpehdabepaaGreatDoor
namespace Go.Proofs.YtfkbdpehdabepaaGreatDoor
open Go.RowKit

theorem Tm.kidsI_ne (k : Int) (n : Nat) : (Tm.kidsI k != (n : Int)) = !(Tm.isKind k && decide (n = Tm.kidsN k)) := by
  unfold Tm.kidsI
  cases Tm.isKind k
  · simp <;> omega
  · rw [Bool.eq_iff_iff]; simp; omega
theorem Tm.tysOk_of (h : Hd) : Tm.tysOk h = ((!Tm.hasType h.kind || (((Ty.chk h.tk h.tkids : Nat) : Int) == 0)) && (!Tm.hasTo h.kind || (((Ty.chk h.uk h.ukids : Nat) : Int) == 0))) := by
  have e : ∀ n : Nat, (n == 0) = ((n : Int) == 0) := fun n => by rw [Bool.eq_iff_iff]; simp
  unfold Tm.tysOk
  rw [e, e]

/-- the loop's part: what is shown of a term whose own fields are right -/
structure RightCtx (w : World) (h : Hd) (kids : Tm) (p : Pl) : Prop where
  below0 : Below w.heap.size w (w.alloc (.cells #[.int .i8 h.kind, .string h.name, .string h.arg, .int .i64 h.num, .int .i8 h.tk, .slice p.TA p.tn p.tc, .int .i8 h.uk, .slice p.UA p.un p.uc, .int .i64 h.label, .int .i64 h.pos, .slice p.A p.n p.c] 28))
  ty : ∀ W : World, Below w.heap.size w W → Calls Tryz.prog 122 #[.agg #[.int .i8 h.tk, .slice p.TA p.tn p.tc]] W fun e w' => e = .returned (.int .i64 (Ty.chk h.tk h.tkids)) ∧ Below W.heap.size W w'
  to : ∀ W : World, Below w.heap.size w W → Calls Tryz.prog 122 #[.agg #[.int .i8 h.uk, .slice p.UA p.un p.uc]] W fun e w' => e = .returned (.int .i64 (Ty.chk h.uk h.ukids)) ∧ Below W.heap.size W w'
  lies : ∀ W : World, Below w.heap.size w W → Tm.Lies W kids p.A 0
  n_eq : p.n = Tm.len kids
  n_max : (p.n : Int) ≤ 9223372036854775807
  row : ∀ a, Below w.heap.size w ((w.alloc (.cells #[.int .i8 h.kind, .string h.name, .string h.arg, .int .i64 h.num, .int .i8 h.tk, .slice p.TA p.tn p.tc, .int .i8 h.uk, .slice p.UA p.un p.uc, .int .i64 h.label, .int .i64 h.pos, .slice p.A p.n p.c] 28)).drewN a) ∧ ((w.alloc (.cells #[.int .i8 h.kind, .string h.name, .string h.arg, .int .i64 h.num, .int .i8 h.tk, .slice p.TA p.tn p.tc, .int .i8 h.uk, .slice p.UA p.un p.uc, .int .i64 h.label, .int .i64 h.pos, .slice p.A p.n p.c] 28)).drewN a).heap[w.heap.size]? = some (.cells #[.int .i8 h.kind, .string h.name, .string h.arg, .int .i64 h.num, .int .i8 h.tk, .slice p.TA p.tn p.tc, .int .i8 h.uk, .slice p.UA p.un p.uc, .int .i64 h.label, .int .i64 h.pos, .slice p.A p.n p.c] 28 (0, 0))
theorem RightCtx.mk_of {w : World} {h : Hd} {kids : Tm} {p : Pl} (hIs : Tm.Is w h kids p) : RightCtx w h kids p := by
  have hB0 : Below w.heap.size w (w.alloc (.cells #[.int .i8 h.kind, .string h.name, .string h.arg, .int .i64 h.num, .int .i8 h.tk, .slice p.TA p.tn p.tc, .int .i8 h.uk, .slice p.UA p.un p.uc, .int .i64 h.label, .int .i64 h.pos, .slice p.A p.n p.c] 28)) := (Below.refl _ _).alloc (Nat.le_refl _) _
  exact ⟨hB0, fun W hb => ref_check h.tk h.tkids p.TA p.tn p.tc W (hIs.fit.ty.below hb), fun W hb => ref_check h.uk h.ukids p.UA p.un p.uc W (hIs.fit.to.below hb), fun W hb => (hIs.below hb).lies, hIs.fit.n_eq,
    by have h1 := hIs.fit.n_le; have h2 := hIs.fit.c_le; unfold maxLen at h2; omega, fun a => ⟨below_drewN hB0 a, heap_new w _⟩⟩
end Go.Proofs.YtfkbdpehdabepaaGreatDoor
