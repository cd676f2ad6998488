/-
  The reference's right, Check of terms.
-/
import Derived.Test.YtocopanencbmeaaGreatDoorTmRef
import Derived.Test.YtocopanencbmeaaGreatDoorRefName
import Derived.Test.YtocopanencbmeaaGreatDoorTmFn
namespace Go.Proofs.YtocopanencbmeaaGreatDoor
open Go.RowKit

theorem Tm.kidsI_ne (k : Int) (n : Nat) : (Tm.kidsI k != (n : Int)) = !(Tm.isKind k && decide (n = Tm.kidsN k)) := by
  unfold Tm.kidsI
  cases Tm.isKind k
  · simp <;> omega
  · rw [Bool.eq_iff_iff]; simp; omega
theorem Tm.tysOk_of (h : Hd) : Tm.tysOk h = ((!Tm.hasType h.kind || (((Ty.chk h.tk h.tkids : Nat) : Int) == 0)) && (!Tm.hasTo h.kind || (((Ty.chk h.uk h.ukids : Nat) : Int) == 0))) := by
  have e : ∀ n : Nat, (n == 0) = ((n : Int) == 0) := fun n => by rw [Bool.eq_iff_iff]; simp
  unfold Tm.tysOk
  rw [e, e]

/-- the loop's part: what is shown of a term whose own fields are right -/
structure RightCtx (w : World) (h : Hd) (kids : Tm) (p : Pl) : Prop where
  below0 : Below w.heap.size w (w.alloc (.cells #[.int .i8 h.kind, .string h.name, .string h.arg, .int .i64 h.num, .int .i8 h.tk, .slice p.TA p.tn p.tc, .int .i8 h.uk, .slice p.UA p.un p.uc, .int .i64 h.label, .int .i64 h.pos, .slice p.A p.n p.c] 28))
  ty : ∀ W : World, Below w.heap.size w W → Calls Tryz.prog 45 #[.agg #[.int .i8 h.tk, .slice p.TA p.tn p.tc]] W fun e w' => e = .returned (.int .i64 (Ty.chk h.tk h.tkids)) ∧ Below W.heap.size W w'
  to : ∀ W : World, Below w.heap.size w W → Calls Tryz.prog 45 #[.agg #[.int .i8 h.uk, .slice p.UA p.un p.uc]] W fun e w' => e = .returned (.int .i64 (Ty.chk h.uk h.ukids)) ∧ Below W.heap.size W w'
  lies : ∀ W : World, Below w.heap.size w W → Tm.Lies W kids p.A 0
  n_eq : p.n = Tm.len kids
  n_max : (p.n : Int) ≤ 9223372036854775807
  row : ∀ a, Below w.heap.size w ((w.alloc (.cells #[.int .i8 h.kind, .string h.name, .string h.arg, .int .i64 h.num, .int .i8 h.tk, .slice p.TA p.tn p.tc, .int .i8 h.uk, .slice p.UA p.un p.uc, .int .i64 h.label, .int .i64 h.pos, .slice p.A p.n p.c] 28)).drewN a) ∧ ((w.alloc (.cells #[.int .i8 h.kind, .string h.name, .string h.arg, .int .i64 h.num, .int .i8 h.tk, .slice p.TA p.tn p.tc, .int .i8 h.uk, .slice p.UA p.un p.uc, .int .i64 h.label, .int .i64 h.pos, .slice p.A p.n p.c] 28)).drewN a).heap[w.heap.size]? = some (.cells #[.int .i8 h.kind, .string h.name, .string h.arg, .int .i64 h.num, .int .i8 h.tk, .slice p.TA p.tn p.tc, .int .i8 h.uk, .slice p.UA p.un p.uc, .int .i64 h.label, .int .i64 h.pos, .slice p.A p.n p.c] 28 (0, 0))
theorem RightCtx.mk_of {w : World} {h : Hd} {kids : Tm} {p : Pl} (hIs : Tm.Is w h kids p) : RightCtx w h kids p := by
  have hB0 : Below w.heap.size w (w.alloc (.cells #[.int .i8 h.kind, .string h.name, .string h.arg, .int .i64 h.num, .int .i8 h.tk, .slice p.TA p.tn p.tc, .int .i8 h.uk, .slice p.UA p.un p.uc, .int .i64 h.label, .int .i64 h.pos, .slice p.A p.n p.c] 28)) := (Below.refl _ _).alloc (Nat.le_refl _) _
  exact ⟨hB0, fun W hb => ref_check h.tk h.tkids p.TA p.tn p.tc W (hIs.fit.ty.below hb), fun W hb => ref_check h.uk h.ukids p.UA p.un p.uc W (hIs.fit.to.below hb), fun W hb => (hIs.below hb).lies, hIs.fit.n_eq,
    by have h1 := hIs.fit.n_le; have h2 := hIs.fit.c_le; unfold maxLen at h2; omega, fun a => ⟨below_drewN hB0 a, heap_new w _⟩⟩
end Go.Proofs.YtocopanencbmeaaGreatDoor
