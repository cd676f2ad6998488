/-
  The reference's same.
-/
import Derived.Test.YtccobmjakmjekaaGreatDoorTmAlike
import Derived.Test.YtccobmjakmjekaaGreatDoorRefFn
import Derived.Test.YtccobmjakmjekaaGreatDoorTmRight
import Derived.StillTailTactics
namespace Go.Proofs.YtccobmjakmjekaaGreatDoor
open Go.RowKit

/-- what a walk of same goes by -/
structure SameCtx (w : World) (h : Hd) (kids : Tm) (p : Pl) (h' : Hd) (kids' : Tm) (p' : Pl) : Prop where
  below0 : Below w.heap.size w ((w.alloc (.cells #[.int .i8 h.kind, .string h.name, .string h.arg, .int .i64 h.num, .int .i8 h.tk, .slice p.TA p.tn p.tc, .int .i8 h.uk, .slice p.UA p.un p.uc, .int .i64 h.label, .int .i64 h.pos, .slice p.A p.n p.c] 28)).alloc (.cells #[.int .i8 h'.kind, .string h'.name, .string h'.arg, .int .i64 h'.num, .int .i8 h'.tk, .slice p'.TA p'.tn p'.tc, .int .i8 h'.uk, .slice p'.UA p'.un p'.uc, .int .i64 h'.label, .int .i64 h'.pos, .slice p'.A p'.n p'.c] 28))
  rx : ((w.alloc (.cells #[.int .i8 h.kind, .string h.name, .string h.arg, .int .i64 h.num, .int .i8 h.tk, .slice p.TA p.tn p.tc, .int .i8 h.uk, .slice p.UA p.un p.uc, .int .i64 h.label, .int .i64 h.pos, .slice p.A p.n p.c] 28)).alloc (.cells #[.int .i8 h'.kind, .string h'.name, .string h'.arg, .int .i64 h'.num, .int .i8 h'.tk, .slice p'.TA p'.tn p'.tc, .int .i8 h'.uk, .slice p'.UA p'.un p'.uc, .int .i64 h'.label, .int .i64 h'.pos, .slice p'.A p'.n p'.c] 28)).heap[w.heap.size]? = some (.cells #[.int .i8 h.kind, .string h.name, .string h.arg, .int .i64 h.num, .int .i8 h.tk, .slice p.TA p.tn p.tc, .int .i8 h.uk, .slice p.UA p.un p.uc, .int .i64 h.label, .int .i64 h.pos, .slice p.A p.n p.c] 28 (0, 0))
  ry : ((w.alloc (.cells #[.int .i8 h.kind, .string h.name, .string h.arg, .int .i64 h.num, .int .i8 h.tk, .slice p.TA p.tn p.tc, .int .i8 h.uk, .slice p.UA p.un p.uc, .int .i64 h.label, .int .i64 h.pos, .slice p.A p.n p.c] 28)).alloc (.cells #[.int .i8 h'.kind, .string h'.name, .string h'.arg, .int .i64 h'.num, .int .i8 h'.tk, .slice p'.TA p'.tn p'.tc, .int .i8 h'.uk, .slice p'.UA p'.un p'.uc, .int .i64 h'.label, .int .i64 h'.pos, .slice p'.A p'.n p'.c] 28)).heap[w.heap.size + 1]? = some (.cells #[.int .i8 h'.kind, .string h'.name, .string h'.arg, .int .i64 h'.num, .int .i8 h'.tk, .slice p'.TA p'.tn p'.tc, .int .i8 h'.uk, .slice p'.UA p'.un p'.uc, .int .i64 h'.label, .int .i64 h'.pos, .slice p'.A p'.n p'.c] 28 (0, 0))
  ty : ∀ W : World, Below w.heap.size w W → Calls Tryz.prog 61 #[.agg #[.int .i8 h.tk, .slice p.TA p.tn p.tc], .agg #[.int .i8 h'.tk, .slice p'.TA p'.tn p'.tc]] W fun e w' => e = .returned (.bool (Ty.sameT h.tk h.tkids h'.tk h'.tkids)) ∧ Below W.heap.size W w'
  tu : ∀ W : World, Below w.heap.size w W → Calls Tryz.prog 61 #[.agg #[.int .i8 h.uk, .slice p.UA p.un p.uc], .agg #[.int .i8 h'.uk, .slice p'.UA p'.un p'.uc]] W fun e w' => e = .returned (.bool (Ty.sameT h.uk h.ukids h'.uk h'.ukids)) ∧ Below W.heap.size W w'
  lies : ∀ W : World, Below w.heap.size w W → Tm.Lies W kids p.A 0 ∧ Tm.Lies W kids' p'.A 0
  n_eq : p.n = Tm.len kids ∧ p'.n = Tm.len kids'
  n_max : (p.n : Int) ≤ 9223372036854775807 ∧ (p'.n : Int) ≤ 9223372036854775807
theorem SameCtx.mk_of {w : World} {h : Hd} {kids : Tm} {p : Pl} {h' : Hd} {kids' : Tm} {p' : Pl} (hIs : Tm.Is w h kids p) (hIs' : Tm.Is w h' kids' p') : SameCtx w h kids p h' kids' p' := by
  obtain ⟨r0, r1, _⟩ := two_new w (.cells #[.int .i8 h.kind, .string h.name, .string h.arg, .int .i64 h.num, .int .i8 h.tk, .slice p.TA p.tn p.tc, .int .i8 h.uk, .slice p.UA p.un p.uc, .int .i64 h.label, .int .i64 h.pos, .slice p.A p.n p.c] 28) (.cells #[.int .i8 h'.kind, .string h'.name, .string h'.arg, .int .i64 h'.num, .int .i8 h'.tk, .slice p'.TA p'.tn p'.tc, .int .i8 h'.uk, .slice p'.UA p'.un p'.uc, .int .i64 h'.label, .int .i64 h'.pos, .slice p'.A p'.n p'.c] 28)
  refine ⟨((Below.refl _ _).alloc (Nat.le_refl _) _).alloc (by simp) _, r0, r1, fun W hb => ref_same _ _ _ _ _ _ _ _ _ _ W (hIs.fit.ty.below hb) (hIs'.fit.ty.below hb), fun W hb => ref_same _ _ _ _ _ _ _ _ _ _ W (hIs.fit.to.below hb) (hIs'.fit.to.below hb),
    fun W hb => ⟨(hIs.below hb).lies, (hIs'.below hb).lies⟩, ⟨hIs.fit.n_eq, hIs'.fit.n_eq⟩, ?_, ?_⟩
  · have h1 := hIs.fit.n_le; have h2 := hIs.fit.c_le; unfold maxLen at h2; omega
  · have h1 := hIs'.fit.n_le; have h2 := hIs'.fit.c_le; unfold maxLen at h2; omega
theorem Tm.eqH_of {h h' : Hd} (hk : h.kind = h'.kind) : Tm.eqH (Tm.cnt h) (Tm.cnt h') = ((!Tm.hasName h.kind || (h.name.toList == h'.name.toList)) && ((!Tm.hasArg h.kind || (h.arg.toList == h'.arg.toList)) && ((!Tm.hasNum h.kind || (h.num == h'.num)) && ((!Tm.hasLabel h.kind || (h.label == h'.label)) &&
    ((!Tm.hasType h.kind || Ty.sameT h.tk h.tkids h'.tk h'.tkids) && (!Tm.hasTo h.kind || Ty.sameT h.uk h.ukids h'.uk h'.ukids)))))) := by
  have hz : Ty.sameT 0 .nil 0 .nil = true := by decide
  unfold Tm.eqH Tm.cnt
  dsimp only
  rw [← hk]
  cases Tm.hasName h.kind <;> cases Tm.hasArg h.kind <;> cases Tm.hasNum h.kind <;> cases Tm.hasType h.kind <;> cases Tm.hasTo h.kind <;> cases Tm.hasLabel h.kind <;> simp [hz]
theorem Tm.eqH_no {h h' : Hd} (hk : h.kind ≠ h'.kind) : Tm.eqH (Tm.cnt h) (Tm.cnt h') = false := by
  unfold Tm.eqH Tm.cnt
  dsimp only
  rw [show (h.kind == h'.kind) = false by simpa using hk]; rfl
end Go.Proofs.YtccobmjakmjekaaGreatDoor
