/-
  The document's terms.
-/
import Derived.Test.YtocopanencbmeaaGreatDoorOrT1
import Derived.Test.YtocopanencbmeaaGreatDoorTmRight
import Derived.StillTailTactics
namespace Go.Proofs.YtocopanencbmeaaGreatDoor
open Go.RowKit

/-- what a walk of same goes by -/
structure LessCtx (w : World) (h : Hd) (kids : Tm) (p : Pl) (h' : Hd) (kids' : Tm) (p' : Pl) : Prop where
  below0 : Below w.heap.size w ((w.alloc (.cells #[.int .i8 h.kind, .string h.name, .string h.arg, .int .i64 h.num, .int .i8 h.tk, .slice p.TA p.tn p.tc, .int .i8 h.uk, .slice p.UA p.un p.uc, .int .i64 h.label, .int .i64 h.pos, .slice p.A p.n p.c] 28)).alloc (.cells #[.int .i8 h'.kind, .string h'.name, .string h'.arg, .int .i64 h'.num, .int .i8 h'.tk, .slice p'.TA p'.tn p'.tc, .int .i8 h'.uk, .slice p'.UA p'.un p'.uc, .int .i64 h'.label, .int .i64 h'.pos, .slice p'.A p'.n p'.c] 28))
  rx : ((w.alloc (.cells #[.int .i8 h.kind, .string h.name, .string h.arg, .int .i64 h.num, .int .i8 h.tk, .slice p.TA p.tn p.tc, .int .i8 h.uk, .slice p.UA p.un p.uc, .int .i64 h.label, .int .i64 h.pos, .slice p.A p.n p.c] 28)).alloc (.cells #[.int .i8 h'.kind, .string h'.name, .string h'.arg, .int .i64 h'.num, .int .i8 h'.tk, .slice p'.TA p'.tn p'.tc, .int .i8 h'.uk, .slice p'.UA p'.un p'.uc, .int .i64 h'.label, .int .i64 h'.pos, .slice p'.A p'.n p'.c] 28)).heap[w.heap.size]? = some (.cells #[.int .i8 h.kind, .string h.name, .string h.arg, .int .i64 h.num, .int .i8 h.tk, .slice p.TA p.tn p.tc, .int .i8 h.uk, .slice p.UA p.un p.uc, .int .i64 h.label, .int .i64 h.pos, .slice p.A p.n p.c] 28 (0, 0))
  ry : ((w.alloc (.cells #[.int .i8 h.kind, .string h.name, .string h.arg, .int .i64 h.num, .int .i8 h.tk, .slice p.TA p.tn p.tc, .int .i8 h.uk, .slice p.UA p.un p.uc, .int .i64 h.label, .int .i64 h.pos, .slice p.A p.n p.c] 28)).alloc (.cells #[.int .i8 h'.kind, .string h'.name, .string h'.arg, .int .i64 h'.num, .int .i8 h'.tk, .slice p'.TA p'.tn p'.tc, .int .i8 h'.uk, .slice p'.UA p'.un p'.uc, .int .i64 h'.label, .int .i64 h'.pos, .slice p'.A p'.n p'.c] 28)).heap[w.heap.size + 1]? = some (.cells #[.int .i8 h'.kind, .string h'.name, .string h'.arg, .int .i64 h'.num, .int .i8 h'.tk, .slice p'.TA p'.tn p'.tc, .int .i8 h'.uk, .slice p'.UA p'.un p'.uc, .int .i64 h'.label, .int .i64 h'.pos, .slice p'.A p'.n p'.c] 28 (0, 0))
  ty : Tm.hasType h.kind = true → ∀ W : World, Below w.heap.size w W → Calls Tryz.prog 23 #[.agg #[.int .i8 h.tk, .slice p.TA p.tn p.tc], .agg #[.int .i8 h'.tk, .slice p'.TA p'.tn p'.tc]] W fun e w' => e = .returned (.bool (Ty.leT h.tk h.tkids h'.tk h'.tkids)) ∧ Below W.heap.size W w'
  tu : Tm.hasTo h.kind = true → ∀ W : World, Below w.heap.size w W → Calls Tryz.prog 23 #[.agg #[.int .i8 h.uk, .slice p.UA p.un p.uc], .agg #[.int .i8 h'.uk, .slice p'.UA p'.un p'.uc]] W fun e w' => e = .returned (.bool (Ty.leT h.uk h.ukids h'.uk h'.ukids)) ∧ Below W.heap.size W w'
  lies : ∀ W : World, Below w.heap.size w W → Tm.Lies W kids p.A 0 ∧ Tm.Lies W kids' p'.A 0
  n_eq : p.n = Tm.len kids ∧ p'.n = Tm.len kids'
  n_max : (p.n : Int) ≤ 9223372036854775807 ∧ (p'.n : Int) ≤ 9223372036854775807
theorem LessCtx.mk_of {w : World} {h : Hd} {kids : Tm} {p : Pl} {h' : Hd} {kids' : Tm} {p' : Pl} (hIs : Tm.Is w h kids p) (hIs' : Tm.Is w h' kids' p') (ho : Tm.okT h kids = true) (ho' : Tm.okT h' kids' = true) (hkk : h.kind = h'.kind) : LessCtx w h kids p h' kids' p' := by
  obtain ⟨r0, r1, _⟩ := two_new w (.cells #[.int .i8 h.kind, .string h.name, .string h.arg, .int .i64 h.num, .int .i8 h.tk, .slice p.TA p.tn p.tc, .int .i8 h.uk, .slice p.UA p.un p.uc, .int .i64 h.label, .int .i64 h.pos, .slice p.A p.n p.c] 28) (.cells #[.int .i8 h'.kind, .string h'.name, .string h'.arg, .int .i64 h'.num, .int .i8 h'.tk, .slice p'.TA p'.tn p'.tc, .int .i8 h'.uk, .slice p'.UA p'.un p'.uc, .int .i64 h'.label, .int .i64 h'.pos, .slice p'.A p'.n p'.c] 28)
  refine ⟨((Below.refl _ _).alloc (Nat.le_refl _) _).alloc (by simp) _, r0, r1, fun hq W hb => qless1_any (Ty.nodes h.tkids + 1) _ _ _ _ _ _ _ _ _ _ W (Nat.lt_succ_self _) (hIs.fit.ty.below hb) (hIs'.fit.ty.below hb) (Tm.okT_ty ho hq) (Tm.okT_ty ho' (by rw [← hkk]; exact hq)), fun hq W hb => qless1_any (Ty.nodes h.ukids + 1) _ _ _ _ _ _ _ _ _ _ W (Nat.lt_succ_self _) (hIs.fit.to.below hb) (hIs'.fit.to.below hb) (Tm.okT_to ho hq) (Tm.okT_to ho' (by rw [← hkk]; exact hq)),
    fun W hb => ⟨(hIs.below hb).lies, (hIs'.below hb).lies⟩, ⟨hIs.fit.n_eq, hIs'.fit.n_eq⟩, ?_, ?_⟩
  · have h1 := hIs.fit.n_le; have h2 := hIs.fit.c_le; unfold maxLen at h2; omega
  · have h1 := hIs'.fit.n_le; have h2 := hIs'.fit.c_le; unfold maxLen at h2; omega
theorem Tm.reH_of {h h' : Hd} (hk : h.kind = h'.kind) : Tm.reH h h' = ((!Tm.hasName h.kind || (h.name.toList == h'.name.toList)) && ((!Tm.hasArg h.kind || (h.arg.toList == h'.arg.toList)) && ((!Tm.hasNum h.kind || (h.num == h'.num)) &&
    ((!Tm.hasType h.kind || Ty.leT h.tk h.tkids h'.tk h'.tkids) && (!Tm.hasTo h.kind || Ty.leT h.uk h.ukids h'.uk h'.ukids))))) := by
  unfold Tm.reH
  rw [show (h.kind == h'.kind) = true by simpa using hk, Bool.true_and]
end Go.Proofs.YtocopanencbmeaaGreatDoor
