/-
  terms.Bare. The document's terms.
-/
import Derived.Test.YtfkbdpehdabepaaGreatDoorM8
import Derived.Test.YtfkbdpehdabepaaGreatDoorCa2
import Derived.Test.YtfkbdpehdabepaaGreatDoorOrT1
import Derived.Test.YtfkbdpehdabepaaGreatDoorTmRight
import Derived.StillTailTactics
namespace Go.Proofs.YtfkbdpehdabepaaGreatDoor
open Go.RowKit
set_option maxHeartbeats 4000000 in
set_option maxRecDepth 100000 in
theorem tbare_any (h : Hd) (kids : Tm) (p : Pl) (w : World) (hIs : Tm.Is w h kids p) (hG : TGlob w) :
    Calls Tryz.prog 10 #[.agg #[.int .i8 h.kind, .string h.name, .string h.arg, .int .i64 h.num, .int .i8 h.tk, .slice p.TA p.tn p.tc, .int .i8 h.uk, .slice p.UA p.un p.uc, .int .i64 h.label, .int .i64 h.pos, .slice p.A p.n p.c]] w (BareP w h kids) := by
  have hB0 : Below w.heap.size w ((w.alloc (.cells #[.int .i8 h.kind, .string h.name, .string h.arg, .int .i64 h.num, .int .i8 h.tk, .slice p.TA p.tn p.tc, .int .i8 h.uk, .slice p.UA p.un p.uc, .int .i64 h.label, .int .i64 h.pos, .slice p.A p.n p.c] 28)).alloc (.cells #[.int .i8 0, .string ⟨#[]⟩, .string ⟨#[]⟩, .int .i64 0, .int .i8 0, .slice none 0 0, .int .i8 0, .slice none 0 0, .int .i64 0, .int .i64 0, .slice none 0 0] 28)) := ((Below.refl _ _).alloc (Nat.le_refl _) _).alloc (by simp) _
  obtain ⟨r0, r1, r2⟩ := two_new w (.cells #[.int .i8 h.kind, .string h.name, .string h.arg, .int .i64 h.num, .int .i8 h.tk, .slice p.TA p.tn p.tc, .int .i8 h.uk, .slice p.UA p.un p.uc, .int .i64 h.label, .int .i64 h.pos, .slice p.A p.n p.c] 28) (.cells #[.int .i8 0, .string ⟨#[]⟩, .string ⟨#[]⟩, .int .i64 0, .int .i8 0, .slice none 0 0, .int .i8 0, .slice none 0 0, .int .i64 0, .int .i64 0, .slice none 0 0] 28)
  have HM := Lib.hid (fun (W : World) (hb : Below w.heap.size w W) => tcheck_any h kids p W (hIs.below hb) (hG.below hb))
  have HBR := Lib.hid (fun (W : World) (hb : Below w.heap.size w W) (hs : Tm.chk h kids = 0) => bare_cpm h kids p W hs (hIs.below hb) (hG.below hb))
  have R0 := Lib.hid r0
  have R1 := Lib.hid r1
  clear hIs r0 r1 r2 hG
  unfold BareP Tm.bH Tm.bK
  by_cases hc : Tm.chk h kids = 0
  · have hsm := Tm.small_of hc
    have hne : (((Tm.chk h kids : Nat) : Int) != 0) = false := by rw [hc]; rfl
    simp only [if_pos hc]
    have HB2 := Lib.hid (fun (W : World) (hb : Below w.heap.size w W) => show Calls Tryz.prog 38 #[.agg #[.int .i8 h.kind, .string h.name, .string h.arg, .int .i64 h.num, .int .i8 h.tk, .slice p.TA p.tn p.tc, .int .i8 h.uk, .slice p.UA p.un p.uc, .int .i64 h.label, .int .i64 h.pos, .slice p.A p.n p.c]] W (fun e w' => ∃ p', e = .returned (.agg #[.int .i8 (Tm.cnt h).kind, .string (Tm.cnt h).name, .string (Tm.cnt h).arg, .int .i64 (Tm.cnt h).num, .int .i8 (Tm.cnt h).tk, .slice p'.TA p'.tn p'.tc, .int .i8 (Tm.cnt h).uk, .slice p'.UA p'.un p'.uc, .int .i64 (Tm.cnt h).label, .int .i64 (Tm.cnt h).pos, .slice p'.A p'.n p'.c]) ∧ Tm.Is (mask (fun b => decide (W.heap.size ≤ b)) w') (Tm.cnt h) (Tm.bF kids) p' ∧ Below W.heap.size W w') from HBR.out W hb hc)
    generalize ((Tm.chk h kids : Nat) : Int) = x0 at *
    clear hc HBR hsm
    generalize Tm.cnt h = a at *
    generalize Tm.bF kids = bk at *
    go_enter Tryz.func10, Tryz.ntmps10
    go_wp2_with fail
    refine (HM.out _ hB0).mono ?_
    rintro e w3 ⟨rfl, hb⟩
    have hB1 := hB0.trans (hb.mono hB0.size)
    have S0 := Lib.hid (heap_below hb (heap_lt R0.out) R0.out)
    have S1 := Lib.hid (heap_below hb (heap_lt R1.out) R1.out)
    obtain ⟨q0, q1, q2, q3, q4, q5, q6, q7, q8, q9, q10, ql⟩ := own11 S0.out
    clear hb
    go_wp2_with fail
    refine (HB2.out _ hB1).mono ?_
    rintro e w4 ⟨p', rfl, hI, hb⟩
    have hB2 := hB1.trans (hb.mono hB1.size)
    have Q1 := Lib.hid (heap_below hb (heap_lt S1.out) S1.out)
    have hl1 := heap_lt S1.out
    have HI := Lib.hid hI
    obtain ⟨y0, y1, y2, y3, y4, y5, y6, y7, y8, y9, y10, yl⟩ := own11 Q1.out
    have f0 := free11 Q1.out 0
    have f1 := free11 Q1.out 1
    have f2 := free11 Q1.out 2
    have f3 := free11 Q1.out 3
    have f4 := free11 Q1.out 4
    have f5 := free11 Q1.out 5
    have f6 := free11 Q1.out 6
    have f7 := free11 Q1.out 7
    have f8 := free11 Q1.out 8
    have f9 := free11 Q1.out 9
    have f10 := free11 Q1.out 10
    clear hb hI q0 q1 q2 q3 q4 q5 q6 q7 q8 q9 q10 ql
    go_wp2_with fail
    refine bodyPost_ret (v := .agg #[.int .i8 a.kind, .string a.name, .string a.arg, .int .i64 a.num, .int .i8 a.tk, .slice p'.TA p'.tn p'.tc, .int .i8 a.uk, .slice p'.UA p'.un p'.uc, .int .i64 a.label, .int .i64 a.pos, .slice p'.A p'.n p'.c]) (by simp [results, Tryz.results10, go_sem, *]) rfl ⟨p', rfl, ?_, below_only11 hB2 (by omega) _ _ _ _ _ _ _ _ _ _ _⟩
    refine HI.out.kept fun b hb o x hx => ?_
    obtain ⟨hP, hx2⟩ := mask_at hx
    exact far11 _ _ _ _ _ _ _ _ _ _ _ b o x (by simp only [decide_eq_true_eq] at hP; omega) hx2
  · have hne : (((Tm.chk h kids : Nat) : Int) != 0) = true := by simp; omega
    simp only [if_neg hc]
    generalize ((Tm.chk h kids : Nat) : Int) = x0 at *
    clear hc HBR
    go_enter Tryz.func10, Tryz.ntmps10
    go_wp2_with fail
    refine (HM.out _ hB0).mono ?_
    rintro e w3 ⟨rfl, hb⟩
    have hB1 := hB0.trans (hb.mono hB0.size)
    have S1 := Lib.hid (heap_below hb (heap_lt R1.out) R1.out)
    obtain ⟨y0, y1, y2, y3, y4, y5, y6, y7, y8, y9, y10, yl⟩ := own11 S1.out
    have f0 := free11 S1.out 0
    have f1 := free11 S1.out 1
    have f2 := free11 S1.out 2
    have f3 := free11 S1.out 3
    have f4 := free11 S1.out 4
    have f5 := free11 S1.out 5
    have f6 := free11 S1.out 6
    have f7 := free11 S1.out 7
    have f8 := free11 S1.out 8
    have f9 := free11 S1.out 9
    have f10 := free11 S1.out 10
    clear hb
    go_wp2_with fail
    refine bodyPost_ret (v := .agg #[.int .i8 0, .string ⟨#[]⟩, .string ⟨#[]⟩, .int .i64 0, .int .i8 0, .slice none 0 0, .int .i8 0, .slice none 0 0, .int .i64 0, .int .i64 0, .slice none 0 0]) (by simp [results, Tryz.results10, go_sem, *]) rfl ⟨⟨none, 0, 0, none, 0, 0, none, 0, 0⟩, rfl, Tm.is_zero _, below_only11 hB1 (by omega) _ _ _ _ _ _ _ _ _ _ _⟩
end Go.Proofs.YtfkbdpehdabepaaGreatDoor
namespace Go.Proofs.YtfkbdpehdabepaaGreatDoor
open Go.RowKit

/-- what a walk of same goes by -/
structure LessCtx (w : World) (h : Hd) (kids : Tm) (p : Pl) (h' : Hd) (kids' : Tm) (p' : Pl) : Prop where
  below0 : Below w.heap.size w ((w.alloc (.cells #[.int .i8 h.kind, .string h.name, .string h.arg, .int .i64 h.num, .int .i8 h.tk, .slice p.TA p.tn p.tc, .int .i8 h.uk, .slice p.UA p.un p.uc, .int .i64 h.label, .int .i64 h.pos, .slice p.A p.n p.c] 28)).alloc (.cells #[.int .i8 h'.kind, .string h'.name, .string h'.arg, .int .i64 h'.num, .int .i8 h'.tk, .slice p'.TA p'.tn p'.tc, .int .i8 h'.uk, .slice p'.UA p'.un p'.uc, .int .i64 h'.label, .int .i64 h'.pos, .slice p'.A p'.n p'.c] 28))
  rx : ((w.alloc (.cells #[.int .i8 h.kind, .string h.name, .string h.arg, .int .i64 h.num, .int .i8 h.tk, .slice p.TA p.tn p.tc, .int .i8 h.uk, .slice p.UA p.un p.uc, .int .i64 h.label, .int .i64 h.pos, .slice p.A p.n p.c] 28)).alloc (.cells #[.int .i8 h'.kind, .string h'.name, .string h'.arg, .int .i64 h'.num, .int .i8 h'.tk, .slice p'.TA p'.tn p'.tc, .int .i8 h'.uk, .slice p'.UA p'.un p'.uc, .int .i64 h'.label, .int .i64 h'.pos, .slice p'.A p'.n p'.c] 28)).heap[w.heap.size]? = some (.cells #[.int .i8 h.kind, .string h.name, .string h.arg, .int .i64 h.num, .int .i8 h.tk, .slice p.TA p.tn p.tc, .int .i8 h.uk, .slice p.UA p.un p.uc, .int .i64 h.label, .int .i64 h.pos, .slice p.A p.n p.c] 28 (0, 0))
  ry : ((w.alloc (.cells #[.int .i8 h.kind, .string h.name, .string h.arg, .int .i64 h.num, .int .i8 h.tk, .slice p.TA p.tn p.tc, .int .i8 h.uk, .slice p.UA p.un p.uc, .int .i64 h.label, .int .i64 h.pos, .slice p.A p.n p.c] 28)).alloc (.cells #[.int .i8 h'.kind, .string h'.name, .string h'.arg, .int .i64 h'.num, .int .i8 h'.tk, .slice p'.TA p'.tn p'.tc, .int .i8 h'.uk, .slice p'.UA p'.un p'.uc, .int .i64 h'.label, .int .i64 h'.pos, .slice p'.A p'.n p'.c] 28)).heap[w.heap.size + 1]? = some (.cells #[.int .i8 h'.kind, .string h'.name, .string h'.arg, .int .i64 h'.num, .int .i8 h'.tk, .slice p'.TA p'.tn p'.tc, .int .i8 h'.uk, .slice p'.UA p'.un p'.uc, .int .i64 h'.label, .int .i64 h'.pos, .slice p'.A p'.n p'.c] 28 (0, 0))
  ty : Tm.hasType h.kind = true → ∀ W : World, Below w.heap.size w W → Calls Tryz.prog 99 #[.agg #[.int .i8 h.tk, .slice p.TA p.tn p.tc], .agg #[.int .i8 h'.tk, .slice p'.TA p'.tn p'.tc]] W fun e w' => e = .returned (.bool (Ty.leT h.tk h.tkids h'.tk h'.tkids)) ∧ Below W.heap.size W w'
  tu : Tm.hasTo h.kind = true → ∀ W : World, Below w.heap.size w W → Calls Tryz.prog 99 #[.agg #[.int .i8 h.uk, .slice p.UA p.un p.uc], .agg #[.int .i8 h'.uk, .slice p'.UA p'.un p'.uc]] W fun e w' => e = .returned (.bool (Ty.leT h.uk h.ukids h'.uk h'.ukids)) ∧ Below W.heap.size W w'
  lies : ∀ W : World, Below w.heap.size w W → Tm.Lies W kids p.A 0 ∧ Tm.Lies W kids' p'.A 0
  n_eq : p.n = Tm.len kids ∧ p'.n = Tm.len kids'
  n_max : (p.n : Int) ≤ 9223372036854775807 ∧ (p'.n : Int) ≤ 9223372036854775807
theorem LessCtx.mk_of {w : World} {h : Hd} {kids : Tm} {p : Pl} {h' : Hd} {kids' : Tm} {p' : Pl} (hIs : Tm.Is w h kids p) (hIs' : Tm.Is w h' kids' p') (ho : Tm.okT h kids = true) (ho' : Tm.okT h' kids' = true) (hkk : h.kind = h'.kind) : LessCtx w h kids p h' kids' p' := by
  obtain ⟨r0, r1, _⟩ := two_new w (.cells #[.int .i8 h.kind, .string h.name, .string h.arg, .int .i64 h.num, .int .i8 h.tk, .slice p.TA p.tn p.tc, .int .i8 h.uk, .slice p.UA p.un p.uc, .int .i64 h.label, .int .i64 h.pos, .slice p.A p.n p.c] 28) (.cells #[.int .i8 h'.kind, .string h'.name, .string h'.arg, .int .i64 h'.num, .int .i8 h'.tk, .slice p'.TA p'.tn p'.tc, .int .i8 h'.uk, .slice p'.UA p'.un p'.uc, .int .i64 h'.label, .int .i64 h'.pos, .slice p'.A p'.n p'.c] 28)
  refine ⟨((Below.refl _ _).alloc (Nat.le_refl _) _).alloc (by simp) _, r0, r1, fun hq W hb => qless1_any (Ty.nodes h.tkids + 1) _ _ _ _ _ _ _ _ _ _ W (Nat.lt_succ_self _) (hIs.fit.ty.below hb) (hIs'.fit.ty.below hb) (Tm.okT_ty ho hq) (Tm.okT_ty ho' (by rw [← hkk]; exact hq)), fun hq W hb => qless1_any (Ty.nodes h.ukids + 1) _ _ _ _ _ _ _ _ _ _ W (Nat.lt_succ_self _) (hIs.fit.to.below hb) (hIs'.fit.to.below hb) (Tm.okT_to ho hq) (Tm.okT_to ho' (by rw [← hkk]; exact hq)),
    fun W hb => ⟨(hIs.below hb).lies, (hIs'.below hb).lies⟩, ⟨hIs.fit.n_eq, hIs'.fit.n_eq⟩, ?_, ?_⟩
  · have h1 := hIs.fit.n_le; have h2 := hIs.fit.c_le; unfold maxLen at h2; omega
  · have h1 := hIs'.fit.n_le; have h2 := hIs'.fit.c_le; unfold maxLen at h2; omega
theorem Tm.reH_of {h h' : Hd} (hk : h.kind = h'.kind) : Tm.reH h h' = ((!Tm.hasName h.kind || (h.name.toList == h'.name.toList)) && ((!Tm.hasArg h.kind || (h.arg.toList == h'.arg.toList)) && ((!Tm.hasNum h.kind || (h.num == h'.num)) &&
    ((!Tm.hasType h.kind || Ty.leT h.tk h.tkids h'.tk h'.tkids) && (!Tm.hasTo h.kind || Ty.leT h.uk h.ukids h'.uk h'.ukids))))) := by
  unfold Tm.reH
  rw [show (h.kind == h'.kind) = true by simpa using hk, Bool.true_and]
end Go.Proofs.YtfkbdpehdabepaaGreatDoor
