/-
  Layers 9 and 11: rules.Type, given what its rules tell.
-/
import Derived.Test.YtknhoagicdfikaaGreatDoorM18
import Derived.Test.YtknhoagicdfikaaGreatDoorM20
import Derived.Test.YtknhoagicdfikaaGreatDoorM11
import Derived.Laws.EntriesVeiled
namespace Go.Proofs.YtknhoagicdfikaaGreatDoor
open Go.RowKit
theorem set_one {u : World} {X : Nat} {x0 : Value} {t : TypeId} (h : u.heap[X]? = some (.cells #[x0] t (0, 0))) (a : Value) : (u.setCell ⟨X, 0, none⟩ a).heap[X]? = some (.cells #[a] t (0, 0)) := by
  simp [World.setCell, Array.getElem?_modify, h]
theorem set_one_ne {u : World} {X Y : Nat} {o : Obj} (h : u.heap[Y]? = some o) (hne : X ≠ Y) (a : Value) : (u.setCell ⟨X, 0, none⟩ a).heap[Y]? = some o := by
  simp [World.setCell, Array.getElem?_modify, h, hne]
theorem below_set1 {N X : Nat} {w u : World} (h : Below N w u) (hX : N ≤ X) (a : Value) : Below N w (u.setCell ⟨X, 0, none⟩ a) := h.setCell (p := ⟨X, 0, none⟩) hX _
namespace Ck
/-- what Type leaves -/
def TyPost (w : World) (r : R) (e : Ending) (w' : World) : Prop := match r with
  | .ok a => ∃ G m c, e = .returned (.tuple #[.agg #[.int .i8 a.1, .slice G m c], .nilIface]) ∧ Ly (fun b => w.heap.size ≤ b) w' a G m c ∧ Below w.heap.size w w'
  | .bad E p x => ∃ g, e = .returned (.tuple #[.agg #[.int .i8 0, .slice none 0 0], .iface 52 (.pointer (some ⟨g, 0, none⟩))]) ∧ FltAt w' g E p x ∧ w.heap.size ≤ g ∧ Below w.heap.size w w'
end Ck
set_option maxHeartbeats 8000000 in
set_option maxRecDepth 100000 in
/-- a term that is refused -/
theorem rtype_refused (rv : Cg.Rv) (h : Hd) (p : Pl) (w : World) (x : Int × Int) (hRef : ∀ W : World, Below w.heap.size w W → Calls Tryz.prog rv.fr (#[.agg #[.int .i8 h.kind, .string h.name, .string h.arg, .int .i64 h.num, .int .i8 h.tk, .slice p.TA p.tn p.tc, .int .i8 h.uk, .slice p.UA p.un p.uc, .int .i64 h.label, .int .i64 h.pos, .slice p.A p.n p.c]] ++ rv.cpt) W (Cg.RefPost W (some x))) :
    Calls Tryz.prog 13 #[.agg #[.func (Fn.func rv.fr) #[] rv.cpt, .func (Fn.func rv.fa) #[] #[], .func (Fn.func rv.fm) #[] #[], .func (Fn.func rv.ft) #[] #[], rv.vg], .agg #[.int .i8 h.kind, .string h.name, .string h.arg, .int .i64 h.num, .int .i8 h.tk, .slice p.TA p.tn p.tc, .int .i8 h.uk, .slice p.UA p.un p.uc, .int .i64 h.label, .int .i64 h.pos, .slice p.A p.n p.c]] w (Ck.TyPost w (.bad x.1 x.2 Ck.e0)) := by
  have HB3 := Lib.hid (below_n4 w (.cells #[.func (Fn.func rv.fr) #[] rv.cpt, .func (Fn.func rv.fa) #[] #[], .func (Fn.func rv.fm) #[] #[], .func (Fn.func rv.ft) #[] #[], rv.vg] 47) (.cells #[.int .i8 h.kind, .string h.name, .string h.arg, .int .i64 h.num, .int .i8 h.tk, .slice p.TA p.tn p.tc, .int .i8 h.uk, .slice p.UA p.un p.uc, .int .i64 h.label, .int .i64 h.pos, .slice p.A p.n p.c] 28) (.cells #[.int .i8 0, .slice none 0 0] 25) (.cells #[.nilIface] 30))
  obtain ⟨h0, h1, h2, h3⟩ := heap_n4 w (.cells #[.func (Fn.func rv.fr) #[] rv.cpt, .func (Fn.func rv.fa) #[] #[], .func (Fn.func rv.fm) #[] #[], .func (Fn.func rv.ft) #[] #[], rv.vg] 47) (.cells #[.int .i8 h.kind, .string h.name, .string h.arg, .int .i64 h.num, .int .i8 h.tk, .slice p.TA p.tn p.tc, .int .i8 h.uk, .slice p.UA p.un p.uc, .int .i64 h.label, .int .i64 h.pos, .slice p.A p.n p.c] 28) (.cells #[.int .i8 0, .slice none 0 0] 25) (.cells #[.nilIface] 30)
  have hcf := rv.cfr
  have HR := Lib.hid hRef
  have H0 := Lib.hid h0
  have H1 := Lib.hid h1
  have H2 := Lib.hid h2
  have H3 := Lib.hid h3
  clear h0 h1 h2 h3 hRef
  go_enter_defers Tryz.func13, Tryz.ntmps13
  go_upto_region 1 with fail
  generalize (((w.alloc (.cells #[.func (Fn.func rv.fr) #[] rv.cpt, .func (Fn.func rv.fa) #[] #[], .func (Fn.func rv.fm) #[] #[], .func (Fn.func rv.ft) #[] #[], rv.vg] 47)).alloc (.cells #[.int .i8 h.kind, .string h.name, .string h.arg, .int .i64 h.num, .int .i8 h.tk, .slice p.TA p.tn p.tc, .int .i8 h.uk, .slice p.UA p.un p.uc, .int .i64 h.label, .int .i64 h.pos, .slice p.A p.n p.c] 28)).alloc (.cells #[.int .i8 0, .slice none 0 0] 25)).alloc (.cells #[.nilIface] 30) = w1 at *
  obtain ⟨r0, r1, r2, r3, r4, -, -, -, -, -, rl⟩ := own5 H0.out
  obtain ⟨q0, q1, q2, q3, q4, q5, q6, q7, q8, q9, q10, ql⟩ := own11 H1.out
  go_wp2_with fail
  refine (HR.out _ HB3.out).mono ?_
  rintro e w2 ⟨g, rfl, hf, hgl, hb2⟩
  have HB2 := Lib.hid (HB3.out.trans (hb2.mono HB3.out.size))
  have hz1 := heap_below hb2 (heap_lt H2.out) H2.out
  have hz2 := heap_below hb2 (heap_lt H3.out) H3.out
  have hlt := heap_lt H3.out
  obtain ⟨x0, x1, f0, f1, xl⟩ := own2 hz1
  obtain ⟨y0, f2, yl⟩ := own1 hz2
  have z1 := set_one_ne (set_two hz1 (.int .i8 0) (.slice none 0 0)) (show w.heap.size + 1 + 1 + 1 ≠ w.heap.size + 1 + 1 by omega) (.iface 52 (.pointer (some ⟨g, 0, none⟩)))
  have z2 := set_one (set_two_ne hz2 (show w.heap.size + 1 + 1 ≠ w.heap.size + 1 + 1 + 1 by omega) (.int .i8 0) (.slice none 0 0)) (.iface 52 (.pointer (some ⟨g, 0, none⟩)))
  have HB9 := Lib.hid (below_set1 (below_set2 HB2.out (show w.heap.size ≤ w.heap.size + 1 + 1 by omega) (.int .i8 0) (.slice none 0 0)) (show w.heap.size ≤ w.heap.size + 1 + 1 + 1 by omega) (.iface 52 (.pointer (some ⟨g, 0, none⟩))))
  have hff := Lib.hid (set_one_ne (set_two_ne hf (show w.heap.size + 1 + 1 ≠ g by omega) (.int .i8 0) (.slice none 0 0)) (show w.heap.size + 1 + 1 + 1 ≠ g by omega) (.iface 52 (.pointer (some ⟨g, 0, none⟩))))
  have hgw : w.heap.size ≤ g := by omega
  clear hb2 r0 r1 r2 r3 r4 rl q0 q1 q2 q3 q4 q5 q6 q7 q8 q9 q10 ql hz1 hz2 hf hgl hlt
  go_wp2_with fail
  generalize (((w2.setCell ⟨w.heap.size + 1 + 1, 0, none⟩ (.int .i8 0)).setCell ⟨w.heap.size + 1 + 1, 1, none⟩ (.slice none 0 0)).setCell ⟨w.heap.size + 1 + 1 + 1, 0, none⟩ (.iface 52 (.pointer (some ⟨g, 0, none⟩)))) = w9 at *
  obtain ⟨k0, k1, -, -, -⟩ := own2 z1
  obtain ⟨k2, -, -⟩ := own1 z2
  exact ⟨.tuple #[.agg #[.int .i8 0, .slice none 0 0], (.iface 52 (.pointer (some ⟨g, 0, none⟩)))], by simp [results, Tryz.results13, go_sem, k0, k1, k2], g, rfl, hff.out, hgw, HB9.out⟩

set_option maxHeartbeats 8000000 in
set_option maxRecDepth 100000 in
/-- a term that the rules speak of: R is what they tell -/
theorem rtype_told (rv : Cg.Rv) (h : Hd) (p : Pl) (w : World) (R : Ck.R) (hSh : Shapes w) (hRef : ∀ W : World, Below w.heap.size w W → Calls Tryz.prog rv.fr (#[.agg #[.int .i8 h.kind, .string h.name, .string h.arg, .int .i64 h.num, .int .i8 h.tk, .slice p.TA p.tn p.tc, .int .i8 h.uk, .slice p.UA p.un p.uc, .int .i64 h.label, .int .i64 h.pos, .slice p.A p.n p.c]] ++ rv.cpt) W (Cg.RefPost W none)) (hR : ∀ a, R = .ok a → Ck.chk a = 0)
    (hT : ∀ W : World, Below w.heap.size w W → Calls Tryz.prog 28 #[.agg #[.func (Fn.func rv.fr) #[] rv.cpt, .func (Fn.func rv.fa) #[] #[], .func (Fn.func rv.fm) #[] #[], .func (Fn.func rv.ft) #[] #[], rv.vg], .agg #[.int .i8 h.kind, .string h.name, .string h.arg, .int .i64 h.num, .int .i8 h.tk, .slice p.TA p.tn p.tc, .int .i8 h.uk, .slice p.UA p.un p.uc, .int .i64 h.label, .int .i64 h.pos, .slice p.A p.n p.c], .slice none 0 0] W (Ck.Post (fun b => b < w.heap.size) W R)) :
    Calls Tryz.prog 13 #[.agg #[.func (Fn.func rv.fr) #[] rv.cpt, .func (Fn.func rv.fa) #[] #[], .func (Fn.func rv.fm) #[] #[], .func (Fn.func rv.ft) #[] #[], rv.vg], .agg #[.int .i8 h.kind, .string h.name, .string h.arg, .int .i64 h.num, .int .i8 h.tk, .slice p.TA p.tn p.tc, .int .i8 h.uk, .slice p.UA p.un p.uc, .int .i64 h.label, .int .i64 h.pos, .slice p.A p.n p.c]] w (Ck.TyPost w R) := by
  have HB3 := Lib.hid (below_n4 w (.cells #[.func (Fn.func rv.fr) #[] rv.cpt, .func (Fn.func rv.fa) #[] #[], .func (Fn.func rv.fm) #[] #[], .func (Fn.func rv.ft) #[] #[], rv.vg] 47) (.cells #[.int .i8 h.kind, .string h.name, .string h.arg, .int .i64 h.num, .int .i8 h.tk, .slice p.TA p.tn p.tc, .int .i8 h.uk, .slice p.UA p.un p.uc, .int .i64 h.label, .int .i64 h.pos, .slice p.A p.n p.c] 28) (.cells #[.int .i8 0, .slice none 0 0] 25) (.cells #[.nilIface] 30))
  obtain ⟨h0, h1, h2, h3⟩ := heap_n4 w (.cells #[.func (Fn.func rv.fr) #[] rv.cpt, .func (Fn.func rv.fa) #[] #[], .func (Fn.func rv.fm) #[] #[], .func (Fn.func rv.ft) #[] #[], rv.vg] 47) (.cells #[.int .i8 h.kind, .string h.name, .string h.arg, .int .i64 h.num, .int .i8 h.tk, .slice p.TA p.tn p.tc, .int .i8 h.uk, .slice p.UA p.un p.uc, .int .i64 h.label, .int .i64 h.pos, .slice p.A p.n p.c] 28) (.cells #[.int .i8 0, .slice none 0 0] 25) (.cells #[.nilIface] 30)
  have hcf := rv.cfr
  have HR := Lib.hid hRef
  have H0 := Lib.hid h0
  have H1 := Lib.hid h1
  have H2 := Lib.hid h2
  have H3 := Lib.hid h3
  have HRR := Lib.hid hR
  have HT := Lib.hid hT
  have HSH := Lib.hid hSh
  clear h0 h1 h2 h3 hRef hR hT hSh
  go_enter_defers Tryz.func13, Tryz.ntmps13
  go_upto_region 1 with fail
  generalize (((w.alloc (.cells #[.func (Fn.func rv.fr) #[] rv.cpt, .func (Fn.func rv.fa) #[] #[], .func (Fn.func rv.fm) #[] #[], .func (Fn.func rv.ft) #[] #[], rv.vg] 47)).alloc (.cells #[.int .i8 h.kind, .string h.name, .string h.arg, .int .i64 h.num, .int .i8 h.tk, .slice p.TA p.tn p.tc, .int .i8 h.uk, .slice p.UA p.un p.uc, .int .i64 h.label, .int .i64 h.pos, .slice p.A p.n p.c] 28)).alloc (.cells #[.int .i8 0, .slice none 0 0] 25)).alloc (.cells #[.nilIface] 30) = w1 at *
  obtain ⟨r0, r1, r2, r3, r4, -, -, -, -, -, rl⟩ := own5 H0.out
  obtain ⟨q0, q1, q2, q3, q4, q5, q6, q7, q8, q9, q10, ql⟩ := own11 H1.out
  go_wp2_with fail
  refine (HR.out _ HB3.out).mono ?_
  rintro e w2 ⟨rfl, hb2⟩
  have HB4 := Lib.hid (HB3.out.trans (hb2.mono HB3.out.size))
  have Z0 := Lib.hid (heap_below hb2 (heap_lt H0.out) H0.out)
  have Z1 := Lib.hid (heap_below hb2 (heap_lt H1.out) H1.out)
  have Z2 := Lib.hid (heap_below hb2 (heap_lt H2.out) H2.out)
  have Z3 := Lib.hid (heap_below hb2 (heap_lt H3.out) H3.out)
  clear hb2 r0 r1 r2 r3 r4 rl q0 q1 q2 q3 q4 q5 q6 q7 q8 q9 q10 ql H0 H1 H2 H3
  obtain ⟨r0, r1, r2, r3, r4, -, -, -, -, -, rl⟩ := own5 Z0.out
  obtain ⟨q0, q1, q2, q3, q4, q5, q6, q7, q8, q9, q10, ql⟩ := own11 Z1.out
  go_wp2_with fail
  refine (HT.out _ HB4.out).mono ?_
  rintro e w4 hp
  have hl3 := heap_lt Z3.out
  cases R with
  | bad E pp x =>
    obtain ⟨g, rfl, hf, hgl, hb5⟩ := hp
    have HB5 := Lib.hid (HB4.out.trans (hb5.mono HB4.out.size))
    have hz1 := heap_below hb5 (heap_lt Z2.out) Z2.out
    have hz2 := heap_below hb5 (heap_lt Z3.out) Z3.out
    obtain ⟨x0, x1, f0, f1, xl⟩ := own2 hz1
    obtain ⟨y0, f2, yl⟩ := own1 hz2
    have z1 := set_one_ne (set_two hz1 (.int .i8 0) (.slice none 0 0)) (show w.heap.size + 1 + 1 + 1 ≠ w.heap.size + 1 + 1 by omega) (.iface 52 (.pointer (some ⟨g, 0, none⟩)))
    have z2 := set_one (set_two_ne hz2 (show w.heap.size + 1 + 1 ≠ w.heap.size + 1 + 1 + 1 by omega) (.int .i8 0) (.slice none 0 0)) (.iface 52 (.pointer (some ⟨g, 0, none⟩)))
    have HB9 := Lib.hid (below_set1 (below_set2 HB5.out (show w.heap.size ≤ w.heap.size + 1 + 1 by omega) (.int .i8 0) (.slice none 0 0)) (show w.heap.size ≤ w.heap.size + 1 + 1 + 1 by omega) (.iface 52 (.pointer (some ⟨g, 0, none⟩))))
    have hff := Lib.hid (set_one_ne (set_two_ne hf (show w.heap.size + 1 + 1 ≠ g by omega) (.int .i8 0) (.slice none 0 0)) (show w.heap.size + 1 + 1 + 1 ≠ g by omega) (.iface 52 (.pointer (some ⟨g, 0, none⟩))))
    have hgw : w.heap.size ≤ g := by omega
    clear r0 r1 r2 r3 r4 rl q0 q1 q2 q3 q4 q5 q6 q7 q8 q9 q10 ql hz1 hz2 hf hgl hb5 Z0 Z1 Z2 Z3
    go_wp2_with fail
    refine leaves_cons (f := 26) (args := #[.pointer (some ⟨w.heap.size + 1 + 1, 0, none⟩), .pointer (some ⟨w.heap.size + 1 + 1 + 1, 0, none⟩)]) (by simp) (by simp [go_sem]) ?_
    refine (ckcatch_fault _ _ _ _ _ _ _ x0 x1 y0 (by omega) f0 f1 f2).mono ?_
    rintro e u' w6 ⟨rfl, rfl, rfl⟩
    generalize (((w4.setCell ⟨w.heap.size + 1 + 1, 0, none⟩ (.int .i8 0)).setCell ⟨w.heap.size + 1 + 1, 1, none⟩ (.slice none 0 0)).setCell ⟨w.heap.size + 1 + 1 + 1, 0, none⟩ (.iface 52 (.pointer (some ⟨g, 0, none⟩)))) = w6 at *
    obtain ⟨k0, k1, -, -, -⟩ := own2 z1
    obtain ⟨k2, -, -⟩ := own1 z2
    exact ⟨.tuple #[.agg #[.int .i8 0, .slice none 0 0], (.iface 52 (.pointer (some ⟨g, 0, none⟩)))], by simp [results, Tryz.results13, go_sem, k0, k1, k2], g, rfl, hff.out, hgw, HB9.out⟩
  | ok a =>
    obtain ⟨G, m, cg, rfl, hL, hb5⟩ := hp
    have hca := HRR.out a rfl
    have HB5 := Lib.hid (HB4.out.trans (hb5.mono HB4.out.size))
    have Z2 := Lib.hid (heap_below hb5 (heap_lt Z2.out) Z2.out)
    have Z3 := Lib.hid (heap_below hb5 (heap_lt Z3.out) Z3.out)
    have CM := Lib.hid (ccopyL_any a.1 a.2 G m cg w4 hL.is (HSH.out.below HB5.out) hca)
    have hl4 := heap_lt Z3.out
    clear r0 r1 r2 r3 r4 rl q0 q1 q2 q3 q4 q5 q6 q7 q8 q9 q10 ql hL hb5 Z0 Z1 hca
    go_wp2_with fail
    refine CM.out.mono ?_
    rintro e w5 ⟨G2, m2, c2, rfl, hL2, hb6⟩
    have HB6 := Lib.hid (HB5.out.trans (hb6.mono HB5.out.size))
    have Z2 := Lib.hid (heap_below hb6 (heap_lt Z2.out) Z2.out)
    have Z3 := Lib.hid (heap_below hb6 (heap_lt Z3.out) Z3.out)
    obtain ⟨x0, x1, f0, f1, xl⟩ := own2 Z2.out
    obtain ⟨y0, f2, yl⟩ := own1 Z3.out
    have HN := Lib.hid (fun (b : Nat) (hq : w4.heap.size ≤ b) => (show b ≠ w.heap.size + 1 + 1 ∧ b ≠ w.heap.size + 1 + 1 + 1 ∧ w.heap.size ≤ b by omega))
    have HL2 := Lib.hid (show Ck.Ly (fun b => w4.heap.size ≤ b) w5 a G2 m2 c2 from hL2)
    have z1 := set_one_ne (set_two Z2.out (.int .i8 a.1) (.slice G2 m2 c2)) (show w.heap.size + 1 + 1 + 1 ≠ w.heap.size + 1 + 1 by omega) .nilIface
    have z2 := set_one (set_two_ne Z3.out (show w.heap.size + 1 + 1 ≠ w.heap.size + 1 + 1 + 1 by omega) (.int .i8 a.1) (.slice G2 m2 c2)) .nilIface
    have HB9 := Lib.hid (below_set1 (below_set2 HB6.out (show w.heap.size ≤ w.heap.size + 1 + 1 by omega) (.int .i8 a.1) (.slice G2 m2 c2)) (show w.heap.size ≤ w.heap.size + 1 + 1 + 1 by omega) .nilIface)
    have HL8 := Lib.hid ((HL2.out.set2 (fun b hq => (HN.out b hq).1) (.int .i8 a.1) (.slice G2 m2 c2)).set (fun b hq => (HN.out b hq).2.1) 0 .nilIface)
    clear hL2 hb6
    go_wp2_with fail
    generalize ((w5.setCell ⟨w.heap.size + 1 + 1, 0, none⟩ (.int .i8 a.1)).setCell ⟨w.heap.size + 1 + 1, 1, none⟩ (.slice G2 m2 c2)).setCell ⟨w.heap.size + 1 + 1 + 1, 0, none⟩ .nilIface = w9 at *
    obtain ⟨k0, k1, -, -, -⟩ := own2 z1
    obtain ⟨k2, -, -⟩ := own1 z2
    refine leaves_cons (f := 26) (args := #[.pointer (some ⟨w.heap.size + 1 + 1, 0, none⟩), .pointer (some ⟨w.heap.size + 1 + 1 + 1, 0, none⟩)]) (by simp) (by simp [go_sem]) ?_
    refine (ckcatch_none _ _ _).mono ?_
    rintro e u' w10 ⟨rfl, rfl, rfl⟩
    exact ⟨.tuple #[.agg #[.int .i8 a.1, .slice G2 m2 c2], .nilIface], by simp [results, Tryz.results13, go_sem, k0, k1, k2], G2, m2, c2, rfl, HL8.out.weak (fun b _ hq => (HN.out b hq).2.2), HB9.out⟩
end Go.Proofs.YtknhoagicdfikaaGreatDoor
