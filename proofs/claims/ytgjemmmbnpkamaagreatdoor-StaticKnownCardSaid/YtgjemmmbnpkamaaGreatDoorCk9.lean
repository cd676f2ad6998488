import Derived.Test.YtgjemmmbnpkamaaGreatDoorDd11
import Derived.Test.YtgjemmmbnpkamaaGreatDoorM28
namespace Go.Proofs.YtgjemmmbnpkamaaGreatDoor
set_option maxHeartbeats 8000000
set_option maxRecDepth 100000
open Go.RowKit
theorem wR {u : World} {X : Nat} {x0 : Value} {t : TypeId} (h : u.heap[X]? = some (.cells #[x0] t (0, 0))) (a : Value) : (u.setCell ⟨X, 0, none⟩ a).heap[X]? = some (.cells #[a] t (0, 0)) := by
  simp [World.setCell, Array.getElem?_modify, h]
theorem jF {u : World} {X Y : Nat} {o : Obj} (h : u.heap[Y]? = some o) (hne : X ≠ Y) (a : Value) : (u.setCell ⟨X, 0, none⟩ a).heap[Y]? = some o := by
  simp [World.setCell, Array.getElem?_modify, h, hne]
theorem vR {N X : Nat} {w u : World} (h : Below N w u) (hX : N ≤ X) (a : Value) : Below N w (u.setCell ⟨X, 0, none⟩ a) := h.setCell (p := ⟨X, 0, none⟩) hX _
namespace Ck
def TyPost (w : World) (r : R) (e : Ending) (w' : World) : Prop := match r with
  | .ok a => ∃ G m c, e = .returned (.tuple #[.agg #[.int .i8 a.1, .slice G m c], .nilIface]) ∧ Ly (fun b => w.heap.size ≤ b) w' a G m c ∧ Below w.heap.size w w'
  | .bad E p x => ∃ g, e = .returned (.tuple #[.agg #[.int .i8 0, .slice none 0 0], .iface 49 (.pointer (some ⟨g, 0, none⟩))]) ∧ FltAt w' g E p x ∧ w.heap.size ≤ g ∧ Below w.heap.size w w'
end Ck
theorem xP (rv : Cg.Rv) (h : Hd) (p : Pl) (w : World) (x : Int × Int) (hRef : ∀ W : World, Below w.heap.size w W → Calls Tryz.prog rv.fr (#[.agg (tC_ h p)] ++ rv.cpt) W (Cg.RefPost W (some x))) :
    Calls Tryz.prog 13 #[.agg (rF_ rv), .agg (tC_ h p)] w (Ck.TyPost w (.bad x.1 x.2 Ck.e0)) := by
  try unfold tC_
  try unfold rF_
  have HB3 := k0_ (jl w (.cells (rF_ rv) 56) (.cells (tC_ h p) 28) (.cells #[.int .i8 0, .slice none 0 0] 25) (.cells #[.nilIface] 30))
  obtain ⟨h0, h1, h2, h3⟩ := vZ w (.cells (rF_ rv) 56) (.cells (tC_ h p) 28) (.cells #[.int .i8 0, .slice none 0 0] 25) (.cells #[.nilIface] 30)
  have hcf := rv.cfr
  have HR := k0_ hRef
  have H0 := k0_ h0
  have H1 := k0_ h1
  have H2 := k0_ h2
  have H3 := k0_ h3
  clear h0 h1 h2 h3 hRef
  go_enter_defers Tryz.func13, Tryz.ntmps13
  go_upto_region 1 with fail
  generalize (((w.alloc (.cells (rF_ rv) 56)).alloc (.cells (tC_ h p) 28)).alloc (.cells #[.int .i8 0, .slice none 0 0] 25)).alloc (.cells #[.nilIface] 30) = w1 at *
  obtain ⟨r0, r1, r2, r3, r4, -, -, -, -, -, rl⟩ := jI H0.out
  obtain ⟨q0, q1, q2, q3, q4, q5, q6, q7, q8, q9, q10, ql⟩ := zN H1.out
  go_wp2_with fail
  refine (HR.out _ HB3.out).mono ?_
  rintro e w2 ⟨g, rfl, hf, hgl, hb2⟩
  have HB2 := kt_ HB3 hb2
  have hz1 := zC hb2 (zD H2.out) H2.out
  have hz2 := zC hb2 (zD H3.out) H3.out
  have hlt := zD H3.out
  obtain ⟨x0, x1, f0, f1, xl⟩ := zM hz1
  obtain ⟨y0, f2, yl⟩ := qR hz2
  have z1 := jF (zT hz1 (.int .i8 0) (.slice none 0 0)) (show w.heap.size + 1 + 1 + 1 ≠ w.heap.size + 1 + 1 by omega) (.iface 49 (.pointer (some ⟨g, 0, none⟩)))
  have z2 := wR (zi hz2 (show w.heap.size + 1 + 1 ≠ w.heap.size + 1 + 1 + 1 by omega) (.int .i8 0) (.slice none 0 0)) (.iface 49 (.pointer (some ⟨g, 0, none⟩)))
  have HB9 := k0_ (vR (zL HB2.out (show w.heap.size ≤ w.heap.size + 1 + 1 by omega) (.int .i8 0) (.slice none 0 0)) (show w.heap.size ≤ w.heap.size + 1 + 1 + 1 by omega) (.iface 49 (.pointer (some ⟨g, 0, none⟩))))
  have hff := k0_ (jF (zi hf (show w.heap.size + 1 + 1 ≠ g by omega) (.int .i8 0) (.slice none 0 0)) (show w.heap.size + 1 + 1 + 1 ≠ g by omega) (.iface 49 (.pointer (some ⟨g, 0, none⟩))))
  have hgw : w.heap.size ≤ g := by omega
  clear hb2 r0 r1 r2 r3 r4 rl q0 q1 q2 q3 q4 q5 q6 q7 q8 q9 q10 ql hz1 hz2 hf hgl hlt
  go_wp2_with fail
  generalize (((w2.setCell ⟨w.heap.size + 1 + 1, 0, none⟩ (.int .i8 0)).setCell ⟨w.heap.size + 1 + 1, 1, none⟩ (.slice none 0 0)).setCell ⟨w.heap.size + 1 + 1 + 1, 0, none⟩ (.iface 49 (.pointer (some ⟨g, 0, none⟩)))) = w9 at *
  exact zHB
theorem zAk (rv : Cg.Rv) (h : Hd) (p : Pl) (w : World) (R : Ck.R) (hSh : Shapes w) (hRef : ∀ W : World, Below w.heap.size w W → Calls Tryz.prog rv.fr (#[.agg (tC_ h p)] ++ rv.cpt) W (Cg.RefPost W none)) (hR : ∀ a, R = .ok a → Ck.chk a = 0)
    (hT : ∀ W : World, Below w.heap.size w W → Calls Tryz.prog 31 #[.agg (rF_ rv), .agg (tC_ h p), .slice none 0 0] W (Ck.Post (fun b => b < w.heap.size) W R)) :
    Calls Tryz.prog 13 #[.agg (rF_ rv), .agg (tC_ h p)] w (Ck.TyPost w R) := by
  try unfold tC_
  try unfold rF_
  have HB3 := k0_ (jl w (.cells (rF_ rv) 56) (.cells (tC_ h p) 28) (.cells #[.int .i8 0, .slice none 0 0] 25) (.cells #[.nilIface] 30))
  obtain ⟨h0, h1, h2, h3⟩ := vZ w (.cells (rF_ rv) 56) (.cells (tC_ h p) 28) (.cells #[.int .i8 0, .slice none 0 0] 25) (.cells #[.nilIface] 30)
  have hcf := rv.cfr
  have HR := k0_ hRef
  have H0 := k0_ h0
  have H1 := k0_ h1
  have H2 := k0_ h2
  have H3 := k0_ h3
  have HRR := k0_ hR
  have HT := k0_ hT
  have HSH := k0_ hSh
  clear h0 h1 h2 h3 hRef hR hT hSh
  go_enter_defers Tryz.func13, Tryz.ntmps13
  go_upto_region 1 with fail
  generalize (((w.alloc (.cells (rF_ rv) 56)).alloc (.cells (tC_ h p) 28)).alloc (.cells #[.int .i8 0, .slice none 0 0] 25)).alloc (.cells #[.nilIface] 30) = w1 at *
  obtain ⟨r0, r1, r2, r3, r4, -, -, -, -, -, rl⟩ := jI H0.out
  obtain ⟨q0, q1, q2, q3, q4, q5, q6, q7, q8, q9, q10, ql⟩ := zN H1.out
  go_wp2_with fail
  refine (HR.out _ HB3.out).mono ?_
  rintro e w2 ⟨rfl, hb2⟩
  have HB4 := kt_ HB3 hb2
  have Z0 := kp_ hb2 H0
  have Z1 := kp_ hb2 H1
  have Z2 := kp_ hb2 H2
  have Z3 := kp_ hb2 H3
  clear hb2 r0 r1 r2 r3 r4 rl q0 q1 q2 q3 q4 q5 q6 q7 q8 q9 q10 ql H0 H1 H2 H3
  obtain ⟨r0, r1, r2, r3, r4, -, -, -, -, -, rl⟩ := jI Z0.out
  obtain ⟨q0, q1, q2, q3, q4, q5, q6, q7, q8, q9, q10, ql⟩ := zN Z1.out
  go_wp2_with fail
  refine (HT.out _ HB4.out).mono ?_
  rintro e w4 hp
  have hl3 := zD Z3.out
  cases R with
  | bad E pp x =>
    obtain ⟨g, rfl, hf, hgl, hb5⟩ := hp
    have HB5 := kt_ HB4 hb5
    have hz1 := zC hb5 (zD Z2.out) Z2.out
    have hz2 := zC hb5 (zD Z3.out) Z3.out
    obtain ⟨x0, x1, f0, f1, xl⟩ := zM hz1
    obtain ⟨y0, f2, yl⟩ := qR hz2
    have z1 := jF (zT hz1 (.int .i8 0) (.slice none 0 0)) (show w.heap.size + 1 + 1 + 1 ≠ w.heap.size + 1 + 1 by omega) (.iface 49 (.pointer (some ⟨g, 0, none⟩)))
    have z2 := wR (zi hz2 (show w.heap.size + 1 + 1 ≠ w.heap.size + 1 + 1 + 1 by omega) (.int .i8 0) (.slice none 0 0)) (.iface 49 (.pointer (some ⟨g, 0, none⟩)))
    have HB9 := k0_ (vR (zL HB5.out (show w.heap.size ≤ w.heap.size + 1 + 1 by omega) (.int .i8 0) (.slice none 0 0)) (show w.heap.size ≤ w.heap.size + 1 + 1 + 1 by omega) (.iface 49 (.pointer (some ⟨g, 0, none⟩))))
    have hff := k0_ (jF (zi hf (show w.heap.size + 1 + 1 ≠ g by omega) (.int .i8 0) (.slice none 0 0)) (show w.heap.size + 1 + 1 + 1 ≠ g by omega) (.iface 49 (.pointer (some ⟨g, 0, none⟩))))
    have hgw : w.heap.size ≤ g := by omega
    clear r0 r1 r2 r3 r4 rl q0 q1 q2 q3 q4 q5 q6 q7 q8 q9 q10 ql hz1 hz2 hf hgl hb5 Z0 Z1 Z2 Z3
    go_wp2_with fail
    refine leaves_cons (f := 29) (args := #[.pointer (some ⟨w.heap.size + 1 + 1, 0, none⟩), .pointer (some ⟨w.heap.size + 1 + 1 + 1, 0, none⟩)]) (by simp) (by simp [go_sem]) ?_
    refine (xS _ _ _ _ _ _ _ x0 x1 y0 (by omega) f0 f1 f2).mono ?_
    rintro e u' w6 ⟨rfl, rfl, rfl⟩
    generalize (((w4.setCell ⟨w.heap.size + 1 + 1, 0, none⟩ (.int .i8 0)).setCell ⟨w.heap.size + 1 + 1, 1, none⟩ (.slice none 0 0)).setCell ⟨w.heap.size + 1 + 1 + 1, 0, none⟩ (.iface 49 (.pointer (some ⟨g, 0, none⟩)))) = w6 at *
    exact zHB
  | ok a =>
    obtain ⟨G, m, cg, rfl, hL, hb5⟩ := hp
    have hca := HRR.out a rfl
    have HB5 := kt_ HB4 hb5
    have Z2 := kp_ hb5 Z2
    have Z3 := kp_ hb5 Z3
    have CM := k0_ (zBS a.1 a.2 G m cg w4 hL.is (HSH.out.below HB5.out) hca)
    have hl4 := zD Z3.out
    clear r0 r1 r2 r3 r4 rl q0 q1 q2 q3 q4 q5 q6 q7 q8 q9 q10 ql hL hb5 Z0 Z1 hca
    go_wp2_with fail
    refine CM.out.mono ?_
    rintro e w5 ⟨G2, m2, c2, rfl, hL2, hb6⟩
    have HB6 := kt_ HB5 hb6
    have Z2 := kp_ hb6 Z2
    have Z3 := kp_ hb6 Z3
    obtain ⟨x0, x1, f0, f1, xl⟩ := zM Z2.out
    obtain ⟨y0, f2, yl⟩ := qR Z3.out
    have HN := k0_ (fun (b : Nat) (hq : w4.heap.size ≤ b) => (show b ≠ w.heap.size + 1 + 1 ∧ b ≠ w.heap.size + 1 + 1 + 1 ∧ w.heap.size ≤ b by omega))
    have HL2 := k0_ (show Ck.Ly (fun b => w4.heap.size ≤ b) w5 a G2 m2 c2 from hL2)
    have z1 := jF (zT Z2.out (.int .i8 a.1) (.slice G2 m2 c2)) (show w.heap.size + 1 + 1 + 1 ≠ w.heap.size + 1 + 1 by omega) .nilIface
    have z2 := wR (zi Z3.out (show w.heap.size + 1 + 1 ≠ w.heap.size + 1 + 1 + 1 by omega) (.int .i8 a.1) (.slice G2 m2 c2)) .nilIface
    have HB9 := k0_ (vR (zL HB6.out (show w.heap.size ≤ w.heap.size + 1 + 1 by omega) (.int .i8 a.1) (.slice G2 m2 c2)) (show w.heap.size ≤ w.heap.size + 1 + 1 + 1 by omega) .nilIface)
    have HL8 := k0_ ((HL2.out.set2 (fun b hq => (HN.out b hq).1) (.int .i8 a.1) (.slice G2 m2 c2)).set (fun b hq => (HN.out b hq).2.1) 0 .nilIface)
    clear hL2 hb6
    go_wp2_with fail
    generalize ((w5.setCell ⟨w.heap.size + 1 + 1, 0, none⟩ (.int .i8 a.1)).setCell ⟨w.heap.size + 1 + 1, 1, none⟩ (.slice G2 m2 c2)).setCell ⟨w.heap.size + 1 + 1 + 1, 0, none⟩ .nilIface = w9 at *
    obtain ⟨k0, k1, -, -, -⟩ := zM z1
    obtain ⟨k2, -, -⟩ := qR z2
    refine leaves_cons (f := 29) (args := #[.pointer (some ⟨w.heap.size + 1 + 1, 0, none⟩), .pointer (some ⟨w.heap.size + 1 + 1 + 1, 0, none⟩)]) (by simp) (by simp [go_sem]) ?_
    refine (uL _ _ _).mono ?_
    rintro e u' w10 ⟨rfl, rfl, rfl⟩
    exact ⟨.tuple #[.agg #[.int .i8 a.1, .slice G2 m2 c2], .nilIface], by simp [results, Tryz.results13, go_sem, k0, k1, k2], G2, m2, c2, rfl, HL8.out.weak (fun b _ hq => (HN.out b hq).2.2), HB9.out⟩
end Go.Proofs.YtgjemmmbnpkamaaGreatDoor
