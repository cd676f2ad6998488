/-
  Layer 9: check.Type, given what its rules tell.
-/
import Derived.Test.YtadkiikoiajceaaGreatDoorM19
import Derived.Test.YtadkiikoiajceaaGreatDoorM14
import Derived.Laws.EntriesVeiled
namespace Go.Proofs.YtadkiikoiajceaaGreatDoor
open Go.RowKit
theorem set_one {u : World} {X : Nat} {x0 : Value} {t : TypeId} (h : u.heap[X]? = some (.cells #[x0] t (0, 0))) (a : Value) : (u.setCell ⟨X, 0, none⟩ a).heap[X]? = some (.cells #[a] t (0, 0)) := by
  simp [World.setCell, Array.getElem?_modify, h]
theorem set_one_ne {u : World} {X Y : Nat} {o : Obj} (h : u.heap[Y]? = some o) (hne : X ≠ Y) (a : Value) : (u.setCell ⟨X, 0, none⟩ a).heap[Y]? = some o := by
  simp [World.setCell, Array.getElem?_modify, h, hne]
theorem below_set1 {N X : Nat} {w u : World} (h : Below N w u) (hX : N ≤ X) (a : Value) : Below N w (u.setCell ⟨X, 0, none⟩ a) := h.setCell (p := ⟨X, 0, none⟩) hX _
namespace Ck
/-- what Type leaves -/
def TyPost (w : World) (r : R) (e : Ending) (w' : World) : Prop := match r with
  | .ok a => ∃ G m c, e = .returned (.tuple #[.agg #[.int .i8 a.1, .slice G m c], .nilIface]) ∧ Ly (fun b => w.heap.size ≤ b) w' a G m c ∧ Below w.heap.size w w'
  | .bad E p x => ∃ g, e = .returned (.tuple #[.agg #[.int .i8 0, .slice none 0 0], .iface 48 (.pointer (some ⟨g, 0, none⟩))]) ∧ FltAt w' g E p x ∧ w.heap.size ≤ g ∧ Below w.heap.size w w'
end Ck
set_option maxHeartbeats 4000000 in
set_option maxRecDepth 100000 in
/-- a term that is refused -/
theorem cktype_refused (h : Hd) (kids : Tm) (p : Pl) (w : World) (hIs : Tm.Is w h kids p) (hG : TGlob w) (hr : Ck.refu h kids ≠ 0) :
    Calls Tryz.prog 6 #[.agg #[.int .i8 h.kind, .string h.name, .string h.arg, .int .i64 h.num, .int .i8 h.tk, .slice p.TA p.tn p.tc, .int .i8 h.uk, .slice p.UA p.un p.uc, .int .i64 h.label, .int .i64 h.pos, .slice p.A p.n p.c]] w (Ck.TyPost w (.bad (Ck.refu h kids) 0 Ck.e0)) := by
  have HB3 := Lib.hid (below_n3 w (.cells #[.int .i8 h.kind, .string h.name, .string h.arg, .int .i64 h.num, .int .i8 h.tk, .slice p.TA p.tn p.tc, .int .i8 h.uk, .slice p.UA p.un p.uc, .int .i64 h.label, .int .i64 h.pos, .slice p.A p.n p.c] 28) (.cells #[.int .i8 0, .slice none 0 0] 25) (.cells #[.nilIface] 30))
  obtain ⟨h0, h1, h2⟩ := heap_n3 w (.cells #[.int .i8 h.kind, .string h.name, .string h.arg, .int .i64 h.num, .int .i8 h.tk, .slice p.TA p.tn p.tc, .int .i8 h.uk, .slice p.UA p.un p.uc, .int .i64 h.label, .int .i64 h.pos, .slice p.A p.n p.c] 28) (.cells #[.int .i8 0, .slice none 0 0] 25) (.cells #[.nilIface] 30)
  have HR := Lib.hid (fun (W : World) (hb : Below w.heap.size w W) => ckrefusal_any h kids p W (hIs.below hb) (hG.below hb))
  have H0 := Lib.hid h0
  have H1 := Lib.hid h1
  have H2 := Lib.hid h2
  clear hIs hG h0 h1 h2
  generalize Ck.refu h kids = C at *
  have hcn : (C != 0) = true := by simpa using hr
  go_enter_defers Tryz.func6, Tryz.ntmps6
  go_upto_region 1 with fail
  generalize ((w.alloc (.cells #[.int .i8 h.kind, .string h.name, .string h.arg, .int .i64 h.num, .int .i8 h.tk, .slice p.TA p.tn p.tc, .int .i8 h.uk, .slice p.UA p.un p.uc, .int .i64 h.label, .int .i64 h.pos, .slice p.A p.n p.c] 28)).alloc (.cells #[.int .i8 0, .slice none 0 0] 25)).alloc (.cells #[.nilIface] 30) = w1 at *
  obtain ⟨q0, q1, q2, q3, q4, q5, q6, q7, q8, q9, q10, ql⟩ := own11 H0.out
  go_wp2_with fail
  refine (HR.out _ HB3.out).mono ?_
  rintro e w2 ⟨rfl, hb2⟩
  have HB2 := Lib.hid (HB3.out.trans (hb2.mono HB3.out.size))
  obtain ⟨x0, x1, f0, f1, xl⟩ := own2 (heap_below hb2 (heap_lt H1.out) H1.out)
  obtain ⟨y0, f2, yl⟩ := own1 (heap_below hb2 (heap_lt H2.out) H2.out)
  have hz1 := heap_below hb2 (heap_lt H1.out) H1.out
  have hz2 := heap_below hb2 (heap_lt H2.out) H2.out
  have z1 := set_one_ne (set_two hz1 (.int .i8 0) (.slice none 0 0)) (show w.heap.size + 1 + 1 ≠ w.heap.size + 1 by omega) (.iface 48 (.pointer (some ⟨w2.heap.size, 0, none⟩)))
  have z2 := set_one (set_two_ne hz2 (show w.heap.size + 1 ≠ w.heap.size + 1 + 1 by omega) (.int .i8 0) (.slice none 0 0)) (.iface 48 (.pointer (some ⟨w2.heap.size, 0, none⟩)))
  have hs2 := HB2.out.size
  have HB9 := Lib.hid ((below_set1 (below_set2 HB2.out (show w.heap.size ≤ w.heap.size + 1 by omega) (.int .i8 0) (.slice none 0 0)) (show w.heap.size ≤ w.heap.size + 1 + 1 by omega) (.iface 48 (.pointer (some ⟨w2.heap.size, 0, none⟩)))).alloc (by simpa using hs2) (.cells #[.int .i64 C, .int .i64 0, .string ⟨#[]⟩] 50))
  have hf := heap_new (((w2.setCell ⟨w.heap.size + 1, 0, none⟩ (.int .i8 0)).setCell ⟨w.heap.size + 1, 1, none⟩ (.slice none 0 0)).setCell ⟨w.heap.size + 1 + 1, 0, none⟩ (.iface 48 (.pointer (some ⟨w2.heap.size, 0, none⟩)))) (.cells #[.int .i64 C, .int .i64 0, .string ⟨#[]⟩] 50)
  have hzz : (((w2.setCell ⟨w.heap.size + 1, 0, none⟩ (.int .i8 0)).setCell ⟨w.heap.size + 1, 1, none⟩ (.slice none 0 0)).setCell ⟨w.heap.size + 1 + 1, 0, none⟩ (.iface 48 (.pointer (some ⟨w2.heap.size, 0, none⟩)))).heap.size = w2.heap.size := by simp
  rw [hzz] at hf
  have HF := Lib.hid hf
  have Z1 := Lib.hid (heap_old z1 (.cells #[.int .i64 C, .int .i64 0, .string ⟨#[]⟩] 50))
  have Z2 := Lib.hid (heap_old z2 (.cells #[.int .i64 C, .int .i64 0, .string ⟨#[]⟩] 50))
  clear hb2 q0 q1 q2 q3 q4 q5 q6 q7 q8 q9 q10 ql hr hz1 hz2 z1 z2 hf hzz
  go_wp2_with fail
  generalize ((((w2.setCell ⟨w.heap.size + 1, 0, none⟩ (.int .i8 0)).setCell ⟨w.heap.size + 1, 1, none⟩ (.slice none 0 0)).setCell ⟨w.heap.size + 1 + 1, 0, none⟩ (.iface 48 (.pointer (some ⟨w2.heap.size, 0, none⟩)))).alloc (.cells #[.int .i64 C, .int .i64 0, .string ⟨#[]⟩] 50)) = w9 at *
  obtain ⟨k0, k1, -, -, -⟩ := own2 Z1.out
  obtain ⟨k2, -, -⟩ := own1 Z2.out
  exact ⟨.tuple #[.agg #[.int .i8 0, .slice none 0 0], .iface 48 (.pointer (some ⟨w2.heap.size, 0, none⟩))], by simp [results, Tryz.results6, go_sem, k0, k1, k2], _, rfl, HF.out, hs2, HB9.out⟩

set_option maxHeartbeats 4000000 in
set_option maxRecDepth 100000 in
/-- a term that the rules speak of: R is what they tell -/
theorem cktype_told (h : Hd) (kids : Tm) (p : Pl) (w : World) (R : Ck.R) (hIs : Tm.Is w h kids p) (hG : TGlob w) (hr : Ck.refu h kids = 0) (hR : ∀ a, R = .ok a → Ck.chk a = 0)
    (hT : ∀ W : World, Below w.heap.size w W → Calls Tryz.prog 19 #[.agg #[.func (Fn.func 16) #[] #[], .func (Fn.func 17) #[] #[]], .agg #[.int .i8 h.kind, .string h.name, .string h.arg, .int .i64 h.num, .int .i8 h.tk, .slice p.TA p.tn p.tc, .int .i8 h.uk, .slice p.UA p.un p.uc, .int .i64 h.label, .int .i64 h.pos, .slice p.A p.n p.c], .slice none 0 0] W (Ck.Post (fun b => b < w.heap.size) W R)) :
    Calls Tryz.prog 6 #[.agg #[.int .i8 h.kind, .string h.name, .string h.arg, .int .i64 h.num, .int .i8 h.tk, .slice p.TA p.tn p.tc, .int .i8 h.uk, .slice p.UA p.un p.uc, .int .i64 h.label, .int .i64 h.pos, .slice p.A p.n p.c]] w (Ck.TyPost w R) := by
  have HB3 := Lib.hid (below_n3 w (.cells #[.int .i8 h.kind, .string h.name, .string h.arg, .int .i64 h.num, .int .i8 h.tk, .slice p.TA p.tn p.tc, .int .i8 h.uk, .slice p.UA p.un p.uc, .int .i64 h.label, .int .i64 h.pos, .slice p.A p.n p.c] 28) (.cells #[.int .i8 0, .slice none 0 0] 25) (.cells #[.nilIface] 30))
  obtain ⟨h0, h1, h2⟩ := heap_n3 w (.cells #[.int .i8 h.kind, .string h.name, .string h.arg, .int .i64 h.num, .int .i8 h.tk, .slice p.TA p.tn p.tc, .int .i8 h.uk, .slice p.UA p.un p.uc, .int .i64 h.label, .int .i64 h.pos, .slice p.A p.n p.c] 28) (.cells #[.int .i8 0, .slice none 0 0] 25) (.cells #[.nilIface] 30)
  have HRF := Lib.hid (fun (W : World) (hb : Below w.heap.size w W) => ckrefusal_any h kids p W (hIs.below hb) (hG.below hb))
  rw [hr] at HRF
  have H0 := Lib.hid h0
  have H1 := Lib.hid h1
  have H2 := Lib.hid h2
  have HG := Lib.hid hG
  have HRR := Lib.hid hR
  have HT := Lib.hid hT
  clear hIs hG h0 h1 h2 hr hR hT
  go_enter_defers Tryz.func6, Tryz.ntmps6
  go_upto_region 1 with fail
  generalize ((w.alloc (.cells #[.int .i8 h.kind, .string h.name, .string h.arg, .int .i64 h.num, .int .i8 h.tk, .slice p.TA p.tn p.tc, .int .i8 h.uk, .slice p.UA p.un p.uc, .int .i64 h.label, .int .i64 h.pos, .slice p.A p.n p.c] 28)).alloc (.cells #[.int .i8 0, .slice none 0 0] 25)).alloc (.cells #[.nilIface] 30) = w1 at *
  obtain ⟨q0, q1, q2, q3, q4, q5, q6, q7, q8, q9, q10, ql⟩ := own11 H0.out
  go_wp2_with fail
  refine (HRF.out _ HB3.out).mono ?_
  rintro e w2 ⟨rfl, hb2⟩
  have HB2 := Lib.hid (HB3.out.trans (hb2.mono HB3.out.size))
  have Z0 := Lib.hid (heap_below hb2 (heap_lt H0.out) H0.out)
  have Z1 := Lib.hid (heap_below hb2 (heap_lt H1.out) H1.out)
  have Z2 := Lib.hid (heap_below hb2 (heap_lt H2.out) H2.out)
  clear hb2 q0 q1 q2 q3 q4 q5 q6 q7 q8 q9 q10 ql H0 H1 H2
  go_upto_region 6 with fail
  have hb3 := below_n1 w2 (.cells #[.func (Fn.func 16) #[] #[], .func (Fn.func 17) #[] #[]] 54)
  have HB4 := Lib.hid (HB2.out.trans (hb3.mono HB2.out.size))
  have Z0 := Lib.hid (heap_below hb3 (heap_lt Z0.out) Z0.out)
  have Z1 := Lib.hid (heap_below hb3 (heap_lt Z1.out) Z1.out)
  have Z2 := Lib.hid (heap_below hb3 (heap_lt Z2.out) Z2.out)
  have ZR := Lib.hid (heap_new w2 (.cells #[.func (Fn.func 16) #[] #[], .func (Fn.func 17) #[] #[]] 54))
  clear hb3
  generalize hw3 : w2.alloc (.cells #[.func (Fn.func 16) #[] #[], .func (Fn.func 17) #[] #[]] 54) = w3 at *
  clear hw3
  generalize w2.heap.size = S2 at *
  obtain ⟨q0, q1, q2, q3, q4, q5, q6, q7, q8, q9, q10, ql⟩ := own11 Z0.out
  obtain ⟨r0, r1, -, -, rl⟩ := own2 ZR.out
  go_wp2_with fail
  refine (HT.out _ HB4.out).mono ?_
  rintro e w4 hp
  cases R with
  | bad E pp x =>
    obtain ⟨g, rfl, hf, hgl, hb5⟩ := hp
    have hl3 := heap_lt Z2.out
    have HB5 := Lib.hid (HB4.out.trans (hb5.mono HB4.out.size))
    have hz1 := heap_below hb5 (heap_lt Z1.out) Z1.out
    have hz2 := heap_below hb5 (heap_lt Z2.out) Z2.out
    obtain ⟨x0, x1, f0, f1, xl⟩ := own2 hz1
    obtain ⟨y0, f2, yl⟩ := own1 hz2
    have z1 := set_one_ne (set_two hz1 (.int .i8 0) (.slice none 0 0)) (show w.heap.size + 1 + 1 ≠ w.heap.size + 1 by omega) (.iface 48 (.pointer (some ⟨g, 0, none⟩)))
    have z2 := set_one (set_two_ne hz2 (show w.heap.size + 1 ≠ w.heap.size + 1 + 1 by omega) (.int .i8 0) (.slice none 0 0)) (.iface 48 (.pointer (some ⟨g, 0, none⟩)))
    have hff := set_one_ne (set_two_ne hf (show w.heap.size + 1 ≠ g by omega) (.int .i8 0) (.slice none 0 0)) (show w.heap.size + 1 + 1 ≠ g by omega) (.iface 48 (.pointer (some ⟨g, 0, none⟩)))
    have HB9 := Lib.hid (below_set1 (below_set2 HB5.out (show w.heap.size ≤ w.heap.size + 1 by omega) (.int .i8 0) (.slice none 0 0)) (show w.heap.size ≤ w.heap.size + 1 + 1 by omega) (.iface 48 (.pointer (some ⟨g, 0, none⟩))))
    have hgw : w.heap.size ≤ g := by omega
    clear q0 q1 q2 q3 q4 q5 q6 q7 q8 q9 q10 ql r0 r1 rl hz1 hz2 hf hgl hb5 Z0 Z1 Z2
    go_wp2_with fail
    refine leaves_cons (f := 15) (args := #[.pointer (some ⟨w.heap.size + 1, 0, none⟩), .pointer (some ⟨w.heap.size + 1 + 1, 0, none⟩)]) (by simp) (by simp [go_sem]) ?_
    refine (ckcatch_fault _ _ _ _ _ _ _ x0 x1 y0 (by omega) f0 f1 f2).mono ?_
    rintro e u' w6 ⟨rfl, rfl, rfl⟩
    generalize ((w4.setCell ⟨w.heap.size + 1, 0, none⟩ (.int .i8 0)).setCell ⟨w.heap.size + 1, 1, none⟩ (.slice none 0 0)).setCell ⟨w.heap.size + 1 + 1, 0, none⟩ (.iface 48 (.pointer (some ⟨g, 0, none⟩))) = w6 at *
    obtain ⟨k0, k1, -, -, -⟩ := own2 z1
    obtain ⟨k2, -, -⟩ := own1 z2
    exact ⟨.tuple #[.agg #[.int .i8 0, .slice none 0 0], .iface 48 (.pointer (some ⟨g, 0, none⟩))], by simp [results, Tryz.results6, go_sem, k0, k1, k2], g, rfl, hff, hgw, HB9.out⟩
  | ok a =>
    obtain ⟨G, m, cg, rfl, hL, hb5⟩ := hp
    have hca := HRR.out a rfl
    have hl3 := heap_lt Z2.out
    have HB5 := Lib.hid (HB4.out.trans (hb5.mono HB4.out.size))
    have Z1 := Lib.hid (heap_below hb5 (heap_lt Z1.out) Z1.out)
    have Z2 := Lib.hid (heap_below hb5 (heap_lt Z2.out) Z2.out)
    have hok := (Ty.chk_ok hca).1
    have hm1 : Ty.mK a.1 0 = a.1 := by unfold Ty.mK; split <;> simp_all
    have hm2 : Ty.mT a.1 a.2 0 .nil = a.2 := by
      unfold Ty.mT
      by_cases hk : a.1 = 0
      · rw [if_pos hk]
        unfold Ty.okT at hok
        rw [Bool.and_eq_true, hk] at hok
        exact (Ty.kids_zero hok.1).symm
      · rw [if_neg hk, if_pos rfl]
    have hag : Ty.agreeT a.1 a.2 0 .nil = true := by rw [Ty.agree_open]; exact beq_iff_eq.mpr hca
    have CM := Lib.hid (fun (W : World) (hb : Below w4.heap.size w4 W) => oMeetP_any a.1 a.2 G m cg 0 .nil none 0 0 W ((hL.later hb).is) (Ty.zero_is W) ((HG.out.below (HB5.out.trans (hb.mono HB5.out.size))).types))
    unfold MeetTellsP at CM
    rw [hag] at CM
    simp only [if_true, hm1, hm2] at CM
    have hs4 := HB5.out.size
    clear q0 q1 q2 q3 q4 q5 q6 q7 q8 q9 q10 ql r0 r1 rl hL hb5 Z0 hca hok hm1 hm2 hag
    go_wp2_with fail
    refine (CM.out _ (Below.refl _ _)).mono ?_
    rintro e w5 ⟨G2, m2, c2, rfl, hL2, hb6⟩
    have hl4 := heap_lt Z2.out
    have HB6 := Lib.hid (HB5.out.trans (hb6.mono HB5.out.size))
    have Z1 := Lib.hid (heap_below hb6 (heap_lt Z1.out) Z1.out)
    have Z2 := Lib.hid (heap_below hb6 (heap_lt Z2.out) Z2.out)
    obtain ⟨x0, x1, f0, f1, xl⟩ := own2 Z1.out
    have HN := Lib.hid (fun (b : Nat) (hq : w4.heap.size ≤ b) => (show b ≠ w.heap.size + 1 ∧ b ≠ w.heap.size + 1 + 1 ∧ w.heap.size ≤ b by omega))
    have HL2 := Lib.hid (show Ck.Ly (fun b => w4.heap.size ≤ b) w5 a G2 m2 c2 from hL2)
    have HL3 := Lib.hid (HL2.out.set2 (fun b hq => (HN.out b hq).1) (.int .i8 a.1) (.slice G2 m2 c2))
    have Z1 := Lib.hid (set_two Z1.out (.int .i8 a.1) (.slice G2 m2 c2))
    have Z2 := Lib.hid (set_two_ne Z2.out (show w.heap.size + 1 ≠ w.heap.size + 1 + 1 by omega) (.int .i8 a.1) (.slice G2 m2 c2))
    have HB7 := Lib.hid (below_set2 HB6.out (show w.heap.size ≤ w.heap.size + 1 by omega) (.int .i8 a.1) (.slice G2 m2 c2))
    clear hL2 hb6
    go_upto_region 7 with fail
    generalize (w5.setCell ⟨w.heap.size + 1, 0, none⟩ (.int .i8 a.1)).setCell ⟨w.heap.size + 1, 1, none⟩ (.slice G2 m2 c2) = w6 at *
    clear x0 x1 f0 f1 xl
    obtain ⟨x0, x1, f0, f1, xl⟩ := own2 Z1.out
    obtain ⟨y0, f2, yl⟩ := own1 Z2.out
    have z1 := set_one_ne (set_two Z1.out (.int .i8 a.1) (.slice G2 m2 c2)) (show w.heap.size + 1 + 1 ≠ w.heap.size + 1 by omega) .nilIface
    have z2 := set_one (set_two_ne Z2.out (show w.heap.size + 1 ≠ w.heap.size + 1 + 1 by omega) (.int .i8 a.1) (.slice G2 m2 c2)) .nilIface
    have HB8 := Lib.hid (below_set1 (below_set2 HB7.out (show w.heap.size ≤ w.heap.size + 1 by omega) (.int .i8 a.1) (.slice G2 m2 c2)) (show w.heap.size ≤ w.heap.size + 1 + 1 by omega) .nilIface)
    have HL8 := Lib.hid ((HL3.out.set2 (fun b hq => (HN.out b hq).1) (.int .i8 a.1) (.slice G2 m2 c2)).set (fun b hq => (HN.out b hq).2.1) 0 .nilIface)
    go_wp2_with fail
    generalize ((w6.setCell ⟨w.heap.size + 1, 0, none⟩ (.int .i8 a.1)).setCell ⟨w.heap.size + 1, 1, none⟩ (.slice G2 m2 c2)).setCell ⟨w.heap.size + 1 + 1, 0, none⟩ .nilIface = w9 at *
    obtain ⟨k0, k1, -, -, -⟩ := own2 z1
    obtain ⟨k2, -, -⟩ := own1 z2
    refine leaves_cons (f := 15) (args := #[.pointer (some ⟨w.heap.size + 1, 0, none⟩), .pointer (some ⟨w.heap.size + 1 + 1, 0, none⟩)]) (by simp) (by simp [go_sem]) ?_
    refine (ckcatch_none _ _ _).mono ?_
    rintro e u' w10 ⟨rfl, rfl, rfl⟩
    exact ⟨.tuple #[.agg #[.int .i8 a.1, .slice G2 m2 c2], .nilIface], by simp [results, Tryz.results6, go_sem, k0, k1, k2], G2, m2, c2, rfl, HL8.out.weak (fun b _ hq => (HN.out b hq).2.2), HB8.out⟩
end Go.Proofs.YtadkiikoiajceaaGreatDoor
