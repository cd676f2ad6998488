/-
  P11.3, P11.4 (P4): of a static term both checkers tell the same. The law's walk.
-/
import Derived.Test.YtknhoagicdfikaaGreatDoorM24
import Derived.Test.YtknhoagicdfikaaGreatDoorTold
import Derived.Test.YtknhoagicdfikaaGreatDoorM1
import Derived.Test.YtknhoagicdfikaaGreatDoorM25
import Derived.Laws.StructEq
namespace Go.Proofs.YtknhoagicdfikaaGreatDoor
open Go.RowKit
theorem Ck.tell_chk {h : Hd} {kids : Tm} {a : Ck.T2} (e : Ck.tell h kids = .ok a) : Ck.chk a = 0 := by
  unfold Ck.tell at e
  split at e
  · cases e
  · split at e
    · cases e
    · exact Ck.ty_ok e
theorem St.static_of {h : Hd} {kids : Tm} {r : Option (Int × Int)} (e : St.ref h kids = r) : St.isStatic h kids = r.isNone := by unfold St.isStatic; rw [e]
set_option maxHeartbeats 2000000 in
set_option maxRecDepth 100000 in
theorem law_StaticSame (h : Hd) (kids : Tm) (p : Pl) (w : World) (hI : Tm.Is w h kids p) (hG : TGlob w) (hE : ErrT w) :
    Calls Tryz.prog 4 #[.agg #[.int .i8 h.kind, .string h.name, .string h.arg, .int .i64 h.num, .int .i8 h.tk, .slice p.TA p.tn p.tc, .int .i8 h.uk, .slice p.UA p.un p.uc, .int .i64 h.label, .int .i64 h.pos, .slice p.A p.n p.c]] w fun e w' => e = .returned (.bool true) ∧ Below w.heap.size w w' := by
  have hb0 := below_n1 w (.cells #[.int .i8 h.kind, .string h.name, .string h.arg, .int .i64 h.num, .int .i8 h.tk, .slice p.TA p.tn p.tc, .int .i8 h.uk, .slice p.UA p.un p.uc, .int .i64 h.label, .int .i64 h.pos, .slice p.A p.n p.c] 28)
  have x0 := heap_new w (.cells #[.int .i8 h.kind, .string h.name, .string h.arg, .int .i64 h.num, .int .i8 h.tk, .slice p.TA p.tn p.tc, .int .i8 h.uk, .slice p.UA p.un p.uc, .int .i64 h.label, .int .i64 h.pos, .slice p.A p.n p.c] 28)
  generalize hw1 : w.alloc (.cells #[.int .i8 h.kind, .string h.name, .string h.arg, .int .i64 h.num, .int .i8 h.tk, .slice p.TA p.tn p.tc, .int .i8 h.uk, .slice p.UA p.un p.uc, .int .i64 h.label, .int .i64 h.pos, .slice p.A p.n p.c] 28) = w1 at *
  have HW1 := Lib.hid hw1
  have HB0 := Lib.hid hb0
  have X0 := Lib.hid x0
  have HI := Lib.hid (hI.below hb0)
  have HG := Lib.hid (hG.below hb0)
  have HE := Lib.hid (hE.below hb0)
  have CT1 := Lib.hid (stType_any h kids p w1 HI.out HG.out)
  have CT2 := Lib.hid (fun (W : World) (hb : Below w1.heap.size w1 W) => ckType_any h kids p W (HI.out.below hb) (HG.out.below hb))
  have CS := Lib.hid (fun (W : World) (hb : Below w1.heap.size w1 W) => sStatic_any h kids p W (HI.out.below hb) (HG.out.below hb))
  have eF := eNeqF
  have eN := eNeqN
  have eF2 := eEqlF
  have eN2 := eEqlN
  clear hw1 hb0 x0 hI hG hE
  cases hr : St.ref h kids with

  | some x =>
    have hs := St.static_of hr
    rw [show (some x).isNone = false from rfl] at hs
    rw [hs] at CS
    have ht : Cg.tellR St.ops (St.ref h kids) h kids = .bad x.1 x.2 Ck.e0 := by unfold Cg.tellR; rw [hr]
    rw [ht] at CT1
    clear hr hs ht
    go_enter Tryz.func4, Tryz.ntmps4
    go_upto_region 1 with fail
    rw [HW1.out]
    obtain ⟨q0, q1, q2, q3, q4, q5, q6, q7, q8, q9, q10, ql⟩ := own11 X0.out
    go_wp2_with fail
    refine CT1.out.mono ?_
    rintro e u1 hp
    obtain ⟨g1, rfl, -, -, hb1⟩ := hp
    have hbb := below_n1 u1 (.cells #[.int .i8 0, .slice none 0 0] 25)
    have hbx := hb1.trans (hbb.mono hb1.size)
    have HX1 := Lib.hid (heap_new u1 (.cells #[.int .i8 0, .slice none 0 0] 25))
    have HBW2 := Lib.hid hbx
    clear hb1 hbb hbx q0 q1 q2 q3 q4 q5 q6 q7 q8 q9 q10 ql
    go_upto_region 2 with fail
    generalize hw2 : u1.alloc (.cells #[.int .i8 0, .slice none 0 0] 25) = w2 at *
    clear hw2
    generalize u1.heap.size = S1 at *
    obtain ⟨q0, q1, q2, q3, q4, q5, q6, q7, q8, q9, q10, ql⟩ := own11 (heap_below HBW2.out (heap_lt X0.out) X0.out)
    go_wp2_with fail
    refine (CT2.out w2 HBW2.out).mono ?_
    rintro e u2 hp
    obtain ⟨G2, m2, c2, v2, rfl, -, hb2, -⟩ := hp.told
    generalize Ck.tyOf (Ck.tell h kids) = t2 at *
    have hbb := below_n1 u2 (.cells #[.int .i8 t2.1, .slice G2 m2 c2] 25)
    have HBW3 := Lib.hid (HBW2.out.trans ((hb2.trans (hbb.mono hb2.size)).mono HBW2.out.size))
    clear hb2 hbb q0 q1 q2 q3 q4 q5 q6 q7 q8 q9 q10 ql
    go_upto_region 3 with fail
    generalize hw3 : u2.alloc (.cells #[.int .i8 t2.1, .slice G2 m2 c2] 25) = w3 at *
    clear hw3
    generalize u2.heap.size = S2 at *
    obtain ⟨q0, q1, q2, q3, q4, q5, q6, q7, q8, q9, q10, ql⟩ := own11 (heap_below HBW3.out (heap_lt X0.out) X0.out)
    go_wp2_with fail
    refine (CS.out w3 HBW3.out).mono ?_
    rintro e w4 ⟨rfl, hb4⟩
    have HB4 := Lib.hid (HBW3.out.trans (hb4.mono HBW3.out.size))
    clear hb4 q0 q1 q2 q3 q4 q5 q6 q7 q8 q9 q10 ql
    go_wp2_with fail
    go_ret
    exact ⟨rfl, HB0.out.trans (HB4.out.mono HB0.out.size)⟩
  | none =>
    have hs := St.static_of hr
    rw [show (none : Option (Int × Int)).isNone = true from rfl] at hs
    rw [hs] at CS
    obtain ⟨ht, hkn⟩ := St.tell_eq hr
    rw [ht] at CT1
    clear hr hs ht
    cases hR : Ck.tell h kids with
    | bad E q x =>
      rw [hR] at CT1 CT2
      clear hR hkn
      go_enter Tryz.func4, Tryz.ntmps4
      go_upto_region 1 with fail
      rw [HW1.out]
      obtain ⟨q0, q1, q2, q3, q4, q5, q6, q7, q8, q9, q10, ql⟩ := own11 X0.out
      go_wp2_with fail
      refine CT1.out.mono ?_
      rintro e u1 hp
      obtain ⟨g1, rfl, hf1, hg1, hb1⟩ := hp
      have hbb := below_n1 u1 (.cells #[.int .i8 0, .slice none 0 0] 25)
      have hbx := hb1.trans (hbb.mono hb1.size)
      have HX1 := Lib.hid (heap_new u1 (.cells #[.int .i8 0, .slice none 0 0] 25))
      have HBW2 := Lib.hid hbx
      have HF1 := Lib.hid (heap_below hbb (heap_lt hf1) hf1)
      clear hf1 hg1 hb1 hbb hbx q0 q1 q2 q3 q4 q5 q6 q7 q8 q9 q10 ql
      go_upto_region 2 with fail
      generalize hw2 : u1.alloc (.cells #[.int .i8 0, .slice none 0 0] 25) = w2 at *
      clear hw2
      generalize u1.heap.size = S1 at *
      obtain ⟨q0, q1, q2, q3, q4, q5, q6, q7, q8, q9, q10, ql⟩ := own11 (heap_below HBW2.out (heap_lt X0.out) X0.out)
      go_wp2_with fail
      refine (CT2.out w2 HBW2.out).mono ?_
      rintro e u2 hp
      obtain ⟨g2, rfl, hf2, hg2, hb2⟩ := hp
      have hbb := below_n1 u2 (.cells #[.int .i8 0, .slice none 0 0] 25)
      have hbx := hb2.trans (hbb.mono hb2.size)
      have HBW3 := Lib.hid (HBW2.out.trans (hbx.mono HBW2.out.size))
      have HX1 := Lib.hid (heap_below hbx (heap_lt HX1.out) HX1.out)
      have HF1 := Lib.hid (heap_below hbx (heap_lt HF1.out) HF1.out)
      have HX2 := Lib.hid (heap_new u2 (.cells #[.int .i8 0, .slice none 0 0] 25))
      have HF2 := Lib.hid (heap_below hbb (heap_lt hf2) hf2)
      clear hf2 hg2 hb2 hbb hbx q0 q1 q2 q3 q4 q5 q6 q7 q8 q9 q10 ql
      go_upto_region 3 with fail
      generalize hw3 : u2.alloc (.cells #[.int .i8 0, .slice none 0 0] 25) = w3 at *
      clear hw3
      generalize u2.heap.size = S2 at *
      obtain ⟨q0, q1, q2, q3, q4, q5, q6, q7, q8, q9, q10, ql⟩ := own11 (heap_below HBW3.out (heap_lt X0.out) X0.out)
      go_wp2_with fail
      refine (CS.out w3 HBW3.out).mono ?_
      rintro e w4 ⟨rfl, hb4⟩
      have HB4 := Lib.hid (HBW3.out.trans (hb4.mono HBW3.out.size))
      have HX1 := Lib.hid (heap_below hb4 (heap_lt HX1.out) HX1.out)
      have HX2 := Lib.hid (heap_below hb4 (heap_lt HX2.out) HX2.out)
      have HF1 := Lib.hid (heap_below hb4 (heap_lt HF1.out) HF1.out)
      have HF2 := Lib.hid (heap_below hb4 (heap_lt HF2.out) HF2.out)
      clear hb4 q0 q1 q2 q3 q4 q5 q6 q7 q8 q9 q10 ql
      have CF1 := Lib.hid (fault_own g1 E q x w4 HF1.out (HE.out.below HB4.out))
      go_wp2_with fail
      refine CF1.out.mono ?_
      rintro e u5 ⟨rfl, hb5⟩
      have hbb := below_n1 u5 (.cells #[.int .i64 E, .int .i64 q, .string x] 40)
      have hb56 := hb5.trans (hbb.mono hb5.size)
      have HBW6 := Lib.hid (HB4.out.trans (hb56.mono HB4.out.size))
      have HX5 := Lib.hid (heap_new u5 (.cells #[.int .i64 E, .int .i64 q, .string x] 40))
      have HX1 := Lib.hid (heap_below hb56 (heap_lt HX1.out) HX1.out)
      have HX2 := Lib.hid (heap_below hb56 (heap_lt HX2.out) HX2.out)
      have HF2 := Lib.hid (heap_below hb56 (heap_lt HF2.out) HF2.out)
      clear hb5 hbb hb56
      go_upto_region 8 with fail
      generalize hw6 : u5.alloc (.cells #[.int .i64 E, .int .i64 q, .string x] 40) = w6 at *
      clear hw6
      generalize u5.heap.size = S5 at *
      have CF2 := Lib.hid (fault_own g2 E q x w6 HF2.out (HE.out.below HBW6.out))
      go_wp2_with fail
      refine CF2.out.mono ?_
      rintro e u7 ⟨rfl, hb7⟩
      have hbb := below_n1 u7 (.cells #[.int .i64 E, .int .i64 q, .string x] 40)
      have hb78 := hb7.trans (hbb.mono hb7.size)
      have HBW8 := Lib.hid (HBW6.out.trans (hb78.mono HBW6.out.size))
      have HX7 := Lib.hid (heap_new u7 (.cells #[.int .i64 E, .int .i64 q, .string x] 40))
      have HX1 := Lib.hid (heap_below hb78 (heap_lt HX1.out) HX1.out)
      have HX2 := Lib.hid (heap_below hb78 (heap_lt HX2.out) HX2.out)
      have HX5 := Lib.hid (heap_below hb78 (heap_lt HX5.out) HX5.out)
      clear hb7 hbb hb78
      go_upto_region 9 with fail
      generalize hw8 : u7.alloc (.cells #[.int .i64 E, .int .i64 q, .string x] 40) = w8 at *
      clear hw8
      generalize u7.heap.size = S7 at *
      have HK := Lib.hid (fun (W : World) => kind9_any 1 0 .nil none 0 0 0 .nil none 0 0 W (by decide) (Ty.zero_is W) (Ty.zero_is W))
      rw [show Ty.eqT 0 .nil 0 .nil = true by decide] at HK
      obtain ⟨a0, a1, -, -, al⟩ := own2 HX1.out
      obtain ⟨b0, b1, -, -, bl⟩ := own2 HX2.out
      obtain ⟨s0, s1, s2, -, -, -, sl⟩ := own3 HX5.out
      obtain ⟨t0, t1, t2, -, -, -, tl⟩ := own3 HX7.out
      go_wp2_with fail
      refine (HK.out w8).mono ?_
      rintro e w9 ⟨rfl, hb9⟩
      have HB9 := Lib.hid (HBW8.out.trans (hb9.mono HBW8.out.size))
      clear hb9 a0 a1 al b0 b1 bl s0 s1 s2 sl t0 t1 t2 tl
      go_wp2_with fail
      go_ret
      exact ⟨rfl, HB0.out.trans (HB9.out.mono HB0.out.size)⟩
    | ok a =>
      have hka := hkn a hR
      have hca : Ty.chk a.1 a.2 = 0 := Ck.tell_chk hR
      have hknown : Ty.knownT a.1 a.2 = true := by unfold Ty.knownT; rw [hca, hka]; rfl
      rw [hR] at CT1 CT2
      clear hR hkn hka hca
      go_enter Tryz.func4, Tryz.ntmps4
      go_upto_region 1 with fail
      rw [HW1.out]
      obtain ⟨q0, q1, q2, q3, q4, q5, q6, q7, q8, q9, q10, ql⟩ := own11 X0.out
      go_wp2_with fail
      refine CT1.out.mono ?_
      rintro e u1 hp
      obtain ⟨G1, m1, c1, rfl, hl1, hb1⟩ := hp
      have hbb := below_n1 u1 (.cells #[.int .i8 a.1, .slice G1 m1 c1] 25)
      have hbx := hb1.trans (hbb.mono hb1.size)
      have HX1 := Lib.hid (heap_new u1 (.cells #[.int .i8 a.1, .slice G1 m1 c1] 25))
      have HBW2 := Lib.hid hbx
      have HL1 := Lib.hid (((Ck.Ly.weak (Q' := fun _ => True) hl1 (fun _ _ _ => trivial)).later hbb))
      clear hl1 hb1 hbb hbx q0 q1 q2 q3 q4 q5 q6 q7 q8 q9 q10 ql
      go_upto_region 2 with fail
      generalize hw2 : u1.alloc (.cells #[.int .i8 a.1, .slice G1 m1 c1] 25) = w2 at *
      clear hw2
      generalize u1.heap.size = S1 at *
      obtain ⟨q0, q1, q2, q3, q4, q5, q6, q7, q8, q9, q10, ql⟩ := own11 (heap_below HBW2.out (heap_lt X0.out) X0.out)
      go_wp2_with fail
      refine (CT2.out w2 HBW2.out).mono ?_
      rintro e u2 hp
      obtain ⟨G2, m2, c2, rfl, hl2, hb2⟩ := hp
      have hbb := below_n1 u2 (.cells #[.int .i8 a.1, .slice G2 m2 c2] 25)
      have hbx := hb2.trans (hbb.mono hb2.size)
      have HBW3 := Lib.hid (HBW2.out.trans (hbx.mono HBW2.out.size))
      have HX1 := Lib.hid (heap_below hbx (heap_lt HX1.out) HX1.out)
      have HL1 := Lib.hid (HL1.out.later hbx)
      have HX2 := Lib.hid (heap_new u2 (.cells #[.int .i8 a.1, .slice G2 m2 c2] 25))
      have HL2 := Lib.hid (((Ck.Ly.weak (Q' := fun _ => True) hl2 (fun _ _ _ => trivial)).later hbb))
      clear hl2 hb2 hbb hbx q0 q1 q2 q3 q4 q5 q6 q7 q8 q9 q10 ql
      go_upto_region 3 with fail
      generalize hw3 : u2.alloc (.cells #[.int .i8 a.1, .slice G2 m2 c2] 25) = w3 at *
      clear hw3
      generalize u2.heap.size = S2 at *
      obtain ⟨q0, q1, q2, q3, q4, q5, q6, q7, q8, q9, q10, ql⟩ := own11 (heap_below HBW3.out (heap_lt X0.out) X0.out)
      go_wp2_with fail
      refine (CS.out w3 HBW3.out).mono ?_
      rintro e w4 ⟨rfl, hb4⟩
      have HB4 := Lib.hid (HBW3.out.trans (hb4.mono HBW3.out.size))
      have HX1 := Lib.hid (heap_below hb4 (heap_lt HX1.out) HX1.out)
      have HX2 := Lib.hid (heap_below hb4 (heap_lt HX2.out) HX2.out)
      have HL1 := Lib.hid (HL1.out.later hb4)
      have HL2 := Lib.hid (HL2.out.later hb4)
      clear hb4 q0 q1 q2 q3 q4 q5 q6 q7 q8 q9 q10 ql
      have CK := Lib.hid (known_fn a.1 a.2 G1 m1 c1 w4 HL1.out.is (HG.out.below HB4.out).types)
      rw [hknown] at CK
      clear hknown
      obtain ⟨a0, a1, -, -, al⟩ := own2 HX1.out
      go_wp2_with fail
      refine CK.out.mono ?_
      rintro e w5 ⟨rfl, hb5⟩
      have HB5 := Lib.hid (HB4.out.trans (hb5.mono HB4.out.size))
      have HX1 := Lib.hid (heap_below hb5 (heap_lt HX1.out) HX1.out)
      have HX2 := Lib.hid (heap_below hb5 (heap_lt HX2.out) HX2.out)
      have HL1 := Lib.hid (HL1.out.later hb5)
      have HL2 := Lib.hid (HL2.out.later hb5)
      clear hb5 a0 a1 al
      obtain ⟨q0, q1, q2, q3, q4, q5, q6, q7, q8, q9, q10, ql⟩ := own11 (heap_below HB5.out (heap_lt X0.out) X0.out)
      go_wp2_with fail
      refine (CS.out w5 HB5.out).mono ?_
      rintro e w6 ⟨rfl, hb6⟩
      have HB6 := Lib.hid (HB5.out.trans (hb6.mono HB5.out.size))
      have HX1 := Lib.hid (heap_below hb6 (heap_lt HX1.out) HX1.out)
      have HX2 := Lib.hid (heap_below hb6 (heap_lt HX2.out) HX2.out)
      have HL1 := Lib.hid (HL1.out.later hb6)
      have HL2 := Lib.hid (HL2.out.later hb6)
      clear hb6 q0 q1 q2 q3 q4 q5 q6 q7 q8 q9 q10 ql
      have CN := Lib.hid fault_nil
      go_wp2_with fail
      refine (CN.out w6).mono ?_
      rintro e u7 ⟨rfl, hb7⟩
      have hbb := below_n1 u7 (.cells #[.int .i64 0, .int .i64 0, .string ⟨#[]⟩] 40)
      have hbx := hb7.trans (hbb.mono hb7.size)
      have HBW8 := Lib.hid (HB6.out.trans (hbx.mono HB6.out.size))
      have HX7 := Lib.hid (heap_new u7 (.cells #[.int .i64 0, .int .i64 0, .string ⟨#[]⟩] 40))
      have HX1 := Lib.hid (heap_below hbx (heap_lt HX1.out) HX1.out)
      have HX2 := Lib.hid (heap_below hbx (heap_lt HX2.out) HX2.out)
      have HL1 := Lib.hid (HL1.out.later hbx)
      have HL2 := Lib.hid (HL2.out.later hbx)
      clear hb7 hbb hbx
      go_upto_region 8 with fail
      generalize hw8 : u7.alloc (.cells #[.int .i64 0, .int .i64 0, .string ⟨#[]⟩] 40) = w8 at *
      clear hw8
      generalize u7.heap.size = S7 at *
      go_wp2_with fail
      refine (CN.out w8).mono ?_
      rintro e u9 ⟨rfl, hb9⟩
      have hbb := below_n1 u9 (.cells #[.int .i64 0, .int .i64 0, .string ⟨#[]⟩] 40)
      have hbx := hb9.trans (hbb.mono hb9.size)
      have HBWa := Lib.hid (HBW8.out.trans (hbx.mono HBW8.out.size))
      have HX9 := Lib.hid (heap_new u9 (.cells #[.int .i64 0, .int .i64 0, .string ⟨#[]⟩] 40))
      have HX7 := Lib.hid (heap_below hbx (heap_lt HX7.out) HX7.out)
      have HX1 := Lib.hid (heap_below hbx (heap_lt HX1.out) HX1.out)
      have HX2 := Lib.hid (heap_below hbx (heap_lt HX2.out) HX2.out)
      have HL1 := Lib.hid (HL1.out.later hbx)
      have HL2 := Lib.hid (HL2.out.later hbx)
      clear hb9 hbb hbx
      go_upto_region 9 with fail
      generalize hwa : u9.alloc (.cells #[.int .i64 0, .int .i64 0, .string ⟨#[]⟩] 40) = wa at *
      clear hwa
      generalize u9.heap.size = S9 at *
      have HK := Lib.hid (kind9_any (Ty.nodes a.2 + 1) a.1 a.2 G1 m1 c1 a.1 a.2 G2 m2 c2 wa (Nat.lt_succ_self _) HL1.out.is HL2.out.is)
      rw [show Ty.eqT a.1 a.2 a.1 a.2 = true from by unfold Ty.eqT; simp [Ty.eqF_refl]] at HK
      obtain ⟨a0, a1, -, -, al⟩ := own2 HX1.out
      obtain ⟨b0, b1, -, -, bl⟩ := own2 HX2.out
      obtain ⟨s0, s1, s2, -, -, -, sl⟩ := own3 HX7.out
      obtain ⟨t0, t1, t2, -, -, -, tl⟩ := own3 HX9.out
      go_wp2_with fail
      refine HK.out.mono ?_
      rintro e wb ⟨rfl, hbz⟩
      have HBz := Lib.hid (HBWa.out.trans (hbz.mono HBWa.out.size))
      clear hbz a0 a1 al b0 b1 bl s0 s1 s2 sl t0 t1 t2 tl
      go_wp2_with fail
      go_ret
      exact ⟨rfl, HB0.out.trans (HBz.out.mono HB0.out.size)⟩
end Go.Proofs.YtknhoagicdfikaaGreatDoor
