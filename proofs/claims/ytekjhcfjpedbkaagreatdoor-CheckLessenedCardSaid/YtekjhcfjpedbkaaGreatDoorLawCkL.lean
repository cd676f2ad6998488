/-
  P9.3 (P5): less precise terms are taken, at less precise types. The law's walk.
-/
import Derived.Test.YtekjhcfjpedbkaaGreatDoorLs4
import Derived.Test.YtekjhcfjpedbkaaGreatDoorOpenB
import Derived.Test.YtekjhcfjpedbkaaGreatDoorM24
import Derived.Test.YtekjhcfjpedbkaaGreatDoorM17
import Derived.Test.YtekjhcfjpedbkaaGreatDoorM11
namespace Go.Proofs.YtekjhcfjpedbkaaGreatDoor
open Go.RowKit
set_option maxHeartbeats 4000000 in
set_option maxRecDepth 100000 in
theorem law_CheckLessened (h : Hd) (kids : Tm) (p : Pl) (L : List Bool) (LA : Option Addr) (lc : Nat) (w : World) (hI : Tm.Is w h kids p) (hL : BAt w L LA L.length lc) (hG : TGlob w) :
    Calls Tryz.prog 4 #[.agg #[.int .i8 h.kind, .string h.name, .string h.arg, .int .i64 h.num, .int .i8 h.tk, .slice p.TA p.tn p.tc, .int .i8 h.uk, .slice p.UA p.un p.uc, .int .i64 h.label, .int .i64 h.pos, .slice p.A p.n p.c], .slice LA L.length lc] w fun e w' => e = .returned (.bool true) ∧ Below w.heap.size w w' := by
  have hb0 := below_n1 w (.cells #[.int .i8 h.kind, .string h.name, .string h.arg, .int .i64 h.num, .int .i8 h.tk, .slice p.TA p.tn p.tc, .int .i8 h.uk, .slice p.UA p.un p.uc, .int .i64 h.label, .int .i64 h.pos, .slice p.A p.n p.c] 28)
  have x0 := heap_new w (.cells #[.int .i8 h.kind, .string h.name, .string h.arg, .int .i64 h.num, .int .i8 h.tk, .slice p.TA p.tn p.tc, .int .i8 h.uk, .slice p.UA p.un p.uc, .int .i64 h.label, .int .i64 h.pos, .slice p.A p.n p.c] 28)
  generalize hw1 : w.alloc (.cells #[.int .i8 h.kind, .string h.name, .string h.arg, .int .i64 h.num, .int .i8 h.tk, .slice p.TA p.tn p.tc, .int .i8 h.uk, .slice p.UA p.un p.uc, .int .i64 h.label, .int .i64 h.pos, .slice p.A p.n p.c] 28) = w1 at *
  have HW1 := Lib.hid hw1
  have HB0 := Lib.hid hb0
  have X0 := Lib.hid x0
  have HI := Lib.hid hI
  have HI1 := Lib.hid (hI.below hb0)
  have HG := Lib.hid (hG.below hb0)
  have HL := Lib.hid (hL.below hb0)
  have CT1 := Lib.hid (ckType_any h kids p w1 HI1.out HG.out)
  have eF := eNeqF
  have eN := eNeqN
  have eF2 := eEqlF
  have eN2 := eEqlN
  clear hw1 hb0 x0 hI hL hG
  cases hr : Ck.tell h kids with
  | bad E q x =>
    rw [hr] at CT1
    clear hr
    go_enter Tryz.func4, Tryz.ntmps4
    go_upto_region 1 with fail
    rw [HW1.out]
    obtain ⟨q0, q1, q2, q3, q4, q5, q6, q7, q8, q9, q10, ql⟩ := own11 X0.out
    go_wp2_with fail
    refine CT1.out.mono ?_
    rintro e u1 hp
    obtain ⟨g1, rfl, -, -, hb1⟩ := hp
    have HB1 := Lib.hid (hb1.trans ((below_n1 u1 (.cells #[.int .i8 0, .slice none 0 0] 25)).mono hb1.size))
    have HX1 := Lib.hid (heap_new u1 (.cells #[.int .i8 0, .slice none 0 0] 25))
    have HK := Lib.hid (fun (W : World) => kind9_any 1 0 .nil none 0 0 0 .nil none 0 0 W (by decide) (Ty.zero_is W) (Ty.zero_is W))
    rw [show Ty.eqT 0 .nil 0 .nil = true by decide] at HK
    clear hb1 q0 q1 q2 q3 q4 q5 q6 q7 q8 q9 q10 ql
    go_upto_region 2 with fail
    generalize hw2 : u1.alloc (.cells #[.int .i8 0, .slice none 0 0] 25) = w2 at *
    clear hw2
    generalize u1.heap.size = S1 at *
    obtain ⟨u0, u1', -, -, ul⟩ := own2 HX1.out
    go_wp2_with fail
    refine (HK.out w2).mono ?_
    rintro e w3 ⟨rfl, hb3⟩
    go_wp2_with fail
    go_ret
    exact ⟨rfl, HB0.out.trans ((HB1.out.trans (hb3.mono HB1.out.size)).mono HB0.out.size)⟩
  | ok a =>
    rw [hr] at CT1
    obtain ⟨htl, b, hrb, hless⟩ := Ls.tell_less L h kids a hr
    have h0 : Tm.chk h kids = 0 := by
      by_cases h0 : Tm.chk h kids = 0
      · exact h0
      · unfold Ck.tell at hr; rw [if_pos h0] at hr; cases hr
    have hc0 : Ck.castT h kids = false := by
      cases hc : Ck.castT h kids
      · rfl
      · unfold Ck.tell at hr; rw [if_neg (by omega), if_pos hc] at hr; cases hr
    obtain ⟨hnd, -, hok⟩ := Ck.chk_parts h0
    have CL1 := Lib.hid (fun (W : World) (hb : Below w1.heap.size w1 W) => lessened_any L LA L.length lc w (Tm.nodes kids + 1) h kids p 0 W (Nat.lt_succ_self _) HI.out (HB0.out.trans (hb.mono HB0.out.size)) (HL.out.below hb) hok hc0 (by omega))
    generalize (Ls.lesH L h 0) = hh at *
    obtain ⟨h2, n2⟩ := hh
    dsimp only at *
    generalize (Ls.lsF L kids n2) = kk at *
    obtain ⟨k2, n3⟩ := kk
    dsimp only at *
    have HTL := Lib.hid htl
    have HRB := Lib.hid hrb
    have HLS := Lib.hid hless
    clear hr htl hrb hless h0 hc0 hnd hok
    go_enter Tryz.func4, Tryz.ntmps4
    go_upto_region 1 with fail
    rw [HW1.out]
    obtain ⟨q0, q1, q2, q3, q4, q5, q6, q7, q8, q9, q10, ql⟩ := own11 X0.out
    go_wp2_with fail
    refine CT1.out.mono ?_
    rintro e u1 hp
    obtain ⟨Ga, ma, ca, rfl, hla, hb1⟩ := hp
    have hbb := below_n1 u1 (.cells #[.int .i8 a.1, .slice Ga ma ca] 25)
    have HB1 := Lib.hid (hb1.trans (hbb.mono hb1.size))
    have HX1 := Lib.hid (heap_new u1 (.cells #[.int .i8 a.1, .slice Ga ma ca] 25))
    have HLA := Lib.hid ((Ck.Ly.weak (Q' := fun _ => True) hla fun _ _ _ => trivial).later hbb)
    clear hb1 hbb hla q0 q1 q2 q3 q4 q5 q6 q7 q8 q9 q10 ql
    go_upto_region 2 with fail
    generalize hw2 : u1.alloc (.cells #[.int .i8 a.1, .slice Ga ma ca] 25) = w2 at *
    clear hw2
    generalize u1.heap.size = S1 at *
    obtain ⟨q0, q1, q2, q3, q4, q5, q6, q7, q8, q9, q10, ql⟩ := own11 (heap_below HB1.out (heap_lt X0.out) X0.out)
    go_wp2_with fail
    refine (CL1.out w2 HB1.out).mono ?_
    rintro e u2 ⟨p2, rfl, hlt, hb2⟩
    have hbb := below_n1 u2 (.cells #[.int .i8 h2.kind, .string h2.name, .string h2.arg, .int .i64 h2.num, .int .i8 h2.tk, .slice p2.TA p2.tn p2.tc, .int .i8 h2.uk, .slice p2.UA p2.un p2.uc, .int .i64 h2.label, .int .i64 h2.pos, .slice p2.A p2.n p2.c] 28)
    have hb23 := hb2.trans (hbb.mono hb2.size)
    have HX2 := Lib.hid (heap_new u2 (.cells #[.int .i8 h2.kind, .string h2.name, .string h2.arg, .int .i64 h2.num, .int .i8 h2.tk, .slice p2.TA p2.tn p2.tc, .int .i8 h2.uk, .slice p2.UA p2.un p2.uc, .int .i64 h2.label, .int .i64 h2.pos, .slice p2.A p2.n p2.c] 28))
    have HI2 := Lib.hid (hlt.is.below hbb)
    have HX1 := Lib.hid (heap_below hb23 (heap_lt HX1.out) HX1.out)
    have HLA := Lib.hid (HLA.out.later hb23)
    have HB2 := Lib.hid (HB1.out.trans (hb23.mono HB1.out.size))
    clear hb2 hbb hb23 hlt HB1 q0 q1 q2 q3 q4 q5 q6 q7 q8 q9 q10 ql
    go_upto_region 5 with fail
    generalize hw3 : u2.alloc (.cells #[.int .i8 h2.kind, .string h2.name, .string h2.arg, .int .i64 h2.num, .int .i8 h2.tk, .slice p2.TA p2.tn p2.tc, .int .i8 h2.uk, .slice p2.UA p2.un p2.uc, .int .i64 h2.label, .int .i64 h2.pos, .slice p2.A p2.n p2.c] 28) = w3 at *
    clear hw3
    generalize u2.heap.size = S2 at *
    have CT2 := Lib.hid (ckType_any h2 k2 p2 w3 HI2.out (HG.out.below HB2.out))
    rw [HRB.out] at CT2
    obtain ⟨q0, q1, q2, q3, q4, q5, q6, q7, q8, q9, q10, ql⟩ := own11 HX2.out
    go_wp2_with fail
    refine CT2.out.mono ?_
    rintro e u3 hp
    obtain ⟨Gb, mb, cb, rfl, hlb, hb3⟩ := hp
    have hbb := below_n1 u3 (.cells #[.int .i8 b.1, .slice Gb mb cb] 25)
    have hb34 := hb3.trans (hbb.mono hb3.size)
    have HX3 := Lib.hid (heap_new u3 (.cells #[.int .i8 b.1, .slice Gb mb cb] 25))
    have HLB := Lib.hid ((Ck.Ly.weak (Q' := fun _ => True) hlb fun _ _ _ => trivial).later hbb)
    have HX1 := Lib.hid (heap_below hb34 (heap_lt HX1.out) HX1.out)
    have HX2 := Lib.hid (heap_below hb34 (heap_lt HX2.out) HX2.out)
    have HLA := Lib.hid (HLA.out.later hb34)
    have HI2 := Lib.hid (HI2.out.below hb34)
    have HB3 := Lib.hid (HB2.out.trans (hb34.mono HB2.out.size))
    clear hb3 hbb hb34 hlb HB2 q0 q1 q2 q3 q4 q5 q6 q7 q8 q9 q10 ql
    go_upto_region 6 with fail
    generalize hw4 : u3.alloc (.cells #[.int .i8 b.1, .slice Gb mb cb] 25) = w4 at *
    clear hw4
    generalize u3.heap.size = S3 at *
    have CO := Lib.hid (oTerms_any h2 k2 p2 h kids p w4 HI2.out (HI1.out.below HB3.out) (HG.out.below HB3.out))
    rw [HTL.out] at CO
    have CL2 := Lib.hid (fun (W : World) (hb : Below w4.heap.size w4 W) => oless_any b.1 b.2 Gb mb cb a.1 a.2 Ga ma ca W (HLB.out.later hb).is (HLA.out.later hb).is ((HG.out.below HB3.out).below hb).types)
    rw [HLS.out] at CL2
    obtain ⟨q0, q1, q2, q3, q4, q5, q6, q7, q8, q9, q10, ql⟩ := own11 (heap_below HB3.out (heap_lt X0.out) X0.out)
    obtain ⟨y0, y1, y2, y3, y4, y5, y6, y7, y8, y9, y10, yl⟩ := own11 HX2.out
    go_wp2_with fail
    refine CO.out.mono ?_
    rintro e w5 ⟨rfl, hb5⟩
    have HB5 := Lib.hid hb5
    obtain ⟨z0, z1, -, -, zl⟩ := own2 (heap_below hb5 (heap_lt HX3.out) HX3.out)
    obtain ⟨v0, v1, -, -, vl⟩ := own2 (heap_below hb5 (heap_lt HX1.out) HX1.out)
    clear hb5 q0 q1 q2 q3 q4 q5 q6 q7 q8 q9 q10 ql y0 y1 y2 y3 y4 y5 y6 y7 y8 y9 y10 yl
    go_wp2_with fail
    refine (CL2.out w5 HB5.out).mono ?_
    rintro e w6 ⟨rfl, hb6⟩
    go_wp2_with fail
    go_ret
    exact ⟨rfl, HB0.out.trans (((HB3.out.trans (HB5.out.mono HB3.out.size)).trans (hb6.mono (HB3.out.trans (HB5.out.mono HB3.out.size)).size)).mono HB0.out.size)⟩
end Go.Proofs.YtekjhcfjpedbkaaGreatDoor
