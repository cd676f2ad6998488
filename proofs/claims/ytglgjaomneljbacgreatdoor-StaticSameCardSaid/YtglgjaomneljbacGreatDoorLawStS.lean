import Derived.Test.YtglgjaomneljbacGreatDoorM27
import Derived.Test.YtglgjaomneljbacGreatDoorTold
namespace Go.Proofs.YtglgjaomneljbacGreatDoor
open Go.RowKit
theorem Ck.zBk {h : Hd} {kids : Tm} {a : Ck.T2} (e : Ck.tell h kids = .ok a) : Ck.chk a = 0 := by
 unfold Ck.tell at e
 split at e
 ·cases e
 ·split at e
  ·cases e
  ·exact Ck.ky e
theorem St.yA {h : Hd} {kids : Tm} {r : Option (Int × Int)} (e : St.ref h kids = r) : St.isStatic h kids = r.isNone := by unfold St.isStatic; rw [e]
set_option maxHeartbeats 2000000 in
set_option maxRecDepth 100000 in
theorem law_StaticSame (h : Hd) (kids : Tm) (p : Pl) (w : World) (hI : Tm.Is w h kids p) (hG : TGlob w) (hE : ErrT w) :
  Calls Tryz.prog 3 #[.agg (tC_ h p)] w fun e w' => e = .returned (.bool true) ∧ Below w.heap.size w w' := by
 try unfold tC_
 have hb0 := zN w (.cells (tC_ h p) 28)
 have x0 := zD w (.cells (tC_ h p) 28)
 generalize hw1 : w.alloc (.cells (tC_ h p) 28) = w1 at *
 have HW1 := k0_ hw1
 have HB0 := k0_ hb0
 have X0 := k0_ x0
 have HI := k0_ (hI.below hb0)
 have HG := k0_ (hG.below hb0)
 have HE := k0_ (hE.below hb0)
 have CT1 := k0_ (wu h kids p w1 HI.out HG.out)
 have CT2 := k0_ (fun (W : World) (hb : Below w1.heap.size w1 W) => zA5 h kids p W (HI.out.below hb) (HG.out.below hb))
 have CS := k0_ (fun (W : World) (hb : Below w1.heap.size w1 W) => xw h kids p W (HI.out.below hb) (HG.out.below hb))
 have eF := zDF
 have eN := zDE
 have eF2 := zDH
 have eN2 := zDG
 clear hw1 hb0 x0 hI hG hE
 cases hr : St.ref h kids with
 | some x =>
  have hs := St.yA hr
  rw [show (some x).isNone = false from rfl] at hs
  rw [hs] at CS
  have ht : Cg.tellR St.ops (St.ref h kids) h kids = .bad x.1 x.2 Ck.e0 := by unfold Cg.tellR; rw [hr]
  rw [ht] at CT1
  clear hr hs ht
  go_enter Tryz.func3, Tryz.ntmps3
  go_upto_region 1 with fail
  rw [HW1.out]
  obtain ⟨q0, q1, q2, q3, q4, q5, q6, q7, q8, q9, q10, ql⟩ := zK X0.out
  go_wp2_with fail
  refine CT1.out.mono ?_
  rintro e u1 hp
  obtain ⟨g1, rfl, -, -, hb1⟩ := hp
  have hbb := zN u1 (.cells #[.int .i8 0, .slice none 0 0] 25)
  have hbx := hb1.trans (hbb.mono hb1.size)
  have HX1 := k0_ (zD u1 (.cells #[.int .i8 0, .slice none 0 0] 25))
  have HBW2 := k0_ hbx
  clear hb1 hbb hbx q0 q1 q2 q3 q4 q5 q6 q7 q8 q9 q10 ql
  go_upto_region 2 with fail
  generalize hw2 : u1.alloc (.cells #[.int .i8 0, .slice none 0 0] 25) = w2 at *
  clear hw2
  generalize u1.heap.size = S1 at *
  obtain ⟨q0, q1, q2, q3, q4, q5, q6, q7, q8, q9, q10, ql⟩ := zK (zB HBW2.out (zC X0.out) X0.out)
  go_wp2_with fail
  refine (CT2.out w2 HBW2.out).mono ?_
  rintro e u2 hp
  obtain ⟨G2, m2, c2, v2, rfl, -, hb2, -⟩ := hp.told
  generalize Ck.tyOf (Ck.tell h kids) = t2 at *
  have hbb := zN u2 (.cells #[.int .i8 t2.1, .slice G2 m2 c2] 25)
  have HBW3 := k0_ (HBW2.out.trans ((hb2.trans (hbb.mono hb2.size)).mono HBW2.out.size))
  clear hb2 hbb q0 q1 q2 q3 q4 q5 q6 q7 q8 q9 q10 ql
  go_upto_region 3 with fail
  generalize hw3 : u2.alloc (.cells #[.int .i8 t2.1, .slice G2 m2 c2] 25) = w3 at *
  clear hw3
  generalize u2.heap.size = S2 at *
  obtain ⟨q0, q1, q2, q3, q4, q5, q6, q7, q8, q9, q10, ql⟩ := zK (zB HBW3.out (zC X0.out) X0.out)
  go_wp2_with fail
  refine (CS.out w3 HBW3.out).mono ?_
  rintro e w4 ⟨rfl, hb4⟩
  have HB4 := kt_ HBW3 hb4
  clear hb4 q0 q1 q2 q3 q4 q5 q6 q7 q8 q9 q10 ql
  go_wp2_with fail
  go_ret
  exact ⟨rfl, HB0.out.trans (HB4.out.mono HB0.out.size)⟩
 | none =>
  have hs := St.yA hr
  rw [show (none : Option (Int × Int)).isNone = true from rfl] at hs
  rw [hs] at CS
  obtain ⟨ht, hkn⟩ := St.yc hr
  rw [ht] at CT1
  clear hr hs ht
  cases hR : Ck.tell h kids with
  | bad E q x =>
   rw [hR] at CT1 CT2
   clear hR hkn
   go_enter Tryz.func3, Tryz.ntmps3
   go_upto_region 1 with fail
   rw [HW1.out]
   obtain ⟨q0, q1, q2, q3, q4, q5, q6, q7, q8, q9, q10, ql⟩ := zK X0.out
   go_wp2_with fail
   refine CT1.out.mono ?_
   rintro e u1 hp
   obtain ⟨g1, rfl, hf1, hg1, hb1⟩ := hp
   have hbb := zN u1 (.cells #[.int .i8 0, .slice none 0 0] 25)
   have hbx := hb1.trans (hbb.mono hb1.size)
   have HX1 := k0_ (zD u1 (.cells #[.int .i8 0, .slice none 0 0] 25))
   have HBW2 := k0_ hbx
   have HF1 := k0_ (zB hbb (zC hf1) hf1)
   clear hf1 hg1 hb1 hbb hbx q0 q1 q2 q3 q4 q5 q6 q7 q8 q9 q10 ql
   go_upto_region 2 with fail
   generalize hw2 : u1.alloc (.cells #[.int .i8 0, .slice none 0 0] 25) = w2 at *
   clear hw2
   generalize u1.heap.size = S1 at *
   obtain ⟨q0, q1, q2, q3, q4, q5, q6, q7, q8, q9, q10, ql⟩ := zK (zB HBW2.out (zC X0.out) X0.out)
   go_wp2_with fail
   refine (CT2.out w2 HBW2.out).mono ?_
   rintro e u2 hp
   obtain ⟨g2, rfl, hf2, hg2, hb2⟩ := hp
   have hbb := zN u2 (.cells #[.int .i8 0, .slice none 0 0] 25)
   have hbx := hb2.trans (hbb.mono hb2.size)
   have HBW3 := kt_ HBW2 hbx
   have HX1 := kp_ hbx HX1
   have HF1 := kp_ hbx HF1
   have HX2 := k0_ (zD u2 (.cells #[.int .i8 0, .slice none 0 0] 25))
   have HF2 := k0_ (zB hbb (zC hf2) hf2)
   clear hf2 hg2 hb2 hbb hbx q0 q1 q2 q3 q4 q5 q6 q7 q8 q9 q10 ql
   go_upto_region 3 with fail
   generalize hw3 : u2.alloc (.cells #[.int .i8 0, .slice none 0 0] 25) = w3 at *
   clear hw3
   generalize u2.heap.size = S2 at *
   obtain ⟨q0, q1, q2, q3, q4, q5, q6, q7, q8, q9, q10, ql⟩ := zK (zB HBW3.out (zC X0.out) X0.out)
   go_wp2_with fail
   refine (CS.out w3 HBW3.out).mono ?_
   rintro e w4 ⟨rfl, hb4⟩
   have HB4 := kt_ HBW3 hb4
   have HX1 := kp_ hb4 HX1
   have HX2 := kp_ hb4 HX2
   have HF1 := kp_ hb4 HF1
   have HF2 := kp_ hb4 HF2
   clear hb4 q0 q1 q2 q3 q4 q5 q6 q7 q8 q9 q10 ql
   have CF1 := k0_ (yM g1 E q x w4 HF1.out (HE.out.below HB4.out))
   go_wp2_with fail
   refine CF1.out.mono ?_
   rintro e u5 ⟨rfl, hb5⟩
   have hbb := zN u5 (.cells #[.int .i64 E, .int .i64 q, .string x] 37)
   have hb56 := hb5.trans (hbb.mono hb5.size)
   have HBW6 := kt_ HB4 hb56
   have HX5 := k0_ (zD u5 (.cells #[.int .i64 E, .int .i64 q, .string x] 37))
   have HX1 := kp_ hb56 HX1
   have HX2 := kp_ hb56 HX2
   have HF2 := kp_ hb56 HF2
   clear hb5 hbb hb56
   go_upto_region 8 with fail
   generalize hw6 : u5.alloc (.cells #[.int .i64 E, .int .i64 q, .string x] 37) = w6 at *
   clear hw6
   generalize u5.heap.size = S5 at *
   have CF2 := k0_ (yM g2 E q x w6 HF2.out (HE.out.below HBW6.out))
   go_wp2_with fail
   refine CF2.out.mono ?_
   rintro e u7 ⟨rfl, hb7⟩
   have hbb := zN u7 (.cells #[.int .i64 E, .int .i64 q, .string x] 37)
   have hb78 := hb7.trans (hbb.mono hb7.size)
   have HBW8 := kt_ HBW6 hb78
   have HX7 := k0_ (zD u7 (.cells #[.int .i64 E, .int .i64 q, .string x] 37))
   have HX1 := kp_ hb78 HX1
   have HX2 := kp_ hb78 HX2
   have HX5 := kp_ hb78 HX5
   clear hb7 hbb hb78
   go_upto_region 9 with fail
   generalize hw8 : u7.alloc (.cells #[.int .i64 E, .int .i64 q, .string x] 37) = w8 at *
   clear hw8
   generalize u7.heap.size = S7 at *
   have HK := k0_ (fun (W : World) => yK 1 0 .nil none 0 0 0 .nil none 0 0 W (by decide) (Ty.qW W) (Ty.qW W))
   rw [show Ty.eqT 0 .nil 0 .nil = true by decide] at HK
   obtain ⟨a0, a1, -, -, al⟩ := zH HX1.out
   obtain ⟨b0, b1, -, -, bl⟩ := zH HX2.out
   obtain ⟨s0, s1, s2, -, -, -, sl⟩ := zAx HX5.out
   obtain ⟨t0, t1, t2, -, -, -, tl⟩ := zAx HX7.out
   go_wp2_with fail
   refine (HK.out w8).mono ?_
   rintro e w9 ⟨rfl, hb9⟩
   have HB9 := kt_ HBW8 hb9
   clear hb9 a0 a1 al b0 b1 bl s0 s1 s2 sl t0 t1 t2 tl
   go_wp2_with fail
   go_ret
   exact ⟨rfl, HB0.out.trans (HB9.out.mono HB0.out.size)⟩
  | ok a =>
   have hka := hkn a hR
   have hca : Ty.chk a.1 a.2 = 0 := Ck.zBk hR
   have hknown : Ty.knownT a.1 a.2 = true := by unfold Ty.knownT; rw [hca, hka]; rfl
   rw [hR] at CT1 CT2
   clear hR hkn hka hca
   go_enter Tryz.func3, Tryz.ntmps3
   go_upto_region 1 with fail
   rw [HW1.out]
   obtain ⟨q0, q1, q2, q3, q4, q5, q6, q7, q8, q9, q10, ql⟩ := zK X0.out
   go_wp2_with fail
   refine CT1.out.mono ?_
   rintro e u1 hp
   obtain ⟨G1, m1, c1, rfl, hl1, hb1⟩ := hp
   have hbb := zN u1 (.cells #[.int .i8 a.1, .slice G1 m1 c1] 25)
   have hbx := hb1.trans (hbb.mono hb1.size)
   have HX1 := k0_ (zD u1 (.cells #[.int .i8 a.1, .slice G1 m1 c1] 25))
   have HBW2 := k0_ hbx
   have HL1 := k0_ (((Ck.Ly.weak (Q' := fun _ => True) hl1 (fun _ _ _ => trivial)).later hbb))
   clear hl1 hb1 hbb hbx q0 q1 q2 q3 q4 q5 q6 q7 q8 q9 q10 ql
   go_upto_region 2 with fail
   generalize hw2 : u1.alloc (.cells #[.int .i8 a.1, .slice G1 m1 c1] 25) = w2 at *
   clear hw2
   generalize u1.heap.size = S1 at *
   obtain ⟨q0, q1, q2, q3, q4, q5, q6, q7, q8, q9, q10, ql⟩ := zK (zB HBW2.out (zC X0.out) X0.out)
   go_wp2_with fail
   refine (CT2.out w2 HBW2.out).mono ?_
   rintro e u2 hp
   obtain ⟨G2, m2, c2, rfl, hl2, hb2⟩ := hp
   have hbb := zN u2 (.cells #[.int .i8 a.1, .slice G2 m2 c2] 25)
   have hbx := hb2.trans (hbb.mono hb2.size)
   have HBW3 := kt_ HBW2 hbx
   have HX1 := kp_ hbx HX1
   have HL1 := Ck.kl_ HL1 hbx
   have HX2 := k0_ (zD u2 (.cells #[.int .i8 a.1, .slice G2 m2 c2] 25))
   have HL2 := k0_ (((Ck.Ly.weak (Q' := fun _ => True) hl2 (fun _ _ _ => trivial)).later hbb))
   clear hl2 hb2 hbb hbx q0 q1 q2 q3 q4 q5 q6 q7 q8 q9 q10 ql
   go_upto_region 3 with fail
   generalize hw3 : u2.alloc (.cells #[.int .i8 a.1, .slice G2 m2 c2] 25) = w3 at *
   clear hw3
   generalize u2.heap.size = S2 at *
   obtain ⟨q0, q1, q2, q3, q4, q5, q6, q7, q8, q9, q10, ql⟩ := zK (zB HBW3.out (zC X0.out) X0.out)
   go_wp2_with fail
   refine (CS.out w3 HBW3.out).mono ?_
   rintro e w4 ⟨rfl, hb4⟩
   have HB4 := kt_ HBW3 hb4
   have HX1 := kp_ hb4 HX1
   have HX2 := kp_ hb4 HX2
   have HL1 := Ck.kl_ HL1 hb4
   have HL2 := Ck.kl_ HL2 hb4
   clear hb4 q0 q1 q2 q3 q4 q5 q6 q7 q8 q9 q10 ql
   have CK := k0_ (wG a.1 a.2 G1 m1 c1 w4 HL1.out.is (HG.out.below HB4.out).types)
   rw [hknown] at CK
   clear hknown
   obtain ⟨a0, a1, -, -, al⟩ := zH HX1.out
   go_wp2_with fail
   refine CK.out.mono ?_
   rintro e w5 ⟨rfl, hb5⟩
   have HB5 := kt_ HB4 hb5
   have HX1 := kp_ hb5 HX1
   have HX2 := kp_ hb5 HX2
   have HL1 := Ck.kl_ HL1 hb5
   have HL2 := Ck.kl_ HL2 hb5
   clear hb5 a0 a1 al
   obtain ⟨q0, q1, q2, q3, q4, q5, q6, q7, q8, q9, q10, ql⟩ := zK (zB HB5.out (zC X0.out) X0.out)
   go_wp2_with fail
   refine (CS.out w5 HB5.out).mono ?_
   rintro e w6 ⟨rfl, hb6⟩
   have HB6 := kt_ HB5 hb6
   have HX1 := kp_ hb6 HX1
   have HX2 := kp_ hb6 HX2
   have HL1 := Ck.kl_ HL1 hb6
   have HL2 := Ck.kl_ HL2 hb6
   clear hb6 q0 q1 q2 q3 q4 q5 q6 q7 q8 q9 q10 ql
   have CN := k0_ zBC
   go_wp2_with fail
   refine (CN.out w6).mono ?_
   rintro e u7 ⟨rfl, hb7⟩
   have hbb := zN u7 (.cells #[.int .i64 0, .int .i64 0, .string ⟨#[]⟩] 37)
   have hbx := hb7.trans (hbb.mono hb7.size)
   have HBW8 := kt_ HB6 hbx
   have HX7 := k0_ (zD u7 (.cells #[.int .i64 0, .int .i64 0, .string ⟨#[]⟩] 37))
   have HX1 := kp_ hbx HX1
   have HX2 := kp_ hbx HX2
   have HL1 := Ck.kl_ HL1 hbx
   have HL2 := Ck.kl_ HL2 hbx
   clear hb7 hbb hbx
   go_upto_region 8 with fail
   generalize hw8 : u7.alloc (.cells #[.int .i64 0, .int .i64 0, .string ⟨#[]⟩] 37) = w8 at *
   clear hw8
   generalize u7.heap.size = S7 at *
   go_wp2_with fail
   refine (CN.out w8).mono ?_
   rintro e u9 ⟨rfl, hb9⟩
   have hbb := zN u9 (.cells #[.int .i64 0, .int .i64 0, .string ⟨#[]⟩] 37)
   have hbx := hb9.trans (hbb.mono hb9.size)
   have HBWa := kt_ HBW8 hbx
   have HX9 := k0_ (zD u9 (.cells #[.int .i64 0, .int .i64 0, .string ⟨#[]⟩] 37))
   have HX7 := kp_ hbx HX7
   have HX1 := kp_ hbx HX1
   have HX2 := kp_ hbx HX2
   have HL1 := Ck.kl_ HL1 hbx
   have HL2 := Ck.kl_ HL2 hbx
   clear hb9 hbb hbx
   go_upto_region 9 with fail
   generalize hwa : u9.alloc (.cells #[.int .i64 0, .int .i64 0, .string ⟨#[]⟩] 37) = wa at *
   clear hwa
   generalize u9.heap.size = S9 at *
   have HK := k0_ (yK (Ty.nodes a.2 + 1) a.1 a.2 G1 m1 c1 a.1 a.2 G2 m2 c2 wa (Nat.lt_succ_self _) HL1.out.is HL2.out.is)
   rw [show Ty.eqT a.1 a.2 a.1 a.2 = true from by unfold Ty.eqT; simp [Ty.kI]] at HK
   obtain ⟨a0, a1, -, -, al⟩ := zH HX1.out
   obtain ⟨b0, b1, -, -, bl⟩ := zH HX2.out
   obtain ⟨s0, s1, s2, -, -, -, sl⟩ := zAx HX7.out
   obtain ⟨t0, t1, t2, -, -, -, tl⟩ := zAx HX9.out
   go_wp2_with fail
   refine HK.out.mono ?_
   rintro e wb ⟨rfl, hbz⟩
   have HBz := kt_ HBWa hbz
   clear hbz a0 a1 al b0 b1 bl s0 s1 s2 sl t0 t1 t2 tl
   go_wp2_with fail
   go_ret
   exact ⟨rfl, HB0.out.trans (HBz.out.mono HB0.out.size)⟩
end Go.Proofs.YtglgjaomneljbacGreatDoor
