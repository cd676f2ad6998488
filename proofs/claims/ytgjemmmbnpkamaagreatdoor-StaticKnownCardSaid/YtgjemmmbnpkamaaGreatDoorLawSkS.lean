import Derived.Test.YtgjemmmbnpkamaaGreatDoorSkS
import Derived.Test.YtgjemmmbnpkamaaGreatDoorM34
import Derived.Test.YtgjemmmbnpkamaaGreatDoorTold
namespace Go.Proofs.YtgjemmmbnpkamaaGreatDoor
open Go.RowKit
theorem zFk (w : World) : (binOp .neq 30 .nilIface .nilIface).run Tryz.prog w = .ok (.bool false) w := by kernel_rfl
theorem zFl (w : World) : (binOp .eql 30 .nilIface .nilIface).run Tryz.prog w = .ok (.bool true) w := by kernel_rfl
set_option maxHeartbeats 4000000 in
set_option maxRecDepth 100000 in
theorem law_StaticKnown (w : World) (hG : TGlob w) (hE : ErrT w) :
    Calls Tryz.prog 3 #[] w fun e w' => e = .returned (.bool true) ∧ Below w.heap.size w w' := by
  obtain ⟨g, u, a, hO1, hr1, ht1, ha1⟩ := Sh.zDM
  obtain ⟨g', u', hO2, hr2⟩ := Sh.zDL
  have hs1 : St.isStatic g u = true := by unfold St.isStatic; rw [hr1]; rfl
  have hs2 : St.isStatic g' u' = false := by unfold St.isStatic; rw [hr2]; rfl
  have ht2 : Cg.tellR St.ops (St.ref g' u') g' u' = .bad 110 0 Ck.e0 := by unfold Cg.tellR; rw [hr2]
  have C1 := k0_ (fun (W : World) (hb : Below w.heap.size w W) => show Calls Tryz.prog 4 #[.string ⟨#[92, 120, 58, 105, 110, 116, 46, 120]⟩] W (fun e w' => ∃ q, TxOut Sh.sx1 q ∧ TxPost W q e w') from xg Sh.sx1 W (hG.below hb))
  have C2 := k0_ (fun (W : World) (hb : Below w.heap.size w W) => show Calls Tryz.prog 4 #[.string ⟨#[92, 120, 58, 63, 46, 120]⟩] W (fun e w' => ∃ q, TxOut Sh.sx2 q ∧ TxPost W q e w') from xg Sh.sx2 W (hG.below hb))
  have S1 := k0_ (fun (W : World) (hb : Below w.heap.size w W) (p : Pl) (hI : Tm.Is W g u p) => kX g u p W hI (hG.below hb))
  have S2 := k0_ (fun (W : World) (hb : Below w.heap.size w W) (p : Pl) (hI : Tm.Is W g' u' p) => kX g' u' p W hI (hG.below hb))
  have T1 := k0_ (fun (W : World) (hb : Below w.heap.size w W) (p : Pl) (hI : Tm.Is W g u p) => yH g u p W hI (hG.below hb))
  have T2 := k0_ (fun (W : World) (hb : Below w.heap.size w W) (p : Pl) (hI : Tm.Is W g' u' p) => yH g' u' p W hI (hG.below hb))
  rw [hs1] at S1
  rw [hs2] at S2
  rw [ht1] at T1
  rw [ht2] at T2
  have FO := k0_ (fun (W : World) (hb : Below w.heap.size w W) (N : Nat) (hN : W.heap[N]? = some (.cells #[.int .i64 110, .int .i64 0, .string Ck.e0] 61 (0, 0))) => zCg N 110 0 Ck.e0 W hN (hE.below hb))
  have HO1 := k0_ hO1
  have HO2 := k0_ hO2
  have e1 := zFk
  have e2 := zFl
  clear hG hE hO1 hO2 hr1 hr2 ht1 ht2 hs1 hs2
  have HA1 := k0_ ha1
  clear ha1
  go_enter Tryz.func3, Tryz.ntmps3
  go_wp2_with fail
  refine (C1.out _ (Below.refl _ _)).mono ?_
  rintro e w3 ⟨q, hq, hp⟩
  obtain rfl := TxOut.det HO1.out hq
  obtain ⟨p, rfl, hf, hb3⟩ := hp
  have hb4 : Below w3.heap.size w3 (w3.alloc (.cells (tC_ g p) 28)) := (Below.refl _ _).alloc (Nat.le_refl _) _
  have HB4 := k0_ (hb3.trans (hb4.mono hb3.size))
  have X4 := k0_ (zF w3 (.cells (tC_ g p) 28))
  have HI4 := k0_ (hf.is.below hb4)
  clear hq hf hb3 hb4 C1
  go_upto_region 2 with fail
  generalize hw4 : w3.alloc (.cells (tC_ g p) 28) = w4 at *
  clear hw4
  generalize w3.heap.size = B1 at *
  go_wp2_with fail
  refine (C2.out _ HB4.out).mono ?_
  rintro e w5 ⟨q, hq, hp⟩
  obtain rfl := TxOut.det HO2.out hq
  obtain ⟨p', rfl, hf, hb5⟩ := hp
  have hb6 : Below w5.heap.size w5 (w5.alloc (.cells (tC_ g' p') 28)) := (Below.refl _ _).alloc (Nat.le_refl _) _
  have hb56 := hb5.trans (hb6.mono hb5.size)
  have HB6 := kt_ HB4 hb56
  have X6 := kp_ hb56 X4
  have HI6 := k0_ (HI4.out.below hb56)
  have Y6 := k0_ (zF w5 (.cells (tC_ g' p') 28))
  have HJ6 := k0_ (hf.is.below hb6)
  clear hq hf hb5 hb6 hb56 C2 X4 HI4
  go_upto_region 3 with fail
  generalize hw6 : w5.alloc (.cells (tC_ g' p') 28) = w6 at *
  clear hw6
  generalize w5.heap.size = B2 at *
  obtain ⟨q0, q1, q2, q3, q4, q5, q6, q7, q8, q9, q10, ql⟩ := zN X6.out
  obtain ⟨y0, y1, y2, y3, y4, y5, y6, y7, y8, y9, y10, yl⟩ := zN Y6.out
  go_wp2_with fail
  refine (S1.out _ HB6.out p HI6.out).mono ?_
  rintro e w7 ⟨rfl, hb7⟩
  have HB7 := kt_ HB6 hb7
  have X7 := kp_ hb7 X6
  have HI7 := k0_ (HI6.out.below hb7)
  have Y7 := kp_ hb7 Y6
  have HJ7 := k0_ (HJ6.out.below hb7)
  clear hb7 q0 q1 q2 q3 q4 q5 q6 q7 q8 q9 q10 ql y0 y1 y2 y3 y4 y5 y6 y7 y8 y9 y10 yl X6 Y6 HI6 HJ6 S1
  obtain ⟨q0, q1, q2, q3, q4, q5, q6, q7, q8, q9, q10, ql⟩ := zN X7.out
  obtain ⟨y0, y1, y2, y3, y4, y5, y6, y7, y8, y9, y10, yl⟩ := zN Y7.out
  go_wp2_with fail
  refine (S2.out _ HB7.out p' HJ7.out).mono ?_
  rintro e w8 ⟨rfl, hb8⟩
  have HB8 := kt_ HB7 hb8
  have X8 := kp_ hb8 X7
  have HI8 := k0_ (HI7.out.below hb8)
  have Y8 := kp_ hb8 Y7
  have HJ8 := k0_ (HJ7.out.below hb8)
  clear hb8 q0 q1 q2 q3 q4 q5 q6 q7 q8 q9 q10 ql y0 y1 y2 y3 y4 y5 y6 y7 y8 y9 y10 yl X7 Y7 HI7 HJ7 S2
  obtain ⟨q0, q1, q2, q3, q4, q5, q6, q7, q8, q9, q10, ql⟩ := zN X8.out
  go_wp2_with fail
  refine (T1.out _ HB8.out p HI8.out).mono ?_
  rintro e u1 hp
  obtain ⟨G, m, c, rfl, hL, hb9⟩ := hp
  have hbb := za u1 (.cells #[.int .i8 a.1, .slice G m c] 25)
  have hb910 := hb9.trans (hbb.mono hb9.size)
  have HB10 := kt_ HB8 hb910
  have A10 := k0_ (zF u1 (.cells #[.int .i8 a.1, .slice G m c] 25))
  have Y10 := kp_ hb910 Y8
  have HJ10 := k0_ (HJ8.out.below hb910)
  clear hL hb9 hbb hb910 q0 q1 q2 q3 q4 q5 q6 q7 q8 q9 q10 ql X8 Y8 HI8 HJ8 T1
  go_upto_region 6 with fail
  generalize hw10 : u1.alloc (.cells #[.int .i8 a.1, .slice G m c] 25) = w10 at *
  clear hw10
  generalize u1.heap.size = B3 at *
  obtain ⟨y0, y1, y2, y3, y4, y5, y6, y7, y8, y9, y10, yl⟩ := zN Y10.out
  go_wp2_with fail
  refine (T2.out _ HB10.out p' HJ10.out).mono ?_
  rintro e w11 hp
  obtain ⟨N, rfl, hN, hge, hb11⟩ := hp
  have HB11 := kt_ HB10 hb11
  have A11 := kp_ hb11 A10
  have HN := k0_ hN
  clear hN hge hb11 y0 y1 y2 y3 y4 y5 y6 y7 y8 y9 y10 yl Y10 HJ10 T2 A10
  go_wp2_with fail
  refine (FO.out _ HB11.out N HN.out).mono ?_
  rintro e u12 ⟨rfl, hb12⟩
  have hbb := za u12 (.cells #[.int .i64 110, .int .i64 0, .string Ck.e0] 38)
  have hb13 := hb12.trans (hbb.mono hb12.size)
  have HB13 := kt_ HB11 hb13
  have A13 := kp_ hb13 A11
  have F13 := k0_ (zF u12 (.cells #[.int .i64 110, .int .i64 0, .string Ck.e0] 38))
  clear hb12 hbb hb13 A11 HN FO
  go_upto_region 8 with fail
  generalize hw13 : u12.alloc (.cells #[.int .i64 110, .int .i64 0, .string Ck.e0] 38) = w13 at *
  clear hw13
  generalize u12.heap.size = B4 at *
  obtain ⟨a0, a1, -, -, al⟩ := zM A13.out
  obtain ⟨s0, s1, s2, -, -, -, sl⟩ := zFr F13.out
  have ha := HA1.out
  rw [ha] at a0
  go_wp2_with fail
  go_ret
  exact ⟨rfl, HB13.out⟩
end Go.Proofs.YtgjemmmbnpkamaaGreatDoor
