import Derived.Test.YtkdnnleanoompaaGreatDoorM24
import Derived.Test.YtkdnnleanoompaaGreatDoorM29
import Derived.Test.YtkdnnleanoompaaGreatDoorTold
namespace Go.Proofs.YtkdnnleanoompaaGreatDoor
open Go.RowKit
theorem Ck.TyPost.says {w w' : World} {R : Ck.R} {e : Ending} (hp : Ck.TyPost w R e w') : ∃ G m c v, e = .returned (.tuple #[.agg #[.int .i8 (Qr.tyO R).1, .slice G m c], v]) /\ Ck.Ly (fun b => w.heap.size <= b) w' (Qr.tyO R) G m c /\ Below w.heap.size w w' /\ ∀ W : World, Below w'.heap.size w' W -> ErrT W -> Qr.Nz R ->
  Calls Tryz.prog 6 #[v, .agg #[.int .i64 (Qr.eO R), .int .i64 (Qr.pO R), .string (Qr.xO R)]] W fun e u => e = .returned (.bool true) /\ Below W.heap.size W u := by
 cases R with
 | ok a =>
  obtain ⟨G, m, c, rfl, hl, hb⟩ := hp;exact ⟨G, m, c, _, rfl, hl, hb, fun W _ _ _ => zDA W⟩
 | bad E p x =>
  obtain ⟨g, rfl, hf, hg, hb⟩ := hp;exact ⟨none, 0, 0, _, rfl, Ck.Ly.zero _ _, hb, fun W hw hE hn => zD9 g E p x (by simpa using hn E p x rfl) W (zA hw (zC hf) hf) hE⟩
theorem Ty.zE3 (k : Int) (f : Fo) : Ty.eqT k f k f = true := by unfold Ty.eqT; rw [Ty.yw, beq_self_eq_true]; rfl
set_option maxHeartbeats 2000000 in
set_option maxRecDepth 100000 in
theorem law_CheckType (h : Hd) (kids : Tm) (p : Pl) (w : World) (hI : Tm.Is w h kids p) (hG : TGlob w) (hE : ErrT w) :
  Calls Tryz.prog 3 #[.agg (tC_ h p)] w fun e w' => e = .returned (.bool true) /\ Below w.heap.size w w' := by
 try unfold tC_
 have hb0 := zX w (.cells (tC_ h p) 28);have x0 := zD w (.cells (tC_ h p) 28);generalize hw1 : w.alloc (.cells (tC_ h p) 28) = w1 at *;have HW1 := k0_ hw1;have HB0 := k0_ hb0;have X0 := k0_ x0;have HI := k0_ (hI.below hb0);have HG := k0_ (hG.below hb0);have HE := k0_ (hE.below hb0);have CT1 := k0_ (zBP h kids p w1 HI.out HG.out);have CT2 := k0_ (fun (W : World) (hb : Below w1.heap.size w1 W) => zCF h kids p W (HI.out.below hb));generalize Ck.tell h kids = R at *;clear hw1 hb0 x0 hI hG hE
 go_enter Tryz.func3, Tryz.ntmps3
 go_upto_region 1 with fail
 rw [HW1.out];obtain ⟨q0, q1, q2, q3, q4, q5, q6, q7, q8, q9, q10, ql⟩ := zJ X0.out
 go_wp2_with fail
 refine CT1.out.mono ?_;rintro e u1 hp;obtain ⟨G1, m1, c1, v1, rfl, hl1, hb1, htold⟩ := hp.says;have hbb := zX u1 (.cells #[.int .i8 (Qr.tyO R).1, .slice G1 m1 c1] 25);have hbx := hb1.trans (hbb.mono hb1.size);have HX1 := k0_ (zD u1 (.cells #[.int .i8 (Qr.tyO R).1, .slice G1 m1 c1] 25));have HL1 := k0_ (hl1.later hbb);have HTD := k0_ (fun (W : World) (hb : Below (u1.alloc (.cells #[.int .i8 (Qr.tyO R).1, .slice G1 m1 c1] 25)).heap.size (u1.alloc (.cells #[.int .i8 (Qr.tyO R).1, .slice G1 m1 c1] 25)) W) => htold W (hbb.trans (hb.mono hbb.size)));have HBW2 := k0_ hbx;clear hl1 hb1 hbb hbx htold hp q0 q1 q2 q3 q4 q5 q6 q7 q8 q9 q10 ql
 go_upto_region 2 with fail
 generalize hw2 : u1.alloc (.cells #[.int .i8 (Qr.tyO R).1, .slice G1 m1 c1] 25) = w2 at *;clear hw2;generalize u1.heap.size = S1 at *;obtain ⟨q0, q1, q2, q3, q4, q5, q6, q7, q8, q9, q10, ql⟩ := zJ (zA HBW2.out (zC X0.out) X0.out)
 go_wp2_with fail
 refine (CT2.out w2 HBW2.out).mono ?_;rintro e u2 hp;obtain ⟨hnz, G2, m2, c2, rfl, hl2, hb2⟩ := hp;have hbb := zZ u2 (.cells #[.int .i8 (Qr.tyO R).1, .slice G2 m2 c2] 25) (.cells #[.int .i64 (Qr.eO R), .int .i64 (Qr.pO R), .string (Qr.xO R)] 35);have hbx := hb2.trans (hbb.mono hb2.size);have HX2 := k0_ (zT u2 (.cells #[.int .i8 (Qr.tyO R).1, .slice G2 m2 c2] 25) (.cells #[.int .i64 (Qr.eO R), .int .i64 (Qr.pO R), .string (Qr.xO R)] 35)).1;have HX3 := k0_ (zT u2 (.cells #[.int .i8 (Qr.tyO R).1, .slice G2 m2 c2] 25) (.cells #[.int .i64 (Qr.eO R), .int .i64 (Qr.pO R), .string (Qr.xO R)] 35)).2;have HX1 := kp_ hbx HX1;have HL1 := Ck.kl_ HL1 hbx;have HL2 := k0_ (hl2.later hbb);have HBW3 := kt_ HBW2 hbx;have CTD := k0_ (HTD.out _ hbx (HE.out.below HBW3.out) hnz);clear hl2 hb2 hbb hbx hnz HTD q0 q1 q2 q3 q4 q5 q6 q7 q8 q9 q10 ql
 go_upto_region 3 with fail
 generalize hw3 : (u2.alloc (.cells #[.int .i8 (Qr.tyO R).1, .slice G2 m2 c2] 25)).alloc (.cells #[.int .i64 (Qr.eO R), .int .i64 (Qr.pO R), .string (Qr.xO R)] 35) = w3 at *;clear hw3;generalize u2.heap.size = S2 at *;have CK := k0_ (fun (W : World) (hb : Below w3.heap.size w3 W) => zCO (Ty.nodes (Qr.tyO R).2 + 1) (Qr.tyO R).1 (Qr.tyO R).2 G1 m1 c1 (Qr.tyO R).1 (Qr.tyO R).2 G2 m2 c2 W (Nat.lt_succ_self _) (HL1.out.later hb).is (HL2.out.later hb).is);have hself : Ty.eqT (Qr.tyO R).1 (Qr.tyO R).2 (Qr.tyO R).1 (Qr.tyO R).2 = true := Ty.zE3 _ _;rw [hself] at CK;clear hself;obtain ⟨a0, a1, -, -, al⟩ := zF HX1.out;obtain ⟨b0, b1, -, -, bl⟩ := zF HX2.out;obtain ⟨f0, f1, f2, -, -, -, fl⟩ := cells3 HX3.out
 go_wp2_with fail
 refine CTD.out.mono ?_;rintro e w4 ⟨rfl, hb4⟩;have HB4 := kt_ HBW3 hb4;have C4 := k0_ (CK.out w4 hb4);have HX1 := kp_ hb4 HX1;have HX2 := kp_ hb4 HX2;clear hb4 a0 a1 al b0 b1 bl f0 f1 f2 fl;obtain ⟨a0, a1, -, -, al⟩ := zF HX1.out;obtain ⟨b0, b1, -, -, bl⟩ := zF HX2.out
 go_wp2_with fail
 refine C4.out.mono ?_;rintro e w5 ⟨rfl, hb5⟩;have HB5 := kt_ HB4 hb5;clear hb5 a0 a1 al b0 b1 bl
 go_wp2_with fail
 go_ret
 exact ⟨rfl, HB0.out.trans (HB5.out.mono HB0.out.size)⟩
end Go.Proofs.YtkdnnleanoompaaGreatDoor
