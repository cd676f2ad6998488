import Derived.Test.YtglgjaomneljbaaGreatDoorM26
import Derived.Test.YtglgjaomneljbaaGreatDoorTold
namespace Go.Proofs.YtglgjaomneljbaaGreatDoor
open Go.RowKit
theorem Ck.TyPost.says {w w' : World} {R : Ck.R} {e : Ending} (hp : Ck.TyPost w R e w') : ∃ G m c v, e = .returned (.tuple #[.agg #[.int .i8 (Qr.tyO R).1, .slice G m c], v]) /\ Ck.Ly (fun b => w.heap.size <= b) w' (Qr.tyO R) G m c /\ Below w.heap.size w w' /\ ∀ W : World, Below w'.heap.size w' W -> ErrT W -> Qr.Nz R ->
  Calls Tryz.prog 6 #[v, .agg #[.int .i64 (Qr.eO R), .int .i64 (Qr.pO R), .string (Qr.xO R)]] W fun e u => e = .returned (.bool true) /\ Below W.heap.size W u := by
 cases R with
 | ok a =>
  obtain ⟨G, m, c, rfl, hl, hb⟩ := hp;exact ⟨G, m, c, _, rfl, hl, hb, fun W _ _ _ => zCk W⟩
 | bad E p x =>
  obtain ⟨g, rfl, hf, hg, hb⟩ := hp;exact ⟨none, 0, 0, _, rfl, Ck.Ly.zero _ _, hb, fun W hw hE hn => zCj g E p x (by simpa using hn E p x rfl) W (zA hw (zC hf) hf) hE⟩
theorem Ty.zDc (k : Int) (f : Fo) : Ty.eqT k f k f = true := by unfold Ty.eqT; rw [Ty.yS, beq_self_eq_true]; rfl
set_option maxHeartbeats 2000000 in
set_option maxRecDepth 100000 in
theorem law_StaticType (h : Hd) (kids : Tm) (p : Pl) (w : World) (hI : Tm.Is w h kids p) (hG : TGlob w) (hE : ErrT w) :
  Calls Tryz.prog 3 #[.agg (tC_ h p)] w fun e w' => e = .returned (.bool true) /\ Below w.heap.size w w' := by
 try unfold tC_
 have hb0 := zO w (.cells (tC_ h p) 28);have x0 := zD w (.cells (tC_ h p) 28);generalize hw1 : w.alloc (.cells (tC_ h p) 28) = w1 at *;have HW1 := k0_ hw1;have HB0 := k0_ hb0;have X0 := k0_ x0;have HI := k0_ (hI.below hb0);have HG := k0_ (hG.below hb0);have HE := k0_ (hE.below hb0);have CT1 := k0_ (zA8 h kids p w1 HI.out HG.out);have CT2 := k0_ (fun (W : World) (hb : Below w1.heap.size w1 W) => uK h kids p W (HI.out.below hb));have CS1 := k0_ (fun (W : World) (hb : Below w1.heap.size w1 W) => uB h kids p W (HI.out.below hb) (HG.out.below hb));have CS2 := k0_ (fun (W : World) (hb : Below w1.heap.size w1 W) => uJ h kids p W (HI.out.below hb));generalize St.isStatic h kids = OK at *;generalize Cg.tellR St.ops (St.ref h kids) h kids = R at *;clear hw1 hb0 x0 hI hG hE
 go_enter Tryz.func3, Tryz.ntmps3
 go_upto_region 1 with fail
 rw [HW1.out];obtain ⟨q0, q1, q2, q3, q4, q5, q6, q7, q8, q9, q10, ql⟩ := zJ X0.out
 go_wp2_with fail
 refine CT1.out.mono ?_;rintro e u1 hp;obtain ⟨G1, m1, c1, v1, rfl, hl1, hb1, htold⟩ := hp.says;have hbb := zO u1 (.cells #[.int .i8 (Qr.tyO R).1, .slice G1 m1 c1] 25);have hbx := hb1.trans (hbb.mono hb1.size);have HX1 := k0_ (zD u1 (.cells #[.int .i8 (Qr.tyO R).1, .slice G1 m1 c1] 25));have HL1 := k0_ (hl1.later hbb);have HTD := k0_ (fun (W : World) (hb : Below (u1.alloc (.cells #[.int .i8 (Qr.tyO R).1, .slice G1 m1 c1] 25)).heap.size (u1.alloc (.cells #[.int .i8 (Qr.tyO R).1, .slice G1 m1 c1] 25)) W) => htold W (hbb.trans (hb.mono hbb.size)));have HBW2 := k0_ hbx;clear hl1 hb1 hbb hbx htold hp q0 q1 q2 q3 q4 q5 q6 q7 q8 q9 q10 ql
 go_upto_region 2 with fail
 generalize hw2 : u1.alloc (.cells #[.int .i8 (Qr.tyO R).1, .slice G1 m1 c1] 25) = w2 at *;clear hw2;generalize u1.heap.size = S1 at *;obtain ⟨q0, q1, q2, q3, q4, q5, q6, q7, q8, q9, q10, ql⟩ := zJ (zA HBW2.out (zC X0.out) X0.out)
 go_wp2_with fail
 refine (CT2.out w2 HBW2.out).mono ?_;rintro e u2 hp;obtain ⟨hnz, G2, m2, c2, rfl, hl2, hb2⟩ := hp;have hbb := zW u2 (.cells #[.int .i8 (Qr.tyO R).1, .slice G2 m2 c2] 25) (.cells #[.int .i64 (Qr.eO R), .int .i64 (Qr.pO R), .string (Qr.xO R)] 35);have hbx := hb2.trans (hbb.mono hb2.size);have HX2 := k0_ (zS u2 (.cells #[.int .i8 (Qr.tyO R).1, .slice G2 m2 c2] 25) (.cells #[.int .i64 (Qr.eO R), .int .i64 (Qr.pO R), .string (Qr.xO R)] 35)).1;have HX3 := k0_ (zS u2 (.cells #[.int .i8 (Qr.tyO R).1, .slice G2 m2 c2] 25) (.cells #[.int .i64 (Qr.eO R), .int .i64 (Qr.pO R), .string (Qr.xO R)] 35)).2;have HX1 := kp_ hbx HX1;have HL1 := Ck.kl_ HL1 hbx;have HL2 := k0_ (hl2.later hbb);have HBW3 := kt_ HBW2 hbx;have HTD2 := k0_ (fun (W : World) (hb : Below ((u2.alloc (.cells #[.int .i8 (Qr.tyO R).1, .slice G2 m2 c2] 25)).alloc (.cells #[.int .i64 (Qr.eO R), .int .i64 (Qr.pO R), .string (Qr.xO R)] 35)).heap.size ((u2.alloc (.cells #[.int .i8 (Qr.tyO R).1, .slice G2 m2 c2] 25)).alloc (.cells #[.int .i64 (Qr.eO R), .int .i64 (Qr.pO R), .string (Qr.xO R)] 35)) W) (hE : ErrT W) => HTD.out W (hbx.trans (hb.mono hbx.size)) hE hnz);clear hl2 hb2 hbb hbx hnz HTD q0 q1 q2 q3 q4 q5 q6 q7 q8 q9 q10 ql
 go_upto_region 3 with fail
 generalize hw3 : (u2.alloc (.cells #[.int .i8 (Qr.tyO R).1, .slice G2 m2 c2] 25)).alloc (.cells #[.int .i64 (Qr.eO R), .int .i64 (Qr.pO R), .string (Qr.xO R)] 35) = w3 at *;clear hw3;generalize u2.heap.size = S2 at *;have CK := k0_ (fun (W : World) (hb : Below w3.heap.size w3 W) => zC3 (Ty.nodes (Qr.tyO R).2 + 1) (Qr.tyO R).1 (Qr.tyO R).2 G1 m1 c1 (Qr.tyO R).1 (Qr.tyO R).2 G2 m2 c2 W (Nat.lt_succ_self _) (HL1.out.later hb).is (HL2.out.later hb).is);have hself : Ty.eqT (Qr.tyO R).1 (Qr.tyO R).2 (Qr.tyO R).1 (Qr.tyO R).2 = true := Ty.zDc _ _;rw [hself] at CK;clear hself
 go_wp2_with fail
 have D1 := k0_ (fun (u : World) (hE : Below w3.heap.size w3 u) => HTD2.out u hE (HE.out.below (HBW3.out.trans (hE.mono HBW3.out.size))));have D2 := k0_ (fun (u : World) (hE : Below w3.heap.size w3 u) => CK.out u hE);have D3 := k0_ (fun (u : World) (hE : Below w3.heap.size w3 u) => CS1.out u (HBW3.out.trans (hE.mono HBW3.out.size)));have D4 := k0_ (fun (u : World) (hE : Below w3.heap.size w3 u) => CS2.out u (HBW3.out.trans (hE.mono HBW3.out.size)));have hOO : (OK == OK) = true := by simp
 obtain ⟨a0, a1, -, -, -⟩ := zF HX1.out;obtain ⟨b0, b1, -, -, -⟩ := zF HX2.out;obtain ⟨f0, f1, f2, -, -, -, -⟩ := cells3 HX3.out;obtain ⟨q0, q1, q2, q3, q4, q5, q6, q7, q8, q9, q10, ql⟩ := zJ (zA HBW3.out (zC X0.out) X0.out);have La0 := zP a0;have La1 := zP a1;have Lb0 := zP b0;have Lb1 := zP b1;have Lf0 := zP f0;have Lf1 := zP f1;have Lf2 := zP f2;have Lq0 := zP q0;have Lq1 := zP q1;have Lq2 := zP q2;have Lq3 := zP q3;have Lq4 := zP q4;have Lq5 := zP q5;have Lq6 := zP q6;have Lq7 := zP q7;have Lq8 := zP q8;have Lq9 := zP q9;have Lq10 := zP q10;clear a0 a1 b0 b1 f0 f1 f2 q0 q1 q2 q3 q4 q5 q6 q7 q8 q9 q10 ql;refine jO (by kernel_rfl) (by kernel_rfl) ?_
 repeat
  first
   | go_big_quiet_skip
   | (go_big_quiet_want
      go_big_quiet_op
      first
       | go_big_quiet_on
       | (refine ⟨_, fun _ => rfl, ?_⟩
          go_big_quiet_on)
       | (apply Exists.intro
          refine ⟨fun h => ?_, ?_⟩
          ·first
            | (go_at_call 6; with_reducible exact qU h (D1.out h.u h.low))
            | (go_at_call 7; with_reducible exact qU h (D2.out h.u h.low))
            | (go_at_call 8; with_reducible exact qU h (D3.out h.u h.low))
            | (go_at_call 9; with_reducible exact qU h (D4.out h.u h.low))
          go_big_quiet_on))
 refine wpQuiet_nil ?_;rintro w5 ⟨⟨_, E5⟩, rfl⟩;have HB5 := kt_ HBW3 E5;clear E5 La0 La1 Lb0 Lb1 Lf0 Lf1 Lf2 Lq0 Lq1 Lq2 Lq3 Lq4 Lq5 Lq6 Lq7 Lq8 Lq9 Lq10
 go_wp2_with fail
 go_ret
 exact ⟨rfl, HB0.out.trans (HB5.out.mono HB0.out.size)⟩
end Go.Proofs.YtglgjaomneljbaaGreatDoor
