import Derived.Test.YtepmjknljbafgaaGreatDoorM33
import Derived.Test.YtepmjknljbafgaaGreatDoorM20
namespace Go.Proofs.YtepmjknljbafgaaGreatDoor
set_option maxHeartbeats 4000000
set_option maxRecDepth 100000
open Go.RowKit
theorem zEw (w : World) : (binOp .eql 32 .nilIface .nilIface).run Tryz.prog w = .ok (.bool true) w := by kernel_rfl
theorem zGF (v : Value) (w : World) : Calls Tryz.prog 8 #[.nilIface, v] w fun e w' => e = .returned (.bool false) /\ w = w' := by
  have e1 := zEw
  go_enter Tryz.func8, Tryz.ntmps8
  go_wp2_with fail
  go_ret
  exact ⟨rfl, rfl⟩
theorem zDh (s : ByteArray) (g : Hd) (u : Tm) (w : World) (hO : TxOut s (.ok g u)) (hG : TGlob w) :
    Calls Tryz.prog 4 #[.string s] w (Ck.TyPost w (Ck.tell g u)) := by
  have hb0 := zt w (.cells #[.int .i8 0, .slice none 0 0] 30);have hx0 := zF w (.cells #[.int .i8 0, .slice none 0 0] 30);have hsz : (w.alloc (.cells #[.int .i8 0, .slice none 0 0] 30)).heap.size = w.heap.size + 1 := by simp
  have C1 := k0_ (fun (W : World) (hb : Below w.heap.size w W) => zCy s W (hG.below hb));have CA := k0_ (fun (v : Value) (W : World) => zGF v W);have CT := k0_ (fun (W : World) (hb : Below w.heap.size w W) (p : Pl) (hI : Tm.Is W g u p) => zC2 g u p W hI (hG.below hb));have HO := k0_ hO;generalize Ck.tell g u = R at *;have HB0 := k0_ hb0;have X0 := k0_ hx0;clear hO hG hb0 hx0
  go_enter Tryz.func4, Tryz.ntmps4
  go_upto_region 1 with fail
  generalize hw1 : w.alloc (.cells #[.int .i8 0, .slice none 0 0] 30) = w1 at *;clear hw1
  go_wp2_with fail
  refine (C1.out _ HB0.out).mono ?_;rintro e w3 ⟨q, hq, hp⟩;obtain rfl := TxOut.det HO.out hq;obtain ⟨p, rfl, hf, hb3⟩ := hp;have hb4 : Below w3.heap.size w3 (w3.alloc (.cells (tC_ g p) 41)) := (Below.refl _ _).alloc (Nat.le_refl _) _;have hb34 := hb3.trans (hb4.mono hb3.size);have HB4 := kt_ HB0 hb34;have X4 := k0_ (zF w3 (.cells (tC_ g p) 41));have HI4 := k0_ (hf.is.below hb4);have Z4 := kp_ hb34 X0;clear hq hf hb3 hb4 hb34 C1 X0
  go_upto_region 2 with fail
  generalize hw4 : w3.alloc (.cells (tC_ g p) 41) = w4 at *;clear hw4;generalize w3.heap.size = B1 at *;have hb5 := zt w4 (.cells #[.pointer none] 44);have HB5 := kt_ HB4 hb5;have X5 := kp_ hb5 X4;have Z5 := kp_ hb5 Z4;have HI5 := k0_ (HI4.out.below hb5);clear hb5 X4 Z4 HI4
  go_upto_region 3 with fail
  generalize hw5 : w4.alloc (.cells #[.pointer none] 44) = w5 at *;clear hw5;generalize w4.heap.size = B2 at *
  go_wp2_with fail
  refine (CA.out _ _).mono ?_;rintro e w6 ⟨rfl, rfl⟩;obtain ⟨q0, q1, q2, q3, q4, q5, q6, q7, q8, q9, q10, ql⟩ := zS X5.out
  go_wp2_with fail
  refine (CT.out _ HB5.out p HI5.out).mono ?_;rintro e w7 hp;have hz5 := zD Z5.out
  cases R with
  | ok a =>
    obtain ⟨G, m, c, rfl, hL, hb7⟩ := hp;have hz7 := zB hb7 hz5 Z5.out;obtain ⟨x0, x1, f0, f1, xl⟩ := zK hz7;have HB7 := k0_ (zM (HB5.out.trans (hb7.mono HB5.out.size)) (Nat.le_refl _) (.int .i8 a.1) (.slice G m c));have hne : ∀ b, w5.heap.size <= b -> b ≠ w.heap.size := fun b hb => by omega
    have HL := k0_ ((hL.set2 (fun b hq => hne b hq) (.int .i8 a.1) (.slice G m c)).weak (fun b _ hq => show w.heap.size <= b by omega));have z1 := zY hz7 (.int .i8 a.1) (.slice G m c);clear hL hb7 hz7 q0 q1 q2 q3 q4 q5 q6 q7 q8 q9 q10 ql
    go_wp2_with fail
    generalize (w7.setCell ⟨w.heap.size, 0, none⟩ (.int .i8 a.1)).setCell ⟨w.heap.size, 1, none⟩ (.slice G m c) = w9 at *;obtain ⟨k0, k1, -, -, -⟩ := zK z1;exact bodyPost_ret (v := .tuple #[.agg #[.int .i8 a.1, .slice G m c], .nilIface]) (by simp [results, Tryz.results4, go_sem, k0, k1]) rfl ⟨G, m, c, rfl, HL.out, HB7.out⟩
  | bad E pp x =>
    obtain ⟨N, rfl, hf, hgl, hb7⟩ := hp;have hz7 := zB hb7 hz5 Z5.out;obtain ⟨x0, x1, f0, f1, xl⟩ := zK hz7;have HB7 := k0_ (zM (HB5.out.trans (hb7.mono HB5.out.size)) (Nat.le_refl _) (.int .i8 0) (.slice none 0 0));have HF := k0_ (zo hf (show w.heap.size ≠ N by omega) (.int .i8 0) (.slice none 0 0));have hgw : w.heap.size <= N := by omega
    have z1 := zY hz7 (.int .i8 0) (.slice none 0 0);clear hf hb7 hz7 hgl q0 q1 q2 q3 q4 q5 q6 q7 q8 q9 q10 ql
    go_wp2_with fail
    generalize (w7.setCell ⟨w.heap.size, 0, none⟩ (.int .i8 0)).setCell ⟨w.heap.size, 1, none⟩ (.slice none 0 0) = w9 at *;obtain ⟨k0, k1, -, -, -⟩ := zK z1;exact bodyPost_ret (v := .tuple #[.agg #[.int .i8 0, .slice none 0 0], (.iface 44 (.pointer (some ⟨N, 0, none⟩)))]) (by simp [results, Tryz.results4, go_sem, k0, k1]) rfl ⟨N, rfl, HF.out, hgw, HB7.out⟩
end Go.Proofs.YtepmjknljbafgaaGreatDoor
