import Derived.Test.YtglgjaomneljbaaGreatDoorM23
import Derived.Test.YtglgjaomneljbaaGreatDoorM29
namespace Go.Proofs.YtglgjaomneljbaaGreatDoor
set_option maxHeartbeats 8000000
set_option maxRecDepth 100000
open Go.RowKit
theorem Ck.wI (Q : Nat -> Prop) (w : World) (k : Int) (hk : -128 <= k /\ k <= 127) : Ck.Ly Q w (k, .nil) none 0 0 := fun u _ => qw hk u
theorem zAQ (qv : Qr.Qv) (Q : Nat -> Prop) (h : Hd) (p : Pl) (l : Ck.Env) (A : Option Addr) (n c : Nat) (w : World) (hE : Ck.EAt Q w l A n c) (hk : h.kind = 0) :
  Calls Tryz.prog 15 #[.agg (tC_ h p), .slice A n c, .int .i64 qv.md] w (Qr.Post Q w (match Ck.fnd l h.name with | some a => Ck.R.ok a | none => Ck.R.bad 41 h.pos h.name)) := by
 try unfold tC_
 obtain ⟨R, hR⟩ : ∃ R, R = (match Ck.fnd l h.name with | some a => Ck.R.ok a | none => Ck.R.bad 41 h.pos h.name) := ⟨_, rfl⟩
 rw [← hR];have HR := k0_ hR;obtain ⟨b1, w1, hw1, hb0, g0, hb1, h6, h7, hzb, hz⟩ := Qr.three w (.cells (tC_ h p) 28);have HW1 := k0_ hw1;have HB0 := k0_ hb0;have H0 := k0_ g0;have HBW := k0_ hb1;have H6 := k0_ h6;have H7 := k0_ h7;have HZB := k0_ hzb;have HZ := k0_ hz;have LZ := k0_ (Nat.le_of_eq hz.symm);have hfrom := k0_ (fun (W : World) (hb : Below b1.heap.size b1 W) => hb0.trans (hb.mono hb0.size));have HE : Hid (Ck.EAt (Ck.Cut Q w.heap.size (w.heap.size + 3)) b1 l A n c) := k0_ ((hE.weak (fun b hb hq => .inl ⟨hq, hb⟩)).below hb0);have HK := k0_ (fun (W : World) (hb : Below b1.heap.size b1 W) => Qr.jA (zA hb (zC H0.out) H0.out));have CF := k0_ (fun (W : World) (hb : Below b1.heap.size b1 W) => zBu (Ck.Cut Q w.heap.size (w.heap.size + 3)) l A n c h.name W (HE.out.below hb));clear hR hb0 g0 hb1 h6 h7 hzb hz hE;have HKK := k0_ hk;clear hk
 go_enter Tryz.func15, Tryz.ntmps15
 go_upto_region 1 with fail
 rw [← HW1.out];clear hw1 HW1;obtain ⟨q0', q1', q2', q3', q4', q5', q6', q7', q8', q9', q10'⟩ := HK.out w1 HBW.out;rw [HKK.out] at q0'
 go_wp2_with fail
 refine (CF.out w1 HBW.out).mono ?_;rintro e w2 ⟨a, G, m, k, rfl, hl, hfa, hb⟩;have HBW := kt_ HBW hb;have LZ := kz_ LZ hb;have H6 := kp_ hb H6;have H7 := kp_ hb H7;have HLY := k0_ (hl.weak (fun b _ hq => Qr.zq (by have := HZ.out; omega) hq));have HFA := k0_ hfa;clear hl hb hfa;clear q0' q1' q2' q3' q4' q5' q6' q7' q8' q9' q10';have hb8 := zO w2 (.cells #[.int .i8 a.1, .slice G m k] 25);have H8 := k0_ (zD w2 (.cells #[.int .i8 a.1, .slice G m k] 25));have HBW := kt_ HBW hb8;have LZ := kz_ LZ hb8;have H6 := kp_ hb8 H6;have H7 := kp_ hb8 H7;have HLY := Ck.kl_ HLY hb8;clear hb8
 cases hq : Ck.fnd l h.name with
 | none =>
  rw [hq] at HR;have HRR := k0_ HR.out;clear hq HR
  go_upto_region 5 with fail
  generalize hw3 : w2.alloc (.cells #[.int .i8 a.1, .slice G m k] 25) = w3 at *;clear hw3;obtain ⟨q0', q1', q2', q3', q4', q5', q6', q7', q8', q9', q10'⟩ := HK.out w3 HBW.out;have HZL := k0_ (Ck.Ly.zero (Ck.Cut Q w.heap.size (w.heap.size + 3)) w3);have HRS := k0_ (zQ H6.out H7.out (show w.heap.size + 1 ≠ w.heap.size + 1 + 1 by omega) (hfrom.out _ HBW.out) (by omega) (by omega) (.int .i8 0) (.slice none 0 0) (.int .i64 41) (.int .i64 h.pos) (.string h.name));have HLF := k0_ ((HZL.out.set2 (X := w.heap.size + 1) (fun b hq => hq.ne (by omega) (by omega)) (.int .i8 0) (.slice none 0 0)).zh (X := w.heap.size + 1 + 1) (fun b hq => hq.ne (by omega) (by omega)) (.int .i64 41) (.int .i64 h.pos) (.string h.name));obtain ⟨z0, z1, z2, z3, zl⟩ := zF H6.out;obtain ⟨y0, y1, y2, y3, y4, y5, yl⟩ := cells3 H7.out
  go_wp2_with fail
  go_region
  have HRS := k0_ (show (((((w3.setCell ⟨w.heap.size + 1, 0, none⟩ (.int .i8 0)).setCell ⟨w.heap.size + 1, 1, none⟩ (.slice none 0 0)).setCell ⟨w.heap.size + 1 + 1, 0, none⟩ (.int .i64 41)).setCell ⟨w.heap.size + 1 + 1, 1, none⟩ (.int .i64 h.pos)).setCell ⟨w.heap.size + 1 + 1, 2, none⟩ (.string h.name)).drew.heap[w.heap.size + 1]? = _ /\ (((((w3.setCell ⟨w.heap.size + 1, 0, none⟩ (.int .i8 0)).setCell ⟨w.heap.size + 1, 1, none⟩ (.slice none 0 0)).setCell ⟨w.heap.size + 1 + 1, 0, none⟩ (.int .i64 41)).setCell ⟨w.heap.size + 1 + 1, 1, none⟩ (.int .i64 h.pos)).setCell ⟨w.heap.size + 1 + 1, 2, none⟩ (.string h.name)).drew.heap[w.heap.size + 1 + 1]? = _ /\ Below w.heap.size w (((((w3.setCell ⟨w.heap.size + 1, 0, none⟩ (.int .i8 0)).setCell ⟨w.heap.size + 1, 1, none⟩ (.slice none 0 0)).setCell ⟨w.heap.size + 1 + 1, 0, none⟩ (.int .i64 41)).setCell ⟨w.heap.size + 1 + 1, 1, none⟩ (.int .i64 h.pos)).setCell ⟨w.heap.size + 1 + 1, 2, none⟩ (.string h.name)).drew from ⟨HRS.out.1, HRS.out.2.1, HRS.out.2.2.drew⟩);have HLF := k0_ (HLF.out.later (Below.refl _ _).drew);clear z0 z1 z2 z3 zl y0 y1 y2 y3 y4 y5 yl;generalize (((((w3.setCell ⟨w.heap.size + 1, 0, none⟩ (.int .i8 0)).setCell ⟨w.heap.size + 1, 1, none⟩ (.slice none 0 0)).setCell ⟨w.heap.size + 1 + 1, 0, none⟩ (.int .i64 41)).setCell ⟨w.heap.size + 1 + 1, 1, none⟩ (.int .i64 h.pos)).setCell ⟨w.heap.size + 1 + 1, 2, none⟩ (.string h.name)).drew = wz at *;obtain ⟨k0, k1', -, -, -⟩ := zF HRS.out.1;obtain ⟨k2', k3', k4', -, -, -, -⟩ := cells3 HRS.out.2.1
  go_wp2_with fail
  refine bodyPost_ret (v := .tuple #[.agg #[.int .i8 0, .slice none 0 0], .agg #[.int .i64 41, .int .i64 h.pos, .string h.name]]) (by simp [results, Tryz.results15, go_sem, k0, k1', k2', k3', k4']) rfl ?_;exact Qr.Post.mk (a := (0, .nil)) (HRR.out ▸ (fun E p x e => by injection e with e; rw [← e]; decide)) (HRR.out ▸ ⟨rfl, rfl, rfl, rfl⟩) (HLF.out.weak (fun b _ hq => hq.out (by omega))) HRS.out.2.2
 | some b =>
  have hba := HFA.out b hq;subst hba;rw [hq] at HR;have HRR := k0_ HR.out;clear hq HR
  go_upto_region 6 with fail
  generalize hw3 : w2.alloc (.cells #[.int .i8 b.1, .slice G m k] 25) = w3 at *;clear hw3;obtain ⟨e0, e1, -, -, el⟩ := zF H8.out;have HRS := k0_ (zQ H6.out H7.out (show w.heap.size + 1 ≠ w.heap.size + 1 + 1 by omega) (hfrom.out _ HBW.out) (by omega) (by omega) (.int .i8 b.1) (.slice G m k) (.int .i64 0) (.int .i64 0) (.string ⟨#[]⟩));have HLF := k0_ ((HLY.out.set2 (X := w.heap.size + 1) (fun b hq => hq.ne (by omega) (by omega)) (.int .i8 b.1) (.slice G m k)).zh (X := w.heap.size + 1 + 1) (fun b hq => hq.ne (by omega) (by omega)) (.int .i64 0) (.int .i64 0) (.string ⟨#[]⟩));obtain ⟨z0, z1, z2, z3, zl⟩ := zF H6.out;obtain ⟨y0, y1, y2, y3, y4, y5, yl⟩ := cells3 H7.out
  go_wp2_with fail
  clear z0 z1 z2 z3 zl y0 y1 y2 y3 y4 y5 yl;generalize (((((w3.setCell ⟨w.heap.size + 1, 0, none⟩ (.int .i8 b.1)).setCell ⟨w.heap.size + 1, 1, none⟩ (.slice G m k)).setCell ⟨w.heap.size + 1 + 1, 0, none⟩ (.int .i64 0)).setCell ⟨w.heap.size + 1 + 1, 1, none⟩ (.int .i64 0)).setCell ⟨w.heap.size + 1 + 1, 2, none⟩ (.string ⟨#[]⟩)) = wz at *;obtain ⟨k0, k1', -, -, -⟩ := zF HRS.out.1;obtain ⟨k2', k3', k4', -, -, -, -⟩ := cells3 HRS.out.2.1;refine bodyPost_ret (v := .tuple #[.agg #[.int .i8 b.1, .slice G m k], .agg #[.int .i64 0, .int .i64 0, .string ⟨#[]⟩]]) (by simp [results, Tryz.results15, go_sem, k0, k1', k2', k3', k4']) rfl ?_;exact Qr.Post.mk (HRR.out ▸ Qr.Nz.ok _) (HRR.out ▸ ⟨rfl, rfl, rfl, rfl⟩) (HLF.out.weak (fun b _ hq => hq.out (by omega))) HRS.out.2.2
theorem zAS (qv : Qr.Qv) (Q : Nat -> Prop) (h : Hd) (p : Pl) (l : Ck.Env) (A : Option Addr) (n c : Nat) (w : World) (hE : Ck.EAt Q w l A n c) (hk : h.kind = 1) :
  Calls Tryz.prog 15 #[.agg (tC_ h p), .slice A n c, .int .i64 qv.md] w (Qr.Post Q w (Ck.R.ok (1, .nil))) := by
 try unfold tC_
 obtain ⟨R, hR⟩ : ∃ R, R = (Ck.R.ok (1, .nil)) := ⟨_, rfl⟩
 rw [← hR];have HR := k0_ hR;obtain ⟨b1, w1, hw1, hb0, g0, hb1, h6, h7, hzb, hz⟩ := Qr.three w (.cells (tC_ h p) 28);have HW1 := k0_ hw1;have HB0 := k0_ hb0;have H0 := k0_ g0;have HBW := k0_ hb1;have H6 := k0_ h6;have H7 := k0_ h7;have HZB := k0_ hzb;have HZ := k0_ hz;have LZ := k0_ (Nat.le_of_eq hz.symm);have hfrom := k0_ (fun (W : World) (hb : Below b1.heap.size b1 W) => hb0.trans (hb.mono hb0.size));have HE : Hid (Ck.EAt (Ck.Cut Q w.heap.size (w.heap.size + 3)) b1 l A n c) := k0_ ((hE.weak (fun b hb hq => .inl ⟨hq, hb⟩)).below hb0);have HK := k0_ (fun (W : World) (hb : Below b1.heap.size b1 W) => Qr.jA (zA hb (zC H0.out) H0.out));clear hR hb0 g0 hb1 h6 h7 hzb hz hE;have HKK := k0_ hk;clear hk
 go_enter Tryz.func15, Tryz.ntmps15
 go_upto_region 1 with fail
 rw [← HW1.out];clear hw1 HW1;obtain ⟨q0', q1', q2', q3', q4', q5', q6', q7', q8', q9', q10'⟩ := HK.out w1 HBW.out;rw [HKK.out] at q0';have CS := k0_ (qY 1 w1)
 go_wp2_with fail
 refine CS.out.mono ?_;rintro e w2 ⟨rfl, hb⟩;have HBW := kt_ HBW hb;have LZ := kz_ LZ hb;have H6 := kp_ hb H6;have H7 := kp_ hb H7;clear hb;clear q0' q1' q2' q3' q4' q5' q6' q7' q8' q9' q10';have HZL := k0_ (Ck.wI (Ck.Cut Q w.heap.size (w.heap.size + 3)) w2 1 (by decide));have HRS := k0_ (zQ H6.out H7.out (show w.heap.size + 1 ≠ w.heap.size + 1 + 1 by omega) (hfrom.out _ HBW.out) (by omega) (by omega) (.int .i8 1) (.slice none 0 0) (.int .i64 0) (.int .i64 0) (.string ⟨#[]⟩));have HLF := k0_ ((HZL.out.set2 (X := w.heap.size + 1) (fun b hq => hq.ne (by omega) (by omega)) (.int .i8 1) (.slice none 0 0)).zh (X := w.heap.size + 1 + 1) (fun b hq => hq.ne (by omega) (by omega)) (.int .i64 0) (.int .i64 0) (.string ⟨#[]⟩));obtain ⟨z0, z1, z2, z3, zl⟩ := zF H6.out;obtain ⟨y0, y1, y2, y3, y4, y5, yl⟩ := cells3 H7.out
 go_wp2_with fail
 clear z0 z1 z2 z3 zl y0 y1 y2 y3 y4 y5 yl;generalize (((((w2.setCell ⟨w.heap.size + 1, 0, none⟩ (.int .i8 1)).setCell ⟨w.heap.size + 1, 1, none⟩ (.slice none 0 0)).setCell ⟨w.heap.size + 1 + 1, 0, none⟩ (.int .i64 0)).setCell ⟨w.heap.size + 1 + 1, 1, none⟩ (.int .i64 0)).setCell ⟨w.heap.size + 1 + 1, 2, none⟩ (.string ⟨#[]⟩)) = wz at *;obtain ⟨k0, k1', -, -, -⟩ := zF HRS.out.1;obtain ⟨k2', k3', k4', -, -, -, -⟩ := cells3 HRS.out.2.1;refine bodyPost_ret (v := .tuple #[.agg #[.int .i8 1, .slice none 0 0], .agg #[.int .i64 0, .int .i64 0, .string ⟨#[]⟩]]) (by simp [results, Tryz.results15, go_sem, k0, k1', k2', k3', k4']) rfl ?_;exact Qr.Post.mk (a := (1, .nil)) (HR.out ▸ Qr.Nz.ok _) (HR.out ▸ ⟨rfl, rfl, rfl, rfl⟩) (HLF.out.weak (fun b _ hq => hq.out (by omega))) HRS.out.2.2
theorem zAP (qv : Qr.Qv) (Q : Nat -> Prop) (h : Hd) (p : Pl) (l : Ck.Env) (A : Option Addr) (n c : Nat) (w : World) (hE : Ck.EAt Q w l A n c) (hk : h.kind = 2) :
  Calls Tryz.prog 15 #[.agg (tC_ h p), .slice A n c, .int .i64 qv.md] w (Qr.Post Q w (Ck.R.ok (2, .nil))) := by
 try unfold tC_
 exact zGR
theorem zBr (qv : Qr.Qv) (Q : Nat -> Prop) (h : Hd) (p : Pl) (l : Ck.Env) (A : Option Addr) (n c : Nat) (w : World) (hE : Ck.EAt Q w l A n c) (hk : h.kind = 3) :
  Calls Tryz.prog 15 #[.agg (tC_ h p), .slice A n c, .int .i64 qv.md] w (Qr.Post Q w (Ck.R.ok (2, .nil))) := by
 try unfold tC_
 exact zGR
theorem uH (qv : Qr.Qv) (Q : Nat -> Prop) (h : Hd) (p : Pl) (l : Ck.Env) (A : Option Addr) (n c : Nat) (w : World) (hE : Ck.EAt Q w l A n c) (RR : Ck.R) (hk : h.kind = 14) (hC : ∀ W : World, Below w.heap.size w W -> Ck.EAt (Ck.Cut Q w.heap.size (w.heap.size + 3)) W l A n c -> Calls Tryz.prog 35 #[.agg #[.int .i8 h.kind, .string h.name, .string h.arg, .int .i64 h.num, .int .i8 h.tk, .slice p.TA p.tn p.tc, .int .i8 h.uk, .slice p.UA p.un p.uc, .int .i64 h.label, .int .i64 h.pos, .slice p.A p.n p.c], .slice A n c, .int .i64 qv.md] W (Qr.Post (Ck.Cut Q w.heap.size (w.heap.size + 3)) W RR)) :
  Calls Tryz.prog 15 #[.agg #[.int .i8 h.kind, .string h.name, .string h.arg, .int .i64 h.num, .int .i8 h.tk, .slice p.TA p.tn p.tc, .int .i8 h.uk, .slice p.UA p.un p.uc, .int .i64 h.label, .int .i64 h.pos, .slice p.A p.n p.c], .slice A n c, .int .i64 qv.md] w (Qr.Post Q w (RR)) := by
 obtain ⟨R, hR⟩ : ∃ R, R = (RR) := ⟨_, rfl⟩
 rw [← hR];have HR := k0_ hR;obtain ⟨b1, w1, hw1, hb0, g0, hb1, h6, h7, hzb, hz⟩ := Qr.three w (.cells #[.int .i8 h.kind, .string h.name, .string h.arg, .int .i64 h.num, .int .i8 h.tk, .slice p.TA p.tn p.tc, .int .i8 h.uk, .slice p.UA p.un p.uc, .int .i64 h.label, .int .i64 h.pos, .slice p.A p.n p.c] 28);have HW1 := k0_ hw1;have HB0 := k0_ hb0;have H0 := k0_ g0;have HBW := k0_ hb1;have H6 := k0_ h6;have H7 := k0_ h7;have HZB := k0_ hzb;have HZ := k0_ hz;have LZ := k0_ (Nat.le_of_eq hz.symm);have hfrom := k0_ (fun (W : World) (hb : Below b1.heap.size b1 W) => hb0.trans (hb.mono hb0.size));have HE : Hid (Ck.EAt (Ck.Cut Q w.heap.size (w.heap.size + 3)) b1 l A n c) := k0_ ((hE.weak (fun b hb hq => .inl ⟨hq, hb⟩)).below hb0);have HK := k0_ (fun (W : World) (hb : Below b1.heap.size b1 W) => Qr.jA (zA hb (zC H0.out) H0.out));have CC := k0_ (hC w1 (hb0.trans (hb1.mono hb0.size)) (HE.out.below hb1));clear hR hb0 g0 hb1 h6 h7 hzb hz hE;have HKK := k0_ hk;clear hk hC
 go_enter Tryz.func15, Tryz.ntmps15
 go_upto_region 1 with fail
 rw [← HW1.out];clear hw1 HW1;obtain ⟨q0', q1', q2', q3', q4', q5', q6', q7', q8', q9', q10'⟩ := HK.out w1 HBW.out;rw [HKK.out] at q0'
 try rw [HKK.out] at CC
 exact zGL
theorem yt (qv : Qr.Qv) (Q : Nat -> Prop) (h : Hd) (p : Pl) (l : Ck.Env) (A : Option Addr) (n c : Nat) (w : World) (hE : Ck.EAt Q w l A n c) (RR : Ck.R) (hk : Ck.isOver h.kind) (hC : ∀ W : World, Below w.heap.size w W -> Ck.EAt (Ck.Cut Q w.heap.size (w.heap.size + 3)) W l A n c -> Calls Tryz.prog 36 #[.agg (tC_ h p), .slice A n c, .int .i64 qv.md] W (Qr.Post (Ck.Cut Q w.heap.size (w.heap.size + 3)) W RR)) :
  Calls Tryz.prog 15 #[.agg (tC_ h p), .slice A n c, .int .i64 qv.md] w (Qr.Post Q w (RR)) := by
 try unfold tC_
 obtain ⟨R, hR⟩ : ∃ R, R = (RR) := ⟨_, rfl⟩
 rw [← hR];have HR := k0_ hR;obtain ⟨b1, w1, hw1, hb0, g0, hb1, h6, h7, hzb, hz⟩ := Qr.three w (.cells (tC_ h p) 28);have HW1 := k0_ hw1;have HB0 := k0_ hb0;have H0 := k0_ g0;have HBW := k0_ hb1;have H6 := k0_ h6;have H7 := k0_ h7;have HZB := k0_ hzb;have HZ := k0_ hz;have LZ := k0_ (Nat.le_of_eq hz.symm);have hfrom := k0_ (fun (W : World) (hb : Below b1.heap.size b1 W) => hb0.trans (hb.mono hb0.size));have HE : Hid (Ck.EAt (Ck.Cut Q w.heap.size (w.heap.size + 3)) b1 l A n c) := k0_ ((hE.weak (fun b hb hq => .inl ⟨hq, hb⟩)).below hb0);have HK := k0_ (fun (W : World) (hb : Below b1.heap.size b1 W) => Qr.jA (zA hb (zC H0.out) H0.out));have CC := k0_ (hC w1 (hb0.trans (hb1.mono hb0.size)) (HE.out.below hb1));clear hR hb0 g0 hb1 h6 h7 hzb hz hE
 have e0 : (h.kind == 0) = false /\ (h.kind == 1) = false /\ (h.kind == 2) = false /\ (h.kind == 3) = false /\ (h.kind == 4) = false /\ (h.kind == 5) = false /\ (h.kind == 7) = false /\ (h.kind == 14) = false := by
  rcases hk with hk | hk | hk | hk | hk | hk | hk | hk | hk | hk <;> rw [hk] <;> decide
 obtain ⟨e0, e1, e2, e3, e4, e5, e7, e14⟩ := e0;clear hk hC
 go_enter Tryz.func15, Tryz.ntmps15
 go_upto_region 1 with fail
 rw [← HW1.out];clear hw1 HW1;obtain ⟨q0', q1', q2', q3', q4', q5', q6', q7', q8', q9', q10'⟩ := HK.out w1 HBW.out;exact zGL
end Go.Proofs.YtglgjaomneljbaaGreatDoor
namespace Go.Proofs.YtglgjaomneljbaaGreatDoor
open Go.RowKit
set_option maxHeartbeats 8000000 in
set_option maxRecDepth 100000 in
theorem zDF (qv : Qr.Qv) (Q : Nat -> Prop) (h : Hd) (p : Pl) (a : Ck.T2) (G : Option Addr) (m c : Nat) (b : Ck.T2) (G' : Option Addr) (m' c' : Nat) (v4 v5 : Value) (w : World) (hLa : Ck.Ly Q w a G m c) (hLb : Ck.Ly Q w b G' m' c') (hT : Ck.Ly Q w (Ck.TT h) p.TA p.tn p.tc) (hk : h.kind = 15) :
  Calls Tryz.prog 62 #[.agg (tC_ h p), .agg #[.int .i8 a.1, .slice G m c, .int .i8 b.1, .slice G' m' c', v4, v5], .int .i64 qv.md] w (Qr.Post Q w (if qv.D.ag a (1, .nil) = true then (if qv.D.ag b (1, .nil) = true then Ck.R.ok (Ck.opAns h.name) else Ck.fault h 91) else Ck.fault h 91)) := by
 try unfold tC_
 obtain ⟨R, hR⟩ : ∃ R, R = (if qv.D.ag a (1, .nil) = true then (if qv.D.ag b (1, .nil) = true then Ck.R.ok (Ck.opAns h.name) else Ck.fault h 91) else Ck.fault h 91) := ⟨_, rfl⟩
 rw [← hR];have HR := k0_ hR;obtain ⟨b1, w1, hw1, hb0, g0, g1, hb1, h6, h7, hzb, hz⟩ := Qr.four w (.cells (tC_ h p) 28) (.cells #[.int .i8 a.1, .slice G m c, .int .i8 b.1, .slice G' m' c', v4, v5] 92);have HW1 := k0_ hw1;have HB0 := k0_ hb0;have H0 := k0_ g0;have H1 := k0_ g1;have HBW := k0_ hb1;have H6 := k0_ h6;have H7 := k0_ h7;have HZB := k0_ hzb;have HZ := k0_ hz;have LZ := k0_ (Nat.le_of_eq hz.symm);have hfrom := k0_ (fun (W : World) (hb : Below b1.heap.size b1 W) => hb0.trans (hb.mono hb0.size));have HLA : Hid (Ck.Ly (Ck.Cut Q w.heap.size (w.heap.size + 4)) b1 a G m c) := k0_ ((hLa.weak (fun b hb hq => .inl ⟨hq, hb⟩)).later hb0);have HLB : Hid (Ck.Ly (Ck.Cut Q w.heap.size (w.heap.size + 4)) b1 b G' m' c') := k0_ ((hLb.weak (fun b hb hq => .inl ⟨hq, hb⟩)).later hb0);have HT : Hid (Ck.Ly (Ck.Cut Q w.heap.size (w.heap.size + 4)) b1 (Ck.TT h) p.TA p.tn p.tc) := k0_ ((hT.weak (fun b hb hq => .inl ⟨hq, hb⟩)).later hb0);have HK := k0_ (fun (W : World) (hb : Below b1.heap.size b1 W) => Qr.jA (zA hb (zC H0.out) H0.out))
 have HKR := k0_ (fun (W : World) (hb : Below b1.heap.size b1 W) => (show W.cell? ⟨w.heap.size + 1, 0, none⟩ = some (.int .i8 a.1) /\ W.cell? ⟨w.heap.size + 1, 1, none⟩ = some (.slice G m c) /\ W.cell? ⟨w.heap.size + 1, 2, none⟩ = some (.int .i8 b.1) /\ W.cell? ⟨w.heap.size + 1, 3, none⟩ = some (.slice G' m' c') from by
  obtain ⟨y0, y1, y2, y3, y4, y5, y6, y7, y8, y9, y10, y11, yl⟩ := Qr.jP (zA hb (zC H1.out) H1.out)
  exact ⟨y0, y1, y2, y3⟩))
 have HCF := k0_ (fun (E : Int) (hE : E ≠ 0) (W : World) => zu (Ck.Cut Q w.heap.size (w.heap.size + 4)) h p E hE W);clear hR hb0 g0 g1 hb1 h6 h7 hzb hz hLa hT hLb;have k12 : (h.kind == 12) = false := by rw [hk]; rfl
 have k13 : (h.kind == 13) = false := by rw [hk]; rfl
 have k15 : (h.kind == 15) = true := by rw [hk]; rfl
 clear hk;have HSI := k0_ (fun (W : World) => qY 1 W)
 go_enter Tryz.func62, Tryz.ntmps62
 go_upto_region 1 with fail
 rw [← HW1.out];clear hw1 HW1;have HCA := k0_ (fun (W : World) (hb : Below w1.heap.size w1 W) => (show Calls Tryz.prog 33 #[.agg #[.int .i8 a.1, .slice G m c], .agg #[.int .i8 1, .slice none 0 0], .int .i64 qv.md] W (fun e w' => e = .returned (.bool (qv.D.ag a (1, .nil))) /\ Below W.heap.size W w') from qv.agC a.1 a.2 G m c 1 .nil none 0 0 W (HLA.out.later (HBW.out.trans (hb.mono HBW.out.size))).is (qw (by decide) W)));have HCB := k0_ (fun (W : World) (hb : Below w1.heap.size w1 W) => (show Calls Tryz.prog 33 #[.agg #[.int .i8 b.1, .slice G' m' c'], .agg #[.int .i8 1, .slice none 0 0], .int .i64 qv.md] W (fun e w' => e = .returned (.bool (qv.D.ag b (1, .nil))) /\ Below W.heap.size W w') from qv.agC b.1 b.2 G' m' c' 1 .nil none 0 0 W (HLB.out.later (HBW.out.trans (hb.mono HBW.out.size))).is (qw (by decide) W)));obtain ⟨q0', q1', q2', q3', q4', q5', q6', q7', q8', q9', q10'⟩ := HK.out w1 HBW.out;obtain ⟨r0, r1, r2, r3⟩ := HKR.out w1 HBW.out
 cases hag : qv.D.ag a (1, .nil) with
 | false =>
  have HF := k0_ (HR.out.trans (show _ = Ck.fault h 91 from by rw [hag, if_neg (by decide)]));rw [hag] at HCA;exact zG9
 | true =>
  cases hbg : qv.D.ag b (1, .nil) with
  | false =>
   have HF := k0_ (HR.out.trans (show _ = Ck.fault h 91 from by rw [hag, if_pos rfl, hbg, if_neg (by decide)]));rw [hag] at HCA;rw [hbg] at HCB;exact zG9
  | true =>
   rw [hag] at HCA;rw [hbg] at HCB
   go_upto_region 11 with fail
   have U0 := zP r0;have U1 := zP r1;have U2 := zP r2;have U3 := zP r3;clear r0 r1 r2 r3;clear q0' q1' q2' q3' q4' q5' q6' q7' q8' q9' q10';refine jO (by kernel_rfl) (by kernel_rfl) ?_
   repeat
    first
     | go_big_quiet_skip
     | (go_big_quiet_want
        go_big_quiet_op
        first
         | go_big_quiet_on
         | (refine ⟨_, fun _ => rfl, ?_⟩
            go_big_quiet_on)
         | (apply Exists.intro
            refine ⟨fun h => ?_, ?_⟩
            ·first
              | (go_at_call 29; with_reducible exact qU h (HSI.out h.u))
              | (go_at_call 33; with_reducible exact qU h (HCA.out h.u h.low))
              | (go_at_call 33; with_reducible exact qU h (HCB.out h.u h.low))
            go_big_quiet_on))
   refine wpQuiet_nil ?_;rintro w9 ⟨⟨_, hb⟩, rfl⟩;have HBW := kt_ HBW hb;have LZ := kz_ LZ hb;have H6 := kp_ hb H6;have H7 := kp_ hb H7;clear hb U0 U1 U2 U3
   cases h60 : (h.name.toList == [60]) with
   | true =>
    obtain ⟨q0', q1', q2', q3', q4', q5', q6', q7', q8', q9', q10'⟩ := HK.out w9 HBW.out;have HF := k0_ (HR.out.trans (show _ = Ck.R.ok (2, .nil) from by rw [hag, if_pos rfl, hbg, if_pos rfl]; unfold Ck.opAns; rw [h60]; rfl));exact zGM
   | false =>
    cases h61 : (h.name.toList == [61]) with
    | true =>
     obtain ⟨q0', q1', q2', q3', q4', q5', q6', q7', q8', q9', q10'⟩ := HK.out w9 HBW.out;have HF := k0_ (HR.out.trans (show _ = Ck.R.ok (2, .nil) from by rw [hag, if_pos rfl, hbg, if_pos rfl]; unfold Ck.opAns; rw [h60, h61]; rfl));exact zGM
    | false =>
     obtain ⟨q0', q1', q2', q3', q4', q5', q6', q7', q8', q9', q10'⟩ := HK.out w9 HBW.out;have HF := k0_ (HR.out.trans (show _ = Ck.R.ok (1, .nil) from by rw [hag, if_pos rfl, hbg, if_pos rfl]; unfold Ck.opAns; rw [h60, h61]; rfl))
     go_wp2_with fail
     refine (qY 1 w9).mono ?_;rintro e w10 ⟨rfl, hb⟩;have HBW := kt_ HBW hb;have LZ := kz_ LZ hb;have H6 := kp_ hb H6;have H7 := kp_ hb H7;clear hb;clear q0' q1' q2' q3' q4' q5' q6' q7' q8' q9' q10';have HZL := k0_ (Ck.wI (Ck.Cut Q w.heap.size (w.heap.size + 4)) w10 1 (by decide));have HRS := k0_ (zQ H6.out H7.out (show w.heap.size + 1 + 1 ≠ w.heap.size + 1 + 1 + 1 by omega) (hfrom.out _ HBW.out) (by omega) (by omega) (.int .i8 1) (.slice none 0 0) (.int .i64 0) (.int .i64 0) (.string ⟨#[]⟩));have HLF := k0_ ((HZL.out.set2 (X := w.heap.size + 1 + 1) (fun b hq => hq.ne (by omega) (by omega)) (.int .i8 1) (.slice none 0 0)).zh (X := w.heap.size + 1 + 1 + 1) (fun b hq => hq.ne (by omega) (by omega)) (.int .i64 0) (.int .i64 0) (.string ⟨#[]⟩));obtain ⟨z0, z1, z2, z3, zl⟩ := zF H6.out;obtain ⟨y0, y1, y2, y3, y4, y5, yl⟩ := cells3 H7.out
     go_wp2_with fail
     clear z0 z1 z2 z3 zl y0 y1 y2 y3 y4 y5 yl;generalize (((((w10.setCell ⟨w.heap.size + 1 + 1, 0, none⟩ (.int .i8 1)).setCell ⟨w.heap.size + 1 + 1, 1, none⟩ (.slice none 0 0)).setCell ⟨w.heap.size + 1 + 1 + 1, 0, none⟩ (.int .i64 0)).setCell ⟨w.heap.size + 1 + 1 + 1, 1, none⟩ (.int .i64 0)).setCell ⟨w.heap.size + 1 + 1 + 1, 2, none⟩ (.string ⟨#[]⟩)) = wz at *;obtain ⟨k0, k1', -, -, -⟩ := zF HRS.out.1;obtain ⟨k2', k3', k4', -, -, -, -⟩ := cells3 HRS.out.2.1;refine bodyPost_ret (v := .tuple #[.agg #[.int .i8 1, .slice none 0 0], .agg #[.int .i64 0, .int .i64 0, .string ⟨#[]⟩]]) (by simp [results, Tryz.results62, go_sem, k0, k1', k2', k3', k4']) rfl ?_;exact HF.out ▸ Qr.Post.mk (a := (1, .nil)) (Qr.Nz.ok _) ⟨rfl, rfl, rfl, rfl⟩ (HLF.out.weak (fun b _ hq => hq.out (by omega))) HRS.out.2.2
end Go.Proofs.YtglgjaomneljbaaGreatDoor
