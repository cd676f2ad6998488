import Derived.Test.YtkdnnleanoompabGreatDoorM28
namespace Go.Proofs.YtkdnnleanoompabGreatDoor
set_option maxHeartbeats 8000000
set_option maxRecDepth 100000
open Go.RowKit
namespace Qr
theorem four (w : World) (o o' : Obj) : ∃ b1 w1, w1 = (((w.alloc o).alloc o').alloc (.cells #[.int .i8 0, .slice none 0 0] 25)).alloc (.cells #[.int .i64 0, .int .i64 0, .string ⟨#[]⟩] 35) ∧ Below w.heap.size w b1 ∧ b1.heap[w.heap.size]? = some o ∧ b1.heap[w.heap.size + 1]? = some o' ∧ Below b1.heap.size b1 w1 ∧
  w1.heap[w.heap.size + 1 + 1]? = some (.cells #[.int .i8 0, .slice none 0 0] 25 (0, 0)) ∧ w1.heap[w.heap.size + 1 + 1 + 1]? = some (.cells #[.int .i64 0, .int .i64 0, .string ⟨#[]⟩] 35 (0, 0)) ∧ b1.heap.size = w.heap.size + 2 ∧ w1.heap.size = w.heap.size + 4 := by
 refine ⟨(w.alloc o).alloc o', _, rfl, zW w o o', (zS w o o').1, (zS w o o').2, zW _ _ _, ?_, ?_, by simp, by simp⟩
 ·have := (zS ((w.alloc o).alloc o') (.cells #[.int .i8 0, .slice none 0 0] 25) (.cells #[.int .i64 0, .int .i64 0, .string ⟨#[]⟩] 35)).1
  simpa using this
 ·have := (zS ((w.alloc o).alloc o') (.cells #[.int .i8 0, .slice none 0 0] 25) (.cells #[.int .i64 0, .int .i64 0, .string ⟨#[]⟩] 35)).2
  simpa using this
end Qr
theorem zDG (qv : Qr.Qv) (Q : Nat → Prop) (h : Hd) (p : Pl) (a : Ck.T2) (G : Option Addr) (m c : Nat) (v2 v3 v4 v5 : Value) (w : World) (hLa : Ck.Ly Q w a G m c) (hT : Ck.Ly Q w (Ck.TT h) p.TA p.tn p.tc) (hk : h.kind = 16) :
  Calls Tryz.prog 62 #[.agg (tC_ h p), .agg #[.int .i8 a.1, .slice G m c, v2, v3, v4, v5], .int .i64 qv.md] w (Qr.Post Q w (if qv.D.ag a (Ck.TT h) = true then Ck.R.ok (Ck.TT h) else Ck.fault h 91)) := by
 try unfold tC_
 obtain ⟨R, hR⟩ : ∃ R, R = (if qv.D.ag a (Ck.TT h) = true then Ck.R.ok (Ck.TT h) else Ck.fault h 91) := ⟨_, rfl⟩
 rw [← hR]
 have HR := k0_ hR
 obtain ⟨b1, w1, hw1, hb0, g0, g1, hb1, h6, h7, hzb, hz⟩ := Qr.four w (.cells (tC_ h p) 28) (.cells #[.int .i8 a.1, .slice G m c, v2, v3, v4, v5] 92)
 have HW1 := k0_ hw1
 have HB0 := k0_ hb0
 have H0 := k0_ g0
 have H1 := k0_ g1
 have HBW := k0_ hb1
 have H6 := k0_ h6
 have H7 := k0_ h7
 have HZB := k0_ hzb
 have HZ := k0_ hz
 have LZ := k0_ (Nat.le_of_eq hz.symm)
 have hfrom := k0_ (fun (W : World) (hb : Below b1.heap.size b1 W) => hb0.trans (hb.mono hb0.size))
 have HLA : Hid (Ck.Ly (Ck.Cut Q w.heap.size (w.heap.size + 4)) b1 a G m c) := k0_ ((hLa.weak (fun b hb hq => .inl ⟨hq, hb⟩)).later hb0)
 have HT : Hid (Ck.Ly (Ck.Cut Q w.heap.size (w.heap.size + 4)) b1 (Ck.TT h) p.TA p.tn p.tc) := k0_ ((hT.weak (fun b hb hq => .inl ⟨hq, hb⟩)).later hb0)
 have HK := k0_ (fun (W : World) (hb : Below b1.heap.size b1 W) => Qr.jA (zA hb (zC H0.out) H0.out))
 have HKR := k0_ (fun (W : World) (hb : Below b1.heap.size b1 W) => (show W.cell? ⟨w.heap.size + 1, 0, none⟩ = some (.int .i8 a.1) ∧ W.cell? ⟨w.heap.size + 1, 1, none⟩ = some (.slice G m c) from by
  obtain ⟨y0, y1, y2, y3, y4, y5, y6, y7, y8, y9, y10, y11, yl⟩ := Qr.jP (zA hb (zC H1.out) H1.out)
  exact ⟨y0, y1⟩))
 have HCF := k0_ (fun (E : Int) (hE : E ≠ 0) (W : World) => zu (Ck.Cut Q w.heap.size (w.heap.size + 4)) h p E hE W)
 clear hR hb0 g0 g1 hb1 h6 h7 hzb hz hLa hT
 have HKK := k0_ hk
 clear hk
 have HCA := k0_ (fun (W : World) (hb : Below b1.heap.size b1 W) => (show Calls Tryz.prog 33 #[.agg #[.int .i8 a.1, .slice G m c], .agg #[.int .i8 h.tk, .slice p.TA p.tn p.tc], .int .i64 qv.md] W (fun e w' => e = .returned (.bool (qv.D.ag a (Ck.TT h))) ∧ Below W.heap.size W w') from qv.agC a.1 a.2 G m c h.tk h.tkids p.TA p.tn p.tc W (HLA.out.later hb).is (HT.out.later hb).is))
 go_enter Tryz.func62, Tryz.ntmps62
 go_upto_region 1 with fail
 rw [← HW1.out]
 clear hw1 HW1
 obtain ⟨q0', q1', q2', q3', q4', q5', q6', q7', q8', q9', q10'⟩ := HK.out w1 HBW.out
 obtain ⟨r0, r1⟩ := HKR.out w1 HBW.out
 rw [HKK.out] at q0'
 go_wp2_with fail
 refine (HCA.out w1 HBW.out).mono ?_
 rintro e w2 ⟨rfl, hb⟩
 have HBW := kt_ HBW hb
 have LZ := kz_ LZ hb
 have H6 := kp_ hb H6
 have H7 := kp_ hb H7
 clear hb r0 r1
 clear q0' q1' q2' q3' q4' q5' q6' q7' q8' q9' q10'
 cases hag : qv.D.ag a (Ck.TT h) with
 | false =>
  have HF := k0_ (HR.out.trans (show _ = Ck.fault h 91 from by rw [hag, if_neg (by decide)]))
  exact c7_
 | true =>
  have HF := k0_ (HR.out.trans (show _ = Ck.R.ok (Ck.TT h) from by rw [hag, if_pos rfl]))
  have HT2 := k0_ (HT.out.later HBW.out)
  obtain ⟨q0', q1', q2', q3', q4', q5', q6', q7', q8', q9', q10'⟩ := HK.out w2 HBW.out
  have HRS := k0_ (zQ H6.out H7.out (show w.heap.size + 1 + 1 ≠ w.heap.size + 1 + 1 + 1 by omega) (hfrom.out _ HBW.out) (by omega) (by omega) (.int .i8 h.tk) (.slice p.TA p.tn p.tc) (.int .i64 0) (.int .i64 0) (.string ⟨#[]⟩))
  have HLF := k0_ ((HT2.out.set2 (X := w.heap.size + 1 + 1) (fun b hq => hq.ne (by omega) (by omega)) (.int .i8 h.tk) (.slice p.TA p.tn p.tc)).zh (X := w.heap.size + 1 + 1 + 1) (fun b hq => hq.ne (by omega) (by omega)) (.int .i64 0) (.int .i64 0) (.string ⟨#[]⟩))
  obtain ⟨z0, z1, z2, z3, zl⟩ := zF H6.out
  obtain ⟨y0, y1, y2, y3, y4, y5, yl⟩ := cells3 H7.out
  go_wp2_with fail
  clear z0 z1 z2 z3 zl y0 y1 y2 y3 y4 y5 yl
  generalize (((((w2.setCell ⟨w.heap.size + 1 + 1, 0, none⟩ (.int .i8 h.tk)).setCell ⟨w.heap.size + 1 + 1, 1, none⟩ (.slice p.TA p.tn p.tc)).setCell ⟨w.heap.size + 1 + 1 + 1, 0, none⟩ (.int .i64 0)).setCell ⟨w.heap.size + 1 + 1 + 1, 1, none⟩ (.int .i64 0)).setCell ⟨w.heap.size + 1 + 1 + 1, 2, none⟩ (.string ⟨#[]⟩)) = wz at *
  obtain ⟨k0, k1', -, -, -⟩ := zF HRS.out.1
  obtain ⟨k2', k3', k4', -, -, -, -⟩ := cells3 HRS.out.2.1
  refine bodyPost_ret (v := .tuple #[.agg #[.int .i8 h.tk, .slice p.TA p.tn p.tc], .agg #[.int .i64 0, .int .i64 0, .string ⟨#[]⟩]]) (by simp [results, Tryz.results62, go_sem, k0, k1', k2', k3', k4']) rfl ?_
  exact HF.out ▸ Qr.Post.mk (a := Ck.TT h) (Qr.Nz.ok _) ⟨rfl, rfl, rfl, rfl⟩ (HLF.out.weak (fun b _ hq => hq.out (by omega))) HRS.out.2.2
theorem zAW (qv : Qr.Qv) (Q : Nat → Prop) (h : Hd) (p : Pl) (a : Ck.T2) (G : Option Addr) (m c : Nat) (v2 v3 v4 v5 : Value) (w : World) (hLa : Ck.Ly Q w a G m c) (hT : Ck.Ly Q w (Ck.TT h) p.TA p.tn p.tc) (hk : h.kind = 17) (hca : qv.D.ca = true) (hU : Ck.Ly Q w (Ck.UU h) p.UA p.un p.uc) :
  Calls Tryz.prog 62 #[.agg (tC_ h p), .agg #[.int .i8 a.1, .slice G m c, v2, v3, v4, v5], .int .i64 qv.md] w (Qr.Post Q w (if qv.D.ag a (Ck.TT h) = true then (if qv.D.gs (Ck.TT h) (Ck.UU h) = true then Ck.R.ok (Ck.UU h) else Ck.fault h 91) else Ck.fault h 91)) := by
 try unfold tC_
 obtain ⟨R, hR⟩ : ∃ R, R = (if qv.D.ag a (Ck.TT h) = true then (if qv.D.gs (Ck.TT h) (Ck.UU h) = true then Ck.R.ok (Ck.UU h) else Ck.fault h 91) else Ck.fault h 91) := ⟨_, rfl⟩
 rw [← hR]
 have HR := k0_ hR
 obtain ⟨b1, w1, hw1, hb0, g0, g1, hb1, h6, h7, hzb, hz⟩ := Qr.four w (.cells (tC_ h p) 28) (.cells #[.int .i8 a.1, .slice G m c, v2, v3, v4, v5] 92)
 have HW1 := k0_ hw1
 have HB0 := k0_ hb0
 have H0 := k0_ g0
 have H1 := k0_ g1
 have HBW := k0_ hb1
 have H6 := k0_ h6
 have H7 := k0_ h7
 have HZB := k0_ hzb
 have HZ := k0_ hz
 have LZ := k0_ (Nat.le_of_eq hz.symm)
 have hfrom := k0_ (fun (W : World) (hb : Below b1.heap.size b1 W) => hb0.trans (hb.mono hb0.size))
 have HLA : Hid (Ck.Ly (Ck.Cut Q w.heap.size (w.heap.size + 4)) b1 a G m c) := k0_ ((hLa.weak (fun b hb hq => .inl ⟨hq, hb⟩)).later hb0)
 have HT : Hid (Ck.Ly (Ck.Cut Q w.heap.size (w.heap.size + 4)) b1 (Ck.TT h) p.TA p.tn p.tc) := k0_ ((hT.weak (fun b hb hq => .inl ⟨hq, hb⟩)).later hb0)
 have HK := k0_ (fun (W : World) (hb : Below b1.heap.size b1 W) => Qr.jA (zA hb (zC H0.out) H0.out))
 have HKR := k0_ (fun (W : World) (hb : Below b1.heap.size b1 W) => (show W.cell? ⟨w.heap.size + 1, 0, none⟩ = some (.int .i8 a.1) ∧ W.cell? ⟨w.heap.size + 1, 1, none⟩ = some (.slice G m c) from by
  obtain ⟨y0, y1, y2, y3, y4, y5, y6, y7, y8, y9, y10, y11, yl⟩ := Qr.jP (zA hb (zC H1.out) H1.out)
  exact ⟨y0, y1⟩))
 have HCF := k0_ (fun (E : Int) (hE : E ≠ 0) (W : World) => zu (Ck.Cut Q w.heap.size (w.heap.size + 4)) h p E hE W)
 have HU : Hid (Ck.Ly (Ck.Cut Q w.heap.size (w.heap.size + 4)) b1 (Ck.UU h) p.UA p.un p.uc) := k0_ ((hU.weak (fun b hb hq => .inl ⟨hq, hb⟩)).later hb0)
 clear hR hb0 g0 g1 hb1 h6 h7 hzb hz hLa hT
 have HKK := k0_ hk
 have HCA := k0_ (fun (W : World) (hb : Below b1.heap.size b1 W) => (show Calls Tryz.prog 59 #[.agg #[.int .i8 a.1, .slice G m c], .agg #[.int .i8 h.tk, .slice p.TA p.tn p.tc]] W (fun e w' => e = .returned (.bool (qv.D.ag a (Ck.TT h))) ∧ Below W.heap.size W w') from (qv.castC hca).1 a.1 a.2 G m c h.tk h.tkids p.TA p.tn p.tc W (HLA.out.later hb).is (HT.out.later hb).is))
 have HCG := k0_ (fun (W : World) (hb : Below b1.heap.size b1 W) => (show Calls Tryz.prog 58 #[.agg #[.int .i8 h.tk, .slice p.TA p.tn p.tc], .agg #[.int .i8 h.uk, .slice p.UA p.un p.uc]] W (fun e w' => e = .returned (.bool (qv.D.gs (Ck.TT h) (Ck.UU h))) ∧ Below W.heap.size W w') from (qv.castC hca).2 h.tk h.tkids p.TA p.tn p.tc h.uk h.ukids p.UA p.un p.uc W (HT.out.later hb).is (HU.out.later hb).is))
 clear hk hca hU
 go_enter Tryz.func62, Tryz.ntmps62
 go_upto_region 1 with fail
 rw [← HW1.out]
 clear hw1 HW1
 obtain ⟨q0', q1', q2', q3', q4', q5', q6', q7', q8', q9', q10'⟩ := HK.out w1 HBW.out
 obtain ⟨r0, r1⟩ := HKR.out w1 HBW.out
 rw [HKK.out] at q0'
 cases hag : qv.D.ag a (Ck.TT h) with
 | false =>
  have HF := k0_ (HR.out.trans (show _ = Ck.fault h 91 from by rw [hag, if_neg (by decide)]))
  rw [hag] at HCA
  go_wp2_with fail
  refine (HCA.out w1 HBW.out).mono ?_
  rintro e w2 ⟨rfl, hb⟩
  have HBW := kt_ HBW hb
  have LZ := kz_ LZ hb
  have H6 := kp_ hb H6
  have H7 := kp_ hb H7
  clear hb r0 r1
  clear q0' q1' q2' q3' q4' q5' q6' q7' q8' q9' q10'
  exact c7_
 | true =>
  rw [hag] at HCA
  go_wp2_with fail
  refine (HCA.out w1 HBW.out).mono ?_
  rintro e w2 ⟨rfl, hb⟩
  have HBW := kt_ HBW hb
  have LZ := kz_ LZ hb
  have H6 := kp_ hb H6
  have H7 := kp_ hb H7
  clear hb r0 r1
  clear q0' q1' q2' q3' q4' q5' q6' q7' q8' q9' q10'
  cases hgs : qv.D.gs (Ck.TT h) (Ck.UU h) with
  | false =>
   have HF := k0_ (HR.out.trans (show _ = Ck.fault h 91 from by rw [hag, if_pos rfl, hgs, if_neg (by decide)]))
   rw [hgs] at HCG
   obtain ⟨q0', q1', q2', q3', q4', q5', q6', q7', q8', q9', q10'⟩ := HK.out w2 HBW.out
   go_wp2_with fail
   refine (HCG.out w2 HBW.out).mono ?_
   rintro e w3 ⟨rfl, hb⟩
   have HBW := kt_ HBW hb
   have LZ := kz_ LZ hb
   have H6 := kp_ hb H6
   have H7 := kp_ hb H7
   clear hb
   clear q0' q1' q2' q3' q4' q5' q6' q7' q8' q9' q10'
   obtain ⟨q0', q1', q2', q3', q4', q5', q6', q7', q8', q9', q10'⟩ := HK.out _ HBW.out
   have LWF := k0_ LZ.out
   go_wp2_with fail
   refine (HCF.out 91 (by decide) _).mono ?_
   rintro e w4 hp
   obtain ⟨Gf, mf, cf, rfl, hl, hb⟩ := hp.flt
   have HBW := kt_ HBW hb
   have LZ := kz_ LZ hb
   have H6 := kp_ hb H6
   have H7 := kp_ hb H7
   have HZL := k0_ (hl.weak (fun b _ hq => Qr.j6 LWF.out hq))
   clear hb hl hp
   clear q0' q1' q2' q3' q4' q5' q6' q7' q8' q9' q10'
   have HRS := k0_ (zQ H6.out H7.out (show w.heap.size + 1 + 1 ≠ w.heap.size + 1 + 1 + 1 by omega) (hfrom.out _ HBW.out) (by omega) (by omega) (.int .i8 0) (.slice Gf mf cf) (.int .i64 91) (.int .i64 h.pos) (.string ⟨#[]⟩))
   have HLF := k0_ ((HZL.out.set2 (X := w.heap.size + 1 + 1) (fun b hq => hq.ne (by omega) (by omega)) (.int .i8 0) (.slice Gf mf cf)).zh (X := w.heap.size + 1 + 1 + 1) (fun b hq => hq.ne (by omega) (by omega)) (.int .i64 91) (.int .i64 h.pos) (.string ⟨#[]⟩))
   obtain ⟨z0, z1, z2, z3, zl⟩ := zF H6.out
   obtain ⟨y0, y1, y2, y3, y4, y5, yl⟩ := cells3 H7.out
   go_wp2_with fail
   clear z0 z1 z2 z3 zl y0 y1 y2 y3 y4 y5 yl
   generalize (((((w4.setCell ⟨w.heap.size + 1 + 1, 0, none⟩ (.int .i8 0)).setCell ⟨w.heap.size + 1 + 1, 1, none⟩ (.slice Gf mf cf)).setCell ⟨w.heap.size + 1 + 1 + 1, 0, none⟩ (.int .i64 91)).setCell ⟨w.heap.size + 1 + 1 + 1, 1, none⟩ (.int .i64 h.pos)).setCell ⟨w.heap.size + 1 + 1 + 1, 2, none⟩ (.string ⟨#[]⟩)) = wz at *
   obtain ⟨k0, k1', -, -, -⟩ := zF HRS.out.1
   obtain ⟨k2', k3', k4', -, -, -, -⟩ := cells3 HRS.out.2.1
   refine bodyPost_ret (v := .tuple #[.agg #[.int .i8 0, .slice Gf mf cf], .agg #[.int .i64 91, .int .i64 h.pos, .string ⟨#[]⟩]]) (by simp [results, Tryz.results62, go_sem, k0, k1', k2', k3', k4']) rfl ?_
   exact HF.out ▸ Qr.Post.mk (a := (0, .nil)) (Qr.Nz.fault h (by decide)) ⟨rfl, rfl, rfl, rfl⟩ (HLF.out.weak (fun b _ hq => hq.out (by omega))) HRS.out.2.2
  | true =>
   have HF := k0_ (HR.out.trans (show _ = Ck.R.ok (Ck.UU h) from by rw [hag, if_pos rfl, hgs, if_pos rfl]))
   rw [hgs] at HCG
   obtain ⟨q0', q1', q2', q3', q4', q5', q6', q7', q8', q9', q10'⟩ := HK.out w2 HBW.out
   go_wp2_with fail
   refine (HCG.out w2 HBW.out).mono ?_
   rintro e w3 ⟨rfl, hb⟩
   have HBW := kt_ HBW hb
   have LZ := kz_ LZ hb
   have H6 := kp_ hb H6
   have H7 := kp_ hb H7
   clear hb
   clear q0' q1' q2' q3' q4' q5' q6' q7' q8' q9' q10'
   have HU2 := k0_ (HU.out.later HBW.out)
   obtain ⟨q0', q1', q2', q3', q4', q5', q6', q7', q8', q9', q10'⟩ := HK.out w3 HBW.out
   have HRS := k0_ (zQ H6.out H7.out (show w.heap.size + 1 + 1 ≠ w.heap.size + 1 + 1 + 1 by omega) (hfrom.out _ HBW.out) (by omega) (by omega) (.int .i8 h.uk) (.slice p.UA p.un p.uc) (.int .i64 0) (.int .i64 0) (.string ⟨#[]⟩))
   have HLF := k0_ ((HU2.out.set2 (X := w.heap.size + 1 + 1) (fun b hq => hq.ne (by omega) (by omega)) (.int .i8 h.uk) (.slice p.UA p.un p.uc)).zh (X := w.heap.size + 1 + 1 + 1) (fun b hq => hq.ne (by omega) (by omega)) (.int .i64 0) (.int .i64 0) (.string ⟨#[]⟩))
   obtain ⟨z0, z1, z2, z3, zl⟩ := zF H6.out
   obtain ⟨y0, y1, y2, y3, y4, y5, yl⟩ := cells3 H7.out
   go_wp2_with fail
   clear z0 z1 z2 z3 zl y0 y1 y2 y3 y4 y5 yl
   generalize (((((w3.setCell ⟨w.heap.size + 1 + 1, 0, none⟩ (.int .i8 h.uk)).setCell ⟨w.heap.size + 1 + 1, 1, none⟩ (.slice p.UA p.un p.uc)).setCell ⟨w.heap.size + 1 + 1 + 1, 0, none⟩ (.int .i64 0)).setCell ⟨w.heap.size + 1 + 1 + 1, 1, none⟩ (.int .i64 0)).setCell ⟨w.heap.size + 1 + 1 + 1, 2, none⟩ (.string ⟨#[]⟩)) = wz at *
   obtain ⟨k0, k1', -, -, -⟩ := zF HRS.out.1
   obtain ⟨k2', k3', k4', -, -, -, -⟩ := cells3 HRS.out.2.1
   refine bodyPost_ret (v := .tuple #[.agg #[.int .i8 h.uk, .slice p.UA p.un p.uc], .agg #[.int .i64 0, .int .i64 0, .string ⟨#[]⟩]]) (by simp [results, Tryz.results62, go_sem, k0, k1', k2', k3', k4']) rfl ?_
   exact HF.out ▸ Qr.Post.mk (a := Ck.UU h) (Qr.Nz.ok _) ⟨rfl, rfl, rfl, rfl⟩ (HLF.out.weak (fun b _ hq => hq.out (by omega))) HRS.out.2.2
set_option maxHeartbeats 8000000
set_option maxRecDepth 100000
open Go.RowKit
theorem zBt (qv : Qr.Qv) (Q : Nat → Prop) (h : Hd) (p : Pl) (a : Ck.T2) (G : Option Addr) (m c : Nat) (v2 v3 v4 v5 : Value) (w : World) (hLa : Ck.Ly Q w a G m c) (hT : Ck.Ly Q w (Ck.TT h) p.TA p.tn p.tc) (hk : h.kind = 12) (hokT : Ty.okT (Ck.TT h).1 (Ck.TT h).2 = true) (hokX : qv.D.asO 5 (Ck.TT h) = true → Ty.okT (qv.D.asl 5 (Ck.TT h)).1 (qv.D.asl 5 (Ck.TT h)).2 = true ∧ Ty.okT (qv.D.asr 5 (Ck.TT h)).1 (qv.D.asr 5 (Ck.TT h)).2 = true) :
  Calls Tryz.prog 62 #[.agg (tC_ h p), .agg #[.int .i8 a.1, .slice G m c, v2, v3, v4, v5], .int .i64 qv.md] w (Qr.Post Q w (if qv.D.asO 5 (Ck.TT h) = true then (if qv.D.ag a (qv.D.asl 5 (Ck.TT h)) = true then Ck.lift h (.ok (Ck.mk2 5 (qv.D.asl 5 (Ck.TT h)) (qv.D.asr 5 (Ck.TT h)))) else Ck.fault h 91) else Ck.fault h 90)) := by
 try unfold tC_
 obtain ⟨R, hR⟩ : ∃ R, R = (if qv.D.asO 5 (Ck.TT h) = true then (if qv.D.ag a (qv.D.asl 5 (Ck.TT h)) = true then Ck.lift h (.ok (Ck.mk2 5 (qv.D.asl 5 (Ck.TT h)) (qv.D.asr 5 (Ck.TT h)))) else Ck.fault h 91) else Ck.fault h 90) := ⟨_, rfl⟩
 rw [← hR]
 have HR := k0_ hR
 obtain ⟨b1, w1, hw1, hb0, g0, g1, hb1, h6, h7, hzb, hz⟩ := Qr.four w (.cells (tC_ h p) 28) (.cells #[.int .i8 a.1, .slice G m c, v2, v3, v4, v5] 92)
 have HW1 := k0_ hw1
 have HB0 := k0_ hb0
 have H0 := k0_ g0
 have H1 := k0_ g1
 have HBW := k0_ hb1
 have H6 := k0_ h6
 have H7 := k0_ h7
 have HZB := k0_ hzb
 have HZ := k0_ hz
 have LZ := k0_ (Nat.le_of_eq hz.symm)
 have hfrom := k0_ (fun (W : World) (hb : Below b1.heap.size b1 W) => hb0.trans (hb.mono hb0.size))
 have HLA : Hid (Ck.Ly (Ck.Cut Q w.heap.size (w.heap.size + 4)) b1 a G m c) := k0_ ((hLa.weak (fun b hb hq => .inl ⟨hq, hb⟩)).later hb0)
 have HT : Hid (Ck.Ly (Ck.Cut Q w.heap.size (w.heap.size + 4)) b1 (Ck.TT h) p.TA p.tn p.tc) := k0_ ((hT.weak (fun b hb hq => .inl ⟨hq, hb⟩)).later hb0)
 have HK := k0_ (fun (W : World) (hb : Below b1.heap.size b1 W) => Qr.jA (zA hb (zC H0.out) H0.out))
 have HKR := k0_ (fun (W : World) (hb : Below b1.heap.size b1 W) => (show W.cell? ⟨w.heap.size + 1, 0, none⟩ = some (.int .i8 a.1) ∧ W.cell? ⟨w.heap.size + 1, 1, none⟩ = some (.slice G m c) from by
  obtain ⟨y0, y1, y2, y3, y4, y5, y6, y7, y8, y9, y10, y11, yl⟩ := Qr.jP (zA hb (zC H1.out) H1.out)
  exact ⟨y0, y1⟩))
 have HCF := k0_ (fun (E : Int) (hE : E ≠ 0) (W : World) => zu (Ck.Cut Q w.heap.size (w.heap.size + 4)) h p E hE W)
 clear hR hb0 g0 g1 hb1 h6 h7 hzb hz hLa hT
 have k12 : (h.kind == 12) = true := by rw [hk]; rfl
 have k13 : (h.kind == 13) = false := by rw [hk]; rfl
 have HOT := k0_ hokT
 have HOX := k0_ hokX
 clear hk hokT hokX
 go_enter Tryz.func62, Tryz.ntmps62
 go_upto_region 1 with fail
 rw [← HW1.out]
 clear hw1 HW1
 obtain ⟨q0', q1', q2', q3', q4', q5', q6', q7', q8', q9', q10'⟩ := HK.out w1 HBW.out
 go_wp2_with fail
 refine (qv.asC (Ck.Cut Q w.heap.size (w.heap.size + 4)) 5 (Ck.TT h) p.TA p.tn p.tc w1 (by decide) (HT.out.later HBW.out) HOT.out).mono ?_
 rintro e w2 ⟨Gx, mx, cx, Gy, my, cy, rfl, hlx, hly, hb⟩
 have HLX := k0_ (hlx.weak (Q' := Ck.Cut Q w.heap.size (w.heap.size + 4)) (fun b _ hq => Qr.j6 LZ.out hq))
 have HLY := k0_ (hly.weak (Q' := Ck.Cut Q w.heap.size (w.heap.size + 4)) (fun b _ hq => Qr.j6 LZ.out hq))
 have HBW := kt_ HBW hb
 have LZ := kz_ LZ hb
 have H6 := kp_ hb H6
 have H7 := kp_ hb H7
 clear hb hlx hly
 clear q0' q1' q2' q3' q4' q5' q6' q7' q8' q9' q10'
 have L2 := k0_ (show w.heap.size + 4 ≤ w2.heap.size from LZ.out)
 have hb8 := zW w2 (.cells #[.int .i8 (qv.D.asl 5 (Ck.TT h)).1, .slice Gx mx cx] 25) (.cells #[.int .i8 (qv.D.asr 5 (Ck.TT h)).1, .slice Gy my cy] 25)
 have HBX := k0_ (zS w2 (.cells #[.int .i8 (qv.D.asl 5 (Ck.TT h)).1, .slice Gx mx cx] 25) (.cells #[.int .i8 (qv.D.asr 5 (Ck.TT h)).1, .slice Gy my cy] 25)).1
 have HBY := k0_ (zS w2 (.cells #[.int .i8 (qv.D.asl 5 (Ck.TT h)).1, .slice Gx mx cx] 25) (.cells #[.int .i8 (qv.D.asr 5 (Ck.TT h)).1, .slice Gy my cy] 25)).2
 have HBW := kt_ HBW hb8
 have LZ := kz_ LZ hb8
 have H6 := kp_ hb8 H6
 have H7 := kp_ hb8 H7
 have HLX := Ck.kl_ HLX hb8
 have HLY := Ck.kl_ HLY hb8
 clear hb8
 cases has : qv.D.asO 5 (Ck.TT h) with
 | false =>
  exact zGN
 | true =>
  have HOK := k0_ (Qr.wD (k := 5) (by decide) (HOX.out has).1 (HOX.out has).2)
  have HCA := k0_ (fun (W : World) (hl1 : Ck.Ly (Ck.Cut Q w.heap.size (w.heap.size + 4)) W a G m c) (hl2 : Ck.Ly (Ck.Cut Q w.heap.size (w.heap.size + 4)) W (qv.D.asl 5 (Ck.TT h)) Gx mx cx) => (show Calls Tryz.prog 33 #[.agg #[.int .i8 a.1, .slice G m c], .agg #[.int .i8 (qv.D.asl 5 (Ck.TT h)).1, .slice Gx mx cx], .int .i64 qv.md] W (fun e w' => e = .returned (.bool (qv.D.ag a (qv.D.asl 5 (Ck.TT h)))) ∧ Below W.heap.size W w') from qv.agC a.1 a.2 G m c (qv.D.asl 5 (Ck.TT h)).1 (qv.D.asl 5 (Ck.TT h)).2 Gx mx cx W hl1.is hl2.is))
  obtain ⟨q0', q1', q2', q3', q4', q5', q6', q7', q8', q9', q10'⟩ := HK.out _ HBW.out
  obtain ⟨r0, r1⟩ := HKR.out _ HBW.out
  obtain ⟨d0, d1, -, -, -⟩ := zF HBX.out
  obtain ⟨d2, d3, -, -, -⟩ := zF HBY.out
  go_wp2_with fail
  refine (HCA.out _ (HLA.out.later HBW.out) HLX.out).mono ?_
  rintro e w4 ⟨rfl, hb⟩
  have HBW := kt_ HBW hb
  have LZ := kz_ LZ hb
  have H6 := kp_ hb H6
  have H7 := kp_ hb H7
  have HBX := kp_ hb HBX
  have HBY := kp_ hb HBY
  have HLX := Ck.kl_ HLX hb
  have HLY := Ck.kl_ HLY hb
  clear hb r0 r1 d0 d1 d2 d3
  clear q0' q1' q2' q3' q4' q5' q6' q7' q8' q9' q10'
  cases hag : qv.D.ag a (qv.D.asl 5 (Ck.TT h)) with
  | false =>
   exact zGO
  | true =>
   exact c2_
theorem zBs (qv : Qr.Qv) (Q : Nat → Prop) (h : Hd) (p : Pl) (a : Ck.T2) (G : Option Addr) (m c : Nat) (v2 v3 v4 v5 : Value) (w : World) (hLa : Ck.Ly Q w a G m c) (hT : Ck.Ly Q w (Ck.TT h) p.TA p.tn p.tc) (hk : h.kind = 13) (hokT : Ty.okT (Ck.TT h).1 (Ck.TT h).2 = true) (hokX : qv.D.asO 5 (Ck.TT h) = true → Ty.okT (qv.D.asl 5 (Ck.TT h)).1 (qv.D.asl 5 (Ck.TT h)).2 = true ∧ Ty.okT (qv.D.asr 5 (Ck.TT h)).1 (qv.D.asr 5 (Ck.TT h)).2 = true) :
  Calls Tryz.prog 62 #[.agg (tC_ h p), .agg #[.int .i8 a.1, .slice G m c, v2, v3, v4, v5], .int .i64 qv.md] w (Qr.Post Q w (if qv.D.asO 5 (Ck.TT h) = true then (if qv.D.ag a (qv.D.asr 5 (Ck.TT h)) = true then Ck.lift h (.ok (Ck.mk2 5 (qv.D.asl 5 (Ck.TT h)) (qv.D.asr 5 (Ck.TT h)))) else Ck.fault h 91) else Ck.fault h 90)) := by
 try unfold tC_
 obtain ⟨R, hR⟩ : ∃ R, R = (if qv.D.asO 5 (Ck.TT h) = true then (if qv.D.ag a (qv.D.asr 5 (Ck.TT h)) = true then Ck.lift h (.ok (Ck.mk2 5 (qv.D.asl 5 (Ck.TT h)) (qv.D.asr 5 (Ck.TT h)))) else Ck.fault h 91) else Ck.fault h 90) := ⟨_, rfl⟩
 rw [← hR]
 have HR := k0_ hR
 obtain ⟨b1, w1, hw1, hb0, g0, g1, hb1, h6, h7, hzb, hz⟩ := Qr.four w (.cells (tC_ h p) 28) (.cells #[.int .i8 a.1, .slice G m c, v2, v3, v4, v5] 92)
 have HW1 := k0_ hw1
 have HB0 := k0_ hb0
 have H0 := k0_ g0
 have H1 := k0_ g1
 have HBW := k0_ hb1
 have H6 := k0_ h6
 have H7 := k0_ h7
 have HZB := k0_ hzb
 have HZ := k0_ hz
 have LZ := k0_ (Nat.le_of_eq hz.symm)
 have hfrom := k0_ (fun (W : World) (hb : Below b1.heap.size b1 W) => hb0.trans (hb.mono hb0.size))
 have HLA : Hid (Ck.Ly (Ck.Cut Q w.heap.size (w.heap.size + 4)) b1 a G m c) := k0_ ((hLa.weak (fun b hb hq => .inl ⟨hq, hb⟩)).later hb0)
 have HT : Hid (Ck.Ly (Ck.Cut Q w.heap.size (w.heap.size + 4)) b1 (Ck.TT h) p.TA p.tn p.tc) := k0_ ((hT.weak (fun b hb hq => .inl ⟨hq, hb⟩)).later hb0)
 have HK := k0_ (fun (W : World) (hb : Below b1.heap.size b1 W) => Qr.jA (zA hb (zC H0.out) H0.out))
 have HKR := k0_ (fun (W : World) (hb : Below b1.heap.size b1 W) => (show W.cell? ⟨w.heap.size + 1, 0, none⟩ = some (.int .i8 a.1) ∧ W.cell? ⟨w.heap.size + 1, 1, none⟩ = some (.slice G m c) from by
  obtain ⟨y0, y1, y2, y3, y4, y5, y6, y7, y8, y9, y10, y11, yl⟩ := Qr.jP (zA hb (zC H1.out) H1.out)
  exact ⟨y0, y1⟩))
 have HCF := k0_ (fun (E : Int) (hE : E ≠ 0) (W : World) => zu (Ck.Cut Q w.heap.size (w.heap.size + 4)) h p E hE W)
 clear hR hb0 g0 g1 hb1 h6 h7 hzb hz hLa hT
 have k12 : (h.kind == 12) = false := by rw [hk]; rfl
 have k13 : (h.kind == 13) = true := by rw [hk]; rfl
 have HOT := k0_ hokT
 have HOX := k0_ hokX
 clear hk hokT hokX
 go_enter Tryz.func62, Tryz.ntmps62
 go_upto_region 1 with fail
 rw [← HW1.out]
 clear hw1 HW1
 obtain ⟨q0', q1', q2', q3', q4', q5', q6', q7', q8', q9', q10'⟩ := HK.out w1 HBW.out
 go_wp2_with fail
 refine (qv.asC (Ck.Cut Q w.heap.size (w.heap.size + 4)) 5 (Ck.TT h) p.TA p.tn p.tc w1 (by decide) (HT.out.later HBW.out) HOT.out).mono ?_
 rintro e w2 ⟨Gx, mx, cx, Gy, my, cy, rfl, hlx, hly, hb⟩
 have HLX := k0_ (hlx.weak (Q' := Ck.Cut Q w.heap.size (w.heap.size + 4)) (fun b _ hq => Qr.j6 LZ.out hq))
 have HLY := k0_ (hly.weak (Q' := Ck.Cut Q w.heap.size (w.heap.size + 4)) (fun b _ hq => Qr.j6 LZ.out hq))
 have HBW := kt_ HBW hb
 have LZ := kz_ LZ hb
 have H6 := kp_ hb H6
 have H7 := kp_ hb H7
 clear hb hlx hly
 clear q0' q1' q2' q3' q4' q5' q6' q7' q8' q9' q10'
 have L2 := k0_ (show w.heap.size + 4 ≤ w2.heap.size from LZ.out)
 have hb8 := zW w2 (.cells #[.int .i8 (qv.D.asl 5 (Ck.TT h)).1, .slice Gx mx cx] 25) (.cells #[.int .i8 (qv.D.asr 5 (Ck.TT h)).1, .slice Gy my cy] 25)
 have HBX := k0_ (zS w2 (.cells #[.int .i8 (qv.D.asl 5 (Ck.TT h)).1, .slice Gx mx cx] 25) (.cells #[.int .i8 (qv.D.asr 5 (Ck.TT h)).1, .slice Gy my cy] 25)).1
 have HBY := k0_ (zS w2 (.cells #[.int .i8 (qv.D.asl 5 (Ck.TT h)).1, .slice Gx mx cx] 25) (.cells #[.int .i8 (qv.D.asr 5 (Ck.TT h)).1, .slice Gy my cy] 25)).2
 have HBW := kt_ HBW hb8
 have LZ := kz_ LZ hb8
 have H6 := kp_ hb8 H6
 have H7 := kp_ hb8 H7
 have HLX := Ck.kl_ HLX hb8
 have HLY := Ck.kl_ HLY hb8
 clear hb8
 cases has : qv.D.asO 5 (Ck.TT h) with
 | false =>
  exact zGN
 | true =>
  have HOK := k0_ (Qr.wD (k := 5) (by decide) (HOX.out has).1 (HOX.out has).2)
  have HCA := k0_ (fun (W : World) (hl1 : Ck.Ly (Ck.Cut Q w.heap.size (w.heap.size + 4)) W a G m c) (hl2 : Ck.Ly (Ck.Cut Q w.heap.size (w.heap.size + 4)) W (qv.D.asr 5 (Ck.TT h)) Gy my cy) => (show Calls Tryz.prog 33 #[.agg #[.int .i8 a.1, .slice G m c], .agg #[.int .i8 (qv.D.asr 5 (Ck.TT h)).1, .slice Gy my cy], .int .i64 qv.md] W (fun e w' => e = .returned (.bool (qv.D.ag a (qv.D.asr 5 (Ck.TT h)))) ∧ Below W.heap.size W w') from qv.agC a.1 a.2 G m c (qv.D.asr 5 (Ck.TT h)).1 (qv.D.asr 5 (Ck.TT h)).2 Gy my cy W hl1.is hl2.is))
  obtain ⟨q0', q1', q2', q3', q4', q5', q6', q7', q8', q9', q10'⟩ := HK.out _ HBW.out
  obtain ⟨r0, r1⟩ := HKR.out _ HBW.out
  obtain ⟨d0, d1, -, -, -⟩ := zF HBX.out
  obtain ⟨d2, d3, -, -, -⟩ := zF HBY.out
  go_wp2_with fail
  refine (HCA.out _ (HLA.out.later HBW.out) HLY.out).mono ?_
  rintro e w4 ⟨rfl, hb⟩
  have HBW := kt_ HBW hb
  have LZ := kz_ LZ hb
  have H6 := kp_ hb H6
  have H7 := kp_ hb H7
  have HBX := kp_ hb HBX
  have HBY := kp_ hb HBY
  have HLX := Ck.kl_ HLX hb
  have HLY := Ck.kl_ HLY hb
  clear hb r0 r1 d0 d1 d2 d3
  clear q0' q1' q2' q3' q4' q5' q6' q7' q8' q9' q10'
  cases hag : qv.D.ag a (qv.D.asr 5 (Ck.TT h)) with
  | false =>
   exact zGO
  | true =>
   exact c2_
end Go.Proofs.YtkdnnleanoompabGreatDoor
namespace Go.Proofs.YtkdnnleanoompabGreatDoor
open Go.RowKit
set_option maxHeartbeats 8000000 in
set_option maxRecDepth 100000 in
theorem zAT (qv : Qr.Qv) (K : Nat) (Q : Nat → Prop) (h h1 h2 : Hd) (k1 k2 : Tm) (q1 q2 : Pl) (TA UA : Option Addr) (tn tc un uc kb ko kc : Nat) (l : Ck.Env) (A : Option Addr) (n c : Nat) (wb w : World)
  (hT : Ty.Is wb h.tk h.tkids TA tn tc) (hU : Ty.Is wb h.uk h.ukids UA un uc) (g1 : Ck.KidAt wb kb (ko) h1 q1) (g2 : Ck.KidAt wb kb (ko + 11) h2 q2) (hwb : Below wb.heap.size wb w) (hQ : ∀ b, b < wb.heap.size → Q b) (hE : Ck.EAt Q w l A n c) (hl : l.length < 20000)
  (hk : h.kind = 7) (hch : ∀ x ∈ l, Ck.chk x.2 = 0) (hcT : Ck.chk (Ck.TT h) = 0) (hb1 : l.length + 2 * (Tm.nodes k1 + 1) ≤ 20000) (hb2 : l.length + 1 + 2 * (Tm.nodes k2 + 1) ≤ 20000) (T1 : Qr.TellsOf qv K wb h1 k1 q1) (T2 : Qr.TellsOf qv K wb h2 k2 q2) :
  Calls Tryz.prog 15 #[.agg (tD_ h TA tn tc UA un uc (some ⟨kb, ko, none⟩) 2 kc), .slice A n c, .int .i64 qv.md] w (Qr.Post Q w (Ck.bnd (Cg.ty qv.D K h1 k1 l) fun a => if qv.D.ag a (Ck.TT h) = true then Cg.ty qv.D K h2 k2 (l ++ [(h.name, Ck.TT h)]) else Ck.fault h 91)) := by
 try unfold tD_
 obtain ⟨R, hR⟩ : ∃ R, R = (Ck.bnd (Cg.ty qv.D K h1 k1 l) fun a => if qv.D.ag a (Ck.TT h) = true then Cg.ty qv.D K h2 k2 (l ++ [(h.name, Ck.TT h)]) else Ck.fault h 91) := ⟨_, rfl⟩
 rw [← hR]
 have HR := k0_ hR
 obtain ⟨b1, w1, hw1, hb0, g0, hb1, h6, h7, hzb, hz⟩ := Qr.three w (.cells (tD_ h TA tn tc UA un uc (some ⟨kb, ko, none⟩) 2 kc) 28)
 have HW1 := k0_ hw1
 have HB0 := k0_ hb0
 have H0 := k0_ g0
 have HBW := k0_ hb1
 have H6 := k0_ h6
 have H7 := k0_ h7
 have HZB := k0_ hzb
 have HZ := k0_ hz
 have LZ := k0_ (Nat.le_of_eq hz.symm)
 have HWB := k0_ (hwb.trans (hb0.mono hwb.size))
 have hfrom := k0_ (fun (W : World) (hb : Below b1.heap.size b1 W) => hb0.trans (hb.mono hb0.size))
 have HQM : Hid (∀ b, b < wb.heap.size → Ck.Cut Q w.heap.size (w.heap.size + 3) b) := k0_ (fun b hb => .inl ⟨hQ b hb, Nat.lt_of_lt_of_le hb hwb.size⟩)
 have HE : Hid (Ck.EAt (Ck.Cut Q w.heap.size (w.heap.size + 3)) b1 l A n c) := k0_ ((hE.weak (fun b hb hq => .inl ⟨hq, hb⟩)).below hb0)
 have HT : Hid (Ck.Ly (Ck.Cut Q w.heap.size (w.heap.size + 3)) b1 (Ck.TT h) TA tn tc) := k0_ (((Ck.Ly.of (a := Ck.TT h) hT).weak (fun b hb _ => HQM.out b hb)).later HWB.out)
 have HU : Hid (Ck.Ly (Ck.Cut Q w.heap.size (w.heap.size + 3)) b1 (Ck.UU h) UA un uc) := k0_ (((Ck.Ly.of (a := Ck.UU h) hU).weak (fun b hb _ => HQM.out b hb)).later HWB.out)
 have HN := k0_ hE.n_eq
 have HLL := k0_ hl
 have HK := k0_ (fun (W : World) (hb : Below b1.heap.size b1 W) => Qr.jA (zA hb (zC H0.out) H0.out))
 have HK1 := k0_ (fun (W : World) (hb : Below b1.heap.size b1 W) => Qr.wJ g1 HWB.out hb)
 have HK2 := k0_ (fun (W : World) (hb : Below b1.heap.size b1 W) => Qr.zDW g2 HWB.out hb)
 clear hR hb0 g0 hb1 h6 h7 hzb hz hwb hE hT hU hl g1 g2
 have HKK := k0_ hk
 clear hk
 have hn20 : n + 1 ≤ 20000 := by have := HN.out; have := HLL.out; omega
 have hch2 : ∀ x ∈ l ++ [(h.name, Ck.TT h)], Ck.chk x.2 = 0 := fun x hx => by rcases List.mem_append.1 hx with q | q; exact hch x q; rw [List.mem_singleton.1 q]; exact hcT
 go_enter Tryz.func15, Tryz.ntmps15
 go_upto_region 1 with fail
 rw [← HW1.out]
 clear hw1 HW1
 obtain ⟨q0', q1', q2', q3', q4', q5', q6', q7', q8', q9', q10'⟩ := HK.out w1 HBW.out
 obtain ⟨d1_0, d1_1, d1_2, d1_3, d1_4, d1_5, d1_6, d1_7, d1_8, d1_9, d1_10⟩ := HK1.out w1 HBW.out
 rw [HKK.out] at q0'
 go_wp2_with fail
 refine (T1 (Ck.Cut Q w.heap.size (w.heap.size + 3)) (l) A n c w1 (HWB.out.trans (HBW.out.mono HWB.out.size)) HQM.out (HE.out.below HBW.out) hch hb1).mono ?_
 rintro e w2 hp
 obtain ⟨t1, E1, pp1, xx1, G1, m1, cc1, rfl, hgn, hl, hb⟩ := hp.names
 have HP := k0_ hgn
 have HL1 : Hid (Ck.Ly (Ck.Cut Q w.heap.size (w.heap.size + 3)) w2 t1 G1 m1 cc1) := k0_ (hl.weak (fun b _ hq => Qr.zq LZ.out hq))
 clear hgn hl hp
 have HBW := kt_ HBW hb
 have LZ := kz_ LZ hb
 have H6 := kp_ hb H6
 have H7 := kp_ hb H7
 clear hb
 clear hch hcT
 clear q0' q1' q2' q3' q4' q5' q6' q7' q8' q9' q10'
 clear d1_0 d1_1 d1_2 d1_3 d1_4 d1_5 d1_6 d1_7 d1_8 d1_9 d1_10
 have LZ2 := k0_ (show w.heap.size + 3 ≤ w2.heap.size from LZ.out)
 have hb8 := zW w2 (.cells #[.int .i8 t1.1, .slice G1 m1 cc1] 25) (.cells #[.int .i64 E1, .int .i64 pp1, .string xx1] 35)
 have HX1 := k0_ (zS w2 (.cells #[.int .i8 t1.1, .slice G1 m1 cc1] 25) (.cells #[.int .i64 E1, .int .i64 pp1, .string xx1] 35)).1
 have HX2 := k0_ (zS w2 (.cells #[.int .i8 t1.1, .slice G1 m1 cc1] 25) (.cells #[.int .i64 E1, .int .i64 pp1, .string xx1] 35)).2
 have HBW := kt_ HBW hb8
 have LZ := kz_ LZ hb8
 have H6 := kp_ hb8 H6
 have H7 := kp_ hb8 H7
 have HL1 := Ck.kl_ HL1 hb8
 clear hb8
 have HCA := k0_ (fun (W : World) (hb : Below b1.heap.size b1 W) (hl1 : Ck.Ly (Ck.Cut Q w.heap.size (w.heap.size + 3)) W t1 G1 m1 cc1) => (show Calls Tryz.prog 33 #[.agg #[.int .i8 t1.1, .slice G1 m1 cc1], .agg #[.int .i8 h.tk, .slice TA tn tc], .int .i64 qv.md] W (fun e w' => e = .returned (.bool (qv.D.ag t1 (Ck.TT h))) ∧ Below W.heap.size W w') from qv.agC t1.1 t1.2 G1 m1 cc1 h.tk h.tkids TA tn tc W hl1.is (HT.out.later hb).is))
 have HCF := k0_ (fun (W : World) => zu (Ck.Cut Q w.heap.size (w.heap.size + 3)) h (⟨TA, tn, tc, UA, un, uc, some ⟨kb, ko, none⟩, 2, kc⟩ : Pl) 91 (by decide) W)
 skip
 obtain ⟨e3, e4, -, -, -⟩ := zF HX1.out
 obtain ⟨e0, e1, e2, -, -, -, -⟩ := cells3 HX2.out
 by_cases hE1 : E1 = 0
 ·have hgen := (Qr.R.qh HP.out.1 HP.out.2).1 hE1
  have HOK := k0_ hgen
  subst hE1
  clear hgen
  have HRR := k0_ (HR.out.trans (show _ = (if qv.D.ag t1 (Ck.TT h) = true then Cg.ty qv.D K h2 k2 (l ++ [(h.name, Ck.TT h)]) else Ck.fault h 91) from by rw [HOK.out.1]; rfl))
  obtain ⟨q0', q1', q2', q3', q4', q5', q6', q7', q8', q9', q10'⟩ := HK.out _ HBW.out
  go_wp2_with fail
  refine (HCA.out _ HBW.out HL1.out).mono ?_
  rintro e w4 ⟨rfl, hb⟩
  have HBW := kt_ HBW hb
  have LZ := kz_ LZ hb
  have H6 := kp_ hb H6
  have H7 := kp_ hb H7
  clear hb e0 e1 e2 e3 e4
  clear q0' q1' q2' q3' q4' q5' q6' q7' q8' q9' q10'
  cases hag : qv.D.ag t1 (Ck.TT h) with
  | false =>
   have LZ4 := k0_ (show w.heap.size + 3 ≤ w4.heap.size from LZ.out)
   rw [hag, if_neg (by decide)] at HRR
   obtain ⟨q0', q1', q2', q3', q4', q5', q6', q7', q8', q9', q10'⟩ := HK.out w4 HBW.out
   go_wp2_with fail
   refine (HCF.out w4).mono ?_
   rintro e w5 hp
   obtain ⟨G, m, cg, rfl, hl, hb⟩ := hp.flt
   have HBW := kt_ HBW hb
   have LZ := kz_ LZ hb
   have H6 := kp_ hb H6
   have H7 := kp_ hb H7
   have HZL := k0_ (hl.weak (fun b _ hq => Qr.zq LZ4.out hq))
   clear hb hl hp
   clear q0' q1' q2' q3' q4' q5' q6' q7' q8' q9' q10'
   have HRS := k0_ (zQ H6.out H7.out (show w.heap.size + 1 ≠ w.heap.size + 1 + 1 by omega) (hfrom.out _ HBW.out) (by omega) (by omega) (.int .i8 0) (.slice G m cg) (.int .i64 91) (.int .i64 h.pos) (.string ⟨#[]⟩))
   have HLF := k0_ ((HZL.out.set2 (X := w.heap.size + 1) (fun b hq => hq.ne (by omega) (by omega)) (.int .i8 0) (.slice G m cg)).zh (X := w.heap.size + 1 + 1) (fun b hq => hq.ne (by omega) (by omega)) (.int .i64 91) (.int .i64 h.pos) (.string ⟨#[]⟩))
   obtain ⟨z0, z1, z2, z3, zl⟩ := zF H6.out
   obtain ⟨y0, y1, y2, y3, y4, y5, yl⟩ := cells3 H7.out
   go_wp2_with fail
   clear z0 z1 z2 z3 zl y0 y1 y2 y3 y4 y5 yl
   generalize (((((w5.setCell ⟨w.heap.size + 1, 0, none⟩ (.int .i8 0)).setCell ⟨w.heap.size + 1, 1, none⟩ (.slice G m cg)).setCell ⟨w.heap.size + 1 + 1, 0, none⟩ (.int .i64 91)).setCell ⟨w.heap.size + 1 + 1, 1, none⟩ (.int .i64 h.pos)).setCell ⟨w.heap.size + 1 + 1, 2, none⟩ (.string ⟨#[]⟩)) = wz at *
   exact zG4
  | true =>
   rw [hag, if_pos rfl] at HRR
   go_upto_region 31 with fail
   refine zI 178 rfl [150, 151, 152, 153, 154, 155, 156, 157, 158, 159, 160, 161, 162, 163] (by kernel_rfl) (by kernel_rfl) (by kernel_rfl) (fun listed a' w' => a'.defers = [] ∧ a'.tmps.size = 178 ∧ (a'.eval (.tmp 1) = .slice A n c ∧ a'.eval (.tmp 2) = .int .i64 qv.md ∧ a'.eval (.tmp 3) = .pointer (some ⟨w.heap.size, 0, none⟩) ∧ a'.eval (.tmp 6) = .pointer (some ⟨w.heap.size + 1, 0, none⟩) ∧ a'.eval (.tmp 7) = .pointer (some ⟨w.heap.size + 1 + 1, 0, none⟩)) ∧ ∃ Gw kw t2 E2 pp2 xx2 G2 m2 cc2, (listed[0]? = some true → (a'.eval (.tmp 150) = .pointer (some ⟨w.heap.size, 10, none⟩))) ∧ (listed[1]? = some true → (a'.eval (.tmp 151) = .slice (some ⟨kb, ko, none⟩) 2 kc)) ∧ (listed[2]? = some true → (a'.eval (.tmp 152) = .pointer (some ⟨kb, ko + 11, none⟩))) ∧ (listed[3]? = some true → (a'.eval (.tmp 153) = .agg (tC_ h2 q2))) ∧ (listed[4]? = some true → (a'.eval (.tmp 154) = .slice A n c)) ∧ (listed[5]? = some true → (a'.eval (.tmp 155) = .pointer (some ⟨w.heap.size, 1, none⟩))) ∧ (listed[6]? = some true → (a'.eval (.tmp 156) = .string h.name)) ∧ (listed[7]? = some true → (a'.eval (.tmp 157) = .pointer (some ⟨w.heap.size, 4, none⟩))) ∧ (listed[8]? = some true → (a'.eval (.tmp 158) = .agg #[.int .i8 h.tk, .slice TA tn tc])) ∧ (listed[9]? = some true → (a'.eval (.tmp 159) = .slice Gw (n + 1) kw) ∧ ((listed[11]? = some false → Ck.EAt (Ck.Cut Q w.heap.size (w.heap.size + 3)) w' (l ++ [(h.name, Ck.TT h)]) Gw (n + 1) kw))) ∧ (listed[10]? = some true → (a'.eval (.tmp 160) = .int .i64 qv.md)) ∧ (listed[11]? = some true → (a'.eval (.tmp 161) = .tuple #[.agg #[.int .i8 t2.1, .slice G2 m2 cc2], .agg #[.int .i64 E2, .int .i64 pp2, .string xx2]]) ∧ (Qr.Nz (Cg.ty qv.D K h2 k2 (l ++ [(h.name, Ck.TT h)])) ∧ Qr.tyO (Cg.ty qv.D K h2 k2 (l ++ [(h.name, Ck.TT h)])) = t2 ∧ Qr.eO (Cg.ty qv.D K h2 k2 (l ++ [(h.name, Ck.TT h)])) = E2 ∧ Qr.pO (Cg.ty qv.D K h2 k2 (l ++ [(h.name, Ck.TT h)])) = pp2 ∧ Qr.xO (Cg.ty qv.D K h2 k2 (l ++ [(h.name, Ck.TT h)])) = xx2) ∧ (Ck.Ly (Ck.Cut Q w.heap.size (w.heap.size + 3)) w' t2 G2 m2 cc2)) ∧ (listed[12]? = some true → (a'.eval (.tmp 162) = .agg #[.int .i8 t2.1, .slice G2 m2 cc2]) ∧ (listed[11]? = some true)) ∧ (listed[13]? = some true → (a'.eval (.tmp 163) = .agg #[.int .i64 E2, .int .i64 pp2, .string xx2]) ∧ (listed[11]? = some true)) ∧ (listed[14]? = some true → (listed[11]? = some true) ∧ (w'.heap[w.heap.size + 1]? = some (.cells #[.int .i8 t2.1, .slice G2 m2 cc2] 25 (0, 0)))) ∧ (listed[15]? = some true → (listed[11]? = some true) ∧ (w'.heap[w.heap.size + 1 + 1]? = some (.cells #[.int .i64 E2, .int .i64 pp2, .string xx2] 35 (0, 0)))) ∧ (∃ u0 u1, w'.heap[w.heap.size + 1]? = some (.cells #[u0, u1] 25 (0, 0))) ∧ (∃ u0 u1 u2, w'.heap[w.heap.size + 1 + 1]? = some (.cells #[u0, u1, u2] 35 (0, 0))) ∧ Below b1.heap.size b1 w') (fun _ _ _ h => h.1) ?_ ?_ ?_
   ·have hz0 := HZ.out
    refine ⟨rfl, rfl, ⟨rfl, rfl, rfl, rfl, rfl⟩, none, 0, (0, .nil), 0, 0, ⟨#[]⟩, none, 0, 0, FH, FH, FH, FH, FH, FH, FH, FH, FH, FH, FH, FH, FH, FH, FH, FH, ⟨_, _, H6.out⟩, ⟨_, _, _, H7.out⟩, HBW.out.drew⟩
   ·rintro listed a' w' i o ⟨hdf, hsz, hx, Gw, kw, t2, E2, pp2, xx2, G2, m2, cc2, y0, y1, y2, y3, y4, y5, y6, y7, y8, y9, y10, y11, y12, y13, y14, y15, hB0, hB1, hbw⟩ hz hsz0 ho hi hp
    have hi13 : i < 16 := by
     rcases Nat.lt_or_ge i 16 with q | q
     ·exact q
     ·exact jY
    rcases (by omega : i = 0 ∨ i = 1 ∨ i = 2 ∨ i = 3 ∨ i = 4 ∨ i = 5 ∨ i = 6 ∨ i = 7 ∨ i = 8 ∨ i = 9 ∨ i = 10 ∨ i = 11 ∨ i = 12 ∨ i = 13 ∨ i = 14 ∨ i = 15) with rfl | rfl | rfl | rfl | rfl | rfl | rfl | rfl | rfl | rfl | rfl | rfl | rfl | rfl | rfl | rfl
    ·obtain rfl := SI ho
     exact V_ ho 150 ⟨pd hdf, ps hsz, KX hx, Gw, kw, t2, E2, pp2, xx2, G2, m2, cc2, (fun _ => pS hsz), K2 y1, K2 y2, K2 y3, K2 y4, K2 y5, K2 y6, K2 y7, K2 y8, (kF y9 (fun q => ⟨pn q.1, (kU q.2 (fun q => q))⟩)), K2 y10, K2 y11, K2 y12, K2 y13, K2 y14, K2 y15, hB0, hB1, hbw⟩
    ·obtain rfl := SI ho
     have v0 := hpv hp 0 (by simp)
     have ww0 := (y0 v0)
     obtain ⟨q0', q1', q2', q3', q4', q5', q6', q7', q8', q9', q10'⟩ := HK.out w' hbw
     exact V_ ho 151 ⟨pd hdf, ps hsz, KX hx, Gw, kw, t2, E2, pp2, xx2, G2, m2, cc2, K2 y0, (fun _ => pS hsz), K2 y2, K2 y3, K2 y4, K2 y5, K2 y6, K2 y7, K2 y8, (kF y9 (fun q => ⟨pn q.1, (kU q.2 (fun q => q))⟩)), K2 y10, K2 y11, K2 y12, K2 y13, K2 y14, K2 y15, hB0, hB1, hbw⟩
    ·obtain rfl := SI ho
     have v1 := hpv hp 1 (by simp)
     have ww1 := (y1 v1)
     exact V_ ho 152 ⟨pd hdf, ps hsz, KX hx, Gw, kw, t2, E2, pp2, xx2, G2, m2, cc2, K2 y0, K2 y1, (fun _ => pS hsz), K2 y3, K2 y4, K2 y5, K2 y6, K2 y7, K2 y8, (kF y9 (fun q => ⟨pn q.1, (kU q.2 (fun q => q))⟩)), K2 y10, K2 y11, K2 y12, K2 y13, K2 y14, K2 y15, hB0, hB1, hbw⟩
    ·obtain rfl := SI ho
     have v2 := hpv hp 2 (by simp)
     have ww2 := (y2 v2)
     obtain ⟨d2_0, d2_1, d2_2, d2_3, d2_4, d2_5, d2_6, d2_7, d2_8, d2_9, d2_10⟩ := HK2.out w' hbw
     exact V_ ho 153 ⟨pd hdf, ps hsz, KX hx, Gw, kw, t2, E2, pp2, xx2, G2, m2, cc2, K2 y0, K2 y1, K2 y2, (fun _ => pS hsz), K2 y4, K2 y5, K2 y6, K2 y7, K2 y8, (kF y9 (fun q => ⟨pn q.1, (kU q.2 (fun q => q))⟩)), K2 y10, K2 y11, K2 y12, K2 y13, K2 y14, K2 y15, hB0, hB1, hbw⟩
    ·obtain rfl := SI ho
     exact V_ ho 154 ⟨pd hdf, ps hsz, KX hx, Gw, kw, t2, E2, pp2, xx2, G2, m2, cc2, K2 y0, K2 y1, K2 y2, K2 y3, (fun _ => pS hsz), K2 y5, K2 y6, K2 y7, K2 y8, (kF y9 (fun q => ⟨pn q.1, (kU q.2 (fun q => q))⟩)), K2 y10, K2 y11, K2 y12, K2 y13, K2 y14, K2 y15, hB0, hB1, hbw⟩
    ·obtain rfl := SI ho
     exact V_ ho 155 ⟨pd hdf, ps hsz, KX hx, Gw, kw, t2, E2, pp2, xx2, G2, m2, cc2, K2 y0, K2 y1, K2 y2, K2 y3, K2 y4, (fun _ => pS hsz), K2 y6, K2 y7, K2 y8, (kF y9 (fun q => ⟨pn q.1, (kU q.2 (fun q => q))⟩)), K2 y10, K2 y11, K2 y12, K2 y13, K2 y14, K2 y15, hB0, hB1, hbw⟩
    ·obtain rfl := SI ho
     have v5 := hpv hp 5 (by simp)
     have ww5 := (y5 v5)
     obtain ⟨q0', q1', q2', q3', q4', q5', q6', q7', q8', q9', q10'⟩ := HK.out w' hbw
     exact V_ ho 156 ⟨pd hdf, ps hsz, KX hx, Gw, kw, t2, E2, pp2, xx2, G2, m2, cc2, K2 y0, K2 y1, K2 y2, K2 y3, K2 y4, K2 y5, (fun _ => pS hsz), K2 y7, K2 y8, (kF y9 (fun q => ⟨pn q.1, (kU q.2 (fun q => q))⟩)), K2 y10, K2 y11, K2 y12, K2 y13, K2 y14, K2 y15, hB0, hB1, hbw⟩
    ·obtain rfl := SI ho
     exact V_ ho 157 ⟨pd hdf, ps hsz, KX hx, Gw, kw, t2, E2, pp2, xx2, G2, m2, cc2, K2 y0, K2 y1, K2 y2, K2 y3, K2 y4, K2 y5, K2 y6, (fun _ => pS hsz), K2 y8, (kF y9 (fun q => ⟨pn q.1, (kU q.2 (fun q => q))⟩)), K2 y10, K2 y11, K2 y12, K2 y13, K2 y14, K2 y15, hB0, hB1, hbw⟩
    ·obtain rfl := SI ho
     have v7 := hpv hp 7 (by simp)
     have ww7 := (y7 v7)
     obtain ⟨q0', q1', q2', q3', q4', q5', q6', q7', q8', q9', q10'⟩ := HK.out w' hbw
     exact V_ ho 158 ⟨pd hdf, ps hsz, KX hx, Gw, kw, t2, E2, pp2, xx2, G2, m2, cc2, K2 y0, K2 y1, K2 y2, K2 y3, K2 y4, K2 y5, K2 y6, K2 y7, (fun _ => pS hsz), (kF y9 (fun q => ⟨pn q.1, (kU q.2 (fun q => q))⟩)), K2 y10, K2 y11, K2 y12, K2 y13, K2 y14, K2 y15, hB0, hB1, hbw⟩
    ·obtain rfl := SI ho
     have v4 := hpv hp 4 (by simp)
     have ww4 := (y4 v4)
     have v6 := hpv hp 6 (by simp)
     have ww6 := (y6 v6)
     have v8 := hpv hp 8 (by simp)
     have ww8 := (y8 v8)
     refine C_ ho 159 (qZ (Ck.Cut Q w.heap.size (w.heap.size + 3)) l A n c h.name (Ck.TT h) TA tn tc w' (Ck.EAt.below HE.out hbw) (Ck.Ly.later HT.out hbw) hn20) fun e u hg => ?_
     ·obtain ⟨Gw', kw', rfl, he, hb⟩ := hg
      refine ⟨.slice Gw' (n + 1) kw', rfl, ?_⟩
      have hbs := hbw.size
      have hz1 := HZ.out
      have hzb := HZB.out
      have hzz : w.heap.size + 3 ≤ w'.heap.size := by obtain ⟨_, _, _, q⟩ := hB1; have := zC q; omega
      have hbs2 := hb.size
      exact ⟨pd hdf, ps hsz, KX hx, Gw', kw', t2, E2, pp2, xx2, G2, m2, cc2, K2 y0, K2 y1, K2 y2, K2 y3, K2 y4, K2 y5, K2 y6, K2 y7, K2 y8, (fun _ => ⟨pS hsz, (fun _ => he)⟩), K2 y10, K2 y11, K2 y12, K2 y13, K2 y14, K2 y15, (qJ hb hB0), (zw hb hB1), hbw.trans (hb.mono hbw.size)⟩
    ·obtain rfl := SI ho
     exact V_ ho 160 ⟨pd hdf, ps hsz, KX hx, Gw, kw, t2, E2, pp2, xx2, G2, m2, cc2, K2 y0, K2 y1, K2 y2, K2 y3, K2 y4, K2 y5, K2 y6, K2 y7, K2 y8, (kF y9 (fun q => ⟨pn q.1, (kU q.2 (fun q => q))⟩)), (fun _ => pS hsz), K2 y11, K2 y12, K2 y13, K2 y14, K2 y15, hB0, hB1, hbw⟩
    ·obtain rfl := SI ho
     have v3 := hpv hp 3 (by simp)
     have ww3 := (y3 v3)
     have v9 := hpv hp 9 (by simp)
     have ww9 := (y9 v9).1
     have v10 := hpv hp 10 (by simp)
     have ww10 := (y10 v10)
     refine C_ ho 161 ((T2 (Ck.Cut Q w.heap.size (w.heap.size + 3)) (l ++ [(h.name, Ck.TT h)]) Gw (n + 1) kw w' (HWB.out.trans (hbw.mono HWB.out.size)) HQM.out (((y9 v9).2) hi) hch2 (by rw [List.length_append]; exact hb2)).mono (fun _ _ hp => hp.names)) fun e u hg => ?_
     ·obtain ⟨t2', E2', pp2', xx2', G2', m2', cc2', rfl, hgn, hl, hb⟩ := hg
      refine ⟨.tuple #[.agg #[.int .i8 t2'.1, .slice G2' m2' cc2'], .agg #[.int .i64 E2', .int .i64 pp2', .string xx2']], rfl, ?_⟩
      have hbs := hbw.size
      have hz1 := HZ.out
      have hzb := HZB.out
      have hzz : w.heap.size + 3 ≤ w'.heap.size := by obtain ⟨_, _, _, q⟩ := hB1; have := zC q; omega
      have hbs2 := hb.size
      exact ⟨pd hdf, ps hsz, KX hx, Gw, kw, t2', E2', pp2', xx2', G2', m2', cc2', K2 y0, K2 y1, K2 y2, K2 y3, K2 y4, K2 y5, K2 y6, K2 y7, K2 y8, (kF y9 (fun q => ⟨pn q.1, (fun qu => (zK qu).elim)⟩)), K2 y10, (fun _ => ⟨pS hsz, hgn, Ck.Ly.weak hl (fun b _ hq => Qr.zq hzz hq)⟩), KN y12, KN y13, KN y14, KN y15, (qJ hb hB0), (zw hb hB1), hbw.trans (hb.mono hbw.size)⟩
    ·obtain rfl := SI ho
     have v11 := hpv hp 11 (by simp)
     have ww11 := (y11 v11).1
     exact V_ ho 162 ⟨pd hdf, ps hsz, KX hx, Gw, kw, t2, E2, pp2, xx2, G2, m2, cc2, K2 y0, K2 y1, K2 y2, K2 y3, K2 y4, K2 y5, K2 y6, K2 y7, K2 y8, (kF y9 (fun q => ⟨pn q.1, (kU q.2 (fun q => q))⟩)), K2 y10, K2 y11, (fun _ => ⟨pS hsz, (z8 v11)⟩), K2 y13, K2 y14, K2 y15, hB0, hB1, hbw⟩
    ·obtain rfl := SI ho
     have v11 := hpv hp 11 (by simp)
     have ww11 := (y11 v11).1
     exact V_ ho 163 ⟨pd hdf, ps hsz, KX hx, Gw, kw, t2, E2, pp2, xx2, G2, m2, cc2, K2 y0, K2 y1, K2 y2, K2 y3, K2 y4, K2 y5, K2 y6, K2 y7, K2 y8, (kF y9 (fun q => ⟨pn q.1, (kU q.2 (fun q => q))⟩)), K2 y10, K2 y11, K2 y12, (fun _ => ⟨pS hsz, (z8 v11)⟩), K2 y14, K2 y15, hB0, hB1, hbw⟩
    ·obtain rfl := SI ho
     have v12 := hpv hp 12 (by simp)
     have ww12 := (y12 v12).1
     obtain ⟨u0, u1, hbox⟩ := id hB0
     obtain ⟨bc0, bc1, bf0, bf1, -⟩ := zF hbox
     refine zN ho rfl (zT rfl (w2 := ((w'.setCell ⟨w.heap.size + 1, 0, none⟩ (.int .i8 t2.1)).setCell ⟨w.heap.size + 1, 1, none⟩ (.slice G2 m2 cc2))) ?_ ?_)
     ·exact EV
     ·have hsa : (((w'.setCell ⟨w.heap.size + 1, 0, none⟩ (.int .i8 t2.1)).setCell ⟨w.heap.size + 1, 1, none⟩ (.slice G2 m2 cc2))).heap.size = w'.heap.size := by simp
      have hbs := hbw.size
      have hz1 := HZ.out
      have hzb := HZB.out
      have hzz : w.heap.size + 3 ≤ w'.heap.size := by obtain ⟨_, _, _, q⟩ := hB1; have := zC q; omega
      exact ⟨hdf, hsz, hx, Gw, kw, t2, E2, pp2, xx2, G2, m2, cc2, K2 y0, K2 y1, K2 y2, K2 y3, K2 y4, K2 y5, K2 y6, K2 y7, K2 y8, (kF y9 (fun q => ⟨q.1, (kT ((y12 v12).2))⟩)), K2 y10, K2 y11, K2 y12, K2 y13, (fun _ => ⟨(z8 ((y12 v12).2)), zL hbox _ _⟩), K2 y15, ⟨_, _, zL hbox _ _⟩, (qA hB1 (by omega)), zG hbw (by omega) _ _⟩
    ·obtain rfl := SI ho
     have v13 := hpv hp 13 (by simp)
     have ww13 := (y13 v13).1
     obtain ⟨u0, u1, u2, hbox⟩ := id hB1
     obtain ⟨bc0, bc1, bc2, bf0, bf1, bf2, -⟩ := cells3 hbox
     refine zN ho rfl (zT rfl (w2 := (((w'.setCell ⟨w.heap.size + 1 + 1, 0, none⟩ (.int .i64 E2)).setCell ⟨w.heap.size + 1 + 1, 1, none⟩ (.int .i64 pp2)).setCell ⟨w.heap.size + 1 + 1, 2, none⟩ (.string xx2))) ?_ ?_)
     ·exact EV
     ·have hsa : ((((w'.setCell ⟨w.heap.size + 1 + 1, 0, none⟩ (.int .i64 E2)).setCell ⟨w.heap.size + 1 + 1, 1, none⟩ (.int .i64 pp2)).setCell ⟨w.heap.size + 1 + 1, 2, none⟩ (.string xx2))).heap.size = w'.heap.size := by simp
      have hbs := hbw.size
      have hz1 := HZ.out
      have hzb := HZB.out
      have hzz : w.heap.size + 3 ≤ w'.heap.size := by obtain ⟨_, _, _, q⟩ := hB1; have := zC q; omega
      exact ⟨hdf, hsz, hx, Gw, kw, t2, E2, pp2, xx2, G2, m2, cc2, K2 y0, K2 y1, K2 y2, K2 y3, K2 y4, K2 y5, K2 y6, K2 y7, K2 y8, (kF y9 (fun q => ⟨q.1, (kT ((y13 v13).2))⟩)), K2 y10, K2 y11, K2 y12, K2 y13, K2 y14, (fun _ => ⟨(z8 ((y13 v13).2)), zf hbox _ _ _⟩), (qB hB0 (by omega)), ⟨_, _, _, zf hbox _ _ _⟩, qD hbw (by omega) _ _ _⟩
   ·rintro listed u w' t ht hu ⟨-, -, -, Gw, kw, t2, E2, pp2, xx2, G2, m2, cc2, y0, y1, y2, y3, y4, y5, y6, y7, y8, y9, y10, y11, y12, y13, y14, y15, hB0, hB1, hbw⟩ hall
    have v11 := hall 11 (by decide)
    have v14 := hall 14 (by decide)
    have v15 := hall 15 (by decide)
    have HBX := k0_ (hfrom.out w' hbw)
    have hx := ((y14 v14).2)
    have hy := ((y15 v15).2)
    have hgn := ((y11 v11).2.1)
    have hl := ((y11 v11).2.2)
    clear y0 y1 y2 y3 y4 y5 y6 y7 y8 y9 y10 y11 y12 y13 y14 y15 v11 v14 v15 hall hu
    exact zGD
 ·have hgen := (Qr.R.qh HP.out.1 HP.out.2).2 hE1
  have HBD := k0_ hgen
  have hne : (E1 != 0) = true := by simpa using hE1
  have HNE := k0_ hE1
  clear hgen hE1
  have HRR := k0_ (HR.out.trans (show _ = Ck.R.bad E1 pp1 xx1 from by rw [HBD.out.1]; rfl))
  have nz1 : w.heap.size + 1 ≠ w2.heap.size + 1 := by have := LZ2.out; omega
  have nz2 : w.heap.size + 1 + 1 ≠ w2.heap.size + 1 := by have := LZ2.out; omega
  have nz3 : w.heap.size + 1 ≠ w2.heap.size := by have := LZ2.out; omega
  have nz4 : w.heap.size ≠ w2.heap.size := by have := LZ2.out; omega
  go_upto_region 28 with fail
  generalize hw3 : (w2.alloc (.cells #[.int .i8 t1.1, .slice G1 m1 cc1] 25)).alloc (.cells #[.int .i64 E1, .int .i64 pp1, .string xx1] 35) = w3 at *
  clear hw3
  have HZL := k0_ (Ck.Ly.zero (Ck.Cut Q w.heap.size (w.heap.size + 3)) w3)
  have HRS := k0_ (zQ H6.out H7.out (show w.heap.size + 1 ≠ w.heap.size + 1 + 1 by omega) (hfrom.out _ HBW.out) (by omega) (by omega) (.int .i8 0) (.slice none 0 0) (.int .i64 E1) (.int .i64 pp1) (.string xx1))
  have HLF := k0_ ((HZL.out.set2 (X := w.heap.size + 1) (fun b hq => hq.ne (by omega) (by omega)) (.int .i8 0) (.slice none 0 0)).zh (X := w.heap.size + 1 + 1) (fun b hq => hq.ne (by omega) (by omega)) (.int .i64 E1) (.int .i64 pp1) (.string xx1))
  obtain ⟨z0, z1, z2, z3, zl⟩ := zF H6.out
  obtain ⟨y0, y1, y2, y3, y4, y5, yl⟩ := cells3 H7.out
  go_wp2_with fail
  go_region
  have HRS := k0_ (show (((((w3.setCell ⟨w.heap.size + 1, 0, none⟩ (.int .i8 0)).setCell ⟨w.heap.size + 1, 1, none⟩ (.slice none 0 0)).setCell ⟨w.heap.size + 1 + 1, 0, none⟩ (.int .i64 E1)).setCell ⟨w.heap.size + 1 + 1, 1, none⟩ (.int .i64 pp1)).setCell ⟨w.heap.size + 1 + 1, 2, none⟩ (.string xx1)).drew.heap[w.heap.size + 1]? = _ ∧ (((((w3.setCell ⟨w.heap.size + 1, 0, none⟩ (.int .i8 0)).setCell ⟨w.heap.size + 1, 1, none⟩ (.slice none 0 0)).setCell ⟨w.heap.size + 1 + 1, 0, none⟩ (.int .i64 E1)).setCell ⟨w.heap.size + 1 + 1, 1, none⟩ (.int .i64 pp1)).setCell ⟨w.heap.size + 1 + 1, 2, none⟩ (.string xx1)).drew.heap[w.heap.size + 1 + 1]? = _ ∧ Below w.heap.size w (((((w3.setCell ⟨w.heap.size + 1, 0, none⟩ (.int .i8 0)).setCell ⟨w.heap.size + 1, 1, none⟩ (.slice none 0 0)).setCell ⟨w.heap.size + 1 + 1, 0, none⟩ (.int .i64 E1)).setCell ⟨w.heap.size + 1 + 1, 1, none⟩ (.int .i64 pp1)).setCell ⟨w.heap.size + 1 + 1, 2, none⟩ (.string xx1)).drew from ⟨HRS.out.1, HRS.out.2.1, HRS.out.2.2.drew⟩)
  have HLF := k0_ (HLF.out.later (Below.refl _ _).drew)
  clear z0 z1 z2 z3 zl y0 y1 y2 y3 y4 y5 yl
  generalize (((((w3.setCell ⟨w.heap.size + 1, 0, none⟩ (.int .i8 0)).setCell ⟨w.heap.size + 1, 1, none⟩ (.slice none 0 0)).setCell ⟨w.heap.size + 1 + 1, 0, none⟩ (.int .i64 E1)).setCell ⟨w.heap.size + 1 + 1, 1, none⟩ (.int .i64 pp1)).setCell ⟨w.heap.size + 1 + 1, 2, none⟩ (.string xx1)).drew = wz at *
  exact zFD
end Go.Proofs.YtkdnnleanoompabGreatDoor
