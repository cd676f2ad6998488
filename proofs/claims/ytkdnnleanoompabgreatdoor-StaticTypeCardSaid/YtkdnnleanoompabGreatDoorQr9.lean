import Derived.Test.YtkdnnleanoompabGreatDoorM28
namespace Go.Proofs.YtkdnnleanoompabGreatDoor
open Go.RowKit
theorem Qr.zDv {Q : Nat → Prop} {N S Z b : Nat} (h : Z = N + 2 ∨ S ≤ Z) (hl : b < S) (hq : Ck.Cut Q N (N + 3) b) : b ≠ Z := by
 rcases hq with ⟨-, q⟩ | q <;> rcases h with h | h <;> omega
theorem Qr.nb9 {b n : Nat} (h : b < n) : b ≠ n + 1 := by omega
theorem Qr.zBJ {Q : Nat → Prop} {N b : Nat} (h : Ck.Cut Q N (N + 3) b) : b ≠ N + 2 := by rcases h with ⟨-, h⟩ | h <;> omega
theorem Qr.zFb {Q : Nat → Prop} {N S Y b : Nat} (hS : N + 3 ≤ S) (hY : Y < S) (h : Ck.Cut (fun b => Ck.Cut Q N (N + 3) b ∧ b ≠ Y) S S b) : Ck.Cut Q N (N + 3) b ∧ b ≠ Y := kZ hS hY h
set_option maxHeartbeats 8000000 in
set_option maxRecDepth 100000 in
theorem kW (qv : Qr.Qv) (K : Nat) (Q : Nat → Prop) (h h1 h2 h3 : Hd) (k1 k2 k3 : Tm) (q1 q2 q3 : Pl) (TA UA : Option Addr) (tn tc un uc kb ko kc : Nat) (l : Ck.Env) (A : Option Addr) (n c : Nat) (wb w : World)
  (hT : Ty.Is wb h.tk h.tkids TA tn tc) (hU : Ty.Is wb h.uk h.ukids UA un uc) (g1 : Ck.KidAt wb kb (ko) h1 q1) (g2 : Ck.KidAt wb kb (ko + 11) h2 q2) (g3 : Ck.KidAt wb kb (ko + 22) h3 q3) (hwb : Below wb.heap.size wb w) (hQ : ∀ b, b < wb.heap.size → Q b) (hE : Ck.EAt Q w l A n c) (hl : l.length < 20000)
  (hch : ∀ x ∈ l, Ck.chk x.2 = 0) (hasl : ∀ a : Ck.T2, Ck.chk a = 0 → Ck.chk (qv.D.asl 5 a) = 0) (hasr : ∀ a : Ck.T2, Ck.chk a = 0 → Ck.chk (qv.D.asr 5 a) = 0) (hmt : ∀ a b : Ck.T2, Ck.chk a = 0 → Ck.chk b = 0 → qv.D.ag a b = true → Ty.okT (qv.D.mt a b).1 (qv.D.mt a b).2 = true) (hb1 : l.length + 2 * (Tm.nodes k1 + 1) ≤ 20000) (hb2 : l.length + 1 + 2 * (Tm.nodes k2 + 1) ≤ 20000) (hb3 : l.length + 1 + 2 * (Tm.nodes k3 + 1) ≤ 20000) (T1 : Qr.TellsOf qv K wb h1 k1 q1) (T2 : Qr.TellsOf qv K wb h2 k2 q2) (T3 : Qr.TellsOf qv K wb h3 k3 q3) :
  Calls Tryz.prog 35 #[.agg (tD_ h TA tn tc UA un uc (some ⟨kb, ko, none⟩) 3 kc), .slice A n c, .int .i64 qv.md] w (Qr.Post Q w (Ck.bnd (Cg.ty qv.D K h1 k1 l) fun a => if qv.D.asO 5 a = true then Ck.bnd (Cg.ty qv.D K h2 k2 (l ++ [(h.name, qv.D.asl 5 a)])) fun b => Ck.bnd (Cg.ty qv.D K h3 k3 (l ++ [(h.arg, qv.D.asr 5 a)])) fun c => (if qv.D.ag b c = true then Ck.lift h (.ok (qv.D.mt b c)) else Ck.fault h 91) else Ck.fault h 90)) := by
 try unfold tD_
 obtain ⟨R, hR⟩ : ∃ R, R = (Ck.bnd (Cg.ty qv.D K h1 k1 l) fun a => if qv.D.asO 5 a = true then Ck.bnd (Cg.ty qv.D K h2 k2 (l ++ [(h.name, qv.D.asl 5 a)])) fun b => Ck.bnd (Cg.ty qv.D K h3 k3 (l ++ [(h.arg, qv.D.asr 5 a)])) fun c => (if qv.D.ag b c = true then Ck.lift h (.ok (qv.D.mt b c)) else Ck.fault h 91) else Ck.fault h 90) := ⟨_, rfl⟩
 rw [← hR]
 have HR := k0_ hR
 obtain ⟨b1, w1, hw1, hb0, g0, hb1, h6, h7, hzb, hz⟩ := Qr.three w (.cells (tD_ h TA tn tc UA un uc (some ⟨kb, ko, none⟩) 3 kc) 28)
 have HW1 := k0_ hw1
 have HB0 := k0_ hb0
 have H0 := k0_ g0
 have HBW := k0_ hb1
 have H6 := k0_ h6
 have H7 := k0_ h7
 have HZB := k0_ hzb
 have HZ := k0_ hz
 have LZ := k0_ (Nat.le_of_eq hz.symm)
 have HWB := k0_ (hwb.trans (hb0.mono hwb.size))
 have hfrom := k0_ (fun (W : World) (hb : Below b1.heap.size b1 W) => hb0.trans (hb.mono hb0.size))
 have HQM : Hid (∀ b, b < wb.heap.size → Ck.Cut Q w.heap.size (w.heap.size + 3) b) := k0_ (fun b hb => .inl ⟨hQ b hb, Nat.lt_of_lt_of_le hb hwb.size⟩)
 have HE : Hid (Ck.EAt (Ck.Cut Q w.heap.size (w.heap.size + 3)) b1 l A n c) := k0_ ((hE.weak (fun b hb hq => .inl ⟨hq, hb⟩)).below hb0)
 have HT : Hid (Ck.Ly (Ck.Cut Q w.heap.size (w.heap.size + 3)) b1 (Ck.TT h) TA tn tc) := k0_ (((Ck.Ly.of (a := Ck.TT h) hT).weak (fun b hb _ => HQM.out b hb)).later HWB.out)
 have HU : Hid (Ck.Ly (Ck.Cut Q w.heap.size (w.heap.size + 3)) b1 (Ck.UU h) UA un uc) := k0_ (((Ck.Ly.of (a := Ck.UU h) hU).weak (fun b hb _ => HQM.out b hb)).later HWB.out)
 have HN := k0_ hE.n_eq
 have HLL := k0_ hl
 have HK := k0_ (fun (W : World) (hb : Below b1.heap.size b1 W) => Qr.jA (zA hb (zC H0.out) H0.out))
 have HK1 := k0_ (fun (W : World) (hb : Below b1.heap.size b1 W) => Qr.wJ g1 HWB.out hb)
 have HK2 := k0_ (fun (W : World) (hb : Below b1.heap.size b1 W) => Qr.zDW g2 HWB.out hb)
 have HK3 := k0_ (fun (W : World) (hb : Below b1.heap.size b1 W) => Qr.zF0 g3 HWB.out hb)
 clear hR hb0 g0 hb1 h6 h7 hzb hz hwb hE hT hU hl g1 g2 g3
 have hn20 : n + 1 ≤ 20000 := by have := HN.out; have := HLL.out; omega
 have HCH := k0_ hch
 have HAS := k0_ (And.intro hasl hasr)
 have HMT := k0_ hmt
 clear hasl hasr hmt
 go_enter Tryz.func35, Tryz.ntmps35
 go_upto_region 1 with fail
 rw [← HW1.out]
 clear hw1 HW1
 obtain ⟨q0', q1', q2', q3', q4', q5', q6', q7', q8', q9', q10'⟩ := HK.out w1 HBW.out
 obtain ⟨d1_0, d1_1, d1_2, d1_3, d1_4, d1_5, d1_6, d1_7, d1_8, d1_9, d1_10⟩ := HK1.out w1 HBW.out
 go_wp2_with fail
 refine (T1 (Ck.Cut Q w.heap.size (w.heap.size + 3)) (l) A n c w1 (HWB.out.trans (HBW.out.mono HWB.out.size)) HQM.out (HE.out.below HBW.out) hch hb1).mono ?_
 rintro e w2 hp
 obtain ⟨t1, E1, pp1, xx1, G1, m1, cc1, rfl, hgn, hl, hb⟩ := hp.names
 have HP := k0_ hgn
 have HL1 : Hid (Ck.Ly (Ck.Cut Q w.heap.size (w.heap.size + 3)) w2 t1 G1 m1 cc1) := k0_ (hl.weak (fun b _ hq => Qr.zq LZ.out hq))
 clear hgn hl hp
 have HBW := kt_ HBW hb
 have LZ := kz_ LZ hb
 have H6 := kp_ hb H6
 have H7 := kp_ hb H7
 clear hb
 clear hch hb1
 clear q0' q1' q2' q3' q4' q5' q6' q7' q8' q9' q10'
 clear d1_0 d1_1 d1_2 d1_3 d1_4 d1_5 d1_6 d1_7 d1_8 d1_9 d1_10
 have LZ2 := k0_ (show w.heap.size + 3 ≤ w2.heap.size from LZ.out)
 have HB2 := k0_ HBW.out
 have HWB2 := k0_ (HWB.out.trans (HBW.out.mono HWB.out.size))
 have HE2 := k0_ (HE.out.below HBW.out)
 have HL1 := k0_ (HL1.out.weak (Q' := (fun b => Ck.Cut Q w.heap.size (w.heap.size + 3) b ∧ b ≠ w2.heap.size + 1)) (fun b hl hq => ⟨hq, Qr.nb9 hl⟩))
 have HB25 := k0_ (Below.refl w2.heap.size w2)
 have hb8 := zW w2 (.cells #[.int .i8 t1.1, .slice G1 m1 cc1] 25) (.cells #[.int .i64 E1, .int .i64 pp1, .string xx1] 35)
 have HX1 := k0_ (zS w2 (.cells #[.int .i8 t1.1, .slice G1 m1 cc1] 25) (.cells #[.int .i64 E1, .int .i64 pp1, .string xx1] 35)).1
 have HX2 := k0_ (zS w2 (.cells #[.int .i8 t1.1, .slice G1 m1 cc1] 25) (.cells #[.int .i64 E1, .int .i64 pp1, .string xx1] 35)).2
 have HBW := kt_ HBW hb8
 have LZ := kz_ LZ hb8
 have H6 := kp_ hb8 H6
 have H7 := kp_ hb8 H7
 have HL1 := Ck.kl_ HL1 hb8
 have HB25 := kt_ HB25 hb8
 clear hb8
 have HCF := k0_ (fun (E : Int) (hE : E ≠ 0) (W : World) => zu (Ck.Cut Q w.heap.size (w.heap.size + 3)) h (⟨TA, tn, tc, UA, un, uc, some ⟨kb, ko, none⟩, 3, kc⟩ : Pl) E hE W)
 obtain ⟨e3, e4, -, -, -⟩ := zF HX1.out
 obtain ⟨e0, e1, e2, -, -, -, -⟩ := cells3 HX2.out
 by_cases hE1 : E1 = 0
 ·have hgen := (Qr.R.qh HP.out.1 HP.out.2).1 hE1
  have HOK := k0_ hgen.1
  subst hE1
  clear hgen
  have hc1 := Cg.jd HOK.out
  have HCK := k0_ hc1
  have HOT := k0_ (Ty.zm hc1).1
  clear hc1
  have HRR := k0_ (HR.out.trans (show _ = (if qv.D.asO 5 t1 = true then Ck.bnd (Cg.ty qv.D K h2 k2 (l ++ [(h.name, qv.D.asl 5 t1)])) fun b => Ck.bnd (Cg.ty qv.D K h3 k3 (l ++ [(h.arg, qv.D.asr 5 t1)])) fun c => (if qv.D.ag b c = true then Ck.lift h (.ok (qv.D.mt b c)) else Ck.fault h 91) else Ck.fault h 90) from by rw [HOK.out]; rfl))
  have HCM := k0_ (fun (W : World) (hl1 : Ck.Ly ((fun b => Ck.Cut Q w.heap.size (w.heap.size + 3) b ∧ b ≠ w2.heap.size + 1)) W t1 G1 m1 cc1) => qv.asC ((fun b => Ck.Cut Q w.heap.size (w.heap.size + 3) b ∧ b ≠ w2.heap.size + 1)) 5 t1 G1 m1 cc1 W (by decide) hl1 HOT.out)
  go_wp2_with fail
  refine (HCM.out _ HL1.out).mono ?_
  rintro e w4 ⟨Gx, mx, cx, Gy, my, cy, rfl, hlx, hly, hb⟩
  have h9 := k0_ (show w2.heap.size + 1 < _ from zC HX2.out)
  have HLX := k0_ (hlx.weak (Q' := (fun b => Ck.Cut Q w.heap.size (w.heap.size + 3) b ∧ b ≠ w2.heap.size + 1)) (fun b _ hq => Qr.zFb LZ.out h9.out hq))
  have HLY := k0_ (hly.weak (Q' := (fun b => Ck.Cut Q w.heap.size (w.heap.size + 3) b ∧ b ≠ w2.heap.size + 1)) (fun b _ hq => Qr.zFb LZ.out h9.out hq))
  clear hlx hly
  have HBW := kt_ HBW hb
  have LZ := kz_ LZ hb
  have H6 := kp_ hb H6
  have H7 := kp_ hb H7
  have HX2 := kp_ hb HX2
  have L94 := k0_ (Nat.lt_of_lt_of_le h9.out hb.size)
  have HB25 := kt_ HB25 hb
  clear hb e0 e1 e2 e3 e4
  have hb8 := zW w4 (.cells #[.int .i8 (qv.D.asl 5 t1).1, .slice Gx mx cx] 25) (.cells #[.int .i8 (qv.D.asr 5 t1).1, .slice Gy my cy] 25)
  have H10 := k0_ (zS w4 (.cells #[.int .i8 (qv.D.asl 5 t1).1, .slice Gx mx cx] 25) (.cells #[.int .i8 (qv.D.asr 5 t1).1, .slice Gy my cy] 25)).1
  have H11 := k0_ (zS w4 (.cells #[.int .i8 (qv.D.asl 5 t1).1, .slice Gx mx cx] 25) (.cells #[.int .i8 (qv.D.asr 5 t1).1, .slice Gy my cy] 25)).2
  have HBW := kt_ HBW hb8
  have LZ := kz_ LZ hb8
  have H6 := kp_ hb8 H6
  have H7 := kp_ hb8 H7
  have HX2 := kp_ hb8 HX2
  have HLX := Ck.kl_ HLX hb8
  have HLY := Ck.kl_ HLY hb8
  have HB25 := kt_ HB25 hb8
  clear hb8
  cases hag : qv.D.asO 5 t1 with
  | false =>
   rw [hag, if_neg (by decide)] at HRR
   obtain ⟨q0', q1', q2', q3', q4', q5', q6', q7', q8', q9', q10'⟩ := HK.out _ HBW.out
   have LZ4 := k0_ LZ.out
   go_wp2_with fail
   refine (HCF.out 90 (by decide) _).mono ?_
   rintro e w6 hp
   obtain ⟨G, m, cg, rfl, hl, hb⟩ := hp.flt
   have HBW := kt_ HBW hb
   have LZ := kz_ LZ hb
   have H6 := kp_ hb H6
   have H7 := kp_ hb H7
   have HZL := k0_ (hl.weak (fun b _ hq => Qr.zq LZ4.out hq))
   clear hb hl hp
   clear q0' q1' q2' q3' q4' q5' q6' q7' q8' q9' q10'
   have HRS := k0_ (zQ H6.out H7.out (show w.heap.size + 1 ≠ w.heap.size + 1 + 1 by omega) (hfrom.out _ HBW.out) (by omega) (by omega) (.int .i8 0) (.slice G m cg) (.int .i64 90) (.int .i64 h.pos) (.string ⟨#[]⟩))
   have HLF := k0_ ((HZL.out.set2 (X := w.heap.size + 1) (fun b hq => hq.ne (by omega) (by omega)) (.int .i8 0) (.slice G m cg)).zh (X := w.heap.size + 1 + 1) (fun b hq => hq.ne (by omega) (by omega)) (.int .i64 90) (.int .i64 h.pos) (.string ⟨#[]⟩))
   obtain ⟨z0, z1, z2, z3, zl⟩ := zF H6.out
   obtain ⟨y0, y1, y2, y3, y4, y5, yl⟩ := cells3 H7.out
   go_wp2_with fail
   clear z0 z1 z2 z3 zl y0 y1 y2 y3 y4 y5 yl
   generalize (((((w6.setCell ⟨w.heap.size + 1, 0, none⟩ (.int .i8 0)).setCell ⟨w.heap.size + 1, 1, none⟩ (.slice G m cg)).setCell ⟨w.heap.size + 1 + 1, 0, none⟩ (.int .i64 90)).setCell ⟨w.heap.size + 1 + 1, 1, none⟩ (.int .i64 h.pos)).setCell ⟨w.heap.size + 1 + 1, 2, none⟩ (.string ⟨#[]⟩)) = wz at *
   obtain ⟨k0, k1', -, -, -⟩ := zF HRS.out.1
   obtain ⟨k2', k3', k4', -, -, -, -⟩ := cells3 HRS.out.2.1
   refine bodyPost_ret (v := .tuple #[.agg #[.int .i8 0, .slice G m cg], .agg #[.int .i64 90, .int .i64 h.pos, .string ⟨#[]⟩]]) (by simp [results, Tryz.results35, go_sem, k0, k1', k2', k3', k4']) rfl ?_
   exact HRR.out ▸ Qr.Post.mk (a := (0, .nil)) (Qr.Nz.fault h (by decide)) ⟨rfl, rfl, rfl, rfl⟩ (HLF.out.weak (fun b _ hq => hq.out (by omega))) HRS.out.2.2
  | true =>
   rw [hag, if_pos rfl] at HRR
   go_upto_region 7 with fail
   generalize hw5 : (w4.alloc (.cells #[.int .i8 (qv.D.asl 5 t1).1, .slice Gx mx cx] 25)).alloc (.cells #[.int .i8 (qv.D.asr 5 t1).1, .slice Gy my cy] 25) = w5 at *
   clear hw5
   have HS : Hid (w2.heap.size ≤ w4.heap.size + 2) := k0_ (by have := L94.out; omega)
   skip
   have HCH2 := k0_ (show ∀ x ∈ l ++ [(h.name, qv.D.asl 5 t1)], Ck.chk x.2 = 0 from fun x hx => by rcases List.mem_append.1 hx with q | q; exact HCH.out x q; rw [List.mem_singleton.1 q]; exact HAS.out.1 _ HCK.out)
   have HCH3 := k0_ (show ∀ x ∈ l ++ [(h.arg, qv.D.asr 5 t1)], Ck.chk x.2 = 0 from fun x hx => by rcases List.mem_append.1 hx with q | q; exact HCH.out x q; rw [List.mem_singleton.1 q]; exact HAS.out.2 _ HCK.out)
   refine zI 100 rfl [45, 46, 47, 48, 49, 50, 51, 52, 53, 54, 55, 44, 56, 57, 13] (by kernel_rfl) (by kernel_rfl) (by kernel_rfl) (fun listed a' w' => a'.defers = [] ∧ a'.tmps.size = 100 ∧ (a'.eval (.tmp 1) = .slice A n c ∧ a'.eval (.tmp 2) = .int .i64 qv.md ∧ a'.eval (.tmp 3) = .pointer (some ⟨w.heap.size, 0, none⟩) ∧ a'.eval (.tmp 6) = .pointer (some ⟨w.heap.size + 1, 0, none⟩) ∧ a'.eval (.tmp 7) = .pointer (some ⟨w.heap.size + 1 + 1, 0, none⟩) ∧ a'.eval (.tmp 9) = .pointer (some ⟨w2.heap.size + 1, 0, none⟩) ∧ a'.eval (.tmp 10) = .pointer (some ⟨w4.heap.size, 0, none⟩) ∧ a'.eval (.tmp 11) = .pointer (some ⟨w4.heap.size + 1, 0, none⟩)) ∧ ∃ Z1 Gw kw t2 E2 pp2 xx2 G2 m2 cc2, (listed[0]? = some true → (a'.eval (.tmp 45) = .pointer (some ⟨w.heap.size, 10, none⟩))) ∧ (listed[1]? = some true → (a'.eval (.tmp 46) = .slice (some ⟨kb, ko, none⟩) 3 kc)) ∧ (listed[2]? = some true → (a'.eval (.tmp 47) = .pointer (some ⟨kb, ko + 11, none⟩))) ∧ (listed[3]? = some true → (a'.eval (.tmp 48) = .agg (tC_ h2 q2))) ∧ (listed[4]? = some true → (a'.eval (.tmp 49) = .slice A n c)) ∧ (listed[5]? = some true → (a'.eval (.tmp 50) = .pointer (some ⟨w.heap.size, 1, none⟩))) ∧ (listed[6]? = some true → (a'.eval (.tmp 51) = .string h.name)) ∧ (listed[7]? = some true → (a'.eval (.tmp 52) = .agg #[.int .i8 (qv.D.asl 5 t1).1, .slice Gx mx cx])) ∧ (listed[8]? = some true → (a'.eval (.tmp 53) = .slice Gw (n + 1) kw) ∧ ((listed[10]? = some false → Ck.EAt (fun b => Ck.Cut Q w.heap.size (w.heap.size + 3) b ∧ b ≠ w2.heap.size + 1 ∧ b ≠ Z1) w' (l ++ [(h.name, qv.D.asl 5 t1)]) Gw (n + 1) kw))) ∧ (listed[9]? = some true → (a'.eval (.tmp 54) = .int .i64 qv.md)) ∧ (listed[10]? = some true → (a'.eval (.tmp 55) = .tuple #[.agg #[.int .i8 t2.1, .slice G2 m2 cc2], .agg #[.int .i64 E2, .int .i64 pp2, .string xx2]]) ∧ (Qr.Nz (Cg.ty qv.D K h2 k2 (l ++ [(h.name, qv.D.asl 5 t1)])) ∧ Qr.tyO (Cg.ty qv.D K h2 k2 (l ++ [(h.name, qv.D.asl 5 t1)])) = t2 ∧ Qr.eO (Cg.ty qv.D K h2 k2 (l ++ [(h.name, qv.D.asl 5 t1)])) = E2 ∧ Qr.pO (Cg.ty qv.D K h2 k2 (l ++ [(h.name, qv.D.asl 5 t1)])) = pp2 ∧ Qr.xO (Cg.ty qv.D K h2 k2 (l ++ [(h.name, qv.D.asl 5 t1)])) = xx2) ∧ (Ck.Ly (fun b => Ck.Cut Q w.heap.size (w.heap.size + 3) b ∧ b ≠ w2.heap.size + 1 ∧ b ≠ Z1) w' t2 G2 m2 cc2)) ∧ (listed[11]? = some true → (a'.eval (.tmp 44) = .tuple #[.agg #[.int .i8 t2.1, .slice G2 m2 cc2], .agg #[.int .i64 E2, .int .i64 pp2, .string xx2]]) ∧ (listed[10]? = some true)) ∧ (listed[12]? = some true → (a'.eval (.tmp 56) = .agg #[.int .i8 t2.1, .slice G2 m2 cc2]) ∧ (listed[10]? = some true)) ∧ (listed[13]? = some true → (a'.eval (.tmp 57) = .agg #[.int .i64 E2, .int .i64 pp2, .string xx2]) ∧ (listed[10]? = some true)) ∧ (listed[14]? = some true → (a'.eval (.tmp 13) = .pointer (some ⟨Z1, 0, none⟩)) ∧ (w4.heap.size + 2 ≤ Z1) ∧ (∃ u0 u1, w'.heap[Z1]? = some (.cells #[u0, u1] 25 (0, 0)))) ∧ (listed[15]? = some true → (listed[10]? = some true) ∧ (listed[14]? = some true) ∧ (w'.heap[Z1]? = some (.cells #[.int .i8 t2.1, .slice G2 m2 cc2] 25 (0, 0)))) ∧ (listed[16]? = some true → (listed[10]? = some true) ∧ (w'.heap[w2.heap.size + 1]? = some (.cells #[.int .i64 E2, .int .i64 pp2, .string xx2] 35 (0, 0)))) ∧ (∃ u0 u1 u2, w'.heap[w2.heap.size + 1]? = some (.cells #[u0, u1, u2] 35 (0, 0))) ∧ (w'.heap[w.heap.size + 1]? = some (.cells #[.int .i8 0, .slice none 0 0] 25 (0, 0))) ∧ (w'.heap[w.heap.size + 1 + 1]? = some (.cells #[.int .i64 0, .int .i64 0, .string ⟨#[]⟩] 35 (0, 0))) ∧ (w'.heap[w4.heap.size]? = some (.cells #[.int .i8 (qv.D.asl 5 t1).1, .slice Gx mx cx] 25 (0, 0))) ∧ (w'.heap[w4.heap.size + 1]? = some (.cells #[.int .i8 (qv.D.asr 5 t1).1, .slice Gy my cy] 25 (0, 0))) ∧ (Ck.Ly ((fun b => Ck.Cut Q w.heap.size (w.heap.size + 3) b ∧ b ≠ w2.heap.size + 1 ∧ b ≠ Z1)) w' (qv.D.asl 5 t1) Gx mx cx) ∧ (Ck.Ly ((fun b => Ck.Cut Q w.heap.size (w.heap.size + 3) b ∧ b ≠ w2.heap.size + 1 ∧ b ≠ Z1)) w' (qv.D.asr 5 t1) Gy my cy) ∧ (Z1 < w'.heap.size ∧ (Z1 = w.heap.size + 2 ∨ w4.heap.size + 2 ≤ Z1)) ∧ Below w2.heap.size w2 w') (fun _ _ _ h => h.1) ?_ ?_ ?_
   ·have hz0 := HZ.out
    refine ⟨rfl, rfl, ⟨rfl, rfl, rfl, rfl, rfl, rfl, rfl, rfl⟩, (w.heap.size + 2), none, 0, (0, .nil), 0, 0, ⟨#[]⟩, none, 0, 0, FH, FH, FH, FH, FH, FH, FH, FH, FH, FH, FH, FH, FH, FH, FH, FH, FH, ⟨_, _, _, HX2.out⟩, H6.out, H7.out, H10.out, H11.out, (HLX.out.weak (fun b _ hq => ⟨hq.1, hq.2, Qr.zBJ hq.1⟩)), (HLY.out.weak (fun b _ hq => ⟨hq.1, hq.2, Qr.zBJ hq.1⟩)), ⟨(show w.heap.size + 2 < w5.heap.size from by have := LZ.out; omega), .inl rfl⟩, HB25.out.drew⟩
   ·rintro listed a' w' i o ⟨hdf, hsz, hx, Z1, Gw, kw, t2, E2, pp2, xx2, G2, m2, cc2, y0, y1, y2, y3, y4, y5, y6, y7, y8, y9, y10, y11, y12, y13, y14, y15, y16, hB0, hH0, hH1, hH2, hH3, hH4, hH5, ⟨sZ1, hZZ1⟩, hbw⟩ hz hsz0 ho hi hp
    have hi13 : i < 17 := by
     exact zDu
    rcases (by omega : i = 0 ∨ i = 1 ∨ i = 2 ∨ i = 3 ∨ i = 4 ∨ i = 5 ∨ i = 6 ∨ i = 7 ∨ i = 8 ∨ i = 9 ∨ i = 10 ∨ i = 11 ∨ i = 12 ∨ i = 13 ∨ i = 14 ∨ i = 15 ∨ i = 16) with rfl | rfl | rfl | rfl | rfl | rfl | rfl | rfl | rfl | rfl | rfl | rfl | rfl | rfl | rfl | rfl | rfl
    ·obtain rfl := SI ho
     exact V_ ho 45 ⟨pd hdf, ps hsz, KX hx, Z1, Gw, kw, t2, E2, pp2, xx2, G2, m2, cc2, (fun _ => pS hsz), K2 y1, K2 y2, K2 y3, K2 y4, K2 y5, K2 y6, K2 y7, (kF y8 (fun q => ⟨pn q.1, (kU q.2 (fun q => q))⟩)), K2 y9, K2 y10, K2 y11, K2 y12, K2 y13, K2 y14, K2 y15, K2 y16, hB0, hH0, hH1, hH2, hH3, hH4, hH5, ⟨sZ1, hZZ1⟩, hbw⟩
    ·obtain rfl := SI ho
     have v0 := hpv hp 0 (by simp)
     have ww0 := (y0 v0)
     obtain ⟨q0', q1', q2', q3', q4', q5', q6', q7', q8', q9', q10'⟩ := HK.out w' (HB2.out.trans (hbw.mono HB2.out.size))
     exact V_ ho 46 ⟨pd hdf, ps hsz, KX hx, Z1, Gw, kw, t2, E2, pp2, xx2, G2, m2, cc2, K2 y0, (fun _ => pS hsz), K2 y2, K2 y3, K2 y4, K2 y5, K2 y6, K2 y7, (kF y8 (fun q => ⟨pn q.1, (kU q.2 (fun q => q))⟩)), K2 y9, K2 y10, K2 y11, K2 y12, K2 y13, K2 y14, K2 y15, K2 y16, hB0, hH0, hH1, hH2, hH3, hH4, hH5, ⟨sZ1, hZZ1⟩, hbw⟩
    ·obtain rfl := SI ho
     have v1 := hpv hp 1 (by simp)
     have ww1 := (y1 v1)
     exact V_ ho 47 ⟨pd hdf, ps hsz, KX hx, Z1, Gw, kw, t2, E2, pp2, xx2, G2, m2, cc2, K2 y0, K2 y1, (fun _ => pS hsz), K2 y3, K2 y4, K2 y5, K2 y6, K2 y7, (kF y8 (fun q => ⟨pn q.1, (kU q.2 (fun q => q))⟩)), K2 y9, K2 y10, K2 y11, K2 y12, K2 y13, K2 y14, K2 y15, K2 y16, hB0, hH0, hH1, hH2, hH3, hH4, hH5, ⟨sZ1, hZZ1⟩, hbw⟩
    ·obtain rfl := SI ho
     have v2 := hpv hp 2 (by simp)
     have ww2 := (y2 v2)
     obtain ⟨d2_0, d2_1, d2_2, d2_3, d2_4, d2_5, d2_6, d2_7, d2_8, d2_9, d2_10⟩ := HK2.out w' (HB2.out.trans (hbw.mono HB2.out.size))
     exact V_ ho 48 ⟨pd hdf, ps hsz, KX hx, Z1, Gw, kw, t2, E2, pp2, xx2, G2, m2, cc2, K2 y0, K2 y1, K2 y2, (fun _ => pS hsz), K2 y4, K2 y5, K2 y6, K2 y7, (kF y8 (fun q => ⟨pn q.1, (kU q.2 (fun q => q))⟩)), K2 y9, K2 y10, K2 y11, K2 y12, K2 y13, K2 y14, K2 y15, K2 y16, hB0, hH0, hH1, hH2, hH3, hH4, hH5, ⟨sZ1, hZZ1⟩, hbw⟩
    ·obtain rfl := SI ho
     exact V_ ho 49 ⟨pd hdf, ps hsz, KX hx, Z1, Gw, kw, t2, E2, pp2, xx2, G2, m2, cc2, K2 y0, K2 y1, K2 y2, K2 y3, (fun _ => pS hsz), K2 y5, K2 y6, K2 y7, (kF y8 (fun q => ⟨pn q.1, (kU q.2 (fun q => q))⟩)), K2 y9, K2 y10, K2 y11, K2 y12, K2 y13, K2 y14, K2 y15, K2 y16, hB0, hH0, hH1, hH2, hH3, hH4, hH5, ⟨sZ1, hZZ1⟩, hbw⟩
    ·obtain rfl := SI ho
     exact V_ ho 50 ⟨pd hdf, ps hsz, KX hx, Z1, Gw, kw, t2, E2, pp2, xx2, G2, m2, cc2, K2 y0, K2 y1, K2 y2, K2 y3, K2 y4, (fun _ => pS hsz), K2 y6, K2 y7, (kF y8 (fun q => ⟨pn q.1, (kU q.2 (fun q => q))⟩)), K2 y9, K2 y10, K2 y11, K2 y12, K2 y13, K2 y14, K2 y15, K2 y16, hB0, hH0, hH1, hH2, hH3, hH4, hH5, ⟨sZ1, hZZ1⟩, hbw⟩
    ·obtain rfl := SI ho
     have v5 := hpv hp 5 (by simp)
     have ww5 := (y5 v5)
     obtain ⟨q0', q1', q2', q3', q4', q5', q6', q7', q8', q9', q10'⟩ := HK.out w' (HB2.out.trans (hbw.mono HB2.out.size))
     exact V_ ho 51 ⟨pd hdf, ps hsz, KX hx, Z1, Gw, kw, t2, E2, pp2, xx2, G2, m2, cc2, K2 y0, K2 y1, K2 y2, K2 y3, K2 y4, K2 y5, (fun _ => pS hsz), K2 y7, (kF y8 (fun q => ⟨pn q.1, (kU q.2 (fun q => q))⟩)), K2 y9, K2 y10, K2 y11, K2 y12, K2 y13, K2 y14, K2 y15, K2 y16, hB0, hH0, hH1, hH2, hH3, hH4, hH5, ⟨sZ1, hZZ1⟩, hbw⟩
    ·obtain rfl := SI ho
     obtain ⟨e0, e1, -, -, -⟩ := zF hH2
     exact V_ ho 52 ⟨pd hdf, ps hsz, KX hx, Z1, Gw, kw, t2, E2, pp2, xx2, G2, m2, cc2, K2 y0, K2 y1, K2 y2, K2 y3, K2 y4, K2 y5, K2 y6, (fun _ => pS hsz), (kF y8 (fun q => ⟨pn q.1, (kU q.2 (fun q => q))⟩)), K2 y9, K2 y10, K2 y11, K2 y12, K2 y13, K2 y14, K2 y15, K2 y16, hB0, hH0, hH1, hH2, hH3, hH4, hH5, ⟨sZ1, hZZ1⟩, hbw⟩
    ·obtain rfl := SI ho
     have v4 := hpv hp 4 (by simp)
     have ww4 := (y4 v4)
     have v6 := hpv hp 6 (by simp)
     have ww6 := (y6 v6)
     have v7 := hpv hp 7 (by simp)
     have ww7 := (y7 v7)
     refine C_ ho 53 (qZ (fun b => Ck.Cut Q w.heap.size (w.heap.size + 3) b ∧ b ≠ w2.heap.size + 1 ∧ b ≠ Z1) l A n c h.name (qv.D.asl 5 t1) Gx mx cx w' (Ck.EAt.below (Ck.EAt.weak HE2.out (fun b hl hq => ⟨hq, Qr.nb9 hl, Qr.zDv hZZ1 (Nat.lt_of_lt_of_le hl HS.out) hq⟩)) hbw) hH4 hn20) fun e u hg => ?_
     ·obtain ⟨Gw', kw', rfl, he, hb⟩ := hg
      refine ⟨.slice Gw' (n + 1) kw', rfl, ?_⟩
      have hbs := hbw.size
      have hz1 := HZ.out
      have hzb := HZB.out
      have hz2 := LZ2.out
      have hz4 := L94.out
      have hz11 := zC hH3
      have hzz : w4.heap.size + 2 ≤ w'.heap.size := by omega
      have hbs2 := hb.size
      exact ⟨pd hdf, ps hsz, KX hx, Z1, Gw', kw', t2, E2, pp2, xx2, G2, m2, cc2, K2 y0, K2 y1, K2 y2, K2 y3, K2 y4, K2 y5, K2 y6, K2 y7, (fun _ => ⟨pS hsz, (fun _ => he)⟩), K2 y9, K2 y10, K2 y11, K2 y12, K2 y13, K2 y14, K2 y15, K2 y16, (zw hb hB0), (zA hb (zC hH0) hH0), (zA hb (zC hH1) hH1), (zA hb (zC hH2) hH2), (zA hb (zC hH3) hH3), (Ck.Ly.later hH4 hb), (Ck.Ly.later hH5 hb), ⟨(by omega), hZZ1⟩, hbw.trans (hb.mono hbw.size)⟩
    ·obtain rfl := SI ho
     exact V_ ho 54 ⟨pd hdf, ps hsz, KX hx, Z1, Gw, kw, t2, E2, pp2, xx2, G2, m2, cc2, K2 y0, K2 y1, K2 y2, K2 y3, K2 y4, K2 y5, K2 y6, K2 y7, (kF y8 (fun q => ⟨pn q.1, (kU q.2 (fun q => q))⟩)), (fun _ => pS hsz), K2 y10, K2 y11, K2 y12, K2 y13, K2 y14, K2 y15, K2 y16, hB0, hH0, hH1, hH2, hH3, hH4, hH5, ⟨sZ1, hZZ1⟩, hbw⟩
    ·obtain rfl := SI ho
     have v3 := hpv hp 3 (by simp)
     have ww3 := (y3 v3)
     have v8 := hpv hp 8 (by simp)
     have ww8 := (y8 v8).1
     have v9 := hpv hp 9 (by simp)
     have ww9 := (y9 v9)
     refine C_ ho 55 ((T2 (fun b => Ck.Cut Q w.heap.size (w.heap.size + 3) b ∧ b ≠ w2.heap.size + 1 ∧ b ≠ Z1) (l ++ [(h.name, qv.D.asl 5 t1)]) Gw (n + 1) kw w' (HWB2.out.trans (hbw.mono HWB2.out.size)) (fun b hb => ⟨(HQM.out b hb), Qr.nb9 (Nat.lt_of_lt_of_le hb HWB2.out.size), Qr.zDv hZZ1 (Nat.lt_of_lt_of_le (Nat.lt_of_lt_of_le hb HWB2.out.size) HS.out) (HQM.out b hb)⟩) (((y8 v8).2) hi) HCH2.out (by rw [List.length_append]; exact hb2)).mono (fun _ _ hp => hp.names)) fun e u hg => ?_
     ·obtain ⟨t2', E2', pp2', xx2', G2', m2', cc2', rfl, hgn, hl, hb⟩ := hg
      refine ⟨.tuple #[.agg #[.int .i8 t2'.1, .slice G2' m2' cc2'], .agg #[.int .i64 E2', .int .i64 pp2', .string xx2']], rfl, ?_⟩
      have hbs := hbw.size
      have hz1 := HZ.out
      have hzb := HZB.out
      have hz2 := LZ2.out
      have hz4 := L94.out
      have hz11 := zC hH3
      have hzz : w4.heap.size + 2 ≤ w'.heap.size := by omega
      have hbs2 := hb.size
      exact ⟨pd hdf, ps hsz, KX hx, Z1, Gw, kw, t2', E2', pp2', xx2', G2', m2', cc2', K2 y0, K2 y1, K2 y2, K2 y3, K2 y4, K2 y5, K2 y6, K2 y7, (kF y8 (fun q => ⟨pn q.1, (fun qu => (zK qu).elim)⟩)), K2 y9, (fun _ => ⟨pS hsz, hgn, Ck.Ly.weak hl (fun b _ hq => qm (by omega) (by omega) (by omega) hq)⟩), KN y11, KN y12, KN y13, K2 y14, KN y15, KN y16, (zw hb hB0), (zA hb (zC hH0) hH0), (zA hb (zC hH1) hH1), (zA hb (zC hH2) hH2), (zA hb (zC hH3) hH3), (Ck.Ly.later hH4 hb), (Ck.Ly.later hH5 hb), ⟨(by omega), hZZ1⟩, hbw.trans (hb.mono hbw.size)⟩
    ·obtain rfl := SI ho
     have v10 := hpv hp 10 (by simp)
     have ww10 := (y10 v10).1
     exact V_ ho 44 ⟨pd hdf, ps hsz, KX hx, Z1, Gw, kw, t2, E2, pp2, xx2, G2, m2, cc2, K2 y0, K2 y1, K2 y2, K2 y3, K2 y4, K2 y5, K2 y6, K2 y7, (kF y8 (fun q => ⟨pn q.1, (kU q.2 (fun q => q))⟩)), K2 y9, K2 y10, (fun _ => ⟨pS hsz, (z8 v10)⟩), K2 y12, K2 y13, K2 y14, K2 y15, K2 y16, hB0, hH0, hH1, hH2, hH3, hH4, hH5, ⟨sZ1, hZZ1⟩, hbw⟩
    ·obtain rfl := SI ho
     have v11 := hpv hp 11 (by simp)
     have ww11 := (y11 v11).1
     exact V_ ho 56 ⟨pd hdf, ps hsz, KX hx, Z1, Gw, kw, t2, E2, pp2, xx2, G2, m2, cc2, K2 y0, K2 y1, K2 y2, K2 y3, K2 y4, K2 y5, K2 y6, K2 y7, (kF y8 (fun q => ⟨pn q.1, (kU q.2 (fun q => q))⟩)), K2 y9, K2 y10, K2 y11, (fun _ => ⟨pS hsz, (z8 ((y11 v11).2))⟩), K2 y13, K2 y14, K2 y15, K2 y16, hB0, hH0, hH1, hH2, hH3, hH4, hH5, ⟨sZ1, hZZ1⟩, hbw⟩
    ·obtain rfl := SI ho
     have v11 := hpv hp 11 (by simp)
     have ww11 := (y11 v11).1
     exact V_ ho 57 ⟨pd hdf, ps hsz, KX hx, Z1, Gw, kw, t2, E2, pp2, xx2, G2, m2, cc2, K2 y0, K2 y1, K2 y2, K2 y3, K2 y4, K2 y5, K2 y6, K2 y7, (kF y8 (fun q => ⟨pn q.1, (kU q.2 (fun q => q))⟩)), K2 y9, K2 y10, K2 y11, K2 y12, (fun _ => ⟨pS hsz, (z8 ((y11 v11).2))⟩), K2 y14, K2 y15, K2 y16, hB0, hH0, hH1, hH2, hH3, hH4, hH5, ⟨sZ1, hZZ1⟩, hbw⟩
    ·obtain rfl := SI ho
     refine zN ho rfl (zU 13 rfl (v := .pointer (some ⟨w'.heap.size, 0, none⟩)) (w2 := w'.alloc (.cells #[.int .i8 0, .slice none 0 0] 25)) ?_ ?_)
     ·exact EV
     ·have hbs := hbw.size
      have hz1 := HZ.out
      have hzb := HZB.out
      have hz2 := LZ2.out
      have hz4 := L94.out
      have hz11 := zC hH3
      have hzz : w4.heap.size + 2 ≤ w'.heap.size := by omega
      have hsa : (w'.alloc (.cells #[.int .i8 0, .slice none 0 0] 25)).heap.size = w'.heap.size + 1 := by simp
      have hba : Below w'.heap.size w' (w'.alloc (.cells #[.int .i8 0, .slice none 0 0] 25)) := (Below.refl _ _).alloc (Nat.le_refl _) _
      have hnew := zD w' (.cells #[.int .i8 0, .slice none 0 0] 25)
      exact ⟨pd hdf, ps hsz, KX hx, w'.heap.size, Gw, kw, t2, E2, pp2, xx2, G2, m2, cc2, K2 y0, K2 y1, K2 y2, K2 y3, K2 y4, K2 y5, K2 y6, K2 y7, (kF y8 (fun q => ⟨pn q.1, (kU q.2 (fun q => (Ck.EAt.below (Ck.EAt.weak q (fun b hl hq => ⟨hq.1, hq.2.1, Nat.ne_of_lt hl⟩)) hba)))⟩)), K2 y9, (kF y10 (fun q => ⟨pn q.1, q.2.1, (Ck.Ly.later (Ck.Ly.weak q.2.2 (fun b hl hq => ⟨hq.1, hq.2.1, Nat.ne_of_lt hl⟩)) hba)⟩)), K2 y11, K2 y12, K2 y13, (fun _ => ⟨pS hsz, hzz, ⟨_, _, hnew⟩⟩), KN y15, K2 y16, (vX hB0), (zH hH0 _), (zH hH1 _), (zH hH2 _), (zH hH3 _), (Ck.Ly.later (Ck.Ly.weak hH4 (fun b hl hq => ⟨hq.1, hq.2.1, Nat.ne_of_lt hl⟩)) hba), (Ck.Ly.later (Ck.Ly.weak hH5 (fun b hl hq => ⟨hq.1, hq.2.1, Nat.ne_of_lt hl⟩)) hba), ⟨(by omega), .inr (by omega)⟩, hbw.alloc hbw.size _⟩
    ·obtain rfl := SI ho
     have v14 := hpv hp 14 (by simp)
     have ww14 := (y14 v14).1
     have v12 := hpv hp 12 (by simp)
     have ww12 := (y12 v12).1
     have hlo := ((y14 v14).2.1)
     obtain ⟨u0, u1, hbox⟩ := ((y14 v14).2.2)
     obtain ⟨bc0, bc1, bf0, bf1, -⟩ := zF hbox
     refine zN ho rfl (zT rfl (w2 := ((w'.setCell ⟨Z1, 0, none⟩ (.int .i8 t2.1)).setCell ⟨Z1, 1, none⟩ (.slice G2 m2 cc2))) ?_ ?_)
     ·exact EV
     ·have hsa : (((w'.setCell ⟨Z1, 0, none⟩ (.int .i8 t2.1)).setCell ⟨Z1, 1, none⟩ (.slice G2 m2 cc2))).heap.size = w'.heap.size := by simp
      have hbs := hbw.size
      have hz1 := HZ.out
      have hzb := HZB.out
      have hz2 := LZ2.out
      have hz4 := L94.out
      have hz11 := zC hH3
      have hzz : w4.heap.size + 2 ≤ w'.heap.size := by omega
      exact ⟨hdf, hsz, hx, Z1, Gw, kw, t2, E2, pp2, xx2, G2, m2, cc2, K2 y0, K2 y1, K2 y2, K2 y3, K2 y4, K2 y5, K2 y6, K2 y7, (kF y8 (fun q => ⟨q.1, (kT ((y12 v12).2))⟩)), K2 y9, (kF y10 (fun q => ⟨q.1, q.2.1, (Ck.Ly.set2 q.2.2 (fun b hq => hq.2.2) _ _)⟩)), K2 y11, K2 y12, K2 y13, (kF y14 (fun q => ⟨q.1, q.2.1, (kY q.2.2)⟩)), (fun _ => ⟨(z8 ((y12 v12).2)), (z8 v14), zL hbox _ _⟩), K2 y16, (qA hB0 (by omega)), (zM hH0 (by omega) _ _), (zM hH1 (by omega) _ _), (zM hH2 (by omega) _ _), (zM hH3 (by omega) _ _), (Ck.Ly.set2 hH4 (fun b hq => hq.2.2) _ _), (Ck.Ly.set2 hH5 (fun b hq => hq.2.2) _ _), ⟨(by omega), hZZ1⟩, zG hbw (by omega) _ _⟩
    ·obtain rfl := SI ho
     have v13 := hpv hp 13 (by simp)
     have ww13 := (y13 v13).1
     obtain ⟨u0, u1, u2, hbox⟩ := id hB0
     obtain ⟨bc0, bc1, bc2, bf0, bf1, bf2, -⟩ := cells3 hbox
     refine zN ho rfl (zT rfl (w2 := (((w'.setCell ⟨w2.heap.size + 1, 0, none⟩ (.int .i64 E2)).setCell ⟨w2.heap.size + 1, 1, none⟩ (.int .i64 pp2)).setCell ⟨w2.heap.size + 1, 2, none⟩ (.string xx2))) ?_ ?_)
     ·exact EV
     ·have hsa : ((((w'.setCell ⟨w2.heap.size + 1, 0, none⟩ (.int .i64 E2)).setCell ⟨w2.heap.size + 1, 1, none⟩ (.int .i64 pp2)).setCell ⟨w2.heap.size + 1, 2, none⟩ (.string xx2))).heap.size = w'.heap.size := by simp
      have hbs := hbw.size
      have hz1 := HZ.out
      have hzb := HZB.out
      have hz2 := LZ2.out
      have hz4 := L94.out
      have hz11 := zC hH3
      have hzz : w4.heap.size + 2 ≤ w'.heap.size := by omega
      exact ⟨hdf, hsz, hx, Z1, Gw, kw, t2, E2, pp2, xx2, G2, m2, cc2, K2 y0, K2 y1, K2 y2, K2 y3, K2 y4, K2 y5, K2 y6, K2 y7, (kF y8 (fun q => ⟨q.1, (kT ((y13 v13).2))⟩)), K2 y9, (kF y10 (fun q => ⟨q.1, q.2.1, (Ck.Ly.zh q.2.2 (fun b hq => hq.2.1) _ _ _)⟩)), K2 y11, K2 y12, K2 y13, (kF y14 (fun q => ⟨q.1, q.2.1, (qB q.2.2 (by omega))⟩)), K2 y15, (fun _ => ⟨(z8 ((y13 v13).2)), zf hbox _ _ _⟩), ⟨_, _, _, zf hbox _ _ _⟩, (zR hH0 (by omega) _ _ _), (zR hH1 (by omega) _ _ _), (zR hH2 (by omega) _ _ _), (zR hH3 (by omega) _ _ _), (Ck.Ly.zh hH4 (fun b hq => hq.2.1) _ _ _), (Ck.Ly.zh hH5 (fun b hq => hq.2.1) _ _ _), ⟨(by omega), hZZ1⟩, qD hbw (by omega) _ _ _⟩
   ·rintro listed u w' t ht hu ⟨-, -, -, Z1, Gw, kw, t2, E2, pp2, xx2, G2, m2, cc2, y0, y1, y2, y3, y4, y5, y6, y7, y8, y9, y10, y11, y12, y13, y14, y15, y16, hB0, hH0, hH1, hH2, hH3, hH4, hH5, ⟨sZ1, hZZ1⟩, hbw⟩ hall
    have v10 := hall 10 (by decide)
    have v14 := hall 14 (by decide)
    have v15 := hall 15 (by decide)
    have v16 := hall 16 (by decide)
    have HBW := kt_ HB2 hbw
    have HB2W := k0_ hbw
    have H6 := k0_ hH0
    have H7 := k0_ hH1
    have H11 := k0_ hH3
    have LZ := k0_ (show w.heap.size + 3 ≤ w'.heap.size from by have := zC hH1; have := HZ.out; omega)
    have HLY := k0_ (hH5.weak (Q' := (fun b => Ck.Cut Q w.heap.size (w.heap.size + 3) b ∧ b ≠ w2.heap.size + 1)) (fun b _ hq => ⟨hq.1, hq.2.1⟩))
    have HP := k0_ ((y10 v10).2.1)
    have HL2 := k0_ (Ck.Ly.weak ((y10 v10).2.2) (Q' := (fun b => Ck.Cut Q w.heap.size (w.heap.size + 3) b ∧ b ≠ w2.heap.size + 1)) (fun b _ hq => ⟨hq.1, hq.2.1⟩))
    have eb13 := ((y14 v14).1)
    have H13 := k0_ ((y15 v15).2.2)
    have L13 := k0_ ((y14 v14).2.1)
    have HX2 := k0_ ((y16 v16).2)
    rw [hu 13 (by decide) (by decide)] at eb13
    clear y0 y1 y2 y3 y4 y5 y6 y7 y8 y9 y10 y11 y12 y13 y14 y15 y16 v10 v14 v15 v16 hall hu
    clear hbw hH0 hH1 hH2 hH3 hH4 hH5
    simp only [over, List.setIfInBounds_toArray, List.set_cons_succ, List.set_cons_zero, eb13] at ht
    subst ht
    clear eb13
    generalize hw : w' = w6 at *
    clear hw
    obtain ⟨e0, e1, e2, -, -, -, -⟩ := cells3 HX2.out
    by_cases hE1 : E2 = 0
    ·have hgen := (Qr.R.qh HP.out.1 HP.out.2).1 hE1
     have HOK2 := k0_ hgen.1
     subst hE1
     clear hgen
     have HCK2 := k0_ (Cg.jd HOK2.out)
     have HR3 := k0_ (HRR.out.trans (show _ = (Ck.bnd (Cg.ty qv.D K h3 k3 (l ++ [(h.arg, qv.D.asr 5 t1)])) fun c => (if qv.D.ag t2 c = true then Ck.lift h (.ok (qv.D.mt t2 c)) else Ck.fault h 91)) from by rw [HOK2.out]; rfl))
     clear HRR
     have HS2 : Hid (w2.heap.size ≤ Z1 + 1) := k0_ (by have := L94.out; have := L13.out; omega)
     go_upto_region 10 with fail
     clear e0 e1 e2
     refine zI 100 rfl [64, 65, 66, 67, 68, 69, 70, 71, 72, 73, 74, 63, 75, 76, 14] (by kernel_rfl) (by kernel_rfl) (by kernel_rfl) (fun listed a' w' => a'.defers = [] ∧ a'.tmps.size = 100 ∧ (a'.eval (.tmp 1) = .slice A n c ∧ a'.eval (.tmp 2) = .int .i64 qv.md ∧ a'.eval (.tmp 3) = .pointer (some ⟨w.heap.size, 0, none⟩) ∧ a'.eval (.tmp 6) = .pointer (some ⟨w.heap.size + 1, 0, none⟩) ∧ a'.eval (.tmp 7) = .pointer (some ⟨w.heap.size + 1 + 1, 0, none⟩) ∧ a'.eval (.tmp 9) = .pointer (some ⟨w2.heap.size + 1, 0, none⟩) ∧ a'.eval (.tmp 10) = .pointer (some ⟨w4.heap.size, 0, none⟩) ∧ a'.eval (.tmp 11) = .pointer (some ⟨w4.heap.size + 1, 0, none⟩) ∧ a'.eval (.tmp 13) = .pointer (some ⟨Z1, 0, none⟩)) ∧ ∃ Z2 Gw kw t3 E3 pp3 xx3 G3 m3 cc3, (listed[0]? = some true → (a'.eval (.tmp 64) = .pointer (some ⟨w.heap.size, 10, none⟩))) ∧ (listed[1]? = some true → (a'.eval (.tmp 65) = .slice (some ⟨kb, ko, none⟩) 3 kc)) ∧ (listed[2]? = some true → (a'.eval (.tmp 66) = .pointer (some ⟨kb, ko + 22, none⟩))) ∧ (listed[3]? = some true → (a'.eval (.tmp 67) = .agg (tC_ h3 q3))) ∧ (listed[4]? = some true → (a'.eval (.tmp 68) = .slice A n c)) ∧ (listed[5]? = some true → (a'.eval (.tmp 69) = .pointer (some ⟨w.heap.size, 2, none⟩))) ∧ (listed[6]? = some true → (a'.eval (.tmp 70) = .string h.arg)) ∧ (listed[7]? = some true → (a'.eval (.tmp 71) = .agg #[.int .i8 (qv.D.asr 5 t1).1, .slice Gy my cy])) ∧ (listed[8]? = some true → (a'.eval (.tmp 72) = .slice Gw (n + 1) kw) ∧ ((listed[10]? = some false → Ck.EAt (fun b => Ck.Cut Q w.heap.size (w.heap.size + 3) b ∧ b ≠ w2.heap.size + 1 ∧ b ≠ Z2) w' (l ++ [(h.arg, qv.D.asr 5 t1)]) Gw (n + 1) kw))) ∧ (listed[9]? = some true → (a'.eval (.tmp 73) = .int .i64 qv.md)) ∧ (listed[10]? = some true → (a'.eval (.tmp 74) = .tuple #[.agg #[.int .i8 t3.1, .slice G3 m3 cc3], .agg #[.int .i64 E3, .int .i64 pp3, .string xx3]]) ∧ (Qr.Nz (Cg.ty qv.D K h3 k3 (l ++ [(h.arg, qv.D.asr 5 t1)])) ∧ Qr.tyO (Cg.ty qv.D K h3 k3 (l ++ [(h.arg, qv.D.asr 5 t1)])) = t3 ∧ Qr.eO (Cg.ty qv.D K h3 k3 (l ++ [(h.arg, qv.D.asr 5 t1)])) = E3 ∧ Qr.pO (Cg.ty qv.D K h3 k3 (l ++ [(h.arg, qv.D.asr 5 t1)])) = pp3 ∧ Qr.xO (Cg.ty qv.D K h3 k3 (l ++ [(h.arg, qv.D.asr 5 t1)])) = xx3) ∧ (Ck.Ly (fun b => Ck.Cut Q w.heap.size (w.heap.size + 3) b ∧ b ≠ w2.heap.size + 1 ∧ b ≠ Z2) w' t3 G3 m3 cc3)) ∧ (listed[11]? = some true → (a'.eval (.tmp 63) = .tuple #[.agg #[.int .i8 t3.1, .slice G3 m3 cc3], .agg #[.int .i64 E3, .int .i64 pp3, .string xx3]]) ∧ (listed[10]? = some true)) ∧ (listed[12]? = some true → (a'.eval (.tmp 75) = .agg #[.int .i8 t3.1, .slice G3 m3 cc3]) ∧ (listed[10]? = some true)) ∧ (listed[13]? = some true → (a'.eval (.tmp 76) = .agg #[.int .i64 E3, .int .i64 pp3, .string xx3]) ∧ (listed[10]? = some true)) ∧ (listed[14]? = some true → (a'.eval (.tmp 14) = .pointer (some ⟨Z2, 0, none⟩)) ∧ (Z1 + 1 ≤ Z2) ∧ (∃ u0 u1, w'.heap[Z2]? = some (.cells #[u0, u1] 25 (0, 0)))) ∧ (listed[15]? = some true → (listed[10]? = some true) ∧ (listed[14]? = some true) ∧ (w'.heap[Z2]? = some (.cells #[.int .i8 t3.1, .slice G3 m3 cc3] 25 (0, 0)))) ∧ (listed[16]? = some true → (listed[10]? = some true) ∧ (w'.heap[w2.heap.size + 1]? = some (.cells #[.int .i64 E3, .int .i64 pp3, .string xx3] 35 (0, 0)))) ∧ (∃ u0 u1 u2, w'.heap[w2.heap.size + 1]? = some (.cells #[u0, u1, u2] 35 (0, 0))) ∧ (w'.heap[w.heap.size + 1]? = some (.cells #[.int .i8 0, .slice none 0 0] 25 (0, 0))) ∧ (w'.heap[w.heap.size + 1 + 1]? = some (.cells #[.int .i64 0, .int .i64 0, .string ⟨#[]⟩] 35 (0, 0))) ∧ (w'.heap[w4.heap.size + 1]? = some (.cells #[.int .i8 (qv.D.asr 5 t1).1, .slice Gy my cy] 25 (0, 0))) ∧ (w'.heap[Z1]? = some (.cells #[.int .i8 t2.1, .slice G2 m2 cc2] 25 (0, 0))) ∧ (Ck.Ly ((fun b => Ck.Cut Q w.heap.size (w.heap.size + 3) b ∧ b ≠ w2.heap.size + 1 ∧ b ≠ Z2)) w' (qv.D.asr 5 t1) Gy my cy) ∧ (Ck.Ly ((fun b => Ck.Cut Q w.heap.size (w.heap.size + 3) b ∧ b ≠ w2.heap.size + 1 ∧ b ≠ Z2)) w' t2 G2 m2 cc2) ∧ (Z2 < w'.heap.size ∧ (Z2 = w.heap.size + 2 ∨ Z1 + 1 ≤ Z2)) ∧ Below w2.heap.size w2 w') (fun _ _ _ h => h.1) ?_ ?_ ?_
     ·have hz0 := HZ.out
      refine ⟨rfl, rfl, ⟨rfl, rfl, rfl, rfl, rfl, rfl, rfl, rfl, rfl⟩, (w.heap.size + 2), none, 0, (0, .nil), 0, 0, ⟨#[]⟩, none, 0, 0, FH, FH, FH, FH, FH, FH, FH, FH, FH, FH, FH, FH, FH, FH, FH, FH, FH, ⟨_, _, _, HX2.out⟩, H6.out, H7.out, H11.out, H13.out, (HLY.out.weak (fun b _ hq => ⟨hq.1, hq.2, Qr.zBJ hq.1⟩)), (HL2.out.weak (fun b _ hq => ⟨hq.1, hq.2, Qr.zBJ hq.1⟩)), ⟨(show w.heap.size + 2 < w6.heap.size from by have := LZ.out; omega), .inl rfl⟩, HB2W.out.drew⟩
     ·rintro listed a' w' i o ⟨hdf, hsz, hx, Z2, Gw, kw, t3, E3, pp3, xx3, G3, m3, cc3, y0, y1, y2, y3, y4, y5, y6, y7, y8, y9, y10, y11, y12, y13, y14, y15, y16, hB0, hH0, hH1, hH2, hH3, hH4, hH5, ⟨sZ2, hZZ2⟩, hbw⟩ hz hsz0 ho hi hp
      have hi13 : i < 17 := by
       exact zDu
      rcases (by omega : i = 0 ∨ i = 1 ∨ i = 2 ∨ i = 3 ∨ i = 4 ∨ i = 5 ∨ i = 6 ∨ i = 7 ∨ i = 8 ∨ i = 9 ∨ i = 10 ∨ i = 11 ∨ i = 12 ∨ i = 13 ∨ i = 14 ∨ i = 15 ∨ i = 16) with rfl | rfl | rfl | rfl | rfl | rfl | rfl | rfl | rfl | rfl | rfl | rfl | rfl | rfl | rfl | rfl | rfl
      ·obtain rfl := SI ho
       exact V_ ho 64 ⟨pd hdf, ps hsz, KX hx, Z2, Gw, kw, t3, E3, pp3, xx3, G3, m3, cc3, (fun _ => pS hsz), K2 y1, K2 y2, K2 y3, K2 y4, K2 y5, K2 y6, K2 y7, (kF y8 (fun q => ⟨pn q.1, (kU q.2 (fun q => q))⟩)), K2 y9, K2 y10, K2 y11, K2 y12, K2 y13, K2 y14, K2 y15, K2 y16, hB0, hH0, hH1, hH2, hH3, hH4, hH5, ⟨sZ2, hZZ2⟩, hbw⟩
      ·obtain rfl := SI ho
       have v0 := hpv hp 0 (by simp)
       have ww0 := (y0 v0)
       obtain ⟨q0', q1', q2', q3', q4', q5', q6', q7', q8', q9', q10'⟩ := HK.out w' (HB2.out.trans (hbw.mono HB2.out.size))
       exact V_ ho 65 ⟨pd hdf, ps hsz, KX hx, Z2, Gw, kw, t3, E3, pp3, xx3, G3, m3, cc3, K2 y0, (fun _ => pS hsz), K2 y2, K2 y3, K2 y4, K2 y5, K2 y6, K2 y7, (kF y8 (fun q => ⟨pn q.1, (kU q.2 (fun q => q))⟩)), K2 y9, K2 y10, K2 y11, K2 y12, K2 y13, K2 y14, K2 y15, K2 y16, hB0, hH0, hH1, hH2, hH3, hH4, hH5, ⟨sZ2, hZZ2⟩, hbw⟩
      ·obtain rfl := SI ho
       have v1 := hpv hp 1 (by simp)
       have ww1 := (y1 v1)
       exact V_ ho 66 ⟨pd hdf, ps hsz, KX hx, Z2, Gw, kw, t3, E3, pp3, xx3, G3, m3, cc3, K2 y0, K2 y1, (fun _ => pS hsz), K2 y3, K2 y4, K2 y5, K2 y6, K2 y7, (kF y8 (fun q => ⟨pn q.1, (kU q.2 (fun q => q))⟩)), K2 y9, K2 y10, K2 y11, K2 y12, K2 y13, K2 y14, K2 y15, K2 y16, hB0, hH0, hH1, hH2, hH3, hH4, hH5, ⟨sZ2, hZZ2⟩, hbw⟩
      ·obtain rfl := SI ho
       have v2 := hpv hp 2 (by simp)
       have ww2 := (y2 v2)
       obtain ⟨d3_0, d3_1, d3_2, d3_3, d3_4, d3_5, d3_6, d3_7, d3_8, d3_9, d3_10⟩ := HK3.out w' (HB2.out.trans (hbw.mono HB2.out.size))
       exact V_ ho 67 ⟨pd hdf, ps hsz, KX hx, Z2, Gw, kw, t3, E3, pp3, xx3, G3, m3, cc3, K2 y0, K2 y1, K2 y2, (fun _ => pS hsz), K2 y4, K2 y5, K2 y6, K2 y7, (kF y8 (fun q => ⟨pn q.1, (kU q.2 (fun q => q))⟩)), K2 y9, K2 y10, K2 y11, K2 y12, K2 y13, K2 y14, K2 y15, K2 y16, hB0, hH0, hH1, hH2, hH3, hH4, hH5, ⟨sZ2, hZZ2⟩, hbw⟩
      ·obtain rfl := SI ho
       exact V_ ho 68 ⟨pd hdf, ps hsz, KX hx, Z2, Gw, kw, t3, E3, pp3, xx3, G3, m3, cc3, K2 y0, K2 y1, K2 y2, K2 y3, (fun _ => pS hsz), K2 y5, K2 y6, K2 y7, (kF y8 (fun q => ⟨pn q.1, (kU q.2 (fun q => q))⟩)), K2 y9, K2 y10, K2 y11, K2 y12, K2 y13, K2 y14, K2 y15, K2 y16, hB0, hH0, hH1, hH2, hH3, hH4, hH5, ⟨sZ2, hZZ2⟩, hbw⟩
      ·obtain rfl := SI ho
       exact V_ ho 69 ⟨pd hdf, ps hsz, KX hx, Z2, Gw, kw, t3, E3, pp3, xx3, G3, m3, cc3, K2 y0, K2 y1, K2 y2, K2 y3, K2 y4, (fun _ => pS hsz), K2 y6, K2 y7, (kF y8 (fun q => ⟨pn q.1, (kU q.2 (fun q => q))⟩)), K2 y9, K2 y10, K2 y11, K2 y12, K2 y13, K2 y14, K2 y15, K2 y16, hB0, hH0, hH1, hH2, hH3, hH4, hH5, ⟨sZ2, hZZ2⟩, hbw⟩
      ·obtain rfl := SI ho
       have v5 := hpv hp 5 (by simp)
       have ww5 := (y5 v5)
       obtain ⟨q0', q1', q2', q3', q4', q5', q6', q7', q8', q9', q10'⟩ := HK.out w' (HB2.out.trans (hbw.mono HB2.out.size))
       exact V_ ho 70 ⟨pd hdf, ps hsz, KX hx, Z2, Gw, kw, t3, E3, pp3, xx3, G3, m3, cc3, K2 y0, K2 y1, K2 y2, K2 y3, K2 y4, K2 y5, (fun _ => pS hsz), K2 y7, (kF y8 (fun q => ⟨pn q.1, (kU q.2 (fun q => q))⟩)), K2 y9, K2 y10, K2 y11, K2 y12, K2 y13, K2 y14, K2 y15, K2 y16, hB0, hH0, hH1, hH2, hH3, hH4, hH5, ⟨sZ2, hZZ2⟩, hbw⟩
      ·obtain rfl := SI ho
       obtain ⟨e0, e1, -, -, -⟩ := zF hH2
       exact V_ ho 71 ⟨pd hdf, ps hsz, KX hx, Z2, Gw, kw, t3, E3, pp3, xx3, G3, m3, cc3, K2 y0, K2 y1, K2 y2, K2 y3, K2 y4, K2 y5, K2 y6, (fun _ => pS hsz), (kF y8 (fun q => ⟨pn q.1, (kU q.2 (fun q => q))⟩)), K2 y9, K2 y10, K2 y11, K2 y12, K2 y13, K2 y14, K2 y15, K2 y16, hB0, hH0, hH1, hH2, hH3, hH4, hH5, ⟨sZ2, hZZ2⟩, hbw⟩
      ·obtain rfl := SI ho
       have v4 := hpv hp 4 (by simp)
       have ww4 := (y4 v4)
       have v6 := hpv hp 6 (by simp)
       have ww6 := (y6 v6)
       have v7 := hpv hp 7 (by simp)
       have ww7 := (y7 v7)
       refine C_ ho 72 (qZ (fun b => Ck.Cut Q w.heap.size (w.heap.size + 3) b ∧ b ≠ w2.heap.size + 1 ∧ b ≠ Z2) l A n c h.arg (qv.D.asr 5 t1) Gy my cy w' (Ck.EAt.below (Ck.EAt.weak HE2.out (fun b hl hq => ⟨hq, Qr.nb9 hl, Qr.zDv hZZ2 (Nat.lt_of_lt_of_le hl HS2.out) hq⟩)) hbw) hH4 hn20) fun e u hg => ?_
       ·obtain ⟨Gw', kw', rfl, he, hb⟩ := hg
        refine ⟨.slice Gw' (n + 1) kw', rfl, ?_⟩
        have hbs := hbw.size
        have hz1 := HZ.out
        have hzb := HZB.out
        have hz2 := LZ2.out
        have hz4 := L94.out
        have hz13 := L13.out
        have hzz := zC hH3
        have hbs2 := hb.size
        exact ⟨pd hdf, ps hsz, KX hx, Z2, Gw', kw', t3, E3, pp3, xx3, G3, m3, cc3, K2 y0, K2 y1, K2 y2, K2 y3, K2 y4, K2 y5, K2 y6, K2 y7, (fun _ => ⟨pS hsz, (fun _ => he)⟩), K2 y9, K2 y10, K2 y11, K2 y12, K2 y13, K2 y14, K2 y15, K2 y16, (zw hb hB0), (zA hb (zC hH0) hH0), (zA hb (zC hH1) hH1), (zA hb (zC hH2) hH2), (zA hb (zC hH3) hH3), (Ck.Ly.later hH4 hb), (Ck.Ly.later hH5 hb), ⟨(by omega), hZZ2⟩, hbw.trans (hb.mono hbw.size)⟩
      ·obtain rfl := SI ho
       exact V_ ho 73 ⟨pd hdf, ps hsz, KX hx, Z2, Gw, kw, t3, E3, pp3, xx3, G3, m3, cc3, K2 y0, K2 y1, K2 y2, K2 y3, K2 y4, K2 y5, K2 y6, K2 y7, (kF y8 (fun q => ⟨pn q.1, (kU q.2 (fun q => q))⟩)), (fun _ => pS hsz), K2 y10, K2 y11, K2 y12, K2 y13, K2 y14, K2 y15, K2 y16, hB0, hH0, hH1, hH2, hH3, hH4, hH5, ⟨sZ2, hZZ2⟩, hbw⟩
      ·obtain rfl := SI ho
       have v3 := hpv hp 3 (by simp)
       have ww3 := (y3 v3)
       have v8 := hpv hp 8 (by simp)
       have ww8 := (y8 v8).1
       have v9 := hpv hp 9 (by simp)
       have ww9 := (y9 v9)
       refine C_ ho 74 ((T3 (fun b => Ck.Cut Q w.heap.size (w.heap.size + 3) b ∧ b ≠ w2.heap.size + 1 ∧ b ≠ Z2) (l ++ [(h.arg, qv.D.asr 5 t1)]) Gw (n + 1) kw w' (HWB2.out.trans (hbw.mono HWB2.out.size)) (fun b hb => ⟨(HQM.out b hb), Qr.nb9 (Nat.lt_of_lt_of_le hb HWB2.out.size), Qr.zDv hZZ2 (Nat.lt_of_lt_of_le (Nat.lt_of_lt_of_le hb HWB2.out.size) HS2.out) (HQM.out b hb)⟩) (((y8 v8).2) hi) HCH3.out (by rw [List.length_append]; exact hb3)).mono (fun _ _ hp => hp.names)) fun e u hg => ?_
       ·obtain ⟨t3', E3', pp3', xx3', G3', m3', cc3', rfl, hgn, hl, hb⟩ := hg
        refine ⟨.tuple #[.agg #[.int .i8 t3'.1, .slice G3' m3' cc3'], .agg #[.int .i64 E3', .int .i64 pp3', .string xx3']], rfl, ?_⟩
        have hbs := hbw.size
        have hz1 := HZ.out
        have hzb := HZB.out
        have hz2 := LZ2.out
        have hz4 := L94.out
        have hz13 := L13.out
        have hzz := zC hH3
        have hbs2 := hb.size
        exact ⟨pd hdf, ps hsz, KX hx, Z2, Gw, kw, t3', E3', pp3', xx3', G3', m3', cc3', K2 y0, K2 y1, K2 y2, K2 y3, K2 y4, K2 y5, K2 y6, K2 y7, (kF y8 (fun q => ⟨pn q.1, (fun qu => (zK qu).elim)⟩)), K2 y9, (fun _ => ⟨pS hsz, hgn, Ck.Ly.weak hl (fun b _ hq => qm (by omega) (by omega) (by omega) hq)⟩), KN y11, KN y12, KN y13, K2 y14, KN y15, KN y16, (zw hb hB0), (zA hb (zC hH0) hH0), (zA hb (zC hH1) hH1), (zA hb (zC hH2) hH2), (zA hb (zC hH3) hH3), (Ck.Ly.later hH4 hb), (Ck.Ly.later hH5 hb), ⟨(by omega), hZZ2⟩, hbw.trans (hb.mono hbw.size)⟩
      ·obtain rfl := SI ho
       have v10 := hpv hp 10 (by simp)
       have ww10 := (y10 v10).1
       exact V_ ho 63 ⟨pd hdf, ps hsz, KX hx, Z2, Gw, kw, t3, E3, pp3, xx3, G3, m3, cc3, K2 y0, K2 y1, K2 y2, K2 y3, K2 y4, K2 y5, K2 y6, K2 y7, (kF y8 (fun q => ⟨pn q.1, (kU q.2 (fun q => q))⟩)), K2 y9, K2 y10, (fun _ => ⟨pS hsz, (z8 v10)⟩), K2 y12, K2 y13, K2 y14, K2 y15, K2 y16, hB0, hH0, hH1, hH2, hH3, hH4, hH5, ⟨sZ2, hZZ2⟩, hbw⟩
      ·obtain rfl := SI ho
       have v11 := hpv hp 11 (by simp)
       have ww11 := (y11 v11).1
       exact V_ ho 75 ⟨pd hdf, ps hsz, KX hx, Z2, Gw, kw, t3, E3, pp3, xx3, G3, m3, cc3, K2 y0, K2 y1, K2 y2, K2 y3, K2 y4, K2 y5, K2 y6, K2 y7, (kF y8 (fun q => ⟨pn q.1, (kU q.2 (fun q => q))⟩)), K2 y9, K2 y10, K2 y11, (fun _ => ⟨pS hsz, (z8 ((y11 v11).2))⟩), K2 y13, K2 y14, K2 y15, K2 y16, hB0, hH0, hH1, hH2, hH3, hH4, hH5, ⟨sZ2, hZZ2⟩, hbw⟩
      ·obtain rfl := SI ho
       have v11 := hpv hp 11 (by simp)
       have ww11 := (y11 v11).1
       exact V_ ho 76 ⟨pd hdf, ps hsz, KX hx, Z2, Gw, kw, t3, E3, pp3, xx3, G3, m3, cc3, K2 y0, K2 y1, K2 y2, K2 y3, K2 y4, K2 y5, K2 y6, K2 y7, (kF y8 (fun q => ⟨pn q.1, (kU q.2 (fun q => q))⟩)), K2 y9, K2 y10, K2 y11, K2 y12, (fun _ => ⟨pS hsz, (z8 ((y11 v11).2))⟩), K2 y14, K2 y15, K2 y16, hB0, hH0, hH1, hH2, hH3, hH4, hH5, ⟨sZ2, hZZ2⟩, hbw⟩
      ·obtain rfl := SI ho
       refine zN ho rfl (zU 14 rfl (v := .pointer (some ⟨w'.heap.size, 0, none⟩)) (w2 := w'.alloc (.cells #[.int .i8 0, .slice none 0 0] 25)) ?_ ?_)
       ·exact EV
       ·have hbs := hbw.size
        have hz1 := HZ.out
        have hzb := HZB.out
        have hz2 := LZ2.out
        have hz4 := L94.out
        have hz13 := L13.out
        have hzz := zC hH3
        have hsa : (w'.alloc (.cells #[.int .i8 0, .slice none 0 0] 25)).heap.size = w'.heap.size + 1 := by simp
        have hba : Below w'.heap.size w' (w'.alloc (.cells #[.int .i8 0, .slice none 0 0] 25)) := (Below.refl _ _).alloc (Nat.le_refl _) _
        have hnew := zD w' (.cells #[.int .i8 0, .slice none 0 0] 25)
        exact ⟨pd hdf, ps hsz, KX hx, w'.heap.size, Gw, kw, t3, E3, pp3, xx3, G3, m3, cc3, K2 y0, K2 y1, K2 y2, K2 y3, K2 y4, K2 y5, K2 y6, K2 y7, (kF y8 (fun q => ⟨pn q.1, (kU q.2 (fun q => (Ck.EAt.below (Ck.EAt.weak q (fun b hl hq => ⟨hq.1, hq.2.1, Nat.ne_of_lt hl⟩)) hba)))⟩)), K2 y9, (kF y10 (fun q => ⟨pn q.1, q.2.1, (Ck.Ly.later (Ck.Ly.weak q.2.2 (fun b hl hq => ⟨hq.1, hq.2.1, Nat.ne_of_lt hl⟩)) hba)⟩)), K2 y11, K2 y12, K2 y13, (fun _ => ⟨pS hsz, hzz, ⟨_, _, hnew⟩⟩), KN y15, K2 y16, (vX hB0), (zH hH0 _), (zH hH1 _), (zH hH2 _), (zH hH3 _), (Ck.Ly.later (Ck.Ly.weak hH4 (fun b hl hq => ⟨hq.1, hq.2.1, Nat.ne_of_lt hl⟩)) hba), (Ck.Ly.later (Ck.Ly.weak hH5 (fun b hl hq => ⟨hq.1, hq.2.1, Nat.ne_of_lt hl⟩)) hba), ⟨(by omega), .inr (by omega)⟩, hbw.alloc hbw.size _⟩
      ·obtain rfl := SI ho
       have v14 := hpv hp 14 (by simp)
       have ww14 := (y14 v14).1
       have v12 := hpv hp 12 (by simp)
       have ww12 := (y12 v12).1
       have hlo := ((y14 v14).2.1)
       obtain ⟨u0, u1, hbox⟩ := ((y14 v14).2.2)
       obtain ⟨bc0, bc1, bf0, bf1, -⟩ := zF hbox
       refine zN ho rfl (zT rfl (w2 := ((w'.setCell ⟨Z2, 0, none⟩ (.int .i8 t3.1)).setCell ⟨Z2, 1, none⟩ (.slice G3 m3 cc3))) ?_ ?_)
       ·exact EV
       ·have hsa : (((w'.setCell ⟨Z2, 0, none⟩ (.int .i8 t3.1)).setCell ⟨Z2, 1, none⟩ (.slice G3 m3 cc3))).heap.size = w'.heap.size := by simp
        have hbs := hbw.size
        have hz1 := HZ.out
        have hzb := HZB.out
        have hz2 := LZ2.out
        have hz4 := L94.out
        have hz13 := L13.out
        have hzz := zC hH3
        exact ⟨hdf, hsz, hx, Z2, Gw, kw, t3, E3, pp3, xx3, G3, m3, cc3, K2 y0, K2 y1, K2 y2, K2 y3, K2 y4, K2 y5, K2 y6, K2 y7, (kF y8 (fun q => ⟨q.1, (kT ((y12 v12).2))⟩)), K2 y9, (kF y10 (fun q => ⟨q.1, q.2.1, (Ck.Ly.set2 q.2.2 (fun b hq => hq.2.2) _ _)⟩)), K2 y11, K2 y12, K2 y13, (kF y14 (fun q => ⟨q.1, q.2.1, (kY q.2.2)⟩)), (fun _ => ⟨(z8 ((y12 v12).2)), (z8 v14), zL hbox _ _⟩), K2 y16, (qA hB0 (by omega)), (zM hH0 (by omega) _ _), (zM hH1 (by omega) _ _), (zM hH2 (by omega) _ _), (zM hH3 (by omega) _ _), (Ck.Ly.set2 hH4 (fun b hq => hq.2.2) _ _), (Ck.Ly.set2 hH5 (fun b hq => hq.2.2) _ _), ⟨(by omega), hZZ2⟩, zG hbw (by omega) _ _⟩
      ·obtain rfl := SI ho
       have v13 := hpv hp 13 (by simp)
       have ww13 := (y13 v13).1
       obtain ⟨u0, u1, u2, hbox⟩ := id hB0
       obtain ⟨bc0, bc1, bc2, bf0, bf1, bf2, -⟩ := cells3 hbox
       refine zN ho rfl (zT rfl (w2 := (((w'.setCell ⟨w2.heap.size + 1, 0, none⟩ (.int .i64 E3)).setCell ⟨w2.heap.size + 1, 1, none⟩ (.int .i64 pp3)).setCell ⟨w2.heap.size + 1, 2, none⟩ (.string xx3))) ?_ ?_)
       ·exact EV
       ·have hsa : ((((w'.setCell ⟨w2.heap.size + 1, 0, none⟩ (.int .i64 E3)).setCell ⟨w2.heap.size + 1, 1, none⟩ (.int .i64 pp3)).setCell ⟨w2.heap.size + 1, 2, none⟩ (.string xx3))).heap.size = w'.heap.size := by simp
        have hbs := hbw.size
        have hz1 := HZ.out
        have hzb := HZB.out
        have hz2 := LZ2.out
        have hz4 := L94.out
        have hz13 := L13.out
        have hzz := zC hH3
        exact ⟨hdf, hsz, hx, Z2, Gw, kw, t3, E3, pp3, xx3, G3, m3, cc3, K2 y0, K2 y1, K2 y2, K2 y3, K2 y4, K2 y5, K2 y6, K2 y7, (kF y8 (fun q => ⟨q.1, (kT ((y13 v13).2))⟩)), K2 y9, (kF y10 (fun q => ⟨q.1, q.2.1, (Ck.Ly.zh q.2.2 (fun b hq => hq.2.1) _ _ _)⟩)), K2 y11, K2 y12, K2 y13, (kF y14 (fun q => ⟨q.1, q.2.1, (qB q.2.2 (by omega))⟩)), K2 y15, (fun _ => ⟨(z8 ((y13 v13).2)), zf hbox _ _ _⟩), ⟨_, _, _, zf hbox _ _ _⟩, (zR hH0 (by omega) _ _ _), (zR hH1 (by omega) _ _ _), (zR hH2 (by omega) _ _ _), (zR hH3 (by omega) _ _ _), (Ck.Ly.zh hH4 (fun b hq => hq.2.1) _ _ _), (Ck.Ly.zh hH5 (fun b hq => hq.2.1) _ _ _), ⟨(by omega), hZZ2⟩, qD hbw (by omega) _ _ _⟩
     ·rintro listed u w' t ht hu ⟨-, -, -, Z2, Gw, kw, t3, E3, pp3, xx3, G3, m3, cc3, y0, y1, y2, y3, y4, y5, y6, y7, y8, y9, y10, y11, y12, y13, y14, y15, y16, hB0, hH0, hH1, hH2, hH3, hH4, hH5, ⟨sZ2, hZZ2⟩, hbw⟩ hall
      have v10 := hall 10 (by decide)
      have v14 := hall 14 (by decide)
      have v15 := hall 15 (by decide)
      have v16 := hall 16 (by decide)
      have HBW := kt_ HB2 hbw
      have H6 := k0_ hH0
      have H7 := k0_ hH1
      have H13 := k0_ hH3
      have LZ := k0_ (show w.heap.size + 3 ≤ w'.heap.size from by have := zC hH1; have := HZ.out; omega)
      have HL2 := k0_ (hH5.weak (Q' := Ck.Cut Q w.heap.size (w.heap.size + 3)) (fun b _ hq => hq.1))
      have HP := k0_ ((y10 v10).2.1)
      have HL3 := k0_ (Ck.Ly.weak ((y10 v10).2.2) (Q' := Ck.Cut Q w.heap.size (w.heap.size + 3)) (fun b _ hq => hq.1))
      have eb14 := ((y14 v14).1)
      have H14 := k0_ ((y15 v15).2.2)
      have L14 := k0_ ((y14 v14).2.1)
      have HX2 := k0_ ((y16 v16).2)
      rw [hu 14 (by decide) (by decide)] at eb14
      clear y0 y1 y2 y3 y4 y5 y6 y7 y8 y9 y10 y11 y12 y13 y14 y15 y16 v10 v14 v15 v16 hall hu
      clear hbw hH0 hH1 hH2 hH3 hH4 hH5
      simp only [over, List.setIfInBounds_toArray, List.set_cons_succ, List.set_cons_zero, eb14] at ht
      subst ht
      clear eb14
      generalize hw : w' = w7 at *
      clear hw
      obtain ⟨e0, e1, e2, -, -, -, -⟩ := cells3 HX2.out
      by_cases hE1 : E3 = 0
      ·have hgen := (Qr.R.qh HP.out.1 HP.out.2).1 hE1
       have HOK3 := k0_ hgen.1
       subst hE1
       clear hgen
       have HR4 := k0_ (HR3.out.trans (show _ = (if qv.D.ag t2 t3 = true then Ck.lift h (.ok (qv.D.mt t2 t3)) else Ck.fault h 91) from by rw [HOK3.out]; rfl))
       clear HR3
       have HCE := k0_ (fun (W : World) (hl1 : Ck.Ly (Ck.Cut Q w.heap.size (w.heap.size + 3)) W t2 G2 m2 cc2) (hl2 : Ck.Ly (Ck.Cut Q w.heap.size (w.heap.size + 3)) W t3 G3 m3 cc3) => qv.mtC (Ck.Cut Q w.heap.size (w.heap.size + 3)) t2 G2 m2 cc2 t3 G3 m3 cc3 W hl1 hl2)
       obtain ⟨d0, d1, -, -, -⟩ := zF H13.out
       obtain ⟨d2, d3, -, -, -⟩ := zF H14.out
       have LZ7 := k0_ LZ.out
       go_wp2_with fail
       refine (HCE.out w7 HL2.out HL3.out).mono ?_
       rintro e w8 ⟨ts, Gs, ms, cs, rfl, hls, hst, hb⟩
       have HLS := k0_ (hls.weak (Q' := Ck.Cut Q w.heap.size (w.heap.size + 3)) (fun b _ hq => Qr.zq LZ7.out hq))
       have HST := k0_ hst
       have HBW := kt_ HBW hb
       have LZ := kz_ LZ hb
       have H6 := kp_ hb H6
       have H7 := kp_ hb H7
       clear hb hls hst d0 d1 d2 d3 e0 e1 e2
       have hb8 := zO w8 (.cells #[.int .i8 ts.1, .slice Gs ms cs] 25)
       have H15 := k0_ (zD w8 (.cells #[.int .i8 ts.1, .slice Gs ms cs] 25))
       have HBW := kt_ HBW hb8
       have LZ := kz_ LZ hb8
       have H6 := kp_ hb8 H6
       have H7 := kp_ hb8 H7
       have HLS := Ck.kl_ HLS hb8
       clear hb8
       cases hm : qv.D.ag t2 t3 with
       | false =>
        rw [hm, if_neg (by decide)] at HR4
        obtain ⟨q0', q1', q2', q3', q4', q5', q6', q7', q8', q9', q10'⟩ := HK.out _ HBW.out
        have LZ8 := k0_ LZ.out
        go_wp2_with fail
        refine (HCF.out 91 (by decide) _).mono ?_
        rintro e w10 hp
        obtain ⟨G, m, cg, rfl, hl, hb⟩ := hp.flt
        have HBW := kt_ HBW hb
        have LZ := kz_ LZ hb
        have H6 := kp_ hb H6
        have H7 := kp_ hb H7
        have HZL := k0_ (hl.weak (fun b _ hq => Qr.zq LZ8.out hq))
        clear hb hl hp
        clear q0' q1' q2' q3' q4' q5' q6' q7' q8' q9' q10'
        have HRS := k0_ (zQ H6.out H7.out (show w.heap.size + 1 ≠ w.heap.size + 1 + 1 by omega) (hfrom.out _ HBW.out) (by omega) (by omega) (.int .i8 0) (.slice G m cg) (.int .i64 91) (.int .i64 h.pos) (.string ⟨#[]⟩))
        have HLF := k0_ ((HZL.out.set2 (X := w.heap.size + 1) (fun b hq => hq.ne (by omega) (by omega)) (.int .i8 0) (.slice G m cg)).zh (X := w.heap.size + 1 + 1) (fun b hq => hq.ne (by omega) (by omega)) (.int .i64 91) (.int .i64 h.pos) (.string ⟨#[]⟩))
        obtain ⟨z0, z1, z2, z3, zl⟩ := zF H6.out
        obtain ⟨y0, y1, y2, y3, y4, y5, yl⟩ := cells3 H7.out
        go_wp2_with fail
        clear z0 z1 z2 z3 zl y0 y1 y2 y3 y4 y5 yl
        generalize (((((w10.setCell ⟨w.heap.size + 1, 0, none⟩ (.int .i8 0)).setCell ⟨w.heap.size + 1, 1, none⟩ (.slice G m cg)).setCell ⟨w.heap.size + 1 + 1, 0, none⟩ (.int .i64 91)).setCell ⟨w.heap.size + 1 + 1, 1, none⟩ (.int .i64 h.pos)).setCell ⟨w.heap.size + 1 + 1, 2, none⟩ (.string ⟨#[]⟩)) = wz at *
        obtain ⟨k0, k1', -, -, -⟩ := zF HRS.out.1
        obtain ⟨k2', k3', k4', -, -, -, -⟩ := cells3 HRS.out.2.1
        refine bodyPost_ret (v := .tuple #[.agg #[.int .i8 0, .slice G m cg], .agg #[.int .i64 91, .int .i64 h.pos, .string ⟨#[]⟩]]) (by simp [results, Tryz.results35, go_sem, k0, k1', k2', k3', k4']) rfl ?_
        exact HR4.out ▸ Qr.Post.mk (a := (0, .nil)) (Qr.Nz.fault h (by decide)) ⟨rfl, rfl, rfl, rfl⟩ (HLF.out.weak (fun b _ hq => hq.out (by omega))) HRS.out.2.2
       | true =>
        rw [hm, if_pos rfl] at HR4
        have hts := HST.out hm
        subst hts
        have HOM := k0_ (HMT.out _ _ HCK2.out (Cg.jd HOK3.out) hm)
        have CFI := k0_ (fun (W : World) (hl1 : Ck.Ly (Ck.Cut Q w.heap.size (w.heap.size + 3)) W (qv.D.mt t2 t3) Gs ms cs) => jD (Ck.Cut Q w.heap.size (w.heap.size + 3)) h (⟨TA, tn, tc, UA, un, uc, some ⟨kb, ko, none⟩, 3, kc⟩ : Pl) (qv.D.mt t2 t3) Gs ms cs W hl1 HOM.out)
        obtain ⟨q0', q1', q2', q3', q4', q5', q6', q7', q8', q9', q10'⟩ := HK.out _ HBW.out
        obtain ⟨d0, d1, -, -, -⟩ := zF H15.out
        have LZ8 := k0_ LZ.out
        go_wp2_with fail
        refine (CFI.out _ HLS.out).mono ?_
        rintro e w10 hp
        obtain ⟨t4, E4, pp4, xx4, G4, m4, cc4, rfl, hgn, hl, hb⟩ := hp.names
        have HGG := k0_ hgn
        have HBW := kt_ HBW hb
        have LZ := kz_ LZ hb
        have H6 := kp_ hb H6
        have H7 := kp_ hb H7
        have HLF4 := k0_ (hl.weak (fun b _ hq => Qr.zq LZ8.out hq))
        clear hl hb hgn hp d0 d1
        clear q0' q1' q2' q3' q4' q5' q6' q7' q8' q9' q10'
        have HRS := k0_ (zQ H6.out H7.out (show w.heap.size + 1 ≠ w.heap.size + 1 + 1 by omega) (hfrom.out _ HBW.out) (by omega) (by omega) (.int .i8 t4.1) (.slice G4 m4 cc4) (.int .i64 E4) (.int .i64 pp4) (.string xx4))
        have HLF := k0_ ((HLF4.out.set2 (X := w.heap.size + 1) (fun b hq => hq.ne (by omega) (by omega)) (.int .i8 t4.1) (.slice G4 m4 cc4)).zh (X := w.heap.size + 1 + 1) (fun b hq => hq.ne (by omega) (by omega)) (.int .i64 E4) (.int .i64 pp4) (.string xx4))
        obtain ⟨z0, z1, z2, z3, zl⟩ := zF H6.out
        obtain ⟨y0, y1, y2, y3, y4, y5, yl⟩ := cells3 H7.out
        go_wp2_with fail
        clear z0 z1 z2 z3 zl y0 y1 y2 y3 y4 y5 yl
        generalize (((((w10.setCell ⟨w.heap.size + 1, 0, none⟩ (.int .i8 t4.1)).setCell ⟨w.heap.size + 1, 1, none⟩ (.slice G4 m4 cc4)).setCell ⟨w.heap.size + 1 + 1, 0, none⟩ (.int .i64 E4)).setCell ⟨w.heap.size + 1 + 1, 1, none⟩ (.int .i64 pp4)).setCell ⟨w.heap.size + 1 + 1, 2, none⟩ (.string xx4)) = wz at *
        obtain ⟨k0, k1', -, -, -⟩ := zF HRS.out.1
        obtain ⟨k2', k3', k4', -, -, -, -⟩ := cells3 HRS.out.2.1
        refine bodyPost_ret (v := .tuple #[.agg #[.int .i8 t4.1, .slice G4 m4 cc4], .agg #[.int .i64 E4, .int .i64 pp4, .string xx4]]) (by simp [results, Tryz.results35, go_sem, k0, k1', k2', k3', k4']) rfl ?_
        exact HR4.out ▸ Qr.Post.mk HGG.out.1 HGG.out.2 (HLF.out.weak (fun b _ hq => hq.out (by omega))) HRS.out.2.2
      ·have hgen := (Qr.R.qh HP.out.1 HP.out.2).2 hE1
       have HBD := k0_ hgen
       have hne : (E3 != 0) = true := by simpa using hE1
       have HNE := k0_ hE1
       clear hgen hE1
       have HRR := k0_ (HR3.out.trans (show _ = Ck.R.bad E3 pp3 xx3 from by rw [HBD.out.1]; rfl))
       have nz1 : w.heap.size + 1 ≠ w2.heap.size + 1 := by have := LZ2.out; omega
       have nz2 : w.heap.size + 1 + 1 ≠ w2.heap.size + 1 := by have := LZ2.out; omega
       have nz3 : w.heap.size + 1 ≠ w2.heap.size := by have := LZ2.out; omega
       have nz4 : w.heap.size ≠ w2.heap.size := by have := LZ2.out; omega
       go_upto_region 12 with fail
       have HZL := k0_ (Ck.Ly.zero (Ck.Cut Q w.heap.size (w.heap.size + 3)) w7)
       have HRS := k0_ (zQ H6.out H7.out (show w.heap.size + 1 ≠ w.heap.size + 1 + 1 by omega) (hfrom.out _ HBW.out) (by omega) (by omega) (.int .i8 0) (.slice none 0 0) (.int .i64 E3) (.int .i64 pp3) (.string xx3))
       have HLF := k0_ ((HZL.out.set2 (X := w.heap.size + 1) (fun b hq => hq.ne (by omega) (by omega)) (.int .i8 0) (.slice none 0 0)).zh (X := w.heap.size + 1 + 1) (fun b hq => hq.ne (by omega) (by omega)) (.int .i64 E3) (.int .i64 pp3) (.string xx3))
       obtain ⟨z0, z1, z2, z3, zl⟩ := zF H6.out
       obtain ⟨y0, y1, y2, y3, y4, y5, yl⟩ := cells3 H7.out
       go_wp2_with fail
       go_region
       have HRS := k0_ (show (((((w7.setCell ⟨w.heap.size + 1, 0, none⟩ (.int .i8 0)).setCell ⟨w.heap.size + 1, 1, none⟩ (.slice none 0 0)).setCell ⟨w.heap.size + 1 + 1, 0, none⟩ (.int .i64 E3)).setCell ⟨w.heap.size + 1 + 1, 1, none⟩ (.int .i64 pp3)).setCell ⟨w.heap.size + 1 + 1, 2, none⟩ (.string xx3)).drew.heap[w.heap.size + 1]? = _ ∧ (((((w7.setCell ⟨w.heap.size + 1, 0, none⟩ (.int .i8 0)).setCell ⟨w.heap.size + 1, 1, none⟩ (.slice none 0 0)).setCell ⟨w.heap.size + 1 + 1, 0, none⟩ (.int .i64 E3)).setCell ⟨w.heap.size + 1 + 1, 1, none⟩ (.int .i64 pp3)).setCell ⟨w.heap.size + 1 + 1, 2, none⟩ (.string xx3)).drew.heap[w.heap.size + 1 + 1]? = _ ∧ Below w.heap.size w (((((w7.setCell ⟨w.heap.size + 1, 0, none⟩ (.int .i8 0)).setCell ⟨w.heap.size + 1, 1, none⟩ (.slice none 0 0)).setCell ⟨w.heap.size + 1 + 1, 0, none⟩ (.int .i64 E3)).setCell ⟨w.heap.size + 1 + 1, 1, none⟩ (.int .i64 pp3)).setCell ⟨w.heap.size + 1 + 1, 2, none⟩ (.string xx3)).drew from ⟨HRS.out.1, HRS.out.2.1, HRS.out.2.2.drew⟩)
       have HLF := k0_ (HLF.out.later (Below.refl _ _).drew)
       clear z0 z1 z2 z3 zl y0 y1 y2 y3 y4 y5 yl
       generalize (((((w7.setCell ⟨w.heap.size + 1, 0, none⟩ (.int .i8 0)).setCell ⟨w.heap.size + 1, 1, none⟩ (.slice none 0 0)).setCell ⟨w.heap.size + 1 + 1, 0, none⟩ (.int .i64 E3)).setCell ⟨w.heap.size + 1 + 1, 1, none⟩ (.int .i64 pp3)).setCell ⟨w.heap.size + 1 + 1, 2, none⟩ (.string xx3)).drew = wz at *
       obtain ⟨k0, k1', -, -, -⟩ := zF HRS.out.1
       obtain ⟨k2', k3', k4', -, -, -, -⟩ := cells3 HRS.out.2.1
       go_wp2_with fail
       refine bodyPost_ret (v := .tuple #[.agg #[.int .i8 0, .slice none 0 0], .agg #[.int .i64 E3, .int .i64 pp3, .string xx3]]) (by simp [results, Tryz.results35, go_sem, k0, k1', k2', k3', k4']) rfl ?_
       exact zDr
    ·have hgen := (Qr.R.qh HP.out.1 HP.out.2).2 hE1
     have HBD := k0_ hgen
     have hne : (E2 != 0) = true := by simpa using hE1
     have HNE := k0_ hE1
     clear hgen hE1
     have HRR := k0_ (HRR.out.trans (show _ = Ck.R.bad E2 pp2 xx2 from by rw [HBD.out.1]; rfl))
     have nz1 : w.heap.size + 1 ≠ w2.heap.size + 1 := by have := LZ2.out; omega
     have nz2 : w.heap.size + 1 + 1 ≠ w2.heap.size + 1 := by have := LZ2.out; omega
     have nz3 : w.heap.size + 1 ≠ w2.heap.size := by have := LZ2.out; omega
     have nz4 : w.heap.size ≠ w2.heap.size := by have := LZ2.out; omega
     go_upto_region 9 with fail
     have HZL := k0_ (Ck.Ly.zero (Ck.Cut Q w.heap.size (w.heap.size + 3)) w6)
     have HRS := k0_ (zQ H6.out H7.out (show w.heap.size + 1 ≠ w.heap.size + 1 + 1 by omega) (hfrom.out _ HBW.out) (by omega) (by omega) (.int .i8 0) (.slice none 0 0) (.int .i64 E2) (.int .i64 pp2) (.string xx2))
     have HLF := k0_ ((HZL.out.set2 (X := w.heap.size + 1) (fun b hq => hq.ne (by omega) (by omega)) (.int .i8 0) (.slice none 0 0)).zh (X := w.heap.size + 1 + 1) (fun b hq => hq.ne (by omega) (by omega)) (.int .i64 E2) (.int .i64 pp2) (.string xx2))
     obtain ⟨z0, z1, z2, z3, zl⟩ := zF H6.out
     obtain ⟨y0, y1, y2, y3, y4, y5, yl⟩ := cells3 H7.out
     go_wp2_with fail
     go_region
     have HRS := k0_ (show (((((w6.setCell ⟨w.heap.size + 1, 0, none⟩ (.int .i8 0)).setCell ⟨w.heap.size + 1, 1, none⟩ (.slice none 0 0)).setCell ⟨w.heap.size + 1 + 1, 0, none⟩ (.int .i64 E2)).setCell ⟨w.heap.size + 1 + 1, 1, none⟩ (.int .i64 pp2)).setCell ⟨w.heap.size + 1 + 1, 2, none⟩ (.string xx2)).drew.heap[w.heap.size + 1]? = _ ∧ (((((w6.setCell ⟨w.heap.size + 1, 0, none⟩ (.int .i8 0)).setCell ⟨w.heap.size + 1, 1, none⟩ (.slice none 0 0)).setCell ⟨w.heap.size + 1 + 1, 0, none⟩ (.int .i64 E2)).setCell ⟨w.heap.size + 1 + 1, 1, none⟩ (.int .i64 pp2)).setCell ⟨w.heap.size + 1 + 1, 2, none⟩ (.string xx2)).drew.heap[w.heap.size + 1 + 1]? = _ ∧ Below w.heap.size w (((((w6.setCell ⟨w.heap.size + 1, 0, none⟩ (.int .i8 0)).setCell ⟨w.heap.size + 1, 1, none⟩ (.slice none 0 0)).setCell ⟨w.heap.size + 1 + 1, 0, none⟩ (.int .i64 E2)).setCell ⟨w.heap.size + 1 + 1, 1, none⟩ (.int .i64 pp2)).setCell ⟨w.heap.size + 1 + 1, 2, none⟩ (.string xx2)).drew from ⟨HRS.out.1, HRS.out.2.1, HRS.out.2.2.drew⟩)
     have HLF := k0_ (HLF.out.later (Below.refl _ _).drew)
     clear z0 z1 z2 z3 zl y0 y1 y2 y3 y4 y5 yl
     generalize (((((w6.setCell ⟨w.heap.size + 1, 0, none⟩ (.int .i8 0)).setCell ⟨w.heap.size + 1, 1, none⟩ (.slice none 0 0)).setCell ⟨w.heap.size + 1 + 1, 0, none⟩ (.int .i64 E2)).setCell ⟨w.heap.size + 1 + 1, 1, none⟩ (.int .i64 pp2)).setCell ⟨w.heap.size + 1 + 1, 2, none⟩ (.string xx2)).drew = wz at *
     obtain ⟨k0, k1', -, -, -⟩ := zF HRS.out.1
     obtain ⟨k2', k3', k4', -, -, -, -⟩ := cells3 HRS.out.2.1
     go_wp2_with fail
     refine bodyPost_ret (v := .tuple #[.agg #[.int .i8 0, .slice none 0 0], .agg #[.int .i64 E2, .int .i64 pp2, .string xx2]]) (by simp [results, Tryz.results35, go_sem, k0, k1', k2', k3', k4']) rfl ?_
     exact zDr
 ·have hgen := (Qr.R.qh HP.out.1 HP.out.2).2 hE1
  have HBD := k0_ hgen
  have hne : (E1 != 0) = true := by simpa using hE1
  have HNE := k0_ hE1
  clear hgen hE1
  have HRR := k0_ (HR.out.trans (show _ = Ck.R.bad E1 pp1 xx1 from by rw [HBD.out.1]; rfl))
  clear e3 e4
  have nz1 : w.heap.size + 1 ≠ w2.heap.size + 1 := by have := LZ2.out; omega
  have nz2 : w.heap.size + 1 + 1 ≠ w2.heap.size + 1 := by have := LZ2.out; omega
  have nz3 : w.heap.size + 1 ≠ w2.heap.size := by have := LZ2.out; omega
  have nz4 : w.heap.size ≠ w2.heap.size := by have := LZ2.out; omega
  go_upto_region 3 with fail
  generalize hw3 : (w2.alloc (.cells #[.int .i8 t1.1, .slice G1 m1 cc1] 25)).alloc (.cells #[.int .i64 E1, .int .i64 pp1, .string xx1] 35) = w3 at *
  clear hw3
  have HZL := k0_ (Ck.Ly.zero (Ck.Cut Q w.heap.size (w.heap.size + 3)) w3)
  have HRS := k0_ (zQ H6.out H7.out (show w.heap.size + 1 ≠ w.heap.size + 1 + 1 by omega) (hfrom.out _ HBW.out) (by omega) (by omega) (.int .i8 0) (.slice none 0 0) (.int .i64 E1) (.int .i64 pp1) (.string xx1))
  have HLF := k0_ ((HZL.out.set2 (X := w.heap.size + 1) (fun b hq => hq.ne (by omega) (by omega)) (.int .i8 0) (.slice none 0 0)).zh (X := w.heap.size + 1 + 1) (fun b hq => hq.ne (by omega) (by omega)) (.int .i64 E1) (.int .i64 pp1) (.string xx1))
  obtain ⟨z0, z1, z2, z3, zl⟩ := zF H6.out
  obtain ⟨y0, y1, y2, y3, y4, y5, yl⟩ := cells3 H7.out
  go_wp2_with fail
  go_region
  have HRS := k0_ (show (((((w3.setCell ⟨w.heap.size + 1, 0, none⟩ (.int .i8 0)).setCell ⟨w.heap.size + 1, 1, none⟩ (.slice none 0 0)).setCell ⟨w.heap.size + 1 + 1, 0, none⟩ (.int .i64 E1)).setCell ⟨w.heap.size + 1 + 1, 1, none⟩ (.int .i64 pp1)).setCell ⟨w.heap.size + 1 + 1, 2, none⟩ (.string xx1)).drew.heap[w.heap.size + 1]? = _ ∧ (((((w3.setCell ⟨w.heap.size + 1, 0, none⟩ (.int .i8 0)).setCell ⟨w.heap.size + 1, 1, none⟩ (.slice none 0 0)).setCell ⟨w.heap.size + 1 + 1, 0, none⟩ (.int .i64 E1)).setCell ⟨w.heap.size + 1 + 1, 1, none⟩ (.int .i64 pp1)).setCell ⟨w.heap.size + 1 + 1, 2, none⟩ (.string xx1)).drew.heap[w.heap.size + 1 + 1]? = _ ∧ Below w.heap.size w (((((w3.setCell ⟨w.heap.size + 1, 0, none⟩ (.int .i8 0)).setCell ⟨w.heap.size + 1, 1, none⟩ (.slice none 0 0)).setCell ⟨w.heap.size + 1 + 1, 0, none⟩ (.int .i64 E1)).setCell ⟨w.heap.size + 1 + 1, 1, none⟩ (.int .i64 pp1)).setCell ⟨w.heap.size + 1 + 1, 2, none⟩ (.string xx1)).drew from ⟨HRS.out.1, HRS.out.2.1, HRS.out.2.2.drew⟩)
  have HLF := k0_ (HLF.out.later (Below.refl _ _).drew)
  clear z0 z1 z2 z3 zl y0 y1 y2 y3 y4 y5 yl
  generalize (((((w3.setCell ⟨w.heap.size + 1, 0, none⟩ (.int .i8 0)).setCell ⟨w.heap.size + 1, 1, none⟩ (.slice none 0 0)).setCell ⟨w.heap.size + 1 + 1, 0, none⟩ (.int .i64 E1)).setCell ⟨w.heap.size + 1 + 1, 1, none⟩ (.int .i64 pp1)).setCell ⟨w.heap.size + 1 + 1, 2, none⟩ (.string xx1)).drew = wz at *
  obtain ⟨k0, k1', -, -, -⟩ := zF HRS.out.1
  obtain ⟨k2', k3', k4', -, -, -, -⟩ := cells3 HRS.out.2.1
  go_wp2_with fail
  refine bodyPost_ret (v := .tuple #[.agg #[.int .i8 0, .slice none 0 0], .agg #[.int .i64 E1, .int .i64 pp1, .string xx1]]) (by simp [results, Tryz.results35, go_sem, k0, k1', k2', k3', k4']) rfl ?_
  exact zDr
end Go.Proofs.YtkdnnleanoompabGreatDoor
