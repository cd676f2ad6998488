import Derived.Test.YtkdnnleanoompabGreatDoorM28
namespace Go.Proofs.YtkdnnleanoompabGreatDoor
open Go.RowKit
set_option maxHeartbeats 8000000 in
set_option maxRecDepth 100000 in
theorem zAR (qv : Qr.Qv) (K : Nat) (Q : Nat → Prop) (h h1 : Hd) (k1 : Tm) (q1 : Pl) (TA UA : Option Addr) (tn tc un uc kb ko kc : Nat) (l : Ck.Env) (A : Option Addr) (n c : Nat) (wb w : World)
  (hT : Ty.Is wb h.tk h.tkids TA tn tc) (hU : Ty.Is wb h.uk h.ukids UA un uc) (g1 : Ck.KidAt wb kb (ko) h1 q1) (hwb : Below wb.heap.size wb w) (hQ : ∀ b, b < wb.heap.size → Q b) (hE : Ck.EAt Q w l A n c) (hl : l.length < 20000)
  (hk : h.kind = 5) (hch : ∀ x ∈ l, Ck.chk x.2 = 0) (hcT : Ck.chk (Ck.TT h) = 0) (hcO : Ck.chk (Ck.mk2 3 (Ck.TT h) (Ck.UU h)) = 0) (hb1 : l.length + 2 + 2 * (Tm.nodes k1 + 1) ≤ 20000) (T1 : Qr.TellsOf qv K wb h1 k1 q1) :
  Calls Tryz.prog 15 #[.agg (tD_ h TA tn tc UA un uc (some ⟨kb, ko, none⟩) 1 kc), .slice A n c, .int .i64 qv.md] w (Qr.Post Q w (Ck.bnd (Cg.ty qv.D K h1 k1 ((l ++ [(h.name, Ck.mk2 3 (Ck.TT h) (Ck.UU h))]) ++ [(h.arg, Ck.TT h)])) fun b => if qv.D.ag b (Ck.UU h) = true then Ck.lift h (.ok (Ck.mk2 3 (Ck.TT h) (Ck.UU h))) else Ck.fault h 91)) := by
 try unfold tD_
 obtain ⟨R, hR⟩ : ∃ R, R = (Ck.bnd (Cg.ty qv.D K h1 k1 ((l ++ [(h.name, Ck.mk2 3 (Ck.TT h) (Ck.UU h))]) ++ [(h.arg, Ck.TT h)])) fun b => if qv.D.ag b (Ck.UU h) = true then Ck.lift h (.ok (Ck.mk2 3 (Ck.TT h) (Ck.UU h))) else Ck.fault h 91) := ⟨_, rfl⟩
 rw [← hR]
 have HR := k0_ hR
 obtain ⟨b1, w1, hw1, hb0, g0, hb1, h6, h7, hzb, hz⟩ := Qr.three w (.cells (tD_ h TA tn tc UA un uc (some ⟨kb, ko, none⟩) 1 kc) 28)
 have HW1 := k0_ hw1
 have HB0 := k0_ hb0
 have H0 := k0_ g0
 have HBW := k0_ hb1
 have H6 := k0_ h6
 have H7 := k0_ h7
 have HZB := k0_ hzb
 have HZ := k0_ hz
 have LZ := k0_ (Nat.le_of_eq hz.symm)
 have HWB := k0_ (hwb.trans (hb0.mono hwb.size))
 have hfrom := k0_ (fun (W : World) (hb : Below b1.heap.size b1 W) => hb0.trans (hb.mono hb0.size))
 have HQM : Hid (∀ b, b < wb.heap.size → Ck.Cut Q w.heap.size (w.heap.size + 3) b) := k0_ (fun b hb => .inl ⟨hQ b hb, Nat.lt_of_lt_of_le hb hwb.size⟩)
 have HE : Hid (Ck.EAt (Ck.Cut Q w.heap.size (w.heap.size + 3)) b1 l A n c) := k0_ ((hE.weak (fun b hb hq => .inl ⟨hq, hb⟩)).below hb0)
 have HT : Hid (Ck.Ly (Ck.Cut Q w.heap.size (w.heap.size + 3)) b1 (Ck.TT h) TA tn tc) := k0_ (((Ck.Ly.of (a := Ck.TT h) hT).weak (fun b hb _ => HQM.out b hb)).later HWB.out)
 have HU : Hid (Ck.Ly (Ck.Cut Q w.heap.size (w.heap.size + 3)) b1 (Ck.UU h) UA un uc) := k0_ (((Ck.Ly.of (a := Ck.UU h) hU).weak (fun b hb _ => HQM.out b hb)).later HWB.out)
 have HN := k0_ hE.n_eq
 have HLL := k0_ hl
 have HK := k0_ (fun (W : World) (hb : Below b1.heap.size b1 W) => Qr.jA (zA hb (zC H0.out) H0.out))
 have HK1 := k0_ (fun (W : World) (hb : Below b1.heap.size b1 W) => Qr.wJ g1 HWB.out hb)
 clear hR hb0 g0 hb1 h6 h7 hzb hz hwb hE hT hU hl g1
 have HKK := k0_ hk
 have HCO := k0_ (Ty.zm hcO).1
 have hn20 : n + 1 ≤ 20000 := by have := HN.out; have := HLL.out; omega
 have hn21 : n + 1 + 1 ≤ 20000 := by have := HN.out; omega
 clear hk
 have hch2 : ∀ x ∈ (l ++ [(h.name, Ck.mk2 3 (Ck.TT h) (Ck.UU h))]) ++ [(h.arg, Ck.TT h)], Ck.chk x.2 = 0 := fun x hx => by
  rcases List.mem_append.1 hx with q | q
  ·rcases List.mem_append.1 q with q | q
   ·exact hch x q
   ·rw [List.mem_singleton.1 q]; exact hcO
  ·rw [List.mem_singleton.1 q]; exact hcT
 clear hch hcT hcO
 go_enter Tryz.func15, Tryz.ntmps15
 go_upto_region 1 with fail
 rw [← HW1.out]
 clear hw1 HW1
 obtain ⟨q0', q1', q2', q3', q4', q5', q6', q7', q8', q9', q10'⟩ := HK.out w1 HBW.out
 rw [HKK.out] at q0'
 have CM := k0_ (fun (W : World) (hb : Below b1.heap.size b1 W) => jw (Ck.Cut Q w.heap.size (w.heap.size + 3)) 3 (by decide) (Ck.TT h) TA tn tc (Ck.UU h) UA un uc W (HT.out.later hb) (HU.out.later hb))
 go_wp2_with fail
 refine (CM.out w1 HBW.out).mono ?_
 rintro e w2 ⟨Gm, mm, cm, rfl, hl, hb⟩
 have HO : Hid (Ck.Ly (Ck.Cut Q w.heap.size (w.heap.size + 3)) w2 (Ck.mk2 3 (Ck.TT h) (Ck.UU h)) Gm mm cm) := k0_ (hl.weak (fun b _ hq => Qr.zq LZ.out hq))
 clear hl CM
 have HBW := kt_ HBW hb
 have LZ := kz_ LZ hb
 have H6 := kp_ hb H6
 have H7 := kp_ hb H7
 clear hb
 clear q0' q1' q2' q3' q4' q5' q6' q7' q8' q9' q10'
 have hb8 := zO w2 (.cells #[.int .i8 (Ck.mk2 3 (Ck.TT h) (Ck.UU h)).1, .slice Gm mm cm] 25)
 have H8 := k0_ (zD w2 (.cells #[.int .i8 (Ck.mk2 3 (Ck.TT h) (Ck.UU h)).1, .slice Gm mm cm] 25))
 have HBW := kt_ HBW hb8
 have LZ := kz_ LZ hb8
 have H6 := kp_ hb8 H6
 have H7 := kp_ hb8 H7
 have HO := Ck.kl_ HO hb8
 clear hb8
 obtain ⟨q0', q1', q2', q3', q4', q5', q6', q7', q8', q9', q10'⟩ := HK.out _ HBW.out
 go_upto_region 19 with fail
 clear q0' q1' q2' q3' q4' q5' q6' q7' q8' q9' q10'
 generalize hw3 : w2.alloc (.cells #[.int .i8 (Ck.mk2 3 (Ck.TT h) (Ck.UU h)).1, .slice Gm mm cm] 25) = w3 at *
 clear hw3
 have H8 := k0_ (show w3.heap[w2.heap.size]? = some (.cells #[.int .i8 3, .slice Gm mm cm] 25 (0, 0)) from H8.out)
 have LZ3 : Hid (w.heap.size + 3 ≤ w3.heap.size) := k0_ LZ.out
 have HB3 := k0_ HBW.out
 have HWB3 := k0_ (HWB.out.trans (HBW.out.mono HWB.out.size))
 have HT3 := k0_ (HT.out.later HBW.out)
 have HE3 := k0_ (HE.out.below HBW.out)
 have L8 := k0_ (zC H8.out)
 refine zI 178 rfl [85, 86, 87, 88, 89, 90, 91, 92, 93, 94, 95, 96, 97, 98, 99, 100, 84, 101, 102, 13, 14] (by kernel_rfl) (by kernel_rfl) (by kernel_rfl) (fun listed a' w' => a'.defers = [] ∧ a'.tmps.size = 178 ∧ (a'.eval (.tmp 1) = .slice A n c ∧ a'.eval (.tmp 2) = .int .i64 qv.md ∧ a'.eval (.tmp 3) = .pointer (some ⟨w.heap.size, 0, none⟩) ∧ a'.eval (.tmp 6) = .pointer (some ⟨w.heap.size + 1, 0, none⟩) ∧ a'.eval (.tmp 7) = .pointer (some ⟨w.heap.size + 1 + 1, 0, none⟩) ∧ a'.eval (.tmp 12) = .pointer (some ⟨w2.heap.size, 0, none⟩)) ∧ ∃ Z1 Z2 Gw kw Gx kx t1 E1 pp1 xx1 G1 m1 cc1, (listed[0]? = some true → (a'.eval (.tmp 85) = .pointer (some ⟨w.heap.size, 10, none⟩))) ∧ (listed[1]? = some true → (a'.eval (.tmp 86) = .slice (some ⟨kb, ko, none⟩) 1 kc)) ∧ (listed[2]? = some true → (a'.eval (.tmp 87) = .pointer (some ⟨kb, ko, none⟩))) ∧ (listed[3]? = some true → (a'.eval (.tmp 88) = .agg (tC_ h1 q1))) ∧ (listed[4]? = some true → (a'.eval (.tmp 89) = .slice A n c)) ∧ (listed[5]? = some true → (a'.eval (.tmp 90) = .pointer (some ⟨w.heap.size, 1, none⟩))) ∧ (listed[6]? = some true → (a'.eval (.tmp 91) = .string h.name)) ∧ (listed[7]? = some true → (a'.eval (.tmp 92) = .agg #[.int .i8 3, .slice Gm mm cm])) ∧ (listed[8]? = some true → (a'.eval (.tmp 93) = .slice Gw (n + 1) kw) ∧ ((listed[13]? = some false → Ck.EAt (fun b => Ck.Cut Q w.heap.size (w.heap.size + 3) b ∧ b ≠ Z1 ∧ b ≠ Z2) w' (l ++ [(h.name, Ck.mk2 3 (Ck.TT h) (Ck.UU h))]) Gw (n + 1) kw))) ∧ (listed[9]? = some true → (a'.eval (.tmp 94) = .pointer (some ⟨w.heap.size, 2, none⟩))) ∧ (listed[10]? = some true → (a'.eval (.tmp 95) = .string h.arg)) ∧ (listed[11]? = some true → (a'.eval (.tmp 96) = .pointer (some ⟨w.heap.size, 4, none⟩))) ∧ (listed[12]? = some true → (a'.eval (.tmp 97) = .agg #[.int .i8 h.tk, .slice TA tn tc])) ∧ (listed[13]? = some true → (a'.eval (.tmp 98) = .slice Gx (n + 1 + 1) kx) ∧ ((listed[15]? = some false → Ck.EAt (fun b => Ck.Cut Q w.heap.size (w.heap.size + 3) b ∧ b ≠ Z1 ∧ b ≠ Z2) w' ((l ++ [(h.name, Ck.mk2 3 (Ck.TT h) (Ck.UU h))]) ++ [(h.arg, Ck.TT h)]) Gx (n + 1 + 1) kx))) ∧ (listed[14]? = some true → (a'.eval (.tmp 99) = .int .i64 qv.md)) ∧ (listed[15]? = some true → (a'.eval (.tmp 100) = .tuple #[.agg #[.int .i8 t1.1, .slice G1 m1 cc1], .agg #[.int .i64 E1, .int .i64 pp1, .string xx1]]) ∧ (listed[13]? = some true) ∧ (Qr.Nz (Cg.ty qv.D K h1 k1 ((l ++ [(h.name, Ck.mk2 3 (Ck.TT h) (Ck.UU h))]) ++ [(h.arg, Ck.TT h)])) ∧ Qr.tyO (Cg.ty qv.D K h1 k1 ((l ++ [(h.name, Ck.mk2 3 (Ck.TT h) (Ck.UU h))]) ++ [(h.arg, Ck.TT h)])) = t1 ∧ Qr.eO (Cg.ty qv.D K h1 k1 ((l ++ [(h.name, Ck.mk2 3 (Ck.TT h) (Ck.UU h))]) ++ [(h.arg, Ck.TT h)])) = E1 ∧ Qr.pO (Cg.ty qv.D K h1 k1 ((l ++ [(h.name, Ck.mk2 3 (Ck.TT h) (Ck.UU h))]) ++ [(h.arg, Ck.TT h)])) = pp1 ∧ Qr.xO (Cg.ty qv.D K h1 k1 ((l ++ [(h.name, Ck.mk2 3 (Ck.TT h) (Ck.UU h))]) ++ [(h.arg, Ck.TT h)])) = xx1) ∧ (Ck.Ly (fun b => Ck.Cut Q w.heap.size (w.heap.size + 3) b ∧ b ≠ Z1 ∧ b ≠ Z2) w' t1 G1 m1 cc1)) ∧ (listed[16]? = some true → (a'.eval (.tmp 84) = .tuple #[.agg #[.int .i8 t1.1, .slice G1 m1 cc1], .agg #[.int .i64 E1, .int .i64 pp1, .string xx1]]) ∧ (listed[13]? = some true) ∧ (listed[15]? = some true)) ∧ (listed[17]? = some true → (a'.eval (.tmp 101) = .agg #[.int .i8 t1.1, .slice G1 m1 cc1]) ∧ (listed[13]? = some true) ∧ (listed[15]? = some true)) ∧ (listed[18]? = some true → (a'.eval (.tmp 102) = .agg #[.int .i64 E1, .int .i64 pp1, .string xx1]) ∧ (listed[13]? = some true) ∧ (listed[15]? = some true)) ∧ (listed[19]? = some true → (a'.eval (.tmp 13) = .pointer (some ⟨Z1, 0, none⟩)) ∧ (w3.heap.size ≤ Z1) ∧ (Z1 ≠ Z2) ∧ (∃ u0 u1, w'.heap[Z1]? = some (.cells #[u0, u1] 25 (0, 0)))) ∧ (listed[20]? = some true → (a'.eval (.tmp 14) = .pointer (some ⟨Z2, 0, none⟩)) ∧ (w3.heap.size ≤ Z2) ∧ (Z1 ≠ Z2) ∧ (∃ u0 u1 u2, w'.heap[Z2]? = some (.cells #[u0, u1, u2] 35 (0, 0)))) ∧ (listed[21]? = some true → (listed[15]? = some true) ∧ (listed[19]? = some true) ∧ (w'.heap[Z1]? = some (.cells #[.int .i8 t1.1, .slice G1 m1 cc1] 25 (0, 0)))) ∧ (listed[22]? = some true → (listed[15]? = some true) ∧ (listed[20]? = some true) ∧ (w'.heap[Z2]? = some (.cells #[.int .i64 E1, .int .i64 pp1, .string xx1] 35 (0, 0)))) ∧ (w'.heap[w.heap.size + 1]? = some (.cells #[.int .i8 0, .slice none 0 0] 25 (0, 0))) ∧ (w'.heap[w.heap.size + 1 + 1]? = some (.cells #[.int .i64 0, .int .i64 0, .string ⟨#[]⟩] 35 (0, 0))) ∧ (w'.heap[w2.heap.size]? = some (.cells #[.int .i8 3, .slice Gm mm cm] 25 (0, 0))) ∧ (Z1 < w'.heap.size ∧ (Z1 = w.heap.size + 2 ∨ w3.heap.size ≤ Z1)) ∧ (Z2 < w'.heap.size ∧ (Z2 = w.heap.size + 2 ∨ w3.heap.size ≤ Z2)) ∧ Below w3.heap.size w3 w') (fun _ _ _ h => h.1) ?_ ?_ ?_
 ·have hz0 := HZ.out
  refine ⟨rfl, rfl, ⟨rfl, rfl, rfl, rfl, rfl, rfl⟩, (w.heap.size + 2), (w.heap.size + 2), none, 0, none, 0, (0, .nil), 0, 0, ⟨#[]⟩, none, 0, 0, FH, FH, FH, FH, FH, FH, FH, FH, FH, FH, FH, FH, FH, FH, FH, FH, FH, FH, FH, FH, FH, FH, FH, H6.out, H7.out, H8.out, ⟨(show w.heap.size + 2 < w3.heap.size from by have := LZ.out; omega), .inl rfl⟩, ⟨(show w.heap.size + 2 < w3.heap.size from by have := LZ.out; omega), .inl rfl⟩, (Below.refl _ _).drew⟩
 ·rintro listed a' w' i o ⟨hdf, hsz, hx, Z1, Z2, Gw, kw, Gx, kx, t1, E1, pp1, xx1, G1, m1, cc1, y0, y1, y2, y3, y4, y5, y6, y7, y8, y9, y10, y11, y12, y13, y14, y15, y16, y17, y18, y19, y20, y21, y22, hH0, hH1, hH2, ⟨sZ1, hZZ1⟩, ⟨sZ2, hZZ2⟩, hbw⟩ hz hsz0 ho hi hp
  have hi13 : i < 23 := by
   rcases Nat.lt_or_ge i 23 with q | q
   ·exact q
   ·exact jY
  rcases (by omega : i = 0 ∨ i = 1 ∨ i = 2 ∨ i = 3 ∨ i = 4 ∨ i = 5 ∨ i = 6 ∨ i = 7 ∨ i = 8 ∨ i = 9 ∨ i = 10 ∨ i = 11 ∨ i = 12 ∨ i = 13 ∨ i = 14 ∨ i = 15 ∨ i = 16 ∨ i = 17 ∨ i = 18 ∨ i = 19 ∨ i = 20 ∨ i = 21 ∨ i = 22) with rfl | rfl | rfl | rfl | rfl | rfl | rfl | rfl | rfl | rfl | rfl | rfl | rfl | rfl | rfl | rfl | rfl | rfl | rfl | rfl | rfl | rfl | rfl
  ·obtain rfl := SI ho
   exact V_ ho 85 ⟨pd hdf, ps hsz, KX hx, Z1, Z2, Gw, kw, Gx, kx, t1, E1, pp1, xx1, G1, m1, cc1, (fun _ => pS hsz), K2 y1, K2 y2, K2 y3, K2 y4, K2 y5, K2 y6, K2 y7, (kF y8 (fun q => ⟨pn q.1, (kU q.2 (fun q => q))⟩)), K2 y9, K2 y10, K2 y11, K2 y12, (kF y13 (fun q => ⟨pn q.1, (kU q.2 (fun q => q))⟩)), K2 y14, K2 y15, K2 y16, K2 y17, K2 y18, K2 y19, K2 y20, K2 y21, K2 y22, hH0, hH1, hH2, ⟨sZ1, hZZ1⟩, ⟨sZ2, hZZ2⟩, hbw⟩
  ·obtain rfl := SI ho
   have v0 := hpv hp 0 (by simp)
   have ww0 := (y0 v0)
   obtain ⟨q0', q1', q2', q3', q4', q5', q6', q7', q8', q9', q10'⟩ := HK.out w' (HB3.out.trans (hbw.mono HB3.out.size))
   exact V_ ho 86 ⟨pd hdf, ps hsz, KX hx, Z1, Z2, Gw, kw, Gx, kx, t1, E1, pp1, xx1, G1, m1, cc1, K2 y0, (fun _ => pS hsz), K2 y2, K2 y3, K2 y4, K2 y5, K2 y6, K2 y7, (kF y8 (fun q => ⟨pn q.1, (kU q.2 (fun q => q))⟩)), K2 y9, K2 y10, K2 y11, K2 y12, (kF y13 (fun q => ⟨pn q.1, (kU q.2 (fun q => q))⟩)), K2 y14, K2 y15, K2 y16, K2 y17, K2 y18, K2 y19, K2 y20, K2 y21, K2 y22, hH0, hH1, hH2, ⟨sZ1, hZZ1⟩, ⟨sZ2, hZZ2⟩, hbw⟩
  ·obtain rfl := SI ho
   have v1 := hpv hp 1 (by simp)
   have ww1 := (y1 v1)
   exact V_ ho 87 ⟨pd hdf, ps hsz, KX hx, Z1, Z2, Gw, kw, Gx, kx, t1, E1, pp1, xx1, G1, m1, cc1, K2 y0, K2 y1, (fun _ => pS hsz), K2 y3, K2 y4, K2 y5, K2 y6, K2 y7, (kF y8 (fun q => ⟨pn q.1, (kU q.2 (fun q => q))⟩)), K2 y9, K2 y10, K2 y11, K2 y12, (kF y13 (fun q => ⟨pn q.1, (kU q.2 (fun q => q))⟩)), K2 y14, K2 y15, K2 y16, K2 y17, K2 y18, K2 y19, K2 y20, K2 y21, K2 y22, hH0, hH1, hH2, ⟨sZ1, hZZ1⟩, ⟨sZ2, hZZ2⟩, hbw⟩
  ·obtain rfl := SI ho
   have v2 := hpv hp 2 (by simp)
   have ww2 := (y2 v2)
   obtain ⟨d1_0, d1_1, d1_2, d1_3, d1_4, d1_5, d1_6, d1_7, d1_8, d1_9, d1_10⟩ := HK1.out w' (HB3.out.trans (hbw.mono HB3.out.size))
   exact V_ ho 88 ⟨pd hdf, ps hsz, KX hx, Z1, Z2, Gw, kw, Gx, kx, t1, E1, pp1, xx1, G1, m1, cc1, K2 y0, K2 y1, K2 y2, (fun _ => pS hsz), K2 y4, K2 y5, K2 y6, K2 y7, (kF y8 (fun q => ⟨pn q.1, (kU q.2 (fun q => q))⟩)), K2 y9, K2 y10, K2 y11, K2 y12, (kF y13 (fun q => ⟨pn q.1, (kU q.2 (fun q => q))⟩)), K2 y14, K2 y15, K2 y16, K2 y17, K2 y18, K2 y19, K2 y20, K2 y21, K2 y22, hH0, hH1, hH2, ⟨sZ1, hZZ1⟩, ⟨sZ2, hZZ2⟩, hbw⟩
  ·obtain rfl := SI ho
   exact V_ ho 89 ⟨pd hdf, ps hsz, KX hx, Z1, Z2, Gw, kw, Gx, kx, t1, E1, pp1, xx1, G1, m1, cc1, K2 y0, K2 y1, K2 y2, K2 y3, (fun _ => pS hsz), K2 y5, K2 y6, K2 y7, (kF y8 (fun q => ⟨pn q.1, (kU q.2 (fun q => q))⟩)), K2 y9, K2 y10, K2 y11, K2 y12, (kF y13 (fun q => ⟨pn q.1, (kU q.2 (fun q => q))⟩)), K2 y14, K2 y15, K2 y16, K2 y17, K2 y18, K2 y19, K2 y20, K2 y21, K2 y22, hH0, hH1, hH2, ⟨sZ1, hZZ1⟩, ⟨sZ2, hZZ2⟩, hbw⟩
  ·obtain rfl := SI ho
   exact V_ ho 90 ⟨pd hdf, ps hsz, KX hx, Z1, Z2, Gw, kw, Gx, kx, t1, E1, pp1, xx1, G1, m1, cc1, K2 y0, K2 y1, K2 y2, K2 y3, K2 y4, (fun _ => pS hsz), K2 y6, K2 y7, (kF y8 (fun q => ⟨pn q.1, (kU q.2 (fun q => q))⟩)), K2 y9, K2 y10, K2 y11, K2 y12, (kF y13 (fun q => ⟨pn q.1, (kU q.2 (fun q => q))⟩)), K2 y14, K2 y15, K2 y16, K2 y17, K2 y18, K2 y19, K2 y20, K2 y21, K2 y22, hH0, hH1, hH2, ⟨sZ1, hZZ1⟩, ⟨sZ2, hZZ2⟩, hbw⟩
  ·obtain rfl := SI ho
   have v5 := hpv hp 5 (by simp)
   have ww5 := (y5 v5)
   obtain ⟨q0', q1', q2', q3', q4', q5', q6', q7', q8', q9', q10'⟩ := HK.out w' (HB3.out.trans (hbw.mono HB3.out.size))
   exact V_ ho 91 ⟨pd hdf, ps hsz, KX hx, Z1, Z2, Gw, kw, Gx, kx, t1, E1, pp1, xx1, G1, m1, cc1, K2 y0, K2 y1, K2 y2, K2 y3, K2 y4, K2 y5, (fun _ => pS hsz), K2 y7, (kF y8 (fun q => ⟨pn q.1, (kU q.2 (fun q => q))⟩)), K2 y9, K2 y10, K2 y11, K2 y12, (kF y13 (fun q => ⟨pn q.1, (kU q.2 (fun q => q))⟩)), K2 y14, K2 y15, K2 y16, K2 y17, K2 y18, K2 y19, K2 y20, K2 y21, K2 y22, hH0, hH1, hH2, ⟨sZ1, hZZ1⟩, ⟨sZ2, hZZ2⟩, hbw⟩
  ·obtain rfl := SI ho
   obtain ⟨e0, e1, -, -, -⟩ := zF hH2
   exact V_ ho 92 ⟨pd hdf, ps hsz, KX hx, Z1, Z2, Gw, kw, Gx, kx, t1, E1, pp1, xx1, G1, m1, cc1, K2 y0, K2 y1, K2 y2, K2 y3, K2 y4, K2 y5, K2 y6, (fun _ => pS hsz), (kF y8 (fun q => ⟨pn q.1, (kU q.2 (fun q => q))⟩)), K2 y9, K2 y10, K2 y11, K2 y12, (kF y13 (fun q => ⟨pn q.1, (kU q.2 (fun q => q))⟩)), K2 y14, K2 y15, K2 y16, K2 y17, K2 y18, K2 y19, K2 y20, K2 y21, K2 y22, hH0, hH1, hH2, ⟨sZ1, hZZ1⟩, ⟨sZ2, hZZ2⟩, hbw⟩
  ·obtain rfl := SI ho
   have v4 := hpv hp 4 (by simp)
   have ww4 := (y4 v4)
   have v6 := hpv hp 6 (by simp)
   have ww6 := (y6 v6)
   have v7 := hpv hp 7 (by simp)
   have ww7 := (y7 v7)
   refine C_ ho 93 (qZ (fun b => Ck.Cut Q w.heap.size (w.heap.size + 3) b ∧ b ≠ Z1 ∧ b ≠ Z2) l A n c h.name (Ck.mk2 3 (Ck.TT h) (Ck.UU h)) Gm mm cm w' (Ck.EAt.below (Ck.EAt.weak HE3.out (fun b hl hq => ⟨hq, Qr.wY LZ3.out hZZ1 hl hq, Qr.wY LZ3.out hZZ2 hl hq⟩)) hbw) (Ck.Ly.later (Ck.Ly.weak HO.out (fun b hl hq => ⟨hq, Qr.wY LZ3.out hZZ1 hl hq, Qr.wY LZ3.out hZZ2 hl hq⟩)) hbw) hn20) fun e u hg => ?_
   ·obtain ⟨Gw', kw', rfl, he, hb⟩ := hg
    refine ⟨.slice Gw' (n + 1) kw', rfl, ?_⟩
    have hbs := hbw.size
    have hz1 := HZ.out
    have hzb := HZB.out
    have hz3 := LZ3.out
    have hz8 := L8.out
    have hzz := hbw.size
    have hbs2 := hb.size
    exact ⟨pd hdf, ps hsz, KX hx, Z1, Z2, Gw', kw', Gx, kx, t1, E1, pp1, xx1, G1, m1, cc1, K2 y0, K2 y1, K2 y2, K2 y3, K2 y4, K2 y5, K2 y6, K2 y7, (fun _ => ⟨pS hsz, (fun _ => he)⟩), K2 y9, K2 y10, K2 y11, K2 y12, (kF y13 (fun q => ⟨pn q.1, (kU q.2 (fun q => (Ck.EAt.below q hb)))⟩)), K2 y14, K2 y15, K2 y16, K2 y17, K2 y18, K2 y19, K2 y20, K2 y21, K2 y22, (zA hb (zC hH0) hH0), (zA hb (zC hH1) hH1), (zA hb (zC hH2) hH2), ⟨(by omega), hZZ1⟩, ⟨(by omega), hZZ2⟩, hbw.trans (hb.mono hbw.size)⟩
  ·obtain rfl := SI ho
   exact V_ ho 94 ⟨pd hdf, ps hsz, KX hx, Z1, Z2, Gw, kw, Gx, kx, t1, E1, pp1, xx1, G1, m1, cc1, K2 y0, K2 y1, K2 y2, K2 y3, K2 y4, K2 y5, K2 y6, K2 y7, (kF y8 (fun q => ⟨pn q.1, (kU q.2 (fun q => q))⟩)), (fun _ => pS hsz), K2 y10, K2 y11, K2 y12, (kF y13 (fun q => ⟨pn q.1, (kU q.2 (fun q => q))⟩)), K2 y14, K2 y15, K2 y16, K2 y17, K2 y18, K2 y19, K2 y20, K2 y21, K2 y22, hH0, hH1, hH2, ⟨sZ1, hZZ1⟩, ⟨sZ2, hZZ2⟩, hbw⟩
  ·obtain rfl := SI ho
   have v9 := hpv hp 9 (by simp)
   have ww9 := (y9 v9)
   obtain ⟨q0', q1', q2', q3', q4', q5', q6', q7', q8', q9', q10'⟩ := HK.out w' (HB3.out.trans (hbw.mono HB3.out.size))
   exact V_ ho 95 ⟨pd hdf, ps hsz, KX hx, Z1, Z2, Gw, kw, Gx, kx, t1, E1, pp1, xx1, G1, m1, cc1, K2 y0, K2 y1, K2 y2, K2 y3, K2 y4, K2 y5, K2 y6, K2 y7, (kF y8 (fun q => ⟨pn q.1, (kU q.2 (fun q => q))⟩)), K2 y9, (fun _ => pS hsz), K2 y11, K2 y12, (kF y13 (fun q => ⟨pn q.1, (kU q.2 (fun q => q))⟩)), K2 y14, K2 y15, K2 y16, K2 y17, K2 y18, K2 y19, K2 y20, K2 y21, K2 y22, hH0, hH1, hH2, ⟨sZ1, hZZ1⟩, ⟨sZ2, hZZ2⟩, hbw⟩
  ·obtain rfl := SI ho
   exact V_ ho 96 ⟨pd hdf, ps hsz, KX hx, Z1, Z2, Gw, kw, Gx, kx, t1, E1, pp1, xx1, G1, m1, cc1, K2 y0, K2 y1, K2 y2, K2 y3, K2 y4, K2 y5, K2 y6, K2 y7, (kF y8 (fun q => ⟨pn q.1, (kU q.2 (fun q => q))⟩)), K2 y9, K2 y10, (fun _ => pS hsz), K2 y12, (kF y13 (fun q => ⟨pn q.1, (kU q.2 (fun q => q))⟩)), K2 y14, K2 y15, K2 y16, K2 y17, K2 y18, K2 y19, K2 y20, K2 y21, K2 y22, hH0, hH1, hH2, ⟨sZ1, hZZ1⟩, ⟨sZ2, hZZ2⟩, hbw⟩
  ·obtain rfl := SI ho
   have v11 := hpv hp 11 (by simp)
   have ww11 := (y11 v11)
   obtain ⟨q0', q1', q2', q3', q4', q5', q6', q7', q8', q9', q10'⟩ := HK.out w' (HB3.out.trans (hbw.mono HB3.out.size))
   exact V_ ho 97 ⟨pd hdf, ps hsz, KX hx, Z1, Z2, Gw, kw, Gx, kx, t1, E1, pp1, xx1, G1, m1, cc1, K2 y0, K2 y1, K2 y2, K2 y3, K2 y4, K2 y5, K2 y6, K2 y7, (kF y8 (fun q => ⟨pn q.1, (kU q.2 (fun q => q))⟩)), K2 y9, K2 y10, K2 y11, (fun _ => pS hsz), (kF y13 (fun q => ⟨pn q.1, (kU q.2 (fun q => q))⟩)), K2 y14, K2 y15, K2 y16, K2 y17, K2 y18, K2 y19, K2 y20, K2 y21, K2 y22, hH0, hH1, hH2, ⟨sZ1, hZZ1⟩, ⟨sZ2, hZZ2⟩, hbw⟩
  ·obtain rfl := SI ho
   have v8 := hpv hp 8 (by simp)
   have ww8 := (y8 v8).1
   have v10 := hpv hp 10 (by simp)
   have ww10 := (y10 v10)
   have v12 := hpv hp 12 (by simp)
   have ww12 := (y12 v12)
   refine C_ ho 98 (qZ (fun b => Ck.Cut Q w.heap.size (w.heap.size + 3) b ∧ b ≠ Z1 ∧ b ≠ Z2) (l ++ [(h.name, Ck.mk2 3 (Ck.TT h) (Ck.UU h))]) Gw (n + 1) kw h.arg (Ck.TT h) TA tn tc w' (((y8 v8).2) hi) (Ck.Ly.later (Ck.Ly.weak HT3.out (fun b hl hq => ⟨hq, Qr.wY LZ3.out hZZ1 hl hq, Qr.wY LZ3.out hZZ2 hl hq⟩)) hbw) hn21) fun e u hg => ?_
   ·obtain ⟨Gx', kx', rfl, he, hb⟩ := hg
    refine ⟨.slice Gx' (n + 1 + 1) kx', rfl, ?_⟩
    have hbs := hbw.size
    have hz1 := HZ.out
    have hzb := HZB.out
    have hz3 := LZ3.out
    have hz8 := L8.out
    have hzz := hbw.size
    have hbs2 := hb.size
    exact ⟨pd hdf, ps hsz, KX hx, Z1, Z2, Gw, kw, Gx', kx', t1, E1, pp1, xx1, G1, m1, cc1, K2 y0, K2 y1, K2 y2, K2 y3, K2 y4, K2 y5, K2 y6, K2 y7, (kF y8 (fun q => ⟨pn q.1, (fun qu => (zK qu).elim)⟩)), K2 y9, K2 y10, K2 y11, K2 y12, (fun _ => ⟨pS hsz, (fun _ => he)⟩), K2 y14, KN y15, KN y16, KN y17, KN y18, K2 y19, K2 y20, K2 y21, K2 y22, (zA hb (zC hH0) hH0), (zA hb (zC hH1) hH1), (zA hb (zC hH2) hH2), ⟨(by omega), hZZ1⟩, ⟨(by omega), hZZ2⟩, hbw.trans (hb.mono hbw.size)⟩
  ·obtain rfl := SI ho
   exact V_ ho 99 ⟨pd hdf, ps hsz, KX hx, Z1, Z2, Gw, kw, Gx, kx, t1, E1, pp1, xx1, G1, m1, cc1, K2 y0, K2 y1, K2 y2, K2 y3, K2 y4, K2 y5, K2 y6, K2 y7, (kF y8 (fun q => ⟨pn q.1, (kU q.2 (fun q => q))⟩)), K2 y9, K2 y10, K2 y11, K2 y12, (kF y13 (fun q => ⟨pn q.1, (kU q.2 (fun q => q))⟩)), (fun _ => pS hsz), K2 y15, K2 y16, K2 y17, K2 y18, K2 y19, K2 y20, K2 y21, K2 y22, hH0, hH1, hH2, ⟨sZ1, hZZ1⟩, ⟨sZ2, hZZ2⟩, hbw⟩
  ·obtain rfl := SI ho
   have v3 := hpv hp 3 (by simp)
   have ww3 := (y3 v3)
   have v13 := hpv hp 13 (by simp)
   have ww13 := (y13 v13).1
   have v14 := hpv hp 14 (by simp)
   have ww14 := (y14 v14)
   refine C_ ho 100 ((T1 (fun b => Ck.Cut Q w.heap.size (w.heap.size + 3) b ∧ b ≠ Z1 ∧ b ≠ Z2) ((l ++ [(h.name, Ck.mk2 3 (Ck.TT h) (Ck.UU h))]) ++ [(h.arg, Ck.TT h)]) Gx (n + 1 + 1) kx w' (HWB3.out.trans (hbw.mono HWB3.out.size)) (fun b hb => ⟨HQM.out b hb, Qr.wY LZ3.out hZZ1 (Nat.lt_of_lt_of_le hb HWB3.out.size) (HQM.out b hb), Qr.wY LZ3.out hZZ2 (Nat.lt_of_lt_of_le hb HWB3.out.size) (HQM.out b hb)⟩) (((y13 v13).2) hi) hch2 (by rw [List.length_append, List.length_append]; exact hb1)).mono (fun _ _ hp => hp.names)) fun e u hg => ?_
   ·obtain ⟨t1', E1', pp1', xx1', G1', m1', cc1', rfl, hgn, hl, hb⟩ := hg
    refine ⟨.tuple #[.agg #[.int .i8 t1'.1, .slice G1' m1' cc1'], .agg #[.int .i64 E1', .int .i64 pp1', .string xx1']], rfl, ?_⟩
    have hbs := hbw.size
    have hz1 := HZ.out
    have hzb := HZB.out
    have hz3 := LZ3.out
    have hz8 := L8.out
    have hzz := hbw.size
    have hbs2 := hb.size
    exact ⟨pd hdf, ps hsz, KX hx, Z1, Z2, Gw, kw, Gx, kx, t1', E1', pp1', xx1', G1', m1', cc1', K2 y0, K2 y1, K2 y2, K2 y3, K2 y4, K2 y5, K2 y6, K2 y7, (kF y8 (fun q => ⟨pn q.1, (kU q.2 (fun q => (Ck.EAt.below q hb)))⟩)), K2 y9, K2 y10, K2 y11, K2 y12, (kF y13 (fun q => ⟨pn q.1, (fun qu => (zK qu).elim)⟩)), K2 y14, (fun _ => ⟨pS hsz, (z8 v13), hgn, Ck.Ly.weak hl (fun b _ hq => qm (by omega) (by omega) (by omega) hq)⟩), KN y16, KN y17, KN y18, K2 y19, K2 y20, KN y21, KN y22, (zA hb (zC hH0) hH0), (zA hb (zC hH1) hH1), (zA hb (zC hH2) hH2), ⟨(by omega), hZZ1⟩, ⟨(by omega), hZZ2⟩, hbw.trans (hb.mono hbw.size)⟩
  ·obtain rfl := SI ho
   have v15 := hpv hp 15 (by simp)
   have ww15 := (y15 v15).1
   exact V_ ho 84 ⟨pd hdf, ps hsz, KX hx, Z1, Z2, Gw, kw, Gx, kx, t1, E1, pp1, xx1, G1, m1, cc1, K2 y0, K2 y1, K2 y2, K2 y3, K2 y4, K2 y5, K2 y6, K2 y7, (kF y8 (fun q => ⟨pn q.1, (kU q.2 (fun q => q))⟩)), K2 y9, K2 y10, K2 y11, K2 y12, (kF y13 (fun q => ⟨pn q.1, (kU q.2 (fun q => q))⟩)), K2 y14, K2 y15, (fun _ => ⟨pS hsz, (z8 ((y15 v15).2.1)), (z8 v15)⟩), K2 y17, K2 y18, K2 y19, K2 y20, K2 y21, K2 y22, hH0, hH1, hH2, ⟨sZ1, hZZ1⟩, ⟨sZ2, hZZ2⟩, hbw⟩
  ·obtain rfl := SI ho
   have v16 := hpv hp 16 (by simp)
   have ww16 := (y16 v16).1
   exact V_ ho 101 ⟨pd hdf, ps hsz, KX hx, Z1, Z2, Gw, kw, Gx, kx, t1, E1, pp1, xx1, G1, m1, cc1, K2 y0, K2 y1, K2 y2, K2 y3, K2 y4, K2 y5, K2 y6, K2 y7, (kF y8 (fun q => ⟨pn q.1, (kU q.2 (fun q => q))⟩)), K2 y9, K2 y10, K2 y11, K2 y12, (kF y13 (fun q => ⟨pn q.1, (kU q.2 (fun q => q))⟩)), K2 y14, K2 y15, K2 y16, (fun _ => ⟨pS hsz, (z8 ((y16 v16).2.1)), (z8 ((y16 v16).2.2))⟩), K2 y18, K2 y19, K2 y20, K2 y21, K2 y22, hH0, hH1, hH2, ⟨sZ1, hZZ1⟩, ⟨sZ2, hZZ2⟩, hbw⟩
  ·obtain rfl := SI ho
   have v16 := hpv hp 16 (by simp)
   have ww16 := (y16 v16).1
   exact V_ ho 102 ⟨pd hdf, ps hsz, KX hx, Z1, Z2, Gw, kw, Gx, kx, t1, E1, pp1, xx1, G1, m1, cc1, K2 y0, K2 y1, K2 y2, K2 y3, K2 y4, K2 y5, K2 y6, K2 y7, (kF y8 (fun q => ⟨pn q.1, (kU q.2 (fun q => q))⟩)), K2 y9, K2 y10, K2 y11, K2 y12, (kF y13 (fun q => ⟨pn q.1, (kU q.2 (fun q => q))⟩)), K2 y14, K2 y15, K2 y16, K2 y17, (fun _ => ⟨pS hsz, (z8 ((y16 v16).2.1)), (z8 ((y16 v16).2.2))⟩), K2 y19, K2 y20, K2 y21, K2 y22, hH0, hH1, hH2, ⟨sZ1, hZZ1⟩, ⟨sZ2, hZZ2⟩, hbw⟩
  ·obtain rfl := SI ho
   refine zN ho rfl (zU 13 rfl (v := .pointer (some ⟨w'.heap.size, 0, none⟩)) (w2 := w'.alloc (.cells #[.int .i8 0, .slice none 0 0] 25)) ?_ ?_)
   ·exact EV
   ·have hbs := hbw.size
    have hz1 := HZ.out
    have hzb := HZB.out
    have hz3 := LZ3.out
    have hz8 := L8.out
    have hzz := hbw.size
    have hsa : (w'.alloc (.cells #[.int .i8 0, .slice none 0 0] 25)).heap.size = w'.heap.size + 1 := by simp
    have hba : Below w'.heap.size w' (w'.alloc (.cells #[.int .i8 0, .slice none 0 0] 25)) := (Below.refl _ _).alloc (Nat.le_refl _) _
    have hnew := zD w' (.cells #[.int .i8 0, .slice none 0 0] 25)
    exact ⟨pd hdf, ps hsz, KX hx, w'.heap.size, Z2, Gw, kw, Gx, kx, t1, E1, pp1, xx1, G1, m1, cc1, K2 y0, K2 y1, K2 y2, K2 y3, K2 y4, K2 y5, K2 y6, K2 y7, (kF y8 (fun q => ⟨pn q.1, (kU q.2 (fun q => (Ck.EAt.below (Ck.EAt.weak q (fun b hl hq => ⟨hq.1, Nat.ne_of_lt hl, hq.2.2⟩)) hba)))⟩)), K2 y9, K2 y10, K2 y11, K2 y12, (kF y13 (fun q => ⟨pn q.1, (kU q.2 (fun q => (Ck.EAt.below (Ck.EAt.weak q (fun b hl hq => ⟨hq.1, Nat.ne_of_lt hl, hq.2.2⟩)) hba)))⟩)), K2 y14, (kF y15 (fun q => ⟨pn q.1, z8 q.2.1, q.2.2.1, (Ck.Ly.later (Ck.Ly.weak q.2.2.2 (fun b hl hq => ⟨hq.1, Nat.ne_of_lt hl, hq.2.2⟩)) hba)⟩)), K2 y16, K2 y17, K2 y18, (fun _ => ⟨pS hsz, hzz, (by omega), ⟨_, _, hnew⟩⟩), (kF y20 (fun q => ⟨pn q.1, q.2.1, (by omega), (vX q.2.2.2)⟩)), KN y21, K2 y22, (zH hH0 _), (zH hH1 _), (zH hH2 _), ⟨(by omega), .inr (by omega)⟩, ⟨(by omega), hZZ2⟩, hbw.alloc hbw.size _⟩
  ·obtain rfl := SI ho
   refine zN ho rfl (zU 14 rfl (v := .pointer (some ⟨w'.heap.size, 0, none⟩)) (w2 := w'.alloc (.cells #[.int .i64 0, .int .i64 0, .string ⟨#[]⟩] 35)) ?_ ?_)
   ·exact EV
   ·have hbs := hbw.size
    have hz1 := HZ.out
    have hzb := HZB.out
    have hz3 := LZ3.out
    have hz8 := L8.out
    have hzz := hbw.size
    have hsa : (w'.alloc (.cells #[.int .i64 0, .int .i64 0, .string ⟨#[]⟩] 35)).heap.size = w'.heap.size + 1 := by simp
    have hba : Below w'.heap.size w' (w'.alloc (.cells #[.int .i64 0, .int .i64 0, .string ⟨#[]⟩] 35)) := (Below.refl _ _).alloc (Nat.le_refl _) _
    have hnew := zD w' (.cells #[.int .i64 0, .int .i64 0, .string ⟨#[]⟩] 35)
    exact ⟨pd hdf, ps hsz, KX hx, Z1, w'.heap.size, Gw, kw, Gx, kx, t1, E1, pp1, xx1, G1, m1, cc1, K2 y0, K2 y1, K2 y2, K2 y3, K2 y4, K2 y5, K2 y6, K2 y7, (kF y8 (fun q => ⟨pn q.1, (kU q.2 (fun q => (Ck.EAt.below (Ck.EAt.weak q (fun b hl hq => ⟨hq.1, hq.2.1, Nat.ne_of_lt hl⟩)) hba)))⟩)), K2 y9, K2 y10, K2 y11, K2 y12, (kF y13 (fun q => ⟨pn q.1, (kU q.2 (fun q => (Ck.EAt.below (Ck.EAt.weak q (fun b hl hq => ⟨hq.1, hq.2.1, Nat.ne_of_lt hl⟩)) hba)))⟩)), K2 y14, (kF y15 (fun q => ⟨pn q.1, z8 q.2.1, q.2.2.1, (Ck.Ly.later (Ck.Ly.weak q.2.2.2 (fun b hl hq => ⟨hq.1, hq.2.1, Nat.ne_of_lt hl⟩)) hba)⟩)), K2 y16, K2 y17, K2 y18, (kF y19 (fun q => ⟨pn q.1, q.2.1, (by omega), (wO q.2.2.2)⟩)), (fun _ => ⟨pS hsz, hzz, (by omega), ⟨_, _, _, hnew⟩⟩), K2 y21, KN y22, (zH hH0 _), (zH hH1 _), (zH hH2 _), ⟨(by omega), hZZ1⟩, ⟨(by omega), .inr (by omega)⟩, hbw.alloc hbw.size _⟩
  ·obtain rfl := SI ho
   have v19 := hpv hp 19 (by simp)
   have ww19 := (y19 v19).1
   have v17 := hpv hp 17 (by simp)
   have ww17 := (y17 v17).1
   have hne := ((y19 v19).2.2.1)
   have hlo := ((y19 v19).2.1)
   obtain ⟨u0, u1, hbox⟩ := ((y19 v19).2.2.2)
   obtain ⟨bc0, bc1, bf0, bf1, -⟩ := zF hbox
   refine zN ho rfl (zT rfl (w2 := ((w'.setCell ⟨Z1, 0, none⟩ (.int .i8 t1.1)).setCell ⟨Z1, 1, none⟩ (.slice G1 m1 cc1))) ?_ ?_)
   ·exact EV
   ·have hsa : (((w'.setCell ⟨Z1, 0, none⟩ (.int .i8 t1.1)).setCell ⟨Z1, 1, none⟩ (.slice G1 m1 cc1))).heap.size = w'.heap.size := by simp
    have hbs := hbw.size
    have hz1 := HZ.out
    have hzb := HZB.out
    have hz3 := LZ3.out
    have hz8 := L8.out
    have hzz := hbw.size
    exact ⟨hdf, hsz, hx, Z1, Z2, Gw, kw, Gx, kx, t1, E1, pp1, xx1, G1, m1, cc1, K2 y0, K2 y1, K2 y2, K2 y3, K2 y4, K2 y5, K2 y6, K2 y7, (kF y8 (fun q => ⟨q.1, (kT ((y17 v17).2.1))⟩)), K2 y9, K2 y10, K2 y11, K2 y12, (kF y13 (fun q => ⟨q.1, (kT ((y17 v17).2.2))⟩)), K2 y14, (kF y15 (fun q => ⟨q.1, z8 q.2.1, q.2.2.1, (Ck.Ly.set2 q.2.2.2 (fun b hq => hq.2.1) _ _)⟩)), K2 y16, K2 y17, K2 y18, (kF y19 (fun q => ⟨q.1, q.2.1, q.2.2.1, (kY q.2.2.2)⟩)), (kF y20 (fun q => ⟨q.1, q.2.1, q.2.2.1, (qA q.2.2.2 (by omega))⟩)), (fun _ => ⟨(z8 ((y17 v17).2.2)), (z8 v19), zL hbox _ _⟩), K2 y22, (zM hH0 (by omega) _ _), (zM hH1 (by omega) _ _), (zM hH2 (by omega) _ _), ⟨(by omega), hZZ1⟩, ⟨(by omega), hZZ2⟩, zG hbw (by omega) _ _⟩
  ·obtain rfl := SI ho
   have v20 := hpv hp 20 (by simp)
   have ww20 := (y20 v20).1
   have v18 := hpv hp 18 (by simp)
   have ww18 := (y18 v18).1
   have hne := ((y20 v20).2.2.1)
   have hlo := ((y20 v20).2.1)
   obtain ⟨u0, u1, u2, hbox⟩ := ((y20 v20).2.2.2)
   obtain ⟨bc0, bc1, bc2, bf0, bf1, bf2, -⟩ := cells3 hbox
   refine zN ho rfl (zT rfl (w2 := (((w'.setCell ⟨Z2, 0, none⟩ (.int .i64 E1)).setCell ⟨Z2, 1, none⟩ (.int .i64 pp1)).setCell ⟨Z2, 2, none⟩ (.string xx1))) ?_ ?_)
   ·exact EV
   ·have hsa : ((((w'.setCell ⟨Z2, 0, none⟩ (.int .i64 E1)).setCell ⟨Z2, 1, none⟩ (.int .i64 pp1)).setCell ⟨Z2, 2, none⟩ (.string xx1))).heap.size = w'.heap.size := by simp
    have hbs := hbw.size
    have hz1 := HZ.out
    have hzb := HZB.out
    have hz3 := LZ3.out
    have hz8 := L8.out
    have hzz := hbw.size
    exact ⟨hdf, hsz, hx, Z1, Z2, Gw, kw, Gx, kx, t1, E1, pp1, xx1, G1, m1, cc1, K2 y0, K2 y1, K2 y2, K2 y3, K2 y4, K2 y5, K2 y6, K2 y7, (kF y8 (fun q => ⟨q.1, (kT ((y18 v18).2.1))⟩)), K2 y9, K2 y10, K2 y11, K2 y12, (kF y13 (fun q => ⟨q.1, (kT ((y18 v18).2.2))⟩)), K2 y14, (kF y15 (fun q => ⟨q.1, z8 q.2.1, q.2.2.1, (Ck.Ly.zh q.2.2.2 (fun b hq => hq.2.2) _ _ _)⟩)), K2 y16, K2 y17, K2 y18, (kF y19 (fun q => ⟨q.1, q.2.1, q.2.2.1, (qB q.2.2.2 (by omega))⟩)), (kF y20 (fun q => ⟨q.1, q.2.1, q.2.2.1, (zBP q.2.2.2)⟩)), K2 y21, (fun _ => ⟨(z8 ((y18 v18).2.2)), (z8 v20), zf hbox _ _ _⟩), (zR hH0 (by omega) _ _ _), (zR hH1 (by omega) _ _ _), (zR hH2 (by omega) _ _ _), ⟨(by omega), hZZ1⟩, ⟨(by omega), hZZ2⟩, qD hbw (by omega) _ _ _⟩
 ·rintro listed u w' t ht hu ⟨-, -, -, Z1, Z2, Gw, kw, Gx, kx, t1, E1, pp1, xx1, G1, m1, cc1, y0, y1, y2, y3, y4, y5, y6, y7, y8, y9, y10, y11, y12, y13, y14, y15, y16, y17, y18, y19, y20, y21, y22, hH0, hH1, hH2, ⟨sZ1, hZZ1⟩, ⟨sZ2, hZZ2⟩, hbw⟩ hall
  have v15 := hall 15 (by decide)
  have v19 := hall 19 (by decide)
  have v20 := hall 20 (by decide)
  have v21 := hall 21 (by decide)
  have v22 := hall 22 (by decide)
  have HBW := kt_ HB3 hbw
  have H6 := k0_ hH0
  have H7 := k0_ hH1
  have LZ := k0_ (show w.heap.size + 3 ≤ w'.heap.size from by have := zC hH1; have := HZ.out; omega)
  have H8 := k0_ hH2
  have HO := Ck.kl_ HO hbw
  have HP := k0_ ((y15 v15).2.2.1)
  have HL1 := k0_ (Ck.Ly.weak ((y15 v15).2.2.2) (Q' := Ck.Cut Q w.heap.size (w.heap.size + 3)) (fun b _ hq => hq.1))
  have eb13 := ((y19 v19).1)
  have HX1 := k0_ ((y21 v21).2.2)
  have LHX1 := k0_ ((y19 v19).2.1)
  have eb14 := ((y20 v20).1)
  have HX2 := k0_ ((y22 v22).2.2)
  have LHX2 := k0_ ((y20 v20).2.1)
  rw [hu 13 (by decide) (by decide)] at eb13
  rw [hu 14 (by decide) (by decide)] at eb14
  clear y0 y1 y2 y3 y4 y5 y6 y7 y8 y9 y10 y11 y12 y13 y14 y15 y16 y17 y18 y19 y20 y21 y22 v15 v19 v20 v21 v22 hall hu
  clear hbw hH0 hH1 hH2
  simp only [over, List.setIfInBounds_toArray, List.set_cons_succ, List.set_cons_zero, eb13, eb14] at ht
  subst ht
  clear eb13 eb14
  generalize hw : w' = w4 at *
  clear hw
  obtain ⟨e3, e4, -, -, -⟩ := zF HX1.out
  obtain ⟨e0, e1, e2, -, -, -, -⟩ := cells3 HX2.out
  have HCA := k0_ (fun (W : World) (hb : Below b1.heap.size b1 W) (hl1 : Ck.Ly (Ck.Cut Q w.heap.size (w.heap.size + 3)) W t1 G1 m1 cc1) => (show Calls Tryz.prog 33 #[.agg #[.int .i8 t1.1, .slice G1 m1 cc1], .agg #[.int .i8 h.uk, .slice UA un uc], .int .i64 qv.md] W (fun e w' => e = .returned (.bool (qv.D.ag t1 (Ck.UU h))) ∧ Below W.heap.size W w') from qv.agC t1.1 t1.2 G1 m1 cc1 h.uk h.ukids UA un uc W hl1.is (HU.out.later hb).is))
  have HCF := k0_ (fun (W : World) => zu (Ck.Cut Q w.heap.size (w.heap.size + 3)) h (⟨TA, tn, tc, UA, un, uc, some ⟨kb, ko, none⟩, 1, kc⟩ : Pl) 91 (by decide) W)
  have CFI := k0_ (fun (W : World) (hl1 : Ck.Ly (Ck.Cut Q w.heap.size (w.heap.size + 3)) W (Ck.mk2 3 (Ck.TT h) (Ck.UU h)) Gm mm cm) => jD (Ck.Cut Q w.heap.size (w.heap.size + 3)) h (⟨TA, tn, tc, UA, un, uc, some ⟨kb, ko, none⟩, 1, kc⟩ : Pl) (Ck.mk2 3 (Ck.TT h) (Ck.UU h)) Gm mm cm W hl1 HCO.out)
  by_cases hE1 : E1 = 0
  ·have hgen := (Qr.R.qh HP.out.1 HP.out.2).1 hE1
   have HOK := k0_ hgen
   subst hE1
   clear hgen
   have HRR := k0_ (HR.out.trans (show _ = (if qv.D.ag t1 (Ck.UU h) = true then Ck.lift h (.ok (Ck.mk2 3 (Ck.TT h) (Ck.UU h))) else Ck.fault h 91) from by rw [HOK.out.1]; rfl))
   obtain ⟨q0', q1', q2', q3', q4', q5', q6', q7', q8', q9', q10'⟩ := HK.out w4 HBW.out
   go_wp2_with fail
   refine (HCA.out w4 HBW.out HL1.out).mono ?_
   rintro e w5 ⟨rfl, hb⟩
   have HBW := kt_ HBW hb
   have LZ := kz_ LZ hb
   have H6 := kp_ hb H6
   have H7 := kp_ hb H7
   have H8 := kp_ hb H8
   have HO := Ck.kl_ HO hb
   clear hb e0 e1 e2 e3 e4
   clear q0' q1' q2' q3' q4' q5' q6' q7' q8' q9' q10'
   cases hag : qv.D.ag t1 (Ck.UU h) with
   | false =>
    rw [hag, if_neg (by decide)] at HRR
    have LZ4 := k0_ (show w.heap.size + 3 ≤ w5.heap.size from LZ.out)
    obtain ⟨q0', q1', q2', q3', q4', q5', q6', q7', q8', q9', q10'⟩ := HK.out w5 HBW.out
    go_wp2_with fail
    refine (HCF.out w5).mono ?_
    rintro e w6 hp
    obtain ⟨G, m, cg, rfl, hl, hb⟩ := hp.flt
    have HBW := kt_ HBW hb
    have LZ := kz_ LZ hb
    have H6 := kp_ hb H6
    have H7 := kp_ hb H7
    have HZL := k0_ (hl.weak (fun b _ hq => Qr.zq LZ4.out hq))
    clear hb hl hp
    clear q0' q1' q2' q3' q4' q5' q6' q7' q8' q9' q10'
    have HRS := k0_ (zQ H6.out H7.out (show w.heap.size + 1 ≠ w.heap.size + 1 + 1 by omega) (hfrom.out _ HBW.out) (by omega) (by omega) (.int .i8 0) (.slice G m cg) (.int .i64 91) (.int .i64 h.pos) (.string ⟨#[]⟩))
    have HLF := k0_ ((HZL.out.set2 (X := w.heap.size + 1) (fun b hq => hq.ne (by omega) (by omega)) (.int .i8 0) (.slice G m cg)).zh (X := w.heap.size + 1 + 1) (fun b hq => hq.ne (by omega) (by omega)) (.int .i64 91) (.int .i64 h.pos) (.string ⟨#[]⟩))
    obtain ⟨z0, z1, z2, z3, zl⟩ := zF H6.out
    obtain ⟨y0, y1, y2, y3, y4, y5, yl⟩ := cells3 H7.out
    go_wp2_with fail
    clear z0 z1 z2 z3 zl y0 y1 y2 y3 y4 y5 yl
    generalize (((((w6.setCell ⟨w.heap.size + 1, 0, none⟩ (.int .i8 0)).setCell ⟨w.heap.size + 1, 1, none⟩ (.slice G m cg)).setCell ⟨w.heap.size + 1 + 1, 0, none⟩ (.int .i64 91)).setCell ⟨w.heap.size + 1 + 1, 1, none⟩ (.int .i64 h.pos)).setCell ⟨w.heap.size + 1 + 1, 2, none⟩ (.string ⟨#[]⟩)) = wz at *
    exact zG4
   | true =>
    rw [hag, if_pos rfl] at HRR
    obtain ⟨q0', q1', q2', q3', q4', q5', q6', q7', q8', q9', q10'⟩ := HK.out w5 HBW.out
    obtain ⟨e0, e1, -, -, -⟩ := zF H8.out
    have LZ5 := k0_ (show w.heap.size + 3 ≤ w5.heap.size from LZ.out)
    go_wp2_with fail
    refine (CFI.out w5 HO.out).mono ?_
    rintro e w6 hp
    obtain ⟨t2, E2, pp2, xx2, G2, m2, cc2, rfl, hgn, hl, hb⟩ := hp.names
    have HGG := k0_ hgn
    have HBW := kt_ HBW hb
    have LZ := kz_ LZ hb
    have H6 := kp_ hb H6
    have H7 := kp_ hb H7
    have HLY := k0_ (hl.weak (fun b _ hq => Qr.zq LZ5.out hq))
    clear hl hb hgn hp e0 e1
    clear q0' q1' q2' q3' q4' q5' q6' q7' q8' q9' q10'
    have HRS := k0_ (zQ H6.out H7.out (show w.heap.size + 1 ≠ w.heap.size + 1 + 1 by omega) (hfrom.out _ HBW.out) (by omega) (by omega) (.int .i8 t2.1) (.slice G2 m2 cc2) (.int .i64 E2) (.int .i64 pp2) (.string xx2))
    have HLF := k0_ ((HLY.out.set2 (X := w.heap.size + 1) (fun b hq => hq.ne (by omega) (by omega)) (.int .i8 t2.1) (.slice G2 m2 cc2)).zh (X := w.heap.size + 1 + 1) (fun b hq => hq.ne (by omega) (by omega)) (.int .i64 E2) (.int .i64 pp2) (.string xx2))
    obtain ⟨z0, z1, z2, z3, zl⟩ := zF H6.out
    obtain ⟨y0, y1, y2, y3, y4, y5, yl⟩ := cells3 H7.out
    go_wp2_with fail
    clear z0 z1 z2 z3 zl y0 y1 y2 y3 y4 y5 yl
    generalize (((((w6.setCell ⟨w.heap.size + 1, 0, none⟩ (.int .i8 t2.1)).setCell ⟨w.heap.size + 1, 1, none⟩ (.slice G2 m2 cc2)).setCell ⟨w.heap.size + 1 + 1, 0, none⟩ (.int .i64 E2)).setCell ⟨w.heap.size + 1 + 1, 1, none⟩ (.int .i64 pp2)).setCell ⟨w.heap.size + 1 + 1, 2, none⟩ (.string xx2)) = wz at *
    obtain ⟨k0, k1', -, -, -⟩ := zF HRS.out.1
    obtain ⟨k2', k3', k4', -, -, -, -⟩ := cells3 HRS.out.2.1
    refine bodyPost_ret (v := .tuple #[.agg #[.int .i8 t2.1, .slice G2 m2 cc2], .agg #[.int .i64 E2, .int .i64 pp2, .string xx2]]) (by simp [results, Tryz.results15, go_sem, k0, k1', k2', k3', k4']) rfl ?_
    exact HRR.out ▸ Qr.Post.mk HGG.out.1 HGG.out.2 (HLF.out.weak (fun b _ hq => hq.out (by omega))) HRS.out.2.2
  ·have hgen := (Qr.R.qh HP.out.1 HP.out.2).2 hE1
   have HBD := k0_ hgen
   have hne : (E1 != 0) = true := by simpa using hE1
   have HNE := k0_ hE1
   clear hgen hE1 e3 e4
   have HRR := k0_ (HR.out.trans (show _ = Ck.R.bad E1 pp1 xx1 from by rw [HBD.out.1]; rfl))
   have nz1 : w.heap.size + 1 ≠ Z2 := by have := LHX2.out; have := LZ3.out; omega
   have nz2 : w.heap.size + 1 + 1 ≠ Z2 := by have := LHX2.out; have := LZ3.out; omega
   go_upto_region 21 with fail
   have HZL := k0_ (Ck.Ly.zero (Ck.Cut Q w.heap.size (w.heap.size + 3)) w4)
   have HRS := k0_ (zQ H6.out H7.out (show w.heap.size + 1 ≠ w.heap.size + 1 + 1 by omega) (hfrom.out _ HBW.out) (by omega) (by omega) (.int .i8 0) (.slice none 0 0) (.int .i64 E1) (.int .i64 pp1) (.string xx1))
   have HLF := k0_ ((HZL.out.set2 (X := w.heap.size + 1) (fun b hq => hq.ne (by omega) (by omega)) (.int .i8 0) (.slice none 0 0)).zh (X := w.heap.size + 1 + 1) (fun b hq => hq.ne (by omega) (by omega)) (.int .i64 E1) (.int .i64 pp1) (.string xx1))
   obtain ⟨z0, z1, z2, z3, zl⟩ := zF H6.out
   obtain ⟨y0, y1, y2, y3, y4, y5, yl⟩ := cells3 H7.out
   go_wp2_with fail
   go_region
   have HRS := k0_ (show (((((w4.setCell ⟨w.heap.size + 1, 0, none⟩ (.int .i8 0)).setCell ⟨w.heap.size + 1, 1, none⟩ (.slice none 0 0)).setCell ⟨w.heap.size + 1 + 1, 0, none⟩ (.int .i64 E1)).setCell ⟨w.heap.size + 1 + 1, 1, none⟩ (.int .i64 pp1)).setCell ⟨w.heap.size + 1 + 1, 2, none⟩ (.string xx1)).drew.heap[w.heap.size + 1]? = _ ∧ (((((w4.setCell ⟨w.heap.size + 1, 0, none⟩ (.int .i8 0)).setCell ⟨w.heap.size + 1, 1, none⟩ (.slice none 0 0)).setCell ⟨w.heap.size + 1 + 1, 0, none⟩ (.int .i64 E1)).setCell ⟨w.heap.size + 1 + 1, 1, none⟩ (.int .i64 pp1)).setCell ⟨w.heap.size + 1 + 1, 2, none⟩ (.string xx1)).drew.heap[w.heap.size + 1 + 1]? = _ ∧ Below w.heap.size w (((((w4.setCell ⟨w.heap.size + 1, 0, none⟩ (.int .i8 0)).setCell ⟨w.heap.size + 1, 1, none⟩ (.slice none 0 0)).setCell ⟨w.heap.size + 1 + 1, 0, none⟩ (.int .i64 E1)).setCell ⟨w.heap.size + 1 + 1, 1, none⟩ (.int .i64 pp1)).setCell ⟨w.heap.size + 1 + 1, 2, none⟩ (.string xx1)).drew from ⟨HRS.out.1, HRS.out.2.1, HRS.out.2.2.drew⟩)
   have HLF := k0_ (HLF.out.later (Below.refl _ _).drew)
   clear z0 z1 z2 z3 zl y0 y1 y2 y3 y4 y5 yl
   generalize (((((w4.setCell ⟨w.heap.size + 1, 0, none⟩ (.int .i8 0)).setCell ⟨w.heap.size + 1, 1, none⟩ (.slice none 0 0)).setCell ⟨w.heap.size + 1 + 1, 0, none⟩ (.int .i64 E1)).setCell ⟨w.heap.size + 1 + 1, 1, none⟩ (.int .i64 pp1)).setCell ⟨w.heap.size + 1 + 1, 2, none⟩ (.string xx1)).drew = wz at *
   exact zFD
end Go.Proofs.YtkdnnleanoompabGreatDoor
