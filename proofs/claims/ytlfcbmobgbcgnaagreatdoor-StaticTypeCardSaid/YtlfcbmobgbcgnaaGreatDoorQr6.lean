import Derived.Test.YtlfcbmobgbcgnaaGreatDoorDd2
import Derived.Test.YtlfcbmobgbcgnaaGreatDoorM27
import Derived.Test.YtlfcbmobgbcgnaaGreatDoorM26
namespace Go.Proofs.YtlfcbmobgbcgnaaGreatDoor
open Go.RowKit
set_option maxHeartbeats 8000000 in
set_option maxRecDepth 100000 in
theorem zAJ (qv : Qr.Qv) (K : Nat) (Q : Nat → Prop) (h h1 : Hd) (k1 : Tm) (q1 : Pl) (TA UA : Option Addr) (tn tc un uc kb ko kc : Nat) (l : Ck.Env) (A : Option Addr) (n c : Nat) (wb w : World)
  (hT : Ty.Is wb h.tk h.tkids TA tn tc) (hU : Ty.Is wb h.uk h.ukids UA un uc) (g1 : Ck.KidAt wb kb (ko) h1 q1) (hwb : Below wb.heap.size wb w) (hQ : ∀ b, b < wb.heap.size → Q b) (hE : Ck.EAt Q w l A n c) (hl : l.length < 20000)
  (hk : h.kind = 4) (hokT : Ty.okT (Ck.TT h).1 (Ck.TT h).2 = true)  (hch : ∀ x ∈ l, Ck.chk x.2 = 0) (hcT : Ck.chk (Ck.TT h) = 0) (hb1 : l.length + 1 + 2 * (Tm.nodes k1 + 1) ≤ 20000) (T1 : Qr.TellsOf qv K wb h1 k1 q1) :
  Calls Tryz.prog 16 #[.agg (tD_ h TA tn tc UA un uc (some ⟨kb, ko, none⟩) 1 kc), .slice A n c, .int .i64 qv.md] w (Qr.Post Q w (Ck.bnd (Cg.ty qv.D K h1 k1 (l ++ [(h.name, Ck.TT h)])) fun b => Ck.lift h (.ok (Ck.mk2 3 (Ck.TT h) b)))) := by
 try unfold tD_
 obtain ⟨R, hR⟩ : ∃ R, R = (Ck.bnd (Cg.ty qv.D K h1 k1 (l ++ [(h.name, Ck.TT h)])) fun b => Ck.lift h (.ok (Ck.mk2 3 (Ck.TT h) b))) := ⟨_, rfl⟩
 rw [← hR]
 have HR := k0_ hR
 obtain ⟨b1, w1, hw1, hb0, g0, hb1, h6, h7, hzb, hz⟩ := Qr.three w (.cells (tD_ h TA tn tc UA un uc (some ⟨kb, ko, none⟩) 1 kc) 28)
 have HW1 := k0_ hw1
 have HB0 := k0_ hb0
 have H0 := k0_ g0
 have HBW := k0_ hb1
 have H6 := k0_ h6
 have H7 := k0_ h7
 have HZB := k0_ hzb
 have HZ := k0_ hz
 have LZ := k0_ (Nat.le_of_eq hz.symm)
 have HWB := k0_ (hwb.trans (hb0.mono hwb.size))
 have hfrom := k0_ (fun (W : World) (hb : Below b1.heap.size b1 W) => hb0.trans (hb.mono hb0.size))
 have HQM : Hid (∀ b, b < wb.heap.size → Ck.Cut Q w.heap.size (w.heap.size + 3) b) := k0_ (fun b hb => .inl ⟨hQ b hb, Nat.lt_of_lt_of_le hb hwb.size⟩)
 have HE : Hid (Ck.EAt (Ck.Cut Q w.heap.size (w.heap.size + 3)) b1 l A n c) := k0_ ((hE.weak (fun b hb hq => .inl ⟨hq, hb⟩)).below hb0)
 have HT : Hid (Ck.Ly (Ck.Cut Q w.heap.size (w.heap.size + 3)) b1 (Ck.TT h) TA tn tc) := k0_ (((Ck.Ly.of (a := Ck.TT h) hT).weak (fun b hb _ => HQM.out b hb)).later HWB.out)
 have HU : Hid (Ck.Ly (Ck.Cut Q w.heap.size (w.heap.size + 3)) b1 (Ck.UU h) UA un uc) := k0_ (((Ck.Ly.of (a := Ck.UU h) hU).weak (fun b hb _ => HQM.out b hb)).later HWB.out)
 have HN := k0_ hE.n_eq
 have HLL := k0_ hl
 have HK := k0_ (fun (W : World) (hb : Below b1.heap.size b1 W) => Qr.jD (zA hb (zC H0.out) H0.out))
 have HK1 := k0_ (fun (W : World) (hb : Below b1.heap.size b1 W) => Qr.xz g1 HWB.out hb)
 clear hR hb0 g0 hb1 h6 h7 hzb hz hwb hE hT hU hl g1
 have HKK := k0_ hk
 clear hk
 have hn20 : n + 1 ≤ 20000 := by have := HN.out; have := HLL.out; omega
 have hch2 : ∀ x ∈ l ++ [(h.name, Ck.TT h)], Ck.chk x.2 = 0 := fun x hx => by rcases List.mem_append.1 hx with q | q; exact hch x q; rw [List.mem_singleton.1 q]; exact hcT
 have HCT := k0_ hokT
 clear hch hcT hokT
 go_enter Tryz.func16, Tryz.ntmps16
 go_upto_region 1 with fail
 rw [← HW1.out]
 clear hw1 HW1
 obtain ⟨q0', q1', q2', q3', q4', q5', q6', q7', q8', q9', q10'⟩ := HK.out w1 HBW.out
 rw [HKK.out] at q0'
 go_upto_region 13 with fail
 clear q0' q1' q2' q3' q4' q5' q6' q7' q8' q9' q10'
 refine zJ 178 rfl [50, 51, 52, 53, 54, 55, 56, 57, 58, 59, 60, 61, 49, 62, 63, 10, 11] (by kernel_rfl) (by kernel_rfl) (by kernel_rfl) (fun listed a' w' => a'.defers = [] ∧ a'.tmps.size = 178 ∧ (a'.eval (.tmp 1) = .slice A n c ∧ a'.eval (.tmp 2) = .int .i64 qv.md ∧ a'.eval (.tmp 3) = .pointer (some ⟨w.heap.size, 0, none⟩) ∧ a'.eval (.tmp 6) = .pointer (some ⟨w.heap.size + 1, 0, none⟩) ∧ a'.eval (.tmp 7) = .pointer (some ⟨w.heap.size + 1 + 1, 0, none⟩)) ∧ ∃ Z1 Z2 Gw kw t1 E1 pp1 xx1 G1 m1 cc1, (listed[0]? = some true → (a'.eval (.tmp 50) = .pointer (some ⟨w.heap.size, 10, none⟩))) ∧ (listed[1]? = some true → (a'.eval (.tmp 51) = .slice (some ⟨kb, ko, none⟩) 1 kc)) ∧ (listed[2]? = some true → (a'.eval (.tmp 52) = .pointer (some ⟨kb, ko, none⟩))) ∧ (listed[3]? = some true → (a'.eval (.tmp 53) = .agg (tC_ h1 q1))) ∧ (listed[4]? = some true → (a'.eval (.tmp 54) = .slice A n c)) ∧ (listed[5]? = some true → (a'.eval (.tmp 55) = .pointer (some ⟨w.heap.size, 1, none⟩))) ∧ (listed[6]? = some true → (a'.eval (.tmp 56) = .string h.name)) ∧ (listed[7]? = some true → (a'.eval (.tmp 57) = .pointer (some ⟨w.heap.size, 4, none⟩))) ∧ (listed[8]? = some true → (a'.eval (.tmp 58) = .agg #[.int .i8 h.tk, .slice TA tn tc])) ∧ (listed[9]? = some true → (a'.eval (.tmp 59) = .slice Gw (n + 1) kw) ∧ ((listed[11]? = some false → Ck.EAt (fun b => Ck.Cut Q w.heap.size (w.heap.size + 3) b ∧ b ≠ Z1 ∧ b ≠ Z2) w' (l ++ [(h.name, Ck.TT h)]) Gw (n + 1) kw))) ∧ (listed[10]? = some true → (a'.eval (.tmp 60) = .int .i64 qv.md)) ∧ (listed[11]? = some true → (a'.eval (.tmp 61) = .tuple #[.agg #[.int .i8 t1.1, .slice G1 m1 cc1], .agg #[.int .i64 E1, .int .i64 pp1, .string xx1]]) ∧ (Qr.Nz (Cg.ty qv.D K h1 k1 (l ++ [(h.name, Ck.TT h)])) ∧ Qr.tyO (Cg.ty qv.D K h1 k1 (l ++ [(h.name, Ck.TT h)])) = t1 ∧ Qr.eO (Cg.ty qv.D K h1 k1 (l ++ [(h.name, Ck.TT h)])) = E1 ∧ Qr.pO (Cg.ty qv.D K h1 k1 (l ++ [(h.name, Ck.TT h)])) = pp1 ∧ Qr.xO (Cg.ty qv.D K h1 k1 (l ++ [(h.name, Ck.TT h)])) = xx1) ∧ (Ck.Ly (fun b => Ck.Cut Q w.heap.size (w.heap.size + 3) b ∧ b ≠ Z1 ∧ b ≠ Z2) w' t1 G1 m1 cc1)) ∧ (listed[12]? = some true → (a'.eval (.tmp 49) = .tuple #[.agg #[.int .i8 t1.1, .slice G1 m1 cc1], .agg #[.int .i64 E1, .int .i64 pp1, .string xx1]]) ∧ (listed[11]? = some true)) ∧ (listed[13]? = some true → (a'.eval (.tmp 62) = .agg #[.int .i8 t1.1, .slice G1 m1 cc1]) ∧ (listed[11]? = some true)) ∧ (listed[14]? = some true → (a'.eval (.tmp 63) = .agg #[.int .i64 E1, .int .i64 pp1, .string xx1]) ∧ (listed[11]? = some true)) ∧ (listed[15]? = some true → (a'.eval (.tmp 10) = .pointer (some ⟨Z1, 0, none⟩)) ∧ (w.heap.size + 3 ≤ Z1) ∧ (Z1 ≠ Z2) ∧ (∃ u0 u1, w'.heap[Z1]? = some (.cells #[u0, u1] 25 (0, 0)))) ∧ (listed[16]? = some true → (a'.eval (.tmp 11) = .pointer (some ⟨Z2, 0, none⟩)) ∧ (w.heap.size + 3 ≤ Z2) ∧ (Z1 ≠ Z2) ∧ (∃ u0 u1 u2, w'.heap[Z2]? = some (.cells #[u0, u1, u2] 35 (0, 0)))) ∧ (listed[17]? = some true → (listed[11]? = some true) ∧ (listed[15]? = some true) ∧ (w'.heap[Z1]? = some (.cells #[.int .i8 t1.1, .slice G1 m1 cc1] 25 (0, 0)))) ∧ (listed[18]? = some true → (listed[11]? = some true) ∧ (listed[16]? = some true) ∧ (w'.heap[Z2]? = some (.cells #[.int .i64 E1, .int .i64 pp1, .string xx1] 35 (0, 0)))) ∧ (w'.heap[w.heap.size + 1]? = some (.cells #[.int .i8 0, .slice none 0 0] 25 (0, 0))) ∧ (w'.heap[w.heap.size + 1 + 1]? = some (.cells #[.int .i64 0, .int .i64 0, .string ⟨#[]⟩] 35 (0, 0))) ∧ (Z1 < w'.heap.size ∧ (Z1 = w.heap.size + 2 ∨ w.heap.size + 3 ≤ Z1)) ∧ (Z2 < w'.heap.size ∧ (Z2 = w.heap.size + 2 ∨ w.heap.size + 3 ≤ Z2)) ∧ Below b1.heap.size b1 w') (fun _ _ _ h => h.1) ?_ ?_ ?_
 ·have hz0 := HZ.out
  refine ⟨rfl, rfl, ⟨rfl, rfl, rfl, rfl, rfl⟩, (w.heap.size + 2), (w.heap.size + 2), none, 0, (0, .nil), 0, 0, ⟨#[]⟩, none, 0, 0, FH, FH, FH, FH, FH, FH, FH, FH, FH, FH, FH, FH, FH, FH, FH, FH, FH, FH, FH, H6.out, H7.out, ⟨(show w.heap.size + 2 < w1.heap.size from by have := LZ.out; omega), .inl rfl⟩, ⟨(show w.heap.size + 2 < w1.heap.size from by have := LZ.out; omega), .inl rfl⟩, HBW.out.drew⟩
 ·rintro listed a' w' i o ⟨hdf, hsz, hx, Z1, Z2, Gw, kw, t1, E1, pp1, xx1, G1, m1, cc1, y0, y1, y2, y3, y4, y5, y6, y7, y8, y9, y10, y11, y12, y13, y14, y15, y16, y17, y18, hH0, hH1, ⟨sZ1, hZZ1⟩, ⟨sZ2, hZZ2⟩, hbw⟩ hz hsz0 ho hi hp
  have hi13 : i < 19 := by
   rcases Nat.lt_or_ge i 19 with q | q
   ·exact q
   ·exact jl
  rcases (by omega : i = 0 ∨ i = 1 ∨ i = 2 ∨ i = 3 ∨ i = 4 ∨ i = 5 ∨ i = 6 ∨ i = 7 ∨ i = 8 ∨ i = 9 ∨ i = 10 ∨ i = 11 ∨ i = 12 ∨ i = 13 ∨ i = 14 ∨ i = 15 ∨ i = 16 ∨ i = 17 ∨ i = 18) with rfl | rfl | rfl | rfl | rfl | rfl | rfl | rfl | rfl | rfl | rfl | rfl | rfl | rfl | rfl | rfl | rfl | rfl | rfl
  ·obtain rfl := SI ho
   exact V_ ho 50 ⟨pd hdf, ps hsz, KX hx, Z1, Z2, Gw, kw, t1, E1, pp1, xx1, G1, m1, cc1, (fun _ => pS hsz), K2 y1, K2 y2, K2 y3, K2 y4, K2 y5, K2 y6, K2 y7, K2 y8, (kF y9 (fun q => ⟨pn q.1, (kU q.2 (fun q => q))⟩)), K2 y10, K2 y11, K2 y12, K2 y13, K2 y14, K2 y15, K2 y16, K2 y17, K2 y18, hH0, hH1, ⟨sZ1, hZZ1⟩, ⟨sZ2, hZZ2⟩, hbw⟩
  ·obtain rfl := SI ho
   have v0 := hpv hp 0 (by simp)
   have ww0 := (y0 v0)
   obtain ⟨q0', q1', q2', q3', q4', q5', q6', q7', q8', q9', q10'⟩ := HK.out w' hbw
   exact V_ ho 51 ⟨pd hdf, ps hsz, KX hx, Z1, Z2, Gw, kw, t1, E1, pp1, xx1, G1, m1, cc1, K2 y0, (fun _ => pS hsz), K2 y2, K2 y3, K2 y4, K2 y5, K2 y6, K2 y7, K2 y8, (kF y9 (fun q => ⟨pn q.1, (kU q.2 (fun q => q))⟩)), K2 y10, K2 y11, K2 y12, K2 y13, K2 y14, K2 y15, K2 y16, K2 y17, K2 y18, hH0, hH1, ⟨sZ1, hZZ1⟩, ⟨sZ2, hZZ2⟩, hbw⟩
  ·obtain rfl := SI ho
   have v1 := hpv hp 1 (by simp)
   have ww1 := (y1 v1)
   exact V_ ho 52 ⟨pd hdf, ps hsz, KX hx, Z1, Z2, Gw, kw, t1, E1, pp1, xx1, G1, m1, cc1, K2 y0, K2 y1, (fun _ => pS hsz), K2 y3, K2 y4, K2 y5, K2 y6, K2 y7, K2 y8, (kF y9 (fun q => ⟨pn q.1, (kU q.2 (fun q => q))⟩)), K2 y10, K2 y11, K2 y12, K2 y13, K2 y14, K2 y15, K2 y16, K2 y17, K2 y18, hH0, hH1, ⟨sZ1, hZZ1⟩, ⟨sZ2, hZZ2⟩, hbw⟩
  ·obtain rfl := SI ho
   have v2 := hpv hp 2 (by simp)
   have ww2 := (y2 v2)
   obtain ⟨d1_0, d1_1, d1_2, d1_3, d1_4, d1_5, d1_6, d1_7, d1_8, d1_9, d1_10⟩ := HK1.out w' hbw
   exact V_ ho 53 ⟨pd hdf, ps hsz, KX hx, Z1, Z2, Gw, kw, t1, E1, pp1, xx1, G1, m1, cc1, K2 y0, K2 y1, K2 y2, (fun _ => pS hsz), K2 y4, K2 y5, K2 y6, K2 y7, K2 y8, (kF y9 (fun q => ⟨pn q.1, (kU q.2 (fun q => q))⟩)), K2 y10, K2 y11, K2 y12, K2 y13, K2 y14, K2 y15, K2 y16, K2 y17, K2 y18, hH0, hH1, ⟨sZ1, hZZ1⟩, ⟨sZ2, hZZ2⟩, hbw⟩
  ·obtain rfl := SI ho
   exact V_ ho 54 ⟨pd hdf, ps hsz, KX hx, Z1, Z2, Gw, kw, t1, E1, pp1, xx1, G1, m1, cc1, K2 y0, K2 y1, K2 y2, K2 y3, (fun _ => pS hsz), K2 y5, K2 y6, K2 y7, K2 y8, (kF y9 (fun q => ⟨pn q.1, (kU q.2 (fun q => q))⟩)), K2 y10, K2 y11, K2 y12, K2 y13, K2 y14, K2 y15, K2 y16, K2 y17, K2 y18, hH0, hH1, ⟨sZ1, hZZ1⟩, ⟨sZ2, hZZ2⟩, hbw⟩
  ·obtain rfl := SI ho
   exact V_ ho 55 ⟨pd hdf, ps hsz, KX hx, Z1, Z2, Gw, kw, t1, E1, pp1, xx1, G1, m1, cc1, K2 y0, K2 y1, K2 y2, K2 y3, K2 y4, (fun _ => pS hsz), K2 y6, K2 y7, K2 y8, (kF y9 (fun q => ⟨pn q.1, (kU q.2 (fun q => q))⟩)), K2 y10, K2 y11, K2 y12, K2 y13, K2 y14, K2 y15, K2 y16, K2 y17, K2 y18, hH0, hH1, ⟨sZ1, hZZ1⟩, ⟨sZ2, hZZ2⟩, hbw⟩
  ·obtain rfl := SI ho
   have v5 := hpv hp 5 (by simp)
   have ww5 := (y5 v5)
   obtain ⟨q0', q1', q2', q3', q4', q5', q6', q7', q8', q9', q10'⟩ := HK.out w' hbw
   exact V_ ho 56 ⟨pd hdf, ps hsz, KX hx, Z1, Z2, Gw, kw, t1, E1, pp1, xx1, G1, m1, cc1, K2 y0, K2 y1, K2 y2, K2 y3, K2 y4, K2 y5, (fun _ => pS hsz), K2 y7, K2 y8, (kF y9 (fun q => ⟨pn q.1, (kU q.2 (fun q => q))⟩)), K2 y10, K2 y11, K2 y12, K2 y13, K2 y14, K2 y15, K2 y16, K2 y17, K2 y18, hH0, hH1, ⟨sZ1, hZZ1⟩, ⟨sZ2, hZZ2⟩, hbw⟩
  ·obtain rfl := SI ho
   exact V_ ho 57 ⟨pd hdf, ps hsz, KX hx, Z1, Z2, Gw, kw, t1, E1, pp1, xx1, G1, m1, cc1, K2 y0, K2 y1, K2 y2, K2 y3, K2 y4, K2 y5, K2 y6, (fun _ => pS hsz), K2 y8, (kF y9 (fun q => ⟨pn q.1, (kU q.2 (fun q => q))⟩)), K2 y10, K2 y11, K2 y12, K2 y13, K2 y14, K2 y15, K2 y16, K2 y17, K2 y18, hH0, hH1, ⟨sZ1, hZZ1⟩, ⟨sZ2, hZZ2⟩, hbw⟩
  ·obtain rfl := SI ho
   have v7 := hpv hp 7 (by simp)
   have ww7 := (y7 v7)
   obtain ⟨q0', q1', q2', q3', q4', q5', q6', q7', q8', q9', q10'⟩ := HK.out w' hbw
   exact V_ ho 58 ⟨pd hdf, ps hsz, KX hx, Z1, Z2, Gw, kw, t1, E1, pp1, xx1, G1, m1, cc1, K2 y0, K2 y1, K2 y2, K2 y3, K2 y4, K2 y5, K2 y6, K2 y7, (fun _ => pS hsz), (kF y9 (fun q => ⟨pn q.1, (kU q.2 (fun q => q))⟩)), K2 y10, K2 y11, K2 y12, K2 y13, K2 y14, K2 y15, K2 y16, K2 y17, K2 y18, hH0, hH1, ⟨sZ1, hZZ1⟩, ⟨sZ2, hZZ2⟩, hbw⟩
  ·obtain rfl := SI ho
   have v4 := hpv hp 4 (by simp)
   have ww4 := (y4 v4)
   have v6 := hpv hp 6 (by simp)
   have ww6 := (y6 v6)
   have v8 := hpv hp 8 (by simp)
   have ww8 := (y8 v8)
   refine C_ ho 59 (qZ (fun b => Ck.Cut Q w.heap.size (w.heap.size + 3) b ∧ b ≠ Z1 ∧ b ≠ Z2) l A n c h.name (Ck.TT h) TA tn tc w' (Ck.EAt.below (Ck.EAt.weak HE.out (fun b hl hq => ⟨hq, Qr.zne HZB.out hZZ1 hl hq, Qr.zne HZB.out hZZ2 hl hq⟩)) hbw) (Ck.Ly.later (Ck.Ly.weak HT.out (fun b hl hq => ⟨hq, Qr.zne HZB.out hZZ1 hl hq, Qr.zne HZB.out hZZ2 hl hq⟩)) hbw) hn20) fun e u hg => ?_
   ·obtain ⟨Gw', kw', rfl, he, hb⟩ := hg
    refine ⟨.slice Gw' (n + 1) kw', rfl, ?_⟩
    have hbs := hbw.size
    have hz1 := HZ.out
    have hzb := HZB.out
    have hzz : w.heap.size + 3 ≤ w'.heap.size := by have := zC hH1; omega
    have hbs2 := hb.size
    exact ⟨pd hdf, ps hsz, KX hx, Z1, Z2, Gw', kw', t1, E1, pp1, xx1, G1, m1, cc1, K2 y0, K2 y1, K2 y2, K2 y3, K2 y4, K2 y5, K2 y6, K2 y7, K2 y8, (fun _ => ⟨pS hsz, (fun _ => he)⟩), K2 y10, K2 y11, K2 y12, K2 y13, K2 y14, K2 y15, K2 y16, K2 y17, K2 y18, (zA hb (zC hH0) hH0), (zA hb (zC hH1) hH1), ⟨(by omega), hZZ1⟩, ⟨(by omega), hZZ2⟩, hbw.trans (hb.mono hbw.size)⟩
  ·obtain rfl := SI ho
   exact V_ ho 60 ⟨pd hdf, ps hsz, KX hx, Z1, Z2, Gw, kw, t1, E1, pp1, xx1, G1, m1, cc1, K2 y0, K2 y1, K2 y2, K2 y3, K2 y4, K2 y5, K2 y6, K2 y7, K2 y8, (kF y9 (fun q => ⟨pn q.1, (kU q.2 (fun q => q))⟩)), (fun _ => pS hsz), K2 y11, K2 y12, K2 y13, K2 y14, K2 y15, K2 y16, K2 y17, K2 y18, hH0, hH1, ⟨sZ1, hZZ1⟩, ⟨sZ2, hZZ2⟩, hbw⟩
  ·obtain rfl := SI ho
   have v3 := hpv hp 3 (by simp)
   have ww3 := (y3 v3)
   have v9 := hpv hp 9 (by simp)
   have ww9 := (y9 v9).1
   have v10 := hpv hp 10 (by simp)
   have ww10 := (y10 v10)
   refine C_ ho 61 ((T1 (fun b => Ck.Cut Q w.heap.size (w.heap.size + 3) b ∧ b ≠ Z1 ∧ b ≠ Z2) (l ++ [(h.name, Ck.TT h)]) Gw (n + 1) kw w' (HWB.out.trans (hbw.mono HWB.out.size)) (fun b hb => ⟨HQM.out b hb, Qr.zne HZB.out hZZ1 (Nat.lt_of_lt_of_le hb HWB.out.size) (HQM.out b hb), Qr.zne HZB.out hZZ2 (Nat.lt_of_lt_of_le hb HWB.out.size) (HQM.out b hb)⟩) (((y9 v9).2) hi) hch2 (by rw [List.length_append]; exact hb1)).mono (fun _ _ hp => hp.names)) fun e u hg => ?_
   ·obtain ⟨t1', E1', pp1', xx1', G1', m1', cc1', rfl, hgn, hl, hb⟩ := hg
    refine ⟨.tuple #[.agg #[.int .i8 t1'.1, .slice G1' m1' cc1'], .agg #[.int .i64 E1', .int .i64 pp1', .string xx1']], rfl, ?_⟩
    have hbs := hbw.size
    have hz1 := HZ.out
    have hzb := HZB.out
    have hzz : w.heap.size + 3 ≤ w'.heap.size := by have := zC hH1; omega
    have hbs2 := hb.size
    exact ⟨pd hdf, ps hsz, KX hx, Z1, Z2, Gw, kw, t1', E1', pp1', xx1', G1', m1', cc1', K2 y0, K2 y1, K2 y2, K2 y3, K2 y4, K2 y5, K2 y6, K2 y7, K2 y8, (kF y9 (fun q => ⟨pn q.1, (fun qu => (zN qu).elim)⟩)), K2 y10, (fun _ => ⟨pS hsz, hgn, Ck.Ly.weak hl (fun b _ hq => qj (by omega) (by omega) (by omega) hq)⟩), KN y12, KN y13, KN y14, K2 y15, K2 y16, KN y17, KN y18, (zA hb (zC hH0) hH0), (zA hb (zC hH1) hH1), ⟨(by omega), hZZ1⟩, ⟨(by omega), hZZ2⟩, hbw.trans (hb.mono hbw.size)⟩
  ·obtain rfl := SI ho
   have v11 := hpv hp 11 (by simp)
   have ww11 := (y11 v11).1
   exact V_ ho 49 ⟨pd hdf, ps hsz, KX hx, Z1, Z2, Gw, kw, t1, E1, pp1, xx1, G1, m1, cc1, K2 y0, K2 y1, K2 y2, K2 y3, K2 y4, K2 y5, K2 y6, K2 y7, K2 y8, (kF y9 (fun q => ⟨pn q.1, (kU q.2 (fun q => q))⟩)), K2 y10, K2 y11, (fun _ => ⟨pS hsz, (z8 v11)⟩), K2 y13, K2 y14, K2 y15, K2 y16, K2 y17, K2 y18, hH0, hH1, ⟨sZ1, hZZ1⟩, ⟨sZ2, hZZ2⟩, hbw⟩
  ·obtain rfl := SI ho
   have v12 := hpv hp 12 (by simp)
   have ww12 := (y12 v12).1
   exact V_ ho 62 ⟨pd hdf, ps hsz, KX hx, Z1, Z2, Gw, kw, t1, E1, pp1, xx1, G1, m1, cc1, K2 y0, K2 y1, K2 y2, K2 y3, K2 y4, K2 y5, K2 y6, K2 y7, K2 y8, (kF y9 (fun q => ⟨pn q.1, (kU q.2 (fun q => q))⟩)), K2 y10, K2 y11, K2 y12, (fun _ => ⟨pS hsz, (z8 ((y12 v12).2))⟩), K2 y14, K2 y15, K2 y16, K2 y17, K2 y18, hH0, hH1, ⟨sZ1, hZZ1⟩, ⟨sZ2, hZZ2⟩, hbw⟩
  ·obtain rfl := SI ho
   have v12 := hpv hp 12 (by simp)
   have ww12 := (y12 v12).1
   exact V_ ho 63 ⟨pd hdf, ps hsz, KX hx, Z1, Z2, Gw, kw, t1, E1, pp1, xx1, G1, m1, cc1, K2 y0, K2 y1, K2 y2, K2 y3, K2 y4, K2 y5, K2 y6, K2 y7, K2 y8, (kF y9 (fun q => ⟨pn q.1, (kU q.2 (fun q => q))⟩)), K2 y10, K2 y11, K2 y12, K2 y13, (fun _ => ⟨pS hsz, (z8 ((y12 v12).2))⟩), K2 y15, K2 y16, K2 y17, K2 y18, hH0, hH1, ⟨sZ1, hZZ1⟩, ⟨sZ2, hZZ2⟩, hbw⟩
  ·obtain rfl := SI ho
   refine zL ho rfl (zU 10 rfl (v := .pointer (some ⟨w'.heap.size, 0, none⟩)) (w2 := w'.alloc (.cells #[.int .i8 0, .slice none 0 0] 25)) ?_ ?_)
   ·exact EV
   ·have hbs := hbw.size
    have hz1 := HZ.out
    have hzb := HZB.out
    have hzz : w.heap.size + 3 ≤ w'.heap.size := by have := zC hH1; omega
    have hsa : (w'.alloc (.cells #[.int .i8 0, .slice none 0 0] 25)).heap.size = w'.heap.size + 1 := by simp
    have hba : Below w'.heap.size w' (w'.alloc (.cells #[.int .i8 0, .slice none 0 0] 25)) := (Below.refl _ _).alloc (Nat.le_refl _) _
    have hnew := zD w' (.cells #[.int .i8 0, .slice none 0 0] 25)
    exact ⟨pd hdf, ps hsz, KX hx, w'.heap.size, Z2, Gw, kw, t1, E1, pp1, xx1, G1, m1, cc1, K2 y0, K2 y1, K2 y2, K2 y3, K2 y4, K2 y5, K2 y6, K2 y7, K2 y8, (kF y9 (fun q => ⟨pn q.1, (kU q.2 (fun q => (Ck.EAt.below (Ck.EAt.weak q (fun b hl hq => ⟨hq.1, Nat.ne_of_lt hl, hq.2.2⟩)) hba)))⟩)), K2 y10, (kF y11 (fun q => ⟨pn q.1, q.2.1, (Ck.Ly.later (Ck.Ly.weak q.2.2 (fun b hl hq => ⟨hq.1, Nat.ne_of_lt hl, hq.2.2⟩)) hba)⟩)), K2 y12, K2 y13, K2 y14, (fun _ => ⟨pS hsz, hzz, (by omega), ⟨_, _, hnew⟩⟩), (kF y16 (fun q => ⟨pn q.1, q.2.1, (by omega), (vT q.2.2.2)⟩)), KN y17, K2 y18, (zH hH0 _), (zH hH1 _), ⟨(by omega), .inr (by omega)⟩, ⟨(by omega), hZZ2⟩, hbw.alloc hbw.size _⟩
  ·obtain rfl := SI ho
   refine zL ho rfl (zU 11 rfl (v := .pointer (some ⟨w'.heap.size, 0, none⟩)) (w2 := w'.alloc (.cells #[.int .i64 0, .int .i64 0, .string ⟨#[]⟩] 35)) ?_ ?_)
   ·exact EV
   ·have hbs := hbw.size
    have hz1 := HZ.out
    have hzb := HZB.out
    have hzz : w.heap.size + 3 ≤ w'.heap.size := by have := zC hH1; omega
    have hsa : (w'.alloc (.cells #[.int .i64 0, .int .i64 0, .string ⟨#[]⟩] 35)).heap.size = w'.heap.size + 1 := by simp
    have hba : Below w'.heap.size w' (w'.alloc (.cells #[.int .i64 0, .int .i64 0, .string ⟨#[]⟩] 35)) := (Below.refl _ _).alloc (Nat.le_refl _) _
    have hnew := zD w' (.cells #[.int .i64 0, .int .i64 0, .string ⟨#[]⟩] 35)
    exact ⟨pd hdf, ps hsz, KX hx, Z1, w'.heap.size, Gw, kw, t1, E1, pp1, xx1, G1, m1, cc1, K2 y0, K2 y1, K2 y2, K2 y3, K2 y4, K2 y5, K2 y6, K2 y7, K2 y8, (kF y9 (fun q => ⟨pn q.1, (kU q.2 (fun q => (Ck.EAt.below (Ck.EAt.weak q (fun b hl hq => ⟨hq.1, hq.2.1, Nat.ne_of_lt hl⟩)) hba)))⟩)), K2 y10, (kF y11 (fun q => ⟨pn q.1, q.2.1, (Ck.Ly.later (Ck.Ly.weak q.2.2 (fun b hl hq => ⟨hq.1, hq.2.1, Nat.ne_of_lt hl⟩)) hba)⟩)), K2 y12, K2 y13, K2 y14, (kF y15 (fun q => ⟨pn q.1, q.2.1, (by omega), (wF q.2.2.2)⟩)), (fun _ => ⟨pS hsz, hzz, (by omega), ⟨_, _, _, hnew⟩⟩), K2 y17, KN y18, (zH hH0 _), (zH hH1 _), ⟨(by omega), hZZ1⟩, ⟨(by omega), .inr (by omega)⟩, hbw.alloc hbw.size _⟩
  ·obtain rfl := SI ho
   have v15 := hpv hp 15 (by simp)
   have ww15 := (y15 v15).1
   have v13 := hpv hp 13 (by simp)
   have ww13 := (y13 v13).1
   have hne := ((y15 v15).2.2.1)
   have hlo := ((y15 v15).2.1)
   obtain ⟨u0, u1, hbox⟩ := ((y15 v15).2.2.2)
   obtain ⟨bc0, bc1, bf0, bf1, -⟩ := zF hbox
   refine zL ho rfl (zR rfl (w2 := ((w'.setCell ⟨Z1, 0, none⟩ (.int .i8 t1.1)).setCell ⟨Z1, 1, none⟩ (.slice G1 m1 cc1))) ?_ ?_)
   ·exact EV
   ·have hsa : (((w'.setCell ⟨Z1, 0, none⟩ (.int .i8 t1.1)).setCell ⟨Z1, 1, none⟩ (.slice G1 m1 cc1))).heap.size = w'.heap.size := by simp
    have hbs := hbw.size
    have hz1 := HZ.out
    have hzb := HZB.out
    have hzz : w.heap.size + 3 ≤ w'.heap.size := by have := zC hH1; omega
    exact ⟨hdf, hsz, hx, Z1, Z2, Gw, kw, t1, E1, pp1, xx1, G1, m1, cc1, K2 y0, K2 y1, K2 y2, K2 y3, K2 y4, K2 y5, K2 y6, K2 y7, K2 y8, (kF y9 (fun q => ⟨q.1, (kT ((y13 v13).2))⟩)), K2 y10, (kF y11 (fun q => ⟨q.1, q.2.1, (Ck.Ly.set2 q.2.2 (fun b hq => hq.2.1) _ _)⟩)), K2 y12, K2 y13, K2 y14, (kF y15 (fun q => ⟨q.1, q.2.1, q.2.2.1, (kL q.2.2.2)⟩)), (kF y16 (fun q => ⟨q.1, q.2.1, q.2.2.1, (qA q.2.2.2 (by omega))⟩)), (fun _ => ⟨(z8 ((y13 v13).2)), (z8 v15), zM hbox _ _⟩), K2 y18, (zK hH0 (by omega) _ _), (zK hH1 (by omega) _ _), ⟨(by omega), hZZ1⟩, ⟨(by omega), hZZ2⟩, zG hbw (by omega) _ _⟩
  ·obtain rfl := SI ho
   have v16 := hpv hp 16 (by simp)
   have ww16 := (y16 v16).1
   have v14 := hpv hp 14 (by simp)
   have ww14 := (y14 v14).1
   have hne := ((y16 v16).2.2.1)
   have hlo := ((y16 v16).2.1)
   obtain ⟨u0, u1, u2, hbox⟩ := ((y16 v16).2.2.2)
   obtain ⟨bc0, bc1, bc2, bf0, bf1, bf2, -⟩ := cells3 hbox
   refine zL ho rfl (zR rfl (w2 := (((w'.setCell ⟨Z2, 0, none⟩ (.int .i64 E1)).setCell ⟨Z2, 1, none⟩ (.int .i64 pp1)).setCell ⟨Z2, 2, none⟩ (.string xx1))) ?_ ?_)
   ·exact EV
   ·have hsa : ((((w'.setCell ⟨Z2, 0, none⟩ (.int .i64 E1)).setCell ⟨Z2, 1, none⟩ (.int .i64 pp1)).setCell ⟨Z2, 2, none⟩ (.string xx1))).heap.size = w'.heap.size := by simp
    have hbs := hbw.size
    have hz1 := HZ.out
    have hzb := HZB.out
    have hzz : w.heap.size + 3 ≤ w'.heap.size := by have := zC hH1; omega
    exact ⟨hdf, hsz, hx, Z1, Z2, Gw, kw, t1, E1, pp1, xx1, G1, m1, cc1, K2 y0, K2 y1, K2 y2, K2 y3, K2 y4, K2 y5, K2 y6, K2 y7, K2 y8, (kF y9 (fun q => ⟨q.1, (kT ((y14 v14).2))⟩)), K2 y10, (kF y11 (fun q => ⟨q.1, q.2.1, (Ck.Ly.zk q.2.2 (fun b hq => hq.2.2) _ _ _)⟩)), K2 y12, K2 y13, K2 y14, (kF y15 (fun q => ⟨q.1, q.2.1, q.2.2.1, (qB q.2.2.2 (by omega))⟩)), (kF y16 (fun q => ⟨q.1, q.2.1, q.2.2.1, (zBB q.2.2.2)⟩)), K2 y17, (fun _ => ⟨(z8 ((y14 v14).2)), (z8 v16), zf hbox _ _ _⟩), (zP hH0 (by omega) _ _ _), (zP hH1 (by omega) _ _ _), ⟨(by omega), hZZ1⟩, ⟨(by omega), hZZ2⟩, qE hbw (by omega) _ _ _⟩
 ·rintro listed u w' t ht hu ⟨-, -, -, Z1, Z2, Gw, kw, t1, E1, pp1, xx1, G1, m1, cc1, y0, y1, y2, y3, y4, y5, y6, y7, y8, y9, y10, y11, y12, y13, y14, y15, y16, y17, y18, hH0, hH1, ⟨sZ1, hZZ1⟩, ⟨sZ2, hZZ2⟩, hbw⟩ hall
  have v11 := hall 11 (by decide)
  have v15 := hall 15 (by decide)
  have v16 := hall 16 (by decide)
  have v17 := hall 17 (by decide)
  have v18 := hall 18 (by decide)
  have HBW := k0_ (hbw)
  have H6 := k0_ hH0
  have H7 := k0_ hH1
  have LZ := k0_ (show w.heap.size + 3 ≤ w'.heap.size from by have := zC hH1; have := HZ.out; omega)
  have HP := k0_ ((y11 v11).2.1)
  have HL1 := k0_ (Ck.Ly.weak ((y11 v11).2.2) (Q' := Ck.Cut Q w.heap.size (w.heap.size + 3)) (fun b _ hq => hq.1))
  have eb10 := ((y15 v15).1)
  have HX1 := k0_ ((y17 v17).2.2)
  have LHX1 := k0_ ((y15 v15).2.1)
  have eb11 := ((y16 v16).1)
  have HX2 := k0_ ((y18 v18).2.2)
  have LHX2 := k0_ ((y16 v16).2.1)
  rw [hu 10 (by decide) (by decide)] at eb10
  rw [hu 11 (by decide) (by decide)] at eb11
  clear y0 y1 y2 y3 y4 y5 y6 y7 y8 y9 y10 y11 y12 y13 y14 y15 y16 y17 y18 v11 v15 v16 v17 v18 hall hu
  clear hbw hH0 hH1
  simp only [over, List.setIfInBounds_toArray, List.set_cons_succ, List.set_cons_zero, eb10, eb11] at ht
  subst ht
  clear eb10 eb11
  generalize hw : w' = w2 at *
  clear hw
  obtain ⟨e0, e1, e2, -, -, -, -⟩ := cells3 HX2.out
  by_cases hE1 : E1 = 0
  ·have hgen := (Qr.R.qg HP.out.1 HP.out.2).1 hE1
   have HOK := k0_ hgen
   subst hE1
   clear hgen
   have hok1 := (Ty.zn (Cg.jY HOK.out.1)).1
   have HRR := k0_ (HR.out.trans (show _ = Ck.lift h (.ok (Ck.mk2 3 (Ck.TT h) t1)) from by rw [HOK.out.1]; rfl))
   have CM := k0_ (fun (W : World) (hb : Below b1.heap.size b1 W) (hl1 : Ck.Ly (Ck.Cut Q w.heap.size (w.heap.size + 3)) W t1 G1 m1 cc1) => jq (Ck.Cut Q w.heap.size (w.heap.size + 3)) 3 (by decide) (Ck.TT h) TA tn tc t1 G1 m1 cc1 W (HT.out.later hb) hl1)
   have CFI := k0_ (fun (G : Option Addr) (m cc : Nat) (W : World) (hl1 : Ck.Ly (Ck.Cut Q w.heap.size (w.heap.size + 3)) W (Ck.mk2 3 (Ck.TT h) t1) G m cc) => jA (Ck.Cut Q w.heap.size (w.heap.size + 3)) h (⟨TA, tn, tc, UA, un, uc, some ⟨kb, ko, none⟩, 1, kc⟩ : Pl) (Ck.mk2 3 (Ck.TT h) t1) G m cc W hl1 (Qr.xh (by decide) HCT.out hok1))
   go_upto_region 16 with fail
   clear e0 e1 e2
   refine zJ 178 rfl [69, 70, 71, 72, 73, 74, 75, 76] (by kernel_rfl) (by kernel_rfl) (by kernel_rfl) (fun listed a' w' => a'.defers = [] ∧ a'.tmps.size = 178 ∧ (a'.eval (.tmp 1) = .slice A n c ∧ a'.eval (.tmp 2) = .int .i64 qv.md ∧ a'.eval (.tmp 3) = .pointer (some ⟨w.heap.size, 0, none⟩) ∧ a'.eval (.tmp 6) = .pointer (some ⟨w.heap.size + 1, 0, none⟩) ∧ a'.eval (.tmp 7) = .pointer (some ⟨w.heap.size + 1 + 1, 0, none⟩) ∧ a'.eval (.tmp 10) = .pointer (some ⟨Z1, 0, none⟩) ∧ a'.eval (.tmp 11) = .pointer (some ⟨Z2, 0, none⟩)) ∧ ∃ Gm mm cm t2 E2 pp2 xx2 G2 m2 cc2, (listed[0]? = some true → (a'.eval (.tmp 69) = .pointer (some ⟨w.heap.size, 4, none⟩))) ∧ (listed[1]? = some true → (a'.eval (.tmp 70) = .agg #[.int .i8 h.tk, .slice TA tn tc])) ∧ (listed[2]? = some true → (a'.eval (.tmp 71) = .agg #[.int .i8 t1.1, .slice G1 m1 cc1])) ∧ (listed[3]? = some true → (a'.eval (.tmp 72) = .agg #[.int .i8 3, .slice Gm mm cm]) ∧ (Ck.Ly (Ck.Cut Q w.heap.size (w.heap.size + 3)) w' (Ck.mk2 3 (Ck.TT h) t1) Gm mm cm)) ∧ (listed[4]? = some true → (a'.eval (.tmp 73) = .agg (tD_ h TA tn tc UA un uc (some ⟨kb, ko, none⟩) 1 kc))) ∧ (listed[5]? = some true → (a'.eval (.tmp 74) = .tuple #[.agg #[.int .i8 t2.1, .slice G2 m2 cc2], .agg #[.int .i64 E2, .int .i64 pp2, .string xx2]]) ∧ (Qr.Nz (Ck.lift h (.ok (Ck.mk2 3 (Ck.TT h) t1))) ∧ Qr.tyO (Ck.lift h (.ok (Ck.mk2 3 (Ck.TT h) t1))) = t2 ∧ Qr.eO (Ck.lift h (.ok (Ck.mk2 3 (Ck.TT h) t1))) = E2 ∧ Qr.pO (Ck.lift h (.ok (Ck.mk2 3 (Ck.TT h) t1))) = pp2 ∧ Qr.xO (Ck.lift h (.ok (Ck.mk2 3 (Ck.TT h) t1))) = xx2) ∧ (Ck.Ly (Ck.Cut Q w.heap.size (w.heap.size + 3)) w' t2 G2 m2 cc2)) ∧ (listed[6]? = some true → (a'.eval (.tmp 75) = .agg #[.int .i8 t2.1, .slice G2 m2 cc2]) ∧ (listed[5]? = some true)) ∧ (listed[7]? = some true → (a'.eval (.tmp 76) = .agg #[.int .i64 E2, .int .i64 pp2, .string xx2]) ∧ (listed[5]? = some true)) ∧ (listed[8]? = some true → (listed[5]? = some true) ∧ (w'.heap[w.heap.size + 1]? = some (.cells #[.int .i8 t2.1, .slice G2 m2 cc2] 25 (0, 0)))) ∧ (listed[9]? = some true → (listed[5]? = some true) ∧ (w'.heap[w.heap.size + 1 + 1]? = some (.cells #[.int .i64 E2, .int .i64 pp2, .string xx2] 35 (0, 0)))) ∧ (∃ u0 u1, w'.heap[w.heap.size + 1]? = some (.cells #[u0, u1] 25 (0, 0))) ∧ (∃ u0 u1 u2, w'.heap[w.heap.size + 1 + 1]? = some (.cells #[u0, u1, u2] 35 (0, 0))) ∧ (w'.heap[Z1]? = some (.cells #[.int .i8 t1.1, .slice G1 m1 cc1] 25 (0, 0))) ∧ (Ck.Ly (Ck.Cut Q w.heap.size (w.heap.size + 3)) w' t1 G1 m1 cc1) ∧ Below b1.heap.size b1 w') (fun _ _ _ h => h.1) ?_ ?_ ?_
   ·have hz0 := HZ.out
    refine ⟨rfl, rfl, ⟨rfl, rfl, rfl, rfl, rfl, rfl, rfl⟩, none, 0, 0, (0, .nil), 0, 0, ⟨#[]⟩, none, 0, 0, FH, FH, FH, FH, FH, FH, FH, FH, FH, FH, ⟨_, _, H6.out⟩, ⟨_, _, _, H7.out⟩, HX1.out, HL1.out.later (Below.refl _ _).drew, HBW.out.drew⟩
   ·rintro listed a' w' i o ⟨hdf, hsz, hx, Gm, mm, cm, t2, E2, pp2, xx2, G2, m2, cc2, y0, y1, y2, y3, y4, y5, y6, y7, y8, y9, hB0, hB1, hH0, hH1, hbw⟩ hz hsz0 ho hi hp
    have hi13 : i < 10 := by
     rcases Nat.lt_or_ge i 10 with q | q
     ·exact q
     ·exact jl
    rcases (by omega : i = 0 ∨ i = 1 ∨ i = 2 ∨ i = 3 ∨ i = 4 ∨ i = 5 ∨ i = 6 ∨ i = 7 ∨ i = 8 ∨ i = 9) with rfl | rfl | rfl | rfl | rfl | rfl | rfl | rfl | rfl | rfl
    ·obtain rfl := SI ho
     exact V_ ho 69 ⟨pd hdf, ps hsz, KX hx, Gm, mm, cm, t2, E2, pp2, xx2, G2, m2, cc2, (fun _ => pS hsz), K2 y1, K2 y2, K2 y3, K2 y4, K2 y5, K2 y6, K2 y7, K2 y8, K2 y9, hB0, hB1, hH0, hH1, hbw⟩
    ·obtain rfl := SI ho
     have v0 := hpv hp 0 (by simp)
     have ww0 := (y0 v0)
     obtain ⟨q0', q1', q2', q3', q4', q5', q6', q7', q8', q9', q10'⟩ := HK.out w' hbw
     exact V_ ho 70 ⟨pd hdf, ps hsz, KX hx, Gm, mm, cm, t2, E2, pp2, xx2, G2, m2, cc2, K2 y0, (fun _ => pS hsz), K2 y2, K2 y3, K2 y4, K2 y5, K2 y6, K2 y7, K2 y8, K2 y9, hB0, hB1, hH0, hH1, hbw⟩
    ·obtain rfl := SI ho
     obtain ⟨e0, e1, -, -, -⟩ := zF hH0
     exact V_ ho 71 ⟨pd hdf, ps hsz, KX hx, Gm, mm, cm, t2, E2, pp2, xx2, G2, m2, cc2, K2 y0, K2 y1, (fun _ => pS hsz), K2 y3, K2 y4, K2 y5, K2 y6, K2 y7, K2 y8, K2 y9, hB0, hB1, hH0, hH1, hbw⟩
    ·obtain rfl := SI ho
     have v1 := hpv hp 1 (by simp)
     have ww1 := (y1 v1)
     have v2 := hpv hp 2 (by simp)
     have ww2 := (y2 v2)
     refine C_ ho 72 (CM.out w' hbw hH1) fun e u hg => ?_
     ·obtain ⟨Gm', mm', cm', rfl, hl, hb⟩ := hg
      refine ⟨.agg #[.int .i8 3, .slice Gm' mm' cm'], rfl, ?_⟩
      have hbs := hbw.size
      have hz1 := HZ.out
      have hzb := HZB.out
      have hzz : w.heap.size + 3 ≤ w'.heap.size := by obtain ⟨_, _, _, q⟩ := hB1; have := zC q; omega
      have hlx := LHX1.out
      have hbs2 := hb.size
      exact ⟨pd hdf, ps hsz, KX hx, Gm', mm', cm', t2, E2, pp2, xx2, G2, m2, cc2, K2 y0, K2 y1, K2 y2, (fun _ => ⟨pS hsz, Ck.Ly.weak hl (fun b _ hq => Qr.zq hzz hq)⟩), K2 y4, K2 y5, K2 y6, K2 y7, K2 y8, K2 y9, (qJ hb hB0), (zu hb hB1), (zA hb (zC hH0) hH0), (Ck.Ly.later hH1 hb), hbw.trans (hb.mono hbw.size)⟩
    ·obtain rfl := SI ho
     obtain ⟨q0', q1', q2', q3', q4', q5', q6', q7', q8', q9', q10'⟩ := HK.out w' hbw
     exact V_ ho 73 ⟨pd hdf, ps hsz, KX hx, Gm, mm, cm, t2, E2, pp2, xx2, G2, m2, cc2, K2 y0, K2 y1, K2 y2, K2 y3, (fun _ => pS hsz), K2 y5, K2 y6, K2 y7, K2 y8, K2 y9, hB0, hB1, hH0, hH1, hbw⟩
    ·obtain rfl := SI ho
     have v3 := hpv hp 3 (by simp)
     have ww3 := (y3 v3).1
     have v4 := hpv hp 4 (by simp)
     have ww4 := (y4 v4)
     refine C_ ho 74 ((CFI.out Gm mm cm w' ((y3 v3).2)).mono (fun _ _ hp => hp.names)) fun e u hg => ?_
     ·obtain ⟨t2', E2', pp2', xx2', G2', m2', cc2', rfl, hgn, hl, hb⟩ := hg
      refine ⟨.tuple #[.agg #[.int .i8 t2'.1, .slice G2' m2' cc2'], .agg #[.int .i64 E2', .int .i64 pp2', .string xx2']], rfl, ?_⟩
      have hbs := hbw.size
      have hz1 := HZ.out
      have hzb := HZB.out
      have hzz : w.heap.size + 3 ≤ w'.heap.size := by obtain ⟨_, _, _, q⟩ := hB1; have := zC q; omega
      have hlx := LHX1.out
      have hbs2 := hb.size
      exact ⟨pd hdf, ps hsz, KX hx, Gm, mm, cm, t2', E2', pp2', xx2', G2', m2', cc2', K2 y0, K2 y1, K2 y2, K2 y3, K2 y4, (fun _ => ⟨pS hsz, hgn, Ck.Ly.weak hl (fun b _ hq => Qr.zq hzz hq)⟩), KN y6, KN y7, KN y8, KN y9, (qJ hb hB0), (zu hb hB1), (zA hb (zC hH0) hH0), (Ck.Ly.later hH1 hb), hbw.trans (hb.mono hbw.size)⟩
    ·obtain rfl := SI ho
     have v5 := hpv hp 5 (by simp)
     have ww5 := (y5 v5).1
     exact V_ ho 75 ⟨pd hdf, ps hsz, KX hx, Gm, mm, cm, t2, E2, pp2, xx2, G2, m2, cc2, K2 y0, K2 y1, K2 y2, K2 y3, K2 y4, K2 y5, (fun _ => ⟨pS hsz, (z8 v5)⟩), K2 y7, K2 y8, K2 y9, hB0, hB1, hH0, hH1, hbw⟩
    ·obtain rfl := SI ho
     have v5 := hpv hp 5 (by simp)
     have ww5 := (y5 v5).1
     exact V_ ho 76 ⟨pd hdf, ps hsz, KX hx, Gm, mm, cm, t2, E2, pp2, xx2, G2, m2, cc2, K2 y0, K2 y1, K2 y2, K2 y3, K2 y4, K2 y5, K2 y6, (fun _ => ⟨pS hsz, (z8 v5)⟩), K2 y8, K2 y9, hB0, hB1, hH0, hH1, hbw⟩
    ·obtain rfl := SI ho
     have v6 := hpv hp 6 (by simp)
     have ww6 := (y6 v6).1
     obtain ⟨u0, u1, hbox⟩ := id hB0
     obtain ⟨bc0, bc1, bf0, bf1, -⟩ := zF hbox
     refine zL ho rfl (zR rfl (w2 := ((w'.setCell ⟨w.heap.size + 1, 0, none⟩ (.int .i8 t2.1)).setCell ⟨w.heap.size + 1, 1, none⟩ (.slice G2 m2 cc2))) ?_ ?_)
     ·exact EV
     ·have hsa : (((w'.setCell ⟨w.heap.size + 1, 0, none⟩ (.int .i8 t2.1)).setCell ⟨w.heap.size + 1, 1, none⟩ (.slice G2 m2 cc2))).heap.size = w'.heap.size := by simp
      have hbs := hbw.size
      have hz1 := HZ.out
      have hzb := HZB.out
      have hzz : w.heap.size + 3 ≤ w'.heap.size := by obtain ⟨_, _, _, q⟩ := hB1; have := zC q; omega
      have hlx := LHX1.out
      exact ⟨hdf, hsz, hx, Gm, mm, cm, t2, E2, pp2, xx2, G2, m2, cc2, K2 y0, K2 y1, K2 y2, K2 y3, K2 y4, K2 y5, K2 y6, K2 y7, (fun _ => ⟨(z8 ((y6 v6).2)), zM hbox _ _⟩), K2 y9, ⟨_, _, zM hbox _ _⟩, (qA hB1 (by omega)), (zK hH0 (by omega) _ _), (Ck.Ly.set2 hH1 (fun b hq => hq.ne (by omega) (by omega)) _ _), zG hbw (by omega) _ _⟩
    ·obtain rfl := SI ho
     have v7 := hpv hp 7 (by simp)
     have ww7 := (y7 v7).1
     obtain ⟨u0, u1, u2, hbox⟩ := id hB1
     obtain ⟨bc0, bc1, bc2, bf0, bf1, bf2, -⟩ := cells3 hbox
     refine zL ho rfl (zR rfl (w2 := (((w'.setCell ⟨w.heap.size + 1 + 1, 0, none⟩ (.int .i64 E2)).setCell ⟨w.heap.size + 1 + 1, 1, none⟩ (.int .i64 pp2)).setCell ⟨w.heap.size + 1 + 1, 2, none⟩ (.string xx2))) ?_ ?_)
     ·exact EV
     ·have hsa : ((((w'.setCell ⟨w.heap.size + 1 + 1, 0, none⟩ (.int .i64 E2)).setCell ⟨w.heap.size + 1 + 1, 1, none⟩ (.int .i64 pp2)).setCell ⟨w.heap.size + 1 + 1, 2, none⟩ (.string xx2))).heap.size = w'.heap.size := by simp
      have hbs := hbw.size
      have hz1 := HZ.out
      have hzb := HZB.out
      have hzz : w.heap.size + 3 ≤ w'.heap.size := by obtain ⟨_, _, _, q⟩ := hB1; have := zC q; omega
      have hlx := LHX1.out
      exact ⟨hdf, hsz, hx, Gm, mm, cm, t2, E2, pp2, xx2, G2, m2, cc2, K2 y0, K2 y1, K2 y2, K2 y3, K2 y4, K2 y5, K2 y6, K2 y7, K2 y8, (fun _ => ⟨(z8 ((y7 v7).2)), zf hbox _ _ _⟩), (qB hB0 (by omega)), ⟨_, _, _, zf hbox _ _ _⟩, (zP hH0 (by omega) _ _ _), (Ck.Ly.zk hH1 (fun b hq => hq.ne (by omega) (by omega)) _ _ _), qE hbw (by omega) _ _ _⟩
   ·rintro listed u w' t ht hu ⟨-, -, -, Gm, mm, cm, t2, E2, pp2, xx2, G2, m2, cc2, y0, y1, y2, y3, y4, y5, y6, y7, y8, y9, hB0, hB1, hH0, hH1, hbw⟩ hall
    have v5 := hall 5 (by decide)
    have v8 := hall 8 (by decide)
    have v9 := hall 9 (by decide)
    have HBX := k0_ (hfrom.out w' hbw)
    have hx := ((y8 v8).2)
    have hy := ((y9 v9).2)
    have hgn := ((y5 v5).2.1)
    have hl := ((y5 v5).2.2)
    clear y0 y1 y2 y3 y4 y5 y6 y7 y8 y9 v5 v8 v9 hall hu
    exact zFn
  ·have hgen := (Qr.R.qg HP.out.1 HP.out.2).2 hE1
   have HBD := k0_ hgen
   have hne : (E1 != 0) = true := by simpa using hE1
   have HNE := k0_ hE1
   clear hgen hE1
   have HRR := k0_ (HR.out.trans (show _ = Ck.R.bad E1 pp1 xx1 from by rw [HBD.out.1]; rfl))
   go_upto_region 15 with fail
   have HZL := k0_ (Ck.Ly.zero (Ck.Cut Q w.heap.size (w.heap.size + 3)) w2)
   have HRS := k0_ (zQ H6.out H7.out (show w.heap.size + 1 ≠ w.heap.size + 1 + 1 by omega) (hfrom.out _ HBW.out) (by omega) (by omega) (.int .i8 0) (.slice none 0 0) (.int .i64 E1) (.int .i64 pp1) (.string xx1))
   have HLF := k0_ ((HZL.out.set2 (X := w.heap.size + 1) (fun b hq => hq.ne (by omega) (by omega)) (.int .i8 0) (.slice none 0 0)).zk (X := w.heap.size + 1 + 1) (fun b hq => hq.ne (by omega) (by omega)) (.int .i64 E1) (.int .i64 pp1) (.string xx1))
   obtain ⟨z0, z1, z2, z3, zl⟩ := zF H6.out
   obtain ⟨y0, y1, y2, y3, y4, y5, yl⟩ := cells3 H7.out
   go_wp2_with fail
   go_region
   have HRS := k0_ (show (((((w2.setCell ⟨w.heap.size + 1, 0, none⟩ (.int .i8 0)).setCell ⟨w.heap.size + 1, 1, none⟩ (.slice none 0 0)).setCell ⟨w.heap.size + 1 + 1, 0, none⟩ (.int .i64 E1)).setCell ⟨w.heap.size + 1 + 1, 1, none⟩ (.int .i64 pp1)).setCell ⟨w.heap.size + 1 + 1, 2, none⟩ (.string xx1)).drew.heap[w.heap.size + 1]? = _ ∧ (((((w2.setCell ⟨w.heap.size + 1, 0, none⟩ (.int .i8 0)).setCell ⟨w.heap.size + 1, 1, none⟩ (.slice none 0 0)).setCell ⟨w.heap.size + 1 + 1, 0, none⟩ (.int .i64 E1)).setCell ⟨w.heap.size + 1 + 1, 1, none⟩ (.int .i64 pp1)).setCell ⟨w.heap.size + 1 + 1, 2, none⟩ (.string xx1)).drew.heap[w.heap.size + 1 + 1]? = _ ∧ Below w.heap.size w (((((w2.setCell ⟨w.heap.size + 1, 0, none⟩ (.int .i8 0)).setCell ⟨w.heap.size + 1, 1, none⟩ (.slice none 0 0)).setCell ⟨w.heap.size + 1 + 1, 0, none⟩ (.int .i64 E1)).setCell ⟨w.heap.size + 1 + 1, 1, none⟩ (.int .i64 pp1)).setCell ⟨w.heap.size + 1 + 1, 2, none⟩ (.string xx1)).drew from ⟨HRS.out.1, HRS.out.2.1, HRS.out.2.2.drew⟩)
   have HLF := k0_ (HLF.out.later (Below.refl _ _).drew)
   clear z0 z1 z2 z3 zl y0 y1 y2 y3 y4 y5 yl
   generalize (((((w2.setCell ⟨w.heap.size + 1, 0, none⟩ (.int .i8 0)).setCell ⟨w.heap.size + 1, 1, none⟩ (.slice none 0 0)).setCell ⟨w.heap.size + 1 + 1, 0, none⟩ (.int .i64 E1)).setCell ⟨w.heap.size + 1 + 1, 1, none⟩ (.int .i64 pp1)).setCell ⟨w.heap.size + 1 + 1, 2, none⟩ (.string xx1)).drew = wz at *
   exact zEn
end Go.Proofs.YtlfcbmobgbcgnaaGreatDoor
