import Derived.Test.YtkdnnleanoompabGreatDoorM30
namespace Go.Proofs.YtkdnnleanoompabGreatDoor
open Go.RowKit
namespace Qr
open Ck
theorem uO (h : Hd) (F : Hd → Tm → Env → R) (l : Env) (f : List T2 → R) : ∀ (kids : Tm) (acc : List T2), lift h (seqT F l f kids acc) = seqT F l (fun ts => lift h (f ts)) kids acc
 | .nil, _ => rfl
 | .node h1 k r, acc => by
  show lift h (bnd (F h1 k l) fun a => seqT F l f r (acc ++ [a])) = bnd (F h1 k l) fun a => seqT F l (fun ts => lift h (f ts)) r (acc ++ [a])
  rw [jW]
  exact xP fun a _ => uO h F l f r _
section
variable (D : Cg.Ops) (h : Hd) (a b c : T2)
theorem zGY (sd : Sd D) (ha : chk a = 0) (hk : h.kind = 6) : lift h (overL D h [a, b]) = if D.asO 3 a = true then (if D.ag b (D.asl 3 a) = true then R.ok (D.asr 3 a) else fault h 91) else fault h 90 := by
 show lift h (Cg.over D h a b (0, .nil)) = _
 rw [Cg.zAa _ _ _ _ _ hk]
 simp only [qG, zn]
 rw [jM (sd.r 3 a ha)]
theorem zGX (hk : h.kind = 8) : lift h (overL D h [a, b, c]) = if D.ag a (2, .nil) = true then (if D.ag b c = true then lift h (.ok (D.mt b c)) else fault h 91) else fault h 91 := by
 show lift h (Cg.over D h a b c) = _
 rw [Cg.zAZ _ _ _ _ _ hk]
 unfold Cg.meet
 simp only [qG, zn]
theorem zGW (hk : h.kind = 9) : lift h (overL D h [a, b]) = lift h (.ok (mk2 4 a b)) := by
 show lift h (Cg.over D h a b (0, .nil)) = _
 rw [Cg.zAY _ _ _ _ _ hk]
theorem zFS (sd : Sd D) (ha : chk a = 0) (hk : h.kind = 10) : lift h (overL D h [a]) = if D.asO 4 a = true then R.ok (D.asl 4 a) else fault h 90 := by
 show lift h (Cg.over D h a (0, .nil) (0, .nil)) = _
 rw [Cg.wB _ _ _ _ _ hk]
 simp only [qG, zn]
 rw [jM (sd.l 4 a ha)]
theorem zFR (sd : Sd D) (ha : chk a = 0) (hk : h.kind = 11) : lift h (overL D h [a]) = if D.asO 4 a = true then R.ok (D.asr 4 a) else fault h 90 := by
 show lift h (Cg.over D h a (0, .nil) (0, .nil)) = _
 rw [Cg.xz _ _ _ _ _ hk]
 simp only [qG, zn]
 rw [jM (sd.r 4 a ha)]
theorem zFQ (hk : h.kind = 12) : lift h (overL D h [a]) = if D.asO 5 (TT h) = true then (if D.ag a (D.asl 5 (TT h)) = true then lift h (.ok (mk2 5 (D.asl 5 (TT h)) (D.asr 5 (TT h)))) else fault h 91) else fault h 90 := by
 show lift h (Cg.over D h a (0, .nil) (0, .nil)) = _
 rw [Cg.xy _ _ _ _ _ hk]
 simp only [qG, zn]
theorem zFP (hk : h.kind = 13) : lift h (overL D h [a]) = if D.asO 5 (TT h) = true then (if D.ag a (D.asr 5 (TT h)) = true then lift h (.ok (mk2 5 (D.asl 5 (TT h)) (D.asr 5 (TT h)))) else fault h 91) else fault h 90 := by
 show lift h (Cg.over D h a (0, .nil) (0, .nil)) = _
 rw [Cg.xw _ _ _ _ _ hk]
 simp only [qG, zn]
theorem zFO (hk : h.kind = 15) : lift h (overL D h [a, b]) = if D.ag a (1, .nil) = true then (if D.ag b (1, .nil) = true then R.ok (opAns h.name) else fault h 91) else fault h 91 := by
 show lift h (Cg.over D h a b (0, .nil)) = _
 rw [Cg.xq _ _ _ _ _ hk]
 simp only [qG, zn]
 rw [jM (zEx _)]
theorem zFN (ht : chk (TT h) = 0) (hk : h.kind = 16) : lift h (overL D h [a]) = if D.ag a (TT h) = true then R.ok (TT h) else fault h 91 := by
 show lift h (Cg.over D h a (0, .nil) (0, .nil)) = _
 rw [Cg.xm _ _ _ _ _ hk]
 simp only [qG, zn]
 rw [jM ht]
theorem zFM (ht : chk (UU h) = 0) (hca : D.ca = true) (hk : h.kind = 17) : lift h (overL D h [a]) = if D.ag a (TT h) = true then (if D.gs (TT h) (UU h) = true then R.ok (UU h) else fault h 91) else fault h 91 := by
 show lift h (Cg.over D h a (0, .nil) (0, .nil)) = _
 rw [Cg.xk _ _ _ _ _ hk hca]
 simp only [qG, zn]
 rw [jM ht]
end
structure ORel (C : Prop) (M : Nat → Prop) (wb b1 wr : World) (N S : Nat) (A : Option Addr) (F : Hd → Tm → Env → R) (l : Env) (f : List T2 → R) (RR : R) (kids : Tm) (nk i : Nat) (rest : Tm) (t1 t2 t3 : T2) (G1 : Option Addr) (m1 cc1 : Nat) (G2 : Option Addr) (m2 cc2 : Nat) (G3 : Option Addr) (m3 cc3 : Nat) : Prop where
 eq : seqT F l f rest ([t1, t2, t3].take i) = RR
 i_eq : i + Tm.len rest = nk
 lies : Tm.Lies wb rest A i
 good : GoodF C rest
 sub : Tm.nodes rest ≤ Tm.nodes kids
 below : Below b1.heap.size b1 wr
 row : wr.heap[S]? = some (.cells #[.int .i8 t1.1, .slice G1 m1 cc1, .int .i8 t2.1, .slice G2 m2 cc2, .int .i8 t3.1, .slice G3 m3 cc3] 92 (0, 0))
 x4 : wr.heap[N + 1]? = some (.cells #[.int .i8 0, .slice none 0 0] 25 (0, 0))
 x5 : wr.heap[N + 1 + 1]? = some (.cells #[.int .i64 0, .int .i64 0, .string ⟨#[]⟩] 35 (0, 0))
 l1 : Ly M wr t1 G1 m1 cc1
 l2 : Ly M wr t2 G2 m2 cc2
 l3 : Ly M wr t3 G3 m3 cc3
 k1 : chk t1 = 0
 k2 : chk t2 = 0
 k3 : chk t3 = 0
 sz : N + 4 ≤ wr.heap.size
end Qr
set_option maxHeartbeats 32000000 in
set_option maxRecDepth 100000 in
theorem uI (qv : Qr.Qv) (sd : Qr.Sd qv.D) (K : Nat) (Q : Nat → Prop) (h : Hd) (kids : Tm) (p : Pl) (l : Ck.Env) (A : Option Addr) (n c : Nat) (wb w : World)
  (hIs : Tm.Is wb h kids p) (hwb : Below wb.heap.size wb w) (hQ : ∀ b, b < wb.heap.size → Q b) (hE : Ck.EAt Q w l A n c) (hch : ∀ x ∈ l, Ck.chk x.2 = 0) (hk : Ck.isOver h.kind) (hg : Qr.Good (qv.D.ca = true) h kids) (hb' : l.length + 2 * (Tm.nodes kids + 1) ≤ 20000)
  (IH : ∀ (h1 : Hd) (k1 : Tm) (q : Pl), Tm.nodes k1 < Tm.nodes kids → Tm.Is wb h1 k1 q → Qr.Good (qv.D.ca = true) h1 k1 → Qr.TellsOf qv K wb h1 k1 q) :
  Calls Tryz.prog 36 #[.agg (tC_ h p), .slice A n c, .int .i64 qv.md] w (Qr.Post Q w (Cg.ty qv.D (K + 1) h kids l)) := by
 try unfold tC_
 obtain ⟨hik, hlen, hokF⟩ := Ck.jV hg.1
 have hh := Ck.kD hg.1
 rw [Cg.qd, Ck.zBE _ _ _ _ _ hk hlen, Qr.uO]
 obtain ⟨R, hR⟩ : ∃ R, Ck.seqT (Cg.ty qv.D K) l (fun ts => Ck.lift h (Ck.overL qv.D h ts)) kids [] = R := ⟨_, rfl⟩
 rw [hR]
 have hkn : p.n = Tm.kidsN h.kind := by have := hIs.fit.n_eq; omega
 have hpn : p.n = Tm.len kids := hIs.fit.n_eq
 have hn3 : p.n ≤ 3 := by rw [hkn]; rcases hk with hk | hk | hk | hk | hk | hk | hk | hk | hk | hk <;> rw [hk] <;> decide
 have i5 : (p.n : Int) ≤ 9223372036854775807 := by omega
 obtain ⟨b1, w1, hw1, hb0, g0, hb1, h6, h7, hzb, hz⟩ := Qr.three w (.cells (tC_ h p) 28)
 have HW1 := k0_ hw1
 have HB0 := k0_ hb0
 have H0 := k0_ g0
 have HBW := k0_ hb1
 have H6 := k0_ h6
 have H7 := k0_ h7
 have HZB := k0_ hzb
 have HZ := k0_ hz
 have HWB := k0_ (hwb.trans (hb0.mono hwb.size))
 have hfrom := k0_ (fun (W : World) (hb : Below b1.heap.size b1 W) => hb0.trans (hb.mono hb0.size))
 have HQM : Hid (∀ b, b < wb.heap.size → Ck.Cut Q w.heap.size (w.heap.size + 3) b) := k0_ (fun b hb => .inl ⟨hQ b hb, Nat.lt_of_lt_of_le hb hwb.size⟩)
 have HE4 : Hid (Ck.EAt (Ck.Cut Q w.heap.size (w.heap.size + 4)) b1 l A n c) := k0_ ((hE.weak (Q' := Ck.Cut Q w.heap.size (w.heap.size + 4)) (fun b hb hq => .inl ⟨hq, hb⟩)).below hb0)
 have HT : Hid (Ck.Ly (Ck.Cut Q w.heap.size (w.heap.size + 3)) b1 (Ck.TT h) p.TA p.tn p.tc) := k0_ (((Ck.Ly.of (a := Ck.TT h) hIs.fit.ty).weak (fun b hb _ => HQM.out b hb)).later HWB.out)
 have HU : Hid (Ck.Ly (Ck.Cut Q w.heap.size (w.heap.size + 3)) b1 (Ck.UU h) p.UA p.un p.uc) := k0_ (((Ck.Ly.of (a := Ck.UU h) hIs.fit.to).weak (fun b hb _ => HQM.out b hb)).later HWB.out)
 have HCA := k0_ (fun (e : h.kind = 17) => hg.2.1.elim id fun q => absurd e (Ck.qb q).1)
 have HQ4 : Hid (∀ b, b < wb.heap.size → Ck.Cut Q w.heap.size (w.heap.size + 4) b) := k0_ (fun b hb => Qr.to4 HZB.out (Nat.lt_of_lt_of_le hb HWB.out.size) (HQM.out b hb))
 have HK := k0_ (fun (W : World) (hb : Below b1.heap.size b1 W) => Qr.jA (zA hb (zC H0.out) H0.out))
 have HCH := k0_ hch
 have HKO := k0_ hk
 have HHO := k0_ hh
 have HKN := k0_ hkn
 have HIH := k0_ IH
 have HBB := k0_ hb'
 have HS0 := k0_ (fun (X : Nat) (wr : World) (hx : X = w.heap.size + 3) (hbb : Below b1.heap.size b1 wr) (h8 : wr.heap[X]? = some (.cells #[.int .i8 0, .slice none 0 0, .int .i8 0, .slice none 0 0, .int .i8 0, .slice none 0 0] 92 (0, 0))) (h6 : wr.heap[w.heap.size + 1]? = _) (h7 : wr.heap[w.heap.size + 1 + 1]? = _) => (show Qr.ORel (qv.D.ca = true) (Ck.Cut Q w.heap.size (w.heap.size + 4)) wb b1 wr w.heap.size X p.A (Cg.ty qv.D K) l (fun ts => Ck.lift h (Ck.overL qv.D h ts)) R kids p.n 0 kids (0, .nil) (0, .nil) (0, .nil) none 0 0 none 0 0 none 0 0 from ⟨hR, by omega, hIs.lies, hg.kids, Nat.le_refl _, hbb, h8, h6, h7, Ck.Ly.zero _ _, Ck.Ly.zero _ _, Ck.Ly.zero _ _, rfl, rfl, rfl, by have := zC h8; omega⟩))
 clear hR hb0 g0 hb1 h6 h7 hzb hz hwb hE hIs hch hk hh hkn hpn hg hQ IH hb' hik hlen hokF
 go_enter Tryz.func36, Tryz.ntmps36
 go_upto_region 1 with fail
 rw [← HW1.out]
 clear hw1 HW1
 have hb8 := zO w1 (.cells #[.int .i8 0, .slice none 0 0, .int .i8 0, .slice none 0 0, .int .i8 0, .slice none 0 0] 92)
 have H8 := k0_ (zD w1 (.cells #[.int .i8 0, .slice none 0 0, .int .i8 0, .slice none 0 0, .int .i8 0, .slice none 0 0] 92))
 have HBW := kt_ HBW hb8
 have H6 := kp_ hb8 H6
 have H7 := kp_ hb8 H7
 clear hb8
 go_wp2_with fail
 generalize hw4 : w1.alloc (.cells #[.int .i8 0, .slice none 0 0, .int .i8 0, .slice none 0 0, .int .i8 0, .slice none 0 0] 92) = w4 at *
 clear hw4
 have HST := k0_ (HS0.out w1.heap.size w4 HZ.out HBW.out H8.out H6.out H7.out)
 clear HS0 HBW H6 H7 H8
 go_loopw [9] (fun v9 wr => ∃ (i : Nat) (rest : Tm) (t1 t2 t3 : Ck.T2) (G1 : Option Addr) (m1 cc1 : Nat) (G2 : Option Addr) (m2 cc2 : Nat) (G3 : Option Addr) (m3 cc3 : Nat), v9 = .int .i64 i ∧ Qr.ORel (qv.D.ca = true) (Ck.Cut Q w.heap.size (w.heap.size + 4)) wb b1 wr w.heap.size w1.heap.size p.A (Cg.ty qv.D K) l (fun ts => Ck.lift h (Ck.overL qv.D h ts)) R kids p.n i rest t1 t2 t3 G1 m1 cc1 G2 m2 cc2 G3 m3 cc3) (fun v _ => p.n - (intOf v).toNat)
 case atStart => exact ⟨0, kids, _, _, _, _, _, _, _, _, _, _, _, _, rfl, HST.out⟩
 case round =>
  obtain ⟨i, rest, t1, t2, t3, G1, m1, cc1, G2, m2, cc2, G3, m3, cc3, rfl, hr⟩ := hrel
  have HBW := k0_ hr.below
  have H6 := k0_ hr.x4
  have H7 := k0_ hr.x5
  have H8 := k0_ hr.row
  have LW := k0_ hr.sz
  have LZ := k0_ (show w.heap.size + 3 ≤ wr.heap.size from by have := hr.sz; omega)
  have HL1 := k0_ hr.l1
  have HL2 := k0_ hr.l2
  have HL3 := k0_ hr.l3
  have HOK1 := k0_ hr.k1
  have HOK2 := k0_ hr.k2
  have HOK3 := k0_ hr.k3
  have HEQ := k0_ hr.eq
  have hie := hr.i_eq
  clear HST
  cases rest with
  | nil =>
   have hkn := HKN.out
   rcases HKO.out with hk | hk | hk | hk | hk | hk | hk | hk | hk | hk
   ·have hk2 : p.n = 2 := by rw [hk] at hkn; exact hkn
    clear hkn
    obtain rfl : i = p.n := by have := hie; simp only [Tm.len] at this; omega
    have hq := HEQ.out
    rw [hk2] at hq
    have HS := k0_ ((show R = Ck.lift h (Ck.overL qv.D h [t1, t2]) from hq.symm).trans (Qr.zGY qv.D h t1 t2 sd HOK1.out hk))
    clear hq hie hr HEQ hk2
    have HKK := k0_ hk
    clear hk
    obtain ⟨q0', q1', q2', q3', q4', q5', q6', q7', q8', q9', q10'⟩ := HK.out wr HBW.out
    have j1 : ¬ ((p.n : Int) < p.n) := by omega
    have HCF := k0_ (fun (E : Int) (hE : E ≠ 0) (W : World) => zu (Ck.Cut Q w.heap.size (w.heap.size + 4)) h p E hE W)
    have HOT := k0_ (Ty.zm (HOK1.out)).1
    obtain ⟨y0, y1, y2, y3, y4, y5, y6, y7, y8, y9, y10, y11, yl⟩ := Qr.jP H8.out
    rw [HKK.out] at q0'
    go_wp2_with fail
    refine (qv.asC (Ck.Cut Q w.heap.size (w.heap.size + 4)) 3 t1 G1 m1 cc1 wr (by decide) HL1.out HOT.out).mono ?_
    rintro e w5 ⟨Gx, mx, cx, Gy, my, cy, rfl, hlx, hly, hb⟩
    have HLX := k0_ (hlx.weak (Q' := Ck.Cut Q w.heap.size (w.heap.size + 4)) (fun b _ hq => Qr.j6 LW.out hq))
    have HLY := k0_ (hly.weak (Q' := Ck.Cut Q w.heap.size (w.heap.size + 4)) (fun b _ hq => Qr.j6 LW.out hq))
    have LW := kz_ LW hb
    have HBW := kt_ HBW hb
    have LZ := kz_ LZ hb
    have H6 := kp_ hb H6
    have H7 := kp_ hb H7
    have H8 := kp_ hb H8
    have HL1 := Ck.kl_ HL1 hb
    have HL2 := Ck.kl_ HL2 hb
    clear hb hlx hly yl y0 y1 y2 y3 y4 y5 y6 y7 y8 y9 y10 y11
    clear q0' q1' q2' q3' q4' q5' q6' q7' q8' q9' q10'
    have hb8 := zW w5 (.cells #[.int .i8 (qv.D.asl 3 t1).1, .slice Gx mx cx] 25) (.cells #[.int .i8 (qv.D.asr 3 t1).1, .slice Gy my cy] 25)
    have HBX := k0_ (zS w5 (.cells #[.int .i8 (qv.D.asl 3 t1).1, .slice Gx mx cx] 25) (.cells #[.int .i8 (qv.D.asr 3 t1).1, .slice Gy my cy] 25)).1
    have HBY := k0_ (zS w5 (.cells #[.int .i8 (qv.D.asl 3 t1).1, .slice Gx mx cx] 25) (.cells #[.int .i8 (qv.D.asr 3 t1).1, .slice Gy my cy] 25)).2
    have LW := kz_ LW hb8
    have HBW := kt_ HBW hb8
    have LZ := kz_ LZ hb8
    have H6 := kp_ hb8 H6
    have H7 := kp_ hb8 H7
    have H8 := kp_ hb8 H8
    have HL1 := Ck.kl_ HL1 hb8
    have HL2 := Ck.kl_ HL2 hb8
    have HLX := Ck.kl_ HLX hb8
    have HLY := Ck.kl_ HLY hb8
    clear hb8
    cases hag : qv.D.asO 3 t1 with
    | false =>
     exact c8_
    | true =>
     obtain ⟨y0, y1, y2, y3, y4, y5, y6, y7, y8, y9, y10, y11, yl⟩ := Qr.jP H8.out
     obtain ⟨d0, d1, -, -, -⟩ := zF HBX.out
     have HCA := k0_ (fun (W : World) (hl1 : Ck.Ly (Ck.Cut Q w.heap.size (w.heap.size + 4)) W t2 G2 m2 cc2) (hl2 : Ck.Ly (Ck.Cut Q w.heap.size (w.heap.size + 4)) W (qv.D.asl 3 t1) Gx mx cx) => (show Calls Tryz.prog 33 #[.agg #[.int .i8 t2.1, .slice G2 m2 cc2], .agg #[.int .i8 (qv.D.asl 3 t1).1, .slice Gx mx cx], .int .i64 qv.md] W (fun e w' => e = .returned (.bool (qv.D.ag t2 (qv.D.asl 3 t1))) ∧ Below W.heap.size W w') from qv.agC t2.1 t2.2 G2 m2 cc2 (qv.D.asl 3 t1).1 (qv.D.asl 3 t1).2 Gx mx cx W hl1.is hl2.is))
     go_wp2_with fail
     refine (HCA.out _ HL2.out HLX.out).mono ?_
     rintro e w7 ⟨rfl, hb⟩
     have LW := kz_ LW hb
     have HBW := kt_ HBW hb
     have LZ := kz_ LZ hb
     have H6 := kp_ hb H6
     have H7 := kp_ hb H7
     have HBY := kp_ hb HBY
     have HLY := Ck.kl_ HLY hb
     clear hb d0 d1 yl y0 y1 y2 y3 y4 y5 y6 y7 y8 y9 y10 y11
     cases hab : qv.D.ag t2 (qv.D.asl 3 t1) with
     | false =>
      have HF := k0_ (HS.out.trans (show _ = Ck.fault h 91 from by rw [hag, if_pos rfl, hab, if_neg (by decide)]))
      obtain ⟨q0', q1', q2', q3', q4', q5', q6', q7', q8', q9', q10'⟩ := HK.out _ HBW.out
      have LWF := k0_ LW.out
      go_wp2_with fail
      refine (HCF.out 91 (by decide) _).mono ?_
      rintro e w8 hp
      obtain ⟨G, m, cg, rfl, hl, hb⟩ := hp.flt
      have HBW := kt_ HBW hb
      have LZ := kz_ LZ hb
      have H6 := kp_ hb H6
      have H7 := kp_ hb H7
      have HZL := k0_ (hl.weak (fun b _ hq => Qr.j6 LWF.out hq))
      clear hb hl hp
      clear q0' q1' q2' q3' q4' q5' q6' q7' q8' q9' q10'
      have HRS := k0_ (zQ H6.out H7.out (show w.heap.size + 1 ≠ w.heap.size + 1 + 1 by omega) (hfrom.out _ HBW.out) (by omega) (by omega) (.int .i8 0) (.slice G m cg) (.int .i64 91) (.int .i64 h.pos) (.string ⟨#[]⟩))
      have HLF := k0_ ((HZL.out.set2 (X := w.heap.size + 1) (fun b hq => hq.ne (by omega) (by omega)) (.int .i8 0) (.slice G m cg)).zh (X := w.heap.size + 1 + 1) (fun b hq => hq.ne (by omega) (by omega)) (.int .i64 91) (.int .i64 h.pos) (.string ⟨#[]⟩))
      obtain ⟨z0, z1, z2, z3, zl⟩ := zF H6.out
      obtain ⟨y0, y1, y2, y3, y4, y5, yl⟩ := cells3 H7.out
      go_wp2_with fail
      clear z0 z1 z2 z3 zl y0 y1 y2 y3 y4 y5 yl
      generalize (((((w8.setCell ⟨w.heap.size + 1, 0, none⟩ (.int .i8 0)).setCell ⟨w.heap.size + 1, 1, none⟩ (.slice G m cg)).setCell ⟨w.heap.size + 1 + 1, 0, none⟩ (.int .i64 91)).setCell ⟨w.heap.size + 1 + 1, 1, none⟩ (.int .i64 h.pos)).setCell ⟨w.heap.size + 1 + 1, 2, none⟩ (.string ⟨#[]⟩)) = wz at *
      exact zFF
     | true =>
      have HF := k0_ (HS.out.trans (show _ = Ck.R.ok (qv.D.asr 3 t1) from by rw [hag, if_pos rfl, hab, if_pos rfl]))
      obtain ⟨d0, d1, -, -, -⟩ := zF HBY.out
      have HRS := k0_ (zQ H6.out H7.out (show w.heap.size + 1 ≠ w.heap.size + 1 + 1 by omega) (hfrom.out _ HBW.out) (by omega) (by omega) (.int .i8 (qv.D.asr 3 t1).1) (.slice Gy my cy) (.int .i64 0) (.int .i64 0) (.string ⟨#[]⟩))
      have HLF := k0_ ((HLY.out.set2 (X := w.heap.size + 1) (fun b hq => hq.ne (by omega) (by omega)) (.int .i8 (qv.D.asr 3 t1).1) (.slice Gy my cy)).zh (X := w.heap.size + 1 + 1) (fun b hq => hq.ne (by omega) (by omega)) (.int .i64 0) (.int .i64 0) (.string ⟨#[]⟩))
      obtain ⟨z0, z1, z2, z3, zl⟩ := zF H6.out
      obtain ⟨y0, y1, y2, y3, y4, y5, yl⟩ := cells3 H7.out
      go_wp2_with fail
      clear z0 z1 z2 z3 zl y0 y1 y2 y3 y4 y5 yl
      generalize (((((w7.setCell ⟨w.heap.size + 1, 0, none⟩ (.int .i8 (qv.D.asr 3 t1).1)).setCell ⟨w.heap.size + 1, 1, none⟩ (.slice Gy my cy)).setCell ⟨w.heap.size + 1 + 1, 0, none⟩ (.int .i64 0)).setCell ⟨w.heap.size + 1 + 1, 1, none⟩ (.int .i64 0)).setCell ⟨w.heap.size + 1 + 1, 2, none⟩ (.string ⟨#[]⟩)) = wz at *
      obtain ⟨k0, k1', -, -, -⟩ := zF HRS.out.1
      obtain ⟨k2', k3', k4', -, -, -, -⟩ := cells3 HRS.out.2.1
      refine bodyPost_ret (v := .tuple #[.agg #[.int .i8 (qv.D.asr 3 t1).1, .slice Gy my cy], .agg #[.int .i64 0, .int .i64 0, .string ⟨#[]⟩]]) (by simp [results, Tryz.results36, go_sem, k0, k1', k2', k3', k4']) rfl ?_
      exact zF8
   ·have hk2 : p.n = 3 := by rw [hk] at hkn; exact hkn
    clear hkn
    obtain rfl : i = p.n := by have := hie; simp only [Tm.len] at this; omega
    have hq := HEQ.out
    rw [hk2] at hq
    have HS := k0_ ((show R = Ck.lift h (Ck.overL qv.D h [t1, t2, t3]) from hq.symm).trans (Qr.zGX qv.D h t1 t2 t3 hk))
    clear hq hie hr HEQ hk2
    have HKK := k0_ hk
    clear hk
    have HMT := k0_ sd.m
    obtain ⟨q0', q1', q2', q3', q4', q5', q6', q7', q8', q9', q10'⟩ := HK.out wr HBW.out
    have j1 : ¬ ((p.n : Int) < p.n) := by omega
    have HCF := k0_ (fun (E : Int) (hE : E ≠ 0) (W : World) => zu (Ck.Cut Q w.heap.size (w.heap.size + 4)) h p E hE W)
    have HCB := k0_ (fun (W : World) (hl1 : Ck.Ly (Ck.Cut Q w.heap.size (w.heap.size + 4)) W t1 G1 m1 cc1) => (show Calls Tryz.prog 33 #[.agg #[.int .i8 t1.1, .slice G1 m1 cc1], .agg #[.int .i8 2, .slice none 0 0], .int .i64 qv.md] W (fun e w' => e = .returned (.bool (qv.D.ag t1 (2, .nil))) ∧ Below W.heap.size W w') from qv.agC t1.1 t1.2 G1 m1 cc1 2 .nil none 0 0 W hl1.is (qw (by decide) W)))
    obtain ⟨y0, y1, y2, y3, y4, y5, y6, y7, y8, y9, y10, y11, yl⟩ := Qr.jP H8.out
    rw [HKK.out] at q0'
    go_upto_region 18 with fail
    clear yl y0 y1 y2 y3 y4 y5 y6 y7 y8 y9 y10 y11
    clear q0' q1' q2' q3' q4' q5' q6' q7' q8' q9' q10'
    refine zI 149 rfl [78, 79, 80, 81, 82, 83] (by kernel_rfl) (by kernel_rfl) (by kernel_rfl) (fun listed a' w' => a'.defers = [] ∧ a'.tmps.size = 149 ∧ (a'.eval (.tmp 1) = .slice A n c ∧ a'.eval (.tmp 2) = .int .i64 qv.md ∧ a'.eval (.tmp 3) = .pointer (some ⟨w.heap.size, 0, none⟩) ∧ a'.eval (.tmp 6) = .pointer (some ⟨w.heap.size + 1, 0, none⟩) ∧ a'.eval (.tmp 7) = .pointer (some ⟨w.heap.size + 1 + 1, 0, none⟩) ∧ a'.eval (.tmp 8) = .pointer (some ⟨w1.heap.size, 0, none⟩)) ∧ (listed[0]? = some true → (a'.eval (.tmp 78) = .pointer (some ⟨w1.heap.size, 0, none⟩))) ∧ (listed[1]? = some true → (a'.eval (.tmp 79) = .agg #[.int .i8 t1.1, .slice G1 m1 cc1])) ∧ (listed[2]? = some true → (a'.eval (.tmp 80) = .agg #[.int .i8 2, .slice none 0 0])) ∧ (listed[3]? = some true → (a'.eval (.tmp 81) = .int .i64 qv.md)) ∧ (listed[4]? = some true → (a'.eval (.tmp 82) = .bool (qv.D.ag t1 (2, .nil)))) ∧ (listed[5]? = some true → (a'.eval (.tmp 83) = .bool (!qv.D.ag t1 (2, .nil)))) ∧ (w'.heap[w.heap.size + 1]? = some (.cells #[.int .i8 0, .slice none 0 0] 25 (0, 0))) ∧ (w'.heap[w.heap.size + 1 + 1]? = some (.cells #[.int .i64 0, .int .i64 0, .string ⟨#[]⟩] 35 (0, 0))) ∧ (w'.heap[w1.heap.size]? = some (.cells #[.int .i8 t1.1, .slice G1 m1 cc1, .int .i8 t2.1, .slice G2 m2 cc2, .int .i8 t3.1, .slice G3 m3 cc3] 92 (0, 0))) ∧ (Ck.Ly (Ck.Cut Q w.heap.size (w.heap.size + 4)) w' t1 G1 m1 cc1) ∧ (Ck.Ly (Ck.Cut Q w.heap.size (w.heap.size + 4)) w' t2 G2 m2 cc2) ∧ (Ck.Ly (Ck.Cut Q w.heap.size (w.heap.size + 4)) w' t3 G3 m3 cc3) ∧ Below b1.heap.size b1 w') (fun _ _ _ h => h.1) ?_ ?_ ?_
    ·have hz0 := HZ.out
     refine ⟨rfl, rfl, ⟨rfl, rfl, rfl, rfl, rfl, rfl⟩, FH, FH, FH, FH, FH, FH, H6.out, H7.out, H8.out, HL1.out, HL2.out, HL3.out, HBW.out.drew⟩
    ·rintro listed a' w' i o ⟨hdf, hsz, hx, y0, y1, y2, y3, y4, y5, hH0, hH1, hH2, hH3, hH4, hH5, hbw⟩ hz hsz0 ho hi hp
     have hi13 : i < 6 := by
      rcases Nat.lt_or_ge i 6 with q | q
      ·exact q
      ·exact jY
     rcases (by omega : i = 0 ∨ i = 1 ∨ i = 2 ∨ i = 3 ∨ i = 4 ∨ i = 5) with rfl | rfl | rfl | rfl | rfl | rfl
     ·obtain rfl := SI ho
      exact V_ ho 78 ⟨pd hdf, ps hsz, KX hx, (fun _ => pS hsz), K2 y1, K2 y2, K2 y3, K2 y4, K2 y5, hH0, hH1, hH2, hH3, hH4, hH5, hbw⟩
     ·obtain rfl := SI ho
      have v0 := hpv hp 0 (by simp)
      have ww0 := (y0 v0)
      obtain ⟨cq0, cq1, cq2, cq3, cq4, cq5, cq6, cq7, cq8, cq9, cq10, cq11, -⟩ := Qr.jP hH2
      exact V_ ho 79 ⟨pd hdf, ps hsz, KX hx, K2 y0, (fun _ => pS hsz), K2 y2, K2 y3, K2 y4, K2 y5, hH0, hH1, hH2, hH3, hH4, hH5, hbw⟩
     ·obtain rfl := SI ho
      refine C_ ho 80 (qY 2 w') fun e u hg => ?_
      ·obtain ⟨rfl, hb⟩ := hg
       refine ⟨.agg #[.int .i8 2, .slice none 0 0], rfl, ?_⟩
       have hbs := hbw.size
       have hz1 := HZ.out
       have hbs2 := hb.size
       exact ⟨pd hdf, ps hsz, KX hx, K2 y0, K2 y1, (fun _ => pS hsz), K2 y3, K2 y4, K2 y5, (zA hb (zC hH0) hH0), (zA hb (zC hH1) hH1), (zA hb (zC hH2) hH2), (Ck.Ly.later hH3 hb), (Ck.Ly.later hH4 hb), (Ck.Ly.later hH5 hb), hbw.trans (hb.mono hbw.size)⟩
     ·obtain rfl := SI ho
      exact V_ ho 81 ⟨pd hdf, ps hsz, KX hx, K2 y0, K2 y1, K2 y2, (fun _ => pS hsz), K2 y4, K2 y5, hH0, hH1, hH2, hH3, hH4, hH5, hbw⟩
     ·obtain rfl := SI ho
      have v1 := hpv hp 1 (by simp)
      have ww1 := (y1 v1)
      have v2 := hpv hp 2 (by simp)
      have ww2 := (y2 v2)
      have v3 := hpv hp 3 (by simp)
      have ww3 := (y3 v3)
      refine C_ ho 82 (HCB.out w' hH3) fun e u hg => ?_
      ·obtain ⟨rfl, hb⟩ := hg
       refine ⟨.bool (qv.D.ag t1 (2, .nil)), rfl, ?_⟩
       have hbs := hbw.size
       have hz1 := HZ.out
       have hbs2 := hb.size
       exact ⟨pd hdf, ps hsz, KX hx, K2 y0, K2 y1, K2 y2, K2 y3, (fun _ => pS hsz), K2 y5, (zA hb (zC hH0) hH0), (zA hb (zC hH1) hH1), (zA hb (zC hH2) hH2), (Ck.Ly.later hH3 hb), (Ck.Ly.later hH4 hb), (Ck.Ly.later hH5 hb), hbw.trans (hb.mono hbw.size)⟩
     ·obtain rfl := SI ho
      have v4 := hpv hp 4 (by simp)
      have ww4 := (y4 v4)
      exact V_ ho 83 ⟨pd hdf, ps hsz, KX hx, K2 y0, K2 y1, K2 y2, K2 y3, K2 y4, (fun _ => pS hsz), hH0, hH1, hH2, hH3, hH4, hH5, hbw⟩
    ·rintro listed u w' t ht hu ⟨-, -, -, y0, y1, y2, y3, y4, y5, hH0, hH1, hH2, hH3, hH4, hH5, hbw⟩ hall
     have v5 := hall 5 (by decide)
     have HBW := k0_ hbw
     have H6 := k0_ hH0
     have H7 := k0_ hH1
     have H8 := k0_ hH2
     have HL2 := k0_ hH4
     have HL3 := k0_ hH5
     have LW := k0_ (show w.heap.size + 4 ≤ w'.heap.size from by have := zC hH2; have := HZ.out; omega)
     have LZ := k0_ (show w.heap.size + 3 ≤ w'.heap.size from by have := LW.out; omega)
     have eb83 := ((y5 v5))
     rw [hu 83 (by decide) (by decide)] at eb83
     clear y0 y1 y2 y3 y4 y5 v5 hall hu
     clear hbw hH0 hH1 hH2 hH3 hH4 hH5
     simp only [over, List.setIfInBounds_toArray, List.set_cons_succ, List.set_cons_zero, eb83] at ht
     subst ht
     clear eb83
     generalize hw : w' = w5 at *
     clear hw
     cases hag : qv.D.ag t1 (2, .nil) with
     | false =>
      have HF := k0_ (HS.out.trans (show _ = Ck.fault h 91 from by rw [hag, if_neg (by decide)]))
      obtain ⟨q0', q1', q2', q3', q4', q5', q6', q7', q8', q9', q10'⟩ := HK.out _ HBW.out
      have LWF := k0_ LW.out
      go_wp2_with fail
      refine (HCF.out 91 (by decide) _).mono ?_
      rintro e w6 hp
      obtain ⟨G, m, cg, rfl, hl, hb⟩ := hp.flt
      have HBW := kt_ HBW hb
      have LZ := kz_ LZ hb
      have H6 := kp_ hb H6
      have H7 := kp_ hb H7
      have HZL := k0_ (hl.weak (fun b _ hq => Qr.j6 LWF.out hq))
      clear hb hl hp
      clear q0' q1' q2' q3' q4' q5' q6' q7' q8' q9' q10'
      have HRS := k0_ (zQ H6.out H7.out (show w.heap.size + 1 ≠ w.heap.size + 1 + 1 by omega) (hfrom.out _ HBW.out) (by omega) (by omega) (.int .i8 0) (.slice G m cg) (.int .i64 91) (.int .i64 h.pos) (.string ⟨#[]⟩))
      have HLF := k0_ ((HZL.out.set2 (X := w.heap.size + 1) (fun b hq => hq.ne (by omega) (by omega)) (.int .i8 0) (.slice G m cg)).zh (X := w.heap.size + 1 + 1) (fun b hq => hq.ne (by omega) (by omega)) (.int .i64 91) (.int .i64 h.pos) (.string ⟨#[]⟩))
      obtain ⟨z0, z1, z2, z3, zl⟩ := zF H6.out
      obtain ⟨y0, y1, y2, y3, y4, y5, yl⟩ := cells3 H7.out
      go_wp2_with fail
      clear z0 z1 z2 z3 zl y0 y1 y2 y3 y4 y5 yl
      generalize (((((w6.setCell ⟨w.heap.size + 1, 0, none⟩ (.int .i8 0)).setCell ⟨w.heap.size + 1, 1, none⟩ (.slice G m cg)).setCell ⟨w.heap.size + 1 + 1, 0, none⟩ (.int .i64 91)).setCell ⟨w.heap.size + 1 + 1, 1, none⟩ (.int .i64 h.pos)).setCell ⟨w.heap.size + 1 + 1, 2, none⟩ (.string ⟨#[]⟩)) = wz at *
      exact zFF
     | true =>
      obtain ⟨y0, y1, y2, y3, y4, y5, y6, y7, y8, y9, y10, y11, yl⟩ := Qr.jP H8.out
      go_wp2_with fail
      refine (qv.mtC (Ck.Cut Q w.heap.size (w.heap.size + 4)) t2 G2 m2 cc2 t3 G3 m3 cc3 w5 HL2.out HL3.out).mono ?_
      rintro e w8 ⟨ts, Gs, ms, cs, rfl, hls, hst, hb⟩
      have HLS := k0_ (hls.weak (Q' := Ck.Cut Q w.heap.size (w.heap.size + 4)) (fun b _ hq => Qr.j6 LW.out hq))
      have HST := k0_ hst
      have LW := kz_ LW hb
      have HBW := kt_ HBW hb
      have LZ := kz_ LZ hb
      have H6 := kp_ hb H6
      have H7 := kp_ hb H7
      clear hb hls hst yl y0 y1 y2 y3 y4 y5 y6 y7 y8 y9 y10 y11
      have hb8 := zO w8 (.cells #[.int .i8 ts.1, .slice Gs ms cs] 25)
      have H15 := k0_ (zD w8 (.cells #[.int .i8 ts.1, .slice Gs ms cs] 25))
      have LW := kz_ LW hb8
      have HBW := kt_ HBW hb8
      have LZ := kz_ LZ hb8
      have H6 := kp_ hb8 H6
      have H7 := kp_ hb8 H7
      have HLS := Ck.kl_ HLS hb8
      clear hb8
      cases hm : qv.D.ag t2 t3 with
      | false =>
       have HF := k0_ (HS.out.trans (show _ = Ck.fault h 91 from by rw [hag, if_pos rfl, hm, if_neg (by decide)]))
       obtain ⟨q0', q1', q2', q3', q4', q5', q6', q7', q8', q9', q10'⟩ := HK.out _ HBW.out
       have LWF := k0_ LW.out
       go_wp2_with fail
       refine (HCF.out 91 (by decide) _).mono ?_
       rintro e w10 hp
       obtain ⟨G, m, cg, rfl, hl, hb⟩ := hp.flt
       have HBW := kt_ HBW hb
       have LZ := kz_ LZ hb
       have H6 := kp_ hb H6
       have H7 := kp_ hb H7
       have HZL := k0_ (hl.weak (fun b _ hq => Qr.j6 LWF.out hq))
       clear hb hl hp
       clear q0' q1' q2' q3' q4' q5' q6' q7' q8' q9' q10'
       have HRS := k0_ (zQ H6.out H7.out (show w.heap.size + 1 ≠ w.heap.size + 1 + 1 by omega) (hfrom.out _ HBW.out) (by omega) (by omega) (.int .i8 0) (.slice G m cg) (.int .i64 91) (.int .i64 h.pos) (.string ⟨#[]⟩))
       have HLF := k0_ ((HZL.out.set2 (X := w.heap.size + 1) (fun b hq => hq.ne (by omega) (by omega)) (.int .i8 0) (.slice G m cg)).zh (X := w.heap.size + 1 + 1) (fun b hq => hq.ne (by omega) (by omega)) (.int .i64 91) (.int .i64 h.pos) (.string ⟨#[]⟩))
       obtain ⟨z0, z1, z2, z3, zl⟩ := zF H6.out
       obtain ⟨y0, y1, y2, y3, y4, y5, yl⟩ := cells3 H7.out
       go_wp2_with fail
       clear z0 z1 z2 z3 zl y0 y1 y2 y3 y4 y5 yl
       generalize (((((w10.setCell ⟨w.heap.size + 1, 0, none⟩ (.int .i8 0)).setCell ⟨w.heap.size + 1, 1, none⟩ (.slice G m cg)).setCell ⟨w.heap.size + 1 + 1, 0, none⟩ (.int .i64 91)).setCell ⟨w.heap.size + 1 + 1, 1, none⟩ (.int .i64 h.pos)).setCell ⟨w.heap.size + 1 + 1, 2, none⟩ (.string ⟨#[]⟩)) = wz at *
       exact zFF
      | true =>
       have HF := k0_ (HS.out.trans (show _ = Ck.lift h (.ok (qv.D.mt t2 t3)) from by rw [hag, if_pos rfl, hm, if_pos rfl]))
       have hts := HST.out hm
       subst hts
       have HOM := k0_ (HMT.out _ _ (HOK2.out) (HOK3.out) hm)
       have CFI := k0_ (fun (W : World) (hl1 : Ck.Ly (Ck.Cut Q w.heap.size (w.heap.size + 4)) W (qv.D.mt t2 t3) Gs ms cs) => jD (Ck.Cut Q w.heap.size (w.heap.size + 4)) h p (qv.D.mt t2 t3) Gs ms cs W hl1 HOM.out)
       obtain ⟨q0', q1', q2', q3', q4', q5', q6', q7', q8', q9', q10'⟩ := HK.out _ HBW.out
       obtain ⟨d0, d1, -, -, -⟩ := zF H15.out
       have LWF := k0_ LW.out
       go_wp2_with fail
       refine (CFI.out _ HLS.out).mono ?_
       rintro e w10 hp
       obtain ⟨t4, E4, pp4, xx4, G4, m4, cc4, rfl, hgn, hl, hb⟩ := hp.names
       have HGG := k0_ hgn
       have HBW := kt_ HBW hb
       have LZ := kz_ LZ hb
       have H6 := kp_ hb H6
       have H7 := kp_ hb H7
       have HLF4 := k0_ (hl.weak (fun b _ hq => Qr.j6 LWF.out hq))
       clear hl hb hgn hp d0 d1
       clear q0' q1' q2' q3' q4' q5' q6' q7' q8' q9' q10'
       have HRS := k0_ (zQ H6.out H7.out (show w.heap.size + 1 ≠ w.heap.size + 1 + 1 by omega) (hfrom.out _ HBW.out) (by omega) (by omega) (.int .i8 t4.1) (.slice G4 m4 cc4) (.int .i64 E4) (.int .i64 pp4) (.string xx4))
       have HLF := k0_ ((HLF4.out.set2 (X := w.heap.size + 1) (fun b hq => hq.ne (by omega) (by omega)) (.int .i8 t4.1) (.slice G4 m4 cc4)).zh (X := w.heap.size + 1 + 1) (fun b hq => hq.ne (by omega) (by omega)) (.int .i64 E4) (.int .i64 pp4) (.string xx4))
       obtain ⟨z0, z1, z2, z3, zl⟩ := zF H6.out
       obtain ⟨y0, y1, y2, y3, y4, y5, yl⟩ := cells3 H7.out
       go_wp2_with fail
       clear z0 z1 z2 z3 zl y0 y1 y2 y3 y4 y5 yl
       generalize (((((w10.setCell ⟨w.heap.size + 1, 0, none⟩ (.int .i8 t4.1)).setCell ⟨w.heap.size + 1, 1, none⟩ (.slice G4 m4 cc4)).setCell ⟨w.heap.size + 1 + 1, 0, none⟩ (.int .i64 E4)).setCell ⟨w.heap.size + 1 + 1, 1, none⟩ (.int .i64 pp4)).setCell ⟨w.heap.size + 1 + 1, 2, none⟩ (.string xx4)) = wz at *
       obtain ⟨k0, k1', -, -, -⟩ := zF HRS.out.1
       obtain ⟨k2', k3', k4', -, -, -, -⟩ := cells3 HRS.out.2.1
       refine bodyPost_ret (v := .tuple #[.agg #[.int .i8 t4.1, .slice G4 m4 cc4], .agg #[.int .i64 E4, .int .i64 pp4, .string xx4]]) (by simp [results, Tryz.results36, go_sem, k0, k1', k2', k3', k4']) rfl ?_
       exact HF.out ▸ Qr.Post.mk HGG.out.1 HGG.out.2 (HLF.out.weak (fun b _ hq => hq.out (by omega))) HRS.out.2.2
   ·have hk2 : p.n = 2 := by rw [hk] at hkn; exact hkn
    clear hkn
    obtain rfl : i = p.n := by have := hie; simp only [Tm.len] at this; omega
    have hq := HEQ.out
    rw [hk2] at hq
    have HS := k0_ ((show R = Ck.lift h (Ck.overL qv.D h [t1, t2]) from hq.symm).trans (Qr.zGW qv.D h t1 t2 hk))
    clear hq hie hr HEQ hk2
    have HKK := k0_ hk
    clear hk
    obtain ⟨q0', q1', q2', q3', q4', q5', q6', q7', q8', q9', q10'⟩ := HK.out wr HBW.out
    have j1 : ¬ ((p.n : Int) < p.n) := by omega
    have HOK := k0_ (Qr.wD (k := 4) (by decide) (Ty.zm (HOK1.out)).1 (Ty.zm (HOK2.out)).1)
    have CFI := k0_ (fun (G : Option Addr) (m cc : Nat) (W : World) (hl1 : Ck.Ly (Ck.Cut Q w.heap.size (w.heap.size + 4)) W (Ck.mk2 4 t1 t2) G m cc) => jD (Ck.Cut Q w.heap.size (w.heap.size + 4)) h p (Ck.mk2 4 t1 t2) G m cc W hl1 HOK.out)
    obtain ⟨y0, y1, y2, y3, y4, y5, y6, y7, y8, y9, y10, y11, yl⟩ := Qr.jP H8.out
    rw [HKK.out] at q0'
    go_upto_region 25 with fail
    clear yl y0 y1 y2 y3 y4 y5 y6 y7 y8 y9 y10 y11
    clear q0' q1' q2' q3' q4' q5' q6' q7' q8' q9' q10'
    refine zI 149 rfl [110, 111, 112, 113, 114, 115, 116, 117, 118] (by kernel_rfl) (by kernel_rfl) (by kernel_rfl) (fun listed a' w' => a'.defers = [] ∧ a'.tmps.size = 149 ∧ (a'.eval (.tmp 1) = .slice A n c ∧ a'.eval (.tmp 2) = .int .i64 qv.md ∧ a'.eval (.tmp 3) = .pointer (some ⟨w.heap.size, 0, none⟩) ∧ a'.eval (.tmp 6) = .pointer (some ⟨w.heap.size + 1, 0, none⟩) ∧ a'.eval (.tmp 7) = .pointer (some ⟨w.heap.size + 1 + 1, 0, none⟩) ∧ a'.eval (.tmp 8) = .pointer (some ⟨w1.heap.size, 0, none⟩)) ∧ ∃ Gm mm cm t5 E5 pp5 xx5 G5 m5 cc5, (listed[0]? = some true → (a'.eval (.tmp 110) = .pointer (some ⟨w1.heap.size, 0, none⟩))) ∧ (listed[1]? = some true → (a'.eval (.tmp 111) = .agg #[.int .i8 t1.1, .slice G1 m1 cc1])) ∧ (listed[2]? = some true → (a'.eval (.tmp 112) = .pointer (some ⟨w1.heap.size, 2, none⟩))) ∧ (listed[3]? = some true → (a'.eval (.tmp 113) = .agg #[.int .i8 t2.1, .slice G2 m2 cc2])) ∧ (listed[4]? = some true → (a'.eval (.tmp 114) = .agg #[.int .i8 4, .slice Gm mm cm]) ∧ (Ck.Ly (Ck.Cut Q w.heap.size (w.heap.size + 4)) w' (Ck.mk2 4 t1 t2) Gm mm cm)) ∧ (listed[5]? = some true → (a'.eval (.tmp 115) = .agg (tC_ h p))) ∧ (listed[6]? = some true → (a'.eval (.tmp 116) = .tuple #[.agg #[.int .i8 t5.1, .slice G5 m5 cc5], .agg #[.int .i64 E5, .int .i64 pp5, .string xx5]]) ∧ (Qr.Nz (Ck.lift h (.ok (Ck.mk2 4 t1 t2))) ∧ Qr.tyO (Ck.lift h (.ok (Ck.mk2 4 t1 t2))) = t5 ∧ Qr.eO (Ck.lift h (.ok (Ck.mk2 4 t1 t2))) = E5 ∧ Qr.pO (Ck.lift h (.ok (Ck.mk2 4 t1 t2))) = pp5 ∧ Qr.xO (Ck.lift h (.ok (Ck.mk2 4 t1 t2))) = xx5) ∧ (Ck.Ly (Ck.Cut Q w.heap.size (w.heap.size + 4)) w' t5 G5 m5 cc5)) ∧ (listed[7]? = some true → (a'.eval (.tmp 117) = .agg #[.int .i8 t5.1, .slice G5 m5 cc5]) ∧ (listed[6]? = some true)) ∧ (listed[8]? = some true → (a'.eval (.tmp 118) = .agg #[.int .i64 E5, .int .i64 pp5, .string xx5]) ∧ (listed[6]? = some true)) ∧ (listed[9]? = some true → (listed[6]? = some true) ∧ (w'.heap[w.heap.size + 1]? = some (.cells #[.int .i8 t5.1, .slice G5 m5 cc5] 25 (0, 0)))) ∧ (listed[10]? = some true → (listed[6]? = some true) ∧ (w'.heap[w.heap.size + 1 + 1]? = some (.cells #[.int .i64 E5, .int .i64 pp5, .string xx5] 35 (0, 0)))) ∧ (∃ u0 u1, w'.heap[w.heap.size + 1]? = some (.cells #[u0, u1] 25 (0, 0))) ∧ (∃ u0 u1 u2, w'.heap[w.heap.size + 1 + 1]? = some (.cells #[u0, u1, u2] 35 (0, 0))) ∧ (w'.heap[w1.heap.size]? = some (.cells #[.int .i8 t1.1, .slice G1 m1 cc1, .int .i8 t2.1, .slice G2 m2 cc2, .int .i8 t3.1, .slice G3 m3 cc3] 92 (0, 0))) ∧ (Ck.Ly (Ck.Cut Q w.heap.size (w.heap.size + 4)) w' t1 G1 m1 cc1) ∧ (Ck.Ly (Ck.Cut Q w.heap.size (w.heap.size + 4)) w' t2 G2 m2 cc2) ∧ Below b1.heap.size b1 w') (fun _ _ _ h => h.1) ?_ ?_ ?_
    ·have hz0 := HZ.out
     refine ⟨rfl, rfl, ⟨rfl, rfl, rfl, rfl, rfl, rfl⟩, none, 0, 0, (0, .nil), 0, 0, ⟨#[]⟩, none, 0, 0, FH, FH, FH, FH, FH, FH, FH, FH, FH, FH, FH, ⟨_, _, H6.out⟩, ⟨_, _, _, H7.out⟩, H8.out, HL1.out, HL2.out, HBW.out.drew⟩
    ·rintro listed a' w' i o ⟨hdf, hsz, hx, Gm, mm, cm, t5, E5, pp5, xx5, G5, m5, cc5, y0, y1, y2, y3, y4, y5, y6, y7, y8, y9, y10, hB0, hB1, hH0, hH1, hH2, hbw⟩ hz hsz0 ho hi hp
     have hi13 : i < 11 := by
      rcases Nat.lt_or_ge i 11 with q | q
      ·exact q
      ·exact jY
     rcases (by omega : i = 0 ∨ i = 1 ∨ i = 2 ∨ i = 3 ∨ i = 4 ∨ i = 5 ∨ i = 6 ∨ i = 7 ∨ i = 8 ∨ i = 9 ∨ i = 10) with rfl | rfl | rfl | rfl | rfl | rfl | rfl | rfl | rfl | rfl | rfl
     ·obtain rfl := SI ho
      exact V_ ho 110 ⟨pd hdf, ps hsz, KX hx, Gm, mm, cm, t5, E5, pp5, xx5, G5, m5, cc5, (fun _ => pS hsz), K2 y1, K2 y2, K2 y3, K2 y4, K2 y5, K2 y6, K2 y7, K2 y8, K2 y9, K2 y10, hB0, hB1, hH0, hH1, hH2, hbw⟩
     ·obtain rfl := SI ho
      have v0 := hpv hp 0 (by simp)
      have ww0 := (y0 v0)
      obtain ⟨cq0, cq1, cq2, cq3, cq4, cq5, cq6, cq7, cq8, cq9, cq10, cq11, -⟩ := Qr.jP hH0
      exact V_ ho 111 ⟨pd hdf, ps hsz, KX hx, Gm, mm, cm, t5, E5, pp5, xx5, G5, m5, cc5, K2 y0, (fun _ => pS hsz), K2 y2, K2 y3, K2 y4, K2 y5, K2 y6, K2 y7, K2 y8, K2 y9, K2 y10, hB0, hB1, hH0, hH1, hH2, hbw⟩
     ·obtain rfl := SI ho
      exact V_ ho 112 ⟨pd hdf, ps hsz, KX hx, Gm, mm, cm, t5, E5, pp5, xx5, G5, m5, cc5, K2 y0, K2 y1, (fun _ => pS hsz), K2 y3, K2 y4, K2 y5, K2 y6, K2 y7, K2 y8, K2 y9, K2 y10, hB0, hB1, hH0, hH1, hH2, hbw⟩
     ·obtain rfl := SI ho
      have v2 := hpv hp 2 (by simp)
      have ww2 := (y2 v2)
      obtain ⟨cq0, cq1, cq2, cq3, cq4, cq5, cq6, cq7, cq8, cq9, cq10, cq11, -⟩ := Qr.jP hH0
      exact V_ ho 113 ⟨pd hdf, ps hsz, KX hx, Gm, mm, cm, t5, E5, pp5, xx5, G5, m5, cc5, K2 y0, K2 y1, K2 y2, (fun _ => pS hsz), K2 y4, K2 y5, K2 y6, K2 y7, K2 y8, K2 y9, K2 y10, hB0, hB1, hH0, hH1, hH2, hbw⟩
     ·obtain rfl := SI ho
      have v1 := hpv hp 1 (by simp)
      have ww1 := (y1 v1)
      have v3 := hpv hp 3 (by simp)
      have ww3 := (y3 v3)
      refine C_ ho 114 (jw (Ck.Cut Q w.heap.size (w.heap.size + 4)) 4 (by decide) t1 G1 m1 cc1 t2 G2 m2 cc2 w' hH1 hH2) fun e u hg => ?_
      ·obtain ⟨Gm', mm', cm', rfl, hl, hb⟩ := hg
       refine ⟨.agg #[.int .i8 4, .slice Gm' mm' cm'], rfl, ?_⟩
       have hbs := hbw.size
       have hz1 := HZ.out
       have hzb := HZB.out
       have hzz : w.heap.size + 4 ≤ w'.heap.size := by have := zC hH0; omega
       have hbs2 := hb.size
       exact ⟨pd hdf, ps hsz, KX hx, Gm', mm', cm', t5, E5, pp5, xx5, G5, m5, cc5, K2 y0, K2 y1, K2 y2, K2 y3, (fun _ => ⟨pS hsz, Ck.Ly.weak hl (fun b _ hq => Qr.j6 hzz hq)⟩), K2 y5, K2 y6, K2 y7, K2 y8, K2 y9, K2 y10, (qJ hb hB0), (zw hb hB1), (zA hb (zC hH0) hH0), (Ck.Ly.later hH1 hb), (Ck.Ly.later hH2 hb), hbw.trans (hb.mono hbw.size)⟩
     ·obtain rfl := SI ho
      obtain ⟨q0', q1', q2', q3', q4', q5', q6', q7', q8', q9', q10'⟩ := HK.out w' hbw
      exact V_ ho 115 ⟨pd hdf, ps hsz, KX hx, Gm, mm, cm, t5, E5, pp5, xx5, G5, m5, cc5, K2 y0, K2 y1, K2 y2, K2 y3, K2 y4, (fun _ => pS hsz), K2 y6, K2 y7, K2 y8, K2 y9, K2 y10, hB0, hB1, hH0, hH1, hH2, hbw⟩
     ·obtain rfl := SI ho
      have v4 := hpv hp 4 (by simp)
      have ww4 := (y4 v4).1
      have v5 := hpv hp 5 (by simp)
      have ww5 := (y5 v5)
      refine C_ ho 116 ((CFI.out Gm mm cm w' ((y4 v4).2)).mono (fun _ _ hp => hp.names)) fun e u hg => ?_
      ·obtain ⟨t5', E5', pp5', xx5', G5', m5', cc5', rfl, hgn, hl, hb⟩ := hg
       refine ⟨.tuple #[.agg #[.int .i8 t5'.1, .slice G5' m5' cc5'], .agg #[.int .i64 E5', .int .i64 pp5', .string xx5']], rfl, ?_⟩
       have hbs := hbw.size
       have hz1 := HZ.out
       have hzb := HZB.out
       have hzz : w.heap.size + 4 ≤ w'.heap.size := by have := zC hH0; omega
       have hbs2 := hb.size
       exact ⟨pd hdf, ps hsz, KX hx, Gm, mm, cm, t5', E5', pp5', xx5', G5', m5', cc5', K2 y0, K2 y1, K2 y2, K2 y3, K2 y4, K2 y5, (fun _ => ⟨pS hsz, hgn, Ck.Ly.weak hl (fun b _ hq => Qr.j6 hzz hq)⟩), KN y7, KN y8, KN y9, KN y10, (qJ hb hB0), (zw hb hB1), (zA hb (zC hH0) hH0), (Ck.Ly.later hH1 hb), (Ck.Ly.later hH2 hb), hbw.trans (hb.mono hbw.size)⟩
     ·obtain rfl := SI ho
      have v6 := hpv hp 6 (by simp)
      have ww6 := (y6 v6).1
      exact V_ ho 117 ⟨pd hdf, ps hsz, KX hx, Gm, mm, cm, t5, E5, pp5, xx5, G5, m5, cc5, K2 y0, K2 y1, K2 y2, K2 y3, K2 y4, K2 y5, K2 y6, (fun _ => ⟨pS hsz, (z8 v6)⟩), K2 y8, K2 y9, K2 y10, hB0, hB1, hH0, hH1, hH2, hbw⟩
     ·obtain rfl := SI ho
      have v6 := hpv hp 6 (by simp)
      have ww6 := (y6 v6).1
      exact V_ ho 118 ⟨pd hdf, ps hsz, KX hx, Gm, mm, cm, t5, E5, pp5, xx5, G5, m5, cc5, K2 y0, K2 y1, K2 y2, K2 y3, K2 y4, K2 y5, K2 y6, K2 y7, (fun _ => ⟨pS hsz, (z8 v6)⟩), K2 y9, K2 y10, hB0, hB1, hH0, hH1, hH2, hbw⟩
     ·obtain rfl := SI ho
      have v7 := hpv hp 7 (by simp)
      have ww7 := (y7 v7).1
      obtain ⟨u0, u1, hbox⟩ := id hB0
      obtain ⟨bc0, bc1, bf0, bf1, -⟩ := zF hbox
      refine zN ho rfl (zT rfl (w2 := ((w'.setCell ⟨w.heap.size + 1, 0, none⟩ (.int .i8 t5.1)).setCell ⟨w.heap.size + 1, 1, none⟩ (.slice G5 m5 cc5))) ?_ ?_)
      ·exact EV
      ·have hsa : (((w'.setCell ⟨w.heap.size + 1, 0, none⟩ (.int .i8 t5.1)).setCell ⟨w.heap.size + 1, 1, none⟩ (.slice G5 m5 cc5))).heap.size = w'.heap.size := by simp
       have hbs := hbw.size
       have hz1 := HZ.out
       have hzb := HZB.out
       have hzz : w.heap.size + 4 ≤ w'.heap.size := by have := zC hH0; omega
       exact ⟨hdf, hsz, hx, Gm, mm, cm, t5, E5, pp5, xx5, G5, m5, cc5, K2 y0, K2 y1, K2 y2, K2 y3, K2 y4, K2 y5, K2 y6, K2 y7, K2 y8, (fun _ => ⟨(z8 ((y7 v7).2)), zL hbox _ _⟩), K2 y10, ⟨_, _, zL hbox _ _⟩, (qA hB1 (by omega)), (zM hH0 (by omega) _ _), (Ck.Ly.set2 hH1 (fun b hq => hq.ne (by omega) (by omega)) _ _), (Ck.Ly.set2 hH2 (fun b hq => hq.ne (by omega) (by omega)) _ _), zG hbw (by omega) _ _⟩
     ·obtain rfl := SI ho
      have v8 := hpv hp 8 (by simp)
      have ww8 := (y8 v8).1
      obtain ⟨u0, u1, u2, hbox⟩ := id hB1
      obtain ⟨bc0, bc1, bc2, bf0, bf1, bf2, -⟩ := cells3 hbox
      refine zN ho rfl (zT rfl (w2 := (((w'.setCell ⟨w.heap.size + 1 + 1, 0, none⟩ (.int .i64 E5)).setCell ⟨w.heap.size + 1 + 1, 1, none⟩ (.int .i64 pp5)).setCell ⟨w.heap.size + 1 + 1, 2, none⟩ (.string xx5))) ?_ ?_)
      ·exact EV
      ·have hsa : ((((w'.setCell ⟨w.heap.size + 1 + 1, 0, none⟩ (.int .i64 E5)).setCell ⟨w.heap.size + 1 + 1, 1, none⟩ (.int .i64 pp5)).setCell ⟨w.heap.size + 1 + 1, 2, none⟩ (.string xx5))).heap.size = w'.heap.size := by simp
       have hbs := hbw.size
       have hz1 := HZ.out
       have hzb := HZB.out
       have hzz : w.heap.size + 4 ≤ w'.heap.size := by have := zC hH0; omega
       exact ⟨hdf, hsz, hx, Gm, mm, cm, t5, E5, pp5, xx5, G5, m5, cc5, K2 y0, K2 y1, K2 y2, K2 y3, K2 y4, K2 y5, K2 y6, K2 y7, K2 y8, K2 y9, (fun _ => ⟨(z8 ((y8 v8).2)), zf hbox _ _ _⟩), (qB hB0 (by omega)), ⟨_, _, _, zf hbox _ _ _⟩, (zR hH0 (by omega) _ _ _), (Ck.Ly.zh hH1 (fun b hq => hq.ne (by omega) (by omega)) _ _ _), (Ck.Ly.zh hH2 (fun b hq => hq.ne (by omega) (by omega)) _ _ _), qD hbw (by omega) _ _ _⟩
    ·rintro listed u w' t ht hu ⟨-, -, -, Gm, mm, cm, t5, E5, pp5, xx5, G5, m5, cc5, y0, y1, y2, y3, y4, y5, y6, y7, y8, y9, y10, hB0, hB1, hH0, hH1, hH2, hbw⟩ hall
     have v6 := hall 6 (by decide)
     have v9 := hall 9 (by decide)
     have v10 := hall 10 (by decide)
     have HBX := k0_ (hfrom.out w' hbw)
     have hx := ((y9 v9).2)
     have hy := ((y10 v10).2)
     have hgn := ((y6 v6).2.1)
     have hl := ((y6 v6).2.2)
     clear y0 y1 y2 y3 y4 y5 y6 y7 y8 y9 y10 v6 v9 v10 hall hu
     clear hbw
     simp only [over, List.setIfInBounds_toArray, List.set_cons_succ, List.set_cons_zero] at ht
     subst ht
     obtain ⟨k0, k1', -, -, -⟩ := zF hx
     obtain ⟨k2', k3', k4', -, -, -, -⟩ := cells3 hy
     go_wp2_with fail
     refine ⟨rfl, .tuple #[.agg #[.int .i8 t5.1, .slice G5 m5 cc5], .agg #[.int .i64 E5, .int .i64 pp5, .string xx5]], by simp [results, Tryz.results36, go_sem, k0, k1', k2', k3', k4'], ?_⟩
     exact HS.out ▸ Qr.Post.mk hgn.1 hgn.2 (hl.weak (fun b _ hq => hq.out (by omega))) HBX.out
   ·have hk2 : p.n = 1 := by rw [hk] at hkn; exact hkn
    clear hkn
    obtain rfl : i = p.n := by have := hie; simp only [Tm.len] at this; omega
    have hq := HEQ.out
    rw [hk2] at hq
    have HS := k0_ ((show R = Ck.lift h (Ck.overL qv.D h [t1]) from hq.symm).trans (Qr.zFS qv.D h t1 sd HOK1.out hk))
    clear hq hie hr HEQ hk2
    have HKK := k0_ hk
    clear hk
    obtain ⟨q0', q1', q2', q3', q4', q5', q6', q7', q8', q9', q10'⟩ := HK.out wr HBW.out
    have j1 : ¬ ((p.n : Int) < p.n) := by omega
    have HCF := k0_ (fun (E : Int) (hE : E ≠ 0) (W : World) => zu (Ck.Cut Q w.heap.size (w.heap.size + 4)) h p E hE W)
    have HOT := k0_ (Ty.zm (HOK1.out)).1
    obtain ⟨y0, y1, y2, y3, y4, y5, y6, y7, y8, y9, y10, y11, yl⟩ := Qr.jP H8.out
    rw [HKK.out] at q0'
    go_wp2_with fail
    refine (qv.asC (Ck.Cut Q w.heap.size (w.heap.size + 4)) 4 t1 G1 m1 cc1 wr (by decide) HL1.out HOT.out).mono ?_
    rintro e w5 ⟨Gx, mx, cx, Gy, my, cy, rfl, hlx, hly, hb⟩
    have HLX := k0_ (hlx.weak (Q' := Ck.Cut Q w.heap.size (w.heap.size + 4)) (fun b _ hq => Qr.j6 LW.out hq))
    have HLY := k0_ (hly.weak (Q' := Ck.Cut Q w.heap.size (w.heap.size + 4)) (fun b _ hq => Qr.j6 LW.out hq))
    have LW := kz_ LW hb
    have HBW := kt_ HBW hb
    have LZ := kz_ LZ hb
    have H6 := kp_ hb H6
    have H7 := kp_ hb H7
    have H8 := kp_ hb H8
    have HL1 := Ck.kl_ HL1 hb
    clear hb hlx hly yl y0 y1 y2 y3 y4 y5 y6 y7 y8 y9 y10 y11
    clear q0' q1' q2' q3' q4' q5' q6' q7' q8' q9' q10'
    have hb8 := zW w5 (.cells #[.int .i8 (qv.D.asl 4 t1).1, .slice Gx mx cx] 25) (.cells #[.int .i8 (qv.D.asr 4 t1).1, .slice Gy my cy] 25)
    have HBX := k0_ (zS w5 (.cells #[.int .i8 (qv.D.asl 4 t1).1, .slice Gx mx cx] 25) (.cells #[.int .i8 (qv.D.asr 4 t1).1, .slice Gy my cy] 25)).1
    have HBY := k0_ (zS w5 (.cells #[.int .i8 (qv.D.asl 4 t1).1, .slice Gx mx cx] 25) (.cells #[.int .i8 (qv.D.asr 4 t1).1, .slice Gy my cy] 25)).2
    have LW := kz_ LW hb8
    have HBW := kt_ HBW hb8
    have LZ := kz_ LZ hb8
    have H6 := kp_ hb8 H6
    have H7 := kp_ hb8 H7
    have H8 := kp_ hb8 H8
    have HL1 := Ck.kl_ HL1 hb8
    have HLX := Ck.kl_ HLX hb8
    have HLY := Ck.kl_ HLY hb8
    clear hb8
    cases hag : qv.D.asO 4 t1 with
    | false =>
     exact c8_
    | true =>
     obtain ⟨q0', q1', q2', q3', q4', q5', q6', q7', q8', q9', q10'⟩ := HK.out _ HBW.out
     rw [HKK.out] at q0'
     have HF := k0_ (HS.out.trans (show _ = Ck.R.ok (qv.D.asl 4 t1) from by rw [hag, if_pos rfl]))
     obtain ⟨d0, d1, -, -, -⟩ := zF HBX.out
     have HRS := k0_ (zQ H6.out H7.out (show w.heap.size + 1 ≠ w.heap.size + 1 + 1 by omega) (hfrom.out _ HBW.out) (by omega) (by omega) (.int .i8 (qv.D.asl 4 t1).1) (.slice Gx mx cx) (.int .i64 0) (.int .i64 0) (.string ⟨#[]⟩))
     have HLF := k0_ ((HLX.out.set2 (X := w.heap.size + 1) (fun b hq => hq.ne (by omega) (by omega)) (.int .i8 (qv.D.asl 4 t1).1) (.slice Gx mx cx)).zh (X := w.heap.size + 1 + 1) (fun b hq => hq.ne (by omega) (by omega)) (.int .i64 0) (.int .i64 0) (.string ⟨#[]⟩))
     obtain ⟨z0, z1, z2, z3, zl⟩ := zF H6.out
     obtain ⟨y0, y1, y2, y3, y4, y5, yl⟩ := cells3 H7.out
     go_wp2_with fail
     clear z0 z1 z2 z3 zl y0 y1 y2 y3 y4 y5 yl
     generalize (((((((w5.alloc (.cells #[.int .i8 (qv.D.asl 4 t1).1, .slice Gx mx cx] 25)).alloc (.cells #[.int .i8 (qv.D.asr 4 t1).1, .slice Gy my cy] 25)).setCell ⟨w.heap.size + 1, 0, none⟩ (.int .i8 (qv.D.asl 4 t1).1)).setCell ⟨w.heap.size + 1, 1, none⟩ (.slice Gx mx cx)).setCell ⟨w.heap.size + 1 + 1, 0, none⟩ (.int .i64 0)).setCell ⟨w.heap.size + 1 + 1, 1, none⟩ (.int .i64 0)).setCell ⟨w.heap.size + 1 + 1, 2, none⟩ (.string ⟨#[]⟩)) = wz at *
     obtain ⟨k0, k1', -, -, -⟩ := zF HRS.out.1
     obtain ⟨k2', k3', k4', -, -, -, -⟩ := cells3 HRS.out.2.1
     refine bodyPost_ret (v := .tuple #[.agg #[.int .i8 (qv.D.asl 4 t1).1, .slice Gx mx cx], .agg #[.int .i64 0, .int .i64 0, .string ⟨#[]⟩]]) (by simp [results, Tryz.results36, go_sem, k0, k1', k2', k3', k4']) rfl ?_
     exact zF8
   ·have hk2 : p.n = 1 := by rw [hk] at hkn; exact hkn
    clear hkn
    obtain rfl : i = p.n := by have := hie; simp only [Tm.len] at this; omega
    have hq := HEQ.out
    rw [hk2] at hq
    have HS := k0_ ((show R = Ck.lift h (Ck.overL qv.D h [t1]) from hq.symm).trans (Qr.zFR qv.D h t1 sd HOK1.out hk))
    clear hq hie hr HEQ hk2
    have HKK := k0_ hk
    clear hk
    obtain ⟨q0', q1', q2', q3', q4', q5', q6', q7', q8', q9', q10'⟩ := HK.out wr HBW.out
    have j1 : ¬ ((p.n : Int) < p.n) := by omega
    have HCF := k0_ (fun (E : Int) (hE : E ≠ 0) (W : World) => zu (Ck.Cut Q w.heap.size (w.heap.size + 4)) h p E hE W)
    have HOT := k0_ (Ty.zm (HOK1.out)).1
    obtain ⟨y0, y1, y2, y3, y4, y5, y6, y7, y8, y9, y10, y11, yl⟩ := Qr.jP H8.out
    rw [HKK.out] at q0'
    go_wp2_with fail
    refine (qv.asC (Ck.Cut Q w.heap.size (w.heap.size + 4)) 4 t1 G1 m1 cc1 wr (by decide) HL1.out HOT.out).mono ?_
    rintro e w5 ⟨Gx, mx, cx, Gy, my, cy, rfl, hlx, hly, hb⟩
    have HLX := k0_ (hlx.weak (Q' := Ck.Cut Q w.heap.size (w.heap.size + 4)) (fun b _ hq => Qr.j6 LW.out hq))
    have HLY := k0_ (hly.weak (Q' := Ck.Cut Q w.heap.size (w.heap.size + 4)) (fun b _ hq => Qr.j6 LW.out hq))
    have LW := kz_ LW hb
    have HBW := kt_ HBW hb
    have LZ := kz_ LZ hb
    have H6 := kp_ hb H6
    have H7 := kp_ hb H7
    have H8 := kp_ hb H8
    have HL1 := Ck.kl_ HL1 hb
    clear hb hlx hly yl y0 y1 y2 y3 y4 y5 y6 y7 y8 y9 y10 y11
    clear q0' q1' q2' q3' q4' q5' q6' q7' q8' q9' q10'
    have hb8 := zW w5 (.cells #[.int .i8 (qv.D.asl 4 t1).1, .slice Gx mx cx] 25) (.cells #[.int .i8 (qv.D.asr 4 t1).1, .slice Gy my cy] 25)
    have HBX := k0_ (zS w5 (.cells #[.int .i8 (qv.D.asl 4 t1).1, .slice Gx mx cx] 25) (.cells #[.int .i8 (qv.D.asr 4 t1).1, .slice Gy my cy] 25)).1
    have HBY := k0_ (zS w5 (.cells #[.int .i8 (qv.D.asl 4 t1).1, .slice Gx mx cx] 25) (.cells #[.int .i8 (qv.D.asr 4 t1).1, .slice Gy my cy] 25)).2
    have LW := kz_ LW hb8
    have HBW := kt_ HBW hb8
    have LZ := kz_ LZ hb8
    have H6 := kp_ hb8 H6
    have H7 := kp_ hb8 H7
    have H8 := kp_ hb8 H8
    have HL1 := Ck.kl_ HL1 hb8
    have HLX := Ck.kl_ HLX hb8
    have HLY := Ck.kl_ HLY hb8
    clear hb8
    cases hag : qv.D.asO 4 t1 with
    | false =>
     exact c8_
    | true =>
     obtain ⟨q0', q1', q2', q3', q4', q5', q6', q7', q8', q9', q10'⟩ := HK.out _ HBW.out
     rw [HKK.out] at q0'
     have HF := k0_ (HS.out.trans (show _ = Ck.R.ok (qv.D.asr 4 t1) from by rw [hag, if_pos rfl]))
     obtain ⟨d0, d1, -, -, -⟩ := zF HBY.out
     have HRS := k0_ (zQ H6.out H7.out (show w.heap.size + 1 ≠ w.heap.size + 1 + 1 by omega) (hfrom.out _ HBW.out) (by omega) (by omega) (.int .i8 (qv.D.asr 4 t1).1) (.slice Gy my cy) (.int .i64 0) (.int .i64 0) (.string ⟨#[]⟩))
     have HLF := k0_ ((HLY.out.set2 (X := w.heap.size + 1) (fun b hq => hq.ne (by omega) (by omega)) (.int .i8 (qv.D.asr 4 t1).1) (.slice Gy my cy)).zh (X := w.heap.size + 1 + 1) (fun b hq => hq.ne (by omega) (by omega)) (.int .i64 0) (.int .i64 0) (.string ⟨#[]⟩))
     obtain ⟨z0, z1, z2, z3, zl⟩ := zF H6.out
     obtain ⟨y0, y1, y2, y3, y4, y5, yl⟩ := cells3 H7.out
     go_wp2_with fail
     clear z0 z1 z2 z3 zl y0 y1 y2 y3 y4 y5 yl
     generalize (((((((w5.alloc (.cells #[.int .i8 (qv.D.asl 4 t1).1, .slice Gx mx cx] 25)).alloc (.cells #[.int .i8 (qv.D.asr 4 t1).1, .slice Gy my cy] 25)).setCell ⟨w.heap.size + 1, 0, none⟩ (.int .i8 (qv.D.asr 4 t1).1)).setCell ⟨w.heap.size + 1, 1, none⟩ (.slice Gy my cy)).setCell ⟨w.heap.size + 1 + 1, 0, none⟩ (.int .i64 0)).setCell ⟨w.heap.size + 1 + 1, 1, none⟩ (.int .i64 0)).setCell ⟨w.heap.size + 1 + 1, 2, none⟩ (.string ⟨#[]⟩)) = wz at *
     obtain ⟨k0, k1', -, -, -⟩ := zF HRS.out.1
     obtain ⟨k2', k3', k4', -, -, -, -⟩ := cells3 HRS.out.2.1
     refine bodyPost_ret (v := .tuple #[.agg #[.int .i8 (qv.D.asr 4 t1).1, .slice Gy my cy], .agg #[.int .i64 0, .int .i64 0, .string ⟨#[]⟩]]) (by simp [results, Tryz.results36, go_sem, k0, k1', k2', k3', k4']) rfl ?_
     exact zF8
   ·have hk2 : p.n = 1 := by rw [hk] at hkn; exact hkn
    clear hkn
    obtain rfl : i = p.n := by have := hie; simp only [Tm.len] at this; omega
    have hq := HEQ.out
    rw [hk2] at hq
    have HS := k0_ ((show R = Ck.lift h (Ck.overL qv.D h [t1]) from hq.symm).trans (Qr.zFQ qv.D h t1 hk))
    clear hq hie hr HEQ hk2
    have HOT := k0_ (Ty.zm (Ck.qW HHO.out (by rw [hk]; rfl))).1
    have HOX := k0_ (fun (_ : qv.D.asO 5 (Ck.TT h) = true) => And.intro (Ty.zm (sd.l 5 _ (Ck.qW HHO.out (by rw [hk]; rfl)))).1 (Ty.zm (sd.r 5 _ (Ck.qW HHO.out (by rw [hk]; rfl)))).1)
    have k6 : (h.kind == 6) = false := by rw [hk]; rfl
    have k8 : (h.kind == 8) = false := by rw [hk]; rfl
    have k9 : (h.kind == 9) = false := by rw [hk]; rfl
    have k10 : (h.kind == 10) = false := by rw [hk]; rfl
    have k11 : (h.kind == 11) = false := by rw [hk]; rfl
    have HKK := k0_ hk
    clear hk
    obtain ⟨q0', q1', q2', q3', q4', q5', q6', q7', q8', q9', q10'⟩ := HK.out wr HBW.out
    have j1 : ¬ ((p.n : Int) < p.n) := by omega
    obtain ⟨y0, y1, y2, y3, y4, y5, y6, y7, y8, y9, y10, y11, yl⟩ := Qr.jP H8.out
    have HT4 := k0_ ((HT.out.weak (Q' := Ck.Cut Q w.heap.size (w.heap.size + 4)) (fun b hl hq => Qr.to4 HZB.out hl hq)).later HBW.out)
    have LWF := k0_ LW.out
    go_wp2_with fail
    refine (zBt qv (Ck.Cut Q w.heap.size (w.heap.size + 4)) h p t1 G1 m1 cc1 (.int .i8 t2.1) (.slice G2 m2 cc2) (.int .i8 t3.1) (.slice G3 m3 cc3) wr HL1.out HT4.out HKK.out HOT.out HOX.out).mono ?_
    exact c5_
   ·have hk2 : p.n = 1 := by rw [hk] at hkn; exact hkn
    clear hkn
    obtain rfl : i = p.n := by have := hie; simp only [Tm.len] at this; omega
    have hq := HEQ.out
    rw [hk2] at hq
    have HS := k0_ ((show R = Ck.lift h (Ck.overL qv.D h [t1]) from hq.symm).trans (Qr.zFP qv.D h t1 hk))
    clear hq hie hr HEQ hk2
    have HOT := k0_ (Ty.zm (Ck.qW HHO.out (by rw [hk]; rfl))).1
    have HOX := k0_ (fun (_ : qv.D.asO 5 (Ck.TT h) = true) => And.intro (Ty.zm (sd.l 5 _ (Ck.qW HHO.out (by rw [hk]; rfl)))).1 (Ty.zm (sd.r 5 _ (Ck.qW HHO.out (by rw [hk]; rfl)))).1)
    have k6 : (h.kind == 6) = false := by rw [hk]; rfl
    have k8 : (h.kind == 8) = false := by rw [hk]; rfl
    have k9 : (h.kind == 9) = false := by rw [hk]; rfl
    have k10 : (h.kind == 10) = false := by rw [hk]; rfl
    have k11 : (h.kind == 11) = false := by rw [hk]; rfl
    have HKK := k0_ hk
    clear hk
    obtain ⟨q0', q1', q2', q3', q4', q5', q6', q7', q8', q9', q10'⟩ := HK.out wr HBW.out
    have j1 : ¬ ((p.n : Int) < p.n) := by omega
    obtain ⟨y0, y1, y2, y3, y4, y5, y6, y7, y8, y9, y10, y11, yl⟩ := Qr.jP H8.out
    have HT4 := k0_ ((HT.out.weak (Q' := Ck.Cut Q w.heap.size (w.heap.size + 4)) (fun b hl hq => Qr.to4 HZB.out hl hq)).later HBW.out)
    have LWF := k0_ LW.out
    go_wp2_with fail
    refine (zBs qv (Ck.Cut Q w.heap.size (w.heap.size + 4)) h p t1 G1 m1 cc1 (.int .i8 t2.1) (.slice G2 m2 cc2) (.int .i8 t3.1) (.slice G3 m3 cc3) wr HL1.out HT4.out HKK.out HOT.out HOX.out).mono ?_
    exact c5_
   ·have hk2 : p.n = 2 := by rw [hk] at hkn; exact hkn
    clear hkn
    obtain rfl : i = p.n := by have := hie; simp only [Tm.len] at this; omega
    have hq := HEQ.out
    rw [hk2] at hq
    have HS := k0_ ((show R = Ck.lift h (Ck.overL qv.D h [t1, t2]) from hq.symm).trans (Qr.zFO qv.D h t1 t2 hk))
    clear hq hie hr HEQ hk2
    have k6 : (h.kind == 6) = false := by rw [hk]; rfl
    have k8 : (h.kind == 8) = false := by rw [hk]; rfl
    have k9 : (h.kind == 9) = false := by rw [hk]; rfl
    have k10 : (h.kind == 10) = false := by rw [hk]; rfl
    have k11 : (h.kind == 11) = false := by rw [hk]; rfl
    have HKK := k0_ hk
    clear hk
    obtain ⟨q0', q1', q2', q3', q4', q5', q6', q7', q8', q9', q10'⟩ := HK.out wr HBW.out
    have j1 : ¬ ((p.n : Int) < p.n) := by omega
    obtain ⟨y0, y1, y2, y3, y4, y5, y6, y7, y8, y9, y10, y11, yl⟩ := Qr.jP H8.out
    have HT4 := k0_ ((HT.out.weak (Q' := Ck.Cut Q w.heap.size (w.heap.size + 4)) (fun b hl hq => Qr.to4 HZB.out hl hq)).later HBW.out)
    have LWF := k0_ LW.out
    go_wp2_with fail
    refine (zDF qv (Ck.Cut Q w.heap.size (w.heap.size + 4)) h p t1 G1 m1 cc1 t2 G2 m2 cc2 (.int .i8 t3.1) (.slice G3 m3 cc3) wr HL1.out HL2.out HT4.out HKK.out).mono ?_
    exact c5_
   ·have hk2 : p.n = 1 := by rw [hk] at hkn; exact hkn
    clear hkn
    obtain rfl : i = p.n := by have := hie; simp only [Tm.len] at this; omega
    have hq := HEQ.out
    rw [hk2] at hq
    have HS := k0_ ((show R = Ck.lift h (Ck.overL qv.D h [t1]) from hq.symm).trans (Qr.zFN qv.D h t1 (Ck.qW HHO.out (by rw [hk]; rfl)) hk))
    clear hq hie hr HEQ hk2
    have k6 : (h.kind == 6) = false := by rw [hk]; rfl
    have k8 : (h.kind == 8) = false := by rw [hk]; rfl
    have k9 : (h.kind == 9) = false := by rw [hk]; rfl
    have k10 : (h.kind == 10) = false := by rw [hk]; rfl
    have k11 : (h.kind == 11) = false := by rw [hk]; rfl
    have HKK := k0_ hk
    clear hk
    obtain ⟨q0', q1', q2', q3', q4', q5', q6', q7', q8', q9', q10'⟩ := HK.out wr HBW.out
    have j1 : ¬ ((p.n : Int) < p.n) := by omega
    obtain ⟨y0, y1, y2, y3, y4, y5, y6, y7, y8, y9, y10, y11, yl⟩ := Qr.jP H8.out
    have HT4 := k0_ ((HT.out.weak (Q' := Ck.Cut Q w.heap.size (w.heap.size + 4)) (fun b hl hq => Qr.to4 HZB.out hl hq)).later HBW.out)
    have LWF := k0_ LW.out
    go_wp2_with fail
    refine (zDG qv (Ck.Cut Q w.heap.size (w.heap.size + 4)) h p t1 G1 m1 cc1 (.int .i8 t2.1) (.slice G2 m2 cc2) (.int .i8 t3.1) (.slice G3 m3 cc3) wr HL1.out HT4.out HKK.out).mono ?_
    exact c5_
   ·have hk2 : p.n = 1 := by rw [hk] at hkn; exact hkn
    clear hkn
    obtain rfl : i = p.n := by have := hie; simp only [Tm.len] at this; omega
    have hq := HEQ.out
    rw [hk2] at hq
    have HS := k0_ ((show R = Ck.lift h (Ck.overL qv.D h [t1]) from hq.symm).trans (Qr.zFM qv.D h t1 (Ck.xR HHO.out (by rw [hk]; rfl)) (HCA.out hk) hk))
    clear hq hie hr HEQ hk2
    have HC17 := k0_ (HCA.out hk)
    have HU4 := k0_ ((HU.out.weak (Q' := Ck.Cut Q w.heap.size (w.heap.size + 4)) (fun b hl hq => Qr.to4 HZB.out hl hq)).later HBW.out)
    have k6 : (h.kind == 6) = false := by rw [hk]; rfl
    have k8 : (h.kind == 8) = false := by rw [hk]; rfl
    have k9 : (h.kind == 9) = false := by rw [hk]; rfl
    have k10 : (h.kind == 10) = false := by rw [hk]; rfl
    have k11 : (h.kind == 11) = false := by rw [hk]; rfl
    have HKK := k0_ hk
    clear hk
    obtain ⟨q0', q1', q2', q3', q4', q5', q6', q7', q8', q9', q10'⟩ := HK.out wr HBW.out
    have j1 : ¬ ((p.n : Int) < p.n) := by omega
    obtain ⟨y0, y1, y2, y3, y4, y5, y6, y7, y8, y9, y10, y11, yl⟩ := Qr.jP H8.out
    have HT4 := k0_ ((HT.out.weak (Q' := Ck.Cut Q w.heap.size (w.heap.size + 4)) (fun b hl hq => Qr.to4 HZB.out hl hq)).later HBW.out)
    have LWF := k0_ LW.out
    go_wp2_with fail
    refine (zAW qv (Ck.Cut Q w.heap.size (w.heap.size + 4)) h p t1 G1 m1 cc1 (.int .i8 t2.1) (.slice G2 m2 cc2) (.int .i8 t3.1) (.slice G3 m3 cc3) wr HL1.out HT4.out HKK.out HC17.out HU4.out).mono ?_
    exact c5_
  | node h1 k1 r =>
   have hli := hr.lies
   have hsb := hr.sub
   have G1' := hr.good.head
   simp only [Tm.len, Tm.nodes] at hie hsb
   obtain ⟨bb, oo, q, hA, hcl, hft, hkl, hrl⟩ := hli
   have hkt := HIH.out h1 k1 q (by omega) ⟨hft, hkl⟩ G1'.1
   have HC := k0_ (hkt (Ck.Cut Q w.heap.size (w.heap.size + 4)) l A n c wr (HWB.out.trans (HBW.out.mono HWB.out.size)) HQ4.out (HE4.out.below HBW.out) HCH.out (by have := HBB.out; omega))
   have d0 := zB (hcl 0 _ rfl) (HWB.out.trans (HBW.out.mono HWB.out.size))
   have d1 := zB (hcl 1 _ rfl) (HWB.out.trans (HBW.out.mono HWB.out.size))
   have d2 := zB (hcl 2 _ rfl) (HWB.out.trans (HBW.out.mono HWB.out.size))
   have d3 := zB (hcl 3 _ rfl) (HWB.out.trans (HBW.out.mono HWB.out.size))
   have d4 := zB (hcl 4 _ rfl) (HWB.out.trans (HBW.out.mono HWB.out.size))
   have d5 := zB (hcl 5 _ rfl) (HWB.out.trans (HBW.out.mono HWB.out.size))
   have d6 := zB (hcl 6 _ rfl) (HWB.out.trans (HBW.out.mono HWB.out.size))
   have d7 := zB (hcl 7 _ rfl) (HWB.out.trans (HBW.out.mono HWB.out.size))
   have d8 := zB (hcl 8 _ rfl) (HWB.out.trans (HBW.out.mono HWB.out.size))
   have d9 := zB (hcl 9 _ rfl) (HWB.out.trans (HBW.out.mono HWB.out.size))
   have d10 := zB (hcl 10 _ rfl) (HWB.out.trans (HBW.out.mono HWB.out.size))
   rw [Nat.add_zero] at d0
   have HRL := k0_ hrl
   have HGD := k0_ G1'.2
   have j1 : (i : Int) < p.n := by omega
   have j2 : (0 : Int) ≤ i ∧ (i : Int) < p.n := by omega
   have HAA := k0_ hA
   have hi3 : i < 3 := by omega
   have HIE := k0_ (show i + 1 + Tm.len r = p.n by omega)
   have HSB := k0_ (show Tm.nodes r ≤ Tm.nodes kids by omega)
   obtain ⟨q0', q1', q2', q3', q4', q5', q6', q7', q8', q9', q10'⟩ := HK.out wr HBW.out
   clear hkt hr hcl hft hkl hrl G1' hA hie hsb
   obtain ⟨TA, tn, tc, UA, un, uc, pA, pn, pc⟩ := p
   dsimp only [tC_, tD_] at *
   obtain rfl : pA = some ⟨bb, oo, none⟩ := HAA.out
   clear HAA
   go_wp2_with fail
   refine HC.out.mono ?_
   rintro e wa hp
   obtain ⟨t, E, ep, xx, G, m, cg, rfl, hgn, hl, hb⟩ := hp.names
   have HP := k0_ hgn
   have HLT : Hid (Ck.Ly (Ck.Cut Q w.heap.size (w.heap.size + 4)) wa t G m cg) := k0_ (hl.weak (fun b _ hq => Qr.j6 LW.out hq))
   have LW := kz_ LW hb
   have HBW := kt_ HBW hb
   have LZ := kz_ LZ hb
   have H6 := kp_ hb H6
   have H7 := kp_ hb H7
   have H8 := kp_ hb H8
   have HL1 := Ck.kl_ HL1 hb
   have HL2 := Ck.kl_ HL2 hb
   have HL3 := Ck.kl_ HL3 hb
   clear hgn hl hp hb HC
   clear q0' q1' q2' q3' q4' q5' q6' q7' q8' q9' q10'
   clear d0 d1 d2 d3 d4 d5 d6 d7 d8 d9 d10
   have hb8 := zW wa (.cells #[.int .i8 t.1, .slice G m cg] 25) (.cells #[.int .i64 E, .int .i64 ep, .string xx] 35)
   have HX1 := k0_ (zS wa (.cells #[.int .i8 t.1, .slice G m cg] 25) (.cells #[.int .i64 E, .int .i64 ep, .string xx] 35)).1
   have HX2 := k0_ (zS wa (.cells #[.int .i8 t.1, .slice G m cg] 25) (.cells #[.int .i64 E, .int .i64 ep, .string xx] 35)).2
   have LA := k0_ (show w.heap.size + 4 ≤ wa.heap.size from LW.out)
   have LW := kz_ LW hb8
   have HBW := kt_ HBW hb8
   have LZ := kz_ LZ hb8
   have H6 := kp_ hb8 H6
   have H7 := kp_ hb8 H7
   have H8 := kp_ hb8 H8
   have HL1 := Ck.kl_ HL1 hb8
   have HL2 := Ck.kl_ HL2 hb8
   have HL3 := Ck.kl_ HL3 hb8
   have HLT := Ck.kl_ HLT hb8
   clear hb8
   obtain ⟨e3, e4, -, -, -⟩ := zF HX1.out
   obtain ⟨e0, e1, e2, -, -, -, -⟩ := cells3 HX2.out
   by_cases hE1 : E = 0
   ·have hgen := (Qr.R.qh HP.out.1 HP.out.2).1 hE1
    have HOKT := k0_ hgen.1
    subst hE1
    clear hgen
    have HEQ := k0_ (show Ck.seqT (Cg.ty qv.D K) l (fun ts => Ck.lift h (Ck.overL qv.D h ts)) r ([t1, t2, t3].take i ++ [t]) = R from by rw [← HEQ.out]; show _ = Ck.bnd (Cg.ty qv.D K h1 k1 l) _; rw [HOKT.out]; rfl)
    obtain ⟨y0, y1, y2, y3, y4, y5, y6, y7, y8, y9, y10, y11, yl⟩ := Qr.jP H8.out
    have h48 : b1.heap.size ≤ w1.heap.size := by have := HZB.out; have := HZ.out; omega
    rcases (by omega : i = 0 ∨ i = 1 ∨ i = 2) with rfl | rfl | rfl
    ·go_wp2_with fail
     clear e0 e1 e2 e3 e4 yl y0 y1 y2 y3 y4 y5 y6 y7 y8 y9 y10 y11
     have HNR := k0_ (show Qr.ORel (qv.D.ca = true) (Ck.Cut Q w.heap.size (w.heap.size + 4)) wb b1 ((((wa.alloc (.cells #[.int .i8 t.1, .slice G m cg] 25)).alloc (.cells #[.int .i64 0, .int .i64 ep, .string xx] 35)).setCell ⟨w1.heap.size, 0, none⟩ (.int .i8 t.1)).setCell ⟨w1.heap.size, 1, none⟩ (.slice G m cg)) w.heap.size w1.heap.size (some ⟨bb, oo, none⟩) (Cg.ty qv.D K) l (fun ts => Ck.lift h (Ck.overL qv.D h ts)) R kids pn 1 r t t2 t3 G m cg G2 m2 cc2 G3 m3 cc3 from ⟨HEQ.out, HIE.out, HRL.out, HGD.out, HSB.out, Qr.yc HBW.out h48 0 1 (.int .i8 t.1) (.slice G m cg), Qr.zGU H8.out (.int .i8 t.1) (.slice G m cg), Qr.jC H6.out (show w1.heap.size ≠ w.heap.size + 1 by have := HZ.out; omega) 0 1 (.int .i8 t.1) (.slice G m cg), Qr.jC H7.out (show w1.heap.size ≠ w.heap.size + 1 + 1 by have := HZ.out; omega) 0 1 (.int .i8 t.1) (.slice G m cg), (Qr.qf HLT.out (X := w1.heap.size) (fun b hq => Qr.ja HZ.out hq) 0 1 (.int .i8 t.1) (.slice G m cg)), (Qr.qf HL2.out (X := w1.heap.size) (fun b hq => Qr.ja HZ.out hq) 0 1 (.int .i8 t.1) (.slice G m cg)), (Qr.qf HL3.out (X := w1.heap.size) (fun b hq => Qr.ja HZ.out hq) 0 1 (.int .i8 t.1) (.slice G m cg)), (Cg.jd HOKT.out), HOK2.out, HOK3.out, Nat.le_trans LW.out (Nat.le_of_eq (show _ = (((((wa.alloc (.cells #[.int .i8 t.1, .slice G m cg] 25)).alloc (.cells #[.int .i64 0, .int .i64 ep, .string xx] 35)).setCell ⟨w1.heap.size, 0, none⟩ (.int .i8 t.1)).setCell ⟨w1.heap.size, 1, none⟩ (.slice G m cg))).heap.size by simp))⟩)
     generalize ((((wa.alloc (.cells #[.int .i8 t.1, .slice G m cg] 25)).alloc (.cells #[.int .i64 0, .int .i64 ep, .string xx] 35)).setCell ⟨w1.heap.size, 0, none⟩ (.int .i8 t.1)).setCell ⟨w1.heap.size, 1, none⟩ (.slice G m cg)) = wn at *
     go_roundw
     case rel => exact ⟨1, r, _, _, _, _, _, _, _, _, _, _, _, _, by go_num, HNR.out⟩
     case measure => simp [intOf]; omega
    ·go_wp2_with fail
     clear e0 e1 e2 e3 e4 yl y0 y1 y2 y3 y4 y5 y6 y7 y8 y9 y10 y11
     have HNR := k0_ (show Qr.ORel (qv.D.ca = true) (Ck.Cut Q w.heap.size (w.heap.size + 4)) wb b1 ((((wa.alloc (.cells #[.int .i8 t.1, .slice G m cg] 25)).alloc (.cells #[.int .i64 0, .int .i64 ep, .string xx] 35)).setCell ⟨w1.heap.size, 2, none⟩ (.int .i8 t.1)).setCell ⟨w1.heap.size, 3, none⟩ (.slice G m cg)) w.heap.size w1.heap.size (some ⟨bb, oo, none⟩) (Cg.ty qv.D K) l (fun ts => Ck.lift h (Ck.overL qv.D h ts)) R kids pn 2 r t1 t t3 G1 m1 cc1 G m cg G3 m3 cc3 from ⟨HEQ.out, HIE.out, HRL.out, HGD.out, HSB.out, Qr.yc HBW.out h48 2 3 (.int .i8 t.1) (.slice G m cg), Qr.zGT H8.out (.int .i8 t.1) (.slice G m cg), Qr.jC H6.out (show w1.heap.size ≠ w.heap.size + 1 by have := HZ.out; omega) 2 3 (.int .i8 t.1) (.slice G m cg), Qr.jC H7.out (show w1.heap.size ≠ w.heap.size + 1 + 1 by have := HZ.out; omega) 2 3 (.int .i8 t.1) (.slice G m cg), (Qr.qf HL1.out (X := w1.heap.size) (fun b hq => Qr.ja HZ.out hq) 2 3 (.int .i8 t.1) (.slice G m cg)), (Qr.qf HLT.out (X := w1.heap.size) (fun b hq => Qr.ja HZ.out hq) 2 3 (.int .i8 t.1) (.slice G m cg)), (Qr.qf HL3.out (X := w1.heap.size) (fun b hq => Qr.ja HZ.out hq) 2 3 (.int .i8 t.1) (.slice G m cg)), HOK1.out, (Cg.jd HOKT.out), HOK3.out, Nat.le_trans LW.out (Nat.le_of_eq (show _ = (((((wa.alloc (.cells #[.int .i8 t.1, .slice G m cg] 25)).alloc (.cells #[.int .i64 0, .int .i64 ep, .string xx] 35)).setCell ⟨w1.heap.size, 2, none⟩ (.int .i8 t.1)).setCell ⟨w1.heap.size, 3, none⟩ (.slice G m cg))).heap.size by simp))⟩)
     generalize ((((wa.alloc (.cells #[.int .i8 t.1, .slice G m cg] 25)).alloc (.cells #[.int .i64 0, .int .i64 ep, .string xx] 35)).setCell ⟨w1.heap.size, 2, none⟩ (.int .i8 t.1)).setCell ⟨w1.heap.size, 3, none⟩ (.slice G m cg)) = wn at *
     go_roundw
     case rel => exact ⟨2, r, _, _, _, _, _, _, _, _, _, _, _, _, by go_num, HNR.out⟩
     case measure => simp [intOf]; omega
    ·go_wp2_with fail
     clear e0 e1 e2 e3 e4 yl y0 y1 y2 y3 y4 y5 y6 y7 y8 y9 y10 y11
     have HNR := k0_ (show Qr.ORel (qv.D.ca = true) (Ck.Cut Q w.heap.size (w.heap.size + 4)) wb b1 ((((wa.alloc (.cells #[.int .i8 t.1, .slice G m cg] 25)).alloc (.cells #[.int .i64 0, .int .i64 ep, .string xx] 35)).setCell ⟨w1.heap.size, 4, none⟩ (.int .i8 t.1)).setCell ⟨w1.heap.size, 5, none⟩ (.slice G m cg)) w.heap.size w1.heap.size (some ⟨bb, oo, none⟩) (Cg.ty qv.D K) l (fun ts => Ck.lift h (Ck.overL qv.D h ts)) R kids pn 3 r t1 t2 t G1 m1 cc1 G2 m2 cc2 G m cg from ⟨HEQ.out, HIE.out, HRL.out, HGD.out, HSB.out, Qr.yc HBW.out h48 4 5 (.int .i8 t.1) (.slice G m cg), Qr.zGS H8.out (.int .i8 t.1) (.slice G m cg), Qr.jC H6.out (show w1.heap.size ≠ w.heap.size + 1 by have := HZ.out; omega) 4 5 (.int .i8 t.1) (.slice G m cg), Qr.jC H7.out (show w1.heap.size ≠ w.heap.size + 1 + 1 by have := HZ.out; omega) 4 5 (.int .i8 t.1) (.slice G m cg), (Qr.qf HL1.out (X := w1.heap.size) (fun b hq => Qr.ja HZ.out hq) 4 5 (.int .i8 t.1) (.slice G m cg)), (Qr.qf HL2.out (X := w1.heap.size) (fun b hq => Qr.ja HZ.out hq) 4 5 (.int .i8 t.1) (.slice G m cg)), (Qr.qf HLT.out (X := w1.heap.size) (fun b hq => Qr.ja HZ.out hq) 4 5 (.int .i8 t.1) (.slice G m cg)), HOK1.out, HOK2.out, (Cg.jd HOKT.out), Nat.le_trans LW.out (Nat.le_of_eq (show _ = (((((wa.alloc (.cells #[.int .i8 t.1, .slice G m cg] 25)).alloc (.cells #[.int .i64 0, .int .i64 ep, .string xx] 35)).setCell ⟨w1.heap.size, 4, none⟩ (.int .i8 t.1)).setCell ⟨w1.heap.size, 5, none⟩ (.slice G m cg))).heap.size by simp))⟩)
     generalize ((((wa.alloc (.cells #[.int .i8 t.1, .slice G m cg] 25)).alloc (.cells #[.int .i64 0, .int .i64 ep, .string xx] 35)).setCell ⟨w1.heap.size, 4, none⟩ (.int .i8 t.1)).setCell ⟨w1.heap.size, 5, none⟩ (.slice G m cg)) = wn at *
     go_roundw
     case rel => exact ⟨3, r, _, _, _, _, _, _, _, _, _, _, _, _, by go_num, HNR.out⟩
     case measure => simp [intOf]; omega
   ·have hgen := (Qr.R.qh HP.out.1 HP.out.2).2 hE1
    have HBD := k0_ hgen
    have hne : (E != 0) = true := by simpa using hE1
    have HNE := k0_ hE1
    clear hgen hE1 e3 e4
    have HRR := k0_ (HEQ.out.symm.trans (show Ck.bnd (Cg.ty qv.D K h1 k1 l) _ = Ck.R.bad E ep xx from by rw [HBD.out.1]; rfl))
    have nz1 : w.heap.size + 1 ≠ wa.heap.size + 1 := by have := LA.out; omega
    have nz2 : w.heap.size + 1 + 1 ≠ wa.heap.size + 1 := by have := LA.out; omega
    have nz3 : w.heap.size + 1 ≠ wa.heap.size := by have := LA.out; omega
    have nz4 : w.heap.size ≠ wa.heap.size := by have := LA.out; omega
    go_upto_region 7 with fail
    generalize hwc : (wa.alloc (.cells #[.int .i8 t.1, .slice G m cg] 25)).alloc (.cells #[.int .i64 E, .int .i64 ep, .string xx] 35) = wc at *
    clear hwc
    have HZL := k0_ (Ck.Ly.zero (Ck.Cut Q w.heap.size (w.heap.size + 3)) wc)
    have HRS := k0_ (zQ H6.out H7.out (show w.heap.size + 1 ≠ w.heap.size + 1 + 1 by omega) (hfrom.out _ HBW.out) (by omega) (by omega) (.int .i8 0) (.slice none 0 0) (.int .i64 E) (.int .i64 ep) (.string xx))
    have HLF := k0_ ((HZL.out.set2 (X := w.heap.size + 1) (fun b hq => hq.ne (by omega) (by omega)) (.int .i8 0) (.slice none 0 0)).zh (X := w.heap.size + 1 + 1) (fun b hq => hq.ne (by omega) (by omega)) (.int .i64 E) (.int .i64 ep) (.string xx))
    obtain ⟨z0, z1, z2, z3, zl⟩ := zF H6.out
    obtain ⟨y0, y1, y2, y3, y4, y5, yl⟩ := cells3 H7.out
    go_wp2_with fail
    go_region
    have HRS := k0_ (show (((((wc.setCell ⟨w.heap.size + 1, 0, none⟩ (.int .i8 0)).setCell ⟨w.heap.size + 1, 1, none⟩ (.slice none 0 0)).setCell ⟨w.heap.size + 1 + 1, 0, none⟩ (.int .i64 E)).setCell ⟨w.heap.size + 1 + 1, 1, none⟩ (.int .i64 ep)).setCell ⟨w.heap.size + 1 + 1, 2, none⟩ (.string xx)).drew.heap[w.heap.size + 1]? = _ ∧ (((((wc.setCell ⟨w.heap.size + 1, 0, none⟩ (.int .i8 0)).setCell ⟨w.heap.size + 1, 1, none⟩ (.slice none 0 0)).setCell ⟨w.heap.size + 1 + 1, 0, none⟩ (.int .i64 E)).setCell ⟨w.heap.size + 1 + 1, 1, none⟩ (.int .i64 ep)).setCell ⟨w.heap.size + 1 + 1, 2, none⟩ (.string xx)).drew.heap[w.heap.size + 1 + 1]? = _ ∧ Below w.heap.size w (((((wc.setCell ⟨w.heap.size + 1, 0, none⟩ (.int .i8 0)).setCell ⟨w.heap.size + 1, 1, none⟩ (.slice none 0 0)).setCell ⟨w.heap.size + 1 + 1, 0, none⟩ (.int .i64 E)).setCell ⟨w.heap.size + 1 + 1, 1, none⟩ (.int .i64 ep)).setCell ⟨w.heap.size + 1 + 1, 2, none⟩ (.string xx)).drew from ⟨HRS.out.1, HRS.out.2.1, HRS.out.2.2.drew⟩)
    have HLF := k0_ (HLF.out.later (Below.refl _ _).drew)
    clear z0 z1 z2 z3 zl y0 y1 y2 y3 y4 y5 yl
    generalize (((((wc.setCell ⟨w.heap.size + 1, 0, none⟩ (.int .i8 0)).setCell ⟨w.heap.size + 1, 1, none⟩ (.slice none 0 0)).setCell ⟨w.heap.size + 1 + 1, 0, none⟩ (.int .i64 E)).setCell ⟨w.heap.size + 1 + 1, 1, none⟩ (.int .i64 ep)).setCell ⟨w.heap.size + 1 + 1, 2, none⟩ (.string xx)).drew = wz at *
    obtain ⟨k0, k1', -, -, -⟩ := zF HRS.out.1
    obtain ⟨k2', k3', k4', -, -, -, -⟩ := cells3 HRS.out.2.1
    go_wp2_with fail
    refine bodyPost_ret (v := .tuple #[.agg #[.int .i8 0, .slice none 0 0], .agg #[.int .i64 E, .int .i64 ep, .string xx]]) (by simp [results, Tryz.results36, go_sem, k0, k1', k2', k3', k4']) rfl ?_
    exact zDr
end Go.Proofs.YtkdnnleanoompabGreatDoor
