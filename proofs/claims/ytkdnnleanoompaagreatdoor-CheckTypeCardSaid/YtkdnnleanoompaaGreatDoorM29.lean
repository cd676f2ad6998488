import Derived.Test.YtkdnnleanoompaaGreatDoorQr22
import Derived.Test.YtkdnnleanoompaaGreatDoorQr6
import Derived.Test.YtkdnnleanoompaaGreatDoorQr8
import Derived.Test.YtkdnnleanoompaaGreatDoorQr9
namespace Go.Proofs.YtkdnnleanoompaaGreatDoor
open Go.RowKit
theorem zAe (qv : Qr.Qv) (sd : Qr.Sd qv.D) (K : Nat) : ∀ (h : Hd) (kids : Tm) (p : Pl) (wb : World), Tm.nodes kids < K -> Tm.Is wb h kids p -> Qr.Good (qv.D.ca = true) h kids -> Qr.TellsOf qv K wb h kids p := by
 induction K with
 | zero => intro _ _ _ _ hK; omega
 | succ K ih =>
 intro h kids p wb hK hIs hg Q l A n c w hwb hQ hE hch hlen;obtain ⟨hik, hln, -⟩ := Ck.jd hg.1;have hh := Ck.kV hg.1;have hgF := hg.kids;have hQ1 : ∀ W : World, Below w.heap.size w W -> ∀ b, b < wb.heap.size -> Ck.Cut Q w.heap.size (w.heap.size + 3) b := fun W _ b hb => .inl ⟨hQ b hb, Nat.lt_of_lt_of_le hb hwb.size⟩
 have hw1 : ∀ W : World, Below w.heap.size w W -> Below wb.heap.size wb W := fun W hb => hwb.trans (hb.mono hwb.size)
 by_cases hov : Ck.isOver h.kind
 ·exact xM qv Q h p l A n c w hE _ hov fun W hbW hEW => uj qv sd K _ h kids p l A n c wb W hIs (hw1 W hbW) (hQ1 W hbW) hEW hch hov hg hlen fun h1 k1 q hlt i1 g1 => ih h1 k1 q wb (by omega) i1 g1
 simp only [Tm.isKind, decide_eq_true_eq] at hik;have hkk : h.kind = 0 \/ h.kind = 1 \/ h.kind = 2 \/ h.kind = 3 \/ h.kind = 4 \/ h.kind = 5 \/ h.kind = 7 \/ h.kind = 14 := by unfold Ck.isOver at hov; omega
 rcases hkk with hk | hk | hk | hk | hk | hk | hk | hk
 ·rw [Qr.zHH _ _ _ _ hch hk]
  exact zAh qv Q h p l A n c w hE hk
 ·rw [Qr.zHG _ _ _ _ hk]
  exact zAj qv Q h p l A n c w hE hk
 ·rw [Qr.zHF _ _ _ _ hk]
  exact zAg qv Q h p l A n c w hE hk
 ·rw [Qr.zHE _ _ _ _ hk]
  exact zC9 qv Q h p l A n c w hE hk
 ·rw [hk] at hln
  obtain ⟨h1, k1, rfl⟩ := Qr.zAt hln;obtain ⟨TA, tn, tc, UA, un, uc, b, o, pc, q, rfl, hT, hU, g1, i1⟩ := Qr.zFA hIs;have G1 := hgF.head;simp only [Tm.nodes] at hK hlen;rw [Qr.zHD _ _ _ _ _ _ hk];exact zAl qv K Q h h1 k1 q TA UA tn tc un uc b o pc l A n c wb w hT hU g1 hwb hQ hE (by omega) hk (Ty.ze (Ck.qX hh (by rw [hk]; rfl))).1 hch (Ck.qX hh (by rw [hk]; rfl)) (by omega) (ih h1 k1 q wb (by omega) i1 G1.1)
 ·have hown := Qr.zES hk hh hg.2.2.1 hg.2.2.2
  rw [hk] at hln;obtain ⟨h1, k1, rfl⟩ := Qr.zAt hln;obtain ⟨TA, tn, tc, UA, un, uc, b, o, pc, q, rfl, hT, hU, g1, i1⟩ := Qr.zFA hIs;have G1 := hgF.head;simp only [Tm.nodes] at hK hlen;rw [Qr.zHC _ _ _ _ _ _ hk];exact zAi qv K Q h h1 k1 q TA UA tn tc un uc b o pc l A n c wb w hT hU g1 hwb hQ hE (by omega) hk hch (Ck.qX hh (by rw [hk]; rfl)) hown (by omega) (ih h1 k1 q wb (by omega) i1 G1.1)
 ·rw [hk] at hln
  obtain ⟨h1, k1, h2, k2, rfl⟩ := Qr.jE hln;obtain ⟨TA, tn, tc, UA, un, uc, b, o, pc, q, q2, rfl, hT, hU, g1, i1, g2, i2⟩ := Qr.zBi hIs;have G1 := hgF.head;have G2 := G1.2.head;simp only [Tm.nodes] at hK hlen;rw [Qr.zHB _ _ _ _ _ _ _ _ hk];exact zAk qv K Q h h1 h2 k1 k2 q q2 TA UA tn tc un uc b o pc l A n c wb w hT hU g1 g2 hwb hQ hE (by omega) hk hch (Ck.qX hh (by rw [hk]; rfl)) (by omega) (by omega) (ih h1 k1 q wb (by omega) i1 G1.1) (ih h2 k2 q2 wb (by omega) i2 G2.1)
 ·rw [hk] at hln
  obtain ⟨h1, k1, h2, k2, h3, k3, rfl⟩ := Qr.zDC hln;obtain ⟨TA, tn, tc, UA, un, uc, b, o, pc, q, q2, q3, rfl, hT, hU, g1, i1, g2, i2, g3, i3⟩ := Qr.zG1 hIs;have G1 := hgF.head;have G2 := G1.2.head;have G3 := G2.2.head;simp only [Tm.nodes] at hK hlen;rw [Qr.zG6 _ _ _ _ _ _ _ _ _ _ hk];refine ui qv Q h _ l A n c w hE _ hk fun W hbW hEW => ?_
  exact yI qv K _ h h1 h2 h3 k1 k2 k3 q q2 q3 TA UA tn tc un uc b o pc l A n c wb W hT hU g1 g2 g3 (hw1 W hbW) (hQ1 W hbW) hEW (by omega) hch (sd.l 5) (sd.r 5) sd.m (by omega) (by omega) (by omega) (ih h1 k1 q wb (by omega) i1 G1.1) (ih h2 k2 q2 wb (by omega) i2 G2.1) (ih h3 k3 q3 wb (by omega) i3 G3.1)
end Go.Proofs.YtkdnnleanoompaaGreatDoor
namespace Go.Proofs.YtkdnnleanoompaaGreatDoor
set_option maxHeartbeats 8000000
set_option maxRecDepth 100000
open Go.RowKit
theorem zDg (kd : Int) (K : Nat) : ∀ (h : Hd) (kids : Tm) (p : Pl) (w : World), Tm.nodes kids < K -> Tm.Is w h kids p ->
  Calls Tryz.prog 22 #[.agg (tC_ h p), .int .i8 kd] w fun e w' => e = .returned (.bool (Ck.hasT kd h kids)) /\ Below w.heap.size w w' := by
 try unfold tC_
 induction K with
 | zero => intro _ _ _ _ hK; omega
 | succ K ih =>
  intro h kids p w hK hIs;have hB0 : Below w.heap.size w (w.alloc (.cells (tC_ h p) 28)) := (Below.refl _ _).alloc (Nat.le_refl _) _;have hbox := zD w (.cells (tC_ h p) 28);generalize hw1 : w.alloc (.cells (tC_ h p) 28) = w1 at *;have HW := k0_ hw1;have HB := k0_ hB0;have HX := k0_ hbox;have IH := k0_ ih;have i5 : (p.n : Int) <= 9223372036854775807 := by have h1 := hIs.fit.n_le; have h2 := hIs.fit.c_le; unfold maxLen at h2; omega
  have HST := k0_ (OverT.start (hIs.below hB0).lies hIs.fit.n_eq);obtain ⟨q0, q1, q2, q3, q4, q5, q6, q7, q8, q9, q10, ql⟩ := zJ HX.out;clear ih hIs hB0 hbox hw1;cases hk : (h.kind == kd)
  ·obtain ⟨R, hR⟩ : ∃ R, Ck.hasF kd kids = R := ⟨_, rfl⟩
   rw [show Ck.hasT kd h kids = R by unfold Ck.hasT; rw [hk, hR]; rfl];have HR := k0_ hR;clear hR
   go_enter Tryz.func22, Tryz.ntmps22
   go_wp2_with fail
   rw [HW.out]
   go_wp2_with fail
   clear q0 q1 q2 q3 q4 q5 q6 q7 q8 q9 q10 ql
   go_loopw [5] (fun v wr => ∃ (i : Nat) (rest : Tm), v = .int .i64 i /\ OverT w1 wr p.A p.n (Tm.nodes kids) i rest /\ Ck.hasF kd rest = R) (fun v _ => p.n - (intOf v).toNat)
   case atStart => exact ⟨0, kids, rfl, HST.out, HR.out⟩
   case round =>
    obtain ⟨i, rest, rfl, hO, hR⟩ := hrel;have hbB := HB.out.trans (hO.below.mono HB.out.size);obtain ⟨q0, q1, q2, q3, q4, q5, q6, q7, q8, q9, q10, ql⟩ := zJ (zA hO.below (zC HX.out) HX.out)
    cases rest with
    | nil =>
     have hi : i = p.n := by have := hO.i_eq; simpa [Tm.len] using this
     clear hO;simp only [Ck.hasF] at hR;subst hi;subst hR
     go_wp2_with fail
     go_ret
     exact ⟨rfl, hbB⟩
    | node h1 k1 r =>
     have hst := fun w2 hb => OverT.step (w2 := w2) hO hb
     have e1 := hO.i_eq;have e2 := hO.lies;have e3 := hO.sub;simp only [Tm.len, Tm.nodes, Ck.hasF] at e1 e3 hR;obtain ⟨bb, oo, p1, hpA, hcs, hfit, hl3, hl4⟩ := e2;have hcall := IH.out h1 k1 p1 wr (by omega) ⟨hfit, hl3⟩;obtain ⟨c0, c1, c2, c3, c4, c5, c6, c7, c8, c9, c10⟩ := Tm.row hcs;have HS1 := k0_ hst;have HL := k0_ hl4;have HRR := k0_ hR;have hal : Ck.hasT kd h1 k1 = ((h1.kind == kd) || Ck.hasF kd k1) := rfl;rw [← hal] at HRR;have j1 : (0 : Int) <= (i : Int) /\ (i : Int) < p.n := by omega
     have HPA := k0_ hpA;clear hst hl3 hl4 hO hR hcs hfit hal hpA;generalize Ck.hasT kd h1 k1 = x at *;have HCK := k0_ hcall;clear hcall;generalize hPA : p.A = PA at *;obtain rfl : PA = some ⟨bb, oo, none⟩ := HPA.out;clear hPA HPA;cases x
     ·go_wp2_with fail
      refine HCK.out.mono ?_;rintro e w2 ⟨rfl, hb⟩;have hbb := k0_ (HS1.out w2 hb HL.out);have HNX := k0_ (show Ck.hasF kd r = R by rw [← HRR.out]; rfl);clear hb q0 q1 q2 q3 q4 q5 q6 q7 q8 q9 q10 ql c0 c1 c2 c3 c4 c5 c6 c7 c8 c9 c10
      go_wp2_with fail
      go_roundw
      case rel => exact ⟨i + 1, r, by go_num, hbb.out, HNX.out⟩
      case measure => simp [intOf]; omega
     ·go_wp2_with fail
      refine HCK.out.mono ?_;rintro e w2 ⟨rfl, hb⟩
      go_wp2_with fail
      go_ret
      exact ⟨qm (by rw [← HRR.out]; rfl), hbB.trans (hb.mono hbB.size)⟩
  ·rw [show Ck.hasT kd h kids = true by unfold Ck.hasT; rw [hk]; rfl]
   go_enter Tryz.func22, Tryz.ntmps22
   go_wp2_with fail
   rw [HW.out]
   go_wp2_with fail
   go_ret
   exact ⟨rfl, HB.out⟩
namespace Qr
def snd (h : Hd) (kids : Tm) : Int := if Tm.chk h kids ≠ 0 then (Tm.chk h kids : Int) else if Ck.castT h kids = true then 30 else 0
def sndK (kd : Int) (h : Hd) (kids : Tm) : Int := if Tm.chk h kids ≠ 0 then (Tm.chk h kids : Int) else if Ck.hasT kd h kids = true then 30 else 0
theorem zFp (h : Hd) (kids : Tm) : snd h kids = sndK 17 h kids := by unfold snd sndK; rw [Ck.kY]
theorem zDJ {kd : Int} {h : Hd} {kids : Tm} (e : Tm.chk h kids ≠ 0) : sndK kd h kids = (Tm.chk h kids : Int) := if_pos e
theorem zC0 {kd : Int} {h : Hd} {kids : Tm} (e : Tm.chk h kids = 0) (c : Ck.hasT kd h kids = true) : sndK kd h kids = 30 := by unfold sndK; rw [if_neg (by omega), if_pos c]
theorem zEQ {kd : Int} {h : Hd} {kids : Tm} (e : Tm.chk h kids = 0) (c : Ck.hasT kd h kids = false) : sndK kd h kids = 0 := by unfold sndK; rw [if_neg (by omega), if_neg (by rw [c]; decide)]
theorem zBZ {h : Hd} {kids : Tm} (e : Tm.chk h kids ≠ 0) : snd h kids = (Tm.chk h kids : Int) := if_pos e
theorem uV {h : Hd} {kids : Tm} (e : Tm.chk h kids = 0) (c : Ck.castT h kids = true) : snd h kids = 30 := by unfold snd; rw [if_neg (by omega), if_pos c]
theorem zFN {h : Hd} {kids : Tm} (e : Tm.chk h kids = 0) (c : Ck.castT h kids = false) : snd h kids = 0 := by unfold snd; rw [if_neg (by omega), if_neg (by rw [c]; decide)]
theorem kG {h : Hd} {kids : Tm} (e : snd h kids = 0) : Tm.chk h kids = 0 /\ Ck.castT h kids = false := by
 by_cases h0 : Tm.chk h kids = 0
 ·refine ⟨h0, ?_⟩
  cases hc : Ck.castT h kids
  ·rfl
  ·rw [uV h0 hc] at e; cases e
 ·rw [zBZ h0] at e; omega
theorem zBk {h : Hd} {kids : Tm} (e : Tm.chk h kids = 0) (c : Ck.castT h kids = false) : Good (Cg.grad.ca = true) h kids := ⟨(Ck.vQ e).2.2, .inr c, (Ck.vQ e).1, (Ck.vQ e).2.1⟩
theorem zDE {h : Hd} {kids : Tm} : Ck.tell h kids = if snd h kids = 0 then Cg.ty Cg.grad (Tm.nodes kids + 1) h kids [] else .bad (snd h kids) 0 ⟨#[]⟩ := by
 rw [Cg.wC];unfold Ck.tell
 by_cases h0 : Tm.chk h kids = 0
 ·rw [if_neg (by omega)]
  cases hc : Ck.castT h kids
  ·rw [zFN h0 hc]; rfl
  ·rw [uV h0 hc]; rfl
 ·rw [if_pos h0, zBZ h0, if_neg (by omega)]; rfl
end Qr
theorem uh (kd : Int) (h : Hd) (kids : Tm) (p : Pl) (w : World) (hIs : Tm.Is w h kids p) :
  Calls Tryz.prog 10 #[.agg (tC_ h p), .int .i8 kd] w fun e w' => e = .returned (.int .i64 (Qr.sndK kd h kids)) /\ Below w.heap.size w w' := by
 try unfold tC_
 have hB0 := zX w (.cells (tC_ h p) 28);have HN := k0_ (zD w (.cells (tC_ h p) 28));have CC := k0_ (zAP h kids p _ (hIs.below hB0));have CH := k0_ (fun (W : World) (hb : Below w.heap.size w W) => zDg kd (Tm.nodes kids + 1) h kids p W (Nat.lt_succ_self _) (hIs.below hb));obtain ⟨S, hS⟩ : ∃ S, S = Qr.sndK kd h kids := ⟨_, rfl⟩
 rw [← hS];generalize hw1 : w.alloc (.cells (tC_ h p) 28) = w1 at *;have HW1 := k0_ hw1;have HB0 := k0_ hB0;obtain ⟨q0, q1, q2, q3, q4, q5, q6, q7, q8, q9, q10, ql⟩ := zJ HN.out;clear hIs hB0 hw1
 by_cases h0 : Tm.chk h kids = 0
 ·rw [h0] at CC
  cases hc : Ck.hasT kd h kids
  all_goals
   first | rw [Qr.zEQ h0 hc] at hS | rw [Qr.zC0 h0 hc] at hS
   rw [hc] at CH;subst hS;clear h0 hc
   go_enter Tryz.func10, Tryz.ntmps10
   go_upto_region 1 with fail
   rw [HW1.out]
   go_wp2_with fail
   refine CC.out.mono ?_;rintro e w2 ⟨rfl, hb⟩;have HB2 := kt_ HB0 hb;have HN2 := kp_ hb HN;clear hb q0 q1 q2 q3 q4 q5 q6 q7 q8 q9 q10 ql;obtain ⟨q0, q1, q2, q3, q4, q5, q6, q7, q8, q9, q10, ql⟩ := zJ HN2.out
   go_wp2_with fail
   refine (CH.out _ HB2.out).mono ?_;rintro e w3 ⟨rfl, hb⟩;have HB3 := kt_ HB2 hb;clear hb
   go_wp2_with fail
   go_ret
   exact ⟨rfl, HB3.out⟩
 ·rw [Qr.zDJ h0] at hS
  have hn : (S != 0) = true := by simp; omega
  rw [← hS] at CC;clear h0 hS CH
  go_enter Tryz.func10, Tryz.ntmps10
  go_upto_region 1 with fail
  rw [HW1.out]
  go_wp2_with fail
  refine CC.out.mono ?_;rintro e w2 ⟨rfl, hb⟩;have HB2 := kt_ HB0 hb;clear hb
  go_wp2_with fail
  go_ret
  exact ⟨rfl, HB2.out⟩
theorem zAf (h : Hd) (kids : Tm) (p : Pl) (w : World) (hIs : Tm.Is w h kids p) :
  Calls Tryz.prog 10 #[.agg (tC_ h p), .int .i8 17] w fun e w' => e = .returned (.int .i64 (Qr.snd h kids)) /\ Below w.heap.size w w' := by
 try unfold tC_
 rw [Qr.zFp];exact uh 17 h kids p w hIs
theorem zCF (h : Hd) (kids : Tm) (p : Pl) (w : World) (hIs : Tm.Is w h kids p) :
  Calls Tryz.prog 5 #[.agg (tC_ h p)] w (Qr.Post (fun b => b < w.heap.size) w (Ck.tell h kids)) := by
 try unfold tC_
 rw [Qr.zDE];obtain ⟨b1, w1, hw1, hb0, g0, hb1, h6, h7, hzb, hz⟩ := Qr.three w (.cells (tC_ h p) 28);have HW1 := k0_ hw1;have HB0 := k0_ hb0;have H0 := k0_ g0;have HBW := k0_ hb1;have H6 := k0_ h6;have H7 := k0_ h7;have HZB := k0_ hzb;have HZ := k0_ hz;have LZ := k0_ (Nat.le_of_eq hz.symm);have hfrom := k0_ (fun (W : World) (hb : Below b1.heap.size b1 W) => hb0.trans (hb.mono hb0.size));have HK := k0_ (fun (W : World) (hb : Below b1.heap.size b1 W) => Qr.jF (zA hb (zC H0.out) H0.out));have CS := k0_ (zAf h kids p w1 (hIs.below (hfrom.out w1 hb1)));have HI := k0_ hIs;clear hb0 g0 hb1 h6 h7 hzb hz hIs
 cases hs : decide (Qr.snd h kids = 0) with
 | true =>
  have hs0 := of_decide_eq_true hs;rw [if_pos hs0];rw [hs0] at CS;have CR := k0_ (fun (W : World) (hb : Below b1.heap.size b1 W) => (show Calls Tryz.prog 11 #[.agg (tC_ h p), .slice none 0 0, .int .i64 0] W (Qr.Post (Ck.Cut (fun b => b < w.heap.size) w.heap.size (w.heap.size + 3)) W (Cg.ty Cg.grad (Tm.nodes kids + 1) h kids [])) from zAe Qr.gradQ Qr.zFO (Tm.nodes kids + 1) h kids p w (Nat.lt_succ_self _) HI.out (Qr.zBk (Qr.kG hs0).1 (Qr.kG hs0).2) (Ck.Cut (fun b => b < w.heap.size) w.heap.size (w.heap.size + 3)) [] none 0 0 W (hfrom.out W hb) (fun b hb => .inl ⟨hb, hb⟩) (Ck.EAt.empty _ _) (fun x hx => by cases hx) (by have := (Qr.zBk (Qr.kG hs0).1 (Qr.kG hs0).2).2.2.1; unfold Tm.nd at this; simp only [List.length_nil]; omega)));clear hs hs0;generalize Cg.ty Cg.grad (Tm.nodes kids + 1) h kids [] = RR at *
  go_enter Tryz.func5, Tryz.ntmps5
  go_upto_region 1 with fail
  rw [← HW1.out];clear hw1 HW1;obtain ⟨q0', q1', q2', q3', q4', q5', q6', q7', q8', q9', q10'⟩ := HK.out w1 HBW.out
  go_wp2_with fail
  refine CS.out.mono ?_;rintro e w2 ⟨rfl, hb⟩;have HBW := kt_ HBW hb;have LZ := kz_ LZ hb;have H6 := kp_ hb H6;have H7 := kp_ hb H7;clear hb;clear q0' q1' q2' q3' q4' q5' q6' q7' q8' q9' q10';obtain ⟨q0', q1', q2', q3', q4', q5', q6', q7', q8', q9', q10'⟩ := HK.out w2 HBW.out
  go_wp2_with fail
  refine (CR.out w2 HBW.out).mono ?_;rintro e w3 hp;obtain ⟨a, E, pq, x, G, m, cg, rfl, hgn, hl, hb⟩ := hp.names;have HGG := k0_ hgn;have HLY := k0_ (hl.weak (fun b _ hq => Qr.zt (by have := LZ.out; omega) hq));have HBW := kt_ HBW hb;have LZ := kz_ LZ hb;have H6 := kp_ hb H6;have H7 := kp_ hb H7;clear hl hb hgn hp;clear q0' q1' q2' q3' q4' q5' q6' q7' q8' q9' q10';have HRS := k0_ (zP H6.out H7.out (show w.heap.size + 1 ≠ w.heap.size + 1 + 1 by omega) (hfrom.out _ HBW.out) (by omega) (by omega) (.int .i8 a.1) (.slice G m cg) (.int .i64 E) (.int .i64 pq) (.string x));have HLF := k0_ ((HLY.out.set2 (X := w.heap.size + 1) (fun b hq => hq.ne (by omega) (by omega)) (.int .i8 a.1) (.slice G m cg)).zm (X := w.heap.size + 1 + 1) (fun b hq => hq.ne (by omega) (by omega)) (.int .i64 E) (.int .i64 pq) (.string x));obtain ⟨z0, z1, z2, z3, zl⟩ := zF H6.out;obtain ⟨y0, y1, y2, y3, y4, y5, yl⟩ := cells3 H7.out
  go_wp2_with fail
  clear z0 z1 z2 z3 zl y0 y1 y2 y3 y4 y5 yl;generalize (((((w3.setCell ⟨w.heap.size + 1, 0, none⟩ (.int .i8 a.1)).setCell ⟨w.heap.size + 1, 1, none⟩ (.slice G m cg)).setCell ⟨w.heap.size + 1 + 1, 0, none⟩ (.int .i64 E)).setCell ⟨w.heap.size + 1 + 1, 1, none⟩ (.int .i64 pq)).setCell ⟨w.heap.size + 1 + 1, 2, none⟩ (.string x)) = wz at *;obtain ⟨k0, k1', -, -, -⟩ := zF HRS.out.1;obtain ⟨k2', k3', k4', -, -, -, -⟩ := cells3 HRS.out.2.1;refine bodyPost_ret (v := .tuple #[.agg #[.int .i8 a.1, .slice G m cg], .agg #[.int .i64 E, .int .i64 pq, .string x]]) (by simp [results, Tryz.results5, go_sem, k0, k1', k2', k3', k4']) rfl ?_;exact Qr.Post.mk HGG.out.1 HGG.out.2 (HLF.out.weak (fun b _ hq => hq.out (by omega))) HRS.out.2.2
 | false =>
  have hs0 := of_decide_eq_false hs;rw [if_neg hs0];have HS0 := k0_ hs0;have hne : (Qr.snd h kids != 0) = true := by simpa using hs0
  clear hs hs0;generalize Qr.snd h kids = S at *
  go_enter Tryz.func5, Tryz.ntmps5
  go_upto_region 1 with fail
  rw [← HW1.out];clear hw1 HW1;obtain ⟨q0', q1', q2', q3', q4', q5', q6', q7', q8', q9', q10'⟩ := HK.out w1 HBW.out
  go_wp2_with fail
  refine CS.out.mono ?_;rintro e w2 ⟨rfl, hb⟩;have HBW := kt_ HBW hb;have LZ := kz_ LZ hb;have H6 := kp_ hb H6;have H7 := kp_ hb H7;clear hb;clear q0' q1' q2' q3' q4' q5' q6' q7' q8' q9' q10';have HZL := k0_ (Ck.Ly.zero (Ck.Cut (fun b => b < w.heap.size) w.heap.size (w.heap.size + 3)) w2);have HRS := k0_ (zP H6.out H7.out (show w.heap.size + 1 ≠ w.heap.size + 1 + 1 by omega) (hfrom.out _ HBW.out) (by omega) (by omega) (.int .i8 0) (.slice none 0 0) (.int .i64 S) (.int .i64 0) (.string ⟨#[]⟩));have HLF := k0_ ((HZL.out.set2 (X := w.heap.size + 1) (fun b hq => hq.ne (by omega) (by omega)) (.int .i8 0) (.slice none 0 0)).zm (X := w.heap.size + 1 + 1) (fun b hq => hq.ne (by omega) (by omega)) (.int .i64 S) (.int .i64 0) (.string ⟨#[]⟩));obtain ⟨z0, z1, z2, z3, zl⟩ := zF H6.out;obtain ⟨y0, y1, y2, y3, y4, y5, yl⟩ := cells3 H7.out
  go_wp2_with fail
  clear z0 z1 z2 z3 zl y0 y1 y2 y3 y4 y5 yl;generalize (((((w2.setCell ⟨w.heap.size + 1, 0, none⟩ (.int .i8 0)).setCell ⟨w.heap.size + 1, 1, none⟩ (.slice none 0 0)).setCell ⟨w.heap.size + 1 + 1, 0, none⟩ (.int .i64 S)).setCell ⟨w.heap.size + 1 + 1, 1, none⟩ (.int .i64 0)).setCell ⟨w.heap.size + 1 + 1, 2, none⟩ (.string ⟨#[]⟩)) = wz at *;obtain ⟨k0, k1', -, -, -⟩ := zF HRS.out.1;obtain ⟨k2', k3', k4', -, -, -, -⟩ := cells3 HRS.out.2.1;refine bodyPost_ret (v := .tuple #[.agg #[.int .i8 0, .slice none 0 0], .agg #[.int .i64 S, .int .i64 0, .string ⟨#[]⟩]]) (by simp [results, Tryz.results5, go_sem, k0, k1', k2', k3', k4']) rfl ?_;exact Qr.Post.mk (a := (0, .nil)) (fun E p x e => by injection e with e; rw [← e]; exact HS0.out) ⟨rfl, rfl, rfl, rfl⟩ (HLF.out.weak (fun b _ hq => hq.out (by omega))) HRS.out.2.2
end Go.Proofs.YtkdnnleanoompaaGreatDoor
