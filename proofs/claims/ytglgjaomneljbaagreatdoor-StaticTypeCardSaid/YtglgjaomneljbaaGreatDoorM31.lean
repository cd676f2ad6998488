import Derived.Test.YtglgjaomneljbaaGreatDoorQr22
import Derived.Test.YtglgjaomneljbaaGreatDoorQr8
import Derived.Test.YtglgjaomneljbaaGreatDoorQr9
namespace Go.Proofs.YtglgjaomneljbaaGreatDoor
open Go.RowKit
theorem zAO (qv : Qr.Qv) (sd : Qr.Sd qv.D) (K : Nat) : ∀ (h : Hd) (kids : Tm) (p : Pl) (wb : World), Tm.nodes kids < K -> Tm.Is wb h kids p -> Qr.Good (qv.D.ca = true) h kids -> Qr.TellsOf qv K wb h kids p := by
 induction K with
 | zero => intro _ _ _ _ hK; omega
 | succ K ih =>
 intro h kids p wb hK hIs hg Q l A n c w hwb hQ hE hch hlen;obtain ⟨hik, hln, -⟩ := Ck.jV hg.1;have hh := Ck.kG hg.1;have hgF := hg.kids;have hQ1 : ∀ W : World, Below w.heap.size w W -> ∀ b, b < wb.heap.size -> Ck.Cut Q w.heap.size (w.heap.size + 3) b := fun W _ b hb => .inl ⟨hQ b hb, Nat.lt_of_lt_of_le hb hwb.size⟩
 have hw1 : ∀ W : World, Below w.heap.size w W -> Below wb.heap.size wb W := fun W hb => hwb.trans (hb.mono hwb.size)
 by_cases hov : Ck.isOver h.kind
 ·exact yt qv Q h p l A n c w hE _ hov fun W hbW hEW => uI qv sd K _ h kids p l A n c wb W hIs (hw1 W hbW) (hQ1 W hbW) hEW hch hov hg hlen fun h1 k1 q hlt i1 g1 => ih h1 k1 q wb (by omega) i1 g1
 simp only [Tm.isKind, decide_eq_true_eq] at hik;have hkk : h.kind = 0 \/ h.kind = 1 \/ h.kind = 2 \/ h.kind = 3 \/ h.kind = 4 \/ h.kind = 5 \/ h.kind = 7 \/ h.kind = 14 := by unfold Ck.isOver at hov; omega
 rcases hkk with hk | hk | hk | hk | hk | hk | hk | hk
 ·rw [Qr.zGi _ _ _ _ hch hk]
  exact zAQ qv Q h p l A n c w hE hk
 ·rw [Qr.zGh _ _ _ _ hk]
  exact zAS qv Q h p l A n c w hE hk
 ·rw [Qr.zGg _ _ _ _ hk]
  exact zAP qv Q h p l A n c w hE hk
 ·rw [Qr.zGf _ _ _ _ hk]
  exact zBr qv Q h p l A n c w hE hk
 ·rw [hk] at hln
  obtain ⟨h1, k1, rfl⟩ := Qr.zAc hln;obtain ⟨TA, tn, tc, UA, un, uc, b, o, pc, q, rfl, hT, hU, g1, i1⟩ := Qr.jo hIs;have G1 := hgF.head;simp only [Tm.nodes] at hK hlen;rw [Qr.zGe _ _ _ _ _ _ hk];exact zAU qv K Q h h1 k1 q TA UA tn tc un uc b o pc l A n c wb w hT hU g1 hwb hQ hE (by omega) hk (Ty.zm (Ck.qW hh (by rw [hk]; rfl))).1 hch (Ck.qW hh (by rw [hk]; rfl)) (by omega) (ih h1 k1 q wb (by omega) i1 G1.1)
 ·have hown := Qr.zE2 hk hh hg.2.2.1 hg.2.2.2
  rw [hk] at hln;obtain ⟨h1, k1, rfl⟩ := Qr.zAc hln;obtain ⟨TA, tn, tc, UA, un, uc, b, o, pc, q, rfl, hT, hU, g1, i1⟩ := Qr.jo hIs;have G1 := hgF.head;simp only [Tm.nodes] at hK hlen;rw [Qr.zGd _ _ _ _ _ _ hk];exact zAR qv K Q h h1 k1 q TA UA tn tc un uc b o pc l A n c wb w hT hU g1 hwb hQ hE (by omega) hk hch (Ck.qW hh (by rw [hk]; rfl)) hown (by omega) (ih h1 k1 q wb (by omega) i1 G1.1)
 ·rw [hk] at hln
  obtain ⟨h1, k1, h2, k2, rfl⟩ := Qr.vk hln;obtain ⟨TA, tn, tc, UA, un, uc, b, o, pc, q, q2, rfl, hT, hU, g1, i1, g2, i2⟩ := Qr.jN hIs;have G1 := hgF.head;have G2 := G1.2.head;simp only [Tm.nodes] at hK hlen;rw [Qr.zGc _ _ _ _ _ _ _ _ hk];exact zAT qv K Q h h1 h2 k1 k2 q q2 TA UA tn tc un uc b o pc l A n c wb w hT hU g1 g2 hwb hQ hE (by omega) hk hch (Ck.qW hh (by rw [hk]; rfl)) (by omega) (by omega) (ih h1 k1 q wb (by omega) i1 G1.1) (ih h2 k2 q2 wb (by omega) i2 G2.1)
 ·rw [hk] at hln
  obtain ⟨h1, k1, h2, k2, h3, k3, rfl⟩ := Qr.zCm hln;obtain ⟨TA, tn, tc, UA, un, uc, b, o, pc, q, q2, q3, rfl, hT, hU, g1, i1, g2, i2, g3, i3⟩ := Qr.zFV hIs;have G1 := hgF.head;have G2 := G1.2.head;have G3 := G2.2.head;simp only [Tm.nodes] at hK hlen;rw [Qr.zFa _ _ _ _ _ _ _ _ _ _ hk];refine uH qv Q h _ l A n c w hE _ hk fun W hbW hEW => ?_
  exact kX qv K _ h h1 h2 h3 k1 k2 k3 q q2 q3 TA UA tn tc un uc b o pc l A n c wb W hT hU g1 g2 g3 (hw1 W hbW) (hQ1 W hbW) hEW (by omega) hch (sd.l 5) (sd.r 5) sd.m (by omega) (by omega) (by omega) (ih h1 k1 q wb (by omega) i1 G1.1) (ih h2 k2 q2 wb (by omega) i2 G2.1) (ih h3 k3 q3 wb (by omega) i3 G3.1)
end Go.Proofs.YtglgjaomneljbaaGreatDoor
namespace Go.Proofs.YtglgjaomneljbaaGreatDoor
set_option maxHeartbeats 8000000
set_option maxRecDepth 100000
open Go.RowKit
theorem zDH (kd : Int) (K : Nat) : ∀ (h : Hd) (kids : Tm) (p : Pl) (w : World), Tm.nodes kids < K -> Tm.Is w h kids p ->
  Calls Tryz.prog 26 #[.agg (tC_ h p), .int .i8 kd] w fun e w' => e = .returned (.bool (Ck.hasT kd h kids)) /\ Below w.heap.size w w' := by
 try unfold tC_
 induction K with
 | zero => intro _ _ _ _ hK; omega
 | succ K ih =>
  intro h kids p w hK hIs;have hB0 : Below w.heap.size w (w.alloc (.cells (tC_ h p) 28)) := (Below.refl _ _).alloc (Nat.le_refl _) _;have hbox := zD w (.cells (tC_ h p) 28);generalize hw1 : w.alloc (.cells (tC_ h p) 28) = w1 at *;have HW := k0_ hw1;have HB := k0_ hB0;have HX := k0_ hbox;have IH := k0_ ih;have i5 : (p.n : Int) <= 9223372036854775807 := by have h1 := hIs.fit.n_le; have h2 := hIs.fit.c_le; unfold maxLen at h2; omega
  have HST := k0_ (OverT.start (hIs.below hB0).lies hIs.fit.n_eq);obtain ⟨q0, q1, q2, q3, q4, q5, q6, q7, q8, q9, q10, ql⟩ := zJ HX.out;clear ih hIs hB0 hbox hw1;cases hk : (h.kind == kd)
  ·obtain ⟨R, hR⟩ : ∃ R, Ck.hasF kd kids = R := ⟨_, rfl⟩
   rw [show Ck.hasT kd h kids = R by unfold Ck.hasT; rw [hk, hR]; rfl];have HR := k0_ hR;clear hR
   go_enter Tryz.func26, Tryz.ntmps26
   go_wp2_with fail
   rw [HW.out]
   go_wp2_with fail
   clear q0 q1 q2 q3 q4 q5 q6 q7 q8 q9 q10 ql
   go_loopw [5] (fun v wr => ∃ (i : Nat) (rest : Tm), v = .int .i64 i /\ OverT w1 wr p.A p.n (Tm.nodes kids) i rest /\ Ck.hasF kd rest = R) (fun v _ => p.n - (intOf v).toNat)
   case atStart => exact ⟨0, kids, rfl, HST.out, HR.out⟩
   case round =>
    obtain ⟨i, rest, rfl, hO, hR⟩ := hrel;have hbB := HB.out.trans (hO.below.mono HB.out.size);obtain ⟨q0, q1, q2, q3, q4, q5, q6, q7, q8, q9, q10, ql⟩ := zJ (zA hO.below (zC HX.out) HX.out)
    cases rest with
    | nil =>
     have hi : i = p.n := by have := hO.i_eq; simpa [Tm.len] using this
     clear hO;simp only [Ck.hasF] at hR;subst hi;subst hR
     go_wp2_with fail
     go_ret
     exact ⟨rfl, hbB⟩
    | node h1 k1 r =>
     have hst := fun w2 hb => OverT.step (w2 := w2) hO hb
     have e1 := hO.i_eq;have e2 := hO.lies;have e3 := hO.sub;simp only [Tm.len, Tm.nodes, Ck.hasF] at e1 e3 hR;obtain ⟨bb, oo, p1, hpA, hcs, hfit, hl3, hl4⟩ := e2;have hcall := IH.out h1 k1 p1 wr (by omega) ⟨hfit, hl3⟩;obtain ⟨c0, c1, c2, c3, c4, c5, c6, c7, c8, c9, c10⟩ := Tm.row hcs;have HS1 := k0_ hst;have HL := k0_ hl4;have HRR := k0_ hR;have hal : Ck.hasT kd h1 k1 = ((h1.kind == kd) || Ck.hasF kd k1) := rfl;rw [← hal] at HRR;have j1 : (0 : Int) <= (i : Int) /\ (i : Int) < p.n := by omega
     have HPA := k0_ hpA;clear hst hl3 hl4 hO hR hcs hfit hal hpA;generalize Ck.hasT kd h1 k1 = x at *;have HCK := k0_ hcall;clear hcall;generalize hPA : p.A = PA at *;obtain rfl : PA = some ⟨bb, oo, none⟩ := HPA.out;clear hPA HPA;cases x
     ·go_wp2_with fail
      refine HCK.out.mono ?_;rintro e w2 ⟨rfl, hb⟩;have hbb := k0_ (HS1.out w2 hb HL.out);have HNX := k0_ (show Ck.hasF kd r = R by rw [← HRR.out]; rfl);clear hb q0 q1 q2 q3 q4 q5 q6 q7 q8 q9 q10 ql c0 c1 c2 c3 c4 c5 c6 c7 c8 c9 c10
      go_wp2_with fail
      go_roundw
      case rel => exact ⟨i + 1, r, by go_num, hbb.out, HNX.out⟩
      case measure => simp [intOf]; omega
     ·go_wp2_with fail
      refine HCK.out.mono ?_;rintro e w2 ⟨rfl, hb⟩
      go_wp2_with fail
      go_ret
      exact ⟨qQ (by rw [← HRR.out]; rfl), hbB.trans (hb.mono hbB.size)⟩
  ·rw [show Ck.hasT kd h kids = true by unfold Ck.hasT; rw [hk]; rfl]
   go_enter Tryz.func26, Tryz.ntmps26
   go_wp2_with fail
   rw [HW.out]
   go_wp2_with fail
   go_ret
   exact ⟨rfl, HB.out⟩
namespace Qr
def snd (h : Hd) (kids : Tm) : Int := if Tm.chk h kids ≠ 0 then (Tm.chk h kids : Int) else if Ck.castT h kids = true then 30 else 0
def sndK (kd : Int) (h : Hd) (kids : Tm) : Int := if Tm.chk h kids ≠ 0 then (Tm.chk h kids : Int) else if Ck.hasT kd h kids = true then 30 else 0
theorem zFK (h : Hd) (kids : Tm) : snd h kids = sndK 17 h kids := by unfold snd sndK; rw [Ck.kJ]
theorem zCs {kd : Int} {h : Hd} {kids : Tm} (e : Tm.chk h kids ≠ 0) : sndK kd h kids = (Tm.chk h kids : Int) := if_pos e
theorem zBg {kd : Int} {h : Hd} {kids : Tm} (e : Tm.chk h kids = 0) (c : Ck.hasT kd h kids = true) : sndK kd h kids = 30 := by unfold sndK; rw [if_neg (by omega), if_pos c]
theorem zE0 {kd : Int} {h : Hd} {kids : Tm} (e : Tm.chk h kids = 0) (c : Ck.hasT kd h kids = false) : sndK kd h kids = 0 := by unfold sndK; rw [if_neg (by omega), if_neg (by rw [c]; decide)]
theorem zBE {h : Hd} {kids : Tm} (e : Tm.chk h kids ≠ 0) : snd h kids = (Tm.chk h kids : Int) := if_pos e
theorem u6 {h : Hd} {kids : Tm} (e : Tm.chk h kids = 0) (c : Ck.castT h kids = true) : snd h kids = 30 := by unfold snd; rw [if_neg (by omega), if_pos c]
theorem zEs {h : Hd} {kids : Tm} (e : Tm.chk h kids = 0) (c : Ck.castT h kids = false) : snd h kids = 0 := by unfold snd; rw [if_neg (by omega), if_neg (by rw [c]; decide)]
theorem jS {h : Hd} {kids : Tm} (e : snd h kids = 0) : Tm.chk h kids = 0 /\ Ck.castT h kids = false := by
 by_cases h0 : Tm.chk h kids = 0
 ·refine ⟨h0, ?_⟩
  cases hc : Ck.castT h kids
  ·rfl
  ·rw [u6 h0 hc] at e; cases e
 ·rw [zBE h0] at e; omega
theorem zBN {h : Hd} {kids : Tm} (e : Tm.chk h kids = 0) (c : Ck.castT h kids = false) : Good (Cg.grad.ca = true) h kids := ⟨(Ck.vD e).2.2, .inr c, (Ck.vD e).1, (Ck.vD e).2.1⟩
end Qr
theorem uG (kd : Int) (h : Hd) (kids : Tm) (p : Pl) (w : World) (hIs : Tm.Is w h kids p) :
  Calls Tryz.prog 13 #[.agg (tC_ h p), .int .i8 kd] w fun e w' => e = .returned (.int .i64 (Qr.sndK kd h kids)) /\ Below w.heap.size w w' := by
 try unfold tC_
 have hB0 := zO w (.cells (tC_ h p) 28);have HN := k0_ (zD w (.cells (tC_ h p) 28));have CC := k0_ (zA3 h kids p _ (hIs.below hB0));have CH := k0_ (fun (W : World) (hb : Below w.heap.size w W) => zDH kd (Tm.nodes kids + 1) h kids p W (Nat.lt_succ_self _) (hIs.below hb));obtain ⟨S, hS⟩ : ∃ S, S = Qr.sndK kd h kids := ⟨_, rfl⟩
 rw [← hS];generalize hw1 : w.alloc (.cells (tC_ h p) 28) = w1 at *;have HW1 := k0_ hw1;have HB0 := k0_ hB0;obtain ⟨q0, q1, q2, q3, q4, q5, q6, q7, q8, q9, q10, ql⟩ := zJ HN.out;clear hIs hB0 hw1
 by_cases h0 : Tm.chk h kids = 0
 ·rw [h0] at CC
  cases hc : Ck.hasT kd h kids
  all_goals
   first | rw [Qr.zE0 h0 hc] at hS | rw [Qr.zBg h0 hc] at hS
   rw [hc] at CH;subst hS;clear h0 hc
   go_enter Tryz.func13, Tryz.ntmps13
   go_upto_region 1 with fail
   rw [HW1.out]
   go_wp2_with fail
   refine CC.out.mono ?_;rintro e w2 ⟨rfl, hb⟩;have HB2 := kt_ HB0 hb;have HN2 := kp_ hb HN;clear hb q0 q1 q2 q3 q4 q5 q6 q7 q8 q9 q10 ql;obtain ⟨q0, q1, q2, q3, q4, q5, q6, q7, q8, q9, q10, ql⟩ := zJ HN2.out
   go_wp2_with fail
   refine (CH.out _ HB2.out).mono ?_;rintro e w3 ⟨rfl, hb⟩;have HB3 := kt_ HB2 hb;clear hb
   go_wp2_with fail
   go_ret
   exact ⟨rfl, HB3.out⟩
 ·rw [Qr.zCs h0] at hS
  have hn : (S != 0) = true := by simp; omega
  rw [← hS] at CC;clear h0 hS CH
  go_enter Tryz.func13, Tryz.ntmps13
  go_upto_region 1 with fail
  rw [HW1.out]
  go_wp2_with fail
  refine CC.out.mono ?_;rintro e w2 ⟨rfl, hb⟩;have HB2 := kt_ HB0 hb;clear hb
  go_wp2_with fail
  go_ret
  exact ⟨rfl, HB2.out⟩
theorem yI (h : Hd) (kids : Tm) (p : Pl) (w : World) (hIs : Tm.Is w h kids p) :
  Calls Tryz.prog 13 #[.agg (tC_ h p), .int .i8 17] w fun e w' => e = .returned (.int .i64 (Qr.snd h kids)) /\ Below w.heap.size w w' := by
 try unfold tC_
 rw [Qr.zFK];exact uG 17 h kids p w hIs
end Go.Proofs.YtglgjaomneljbaaGreatDoor
