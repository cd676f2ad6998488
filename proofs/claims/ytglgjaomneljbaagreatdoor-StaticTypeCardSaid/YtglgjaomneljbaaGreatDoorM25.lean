import Derived.Test.YtglgjaomneljbaaGreatDoorM23
import Derived.Test.YtglgjaomneljbaaGreatDoorCk9
namespace Go.Proofs.YtglgjaomneljbaaGreatDoor
open Go.RowKit
namespace Ck
theorem yN {wb : World} {h : Hd} {k r : Tm} {A : Option Addr} {i : Nat} (hl : Tm.Lies wb (.node h k r) A i) : ∃ b o q, A = some ⟨b, o, none⟩ /\ KidAt wb b (o + i * 11) h q /\ Tm.Is wb h k q /\ Tm.Lies wb r A (i + 1) := by
 obtain ⟨b, o, q, hA, hc, hf, hk, hr⟩ := hl;exact ⟨b, o, q, hA, fun j v hj => hc j v hj, ⟨hf, hk⟩, hr⟩
theorem zED (Q : Nat -> Prop) (w : World) (k : Int) (hk : -128 <= k /\ k <= 127) : Ly Q w (k, .nil) none 0 0 := fun u _ => qw hk u
end Ck
theorem wE (Q : Nat -> Prop) (k : Int) (hk : -128 <= k /\ k <= 127) (w : World) : Calls Tryz.prog 47 #[.int .i8 k, .slice none 0 0] w (Ck.Post Q w (.ok (k, .nil))) :=
 (qM k none 0 0 w).mono fun _ _ ⟨he, hb⟩ => ⟨none, 0, 0, he, Ck.zED _ _ k hk, hb⟩
theorem zAx (rv : Cg.Rv) (K : Nat) (Q : Nat -> Prop) (h : Hd) (kids : Tm) (p : Pl) (l : Ck.Env) (A : Option Addr) (n c : Nat) (wb w : World) (hIs : Tm.Is wb h kids p) (hwb : Below wb.heap.size wb w) (hQ : ∀ b, b < wb.heap.size -> Q b) (hS : Shapes w) (hE : Ck.EAt Q w l A n c)
  (ho : Tm.okT h kids = true) (hc : rv.D.ca = true \/ Ck.castT h kids = false) (hb : l.length + 2 * (Tm.nodes kids + 1) <= 20000)
  (IH : ∀ (h1 : Hd) (k1 : Tm) (q : Pl), Tm.nodes k1 < Tm.nodes kids -> Tm.Is wb h1 k1 q -> Tm.okT h1 k1 = true -> (rv.D.ca = true \/ Ck.castT h1 k1 = false) -> Ck.TellsOf rv K wb h1 k1 q) :
  Calls Tryz.prog 48 #[.agg (rF_ rv), .agg (tC_ h p), .slice A n c] w (Ck.Post Q w (Cg.raw rv.D (Cg.ty rv.D K) h kids l)) := by
 try unfold tC_
 try unfold rF_
 by_cases hov : Ck.isOver h.kind
 ·exact ug rv K Q h kids p l A n c wb w hIs hwb hQ hS hE ho hc hov hb IH
 obtain ⟨hik, hlen, hokF⟩ := Ck.jV ho;have hcF := hc.imp id fun q => (Ck.qb q).2
 have hkk : h.kind = 0 \/ h.kind = 1 \/ h.kind = 2 \/ h.kind = 3 \/ h.kind = 4 \/ h.kind = 5 \/ h.kind = 7 \/ h.kind = 14 := by
  simp only [Tm.isKind, decide_eq_true_eq] at hik;unfold Ck.isOver at hov
  omega
 have hQ1 : ∀ w1 : World, Below w.heap.size w w1 -> ∀ b, b < wb.heap.size -> Ck.Cut Q w.heap.size (w.heap.size + 3) b := fun w1 _ b hb => .inl ⟨hQ b hb, Nat.lt_of_lt_of_le hb hwb.size⟩
 have hE1 : ∀ w1 : World, Below w.heap.size w w1 -> Ck.EAt (Ck.Cut Q w.heap.size (w.heap.size + 3)) w1 l A n c := fun w1 hb1 => (hE.weak (fun b hb hq => .inl ⟨hq, hb⟩)).below hb1
 rcases hkk with hk | hk | hk | hk | hk | hk | hk | hk
 ·rw [Cg.zDD _ _ _ _ _ hk]
  exact zAt rv Q h p A n c w _ hk fun w1 hb1 _ => uj _ h p l A n c w1 (hE1 w1 hb1) hIs.fit.nm
 ·rw [Cg.zDC _ _ _ _ _ hk]
  exact zAv rv Q h p A n c w _ hk fun w1 _ _ => wE _ 1 (by decide) w1
 ·rw [Cg.zD4 _ _ _ _ _ hk]
  exact zAs rv Q h p A n c w _ hk fun w1 _ _ => wE _ 2 (by decide) w1
 ·rw [Cg.zD3 _ _ _ _ _ hk]
  exact zCG rv Q h p A n c w _ hk fun w1 _ _ => wE _ 2 (by decide) w1
 ·rw [hk] at hlen
  obtain ⟨h1, k1, rfl⟩ : ∃ h1 k1, kids = .node h1 k1 .nil := by
   match kids, hlen with
   | .node h1 k1 .nil, _ => exact ⟨h1, k1, rfl⟩
   | .node _ _ (.node _ _ _), e => simp [Tm.len, Tm.kidsN] at e
   | .nil, e => simp [Tm.len, Tm.kidsN] at e
  rw [Cg.zD2 _ _ _ _ _ hk];obtain ⟨b, o, q, hA, g1, i1, -⟩ := Ck.yN hIs.lies;have hn : p.n = 1 := hIs.fit.n_eq;have hT := hIs.fit.ty;have hU := hIs.fit.to;have ok1 := Ck.qI hokF;simp only [Tm.nodes] at hb;have T1 := IH h1 k1 q (by simp only [Tm.nodes]; omega) i1 ok1.1 (hcF.imp id fun q => by simp only [Ck.castF, Bool.or_eq_false_iff] at q; unfold Ck.castT; rw [q.1.1, q.1.2]; rfl);obtain ⟨TA, tn, tc, UA, un, uc, pA, pn, pc⟩ := p;dsimp only at hA hn hT hU;subst hA hn;exact zB4 rv K Q h h1 k1 q TA UA tn tc un uc b o pc l A n c wb w hT hU (by simpa using g1) hwb hQ hS hE hk (by omega) T1
 ·rw [hk] at hlen
  obtain ⟨h1, k1, rfl⟩ : ∃ h1 k1, kids = .node h1 k1 .nil := by
   match kids, hlen with
   | .node h1 k1 .nil, _ => exact ⟨h1, k1, rfl⟩
   | .node _ _ (.node _ _ _), e => simp [Tm.len, Tm.kidsN] at e
   | .nil, e => simp [Tm.len, Tm.kidsN] at e
  rw [Cg.zD1 _ _ _ _ _ hk];obtain ⟨b, o, q, hA, g1, i1, -⟩ := Ck.yN hIs.lies;have hn : p.n = 1 := hIs.fit.n_eq;have hT := hIs.fit.ty;have hU := hIs.fit.to;have ok1 := Ck.qI hokF;simp only [Tm.nodes] at hb;have T1 := IH h1 k1 q (by simp only [Tm.nodes]; omega) i1 ok1.1 (hcF.imp id fun q => by simp only [Ck.castF, Bool.or_eq_false_iff] at q; unfold Ck.castT; rw [q.1.1, q.1.2]; rfl);obtain ⟨TA, tn, tc, UA, un, uc, pA, pn, pc⟩ := p;dsimp only at hA hn hT hU;subst hA hn;exact zAu rv Q h _ A n c w _ hk fun w1 hb1 _ => zAz rv K _ h h1 k1 q TA UA tn tc un uc b o pc l A n c wb w1 hT hU (by simpa using g1) (hwb.trans (hb1.mono hwb.size)) (hQ1 w1 hb1) (hS.below hb1) (hE1 w1 hb1) (by omega) T1
 ·rw [hk] at hlen
  obtain ⟨h1, k1, h2, k2, rfl⟩ : ∃ h1 k1 h2 k2, kids = .node h1 k1 (.node h2 k2 .nil) := by
   match kids, hlen with
   | .node h1 k1 (.node h2 k2 .nil), _ => exact ⟨h1, k1, h2, k2, rfl⟩
   | .node _ _ (.node _ _ (.node _ _ _)), e => simp [Tm.len, Tm.kidsN] at e
   | .node _ _ .nil, e => simp [Tm.len, Tm.kidsN] at e
   | .nil, e => simp [Tm.len, Tm.kidsN] at e
  rw [Cg.zD0 _ _ _ _ _ hk];obtain ⟨b, o, q, hA, g1, i1, l2⟩ := Ck.yN hIs.lies;obtain ⟨b', o', q2, hA2, g2, i2, -⟩ := Ck.yN l2;have hn : p.n = 2 := hIs.fit.n_eq;have hT := hIs.fit.ty;have hU := hIs.fit.to;have ok1 := Ck.qI hokF;have ok2 := Ck.qI ok1.2;simp only [Tm.nodes] at hb;have T1 := IH h1 k1 q (by simp only [Tm.nodes]; omega) i1 ok1.1 (hcF.imp id fun q => by simp only [Ck.castF, Bool.or_eq_false_iff] at q; unfold Ck.castT; rw [q.1.1, q.1.2]; rfl);have T2 := IH h2 k2 q2 (by simp only [Tm.nodes]; omega) i2 ok2.1 (hcF.imp id fun q => by simp only [Ck.castF, Bool.or_eq_false_iff] at q; unfold Ck.castT; rw [q.2.1.1, q.2.1.2]; rfl);obtain ⟨TA, tn, tc, UA, un, uc, pA, pn, pc⟩ := p;dsimp only at hA hA2 hn hT hU;subst hA hn;injection hA2 with hA2
  injection hA2 with e1 e2
  subst e1 e2;exact zAw rv Q h _ A n c w _ hk fun w1 hb1 _ => zB3 rv K _ h h1 h2 k1 k2 q q2 TA UA tn tc un uc b o pc l A n c wb w1 hT hU (by simpa using g1) (by simpa using g2) (hwb.trans (hb1.mono hwb.size)) (hQ1 w1 hb1) (hS.below hb1) (hE1 w1 hb1) (by omega) (by omega) T1 T2
 ·rw [hk] at hlen
  obtain ⟨h1, k1, h2, k2, h3, k3, rfl⟩ : ∃ h1 k1 h2 k2 h3 k3, kids = .node h1 k1 (.node h2 k2 (.node h3 k3 .nil)) := by
   match kids, hlen with
   | .node h1 k1 (.node h2 k2 (.node h3 k3 .nil)), _ => exact ⟨h1, k1, h2, k2, h3, k3, rfl⟩
   | .node _ _ (.node _ _ (.node _ _ (.node _ _ _))), e => simp [Tm.len, Tm.kidsN] at e
   | .node _ _ (.node _ _ .nil), e => simp [Tm.len, Tm.kidsN] at e
   | .node _ _ .nil, e => simp [Tm.len, Tm.kidsN] at e
   | .nil, e => simp [Tm.len, Tm.kidsN] at e
  rw [Cg.zAN _ _ _ _ _ hk];obtain ⟨b, o, q, hA, g1, i1, l2⟩ := Ck.yN hIs.lies;obtain ⟨b', o', q2, hA2, g2, i2, l3⟩ := Ck.yN l2;obtain ⟨b2, o2, q3, hA3, g3, i3, -⟩ := Ck.yN l3;have hn : p.n = 3 := hIs.fit.n_eq;have hT := hIs.fit.ty;have hU := hIs.fit.to;have ok1 := Ck.qI hokF;have ok2 := Ck.qI ok1.2;have ok3 := Ck.qI ok2.2;simp only [Tm.nodes] at hb;have T1 := IH h1 k1 q (by simp only [Tm.nodes]; omega) i1 ok1.1 (hcF.imp id fun q => by simp only [Ck.castF, Bool.or_eq_false_iff] at q; unfold Ck.castT; rw [q.1.1, q.1.2]; rfl);have T2 := IH h2 k2 q2 (by simp only [Tm.nodes]; omega) i2 ok2.1 (hcF.imp id fun q => by simp only [Ck.castF, Bool.or_eq_false_iff] at q; unfold Ck.castT; rw [q.2.1.1, q.2.1.2]; rfl);have T3 := IH h3 k3 q3 (by simp only [Tm.nodes]; omega) i3 ok3.1 (hcF.imp id fun q => by simp only [Ck.castF, Bool.or_eq_false_iff] at q; unfold Ck.castT; rw [q.2.2.1.1, q.2.2.1.2]; rfl);obtain ⟨TA, tn, tc, UA, un, uc, pA, pn, pc⟩ := p;dsimp only at hA hA2 hA3 hn hT hU;subst hA hn;injection hA2 with hA2
  injection hA2 with e1 e2
  subst e1 e2;injection hA3 with hA3
  injection hA3 with e1 e2
  subst e1 e2;exact uh rv Q h _ A n c w _ hk fun w1 hb1 _ => kY rv K _ h h1 h2 h3 k1 k2 k3 q q2 q3 TA UA tn tc un uc b o pc l A n c wb w1 hT hU (by simpa using g1) (by simpa using g2) (by simpa using g3) (hwb.trans (hb1.mono hwb.size)) (hQ1 w1 hb1) (hS.below hb1) (hE1 w1 hb1) (by omega) (by omega) (by omega) T1 T2 T3
theorem zAy (rv : Cg.Rv) (K : Nat) : ∀ (h : Hd) (kids : Tm) (p : Pl) (wb : World), Tm.nodes kids < K -> Tm.Is wb h kids p -> Tm.okT h kids = true -> (rv.D.ca = true \/ Ck.castT h kids = false) -> Ck.TellsOf rv K wb h kids p := by
 induction K with
 | zero => intro _ _ _ _ hK; omega
 | succ K ih =>
  intro h kids p wb hK hIs ho hc Q l A n c W hwb hQ hS hE hlen;rw [Cg.qd];refine zCH rv Q h p A n c W _ hS fun w1 hb1 hz => ?_
  exact zAx rv K _ h kids p l A n c wb w1 hIs (hwb.trans (hb1.mono hwb.size)) (fun b hb => .inl ⟨hQ b hb, Nat.lt_of_lt_of_le hb hwb.size⟩) (hS.below hb1) ((hE.weak (fun b hb hq => .inl ⟨hq, hb⟩)).below hb1) ho hc hlen
   (fun h1 k1 q hlt hIs1 ho1 hc1 => ih h1 k1 q wb (by omega) hIs1 ho1 hc1)
theorem Ck.zCz {kd : Int} {h : Hd} {kids : Tm} (e : Ck.refKO kd h kids = none) : Tm.chk h kids = 0 /\ Ck.hasT kd h kids = false := by
 unfold Ck.refKO Ck.refK at e
 by_cases h0 : Tm.chk h kids = 0
 ·refine ⟨h0, ?_⟩
  cases hc : Ck.hasT kd h kids
  ·rfl
  ·rw [hc] at e; simp [h0] at e
 ·rw [if_pos h0] at e
  rw [if_neg (by omega)] at e;cases e
theorem zBq (rv : Cg.Rv) (h : Hd) (kids : Tm) (p : Pl) (w : World) (x : Option (Int × Int)) (hIs : Tm.Is w h kids p) (hG : TGlob w) (hr : x = none -> Tm.chk h kids = 0 /\ (rv.D.ca = true \/ Ck.castT h kids = false))
  (hRef : ∀ W : World, Below w.heap.size w W -> Calls Tryz.prog rv.fr (#[.agg (tC_ h p)] ++ rv.cpt) W (Cg.RefPost W x)) :
  Calls Tryz.prog 12 #[.agg (rF_ rv), .agg (tC_ h p)] w (Ck.TyPost w (Cg.tellR rv.D x h kids)) := by
 try unfold tC_
 try unfold rF_
 unfold Cg.tellR
 cases hq : x with
 | some x =>
  rw [hq] at hRef;exact yh rv h p w x hRef
 | none =>
  obtain ⟨h0, hc⟩ := hr hq;rw [hq] at hRef;obtain ⟨hnd, -, hok⟩ := Ck.vD h0;refine zAG rv h p w _ hRef (fun a e => Cg.jd e) fun W hb => ?_
  exact zAy rv (Tm.nodes kids + 1) h kids p w (Nat.lt_succ_self _) hIs hok hc (fun b => b < w.heap.size) [] none 0 0 W hb (fun _ h => h) (hG.below hb).types (Ck.EAt.empty _ _) (by unfold Tm.nd at hnd; simp only [List.length_nil]; omega)
set_option maxHeartbeats 2000000 in
set_option maxRecDepth 100000 in
theorem zC3 (K : Nat) : ∀ (k : Int) (kids : Fo) (A : Option Addr) (n c : Nat) (k' : Int) (kids' : Fo) (A' : Option Addr) (n' c' : Nat) (w : World), Ty.nodes kids < K -> Ty.Is w k kids A n c -> Ty.Is w k' kids' A' n' c' ->
  Calls Tryz.prog 7 #[.agg #[.int .i8 k, .slice A n c], .agg #[.int .i8 k', .slice A' n' c']] w fun e w' => e = .returned (.bool (Ty.eqT k kids k' kids')) /\ Below w.heap.size w w' := by
 induction K with
 | zero => intro _ _ _ _ _ _ _ _ _ _ _ h; omega
 | succ K ih =>
  intro k kids A n c k' kids' A' n' c' w hK hIs hIs';have i5 : (n : Int) <= 9223372036854775807 := by have h1 := hIs.n_le; have h2 := hIs.c_le; unfold maxLen at h2; omega
  obtain ⟨hB0, hR0, hR1⟩ := vv w k A n c k' A' n' c';have HI := k0_ hIs;have HI' := k0_ hIs';have IH := k0_ ih;clear ih hIs hIs';obtain ⟨b0, b1, _, _, hb0⟩ := zF hR0;obtain ⟨d0, d1, _, _, hd0⟩ := zF hR1
  by_cases hkk : k = k'
  ·by_cases hnn : n = n'
   ·subst hkk
    subst hnn;rw [show Ty.eqT k kids k kids' = Ty.eqF kids kids' by unfold Ty.eqT; simp];have hk2 : (k != k) = false := by simp
    obtain ⟨R, hR⟩ : ∃ R, Ty.eqF kids kids' = R := ⟨_, rfl⟩
    rw [hR];have HR := k0_ hR;have hlies2 := HI'.out.lies.below hB0;have hst := Over.start (HI.out.lies.below hB0) HI.out.n_eq;have hst2 : Over2 w _ A' n 0 kids' := ⟨by have := HI'.out.n_eq; omega, hlies2⟩;have hn2 : ((n : Int) != (n : Int)) = false := by simp
    clear hR0 hR1 hR hlies2;generalize hw1 : (w.alloc (.cells #[.int .i8 k, .slice A n c] 25)).alloc (.cells #[.int .i8 k, .slice A' n c'] 25) = w1 at *;have HS := k0_ hst;have HS2 := k0_ hst2;have HW := k0_ hw1;clear hst hst2 hw1
    go_enter Tryz.func7, Tryz.ntmps7
    go_wp2_with fail
    rw [HW.out]
    go_wp2_with fail
    go_loopw [23] (fun v23 wr => ∃ (i : Nat) (r1 r2 : Fo), v23 = .int .i64 i /\ Over w1 wr A n (Ty.nodes kids) i r1 /\ Over2 w wr A' n i r2 /\ Ty.eqF r1 r2 = R) (fun v _ => n - (intOf v).toNat)
    case atStart => exact ⟨0, kids, kids', rfl, HS.out, HS2.out, HR.out⟩
    case round =>
     obtain ⟨i, r1, r2, rfl, hO, hO2, hRR⟩ := hrel;have hbB := hB0.trans (hO.below.mono hB0.size);obtain ⟨e0, e1⟩ := hO.box b0 b1;obtain ⟨g0, g1⟩ := hO.box d0 d1;clear b0 b1 d0 d1
     cases r1 with
     | nil =>
      have hi : i = n := by have := hO.i_eq; simpa [Ty.len] using this
      have hr2 : r2 = .nil := by
       exact zFA
      subst hr2;clear hO hO2;simp only [Ty.eqF] at hRR;exact zEV
     | node a b kk kks r =>
      cases r2 with
      | nil => have q1 := hO.i_eq; have q2 := hO2.i_eq; simp only [Ty.len] at q1 q2; omega
      | node a2 b2 kk2 kks2 s =>
      have hst := fun w2 hb => Over.step (w2 := w2) hO hb
      have h1 := hO.i_eq;have h2 := hO.lies;have h3 := hO.sub;have q1 := hO2.i_eq;have q2 := hO2.lies;simp only [Ty.len, Ty.nodes, Ty.eqF] at h1 h3 hRR q1;obtain ⟨bb, oo, B, c9, rfl, ⟨hk1, hk2'⟩, c1', c2', hl1, hl2, hl3, hl4⟩ := h2;obtain ⟨bb2, oo2, B2, c3, rfl, ⟨gk1, gk2⟩, x1, x2, gl1, gl2, gl3, gl4⟩ := q2;have hcall := fun (W : World) (hb : Below wr.heap.size wr W) => IH.out kk kks B (Ty.len kks) c9 kk2 kks2 B2 (Ty.len kks2) c3 W (by omega) ⟨hl3.below hb, rfl, hl1, hl2, hk1, hk2'⟩ ⟨gl3.below hb, rfl, gl1, gl2, gk1, gk2⟩
      have HST := k0_ hst;have HL := k0_ hl4;have HL2 := k0_ gl4;have HC := k0_ hcall;have HRR := k0_ hRR;have j1 : (i : Int) < n := by omega
      have j2 : (0 : Int) <= i /\ (i : Int) < n := by omega
      have hBd := k0_ (below_drewN (Below.refl wr.heap.size wr) 1);clear hst hl3 hl4 gl3 gl4 hcall hO hO2 hRR;cases hp : Ty.eqT kk kks kk2 kks2
      ·exact zGF
      ·have hp0 := HRR.out
       unfold Ty.eqT at hp;rw [hp, Bool.true_and] at hp0;have HP := k0_ hp0;rw [show Ty.eqT kk kks kk2 kks2 = true from hp] at HC;clear hp hp0
       go_wp2_with fail
       go_still_tail 10, (by kernel_rfl)
       change wpList _ _ _ _ _ (wr.drewN 1);have hsz : (wr.drewN 1).heap.size = wr.heap.size := rfl;clear e0 e1 g0 g1 c1' c2' x1 x2;generalize wr.drewN 1 = w2 at *
       go_wp2_with fail
       refine (HC.out _ hBd.out).mono ?_;rintro e w3 ⟨rfl, hb⟩;have hB2 : Below wr.heap.size wr w3 := hBd.out.trans (hb.mono (by omega));have hbb := k0_ (HST.out w3 hB2 HL.out);have hbb2 : Hid (Over2 w w3 (some ⟨bb2, oo2, none⟩) n (i + 1) s) := k0_ ⟨by omega, HL2.out.below hB2⟩;clear hb hB2 hsz;exact zFk
   ·subst hkk
    have hl : Ty.len kids ≠ Ty.len kids' := by have h1 := HI.out.n_eq; have h2 := HI'.out.n_eq; omega
    rw [show Ty.eqT k kids k kids' = false by unfold Ty.eqT; simp [Ty.zDd _ _ hl]];have hk2 : (k != k) = false := by simp
    have hn2 : ((n : Int) != (n' : Int)) = true := by simp; omega
    clear hl hR0 hR1
    go_enter Tryz.func7, Tryz.ntmps7
    go_wp2_with fail
    go_ret
    exact ⟨rfl, hB0⟩
  ·rw [show Ty.eqT k kids k' kids' = false by unfold Ty.eqT; simp [hkk]]
   have hk2 : (k != k') = true := by simpa using hkk
   clear hkk hR0 hR1
   go_enter Tryz.func7, Tryz.ntmps7
   go_wp2_with fail
   go_ret
   exact ⟨rfl, hB0⟩
namespace Ck
end Ck
end Go.Proofs.YtglgjaomneljbaaGreatDoor
