import Derived.Test.YtepmjknljbafgaaGreatDoorM32
import Derived.Test.YtepmjknljbafgaaGreatDoorCk9
namespace Go.Proofs.YtepmjknljbafgaaGreatDoor
open Go.RowKit
namespace Ck
theorem xL {wb : World} {h : Hd} {k r : Tm} {A : Option Addr} {i : Nat} (hl : Tm.Lies wb (.node h k r) A i) : ∃ b o q, A = some ⟨b, o, none⟩ /\ KidAt wb b (o + i * 11) h q /\ Tm.Is wb h k q /\ Tm.Lies wb r A (i + 1) := by
  obtain ⟨b, o, q, hA, hc, hf, hk, hr⟩ := hl;exact ⟨b, o, q, hA, fun j v hj => hc j v hj, ⟨hf, hk⟩, hr⟩
theorem zFf (Q : Nat -> Prop) (w : World) (k : Int) (hk : -128 <= k /\ k <= 127) : Ly Q w (k, .nil) none 0 0 := fun u _ => vJ hk u
end Ck
theorem uU (Q : Nat -> Prop) (k : Int) (hk : -128 <= k /\ k <= 127) (w : World) : Calls Tryz.prog 106 #[.int .i8 k, .slice none 0 0] w (Ck.Post Q w (.ok (k, .nil))) :=
  (qo k none 0 0 w).mono fun _ _ ⟨he, hb⟩ => ⟨none, 0, 0, he, Ck.zFf _ _ k hk, hb⟩
theorem zBs (rv : Cg.Rv) (K : Nat) (Q : Nat -> Prop) (h : Hd) (kids : Tm) (p : Pl) (l : Ck.Env) (A : Option Addr) (n c : Nat) (wb w : World) (hIs : Tm.Is wb h kids p) (hwb : Below wb.heap.size wb w) (hQ : ∀ b, b < wb.heap.size -> Q b) (hS : Shapes w) (hE : Ck.EAt Q w l A n c)
    (ho : Tm.okT h kids = true) (hc : rv.D.ca = true \/ Ck.castT h kids = false) (hb : l.length + 2 * (Tm.nodes kids + 1) <= 20000)
    (IH : ∀ (h1 : Hd) (k1 : Tm) (q : Pl), Tm.nodes k1 < Tm.nodes kids -> Tm.Is wb h1 k1 q -> Tm.okT h1 k1 = true -> (rv.D.ca = true \/ Ck.castT h1 k1 = false) -> Ck.TellsOf rv K wb h1 k1 q) :
    Calls Tryz.prog 77 #[.agg (rF_ rv), .agg (tC_ h p), .slice A n c] w (Ck.Post Q w (Cg.raw rv.D (Cg.ty rv.D K) h kids l)) := by
  try unfold tC_
  try unfold rF_
  by_cases hov : Ck.isOver h.kind
  · exact zAl rv K Q h kids p l A n c wb w hIs hwb hQ hS hE ho hc hov hb IH
  obtain ⟨hik, hlen, hokF⟩ := Ck.wP ho;have hcF := hc.imp id fun q => (Ck.vC q).2
  have hkk : h.kind = 0 \/ h.kind = 1 \/ h.kind = 2 \/ h.kind = 3 \/ h.kind = 4 \/ h.kind = 5 \/ h.kind = 7 \/ h.kind = 14 := by
    simp only [Tm.isKind, decide_eq_true_eq] at hik;unfold Ck.isOver at hov
    omega
  have hQ1 : ∀ w1 : World, Below w.heap.size w w1 -> ∀ b, b < wb.heap.size -> Ck.Cut Q w.heap.size (w.heap.size + 3) b := fun w1 _ b hb => .inl ⟨hQ b hb, Nat.lt_of_lt_of_le hb hwb.size⟩
  have hE1 : ∀ w1 : World, Below w.heap.size w w1 -> Ck.EAt (Ck.Cut Q w.heap.size (w.heap.size + 3)) w1 l A n c := fun w1 hb1 => (hE.weak (fun b hb hq => .inl ⟨hq, hb⟩)).below hb1
  rcases hkk with hk | hk | hk | hk | hk | hk | hk | hk
  · rw [Cg.zGT _ _ _ _ _ hk]
    exact zBo rv Q h p A n c w _ hk fun w1 hb1 _ => zAo _ h p l A n c w1 (hE1 w1 hb1) hIs.fit.nm
  · rw [Cg.zGS _ _ _ _ _ hk]
    exact zBq rv Q h p A n c w _ hk fun w1 _ _ => uU _ 1 (by decide) w1
  · rw [Cg.zGR _ _ _ _ _ hk]
    exact zBn rv Q h p A n c w _ hk fun w1 _ _ => uU _ 2 (by decide) w1
  · rw [Cg.zGQ _ _ _ _ _ hk]
    exact zDS rv Q h p A n c w _ hk fun w1 _ _ => uU _ 2 (by decide) w1
  · rw [hk] at hlen
    obtain ⟨h1, k1, rfl⟩ : ∃ h1 k1, kids = .node h1 k1 .nil := by
      match kids, hlen with
      | .node h1 k1 .nil, _ => exact ⟨h1, k1, rfl⟩
      | .node _ _ (.node _ _ _), e => simp [Tm.len, Tm.kidsN] at e
      | .nil, e => simp [Tm.len, Tm.kidsN] at e
    rw [Cg.zGP _ _ _ _ _ hk];obtain ⟨b, o, q, hA, g1, i1, -⟩ := Ck.xL hIs.lies;have hn : p.n = 1 := hIs.fit.n_eq;have hT := hIs.fit.ty;have hU := hIs.fit.to;have ok1 := Ck.qU hokF;simp only [Tm.nodes] at hb;have T1 := IH h1 k1 q (by simp only [Tm.nodes]; omega) i1 ok1.1 (hcF.imp id fun q => by simp only [Ck.castF, Bool.or_eq_false_iff] at q; unfold Ck.castT; rw [q.1.1, q.1.2]; rfl);obtain ⟨TA, tn, tc, UA, un, uc, pA, pn, pc⟩ := p;dsimp only at hA hn hT hU;subst hA hn;exact zBz rv K Q h h1 k1 q TA UA tn tc un uc b o pc l A n c wb w hT hU (by simpa using g1) hwb hQ hS hE hk (by omega) T1
  · rw [hk] at hlen
    obtain ⟨h1, k1, rfl⟩ : ∃ h1 k1, kids = .node h1 k1 .nil := by
      match kids, hlen with
      | .node h1 k1 .nil, _ => exact ⟨h1, k1, rfl⟩
      | .node _ _ (.node _ _ _), e => simp [Tm.len, Tm.kidsN] at e
      | .nil, e => simp [Tm.len, Tm.kidsN] at e
    rw [Cg.zGO _ _ _ _ _ hk];obtain ⟨b, o, q, hA, g1, i1, -⟩ := Ck.xL hIs.lies;have hn : p.n = 1 := hIs.fit.n_eq;have hT := hIs.fit.ty;have hU := hIs.fit.to;have ok1 := Ck.qU hokF;simp only [Tm.nodes] at hb;have T1 := IH h1 k1 q (by simp only [Tm.nodes]; omega) i1 ok1.1 (hcF.imp id fun q => by simp only [Ck.castF, Bool.or_eq_false_iff] at q; unfold Ck.castT; rw [q.1.1, q.1.2]; rfl);obtain ⟨TA, tn, tc, UA, un, uc, pA, pn, pc⟩ := p;dsimp only at hA hn hT hU;subst hA hn;exact zBp rv Q h _ A n c w _ hk fun w1 hb1 _ => zBu rv K _ h h1 k1 q TA UA tn tc un uc b o pc l A n c wb w1 hT hU (by simpa using g1) (hwb.trans (hb1.mono hwb.size)) (hQ1 w1 hb1) (hS.below hb1) (hE1 w1 hb1) (by omega) T1
  · rw [hk] at hlen
    obtain ⟨h1, k1, h2, k2, rfl⟩ : ∃ h1 k1 h2 k2, kids = .node h1 k1 (.node h2 k2 .nil) := by
      match kids, hlen with
      | .node h1 k1 (.node h2 k2 .nil), _ => exact ⟨h1, k1, h2, k2, rfl⟩
      | .node _ _ (.node _ _ (.node _ _ _)), e => simp [Tm.len, Tm.kidsN] at e
      | .node _ _ .nil, e => simp [Tm.len, Tm.kidsN] at e
      | .nil, e => simp [Tm.len, Tm.kidsN] at e
    rw [Cg.zGM _ _ _ _ _ hk];obtain ⟨b, o, q, hA, g1, i1, l2⟩ := Ck.xL hIs.lies;obtain ⟨b', o', q2, hA2, g2, i2, -⟩ := Ck.xL l2;have hn : p.n = 2 := hIs.fit.n_eq;have hT := hIs.fit.ty;have hU := hIs.fit.to;have ok1 := Ck.qU hokF;have ok2 := Ck.qU ok1.2;simp only [Tm.nodes] at hb;have T1 := IH h1 k1 q (by simp only [Tm.nodes]; omega) i1 ok1.1 (hcF.imp id fun q => by simp only [Ck.castF, Bool.or_eq_false_iff] at q; unfold Ck.castT; rw [q.1.1, q.1.2]; rfl);have T2 := IH h2 k2 q2 (by simp only [Tm.nodes]; omega) i2 ok2.1 (hcF.imp id fun q => by simp only [Ck.castF, Bool.or_eq_false_iff] at q; unfold Ck.castT; rw [q.2.1.1, q.2.1.2]; rfl);obtain ⟨TA, tn, tc, UA, un, uc, pA, pn, pc⟩ := p;dsimp only at hA hA2 hn hT hU;subst hA hn;injection hA2 with hA2
    injection hA2 with e1 e2
    subst e1 e2;exact zBr rv Q h _ A n c w _ hk fun w1 hb1 _ => zBy rv K _ h h1 h2 k1 k2 q q2 TA UA tn tc un uc b o pc l A n c wb w1 hT hU (by simpa using g1) (by simpa using g2) (hwb.trans (hb1.mono hwb.size)) (hQ1 w1 hb1) (hS.below hb1) (hE1 w1 hb1) (by omega) (by omega) T1 T2
  · rw [hk] at hlen
    obtain ⟨h1, k1, h2, k2, h3, k3, rfl⟩ : ∃ h1 k1 h2 k2 h3 k3, kids = .node h1 k1 (.node h2 k2 (.node h3 k3 .nil)) := by
      match kids, hlen with
      | .node h1 k1 (.node h2 k2 (.node h3 k3 .nil)), _ => exact ⟨h1, k1, h2, k2, h3, k3, rfl⟩
      | .node _ _ (.node _ _ (.node _ _ (.node _ _ _))), e => simp [Tm.len, Tm.kidsN] at e
      | .node _ _ (.node _ _ .nil), e => simp [Tm.len, Tm.kidsN] at e
      | .node _ _ .nil, e => simp [Tm.len, Tm.kidsN] at e
      | .nil, e => simp [Tm.len, Tm.kidsN] at e
    rw [Cg.zEJ _ _ _ _ _ hk];obtain ⟨b, o, q, hA, g1, i1, l2⟩ := Ck.xL hIs.lies;obtain ⟨b', o', q2, hA2, g2, i2, l3⟩ := Ck.xL l2;obtain ⟨b2, o2, q3, hA3, g3, i3, -⟩ := Ck.xL l3;have hn : p.n = 3 := hIs.fit.n_eq;have hT := hIs.fit.ty;have hU := hIs.fit.to;have ok1 := Ck.qU hokF;have ok2 := Ck.qU ok1.2;have ok3 := Ck.qU ok2.2;simp only [Tm.nodes] at hb;have T1 := IH h1 k1 q (by simp only [Tm.nodes]; omega) i1 ok1.1 (hcF.imp id fun q => by simp only [Ck.castF, Bool.or_eq_false_iff] at q; unfold Ck.castT; rw [q.1.1, q.1.2]; rfl);have T2 := IH h2 k2 q2 (by simp only [Tm.nodes]; omega) i2 ok2.1 (hcF.imp id fun q => by simp only [Ck.castF, Bool.or_eq_false_iff] at q; unfold Ck.castT; rw [q.2.1.1, q.2.1.2]; rfl);have T3 := IH h3 k3 q3 (by simp only [Tm.nodes]; omega) i3 ok3.1 (hcF.imp id fun q => by simp only [Ck.castF, Bool.or_eq_false_iff] at q; unfold Ck.castT; rw [q.2.2.1.1, q.2.2.1.2]; rfl);obtain ⟨TA, tn, tc, UA, un, uc, pA, pn, pc⟩ := p;dsimp only at hA hA2 hA3 hn hT hU;subst hA hn;injection hA2 with hA2
    injection hA2 with e1 e2
    subst e1 e2;injection hA3 with hA3
    injection hA3 with e1 e2
    subst e1 e2;exact zAm rv Q h _ A n c w _ hk fun w1 hb1 _ => yL rv K _ h h1 h2 h3 k1 k2 k3 q q2 q3 TA UA tn tc un uc b o pc l A n c wb w1 hT hU (by simpa using g1) (by simpa using g2) (by simpa using g3) (hwb.trans (hb1.mono hwb.size)) (hQ1 w1 hb1) (hS.below hb1) (hE1 w1 hb1) (by omega) (by omega) (by omega) T1 T2 T3
theorem zBt (rv : Cg.Rv) (K : Nat) : ∀ (h : Hd) (kids : Tm) (p : Pl) (wb : World), Tm.nodes kids < K -> Tm.Is wb h kids p -> Tm.okT h kids = true -> (rv.D.ca = true \/ Ck.castT h kids = false) -> Ck.TellsOf rv K wb h kids p := by
  induction K with
  | zero => intro _ _ _ _ hK; omega
  | succ K ih =>
    intro h kids p wb hK hIs ho hc Q l A n c W hwb hQ hS hE hlen;rw [Cg.zCE];refine zDT rv Q h p A n c W _ hS fun w1 hb1 hz => ?_
    exact zBs rv K _ h kids p l A n c wb w1 hIs (hwb.trans (hb1.mono hwb.size)) (fun b hb => .inl ⟨hQ b hb, Nat.lt_of_lt_of_le hb hwb.size⟩) (hS.below hb1) ((hE.weak (fun b hb hq => .inl ⟨hq, hb⟩)).below hb1) ho hc hlen
      (fun h1 k1 q hlt hIs1 ho1 hc1 => ih h1 k1 q wb (by omega) hIs1 ho1 hc1)
theorem Ck.zAP {kd : Int} {h : Hd} {kids : Tm} (e : Ck.refKO kd h kids = none) : Tm.chk h kids = 0 /\ Ck.hasT kd h kids = false := by
  unfold Ck.refKO Ck.refK at e
  by_cases h0 : Tm.chk h kids = 0
  · refine ⟨h0, ?_⟩
    cases hc : Ck.hasT kd h kids
    · rfl
    · rw [hc] at e; simp [h0] at e
  · rw [if_pos h0] at e
    rw [if_neg (by omega)] at e;cases e
theorem zCx (rv : Cg.Rv) (h : Hd) (kids : Tm) (p : Pl) (w : World) (x : Option (Int × Int)) (hIs : Tm.Is w h kids p) (hG : TGlob w) (hr : x = none -> Tm.chk h kids = 0 /\ (rv.D.ca = true \/ Ck.castT h kids = false))
    (hRef : ∀ W : World, Below w.heap.size w W -> Calls Tryz.prog rv.fr (#[.agg (tC_ h p)] ++ rv.cpt) W (Cg.RefPost W x)) :
    Calls Tryz.prog 22 #[.agg (rF_ rv), .agg (tC_ h p)] w (Ck.TyPost w (Cg.tellR rv.D x h kids)) := by
  try unfold tC_
  try unfold rF_
  unfold Cg.tellR
  cases hq : x with
  | some x =>
    rw [hq] at hRef;exact xq rv h p w x hRef
  | none =>
    obtain ⟨h0, hc⟩ := hr hq;rw [hq] at hRef;obtain ⟨hnd, -, hok⟩ := Ck.zDi h0;refine zBL rv h p w _ hG.types hRef (fun a e => Cg.zCF e) fun W hb => ?_
    exact zBt rv (Tm.nodes kids + 1) h kids p w (Nat.lt_succ_self _) hIs hok hc (fun b => b < w.heap.size) [] none 0 0 W hb (fun _ h => h) (hG.below hb).types (Ck.EAt.empty _ _) (by unfold Tm.nd at hnd; simp only [List.length_nil]; omega)
end Go.Proofs.YtepmjknljbafgaaGreatDoor
namespace Go.Proofs.YtepmjknljbafgaaGreatDoor
set_option maxHeartbeats 1000000
set_option maxRecDepth 100000
open Go.RowKit
theorem zDJ (Q : Nat -> Prop) (a : Ck.T2) (A : Option Addr) (n c : Nat) (b : Ck.T2) (A' : Option Addr) (n' c' : Nat) (w : World) (hL : Ck.Ly Q w a A n c) (hL' : Ck.Ly Q w b A' n' c') (hag : Ck.ag a b = true) (hS : Shapes w) :
    Calls Tryz.prog 42 #[.agg #[.int .i8 a.1, .slice A n c], .agg #[.int .i8 b.1, .slice A' n' c']] w (Ck.Gives Q w (Ck.mt a b)) := by
  have HB3 := k0_ (xh w (.cells #[.int .i8 a.1, .slice A n c] 30) (.cells #[.int .i8 b.1, .slice A' n' c'] 30) (.cells #[.int .i8 0, .slice none 0 0] 30));obtain ⟨h0, h1, h2⟩ := kI w (.cells #[.int .i8 a.1, .slice A n c] 30) (.cells #[.int .i8 b.1, .slice A' n' c'] 30) (.cells #[.int .i8 0, .slice none 0 0] 30);have CM := k0_ (fun (W : World) (hb : Below w.heap.size w W) => zBW a.1 a.2 A n c b.1 b.2 A' n' c' W (hL.is.below hb) (hL'.is.below hb) (hS.below hb));unfold MeetTellsP at CM;rw [show Ty.agreeT a.1 a.2 b.1 b.2 = true from hag] at CM;simp only [if_true] at CM;have H2 := k0_ h2;clear hL hL' hS hag h0 h1 h2
  go_enter Tryz.func42, Tryz.ntmps42
  go_wp2_with fail
  refine (CM.out _ HB3.out).mono ?_;rintro e w7 ⟨G, m, cg, rfl, hR, hb7⟩;have hz7 := hb7.size;simp only [World.size_alloc] at hz7;have HB7 := kt_ HB3 hb7;have hb8 : Below w7.heap.size w7 (w7.alloc (.cells #[.int .i8 (Ty.mK a.1 b.1), .slice G m cg] 30)) := (Below.refl _ _).alloc (Nat.le_refl _) _;have HL := k0_ (Ck.Ly.later (Ck.Ly.weak (Q' := fun b => w.heap.size + 3 <= b) (a := Ck.mt a b) (w := w7) hR (fun b _ h => by simp at h; omega)) hb8);have HB8 := kt_ HB7 hb8;have H2 := k0_ (zB (hb7.trans (hb8.mono hb7.size)) (zD H2.out) H2.out);have H5 := k0_ (zF w7 (.cells #[.int .i8 (Ty.mK a.1 b.1), .slice G m cg] 30));clear hR hb7 hb8
  go_upto_region 2 with fail
  generalize w7.alloc (.cells #[.int .i8 (Ty.mK a.1 b.1), .slice G m cg] 30) = w8 at *;obtain ⟨x0, x1, f0, f1, xl⟩ := zK H2.out;obtain ⟨y0, y1, f2, f3, yl⟩ := zK H5.out;have HNE := k0_ (fun (b : Nat) (hq : w.heap.size + 3 <= b) => (show b ≠ w.heap.size + 1 + 1 by omega))
  go_wp2_with fail
  refine bodyPost_ret (v := .agg #[.int .i8 (Ty.mK a.1 b.1), .slice G m cg]) (by simp [results, Tryz.results42, go_sem, *]) rfl ⟨G, m, cg, rfl, ?_, ?_⟩
  · exact (HL.out.set2 HNE.out _ _).weak fun b _ hq => by have : w.heap.size + 3 <= b := hq; exact .inr (by omega)
  · exact zM HB8.out (by omega) _ _
def gradRv (gK : Nat) : Cg.Rv where
  fr := 72
  cpt := #[.pointer (some ⟨gK, 0, none⟩)]
  vg := .nilFunc
  fa := 40
  fm := 41
  ft := 42
  D := Cg.grad
  cfr := fun args W => by simp [go_sem]
  cfa := fun args W => by simp [go_sem]
  cfm := fun args W => by simp [go_sem]
  cft := fun args W => by simp [go_sem]
  agC := fun k kids A n c k' kids' A' n' c' w h1 h2 hS => uC k kids A n c k' kids' A' n' c' w h1 h2 hS
  asC := fun Q kd a A n c w _ hL _ hS => (zGG kd a.1 a.2 A n c w hL.is hS).mono fun e w' ⟨G1, m1, c1, G2, m2, c2, he, h1, h2, hb⟩ =>
    ⟨G1, m1, c1, G2, m2, c2, he, Ck.Ly.weak (a := Ck.asl kd a) h1 (fun b _ h => .inr h), Ck.Ly.weak (a := Ck.asr kd a) h2 (fun b _ h => .inr h), hb⟩
  mtC := fun Q a A n c b A' n' c' w h1 h2 hag hS => zDJ Q a A n c b A' n' c' w h1 h2 hag hS
  gC := fun e => by cases e
theorem yH (w : World) : Calls Tryz.prog 21 #[] w fun e w' => ∃ gK, e = .returned (.agg #[.func (Fn.func 72) #[] #[.pointer (some ⟨gK, 0, none⟩)], .func (Fn.func 40) #[] #[], .func (Fn.func 41) #[] #[], .func (Fn.func 42) #[] #[], .nilFunc]) /\ w'.heap[gK]? = some (.cells #[.int .i8 17] 27 (0, 0)) /\ w.heap.size <= gK /\ Below w.heap.size w w' := by
  have HB := k0_ (zt w (.cells #[.nilFunc, .nilFunc, .nilFunc, .nilFunc, .nilFunc] 82));have H0 := k0_ (zF w (.cells #[.nilFunc, .nilFunc, .nilFunc, .nilFunc, .nilFunc] 82));have CW := k0_ (fun W : World => xx 17 W)
  go_enter Tryz.func21, Tryz.ntmps21
  go_upto_region 1 with fail
  generalize w.alloc (.cells #[.nilFunc, .nilFunc, .nilFunc, .nilFunc, .nilFunc] 82) = w1 at *
  go_wp2_with fail
  refine (CW.out _).mono ?_;rintro e w2 ⟨g, rfl, hk, hg, hb⟩;have HB2 := kt_ HB hb;have H2 := kp_ hb H0;have HG := k0_ hk;have HL := k0_ (Nat.lt_of_lt_of_le (zD H0.out) hg);clear hk hg hb;obtain ⟨r0, r1, r2, r3, r4, z0, z1, z2, z3, z4, rl⟩ := jE H2.out
  go_wp2_with fail
  have k1 := zE9 H2.out (.func (Fn.func 72) #[] #[.pointer (some ⟨g, 0, none⟩)]) (.func (Fn.func 40) #[] #[]) (.func (Fn.func 41) #[] #[]) (.func (Fn.func 42) #[] #[]) .nilFunc;obtain ⟨s0, s1, s2, s3, s4, -⟩ := jE k1;refine bodyPost_ret (v := .agg #[.func (Fn.func 72) #[] #[.pointer (some ⟨g, 0, none⟩)], .func (Fn.func 40) #[] #[], .func (Fn.func 41) #[] #[], .func (Fn.func 42) #[] #[], .nilFunc]) (by simp [results, Tryz.results21, go_sem, s0, s1, s2, s3, s4]) rfl ⟨g, rfl, ?_, ?_, zC8 HB2.out (Nat.le_refl _) _ _ _ _ _⟩
  · exact zAL HG.out (show w.heap.size ≠ g by have := HL.out; omega) _ _ _ _ _
  · have := HL.out; omega
theorem zDf (h : Hd) (p : Pl) (w : World) (a : Ck.T2)
    (hC : ∀ (gK : Nat) (W : World), Below w.heap.size w W -> W.heap[gK]? = some (.cells #[.int .i8 17] 27 (0, 0)) -> Calls Tryz.prog 22 #[.agg #[.func (Fn.func 72) #[] #[.pointer (some ⟨gK, 0, none⟩)], .func (Fn.func 40) #[] #[], .func (Fn.func 41) #[] #[], .func (Fn.func 42) #[] #[], .nilFunc], .agg (tC_ h p)] W (Ck.TyPost W (.ok a))) :
    Calls Tryz.prog 9 #[.agg (tC_ h p)] w (Ck.TyPost w (.ok a)) := by
  try unfold tC_
  have hB2 := jA w (.cells (tC_ h p) 41) (.cells #[.int .i8 0, .slice none 0 0] 30);obtain ⟨h0, h1⟩ := jQ w (.cells (tC_ h p) 41) (.cells #[.int .i8 0, .slice none 0 0] 30);have hz : ((w.alloc (.cells (tC_ h p) 41)).alloc (.cells #[.int .i8 0, .slice none 0 0] 30)).heap.size = w.heap.size + 2 := by simp
  obtain ⟨w1, hw1⟩ : ∃ w1, w1 = (w.alloc (.cells (tC_ h p) 41)).alloc (.cells #[.int .i8 0, .slice none 0 0] 30) := ⟨_, rfl⟩
  rw [← hw1] at hB2 h0 h1 hz;have HW1 := k0_ hw1;have HZ := k0_ hz;have H2 := k0_ h1;have hfrom := k0_ (fun (W : World) (hb : Below w1.heap.size w1 W) => hB2.trans (hb.mono hB2.size));have CT := k0_ (fun (gK : Nat) (W : World) (hb : Below w1.heap.size w1 W) => hC gK W (hB2.trans (hb.mono hB2.size)));have HK := k0_ (fun (W : World) (hb : Below w1.heap.size w1 W) => (zS (zB hb (zD h0) h0)));clear hB2 h0 h1 hz hC
  go_enter Tryz.func9, Tryz.ntmps9
  go_upto_region 1 with fail
  rw [← HW1.out];clear hw1 HW1;refine zP 9 rfl [4, 5, 6, 7, 8, 3] (by kernel_rfl) (by kernel_rfl) (by kernel_rfl) (fun listed a' w' => a'.defers = [] /\ a'.tmps.size = 9 /\ (a'.eval (.tmp 1) = .pointer (some ⟨w.heap.size, 0, none⟩) /\ a'.eval (.tmp 2) = .pointer (some ⟨w.heap.size + 1, 0, none⟩)) /\ ∃ gK G m c, (listed[0]? = some true -> (a'.eval (.tmp 4) = .agg #[.func (Fn.func 72) #[] #[.pointer (some ⟨gK, 0, none⟩)], .func (Fn.func 40) #[] #[], .func (Fn.func 41) #[] #[], .func (Fn.func 42) #[] #[], .nilFunc]) /\ ((listed[2]? = some false -> w'.heap[gK]? = some (.cells #[.int .i8 17] 27 (0, 0))))) /\ (listed[1]? = some true -> (a'.eval (.tmp 5) = .agg (tC_ h p))) /\ (listed[2]? = some true -> (a'.eval (.tmp 6) = .tuple #[.agg #[.int .i8 a.1, .slice G m c], .nilIface]) /\ (listed[0]? = some true) /\ (listed[1]? = some true) /\ (Ck.Ly (fun b => w1.heap.size <= b) w' a G m c)) /\ (listed[3]? = some true -> (a'.eval (.tmp 7) = .agg #[.int .i8 a.1, .slice G m c]) /\ (listed[0]? = some true) /\ (listed[1]? = some true) /\ (listed[2]? = some true)) /\ (listed[4]? = some true -> (a'.eval (.tmp 8) = .nilIface)) /\ (listed[5]? = some true -> (listed[0]? = some true) /\ (listed[1]? = some true) /\ (listed[2]? = some true) /\ (listed[3]? = some true) /\ (w'.heap[w.heap.size + 1]? = some (.cells #[.int .i8 a.1, .slice G m c] 30 (0, 0))) /\ (Below w.heap.size w w')) /\ (listed[6]? = some true -> (a'.eval (.tmp 3) = .nilIface)) /\ (listed[5]? = some false -> Below w1.heap.size w1 w')) (fun _ _ _ h => h.1) ?_ ?_ ?_
  · have hz := HZ.out
    refine ⟨rfl, rfl, ⟨rfl, rfl⟩, 0, none, 0, 0, FH, FH, FH, FH, FH, FH, FH, (fun _ => (Below.refl _ _).drew)⟩
  · rintro listed a' w' i o ⟨hdf, hsz, hx, gK, G, m, c, y0, y1, y2, y3, y4, y5, y6, hbw⟩ hz hsz0 ho hi hp
    have hi13 : i < 7 := by
      exact zB0
    rcases (by omega : i = 0 \/ i = 1 \/ i = 2 \/ i = 3 \/ i = 4 \/ i = 5 \/ i = 6) with rfl | rfl | rfl | rfl | rfl | rfl | rfl
    · obtain rfl := SI ho
      have hbw := hbw (nf (by rw [hz]; decide) (fun q => (y5 q).1) hi);refine C_ ho 4 (yH w') fun e u hg => ?_
      · obtain ⟨gK', he, hkb, hlo, hb⟩ := hg
        refine ⟨.agg #[.func (Fn.func 72) #[] #[.pointer (some ⟨gK', 0, none⟩)], .func (Fn.func 40) #[] #[], .func (Fn.func 41) #[] #[], .func (Fn.func 42) #[] #[], .nilFunc], he, ?_⟩;have hbs := hbw.size;have hzz := HZ.out;have hbs2 := hb.size;exact ⟨pd hdf, ps hsz, KX hx, gK', G, m, c, (fun _ => ⟨pS hsz, (fun _ => hkb)⟩), K1 y1, KN y2, KN y3, K1 y4, KN y5, K1 y6, (fun _ => hbw.trans (hb.mono hbw.size))⟩
    · obtain rfl := SI ho
      have hbu := hbw;have hbw := hbw (nf (by rw [hz]; decide) (fun q => (y5 q).2.1) hi);obtain ⟨q0, q1, q2, q3, q4, q5, q6, q7, q8, q9, q10, -⟩ := HK.out w' hbw;exact V_ ho 5 ⟨pd hdf, ps hsz, KX hx, gK, G, m, c, (kF y0 (fun q => ⟨pn q.1, (kU q.2 (fun q => q))⟩)), (fun _ => pS hsz), KN y2, KN y3, K1 y4, KN y5, K1 y6, (kU hbu id)⟩
    · obtain rfl := SI ho
      have v0 := hpv hp 0 (by simp);have ww0 := (y0 v0).1;have v1 := hpv hp 1 (by simp);have ww1 := (y1 v1);have hbw := hbw (nf (by rw [hz]; decide) (fun q => (y5 q).2.2.1) hi);refine C_ ho 6 (CT.out gK w' hbw (((y0 v0).2) hi)) fun e u hg => ?_
      · obtain ⟨G', m', c', rfl, hl, hb⟩ := hg
        refine ⟨.tuple #[.agg #[.int .i8 a.1, .slice G' m' c'], .nilIface], rfl, ?_⟩;have hbs := hbw.size;have hzz := HZ.out;have hbs2 := hb.size;exact ⟨pd hdf, ps hsz, KX hx, gK, G', m', c', (kF y0 (fun q => ⟨pn q.1, (fun qu => (zU qu).elim)⟩)), K1 y1, (fun _ => ⟨pS hsz, (zA v0), (zA v1), Ck.Ly.weak hl (fun b _ hq => Nat.le_trans hbw.size hq)⟩), KN y3, K1 y4, KN y5, K1 y6, (fun _ => hbw.trans (hb.mono hbw.size))⟩
    · obtain rfl := SI ho
      have v2 := hpv hp 2 (by simp);have ww2 := (y2 v2).1;exact V_ ho 7 ⟨pd hdf, ps hsz, KX hx, gK, G, m, c, (kF y0 (fun q => ⟨pn q.1, (kU q.2 (fun q => q))⟩)), K1 y1, K1 y2, (fun _ => ⟨pS hsz, (zA ((y2 v2).2.1)), (zA ((y2 v2).2.2.1)), (zA v2)⟩), K1 y4, KN y5, K1 y6, (kU hbw id)⟩
    · obtain rfl := SI ho
      have v2 := hpv hp 2 (by simp);have ww2 := (y2 v2).1;exact V_ ho 8 ⟨pd hdf, ps hsz, KX hx, gK, G, m, c, (kF y0 (fun q => ⟨pn q.1, (kU q.2 (fun q => q))⟩)), K1 y1, K1 y2, K1 y3, (fun _ => pS hsz), K1 y5, K1 y6, (kU hbw id)⟩
    · obtain rfl := SI ho
      have v3 := hpv hp 3 (by simp);have ww3 := (y3 v3).1;have hbw := hbw hi;have hbox := zB hbw (zD H2.out) H2.out;obtain ⟨bc0, bc1, bf0, bf1, -⟩ := zK hbox;refine za ho rfl (qA rfl (w2 := (w'.setCell ⟨w.heap.size + 1, 0, none⟩ (.int .i8 a.1)).setCell ⟨w.heap.size + 1, 1, none⟩ (.slice G m c)) ?_ ?_)
      · exact EV
      · have hsa : ((w'.setCell ⟨w.heap.size + 1, 0, none⟩ (.int .i8 a.1)).setCell ⟨w.heap.size + 1, 1, none⟩ (.slice G m c)).heap.size = w'.heap.size := by simp
        have hbs := hbw.size;have hzz := HZ.out;exact ⟨hdf, hsz, hx, gK, G, m, c, (kF y0 (fun q => ⟨q.1, (kT ((y3 v3).2.2.2))⟩)), K1 y1, K1 y2, K1 y3, K1 y4, (fun _ => ⟨(zA ((y3 v3).2.1)), (zA ((y3 v3).2.2.1)), (zA ((y3 v3).2.2.2)), (zA v3), zY hbox _ _, zM (hfrom.out w' hbw) (by omega) _ _⟩), K1 y6, (fun qu => (zU qu).elim)⟩
    · obtain rfl := SI ho
      have v4 := hpv hp 4 (by simp);have ww4 := (y4 v4);exact V_ ho 3 ⟨pd hdf, ps hsz, KX hx, gK, G, m, c, (kF y0 (fun q => ⟨pn q.1, (kU q.2 (fun q => q))⟩)), K1 y1, K1 y2, K1 y3, K1 y4, K1 y5, (fun _ => pS hsz), (kU hbw id)⟩
  · rintro listed u w' t ht hu ⟨-, -, -, gK, G, m, c, y0, y1, y2, y3, y4, y5, y6, hbw⟩ hall
    have v2 := hall 2 (by decide);have v5 := hall 5 (by decide);have v6 := hall 6 (by decide);have HBX := k0_ ((y5 v5).2.2.2.2.2);have hl := ((y2 v2).2.2.2);have hx := ((y5 v5).2.2.2.2.1);have e3 := ((y6 v6));rw [hu 3 (by decide) (by decide)] at e3;clear y0 y1 y2 y3 y4 y5 y6 v2 v5 v6 hall hu;clear hbw;simp only [over, List.setIfInBounds_toArray, List.set_cons_succ, List.set_cons_zero] at ht;subst ht;obtain ⟨k0, k1', -, -, -⟩ := zK hx;have hz := HZ.out
    go_wp2_with fail
    refine ⟨rfl, .tuple #[.agg #[.int .i8 a.1, .slice G m c], .nilIface], by simp [results, Tryz.results9, go_sem, k0, k1', e3], ?_⟩;exact ⟨G, m, c, rfl, hl.weak (fun b _ hq => by have h1 : w1.heap.size <= b := hq; show w.heap.size <= b; omega), HBX.out⟩
theorem zC1 (h : Hd) (p : Pl) (w : World) (E at' : Int) (x : ByteArray)
    (hC : ∀ (gK : Nat) (W : World), Below w.heap.size w W -> W.heap[gK]? = some (.cells #[.int .i8 17] 27 (0, 0)) -> Calls Tryz.prog 22 #[.agg #[.func (Fn.func 72) #[] #[.pointer (some ⟨gK, 0, none⟩)], .func (Fn.func 40) #[] #[], .func (Fn.func 41) #[] #[], .func (Fn.func 42) #[] #[], .nilFunc], .agg (tC_ h p)] W (Ck.TyPost W (.bad E at' x))) :
    Calls Tryz.prog 9 #[.agg (tC_ h p)] w (Ck.TyPost w (.bad E at' x)) := by
  try unfold tC_
  have hB2 := jA w (.cells (tC_ h p) 41) (.cells #[.int .i8 0, .slice none 0 0] 30);obtain ⟨h0, h1⟩ := jQ w (.cells (tC_ h p) 41) (.cells #[.int .i8 0, .slice none 0 0] 30);have hz : ((w.alloc (.cells (tC_ h p) 41)).alloc (.cells #[.int .i8 0, .slice none 0 0] 30)).heap.size = w.heap.size + 2 := by simp
  obtain ⟨w1, hw1⟩ : ∃ w1, w1 = (w.alloc (.cells (tC_ h p) 41)).alloc (.cells #[.int .i8 0, .slice none 0 0] 30) := ⟨_, rfl⟩
  rw [← hw1] at hB2 h0 h1 hz;have HW1 := k0_ hw1;have HZ := k0_ hz;have H2 := k0_ h1;have hfrom := k0_ (fun (W : World) (hb : Below w1.heap.size w1 W) => hB2.trans (hb.mono hB2.size));have CT := k0_ (fun (gK : Nat) (W : World) (hb : Below w1.heap.size w1 W) => hC gK W (hB2.trans (hb.mono hB2.size)));have HK := k0_ (fun (W : World) (hb : Below w1.heap.size w1 W) => (zS (zB hb (zD h0) h0)));clear hB2 h0 h1 hz hC
  go_enter Tryz.func9, Tryz.ntmps9
  go_upto_region 1 with fail
  rw [← HW1.out];clear hw1 HW1;refine zP 9 rfl [4, 5, 6, 7, 8, 3] (by kernel_rfl) (by kernel_rfl) (by kernel_rfl) (fun listed a' w' => a'.defers = [] /\ a'.tmps.size = 9 /\ (a'.eval (.tmp 1) = .pointer (some ⟨w.heap.size, 0, none⟩) /\ a'.eval (.tmp 2) = .pointer (some ⟨w.heap.size + 1, 0, none⟩)) /\ ∃ gK g, (listed[0]? = some true -> (a'.eval (.tmp 4) = .agg #[.func (Fn.func 72) #[] #[.pointer (some ⟨gK, 0, none⟩)], .func (Fn.func 40) #[] #[], .func (Fn.func 41) #[] #[], .func (Fn.func 42) #[] #[], .nilFunc]) /\ ((listed[2]? = some false -> w'.heap[gK]? = some (.cells #[.int .i8 17] 27 (0, 0))))) /\ (listed[1]? = some true -> (a'.eval (.tmp 5) = .agg (tC_ h p))) /\ (listed[2]? = some true -> (a'.eval (.tmp 6) = .tuple #[.agg #[.int .i8 0, .slice none 0 0], .iface 44 (.pointer (some ⟨g, 0, none⟩))]) /\ (listed[0]? = some true) /\ (listed[1]? = some true) /\ (w'.heap[g]? = some (.cells #[.int .i64 E, .int .i64 at', .string x] 95 (0, 0))) /\ (w1.heap.size <= g)) /\ (listed[3]? = some true -> (a'.eval (.tmp 7) = .agg #[.int .i8 0, .slice none 0 0]) /\ (listed[0]? = some true) /\ (listed[1]? = some true) /\ (listed[2]? = some true)) /\ (listed[4]? = some true -> (a'.eval (.tmp 8) = .iface 44 (.pointer (some ⟨g, 0, none⟩))) /\ (listed[2]? = some true)) /\ (listed[5]? = some true -> (listed[0]? = some true) /\ (listed[1]? = some true) /\ (listed[2]? = some true) /\ (listed[3]? = some true) /\ (w'.heap[w.heap.size + 1]? = some (.cells #[.int .i8 0, .slice none 0 0] 30 (0, 0))) /\ (Below w.heap.size w w')) /\ (listed[6]? = some true -> (a'.eval (.tmp 3) = .iface 44 (.pointer (some ⟨g, 0, none⟩))) /\ (listed[2]? = some true)) /\ (listed[5]? = some false -> Below w1.heap.size w1 w')) (fun _ _ _ h => h.1) ?_ ?_ ?_
  · have hz := HZ.out
    refine ⟨rfl, rfl, ⟨rfl, rfl⟩, 0, 0, FH, FH, FH, FH, FH, FH, FH, (fun _ => (Below.refl _ _).drew)⟩
  · rintro listed a' w' i o ⟨hdf, hsz, hx, gK, g, y0, y1, y2, y3, y4, y5, y6, hbw⟩ hz hsz0 ho hi hp
    have hi13 : i < 7 := by
      exact zB0
    rcases (by omega : i = 0 \/ i = 1 \/ i = 2 \/ i = 3 \/ i = 4 \/ i = 5 \/ i = 6) with rfl | rfl | rfl | rfl | rfl | rfl | rfl
    · obtain rfl := SI ho
      have hbw := hbw (nf (by rw [hz]; decide) (fun q => (y5 q).1) hi);refine C_ ho 4 (yH w') fun e u hg => ?_
      · obtain ⟨gK', he, hkb, hlo, hb⟩ := hg
        refine ⟨.agg #[.func (Fn.func 72) #[] #[.pointer (some ⟨gK', 0, none⟩)], .func (Fn.func 40) #[] #[], .func (Fn.func 41) #[] #[], .func (Fn.func 42) #[] #[], .nilFunc], he, ?_⟩;have hbs := hbw.size;have hzz := HZ.out;have hbs2 := hb.size;exact ⟨pd hdf, ps hsz, KX hx, gK', g, (fun _ => ⟨pS hsz, (fun _ => hkb)⟩), K1 y1, KN y2, KN y3, K1 y4, KN y5, K1 y6, (fun _ => hbw.trans (hb.mono hbw.size))⟩
    · obtain rfl := SI ho
      have hbu := hbw;have hbw := hbw (nf (by rw [hz]; decide) (fun q => (y5 q).2.1) hi);obtain ⟨q0, q1, q2, q3, q4, q5, q6, q7, q8, q9, q10, -⟩ := HK.out w' hbw;exact V_ ho 5 ⟨pd hdf, ps hsz, KX hx, gK, g, (kF y0 (fun q => ⟨pn q.1, (kU q.2 (fun q => q))⟩)), (fun _ => pS hsz), KN y2, KN y3, K1 y4, KN y5, K1 y6, (kU hbu id)⟩
    · obtain rfl := SI ho
      have v0 := hpv hp 0 (by simp);have ww0 := (y0 v0).1;have v1 := hpv hp 1 (by simp);have ww1 := (y1 v1);have hbw := hbw (nf (by rw [hz]; decide) (fun q => (y5 q).2.2.1) hi);refine C_ ho 6 (CT.out gK w' hbw (((y0 v0).2) hi)) fun e u hg => ?_
      · obtain ⟨g', rfl, hf, hg, hb⟩ := hg
        refine ⟨.tuple #[.agg #[.int .i8 0, .slice none 0 0], .iface 44 (.pointer (some ⟨g', 0, none⟩))], rfl, ?_⟩;have hbs := hbw.size;have hzz := HZ.out;have hbs2 := hb.size;exact ⟨pd hdf, ps hsz, KX hx, gK, g', (kF y0 (fun q => ⟨pn q.1, (fun qu => (zU qu).elim)⟩)), K1 y1, (fun _ => ⟨pS hsz, (zA v0), (zA v1), hf, (Nat.le_trans hbw.size hg)⟩), KN y3, KN y4, KN y5, KN y6, (fun _ => hbw.trans (hb.mono hbw.size))⟩
    · obtain rfl := SI ho
      have v2 := hpv hp 2 (by simp);have ww2 := (y2 v2).1;exact V_ ho 7 ⟨pd hdf, ps hsz, KX hx, gK, g, (kF y0 (fun q => ⟨pn q.1, (kU q.2 (fun q => q))⟩)), K1 y1, K1 y2, (fun _ => ⟨pS hsz, (zA ((y2 v2).2.1)), (zA ((y2 v2).2.2.1)), (zA v2)⟩), K1 y4, KN y5, K1 y6, (kU hbw id)⟩
    · obtain rfl := SI ho
      have v2 := hpv hp 2 (by simp);have ww2 := (y2 v2).1;exact V_ ho 8 ⟨pd hdf, ps hsz, KX hx, gK, g, (kF y0 (fun q => ⟨pn q.1, (kU q.2 (fun q => q))⟩)), K1 y1, K1 y2, K1 y3, (fun _ => ⟨pS hsz, (zA v2)⟩), K1 y5, K1 y6, (kU hbw id)⟩
    · obtain rfl := SI ho
      have v3 := hpv hp 3 (by simp);have ww3 := (y3 v3).1;have hbw := hbw hi;have hbox := zB hbw (zD H2.out) H2.out;obtain ⟨bc0, bc1, bf0, bf1, -⟩ := zK hbox;refine za ho rfl (qA rfl (w2 := (w'.setCell ⟨w.heap.size + 1, 0, none⟩ (.int .i8 0)).setCell ⟨w.heap.size + 1, 1, none⟩ (.slice none 0 0)) ?_ ?_)
      · exact EV
      · have hsa : ((w'.setCell ⟨w.heap.size + 1, 0, none⟩ (.int .i8 0)).setCell ⟨w.heap.size + 1, 1, none⟩ (.slice none 0 0)).heap.size = w'.heap.size := by simp
        have hbs := hbw.size;have hzz := HZ.out;exact ⟨hdf, hsz, hx, gK, g, (kF y0 (fun q => ⟨q.1, (kT ((y3 v3).2.2.2))⟩)), K1 y1, (kF y2 (fun q => ⟨q.1, zA q.2.1, zA q.2.2.1, (zo q.2.2.2.1 (by omega) _ _), q.2.2.2.2⟩)), K1 y3, K1 y4, (fun _ => ⟨(zA ((y3 v3).2.1)), (zA ((y3 v3).2.2.1)), (zA ((y3 v3).2.2.2)), (zA v3), zY hbox _ _, zM (hfrom.out w' hbw) (by omega) _ _⟩), K1 y6, (fun qu => (zU qu).elim)⟩
    · obtain rfl := SI ho
      have v4 := hpv hp 4 (by simp);have ww4 := (y4 v4).1;exact V_ ho 3 ⟨pd hdf, ps hsz, KX hx, gK, g, (kF y0 (fun q => ⟨pn q.1, (kU q.2 (fun q => q))⟩)), K1 y1, K1 y2, K1 y3, K1 y4, K1 y5, (fun _ => ⟨pS hsz, (zA ((y4 v4).2))⟩), (kU hbw id)⟩
  · rintro listed u w' t ht hu ⟨-, -, -, gK, g, y0, y1, y2, y3, y4, y5, y6, hbw⟩ hall
    have v2 := hall 2 (by decide);have v5 := hall 5 (by decide);have v6 := hall 6 (by decide);have HBX := k0_ ((y5 v5).2.2.2.2.2);have hf := ((y2 v2).2.2.2.1);have hg := ((y2 v2).2.2.2.2);have hx := ((y5 v5).2.2.2.2.1);have e3 := ((y6 v6).1);rw [hu 3 (by decide) (by decide)] at e3;clear y0 y1 y2 y3 y4 y5 y6 v2 v5 v6 hall hu;clear hbw;simp only [over, List.setIfInBounds_toArray, List.set_cons_succ, List.set_cons_zero] at ht;subst ht;obtain ⟨k0, k1', -, -, -⟩ := zK hx;have hz := HZ.out;have HF := k0_ hf;clear hf
    go_wp2_with fail
    refine ⟨rfl, .tuple #[.agg #[.int .i8 0, .slice none 0 0], .iface 44 (.pointer (some ⟨g, 0, none⟩))], by simp [results, Tryz.results9, go_sem, k0, k1', e3], ?_⟩;exact ⟨g, rfl, HF.out, (by omega), HBX.out⟩
theorem zDg (h : Hd) (p : Pl) (w : World) (R : Ck.R) (hC : ∀ (gK : Nat) (W : World), Below w.heap.size w W -> W.heap[gK]? = some (.cells #[.int .i8 17] 27 (0, 0)) -> Calls Tryz.prog 22 #[.agg #[.func (Fn.func 72) #[] #[.pointer (some ⟨gK, 0, none⟩)], .func (Fn.func 40) #[] #[], .func (Fn.func 41) #[] #[], .func (Fn.func 42) #[] #[], .nilFunc], .agg (tC_ h p)] W (Ck.TyPost W R)) :
    Calls Tryz.prog 9 #[.agg (tC_ h p)] w (Ck.TyPost w R) := by
  try unfold tC_
  cases R with
  | ok a => exact zDf h p w a hC
  | bad E at' x => exact zC1 h p w E at' x hC
theorem zC2 (h : Hd) (kids : Tm) (p : Pl) (w : World) (hIs : Tm.Is w h kids p) (hG : TGlob w) :
    Calls Tryz.prog 9 #[.agg (tC_ h p)] w (Ck.TyPost w (Ck.tell h kids)) := by
  try unfold tC_
  refine zDg h p w _ fun gK W hb hk => ?_
  have e := zCx (gradRv gK) h kids p W (Ck.refKO 17 h kids) (hIs.below hb) (hG.below hb) (fun e => ⟨(Ck.zAP e).1, .inr (by rw [Ck.uB]; exact (Ck.zAP e).2)⟩)
    (fun U hu => xX 17 gK h kids p U ((hIs.below hb).below hu) ((hG.below hb).below hu) (zB hu (zD hk) hk))
  have e2 : Cg.tellR (gradRv gK).D (Ck.refKO 17 h kids) h kids = Ck.tell h kids := by
    unfold Cg.tellR Ck.tell;show (match Ck.refKO 17 h kids with | some x => Ck.R.bad x.1 x.2 Ck.e0 | none => Cg.ty Cg.grad (Tm.nodes kids + 1) h kids []) = _;unfold Ck.refKO Ck.refK;rw [Cg.zCG, ← Ck.uB]
    by_cases h0 : Tm.chk h kids = 0
    · have h0' : ¬ Tm.chk h kids ≠ 0 := by simpa using h0
      rw [if_neg h0', if_neg h0'];cases Ck.castT h kids <;> simp
    · rw [if_pos h0, if_pos h0, if_neg (by omega)]
  rw [e2] at e;exact e
end Go.Proofs.YtepmjknljbafgaaGreatDoor
