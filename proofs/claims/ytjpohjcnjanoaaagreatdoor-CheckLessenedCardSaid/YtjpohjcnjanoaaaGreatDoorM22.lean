import Derived.Test.YtjpohjcnjanoaaaGreatDoorM21
import Derived.Test.YtjpohjcnjanoaaaGreatDoorCk9
import Derived.Test.YtjpohjcnjanoaaaGreatDoorM12
import Derived.Test.YtjpohjcnjanoaaaGreatDoorLow
import Derived.Deep.RegionHeld3
import Derived.Deep.DeepCutAuto
namespace Go.Proofs.YtjpohjcnjanoaaaGreatDoor
open Go.RowKit
namespace Ck
theorem yL {wb : World} {h : Hd} {k r : Tm} {A : Option Addr} {i : Nat} (hl : Tm.Lies wb (.node h k r) A i) : ∃ b o q, A = some ⟨b, o, none⟩ ∧ KidAt wb b (o + i * 11) h q ∧ Tm.Is wb h k q ∧ Tm.Lies wb r A (i + 1) := by
  obtain ⟨b, o, q, hA, hc, hf, hk, hr⟩ := hl
  exact ⟨b, o, q, hA, fun j v hj => hc j v hj, ⟨hf, hk⟩, hr⟩
theorem zCs (Q : Nat → Prop) (w : World) (k : Int) (hk : -128 ≤ k ∧ k ≤ 127) : Ly Q w (k, .nil) none 0 0 := fun u _ => jZ hk u
end Ck
theorem wB (Q : Nat → Prop) (k : Int) (hk : -128 ≤ k ∧ k ≤ 127) (w : World) : Calls Tryz.prog 81 #[.int .i8 k, .slice none 0 0] w (Ck.Post Q w (.ok (k, .nil))) :=
  (qI k none 0 0 w).mono fun _ _ ⟨he, hb⟩ => ⟨none, 0, 0, he, Ck.zCs _ _ k hk, hb⟩

theorem zAb (rv : Cg.Rv) (K : Nat) (Q : Nat → Prop) (h : Hd) (kids : Tm) (p : Pl) (l : Ck.Env) (A : Option Addr) (n c : Nat) (wb w : World) (hIs : Tm.Is wb h kids p) (hwb : Below wb.heap.size wb w) (hQ : ∀ b, b < wb.heap.size → Q b) (hS : Shapes w) (hE : Ck.EAt Q w l A n c)
    (ho : Tm.okT h kids = true) (hc : Ck.castT h kids = false) (hb : l.length + 2 * (Tm.nodes kids + 1) ≤ 20000)
    (IH : ∀ (h1 : Hd) (k1 : Tm) (q : Pl), Tm.nodes k1 < Tm.nodes kids → Tm.Is wb h1 k1 q → Tm.okT h1 k1 = true → Ck.castT h1 k1 = false → Ck.TellsOf rv K wb h1 k1 q) :
    Calls Tryz.prog 82 #[.agg #[.func (Fn.func rv.fr) #[] #[], .func (Fn.func rv.fa) #[] #[], .func (Fn.func rv.fm) #[] #[], .func (Fn.func rv.ft) #[] #[]], .agg #[.int .i8 h.kind, .string h.name, .string h.arg, .int .i64 h.num, .int .i8 h.tk, .slice p.TA p.tn p.tc, .int .i8 h.uk, .slice p.UA p.un p.uc, .int .i64 h.label, .int .i64 h.pos, .slice p.A p.n p.c], .slice A n c] w (Ck.Post Q w (Cg.raw rv.D (Cg.ty rv.D K) h kids l)) := by
  by_cases hov : Ck.isOver h.kind
  · exact uf rv K Q h kids p l A n c wb w hIs hwb hQ hS hE ho hc hov hb IH
  obtain ⟨hik, hlen, hokF⟩ := Ck.qf ho
  obtain ⟨h17, hcF⟩ := Ck.zf hc
  have hkk : h.kind = 0 ∨ h.kind = 1 ∨ h.kind = 2 ∨ h.kind = 3 ∨ h.kind = 4 ∨ h.kind = 5 ∨ h.kind = 7 ∨ h.kind = 14 := by
    simp only [Tm.isKind, decide_eq_true_eq] at hik
    unfold Ck.isOver at hov
    omega
  have hQ1 : ∀ w1 : World, Below w.heap.size w w1 → ∀ b, b < wb.heap.size → Ck.Cut Q w.heap.size (w.heap.size + 3) b := fun w1 _ b hb => .inl ⟨hQ b hb, Nat.lt_of_lt_of_le hb hwb.size⟩
  have hE1 : ∀ w1 : World, Below w.heap.size w w1 → Ck.EAt (Ck.Cut Q w.heap.size (w.heap.size + 3)) w1 l A n c := fun w1 hb1 => (hE.weak (fun b hb hq => .inl ⟨hq, hb⟩)).below hb1
  rcases hkk with hk | hk | hk | hk | hk | hk | hk | hk
  · rw [Cg.xJ _ _ _ _ _ hk]
    exact zAX rv Q h p A n c w _ hk fun w1 hb1 _ => ui _ h p l A n c w1 (hE1 w1 hb1) hIs.fit.nm
  · rw [Cg.xI _ _ _ _ _ hk]
    exact zAZ rv Q h p A n c w _ hk fun w1 _ _ => wB _ 1 (by decide) w1
  · rw [Cg.xH _ _ _ _ _ hk]
    exact zAW rv Q h p A n c w _ hk fun w1 _ _ => wB _ 2 (by decide) w1
  · rw [Cg.xG _ _ _ _ _ hk]
    exact zBc rv Q h p A n c w _ hk fun w1 _ _ => wB _ 2 (by decide) w1
  · rw [hk] at hlen
    obtain ⟨h1, k1, rfl⟩ : ∃ h1 k1, kids = .node h1 k1 .nil := by
      match kids, hlen with
      | .node h1 k1 .nil, _ => exact ⟨h1, k1, rfl⟩
      | .node _ _ (.node _ _ _), e => simp [Tm.len, Tm.kidsN] at e
      | .nil, e => simp [Tm.len, Tm.kidsN] at e
    rw [Cg.xE _ _ _ _ _ hk]
    obtain ⟨b, o, q, hA, g1, i1, -⟩ := Ck.yL hIs.lies
    have hn : p.n = 1 := hIs.fit.n_eq
    have hT := hIs.fit.ty
    have hU := hIs.fit.to
    have ok1 := Ck.zh hokF
    simp only [Ck.castF, Bool.or_eq_false_iff] at hcF
    simp only [Tm.nodes] at hb
    have T1 := IH h1 k1 q (by simp only [Tm.nodes]; omega) i1 ok1.1 (by unfold Ck.castT; rw [hcF.1.1, hcF.1.2]; rfl)
    obtain ⟨TA, tn, tc, UA, un, uc, pA, pn, pc⟩ := p
    dsimp only at hA hn hT hU
    subst hA hn
    exact zAi rv K Q h h1 k1 q TA UA tn tc un uc b o pc l A n c wb w hT hU (by simpa using g1) hwb hQ hS hE hk (by omega) T1
  · rw [hk] at hlen
    obtain ⟨h1, k1, rfl⟩ : ∃ h1 k1, kids = .node h1 k1 .nil := by
      match kids, hlen with
      | .node h1 k1 .nil, _ => exact ⟨h1, k1, rfl⟩
      | .node _ _ (.node _ _ _), e => simp [Tm.len, Tm.kidsN] at e
      | .nil, e => simp [Tm.len, Tm.kidsN] at e
    rw [Cg.xD _ _ _ _ _ hk]
    obtain ⟨b, o, q, hA, g1, i1, -⟩ := Ck.yL hIs.lies
    have hn : p.n = 1 := hIs.fit.n_eq
    have hT := hIs.fit.ty
    have hU := hIs.fit.to
    have ok1 := Ck.zh hokF
    simp only [Ck.castF, Bool.or_eq_false_iff] at hcF
    simp only [Tm.nodes] at hb
    have T1 := IH h1 k1 q (by simp only [Tm.nodes]; omega) i1 ok1.1 (by unfold Ck.castT; rw [hcF.1.1, hcF.1.2]; rfl)
    obtain ⟨TA, tn, tc, UA, un, uc, pA, pn, pc⟩ := p
    dsimp only at hA hn hT hU
    subst hA hn
    exact zAY rv Q h _ A n c w _ hk fun w1 hb1 _ => zAd rv K _ h h1 k1 q TA UA tn tc un uc b o pc l A n c wb w1 hT hU (by simpa using g1) (hwb.trans (hb1.mono hwb.size)) (hQ1 w1 hb1) (hS.below hb1) (hE1 w1 hb1) (by omega) T1
  · rw [hk] at hlen
    obtain ⟨h1, k1, h2, k2, rfl⟩ : ∃ h1 k1 h2 k2, kids = .node h1 k1 (.node h2 k2 .nil) := by
      match kids, hlen with
      | .node h1 k1 (.node h2 k2 .nil), _ => exact ⟨h1, k1, h2, k2, rfl⟩
      | .node _ _ (.node _ _ (.node _ _ _)), e => simp [Tm.len, Tm.kidsN] at e
      | .node _ _ .nil, e => simp [Tm.len, Tm.kidsN] at e
      | .nil, e => simp [Tm.len, Tm.kidsN] at e
    rw [Cg.xB _ _ _ _ _ hk]
    obtain ⟨b, o, q, hA, g1, i1, l2⟩ := Ck.yL hIs.lies
    obtain ⟨b', o', q2, hA2, g2, i2, -⟩ := Ck.yL l2
    have hn : p.n = 2 := hIs.fit.n_eq
    have hT := hIs.fit.ty
    have hU := hIs.fit.to
    have ok1 := Ck.zh hokF
    have ok2 := Ck.zh ok1.2
    simp only [Ck.castF, Bool.or_eq_false_iff] at hcF
    simp only [Tm.nodes] at hb
    have T1 := IH h1 k1 q (by simp only [Tm.nodes]; omega) i1 ok1.1 (by unfold Ck.castT; rw [hcF.1.1, hcF.1.2]; rfl)
    have T2 := IH h2 k2 q2 (by simp only [Tm.nodes]; omega) i2 ok2.1 (by unfold Ck.castT; rw [hcF.2.1.1, hcF.2.1.2]; rfl)
    obtain ⟨TA, tn, tc, UA, un, uc, pA, pn, pc⟩ := p
    dsimp only at hA hA2 hn hT hU
    subst hA hn
    injection hA2 with hA2
    injection hA2 with e1 e2
    subst e1 e2
    exact zAa rv Q h _ A n c w _ hk fun w1 hb1 _ => zAh rv K _ h h1 h2 k1 k2 q q2 TA UA tn tc un uc b o pc l A n c wb w1 hT hU (by simpa using g1) (by simpa using g2) (hwb.trans (hb1.mono hwb.size)) (hQ1 w1 hb1) (hS.below hb1) (hE1 w1 hb1) (by omega) (by omega) T1 T2
  · rw [hk] at hlen
    obtain ⟨h1, k1, h2, k2, h3, k3, rfl⟩ : ∃ h1 k1 h2 k2 h3 k3, kids = .node h1 k1 (.node h2 k2 (.node h3 k3 .nil)) := by
      match kids, hlen with
      | .node h1 k1 (.node h2 k2 (.node h3 k3 .nil)), _ => exact ⟨h1, k1, h2, k2, h3, k3, rfl⟩
      | .node _ _ (.node _ _ (.node _ _ (.node _ _ _))), e => simp [Tm.len, Tm.kidsN] at e
      | .node _ _ (.node _ _ .nil), e => simp [Tm.len, Tm.kidsN] at e
      | .node _ _ .nil, e => simp [Tm.len, Tm.kidsN] at e
      | .nil, e => simp [Tm.len, Tm.kidsN] at e
    rw [Cg.vY _ _ _ _ _ hk]
    obtain ⟨b, o, q, hA, g1, i1, l2⟩ := Ck.yL hIs.lies
    obtain ⟨b', o', q2, hA2, g2, i2, l3⟩ := Ck.yL l2
    obtain ⟨b2, o2, q3, hA3, g3, i3, -⟩ := Ck.yL l3
    have hn : p.n = 3 := hIs.fit.n_eq
    have hT := hIs.fit.ty
    have hU := hIs.fit.to
    have ok1 := Ck.zh hokF
    have ok2 := Ck.zh ok1.2
    have ok3 := Ck.zh ok2.2
    simp only [Ck.castF, Bool.or_eq_false_iff] at hcF
    simp only [Tm.nodes] at hb
    have T1 := IH h1 k1 q (by simp only [Tm.nodes]; omega) i1 ok1.1 (by unfold Ck.castT; rw [hcF.1.1, hcF.1.2]; rfl)
    have T2 := IH h2 k2 q2 (by simp only [Tm.nodes]; omega) i2 ok2.1 (by unfold Ck.castT; rw [hcF.2.1.1, hcF.2.1.2]; rfl)
    have T3 := IH h3 k3 q3 (by simp only [Tm.nodes]; omega) i3 ok3.1 (by unfold Ck.castT; rw [hcF.2.2.1.1, hcF.2.2.1.2]; rfl)
    obtain ⟨TA, tn, tc, UA, un, uc, pA, pn, pc⟩ := p
    dsimp only at hA hA2 hA3 hn hT hU
    subst hA hn
    injection hA2 with hA2
    injection hA2 with e1 e2
    subst e1 e2
    injection hA3 with hA3
    injection hA3 with e1 e2
    subst e1 e2
    exact ug rv Q h _ A n c w _ hk fun w1 hb1 _ => kP rv K _ h h1 h2 h3 k1 k2 k3 q q2 q3 TA UA tn tc un uc b o pc l A n c wb w1 hT hU (by simpa using g1) (by simpa using g2) (by simpa using g3) (hwb.trans (hb1.mono hwb.size)) (hQ1 w1 hb1) (hS.below hb1) (hE1 w1 hb1) (by omega) (by omega) (by omega) T1 T2 T3
theorem zAc (rv : Cg.Rv) (K : Nat) : ∀ (h : Hd) (kids : Tm) (p : Pl) (wb : World), Tm.nodes kids < K → Tm.Is wb h kids p → Tm.okT h kids = true → Ck.castT h kids = false → Ck.TellsOf rv K wb h kids p := by
  induction K with
  | zero => intro _ _ _ _ hK; omega
  | succ K ih =>
    intro h kids p wb hK hIs ho hc Q l A n c W hwb hQ hS hE hlen
    rw [Cg.vC]
    refine zBd rv Q h p A n c W _ hS fun w1 hb1 hz => ?_
    exact zAb rv K _ h kids p l A n c wb w1 hIs (hwb.trans (hb1.mono hwb.size)) (fun b hb => .inl ⟨hQ b hb, Nat.lt_of_lt_of_le hb hwb.size⟩) (hS.below hb1) ((hE.weak (fun b hb hq => .inl ⟨hq, hb⟩)).below hb1) ho hc hlen
      (fun h1 k1 q hlt hIs1 ho1 hc1 => ih h1 k1 q wb (by omega) hIs1 ho1 hc1)
namespace Cg
def tell (rv : Rv) (h : Hd) (kids : Tm) : Ck.R := match rv.ref h kids with
  | some x => .bad x.1 x.2 Ck.e0
  | none => ty rv.D (Tm.nodes kids + 1) h kids []
end Cg
theorem Ck.zCj {h : Hd} {kids : Tm} (e : Ck.refO h kids = none) : Tm.chk h kids = 0 ∧ Ck.castT h kids = false := by
  unfold Ck.refO Ck.refu at e
  by_cases h0 : Tm.chk h kids = 0
  · refine ⟨h0, ?_⟩
    cases hc : Ck.castT h kids
    · rfl
    · rw [hc] at e; simp [h0] at e
  · rw [if_pos h0] at e
    rw [if_neg (by omega)] at e
    cases e
theorem zBL (rv : Cg.Rv) (h : Hd) (kids : Tm) (p : Pl) (w : World) (hIs : Tm.Is w h kids p) (hG : TGlob w) (hr : rv.ref h kids = none → Tm.chk h kids = 0 ∧ Ck.castT h kids = false) :
    Calls Tryz.prog 23 #[.agg #[.func (Fn.func rv.fr) #[] #[], .func (Fn.func rv.fa) #[] #[], .func (Fn.func rv.fm) #[] #[], .func (Fn.func rv.ft) #[] #[]], .agg #[.int .i8 h.kind, .string h.name, .string h.arg, .int .i64 h.num, .int .i8 h.tk, .slice p.TA p.tn p.tc, .int .i8 h.uk, .slice p.UA p.un p.uc, .int .i64 h.label, .int .i64 h.pos, .slice p.A p.n p.c]] w (Ck.TyPost w (Cg.tell rv h kids)) := by
  unfold Cg.tell
  cases hq : rv.ref h kids with
  | some x => exact yh rv h kids p w x hIs hG hq
  | none =>
    obtain ⟨h0, hc⟩ := hr hq
    obtain ⟨hnd, -, hok⟩ := Ck.vz h0
    refine zA6 rv h kids p w _ hIs hG hq (fun a e => Cg.uB e) fun W hb => ?_
    exact zAc rv (Tm.nodes kids + 1) h kids p w (Nat.lt_succ_self _) hIs hok hc (fun b => b < w.heap.size) [] none 0 0 W hb (fun _ h => h) (hG.below hb).types (Ck.EAt.empty _ _) (by unfold Tm.nd at hnd; simp only [List.length_nil]; omega)
end Go.Proofs.YtjpohjcnjanoaaaGreatDoor
namespace Go.Proofs.YtjpohjcnjanoaaaGreatDoor
open Go.RowKit
set_option maxHeartbeats 1000000 in
set_option maxRecDepth 100000 in
theorem zBX (Q : Nat → Prop) (a : Ck.T2) (A : Option Addr) (n c : Nat) (b : Ck.T2) (A' : Option Addr) (n' c' : Nat) (w : World) (hL : Ck.Ly Q w a A n c) (hL' : Ck.Ly Q w b A' n' c') (hag : Ck.ag a b = true) (hS : Shapes w) :
    Calls Tryz.prog 41 #[.agg #[.int .i8 a.1, .slice A n c], .agg #[.int .i8 b.1, .slice A' n' c']] w (Ck.Gives Q w (Ck.mt a b)) := by
  have HB3 := Lib.hid (yc w (.cells #[.int .i8 a.1, .slice A n c] 25) (.cells #[.int .i8 b.1, .slice A' n' c'] 25) (.cells #[.int .i8 0, .slice none 0 0] 25))
  obtain ⟨h0, h1, h2⟩ := vP w (.cells #[.int .i8 a.1, .slice A n c] 25) (.cells #[.int .i8 b.1, .slice A' n' c'] 25) (.cells #[.int .i8 0, .slice none 0 0] 25)
  have CM := Lib.hid (fun (W : World) (hb : Below w.heap.size w W) => zA9 a.1 a.2 A n c b.1 b.2 A' n' c' W (hL.is.below hb) (hL'.is.below hb) (hS.below hb))
  unfold MeetTellsP at CM
  rw [show Ty.agreeT a.1 a.2 b.1 b.2 = true from hag] at CM
  simp only [if_true] at CM
  have H2 := Lib.hid h2
  clear hL hL' hS hag h0 h1 h2
  go_enter Tryz.func41, Tryz.ntmps41
  go_wp2_with fail
  refine (CM.out _ HB3.out).mono ?_
  rintro e w7 ⟨G, m, cg, rfl, hR, hb7⟩
  have hz7 := hb7.size
  simp only [World.size_alloc] at hz7
  have HB7 := Lib.hid (HB3.out.trans (hb7.mono HB3.out.size))
  have hb8 : Below w7.heap.size w7 (w7.alloc (.cells #[.int .i8 (Ty.mK a.1 b.1), .slice G m cg] 25)) := (Below.refl _ _).alloc (Nat.le_refl _) _
  have HL := Lib.hid (Ck.Ly.later (Ck.Ly.weak (Q' := fun b => w.heap.size + 3 ≤ b) (a := Ck.mt a b) (w := w7) hR (fun b _ h => by simp at h; omega)) hb8)
  have HB8 := Lib.hid (HB7.out.trans (hb8.mono HB7.out.size))
  have H2 := Lib.hid (zA (hb7.trans (hb8.mono hb7.size)) (zC H2.out) H2.out)
  have H5 := Lib.hid (zG w7 (.cells #[.int .i8 (Ty.mK a.1 b.1), .slice G m cg] 25))
  clear hR hb7 hb8
  go_upto_region 2 with fail
  generalize w7.alloc (.cells #[.int .i8 (Ty.mK a.1 b.1), .slice G m cg] 25) = w8 at *
  obtain ⟨x0, x1, f0, f1, xl⟩ := zM H2.out
  obtain ⟨y0, y1, f2, f3, yl⟩ := zM H5.out
  have HNE := Lib.hid (fun (b : Nat) (hq : w.heap.size + 3 ≤ b) => (show b ≠ w.heap.size + 1 + 1 by omega))
  go_wp2_with fail
  refine bodyPost_ret (v := .agg #[.int .i8 (Ty.mK a.1 b.1), .slice G m cg]) (by simp [results, Tryz.results41, go_sem, *]) rfl ⟨G, m, cg, rfl, ?_, ?_⟩
  · exact (HL.out.set2 HNE.out _ _).weak fun b _ hq => by have : w.heap.size + 3 ≤ b := hq; exact .inr (by omega)
  · exact zL HB8.out (by omega) _ _

def gradRv : Cg.Rv where
  fr := 38
  fa := 39
  fm := 40
  ft := 41
  D := Cg.grad
  ref := Ck.refO
  cfr := fun args W => by simp [go_sem]
  cfa := fun args W => by simp [go_sem]
  cfm := fun args W => by simp [go_sem]
  cft := fun args W => by simp [go_sem]
  agC := fun k kids A n c k' kids' A' n' c' w h1 h2 hS => xW k kids A n c k' kids' A' n' c' w h1 h2 hS
  asC := fun Q kd a A n c w _ hL _ hS => (zDA kd a.1 a.2 A n c w hL.is hS).mono fun e w' ⟨G1, m1, c1, G2, m2, c2, he, h1, h2, hb⟩ =>
    ⟨G1, m1, c1, G2, m2, c2, he, Ck.Ly.weak (a := Ck.asl kd a) h1 (fun b _ h => .inr h), Ck.Ly.weak (a := Ck.asr kd a) h2 (fun b _ h => .inr h), hb⟩
  mtC := fun Q a A n c b A' n' c' w h1 h2 hag hS => zBX Q a A n c b A' n' c' w h1 h2 hag hS
  refC := fun h kids p w hIs hG => wY h kids p w hIs hG
set_option maxHeartbeats 1000000 in
set_option maxRecDepth 100000 in
theorem kJ (w : World) : Calls Tryz.prog 22 #[] w fun e w' => e = .returned (.agg #[.func (Fn.func 38) #[] #[], .func (Fn.func 39) #[] #[], .func (Fn.func 40) #[] #[], .func (Fn.func 41) #[] #[]]) ∧ Below w.heap.size w w' := by
  have HB := Lib.hid (zn w (.cells #[.func (Fn.func 38) #[] #[], .func (Fn.func 39) #[] #[], .func (Fn.func 40) #[] #[], .func (Fn.func 41) #[] #[]] 54))
  go_enter Tryz.func22, Tryz.ntmps22
  go_wp2_with fail
  refine bodyPost_ret (v := .agg #[.func (Fn.func 38) #[] #[], .func (Fn.func 39) #[] #[], .func (Fn.func 40) #[] #[], .func (Fn.func 41) #[] #[]]) (by simp [results, Tryz.results22, go_sem, *]) rfl ⟨rfl, HB.out⟩

set_option maxHeartbeats 1000000 in
set_option maxRecDepth 100000 in
theorem zBm (h : Hd) (p : Pl) (w : World) (a : Ck.T2)
    (hC : ∀ W : World, Below w.heap.size w W → Calls Tryz.prog 23 #[.agg #[.func (Fn.func 38) #[] #[], .func (Fn.func 39) #[] #[], .func (Fn.func 40) #[] #[], .func (Fn.func 41) #[] #[]], .agg #[.int .i8 h.kind, .string h.name, .string h.arg, .int .i64 h.num, .int .i8 h.tk, .slice p.TA p.tn p.tc, .int .i8 h.uk, .slice p.UA p.un p.uc, .int .i64 h.label, .int .i64 h.pos, .slice p.A p.n p.c]] W (Ck.TyPost W (.ok a))) :
    Calls Tryz.prog 8 #[.agg #[.int .i8 h.kind, .string h.name, .string h.arg, .int .i64 h.num, .int .i8 h.tk, .slice p.TA p.tn p.tc, .int .i8 h.uk, .slice p.UA p.un p.uc, .int .i64 h.label, .int .i64 h.pos, .slice p.A p.n p.c]] w (Ck.TyPost w (.ok a)) := by
  have hB2 := zm w (.cells #[.int .i8 h.kind, .string h.name, .string h.arg, .int .i64 h.num, .int .i8 h.tk, .slice p.TA p.tn p.tc, .int .i8 h.uk, .slice p.UA p.un p.uc, .int .i64 h.label, .int .i64 h.pos, .slice p.A p.n p.c] 28) (.cells #[.int .i8 0, .slice none 0 0] 25)
  obtain ⟨h0, h1⟩ := zz w (.cells #[.int .i8 h.kind, .string h.name, .string h.arg, .int .i64 h.num, .int .i8 h.tk, .slice p.TA p.tn p.tc, .int .i8 h.uk, .slice p.UA p.un p.uc, .int .i64 h.label, .int .i64 h.pos, .slice p.A p.n p.c] 28) (.cells #[.int .i8 0, .slice none 0 0] 25)
  have hz : ((w.alloc (.cells #[.int .i8 h.kind, .string h.name, .string h.arg, .int .i64 h.num, .int .i8 h.tk, .slice p.TA p.tn p.tc, .int .i8 h.uk, .slice p.UA p.un p.uc, .int .i64 h.label, .int .i64 h.pos, .slice p.A p.n p.c] 28)).alloc (.cells #[.int .i8 0, .slice none 0 0] 25)).heap.size = w.heap.size + 2 := by simp
  obtain ⟨w1, hw1⟩ : ∃ w1, w1 = (w.alloc (.cells #[.int .i8 h.kind, .string h.name, .string h.arg, .int .i64 h.num, .int .i8 h.tk, .slice p.TA p.tn p.tc, .int .i8 h.uk, .slice p.UA p.un p.uc, .int .i64 h.label, .int .i64 h.pos, .slice p.A p.n p.c] 28)).alloc (.cells #[.int .i8 0, .slice none 0 0] 25) := ⟨_, rfl⟩
  rw [← hw1] at hB2 h0 h1 hz
  have HW1 := Lib.hid hw1
  have HZ := Lib.hid hz
  have H2 := Lib.hid h1
  have hfrom := Lib.hid (fun (W : World) (hb : Below w1.heap.size w1 W) => hB2.trans (hb.mono hB2.size))
  have CT := Lib.hid (fun (W : World) (hb : Below w1.heap.size w1 W) => hC W (hB2.trans (hb.mono hB2.size)))
  have HK := Lib.hid (fun (W : World) (hb : Below w1.heap.size w1 W) => (zI (zA hb (zC h0) h0)))
  clear hB2 h0 h1 hz hC
  go_enter Tryz.func8, Tryz.ntmps8
  go_upto_region 1 with fail
  rw [← HW1.out]
  clear hw1 HW1
  refine zO 9 rfl [4, 5, 6, 7, 8, 3] (by kernel_rfl) (by kernel_rfl) (by kernel_rfl) (fun listed a' w' => a'.defers = [] ∧ a'.tmps.size = 9 ∧ a'.eval (.tmp 1) = .pointer (some ⟨w.heap.size, 0, none⟩) ∧ a'.eval (.tmp 2) = .pointer (some ⟨w.heap.size + 1, 0, none⟩) ∧ ∃ G m c, (listed[0]? = some true → (a'.eval (.tmp 4) = .agg #[.func (Fn.func 38) #[] #[], .func (Fn.func 39) #[] #[], .func (Fn.func 40) #[] #[], .func (Fn.func 41) #[] #[]])) ∧ (listed[1]? = some true → (a'.eval (.tmp 5) = .agg #[.int .i8 h.kind, .string h.name, .string h.arg, .int .i64 h.num, .int .i8 h.tk, .slice p.TA p.tn p.tc, .int .i8 h.uk, .slice p.UA p.un p.uc, .int .i64 h.label, .int .i64 h.pos, .slice p.A p.n p.c])) ∧ (listed[2]? = some true → (a'.eval (.tmp 6) = .tuple #[.agg #[.int .i8 a.1, .slice G m c], .nilIface]) ∧ (listed[0]? = some true) ∧ (listed[1]? = some true) ∧ (Ck.Ly (fun b => w1.heap.size ≤ b) w' a G m c)) ∧ (listed[3]? = some true → (a'.eval (.tmp 7) = .agg #[.int .i8 a.1, .slice G m c]) ∧ (listed[0]? = some true) ∧ (listed[1]? = some true) ∧ (listed[2]? = some true)) ∧ (listed[4]? = some true → (a'.eval (.tmp 8) = .nilIface)) ∧ (listed[5]? = some true → (listed[0]? = some true) ∧ (listed[1]? = some true) ∧ (listed[2]? = some true) ∧ (listed[3]? = some true) ∧ (w'.heap[w.heap.size + 1]? = some (.cells #[.int .i8 a.1, .slice G m c] 25 (0, 0))) ∧ (Below w.heap.size w w')) ∧ (listed[6]? = some true → (a'.eval (.tmp 3) = .nilIface)) ∧ (listed[5]? = some false → Below w1.heap.size w1 w')) (fun _ _ _ h => h.1) ?_ ?_ ?_
  · have hz := HZ.out
    refine ⟨rfl, rfl, rfl, rfl, none, 0, 0, (fun h => ?_), (fun h => ?_), (fun h => ?_), (fun h => ?_), (fun h => ?_), (fun h => ?_), (fun h => ?_), (fun _ => (Below.refl _ _).drew)⟩ <;> simp at h
  · rintro listed a' w' i o ⟨hdf, hsz, x1, x2, G, m, c, y0, y1, y2, y3, y4, y5, y6, hbw⟩ hz hsz0 ho hi hp
    have hi13 : i < 7 := by
      rcases Nat.lt_or_ge i 7 with q | q
      · exact q
      · rw [Array.getElem?_eq_none (by simpa using q)] at ho; cases ho
    rcases (by omega : i = 0 ∨ i = 1 ∨ i = 2 ∨ i = 3 ∨ i = 4 ∨ i = 5 ∨ i = 6) with rfl | rfl | rfl | rfl | rfl | rfl | rfl
    · obtain rfl := Option.some.inj ho
      have hbw := hbw (nf (by rw [hz]; decide) (fun q => (y5 q).1) hi)
      refine zD ho rfl (zo 4 rfl (f := 22) (args := #[]) ?_ (kJ w') fun e u hg => ?_)
      · obtain ⟨hcst, hfn⟩ := evc a'; generalize a'.eval = ev at *
        clear hp y0 y1 y2 y3 y4 y5 y6
        go_simp
      · obtain ⟨he, hb⟩ := hg
        refine ⟨.agg #[.func (Fn.func 38) #[] #[], .func (Fn.func 39) #[] #[], .func (Fn.func 40) #[] #[], .func (Fn.func 41) #[] #[]], he, ?_⟩
        have hbs := hbw.size
        have hzz := HZ.out
        have hbs2 := hb.size
        exact ⟨pd hdf, ps hsz, pn x1, pn x2, G, m, c, (fun _ => pS hsz), (kE y1), (kN y2 (fun q => q.2.1) hi), (kN y3 (fun q => q.2.1) hi), (kE y4), (kN y5 (fun q => q.1) hi), (kE y6), (fun _ => hbw.trans (hb.mono hbw.size))⟩
    · obtain rfl := Option.some.inj ho
      refine zD ho rfl (zF 5 rfl (v := .agg #[.int .i8 h.kind, .string h.name, .string h.arg, .int .i64 h.num, .int .i8 h.tk, .slice p.TA p.tn p.tc, .int .i8 h.uk, .slice p.UA p.un p.uc, .int .i64 h.label, .int .i64 h.pos, .slice p.A p.n p.c]) ?_ ?_)
      · have hbw := hbw (nf (by rw [hz]; decide) (fun q => (y5 q).2.1) hi)
        obtain ⟨q0, q1, q2, q3, q4, q5, q6, q7, q8, q9, q10, -⟩ := HK.out w' hbw
        obtain ⟨hcst, hfn⟩ := evc a'; generalize a'.eval = ev at *
        clear hp y0 y1 y2 y3 y4 y5 y6
        go_simp
      · exact ⟨pd hdf, ps hsz, pn x1, pn x2, G, m, c, (kE y0), (fun _ => pS hsz), (kN y2 (fun q => q.2.2.1) hi), (kN y3 (fun q => q.2.2.1) hi), (kE y4), (kN y5 (fun q => q.2.1) hi), (kE y6), (kU hbw id)⟩
    · obtain rfl := Option.some.inj ho
      have v0 := hpv hp 0 (by simp)
      have ww0 := (y0 v0)
      have v1 := hpv hp 1 (by simp)
      have ww1 := (y1 v1)
      have hbw := hbw (nf (by rw [hz]; decide) (fun q => (y5 q).2.2.1) hi)
      refine zD ho rfl (zo 6 rfl (f := 23) (args := #[.agg #[.func (Fn.func 38) #[] #[], .func (Fn.func 39) #[] #[], .func (Fn.func 40) #[] #[], .func (Fn.func 41) #[] #[]], .agg #[.int .i8 h.kind, .string h.name, .string h.arg, .int .i64 h.num, .int .i8 h.tk, .slice p.TA p.tn p.tc, .int .i8 h.uk, .slice p.UA p.un p.uc, .int .i64 h.label, .int .i64 h.pos, .slice p.A p.n p.c]]) ?_ (CT.out w' hbw) fun e u hg => ?_)
      · obtain ⟨hcst, hfn⟩ := evc a'; generalize a'.eval = ev at *
        clear hp y0 y1 y2 y3 y4 y5 y6
        go_simp
      · obtain ⟨G', m', c', rfl, hl, hb⟩ := hg
        refine ⟨.tuple #[.agg #[.int .i8 a.1, .slice G' m' c'], .nilIface], rfl, ?_⟩
        have hbs := hbw.size
        have hzz := HZ.out
        have hbs2 := hb.size
        exact ⟨pd hdf, ps hsz, pn x1, pn x2, G', m', c', (kE y0), (kE y1), (fun _ => ⟨pS hsz, (z8 v0), (z8 v1), Ck.Ly.weak hl (fun b _ hq => Nat.le_trans hbw.size hq)⟩), (kN y3 (fun q => q.2.2.2) hi), (kE y4), (kN y5 (fun q => q.2.2.1) hi), (kE y6), (fun _ => hbw.trans (hb.mono hbw.size))⟩
    · obtain rfl := Option.some.inj ho
      refine zD ho rfl (zF 7 rfl (v := .agg #[.int .i8 a.1, .slice G m c]) ?_ ?_)
      · have v2 := hpv hp 2 (by simp)
        have ww2 := (y2 v2).1
        obtain ⟨hcst, hfn⟩ := evc a'; generalize a'.eval = ev at *
        clear hp y0 y1 y2 y3 y4 y5 y6
        go_simp
      · have v2 := hpv hp 2 (by simp)
        exact ⟨pd hdf, ps hsz, pn x1, pn x2, G, m, c, (kE y0), (kE y1), (kF y2 (fun q => ⟨pn q.1, z8 q.2.1, z8 q.2.2.1, q.2.2.2⟩)), (fun _ => ⟨pS hsz, (z8 ((y2 v2).2.1)), (z8 ((y2 v2).2.2.1)), (z8 v2)⟩), (kE y4), (kN y5 (fun q => q.2.2.2.1) hi), (kE y6), (kU hbw id)⟩
    · obtain rfl := Option.some.inj ho
      refine zD ho rfl (zF 8 rfl (v := .nilIface) ?_ ?_)
      · have v2 := hpv hp 2 (by simp)
        have ww2 := (y2 v2).1
        obtain ⟨hcst, hfn⟩ := evc a'; generalize a'.eval = ev at *
        clear hp y0 y1 y2 y3 y4 y5 y6
        go_simp
      · have v2 := hpv hp 2 (by simp)
        exact ⟨pd hdf, ps hsz, pn x1, pn x2, G, m, c, (kE y0), (kE y1), (kF y2 (fun q => ⟨pn q.1, z8 q.2.1, z8 q.2.2.1, q.2.2.2⟩)), (kF y3 (fun q => ⟨pn q.1, z8 q.2.1, z8 q.2.2.1, z8 q.2.2.2⟩)), (fun _ => pS hsz), (kF y5 (fun q => ⟨z8 q.1, z8 q.2.1, z8 q.2.2.1, z8 q.2.2.2.1, q.2.2.2.2.1, q.2.2.2.2.2⟩)), (kE y6), (kU hbw id)⟩
    · obtain rfl := Option.some.inj ho
      have v3 := hpv hp 3 (by simp)
      have ww3 := (y3 v3).1
      have hbw := hbw hi
      have hbox := zA hbw (zC H2.out) H2.out
      obtain ⟨bc0, bc1, bf0, bf1, -⟩ := zM hbox
      refine zD ho rfl (zi rfl (w2 := (w'.setCell ⟨w.heap.size + 1, 0, none⟩ (.int .i8 a.1)).setCell ⟨w.heap.size + 1, 1, none⟩ (.slice G m c)) ?_ ?_)
      · obtain ⟨hcst, hfn⟩ := evc a'; generalize a'.eval = ev at *
        clear hp y0 y1 y2 y3 y4 y5 y6
        go_simp
      · have hsa : ((w'.setCell ⟨w.heap.size + 1, 0, none⟩ (.int .i8 a.1)).setCell ⟨w.heap.size + 1, 1, none⟩ (.slice G m c)).heap.size = w'.heap.size := by simp
        have hbs := hbw.size
        have hzz := HZ.out
        exact ⟨hdf, hsz, x1, x2, G, m, c, (kF y0 id), (kF y1 id), (kF y2 (fun q => ⟨q.1, z8 q.2.1, z8 q.2.2.1, (Ck.Ly.set2 q.2.2.2 (fun b hq => by have h1 : w1.heap.size ≤ b := hq; omega) _ _)⟩)), (kF y3 (fun q => ⟨q.1, z8 q.2.1, z8 q.2.2.1, z8 q.2.2.2⟩)), (kF y4 id), (fun _ => ⟨(z8 ((y3 v3).2.1)), (z8 ((y3 v3).2.2.1)), (z8 ((y3 v3).2.2.2)), (z8 v3), zP hbox _ _, zL (hfrom.out w' hbw) (by omega) _ _⟩), (kF y6 id), (fun qu => (zQ qu).elim)⟩
    · obtain rfl := Option.some.inj ho
      refine zD ho rfl (zF 3 rfl (v := .nilIface) ?_ ?_)
      · have v4 := hpv hp 4 (by simp)
        have ww4 := (y4 v4)
        obtain ⟨hcst, hfn⟩ := evc a'; generalize a'.eval = ev at *
        clear hp y0 y1 y2 y3 y4 y5 y6
        go_simp
      · have v4 := hpv hp 4 (by simp)
        exact ⟨pd hdf, ps hsz, pn x1, pn x2, G, m, c, (kE y0), (kE y1), (kF y2 (fun q => ⟨pn q.1, z8 q.2.1, z8 q.2.2.1, q.2.2.2⟩)), (kF y3 (fun q => ⟨pn q.1, z8 q.2.1, z8 q.2.2.1, z8 q.2.2.2⟩)), (kE y4), (kF y5 (fun q => ⟨z8 q.1, z8 q.2.1, z8 q.2.2.1, z8 q.2.2.2.1, q.2.2.2.2.1, q.2.2.2.2.2⟩)), (fun _ => pS hsz), (kU hbw id)⟩
  · rintro listed u w' t ht hu ⟨-, -, -, -, G, m, c, y0, y1, y2, y3, y4, y5, y6, hbw⟩ hall
    have v2 := hall 2 (by decide)
    have v5 := hall 5 (by decide)
    have v6 := hall 6 (by decide)
    have HBX := Lib.hid ((y5 v5).2.2.2.2.2)
    have hl := ((y2 v2).2.2.2)
    have hx := ((y5 v5).2.2.2.2.1)
    have e3 := ((y6 v6))
    rw [hu 3 (by decide) (by decide)] at e3
    clear y0 y1 y2 y3 y4 y5 y6 v2 v5 v6 hall hu
    clear hbw
    simp only [over, List.setIfInBounds_toArray, List.set_cons_succ, List.set_cons_zero] at ht
    subst ht
    obtain ⟨k0, k1', -, -, -⟩ := zM hx
    have hz := HZ.out
    go_wp2_with fail
    refine ⟨rfl, .tuple #[.agg #[.int .i8 a.1, .slice G m c], .nilIface], by simp [results, Tryz.results8, go_sem, k0, k1', e3], ?_⟩
    exact ⟨G, m, c, rfl, hl.weak (fun b _ hq => by have h1 : w1.heap.size ≤ b := hq; show w.heap.size ≤ b; omega), HBX.out⟩

set_option maxHeartbeats 1000000 in
set_option maxRecDepth 100000 in
theorem zAk (h : Hd) (p : Pl) (w : World) (E at' : Int) (x : ByteArray)
    (hC : ∀ W : World, Below w.heap.size w W → Calls Tryz.prog 23 #[.agg #[.func (Fn.func 38) #[] #[], .func (Fn.func 39) #[] #[], .func (Fn.func 40) #[] #[], .func (Fn.func 41) #[] #[]], .agg #[.int .i8 h.kind, .string h.name, .string h.arg, .int .i64 h.num, .int .i8 h.tk, .slice p.TA p.tn p.tc, .int .i8 h.uk, .slice p.UA p.un p.uc, .int .i64 h.label, .int .i64 h.pos, .slice p.A p.n p.c]] W (Ck.TyPost W (.bad E at' x))) :
    Calls Tryz.prog 8 #[.agg #[.int .i8 h.kind, .string h.name, .string h.arg, .int .i64 h.num, .int .i8 h.tk, .slice p.TA p.tn p.tc, .int .i8 h.uk, .slice p.UA p.un p.uc, .int .i64 h.label, .int .i64 h.pos, .slice p.A p.n p.c]] w (Ck.TyPost w (.bad E at' x)) := by
  have hB2 := zm w (.cells #[.int .i8 h.kind, .string h.name, .string h.arg, .int .i64 h.num, .int .i8 h.tk, .slice p.TA p.tn p.tc, .int .i8 h.uk, .slice p.UA p.un p.uc, .int .i64 h.label, .int .i64 h.pos, .slice p.A p.n p.c] 28) (.cells #[.int .i8 0, .slice none 0 0] 25)
  obtain ⟨h0, h1⟩ := zz w (.cells #[.int .i8 h.kind, .string h.name, .string h.arg, .int .i64 h.num, .int .i8 h.tk, .slice p.TA p.tn p.tc, .int .i8 h.uk, .slice p.UA p.un p.uc, .int .i64 h.label, .int .i64 h.pos, .slice p.A p.n p.c] 28) (.cells #[.int .i8 0, .slice none 0 0] 25)
  have hz : ((w.alloc (.cells #[.int .i8 h.kind, .string h.name, .string h.arg, .int .i64 h.num, .int .i8 h.tk, .slice p.TA p.tn p.tc, .int .i8 h.uk, .slice p.UA p.un p.uc, .int .i64 h.label, .int .i64 h.pos, .slice p.A p.n p.c] 28)).alloc (.cells #[.int .i8 0, .slice none 0 0] 25)).heap.size = w.heap.size + 2 := by simp
  obtain ⟨w1, hw1⟩ : ∃ w1, w1 = (w.alloc (.cells #[.int .i8 h.kind, .string h.name, .string h.arg, .int .i64 h.num, .int .i8 h.tk, .slice p.TA p.tn p.tc, .int .i8 h.uk, .slice p.UA p.un p.uc, .int .i64 h.label, .int .i64 h.pos, .slice p.A p.n p.c] 28)).alloc (.cells #[.int .i8 0, .slice none 0 0] 25) := ⟨_, rfl⟩
  rw [← hw1] at hB2 h0 h1 hz
  have HW1 := Lib.hid hw1
  have HZ := Lib.hid hz
  have H2 := Lib.hid h1
  have hfrom := Lib.hid (fun (W : World) (hb : Below w1.heap.size w1 W) => hB2.trans (hb.mono hB2.size))
  have CT := Lib.hid (fun (W : World) (hb : Below w1.heap.size w1 W) => hC W (hB2.trans (hb.mono hB2.size)))
  have HK := Lib.hid (fun (W : World) (hb : Below w1.heap.size w1 W) => (zI (zA hb (zC h0) h0)))
  clear hB2 h0 h1 hz hC
  go_enter Tryz.func8, Tryz.ntmps8
  go_upto_region 1 with fail
  rw [← HW1.out]
  clear hw1 HW1
  refine zO 9 rfl [4, 5, 6, 7, 8, 3] (by kernel_rfl) (by kernel_rfl) (by kernel_rfl) (fun listed a' w' => a'.defers = [] ∧ a'.tmps.size = 9 ∧ a'.eval (.tmp 1) = .pointer (some ⟨w.heap.size, 0, none⟩) ∧ a'.eval (.tmp 2) = .pointer (some ⟨w.heap.size + 1, 0, none⟩) ∧ ∃ g, (listed[0]? = some true → (a'.eval (.tmp 4) = .agg #[.func (Fn.func 38) #[] #[], .func (Fn.func 39) #[] #[], .func (Fn.func 40) #[] #[], .func (Fn.func 41) #[] #[]])) ∧ (listed[1]? = some true → (a'.eval (.tmp 5) = .agg #[.int .i8 h.kind, .string h.name, .string h.arg, .int .i64 h.num, .int .i8 h.tk, .slice p.TA p.tn p.tc, .int .i8 h.uk, .slice p.UA p.un p.uc, .int .i64 h.label, .int .i64 h.pos, .slice p.A p.n p.c])) ∧ (listed[2]? = some true → (a'.eval (.tmp 6) = .tuple #[.agg #[.int .i8 0, .slice none 0 0], .iface 65 (.pointer (some ⟨g, 0, none⟩))]) ∧ (listed[0]? = some true) ∧ (listed[1]? = some true) ∧ (w'.heap[g]? = some (.cells #[.int .i64 E, .int .i64 at', .string x] 69 (0, 0))) ∧ (w1.heap.size ≤ g)) ∧ (listed[3]? = some true → (a'.eval (.tmp 7) = .agg #[.int .i8 0, .slice none 0 0]) ∧ (listed[0]? = some true) ∧ (listed[1]? = some true) ∧ (listed[2]? = some true)) ∧ (listed[4]? = some true → (a'.eval (.tmp 8) = .iface 65 (.pointer (some ⟨g, 0, none⟩))) ∧ (listed[2]? = some true)) ∧ (listed[5]? = some true → (listed[0]? = some true) ∧ (listed[1]? = some true) ∧ (listed[2]? = some true) ∧ (listed[3]? = some true) ∧ (w'.heap[w.heap.size + 1]? = some (.cells #[.int .i8 0, .slice none 0 0] 25 (0, 0))) ∧ (Below w.heap.size w w')) ∧ (listed[6]? = some true → (a'.eval (.tmp 3) = .iface 65 (.pointer (some ⟨g, 0, none⟩))) ∧ (listed[2]? = some true)) ∧ (listed[5]? = some false → Below w1.heap.size w1 w')) (fun _ _ _ h => h.1) ?_ ?_ ?_
  · have hz := HZ.out
    refine ⟨rfl, rfl, rfl, rfl, 0, (fun h => ?_), (fun h => ?_), (fun h => ?_), (fun h => ?_), (fun h => ?_), (fun h => ?_), (fun h => ?_), (fun _ => (Below.refl _ _).drew)⟩ <;> simp at h
  · rintro listed a' w' i o ⟨hdf, hsz, x1, x2, g, y0, y1, y2, y3, y4, y5, y6, hbw⟩ hz hsz0 ho hi hp
    have hi13 : i < 7 := by
      rcases Nat.lt_or_ge i 7 with q | q
      · exact q
      · rw [Array.getElem?_eq_none (by simpa using q)] at ho; cases ho
    rcases (by omega : i = 0 ∨ i = 1 ∨ i = 2 ∨ i = 3 ∨ i = 4 ∨ i = 5 ∨ i = 6) with rfl | rfl | rfl | rfl | rfl | rfl | rfl
    · obtain rfl := Option.some.inj ho
      have hbw := hbw (nf (by rw [hz]; decide) (fun q => (y5 q).1) hi)
      refine zD ho rfl (zo 4 rfl (f := 22) (args := #[]) ?_ (kJ w') fun e u hg => ?_)
      · obtain ⟨hcst, hfn⟩ := evc a'; generalize a'.eval = ev at *
        clear hp y0 y1 y2 y3 y4 y5 y6
        go_simp
      · obtain ⟨he, hb⟩ := hg
        refine ⟨.agg #[.func (Fn.func 38) #[] #[], .func (Fn.func 39) #[] #[], .func (Fn.func 40) #[] #[], .func (Fn.func 41) #[] #[]], he, ?_⟩
        have hbs := hbw.size
        have hzz := HZ.out
        have hbs2 := hb.size
        exact ⟨pd hdf, ps hsz, pn x1, pn x2, g, (fun _ => pS hsz), (kE y1), (kN y2 (fun q => q.2.1) hi), (kN y3 (fun q => q.2.1) hi), (kF y4 (fun q => ⟨pn q.1, z8 q.2⟩)), (kN y5 (fun q => q.1) hi), (kF y6 (fun q => ⟨pn q.1, z8 q.2⟩)), (fun _ => hbw.trans (hb.mono hbw.size))⟩
    · obtain rfl := Option.some.inj ho
      refine zD ho rfl (zF 5 rfl (v := .agg #[.int .i8 h.kind, .string h.name, .string h.arg, .int .i64 h.num, .int .i8 h.tk, .slice p.TA p.tn p.tc, .int .i8 h.uk, .slice p.UA p.un p.uc, .int .i64 h.label, .int .i64 h.pos, .slice p.A p.n p.c]) ?_ ?_)
      · have hbw := hbw (nf (by rw [hz]; decide) (fun q => (y5 q).2.1) hi)
        obtain ⟨q0, q1, q2, q3, q4, q5, q6, q7, q8, q9, q10, -⟩ := HK.out w' hbw
        obtain ⟨hcst, hfn⟩ := evc a'; generalize a'.eval = ev at *
        clear hp y0 y1 y2 y3 y4 y5 y6
        go_simp
      · exact ⟨pd hdf, ps hsz, pn x1, pn x2, g, (kE y0), (fun _ => pS hsz), (kN y2 (fun q => q.2.2.1) hi), (kN y3 (fun q => q.2.2.1) hi), (kF y4 (fun q => ⟨pn q.1, z8 q.2⟩)), (kN y5 (fun q => q.2.1) hi), (kF y6 (fun q => ⟨pn q.1, z8 q.2⟩)), (kU hbw id)⟩
    · obtain rfl := Option.some.inj ho
      have v0 := hpv hp 0 (by simp)
      have ww0 := (y0 v0)
      have v1 := hpv hp 1 (by simp)
      have ww1 := (y1 v1)
      have hbw := hbw (nf (by rw [hz]; decide) (fun q => (y5 q).2.2.1) hi)
      refine zD ho rfl (zo 6 rfl (f := 23) (args := #[.agg #[.func (Fn.func 38) #[] #[], .func (Fn.func 39) #[] #[], .func (Fn.func 40) #[] #[], .func (Fn.func 41) #[] #[]], .agg #[.int .i8 h.kind, .string h.name, .string h.arg, .int .i64 h.num, .int .i8 h.tk, .slice p.TA p.tn p.tc, .int .i8 h.uk, .slice p.UA p.un p.uc, .int .i64 h.label, .int .i64 h.pos, .slice p.A p.n p.c]]) ?_ (CT.out w' hbw) fun e u hg => ?_)
      · obtain ⟨hcst, hfn⟩ := evc a'; generalize a'.eval = ev at *
        clear hp y0 y1 y2 y3 y4 y5 y6
        go_simp
      · obtain ⟨g', rfl, hf, hg, hb⟩ := hg
        refine ⟨.tuple #[.agg #[.int .i8 0, .slice none 0 0], .iface 65 (.pointer (some ⟨g', 0, none⟩))], rfl, ?_⟩
        have hbs := hbw.size
        have hzz := HZ.out
        have hbs2 := hb.size
        exact ⟨pd hdf, ps hsz, pn x1, pn x2, g', (kE y0), (kE y1), (fun _ => ⟨pS hsz, (z8 v0), (z8 v1), hf, (Nat.le_trans hbw.size hg)⟩), (kN y3 (fun q => q.2.2.2) hi), (kN y4 (fun q => q.2) hi), (kN y5 (fun q => q.2.2.1) hi), (kN y6 (fun q => q.2) hi), (fun _ => hbw.trans (hb.mono hbw.size))⟩
    · obtain rfl := Option.some.inj ho
      refine zD ho rfl (zF 7 rfl (v := .agg #[.int .i8 0, .slice none 0 0]) ?_ ?_)
      · have v2 := hpv hp 2 (by simp)
        have ww2 := (y2 v2).1
        obtain ⟨hcst, hfn⟩ := evc a'; generalize a'.eval = ev at *
        clear hp y0 y1 y2 y3 y4 y5 y6
        go_simp
      · have v2 := hpv hp 2 (by simp)
        exact ⟨pd hdf, ps hsz, pn x1, pn x2, g, (kE y0), (kE y1), (kF y2 (fun q => ⟨pn q.1, z8 q.2.1, z8 q.2.2.1, q.2.2.2.1, q.2.2.2.2⟩)), (fun _ => ⟨pS hsz, (z8 ((y2 v2).2.1)), (z8 ((y2 v2).2.2.1)), (z8 v2)⟩), (kF y4 (fun q => ⟨pn q.1, z8 q.2⟩)), (kN y5 (fun q => q.2.2.2.1) hi), (kF y6 (fun q => ⟨pn q.1, z8 q.2⟩)), (kU hbw id)⟩
    · obtain rfl := Option.some.inj ho
      refine zD ho rfl (zF 8 rfl (v := .iface 65 (.pointer (some ⟨g, 0, none⟩))) ?_ ?_)
      · have v2 := hpv hp 2 (by simp)
        have ww2 := (y2 v2).1
        obtain ⟨hcst, hfn⟩ := evc a'; generalize a'.eval = ev at *
        clear hp y0 y1 y2 y3 y4 y5 y6
        go_simp
      · have v2 := hpv hp 2 (by simp)
        exact ⟨pd hdf, ps hsz, pn x1, pn x2, g, (kE y0), (kE y1), (kF y2 (fun q => ⟨pn q.1, z8 q.2.1, z8 q.2.2.1, q.2.2.2.1, q.2.2.2.2⟩)), (kF y3 (fun q => ⟨pn q.1, z8 q.2.1, z8 q.2.2.1, z8 q.2.2.2⟩)), (fun _ => ⟨pS hsz, (z8 v2)⟩), (kF y5 (fun q => ⟨z8 q.1, z8 q.2.1, z8 q.2.2.1, z8 q.2.2.2.1, q.2.2.2.2.1, q.2.2.2.2.2⟩)), (kF y6 (fun q => ⟨pn q.1, z8 q.2⟩)), (kU hbw id)⟩
    · obtain rfl := Option.some.inj ho
      have v3 := hpv hp 3 (by simp)
      have ww3 := (y3 v3).1
      have hbw := hbw hi
      have hbox := zA hbw (zC H2.out) H2.out
      obtain ⟨bc0, bc1, bf0, bf1, -⟩ := zM hbox
      refine zD ho rfl (zi rfl (w2 := (w'.setCell ⟨w.heap.size + 1, 0, none⟩ (.int .i8 0)).setCell ⟨w.heap.size + 1, 1, none⟩ (.slice none 0 0)) ?_ ?_)
      · obtain ⟨hcst, hfn⟩ := evc a'; generalize a'.eval = ev at *
        clear hp y0 y1 y2 y3 y4 y5 y6
        go_simp
      · have hsa : ((w'.setCell ⟨w.heap.size + 1, 0, none⟩ (.int .i8 0)).setCell ⟨w.heap.size + 1, 1, none⟩ (.slice none 0 0)).heap.size = w'.heap.size := by simp
        have hbs := hbw.size
        have hzz := HZ.out
        exact ⟨hdf, hsz, x1, x2, g, (kF y0 id), (kF y1 id), (kF y2 (fun q => ⟨q.1, z8 q.2.1, z8 q.2.2.1, (zT q.2.2.2.1 (by omega) _ _), q.2.2.2.2⟩)), (kF y3 (fun q => ⟨q.1, z8 q.2.1, z8 q.2.2.1, z8 q.2.2.2⟩)), (kF y4 (fun q => ⟨q.1, z8 q.2⟩)), (fun _ => ⟨(z8 ((y3 v3).2.1)), (z8 ((y3 v3).2.2.1)), (z8 ((y3 v3).2.2.2)), (z8 v3), zP hbox _ _, zL (hfrom.out w' hbw) (by omega) _ _⟩), (kF y6 (fun q => ⟨q.1, z8 q.2⟩)), (fun qu => (zQ qu).elim)⟩
    · obtain rfl := Option.some.inj ho
      refine zD ho rfl (zF 3 rfl (v := .iface 65 (.pointer (some ⟨g, 0, none⟩))) ?_ ?_)
      · have v4 := hpv hp 4 (by simp)
        have ww4 := (y4 v4).1
        obtain ⟨hcst, hfn⟩ := evc a'; generalize a'.eval = ev at *
        clear hp y0 y1 y2 y3 y4 y5 y6
        go_simp
      · have v4 := hpv hp 4 (by simp)
        exact ⟨pd hdf, ps hsz, pn x1, pn x2, g, (kE y0), (kE y1), (kF y2 (fun q => ⟨pn q.1, z8 q.2.1, z8 q.2.2.1, q.2.2.2.1, q.2.2.2.2⟩)), (kF y3 (fun q => ⟨pn q.1, z8 q.2.1, z8 q.2.2.1, z8 q.2.2.2⟩)), (kF y4 (fun q => ⟨pn q.1, z8 q.2⟩)), (kF y5 (fun q => ⟨z8 q.1, z8 q.2.1, z8 q.2.2.1, z8 q.2.2.2.1, q.2.2.2.2.1, q.2.2.2.2.2⟩)), (fun _ => ⟨pS hsz, (z8 ((y4 v4).2))⟩), (kU hbw id)⟩
  · rintro listed u w' t ht hu ⟨-, -, -, -, g, y0, y1, y2, y3, y4, y5, y6, hbw⟩ hall
    have v2 := hall 2 (by decide)
    have v5 := hall 5 (by decide)
    have v6 := hall 6 (by decide)
    have HBX := Lib.hid ((y5 v5).2.2.2.2.2)
    have hf := ((y2 v2).2.2.2.1)
    have hg := ((y2 v2).2.2.2.2)
    have hx := ((y5 v5).2.2.2.2.1)
    have e3 := ((y6 v6).1)
    rw [hu 3 (by decide) (by decide)] at e3
    clear y0 y1 y2 y3 y4 y5 y6 v2 v5 v6 hall hu
    clear hbw
    simp only [over, List.setIfInBounds_toArray, List.set_cons_succ, List.set_cons_zero] at ht
    subst ht
    obtain ⟨k0, k1', -, -, -⟩ := zM hx
    have hz := HZ.out
    have HF := Lib.hid hf
    clear hf
    go_wp2_with fail
    refine ⟨rfl, .tuple #[.agg #[.int .i8 0, .slice none 0 0], .iface 65 (.pointer (some ⟨g, 0, none⟩))], by simp [results, Tryz.results8, go_sem, k0, k1', e3], ?_⟩
    exact ⟨g, rfl, HF.out, (by omega), HBX.out⟩

theorem zBn (h : Hd) (p : Pl) (w : World) (R : Ck.R) (hC : ∀ W : World, Below w.heap.size w W → Calls Tryz.prog 23 #[.agg #[.func (Fn.func 38) #[] #[], .func (Fn.func 39) #[] #[], .func (Fn.func 40) #[] #[], .func (Fn.func 41) #[] #[]], .agg #[.int .i8 h.kind, .string h.name, .string h.arg, .int .i64 h.num, .int .i8 h.tk, .slice p.TA p.tn p.tc, .int .i8 h.uk, .slice p.UA p.un p.uc, .int .i64 h.label, .int .i64 h.pos, .slice p.A p.n p.c]] W (Ck.TyPost W R)) :
    Calls Tryz.prog 8 #[.agg #[.int .i8 h.kind, .string h.name, .string h.arg, .int .i64 h.num, .int .i8 h.tk, .slice p.TA p.tn p.tc, .int .i8 h.uk, .slice p.UA p.un p.uc, .int .i64 h.label, .int .i64 h.pos, .slice p.A p.n p.c]] w (Ck.TyPost w R) := by
  cases R with
  | ok a => exact zBm h p w a hC
  | bad E at' x => exact zAk h p w E at' x hC
theorem yY (h : Hd) (kids : Tm) (p : Pl) (w : World) (hIs : Tm.Is w h kids p) (hG : TGlob w) :
    Calls Tryz.prog 8 #[.agg #[.int .i8 h.kind, .string h.name, .string h.arg, .int .i64 h.num, .int .i8 h.tk, .slice p.TA p.tn p.tc, .int .i8 h.uk, .slice p.UA p.un p.uc, .int .i64 h.label, .int .i64 h.pos, .slice p.A p.n p.c]] w (Ck.TyPost w (Ck.tell h kids)) := by
  refine zBn h p w _ fun W hb => ?_
  have e := zBL gradRv h kids p W (hIs.below hb) (hG.below hb) (fun e => Ck.zCj e)
  have e2 : Cg.tell gradRv h kids = Ck.tell h kids := by
    unfold Cg.tell Ck.tell
    show (match Ck.refO h kids with | some x => Ck.R.bad x.1 x.2 Ck.e0 | none => Cg.ty Cg.grad (Tm.nodes kids + 1) h kids []) = _
    unfold Ck.refO Ck.refu
    rw [Cg.zAt]
    by_cases h0 : Tm.chk h kids = 0
    · have h0' : ¬ Tm.chk h kids ≠ 0 := by simpa using h0
      rw [if_neg h0', if_neg h0']
      cases Ck.castT h kids <;> simp
    · rw [if_pos h0, if_pos h0, if_neg (by omega)]
  rw [e2] at e
  exact e
end Go.Proofs.YtjpohjcnjanoaaaGreatDoor
namespace Go.Proofs.YtjpohjcnjanoaaaGreatDoor
open Go.RowKit
set_option maxHeartbeats 2000000 in
set_option maxRecDepth 100000 in
theorem zBU (K : Nat) : ∀ (k : Int) (kids : Fo) (A : Option Addr) (n c : Nat) (k' : Int) (kids' : Fo) (A' : Option Addr) (n' c' : Nat) (w : World), Ty.nodes kids < K → Ty.Is w k kids A n c → Ty.Is w k' kids' A' n' c' →
    Calls Tryz.prog 11 #[.agg #[.int .i8 k, .slice A n c], .agg #[.int .i8 k', .slice A' n' c']] w fun e w' => e = .returned (.bool (Ty.eqT k kids k' kids')) ∧ Below w.heap.size w w' := by
  induction K with
  | zero => intro _ _ _ _ _ _ _ _ _ _ _ h; omega
  | succ K ih =>
    intro k kids A n c k' kids' A' n' c' w hK hIs hIs'
    have i5 : (n : Int) ≤ 9223372036854775807 := by have h1 := hIs.n_le; have h2 := hIs.c_le; unfold maxLen at h2; omega
    obtain ⟨hB0, hR0, hR1⟩ := j6 w k A n c k' A' n' c'
    have HI := Lib.hid hIs
    have HI' := Lib.hid hIs'
    have IH := Lib.hid ih
    clear ih hIs hIs'
    obtain ⟨b0, b1, _, _, hb0⟩ := zM hR0
    obtain ⟨d0, d1, _, _, hd0⟩ := zM hR1
    by_cases hkk : k = k'
    · by_cases hnn : n = n'
      · subst hkk
        subst hnn
        rw [show Ty.eqT k kids k kids' = Ty.eqF kids kids' by unfold Ty.eqT; simp]
        have hk2 : (k != k) = false := by simp
        obtain ⟨R, hR⟩ : ∃ R, Ty.eqF kids kids' = R := ⟨_, rfl⟩
        rw [hR]
        have HR := Lib.hid hR
        have hlies2 := HI'.out.lies.below hB0
        have hst := Over.start (HI.out.lies.below hB0) HI.out.n_eq
        have hst2 : Over2 w _ A' n 0 kids' := ⟨by have := HI'.out.n_eq; omega, hlies2⟩
        have hn2 : ((n : Int) != (n : Int)) = false := by simp
        clear hR0 hR1 hR hlies2
        generalize hw1 : (w.alloc (.cells #[.int .i8 k, .slice A n c] 25)).alloc (.cells #[.int .i8 k, .slice A' n c'] 25) = w1 at *
        have HS := Lib.hid hst
        have HS2 := Lib.hid hst2
        have HW := Lib.hid hw1
        clear hst hst2 hw1
        go_enter Tryz.func11, Tryz.ntmps11
        go_wp2_with fail
        rw [HW.out]
        go_wp2_with fail
        go_loopw [23] (fun v23 wr => ∃ (i : Nat) (r1 r2 : Fo), v23 = .int .i64 i ∧ Over w1 wr A n (Ty.nodes kids) i r1 ∧ Over2 w wr A' n i r2 ∧ Ty.eqF r1 r2 = R) (fun v _ => n - (intOf v).toNat)
        case atStart => exact ⟨0, kids, kids', rfl, HS.out, HS2.out, HR.out⟩
        case round =>
          obtain ⟨i, r1, r2, rfl, hO, hO2, hRR⟩ := hrel
          have hbB := hB0.trans (hO.below.mono hB0.size)
          obtain ⟨e0, e1⟩ := hO.box b0 b1
          obtain ⟨g0, g1⟩ := hO.box d0 d1
          clear b0 b1 d0 d1
          cases r1 with
          | nil =>
            have hi : i = n := by have := hO.i_eq; simpa [Ty.len] using this
            have hr2 : r2 = .nil := by
              have := hO2.i_eq
              cases r2 with
              | nil => rfl
              | node _ _ _ _ _ => simp only [Ty.len] at this; omega
            subst hr2
            clear hO hO2
            simp only [Ty.eqF] at hRR
            subst hi
            subst hRR
            go_wp2_with fail
            go_ret
            exact ⟨rfl, hbB⟩
          | node a b kk kks r =>
            cases r2 with
            | nil => have q1 := hO.i_eq; have q2 := hO2.i_eq; simp only [Ty.len] at q1 q2; omega
            | node a2 b2 kk2 kks2 s =>
            have hst := fun w2 hb => Over.step (w2 := w2) hO hb
            have h1 := hO.i_eq
            have h2 := hO.lies
            have h3 := hO.sub
            have q1 := hO2.i_eq
            have q2 := hO2.lies
            simp only [Ty.len, Ty.nodes, Ty.eqF] at h1 h3 hRR q1
            obtain ⟨bb, oo, B, c9, rfl, ⟨hk1, hk2'⟩, c1', c2', hl1, hl2, hl3, hl4⟩ := h2
            obtain ⟨bb2, oo2, B2, c3, rfl, ⟨gk1, gk2⟩, x1, x2, gl1, gl2, gl3, gl4⟩ := q2
            have hcall := fun (W : World) (hb : Below wr.heap.size wr W) => IH.out kk kks B (Ty.len kks) c9 kk2 kks2 B2 (Ty.len kks2) c3 W (by omega) ⟨hl3.below hb, rfl, hl1, hl2, hk1, hk2'⟩ ⟨gl3.below hb, rfl, gl1, gl2, gk1, gk2⟩
            have HST := Lib.hid hst
            have HL := Lib.hid hl4
            have HL2 := Lib.hid gl4
            have HC := Lib.hid hcall
            have HRR := Lib.hid hRR
            have j1 : (i : Int) < n := by omega
            have j2 : (0 : Int) ≤ i ∧ (i : Int) < n := by omega
            have hBd := Lib.hid (below_drewN (Below.refl wr.heap.size wr) 1)
            clear hst hl3 hl4 gl3 gl4 hcall hO hO2 hRR
            cases hp : Ty.eqT kk kks kk2 kks2
            · have hp0 : R = false := by rw [← HRR.out]; unfold Ty.eqT at hp; rw [hp]; rfl
              rw [hp] at HC
              subst hp0
              clear hp
              go_wp2_with fail
              go_still_tail 10, (by kernel_rfl)
              change wpList _ _ _ _ _ (wr.drewN 1)
              have hbB1 := hbB.trans (hBd.out.mono hbB.size)
              have hsz : (wr.drewN 1).heap.size = wr.heap.size := rfl
              clear e0 e1 g0 g1 c1' c2' x1 x2
              generalize wr.drewN 1 = w2 at *
              go_wp2_with fail
              refine (HC.out _ hBd.out).mono ?_
              rintro e w3 ⟨rfl, hb⟩
              go_wp2_with fail
              go_ret
              exact ⟨rfl, hbB1.trans (hb.mono hbB1.size)⟩
            · have hp0 := HRR.out
              unfold Ty.eqT at hp
              rw [hp, Bool.true_and] at hp0
              have HP := Lib.hid hp0
              rw [show Ty.eqT kk kks kk2 kks2 = true from hp] at HC
              clear hp hp0
              go_wp2_with fail
              go_still_tail 10, (by kernel_rfl)
              change wpList _ _ _ _ _ (wr.drewN 1)
              have hsz : (wr.drewN 1).heap.size = wr.heap.size := rfl
              clear e0 e1 g0 g1 c1' c2' x1 x2
              generalize wr.drewN 1 = w2 at *
              go_wp2_with fail
              refine (HC.out _ hBd.out).mono ?_
              rintro e w3 ⟨rfl, hb⟩
              have hB2 : Below wr.heap.size wr w3 := hBd.out.trans (hb.mono (by omega))
              have hbb := Lib.hid (HST.out w3 hB2 HL.out)
              have hbb2 : Hid (Over2 w w3 (some ⟨bb2, oo2, none⟩) n (i + 1) s) := Lib.hid ⟨by omega, HL2.out.below hB2⟩
              clear hb hB2 hsz
              go_wp2_with fail
              go_roundw
              case rel => exact ⟨i + 1, r, s, by go_num, hbb.out, hbb2.out, HP.out⟩
              case measure => simp [intOf]; omega
      · subst hkk
        have hl : Ty.len kids ≠ Ty.len kids' := by have h1 := HI.out.n_eq; have h2 := HI'.out.n_eq; omega
        rw [show Ty.eqT k kids k kids' = false by unfold Ty.eqT; simp [Ty.zDU _ _ hl]]
        have hk2 : (k != k) = false := by simp
        have hn2 : ((n : Int) != (n' : Int)) = true := by simp; omega
        clear hl hR0 hR1
        go_enter Tryz.func11, Tryz.ntmps11
        go_wp2_with fail
        go_ret
        exact ⟨rfl, hB0⟩
    · rw [show Ty.eqT k kids k' kids' = false by unfold Ty.eqT; simp [hkk]]
      have hk2 : (k != k') = true := by simpa using hkk
      clear hkk hR0 hR1
      go_enter Tryz.func11, Tryz.ntmps11
      go_wp2_with fail
      go_ret
      exact ⟨rfl, hB0⟩

theorem zDk (p : Option Addr) (w : World) : (binOp .neq 30 (.iface 65 (.pointer p)) .nilIface).run Tryz.prog w = .ok (.bool true) w := by kernel_rfl
theorem zDj (w : World) : (binOp .neq 30 .nilIface .nilIface).run Tryz.prog w = .ok (.bool false) w := by kernel_rfl
theorem zDm (p : Option Addr) (w : World) : (binOp .eql 30 (.iface 65 (.pointer p)) .nilIface).run Tryz.prog w = .ok (.bool false) w := by kernel_rfl
theorem zDl (w : World) : (binOp .eql 30 .nilIface .nilIface).run Tryz.prog w = .ok (.bool true) w := by kernel_rfl
namespace Ck
end Ck
end Go.Proofs.YtjpohjcnjanoaaaGreatDoor
