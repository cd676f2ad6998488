/-
  Layer 9: typeOf, tell and Type, whole.
-/
import Derived.Test.YtknhoagicdfikaaGreatDoorCk22
import Derived.Test.YtknhoagicdfikaaGreatDoorCk9
namespace Go.Proofs.YtknhoagicdfikaaGreatDoor
open Go.RowKit
namespace Ck
theorem kidat {wb : World} {h : Hd} {k r : Tm} {A : Option Addr} {i : Nat} (hl : Tm.Lies wb (.node h k r) A i) : ∃ b o q, A = some ⟨b, o, none⟩ ∧ KidAt wb b (o + i * 11) h q ∧ Tm.Is wb h k q ∧ Tm.Lies wb r A (i + 1) := by
  obtain ⟨b, o, q, hA, hc, hf, hk, hr⟩ := hl
  exact ⟨b, o, q, hA, fun j v hj => hc j v hj, ⟨hf, hk⟩, hr⟩
theorem leaf_ly (Q : Nat → Prop) (w : World) (k : Int) (hk : -128 ≤ k ∧ k ≤ 127) : Ly Q w (k, .nil) none 0 0 := fun u _ => leaf_is hk u
end Ck
theorem of_leaf (Q : Nat → Prop) (k : Int) (hk : -128 ≤ k ∧ k ≤ 127) (w : World) : Calls Tryz.prog 71 #[.int .i8 k, .slice none 0 0] w (Ck.Post Q w (.ok (k, .nil))) :=
  (ckof_any k none 0 0 w).mono fun _ _ ⟨he, hb⟩ => ⟨none, 0, 0, he, Ck.leaf_ly _ _ k hk, hb⟩

theorem cktype_any (rv : Cg.Rv) (K : Nat) (Q : Nat → Prop) (h : Hd) (kids : Tm) (p : Pl) (l : Ck.Env) (A : Option Addr) (n c : Nat) (wb w : World) (hIs : Tm.Is wb h kids p) (hwb : Below wb.heap.size wb w) (hQ : ∀ b, b < wb.heap.size → Q b) (hS : Shapes w) (hE : Ck.EAt Q w l A n c)
    (ho : Tm.okT h kids = true) (hc : rv.D.ca = true ∨ Ck.castT h kids = false) (hb : l.length + 2 * (Tm.nodes kids + 1) ≤ 20000)
    (IH : ∀ (h1 : Hd) (k1 : Tm) (q : Pl), Tm.nodes k1 < Tm.nodes kids → Tm.Is wb h1 k1 q → Tm.okT h1 k1 = true → (rv.D.ca = true ∨ Ck.castT h1 k1 = false) → Ck.TellsOf rv K wb h1 k1 q) :
    Calls Tryz.prog 49 #[.agg #[.func (Fn.func rv.fr) #[] rv.cpt, .func (Fn.func rv.fa) #[] #[], .func (Fn.func rv.fm) #[] #[], .func (Fn.func rv.ft) #[] #[], rv.vg], .agg #[.int .i8 h.kind, .string h.name, .string h.arg, .int .i64 h.num, .int .i8 h.tk, .slice p.TA p.tn p.tc, .int .i8 h.uk, .slice p.UA p.un p.uc, .int .i64 h.label, .int .i64 h.pos, .slice p.A p.n p.c], .slice A n c] w (Ck.Post Q w (Cg.raw rv.D (Cg.ty rv.D K) h kids l)) := by
  by_cases hov : Ck.isOver h.kind
  · exact cktype_over rv K Q h kids p l A n c wb w hIs hwb hQ hS hE ho hc hov hb IH
  obtain ⟨hik, hlen, hokF⟩ := Ck.okT_parts ho
  have hcF := hc.imp id fun q => (Ck.castT_parts q).2
  have hkk : h.kind = 0 ∨ h.kind = 1 ∨ h.kind = 2 ∨ h.kind = 3 ∨ h.kind = 4 ∨ h.kind = 5 ∨ h.kind = 7 ∨ h.kind = 14 := by
    simp only [Tm.isKind, decide_eq_true_eq] at hik
    unfold Ck.isOver at hov
    omega
  have hQ1 : ∀ w1 : World, Below w.heap.size w w1 → ∀ b, b < wb.heap.size → Ck.Cut Q w.heap.size (w.heap.size + 3) b := fun w1 _ b hb => .inl ⟨hQ b hb, Nat.lt_of_lt_of_le hb hwb.size⟩
  have hE1 : ∀ w1 : World, Below w.heap.size w w1 → Ck.EAt (Ck.Cut Q w.heap.size (w.heap.size + 3)) w1 l A n c := fun w1 hb1 => (hE.weak (fun b hb hq => .inl ⟨hq, hb⟩)).below hb1
  rcases hkk with hk | hk | hk | hk | hk | hk | hk | hk
  · rw [Cg.raw_0 _ _ _ _ _ hk]
    exact cktype_var rv Q h p A n c w _ hk fun w1 hb1 _ => cknamed_any _ h p l A n c w1 (hE1 w1 hb1) hIs.fit.nm
  · rw [Cg.raw_1 _ _ _ _ _ hk]
    exact cktype_num rv Q h p A n c w _ hk fun w1 _ _ => of_leaf _ 1 (by decide) w1
  · rw [Cg.raw_2 _ _ _ _ _ hk]
    exact cktype_yes rv Q h p A n c w _ hk fun w1 _ _ => of_leaf _ 2 (by decide) w1
  · rw [Cg.raw_3 _ _ _ _ _ hk]
    exact cktype_no rv Q h p A n c w _ hk fun w1 _ _ => of_leaf _ 2 (by decide) w1
  · rw [hk] at hlen
    obtain ⟨h1, k1, rfl⟩ : ∃ h1 k1, kids = .node h1 k1 .nil := by
      match kids, hlen with
      | .node h1 k1 .nil, _ => exact ⟨h1, k1, rfl⟩
      | .node _ _ (.node _ _ _), e => simp [Tm.len, Tm.kidsN] at e
      | .nil, e => simp [Tm.len, Tm.kidsN] at e
    rw [Cg.raw_4 _ _ _ _ _ hk]
    obtain ⟨b, o, q, hA, g1, i1, -⟩ := Ck.kidat hIs.lies
    have hn : p.n = 1 := hIs.fit.n_eq
    have hT := hIs.fit.ty
    have hU := hIs.fit.to
    have ok1 := Ck.okF_node' hokF
    simp only [Tm.nodes] at hb
    have T1 := IH h1 k1 q (by simp only [Tm.nodes]; omega) i1 ok1.1 (hcF.imp id fun q => by simp only [Ck.castF, Bool.or_eq_false_iff] at q; unfold Ck.castT; rw [q.1.1, q.1.2]; rfl)
    obtain ⟨TA, tn, tc, UA, un, uc, pA, pn, pc⟩ := p
    dsimp only at hA hn hT hU
    subst hA hn
    exact cklam_told rv K Q h h1 k1 q TA UA tn tc un uc b o pc l A n c wb w hT hU (by simpa using g1) hwb hQ hS hE hk (by omega) T1
  · rw [hk] at hlen
    obtain ⟨h1, k1, rfl⟩ : ∃ h1 k1, kids = .node h1 k1 .nil := by
      match kids, hlen with
      | .node h1 k1 .nil, _ => exact ⟨h1, k1, rfl⟩
      | .node _ _ (.node _ _ _), e => simp [Tm.len, Tm.kidsN] at e
      | .nil, e => simp [Tm.len, Tm.kidsN] at e
    rw [Cg.raw_5 _ _ _ _ _ hk]
    obtain ⟨b, o, q, hA, g1, i1, -⟩ := Ck.kidat hIs.lies
    have hn : p.n = 1 := hIs.fit.n_eq
    have hT := hIs.fit.ty
    have hU := hIs.fit.to
    have ok1 := Ck.okF_node' hokF
    simp only [Tm.nodes] at hb
    have T1 := IH h1 k1 q (by simp only [Tm.nodes]; omega) i1 ok1.1 (hcF.imp id fun q => by simp only [Ck.castF, Bool.or_eq_false_iff] at q; unfold Ck.castT; rw [q.1.1, q.1.2]; rfl)
    obtain ⟨TA, tn, tc, UA, un, uc, pA, pn, pc⟩ := p
    dsimp only at hA hn hT hU
    subst hA hn
    exact cktype_rec rv Q h _ A n c w _ hk fun w1 hb1 _ => ckrec_told rv K _ h h1 k1 q TA UA tn tc un uc b o pc l A n c wb w1 hT hU (by simpa using g1) (hwb.trans (hb1.mono hwb.size)) (hQ1 w1 hb1) (hS.below hb1) (hE1 w1 hb1) (by omega) T1
  · rw [hk] at hlen
    obtain ⟨h1, k1, h2, k2, rfl⟩ : ∃ h1 k1 h2 k2, kids = .node h1 k1 (.node h2 k2 .nil) := by
      match kids, hlen with
      | .node h1 k1 (.node h2 k2 .nil), _ => exact ⟨h1, k1, h2, k2, rfl⟩
      | .node _ _ (.node _ _ (.node _ _ _)), e => simp [Tm.len, Tm.kidsN] at e
      | .node _ _ .nil, e => simp [Tm.len, Tm.kidsN] at e
      | .nil, e => simp [Tm.len, Tm.kidsN] at e
    rw [Cg.raw_7 _ _ _ _ _ hk]
    obtain ⟨b, o, q, hA, g1, i1, l2⟩ := Ck.kidat hIs.lies
    obtain ⟨b', o', q2, hA2, g2, i2, -⟩ := Ck.kidat l2
    have hn : p.n = 2 := hIs.fit.n_eq
    have hT := hIs.fit.ty
    have hU := hIs.fit.to
    have ok1 := Ck.okF_node' hokF
    have ok2 := Ck.okF_node' ok1.2
    simp only [Tm.nodes] at hb
    have T1 := IH h1 k1 q (by simp only [Tm.nodes]; omega) i1 ok1.1 (hcF.imp id fun q => by simp only [Ck.castF, Bool.or_eq_false_iff] at q; unfold Ck.castT; rw [q.1.1, q.1.2]; rfl)
    have T2 := IH h2 k2 q2 (by simp only [Tm.nodes]; omega) i2 ok2.1 (hcF.imp id fun q => by simp only [Ck.castF, Bool.or_eq_false_iff] at q; unfold Ck.castT; rw [q.2.1.1, q.2.1.2]; rfl)
    obtain ⟨TA, tn, tc, UA, un, uc, pA, pn, pc⟩ := p
    dsimp only at hA hA2 hn hT hU
    subst hA hn
    injection hA2 with hA2
    injection hA2 with e1 e2
    subst e1 e2
    exact cktype_let rv Q h _ A n c w _ hk fun w1 hb1 _ => cklet_told rv K _ h h1 h2 k1 k2 q q2 TA UA tn tc un uc b o pc l A n c wb w1 hT hU (by simpa using g1) (by simpa using g2) (hwb.trans (hb1.mono hwb.size)) (hQ1 w1 hb1) (hS.below hb1) (hE1 w1 hb1) (by omega) (by omega) T1 T2
  · rw [hk] at hlen
    obtain ⟨h1, k1, h2, k2, h3, k3, rfl⟩ : ∃ h1 k1 h2 k2 h3 k3, kids = .node h1 k1 (.node h2 k2 (.node h3 k3 .nil)) := by
      match kids, hlen with
      | .node h1 k1 (.node h2 k2 (.node h3 k3 .nil)), _ => exact ⟨h1, k1, h2, k2, h3, k3, rfl⟩
      | .node _ _ (.node _ _ (.node _ _ (.node _ _ _))), e => simp [Tm.len, Tm.kidsN] at e
      | .node _ _ (.node _ _ .nil), e => simp [Tm.len, Tm.kidsN] at e
      | .node _ _ .nil, e => simp [Tm.len, Tm.kidsN] at e
      | .nil, e => simp [Tm.len, Tm.kidsN] at e
    rw [Cg.raw_14 _ _ _ _ _ hk]
    obtain ⟨b, o, q, hA, g1, i1, l2⟩ := Ck.kidat hIs.lies
    obtain ⟨b', o', q2, hA2, g2, i2, l3⟩ := Ck.kidat l2
    obtain ⟨b2, o2, q3, hA3, g3, i3, -⟩ := Ck.kidat l3
    have hn : p.n = 3 := hIs.fit.n_eq
    have hT := hIs.fit.ty
    have hU := hIs.fit.to
    have ok1 := Ck.okF_node' hokF
    have ok2 := Ck.okF_node' ok1.2
    have ok3 := Ck.okF_node' ok2.2
    simp only [Tm.nodes] at hb
    have T1 := IH h1 k1 q (by simp only [Tm.nodes]; omega) i1 ok1.1 (hcF.imp id fun q => by simp only [Ck.castF, Bool.or_eq_false_iff] at q; unfold Ck.castT; rw [q.1.1, q.1.2]; rfl)
    have T2 := IH h2 k2 q2 (by simp only [Tm.nodes]; omega) i2 ok2.1 (hcF.imp id fun q => by simp only [Ck.castF, Bool.or_eq_false_iff] at q; unfold Ck.castT; rw [q.2.1.1, q.2.1.2]; rfl)
    have T3 := IH h3 k3 q3 (by simp only [Tm.nodes]; omega) i3 ok3.1 (hcF.imp id fun q => by simp only [Ck.castF, Bool.or_eq_false_iff] at q; unfold Ck.castT; rw [q.2.2.1.1, q.2.2.1.2]; rfl)
    obtain ⟨TA, tn, tc, UA, un, uc, pA, pn, pc⟩ := p
    dsimp only at hA hA2 hA3 hn hT hU
    subst hA hn
    injection hA2 with hA2
    injection hA2 with e1 e2
    subst e1 e2
    injection hA3 with hA3
    injection hA3 with e1 e2
    subst e1 e2
    exact cktype_case rv Q h _ A n c w _ hk fun w1 hb1 _ => ckbranches_told rv K _ h h1 h2 h3 k1 k2 k3 q q2 q3 TA UA tn tc un uc b o pc l A n c wb w1 hT hU (by simpa using g1) (by simpa using g2) (by simpa using g3) (hwb.trans (hb1.mono hwb.size)) (hQ1 w1 hb1) (hS.below hb1) (hE1 w1 hb1) (by omega) (by omega) (by omega) T1 T2 T3
/-- what the rules tell of a right term without casts -/
theorem cktell_any (rv : Cg.Rv) (K : Nat) : ∀ (h : Hd) (kids : Tm) (p : Pl) (wb : World), Tm.nodes kids < K → Tm.Is wb h kids p → Tm.okT h kids = true → (rv.D.ca = true ∨ Ck.castT h kids = false) → Ck.TellsOf rv K wb h kids p := by
  induction K with
  | zero => intro _ _ _ _ hK; omega
  | succ K ih =>
    intro h kids p wb hK hIs ho hc Q l A n c W hwb hQ hS hE hlen
    rw [Cg.ty_succ]
    refine cktell_of rv Q h p A n c W _ hS fun w1 hb1 hz => ?_
    exact cktype_any rv K _ h kids p l A n c wb w1 hIs (hwb.trans (hb1.mono hwb.size)) (fun b hb => .inl ⟨hQ b hb, Nat.lt_of_lt_of_le hb hwb.size⟩) (hS.below hb1) ((hE.weak (fun b hb hq => .inl ⟨hq, hb⟩)).below hb1) ho hc hlen
      (fun h1 k1 q hlt hIs1 ho1 hc1 => ih h1 k1 q wb (by omega) hIs1 ho1 hc1)
theorem Ck.refKO_ok {kd : Int} {h : Hd} {kids : Tm} (e : Ck.refKO kd h kids = none) : Tm.chk h kids = 0 ∧ Ck.hasT kd h kids = false := by
  unfold Ck.refKO Ck.refK at e
  by_cases h0 : Tm.chk h kids = 0
  · refine ⟨h0, ?_⟩
    cases hc : Ck.hasT kd h kids
    · rfl
    · rw [hc] at e; simp [h0] at e
  · rw [if_pos h0] at e
    rw [if_neg (by omega)] at e
    cases e
/-- rules.Type: refusing whatever is no right term, or one with casts that they do not speak of -/
theorem rType_any (rv : Cg.Rv) (h : Hd) (kids : Tm) (p : Pl) (w : World) (x : Option (Int × Int)) (hIs : Tm.Is w h kids p) (hG : TGlob w) (hr : x = none → Tm.chk h kids = 0 ∧ (rv.D.ca = true ∨ Ck.castT h kids = false))
    (hRef : ∀ W : World, Below w.heap.size w W → Calls Tryz.prog rv.fr (#[.agg #[.int .i8 h.kind, .string h.name, .string h.arg, .int .i64 h.num, .int .i8 h.tk, .slice p.TA p.tn p.tc, .int .i8 h.uk, .slice p.UA p.un p.uc, .int .i64 h.label, .int .i64 h.pos, .slice p.A p.n p.c]] ++ rv.cpt) W (Cg.RefPost W x)) :
    Calls Tryz.prog 13 #[.agg #[.func (Fn.func rv.fr) #[] rv.cpt, .func (Fn.func rv.fa) #[] #[], .func (Fn.func rv.fm) #[] #[], .func (Fn.func rv.ft) #[] #[], rv.vg], .agg #[.int .i8 h.kind, .string h.name, .string h.arg, .int .i64 h.num, .int .i8 h.tk, .slice p.TA p.tn p.tc, .int .i8 h.uk, .slice p.UA p.un p.uc, .int .i64 h.label, .int .i64 h.pos, .slice p.A p.n p.c]] w (Ck.TyPost w (Cg.tellR rv.D x h kids)) := by
  unfold Cg.tellR
  cases hq : x with
  | some x =>
    rw [hq] at hRef
    exact rtype_refused rv h p w x hRef
  | none =>
    obtain ⟨h0, hc⟩ := hr hq
    rw [hq] at hRef
    obtain ⟨hnd, -, hok⟩ := Ck.chk_parts h0
    refine rtype_told rv h p w _ hG.types hRef (fun a e => Cg.ty_ok e) fun W hb => ?_
    exact cktell_any rv (Tm.nodes kids + 1) h kids p w (Nat.lt_succ_self _) hIs hok hc (fun b => b < w.heap.size) [] none 0 0 W hb (fun _ h => h) (hG.below hb).types (Ck.EAt.empty _ _) (by unfold Tm.nd at hnd; simp only [List.length_nil]; omega)
end Go.Proofs.YtknhoagicdfikaaGreatDoor
