/-
  Layer 9: typeOf, tell and Type, whole. Layers 11 and 13: partsOf, the Meet; the strict rules. Layer 13: ofCasts; the kernel's rules. Layer 9: the gradual rules; check.Type, whole. Layer 9: the law's Kind; its tooGreat; what Type leaves, as the law reads it.
-/
import Derived.Test.YteefhebdfeaojaaGreatDoorCk22
import Derived.Test.YteefhebdfeaojaaGreatDoorCk9
import Derived.Test.YteefhebdfeaojaaGreatDoorM18
import Derived.Test.YteefhebdfeaojaaGreatDoorM19
import Derived.Laws.EntriesVeiled
import Derived.Test.YteefhebdfeaojaaGreatDoorM15
import Derived.Test.YteefhebdfeaojaaGreatDoorLow
import Derived.Deep.RegionHeld3
import Derived.Deep.DeepCutAuto
namespace Go.Proofs.YteefhebdfeaojaaGreatDoor
open Go.RowKit
namespace Ck
theorem kidat {wb : World} {h : Hd} {k r : Tm} {A : Option Addr} {i : Nat} (hl : Tm.Lies wb (.node h k r) A i) : ∃ b o q, A = some ⟨b, o, none⟩ ∧ KidAt wb b (o + i * 11) h q ∧ Tm.Is wb h k q ∧ Tm.Lies wb r A (i + 1) := by
  obtain ⟨b, o, q, hA, hc, hf, hk, hr⟩ := hl
  exact ⟨b, o, q, hA, fun j v hj => hc j v hj, ⟨hf, hk⟩, hr⟩
theorem leaf_ly (Q : Nat → Prop) (w : World) (k : Int) (hk : -128 ≤ k ∧ k ≤ 127) : Ly Q w (k, .nil) none 0 0 := fun u _ => leaf_is hk u
end Ck
theorem of_leaf (Q : Nat → Prop) (k : Int) (hk : -128 ≤ k ∧ k ≤ 127) (w : World) : Calls Tryz.prog 58 #[.int .i8 k, .slice none 0 0] w (Ck.Post Q w (.ok (k, .nil))) :=
  (ckof_any k none 0 0 w).mono fun _ _ ⟨he, hb⟩ => ⟨none, 0, 0, he, Ck.leaf_ly _ _ k hk, hb⟩

theorem cktype_any (rv : Cg.Rv) (K : Nat) (Q : Nat → Prop) (h : Hd) (kids : Tm) (p : Pl) (l : Ck.Env) (A : Option Addr) (n c : Nat) (wb w : World) (hIs : Tm.Is wb h kids p) (hwb : Below wb.heap.size wb w) (hQ : ∀ b, b < wb.heap.size → Q b) (hS : Shapes w) (hE : Ck.EAt Q w l A n c)
    (ho : Tm.okT h kids = true) (hc : rv.D.ca = true ∨ Ck.castT h kids = false) (hb : l.length + 2 * (Tm.nodes kids + 1) ≤ 20000)
    (IH : ∀ (h1 : Hd) (k1 : Tm) (q : Pl), Tm.nodes k1 < Tm.nodes kids → Tm.Is wb h1 k1 q → Tm.okT h1 k1 = true → (rv.D.ca = true ∨ Ck.castT h1 k1 = false) → Ck.TellsOf rv K wb h1 k1 q) :
    Calls Tryz.prog 42 #[.agg #[.func (Fn.func rv.fr) #[] rv.cpt, .func (Fn.func rv.fa) #[] #[], .func (Fn.func rv.fm) #[] #[], .func (Fn.func rv.ft) #[] #[], rv.vg], .agg #[.int .i8 h.kind, .string h.name, .string h.arg, .int .i64 h.num, .int .i8 h.tk, .slice p.TA p.tn p.tc, .int .i8 h.uk, .slice p.UA p.un p.uc, .int .i64 h.label, .int .i64 h.pos, .slice p.A p.n p.c], .slice A n c] w (Ck.Post Q w (Cg.raw rv.D (Cg.ty rv.D K) h kids l)) := by
  by_cases hov : Ck.isOver h.kind
  · exact cktype_over rv K Q h kids p l A n c wb w hIs hwb hQ hS hE ho hc hov hb IH
  obtain ⟨hik, hlen, hokF⟩ := Ck.okT_parts ho
  have hcF := hc.imp id fun q => (Ck.castT_parts q).2
  have hkk : h.kind = 0 ∨ h.kind = 1 ∨ h.kind = 2 ∨ h.kind = 3 ∨ h.kind = 4 ∨ h.kind = 5 ∨ h.kind = 7 ∨ h.kind = 14 := by
    simp only [Tm.isKind, decide_eq_true_eq] at hik
    unfold Ck.isOver at hov
    omega
  have hQ1 : ∀ w1 : World, Below w.heap.size w w1 → ∀ b, b < wb.heap.size → Ck.Cut Q w.heap.size (w.heap.size + 3) b := fun w1 _ b hb => .inl ⟨hQ b hb, Nat.lt_of_lt_of_le hb hwb.size⟩
  have hE1 : ∀ w1 : World, Below w.heap.size w w1 → Ck.EAt (Ck.Cut Q w.heap.size (w.heap.size + 3)) w1 l A n c := fun w1 hb1 => (hE.weak (fun b hb hq => .inl ⟨hq, hb⟩)).below hb1
  rcases hkk with hk | hk | hk | hk | hk | hk | hk | hk
  · rw [Cg.raw_0 _ _ _ _ _ hk]
    exact cktype_var rv Q h p A n c w _ hk fun w1 hb1 _ => cknamed_any _ h p l A n c w1 (hE1 w1 hb1) hIs.fit.nm
  · rw [Cg.raw_1 _ _ _ _ _ hk]
    exact cktype_num rv Q h p A n c w _ hk fun w1 _ _ => of_leaf _ 1 (by decide) w1
  · rw [Cg.raw_2 _ _ _ _ _ hk]
    exact cktype_yes rv Q h p A n c w _ hk fun w1 _ _ => of_leaf _ 2 (by decide) w1
  · rw [Cg.raw_3 _ _ _ _ _ hk]
    exact cktype_no rv Q h p A n c w _ hk fun w1 _ _ => of_leaf _ 2 (by decide) w1
  · rw [hk] at hlen
    obtain ⟨h1, k1, rfl⟩ : ∃ h1 k1, kids = .node h1 k1 .nil := by
      match kids, hlen with
      | .node h1 k1 .nil, _ => exact ⟨h1, k1, rfl⟩
      | .node _ _ (.node _ _ _), e => simp [Tm.len, Tm.kidsN] at e
      | .nil, e => simp [Tm.len, Tm.kidsN] at e
    rw [Cg.raw_4 _ _ _ _ _ hk]
    obtain ⟨b, o, q, hA, g1, i1, -⟩ := Ck.kidat hIs.lies
    have hn : p.n = 1 := hIs.fit.n_eq
    have hT := hIs.fit.ty
    have hU := hIs.fit.to
    have ok1 := Ck.okF_node' hokF
    simp only [Tm.nodes] at hb
    have T1 := IH h1 k1 q (by simp only [Tm.nodes]; omega) i1 ok1.1 (hcF.imp id fun q => by simp only [Ck.castF, Bool.or_eq_false_iff] at q; unfold Ck.castT; rw [q.1.1, q.1.2]; rfl)
    obtain ⟨TA, tn, tc, UA, un, uc, pA, pn, pc⟩ := p
    dsimp only at hA hn hT hU
    subst hA hn
    exact cklam_told rv K Q h h1 k1 q TA UA tn tc un uc b o pc l A n c wb w hT hU (by simpa using g1) hwb hQ hS hE hk (by omega) T1
  · rw [hk] at hlen
    obtain ⟨h1, k1, rfl⟩ : ∃ h1 k1, kids = .node h1 k1 .nil := by
      match kids, hlen with
      | .node h1 k1 .nil, _ => exact ⟨h1, k1, rfl⟩
      | .node _ _ (.node _ _ _), e => simp [Tm.len, Tm.kidsN] at e
      | .nil, e => simp [Tm.len, Tm.kidsN] at e
    rw [Cg.raw_5 _ _ _ _ _ hk]
    obtain ⟨b, o, q, hA, g1, i1, -⟩ := Ck.kidat hIs.lies
    have hn : p.n = 1 := hIs.fit.n_eq
    have hT := hIs.fit.ty
    have hU := hIs.fit.to
    have ok1 := Ck.okF_node' hokF
    simp only [Tm.nodes] at hb
    have T1 := IH h1 k1 q (by simp only [Tm.nodes]; omega) i1 ok1.1 (hcF.imp id fun q => by simp only [Ck.castF, Bool.or_eq_false_iff] at q; unfold Ck.castT; rw [q.1.1, q.1.2]; rfl)
    obtain ⟨TA, tn, tc, UA, un, uc, pA, pn, pc⟩ := p
    dsimp only at hA hn hT hU
    subst hA hn
    exact cktype_rec rv Q h _ A n c w _ hk fun w1 hb1 _ => ckrec_told rv K _ h h1 k1 q TA UA tn tc un uc b o pc l A n c wb w1 hT hU (by simpa using g1) (hwb.trans (hb1.mono hwb.size)) (hQ1 w1 hb1) (hS.below hb1) (hE1 w1 hb1) (by omega) T1
  · rw [hk] at hlen
    obtain ⟨h1, k1, h2, k2, rfl⟩ : ∃ h1 k1 h2 k2, kids = .node h1 k1 (.node h2 k2 .nil) := by
      match kids, hlen with
      | .node h1 k1 (.node h2 k2 .nil), _ => exact ⟨h1, k1, h2, k2, rfl⟩
      | .node _ _ (.node _ _ (.node _ _ _)), e => simp [Tm.len, Tm.kidsN] at e
      | .node _ _ .nil, e => simp [Tm.len, Tm.kidsN] at e
      | .nil, e => simp [Tm.len, Tm.kidsN] at e
    rw [Cg.raw_7 _ _ _ _ _ hk]
    obtain ⟨b, o, q, hA, g1, i1, l2⟩ := Ck.kidat hIs.lies
    obtain ⟨b', o', q2, hA2, g2, i2, -⟩ := Ck.kidat l2
    have hn : p.n = 2 := hIs.fit.n_eq
    have hT := hIs.fit.ty
    have hU := hIs.fit.to
    have ok1 := Ck.okF_node' hokF
    have ok2 := Ck.okF_node' ok1.2
    simp only [Tm.nodes] at hb
    have T1 := IH h1 k1 q (by simp only [Tm.nodes]; omega) i1 ok1.1 (hcF.imp id fun q => by simp only [Ck.castF, Bool.or_eq_false_iff] at q; unfold Ck.castT; rw [q.1.1, q.1.2]; rfl)
    have T2 := IH h2 k2 q2 (by simp only [Tm.nodes]; omega) i2 ok2.1 (hcF.imp id fun q => by simp only [Ck.castF, Bool.or_eq_false_iff] at q; unfold Ck.castT; rw [q.2.1.1, q.2.1.2]; rfl)
    obtain ⟨TA, tn, tc, UA, un, uc, pA, pn, pc⟩ := p
    dsimp only at hA hA2 hn hT hU
    subst hA hn
    injection hA2 with hA2
    injection hA2 with e1 e2
    subst e1 e2
    exact cktype_let rv Q h _ A n c w _ hk fun w1 hb1 _ => cklet_told rv K _ h h1 h2 k1 k2 q q2 TA UA tn tc un uc b o pc l A n c wb w1 hT hU (by simpa using g1) (by simpa using g2) (hwb.trans (hb1.mono hwb.size)) (hQ1 w1 hb1) (hS.below hb1) (hE1 w1 hb1) (by omega) (by omega) T1 T2
  · rw [hk] at hlen
    obtain ⟨h1, k1, h2, k2, h3, k3, rfl⟩ : ∃ h1 k1 h2 k2 h3 k3, kids = .node h1 k1 (.node h2 k2 (.node h3 k3 .nil)) := by
      match kids, hlen with
      | .node h1 k1 (.node h2 k2 (.node h3 k3 .nil)), _ => exact ⟨h1, k1, h2, k2, h3, k3, rfl⟩
      | .node _ _ (.node _ _ (.node _ _ (.node _ _ _))), e => simp [Tm.len, Tm.kidsN] at e
      | .node _ _ (.node _ _ .nil), e => simp [Tm.len, Tm.kidsN] at e
      | .node _ _ .nil, e => simp [Tm.len, Tm.kidsN] at e
      | .nil, e => simp [Tm.len, Tm.kidsN] at e
    rw [Cg.raw_14 _ _ _ _ _ hk]
    obtain ⟨b, o, q, hA, g1, i1, l2⟩ := Ck.kidat hIs.lies
    obtain ⟨b', o', q2, hA2, g2, i2, l3⟩ := Ck.kidat l2
    obtain ⟨b2, o2, q3, hA3, g3, i3, -⟩ := Ck.kidat l3
    have hn : p.n = 3 := hIs.fit.n_eq
    have hT := hIs.fit.ty
    have hU := hIs.fit.to
    have ok1 := Ck.okF_node' hokF
    have ok2 := Ck.okF_node' ok1.2
    have ok3 := Ck.okF_node' ok2.2
    simp only [Tm.nodes] at hb
    have T1 := IH h1 k1 q (by simp only [Tm.nodes]; omega) i1 ok1.1 (hcF.imp id fun q => by simp only [Ck.castF, Bool.or_eq_false_iff] at q; unfold Ck.castT; rw [q.1.1, q.1.2]; rfl)
    have T2 := IH h2 k2 q2 (by simp only [Tm.nodes]; omega) i2 ok2.1 (hcF.imp id fun q => by simp only [Ck.castF, Bool.or_eq_false_iff] at q; unfold Ck.castT; rw [q.2.1.1, q.2.1.2]; rfl)
    have T3 := IH h3 k3 q3 (by simp only [Tm.nodes]; omega) i3 ok3.1 (hcF.imp id fun q => by simp only [Ck.castF, Bool.or_eq_false_iff] at q; unfold Ck.castT; rw [q.2.2.1.1, q.2.2.1.2]; rfl)
    obtain ⟨TA, tn, tc, UA, un, uc, pA, pn, pc⟩ := p
    dsimp only at hA hA2 hA3 hn hT hU
    subst hA hn
    injection hA2 with hA2
    injection hA2 with e1 e2
    subst e1 e2
    injection hA3 with hA3
    injection hA3 with e1 e2
    subst e1 e2
    exact cktype_case rv Q h _ A n c w _ hk fun w1 hb1 _ => ckbranches_told rv K _ h h1 h2 h3 k1 k2 k3 q q2 q3 TA UA tn tc un uc b o pc l A n c wb w1 hT hU (by simpa using g1) (by simpa using g2) (by simpa using g3) (hwb.trans (hb1.mono hwb.size)) (hQ1 w1 hb1) (hS.below hb1) (hE1 w1 hb1) (by omega) (by omega) (by omega) T1 T2 T3
/-- what the rules tell of a right term without casts -/
theorem cktell_any (rv : Cg.Rv) (K : Nat) : ∀ (h : Hd) (kids : Tm) (p : Pl) (wb : World), Tm.nodes kids < K → Tm.Is wb h kids p → Tm.okT h kids = true → (rv.D.ca = true ∨ Ck.castT h kids = false) → Ck.TellsOf rv K wb h kids p := by
  induction K with
  | zero => intro _ _ _ _ hK; omega
  | succ K ih =>
    intro h kids p wb hK hIs ho hc Q l A n c W hwb hQ hS hE hlen
    rw [Cg.ty_succ]
    refine cktell_of rv Q h p A n c W _ hS fun w1 hb1 hz => ?_
    exact cktype_any rv K _ h kids p l A n c wb w1 hIs (hwb.trans (hb1.mono hwb.size)) (fun b hb => .inl ⟨hQ b hb, Nat.lt_of_lt_of_le hb hwb.size⟩) (hS.below hb1) ((hE.weak (fun b hb hq => .inl ⟨hq, hb⟩)).below hb1) ho hc hlen
      (fun h1 k1 q hlt hIs1 ho1 hc1 => ih h1 k1 q wb (by omega) hIs1 ho1 hc1)
theorem Ck.refKO_ok {kd : Int} {h : Hd} {kids : Tm} (e : Ck.refKO kd h kids = none) : Tm.chk h kids = 0 ∧ Ck.hasT kd h kids = false := by
  unfold Ck.refKO Ck.refK at e
  by_cases h0 : Tm.chk h kids = 0
  · refine ⟨h0, ?_⟩
    cases hc : Ck.hasT kd h kids
    · rfl
    · rw [hc] at e; simp [h0] at e
  · rw [if_pos h0] at e
    rw [if_neg (by omega)] at e
    cases e
/-- rules.Type: refusing whatever is no right term, or one with casts that they do not speak of -/
theorem rType_any (rv : Cg.Rv) (h : Hd) (kids : Tm) (p : Pl) (w : World) (x : Option (Int × Int)) (hIs : Tm.Is w h kids p) (hG : TGlob w) (hr : x = none → Tm.chk h kids = 0 ∧ (rv.D.ca = true ∨ Ck.castT h kids = false))
    (hRef : ∀ W : World, Below w.heap.size w W → Calls Tryz.prog rv.fr (#[.agg #[.int .i8 h.kind, .string h.name, .string h.arg, .int .i64 h.num, .int .i8 h.tk, .slice p.TA p.tn p.tc, .int .i8 h.uk, .slice p.UA p.un p.uc, .int .i64 h.label, .int .i64 h.pos, .slice p.A p.n p.c]] ++ rv.cpt) W (Cg.RefPost W x)) :
    Calls Tryz.prog 12 #[.agg #[.func (Fn.func rv.fr) #[] rv.cpt, .func (Fn.func rv.fa) #[] #[], .func (Fn.func rv.fm) #[] #[], .func (Fn.func rv.ft) #[] #[], rv.vg], .agg #[.int .i8 h.kind, .string h.name, .string h.arg, .int .i64 h.num, .int .i8 h.tk, .slice p.TA p.tn p.tc, .int .i8 h.uk, .slice p.UA p.un p.uc, .int .i64 h.label, .int .i64 h.pos, .slice p.A p.n p.c]] w (Ck.TyPost w (Cg.tellR rv.D x h kids)) := by
  unfold Cg.tellR
  cases hq : x with
  | some x =>
    rw [hq] at hRef
    exact rtype_refused rv h p w x hRef
  | none =>
    obtain ⟨h0, hc⟩ := hr hq
    rw [hq] at hRef
    obtain ⟨hnd, -, hok⟩ := Ck.chk_parts h0
    refine rtype_told rv h p w _ hG.types hRef (fun a e => Cg.ty_ok e) fun W hb => ?_
    exact cktell_any rv (Tm.nodes kids + 1) h kids p w (Nat.lt_succ_self _) hIs hok hc (fun b => b < w.heap.size) [] none 0 0 W hb (fun _ h => h) (hG.below hb).types (Ck.EAt.empty _ _) (by unfold Tm.nd at hnd; simp only [List.length_nil]; omega)
end Go.Proofs.YteefhebdfeaojaaGreatDoor
namespace Go.Proofs.YteefhebdfeaojaaGreatDoor
open Go.RowKit
set_option maxHeartbeats 1000000 in
set_option maxRecDepth 100000 in
theorem sparts_any (Q : Nat → Prop) (kd : Int) (a : Ck.T2) (A : Option Addr) (n c : Nat) (w : World) (hkd : 3 ≤ kd ∧ kd ≤ 5) (hL : Ck.Ly Q w a A n c) (hok : Ty.okT a.1 a.2 = true) :
    Calls Tryz.prog 37 #[.int .i8 kd, .agg #[.int .i8 a.1, .slice A n c]] w (Cg.AsPost Q w (St.ops.asO kd a) (St.ops.asl kd a) (St.ops.asr kd a)) := by
  by_cases hk : a.1 = kd
  · obtain ⟨k, kids⟩ := a
    dsimp only at hk hok ⊢
    subst hk
    obtain ⟨a1, a2, p1, f1, a3, a4, p2, f2, rfl, o1, o2⟩ := Ty.two_of hok hkd.1
    have hn := hL.is.n_eq
    simp only [Ty.len] at hn
    subst hn
    obtain ⟨bb, oo, B1, c1, B2, c2, rfl, hQ, x0, x1, x2, x3, L1, L2⟩ := hL.parts
    have e1 : St.ops.asO k (k, .node a1 a2 p1 f1 (.node a3 a4 p2 f2 .nil)) = true := by show (k == k) = true; simp
    have e2 : St.ops.asl k (k, .node a1 a2 p1 f1 (.node a3 a4 p2 f2 .nil)) = (p1, f1) := by show (if k = k then _ else _) = _; rw [if_pos rfl]; rfl
    have e3 : St.ops.asr k (k, .node a1 a2 p1 f1 (.node a3 a4 p2 f2 .nil)) = (p2, f2) := by show (if k = k then _ else _) = _; rw [if_pos rfl]; rfl
    rw [e1, e2, e3]
    have hB3 := below_n3 w (.cells #[.int .i8 k, .slice (some ⟨bb, oo, none⟩) 2 c] 25) (.cells #[.int .i8 0, .slice none 0 0] 25) (.cells #[.int .i8 0, .slice none 0 0] 25)
    obtain ⟨h0, h1, h2⟩ := heap_n3 w (.cells #[.int .i8 k, .slice (some ⟨bb, oo, none⟩) 2 c] 25) (.cells #[.int .i8 0, .slice none 0 0] 25) (.cells #[.int .i8 0, .slice none 0 0] 25)
    have HL1 := Lib.hid (((L1.weak (Q' := Ck.Cut Q w.heap.size (w.heap.size + 3)) (fun b hl hq => .inl ⟨hq, hl⟩)).later hB3))
    have HL2 := Lib.hid (((L2.weak (Q' := Ck.Cut Q w.heap.size (w.heap.size + 3)) (fun b hl hq => .inl ⟨hq, hl⟩)).later hB3))
    have x0 := keep_cell x0 hB3
    have x1 := keep_cell x1 hB3
    have x2 := keep_cell x2 hB3
    have x3 := keep_cell x3 hB3
    have HB3 := Lib.hid hB3
    clear e1 e2 e3 hok hL hQ L1 L2 hB3 o1 o2 hkd
    generalize Ty.len f1 = m1 at *
    generalize Ty.len f2 = m2 at *
    have ek : (k != k) = false := by simp
    go_enter Tryz.func37, Tryz.ntmps37
    go_upto_region 1 with fail
    generalize ((w.alloc (.cells #[.int .i8 k, .slice (some ⟨bb, oo, none⟩) 2 c] 25)).alloc (.cells #[.int .i8 0, .slice none 0 0] 25)).alloc (.cells #[.int .i8 0, .slice none 0 0] 25) = w1 at *
    obtain ⟨r0, r1, -, -, rl⟩ := own2 h0
    have H1 := Lib.hid h1
    have H2 := Lib.hid h2
    obtain ⟨y0, y1, y2, y3, yl⟩ := own2 h1
    obtain ⟨z0, z1, z2, z3, zl⟩ := own2 h2
    clear h0 h1 h2
    go_wp2_with fail
    go_region
    have Z4 := Lib.hid (set_two_ne (set_two H1.out (.int .i8 p1) (.slice B1 m1 c1)) (show w.heap.size + 1 + 1 ≠ w.heap.size + 1 by omega) (.int .i8 p2) (.slice B2 m2 c2))
    have Z5 := Lib.hid (set_two (set_two_ne H2.out (show w.heap.size + 1 ≠ w.heap.size + 1 + 1 by omega) (.int .i8 p1) (.slice B1 m1 c1)) (.int .i8 p2) (.slice B2 m2 c2))
    have HBF := Lib.hid (below_set2 (below_set2 HB3.out (show w.heap.size ≤ w.heap.size + 1 by omega) (.int .i8 p1) (.slice B1 m1 c1)) (show w.heap.size ≤ w.heap.size + 1 + 1 by omega) (.int .i8 p2) (.slice B2 m2 c2))
    have HJ1 := Lib.hid ((HL1.out.set2 (X := w.heap.size + 1) (fun b h => h.ne (by omega) (by omega)) (.int .i8 p1) (.slice B1 m1 c1)).set2 (X := w.heap.size + 1 + 1) (fun b h => h.ne (by omega) (by omega)) (.int .i8 p2) (.slice B2 m2 c2))
    have HJ2 := Lib.hid ((HL2.out.set2 (X := w.heap.size + 1) (fun b h => h.ne (by omega) (by omega)) (.int .i8 p1) (.slice B1 m1 c1)).set2 (X := w.heap.size + 1 + 1) (fun b h => h.ne (by omega) (by omega)) (.int .i8 p2) (.slice B2 m2 c2))
    generalize ((((w1.setCell ⟨w.heap.size + 1, 0, none⟩ (.int .i8 p1)).setCell ⟨w.heap.size + 1, 1, none⟩ (.slice B1 m1 c1)).setCell ⟨w.heap.size + 1 + 1, 0, none⟩ (.int .i8 p2)).setCell ⟨w.heap.size + 1 + 1, 1, none⟩ (.slice B2 m2 c2)) = w6 at *
    have K4 : Hid (w6.drew.heap[w.heap.size + 1]? = some (.cells #[.int .i8 p1, .slice B1 m1 c1] 25 (0, 0))) := Lib.hid Z4.out
    have K5 : Hid (w6.drew.heap[w.heap.size + 1 + 1]? = some (.cells #[.int .i8 p2, .slice B2 m2 c2] 25 (0, 0))) := Lib.hid Z5.out
    have HJ1 := Lib.hid (HJ1.out.later (Below.refl _ _).drew)
    have HJ2 := Lib.hid (HJ2.out.later (Below.refl _ _).drew)
    have HBF := Lib.hid (HBF.out.drew)
    clear Z4 Z5 H1 H2 HL1 HL2 HB3 r0 r1 rl x0 x1 x2 x3 y0 y1 y2 y3 yl z0 z1 z2 z3 zl
    generalize w6.drew = w7 at *
    obtain ⟨k0, k1, -, -, -⟩ := own2 K4.out
    obtain ⟨k2, k3, -, -, -⟩ := own2 K5.out
    go_wp2_with fail
    refine bodyPost_ret (v := .tuple #[.agg #[.int .i8 p1, .slice B1 m1 c1], .agg #[.int .i8 p2, .slice B2 m2 c2], .bool true]) (by simp [results, Tryz.results37, go_sem, k0, k1, k2, k3]) rfl ⟨B1, m1, c1, B2, m2, c2, rfl, HJ1.out.weak (fun b _ h => h.out (by omega)), HJ2.out.weak (fun b _ h => h.out (by omega)), HBF.out⟩
  · have e1 : St.ops.asO kd a = false := by show (a.1 == kd) = false; simpa using hk
    have e2 : St.ops.asl kd a = (0, .nil) := by show (if a.1 = kd then _ else _) = _; rw [if_neg hk]
    have e3 : St.ops.asr kd a = (0, .nil) := by show (if a.1 = kd then _ else _) = _; rw [if_neg hk]
    rw [e1, e2, e3]
    have hB3 := below_n3 w (.cells #[.int .i8 a.1, .slice A n c] 25) (.cells #[.int .i8 0, .slice none 0 0] 25) (.cells #[.int .i8 0, .slice none 0 0] 25)
    obtain ⟨h0, h1, h2⟩ := heap_n3 w (.cells #[.int .i8 a.1, .slice A n c] 25) (.cells #[.int .i8 0, .slice none 0 0] 25) (.cells #[.int .i8 0, .slice none 0 0] 25)
    have HB3 := Lib.hid hB3
    have ek : (a.1 != kd) = true := by simpa using hk
    clear e1 e2 e3 hok hL hB3 hkd hk
    go_enter Tryz.func37, Tryz.ntmps37
    go_upto_region 1 with fail
    generalize ((w.alloc (.cells #[.int .i8 a.1, .slice A n c] 25)).alloc (.cells #[.int .i8 0, .slice none 0 0] 25)).alloc (.cells #[.int .i8 0, .slice none 0 0] 25) = w1 at *
    obtain ⟨r0, r1, -, -, rl⟩ := own2 h0
    have H1 := Lib.hid h1
    have H2 := Lib.hid h2
    obtain ⟨y0, y1, y2, y3, yl⟩ := own2 h1
    obtain ⟨z0, z1, z2, z3, zl⟩ := own2 h2
    clear h0 h1 h2
    go_wp2_with fail
    go_region
    have Z4 := Lib.hid (set_two_ne (set_two H1.out (.int .i8 0) (.slice none 0 0)) (show w.heap.size + 1 + 1 ≠ w.heap.size + 1 by omega) (.int .i8 0) (.slice none 0 0))
    have Z5 := Lib.hid (set_two (set_two_ne H2.out (show w.heap.size + 1 ≠ w.heap.size + 1 + 1 by omega) (.int .i8 0) (.slice none 0 0)) (.int .i8 0) (.slice none 0 0))
    have HBF := Lib.hid (below_set2 (below_set2 HB3.out (show w.heap.size ≤ w.heap.size + 1 by omega) (.int .i8 0) (.slice none 0 0)) (show w.heap.size ≤ w.heap.size + 1 + 1 by omega) (.int .i8 0) (.slice none 0 0))
    generalize ((((w1.setCell ⟨w.heap.size + 1, 0, none⟩ (.int .i8 0)).setCell ⟨w.heap.size + 1, 1, none⟩ (.slice none 0 0)).setCell ⟨w.heap.size + 1 + 1, 0, none⟩ (.int .i8 0)).setCell ⟨w.heap.size + 1 + 1, 1, none⟩ (.slice none 0 0)) = w6 at *
    have K4 : Hid (w6.drew.heap[w.heap.size + 1]? = some (.cells #[.int .i8 0, .slice none 0 0] 25 (0, 0))) := Lib.hid Z4.out
    have K5 : Hid (w6.drew.heap[w.heap.size + 1 + 1]? = some (.cells #[.int .i8 0, .slice none 0 0] 25 (0, 0))) := Lib.hid Z5.out
    have HBF := Lib.hid (HBF.out.drew)
    clear Z4 Z5 H1 H2 HB3 r0 r1 rl y0 y1 y2 y3 yl z0 z1 z2 z3 zl
    generalize w6.drew = w7 at *
    obtain ⟨k0, k1, -, -, -⟩ := own2 K4.out
    obtain ⟨k2, k3, -, -, -⟩ := own2 K5.out
    go_wp2_with fail
    refine bodyPost_ret (v := .tuple #[.agg #[.int .i8 0, .slice none 0 0], .agg #[.int .i8 0, .slice none 0 0], .bool false]) (by simp [results, Tryz.results37, go_sem, k0, k1, k2, k3]) rfl ⟨none, 0, 0, none, 0, 0, rfl, Ck.Ly.zero _ _, Ck.Ly.zero _ _, HBF.out⟩

set_option maxHeartbeats 1000000 in
set_option maxRecDepth 100000 in
theorem smeet_any (Q : Nat → Prop) (a : Ck.T2) (A : Option Addr) (n c : Nat) (b : Ck.T2) (A' : Option Addr) (n' c' : Nat) (w : World) (hL : Ck.Ly Q w a A n c) :
    Calls Tryz.prog 38 #[.agg #[.int .i8 a.1, .slice A n c], .agg #[.int .i8 b.1, .slice A' n' c']] w (Ck.Gives Q w a) := by
  have hB3 := below_n3 w (.cells #[.int .i8 a.1, .slice A n c] 25) (.cells #[.int .i8 b.1, .slice A' n' c'] 25) (.cells #[.int .i8 a.1, .slice A n c] 25)
  have HL := Lib.hid ((hL.weak (Q' := Ck.Cut Q w.heap.size w.heap.size) (fun b hl hq => .inl ⟨hq, hl⟩)).later hB3)
  have HB3 := Lib.hid hB3
  clear hL hB3
  go_enter Tryz.func38, Tryz.ntmps38
  go_wp2_with fail
  refine bodyPost_ret (v := .agg #[.int .i8 a.1, .slice A n c]) (by simp [results, Tryz.results38, go_sem, *]) rfl ⟨A, n, c, rfl, HL.out, HB3.out⟩
set_option maxHeartbeats 1000000 in
set_option maxRecDepth 100000 in
theorem sstrict_any (f : FuncId) (cp : Array Value) (w : World) : Calls Tryz.prog 19 #[.func (Fn.func f) #[] cp] w fun e w' => e = .returned (.agg #[.func (Fn.func f) #[] cp, .func (Fn.func 10) #[] #[], .func (Fn.func 37) #[] #[], .func (Fn.func 38) #[] #[], .nilFunc]) ∧ Below w.heap.size w w' := by
  have HB := Lib.hid (below_n1 w (.cells #[.func (Fn.func f) #[] cp, .func (Fn.func 10) #[] #[], .func (Fn.func 37) #[] #[], .func (Fn.func 38) #[] #[], .nilFunc] 44))
  go_enter Tryz.func19, Tryz.ntmps19
  go_wp2_with fail
  refine bodyPost_ret (v := .agg #[.func (Fn.func f) #[] cp, .func (Fn.func 10) #[] #[], .func (Fn.func 37) #[] #[], .func (Fn.func 38) #[] #[], .nilFunc]) (by simp [results, Tryz.results19, go_sem, *]) rfl ⟨rfl, HB.out⟩
end Go.Proofs.YteefhebdfeaojaaGreatDoor
namespace Go.Proofs.YteefhebdfeaojaaGreatDoor
open Go.RowKit
theorem set_fifth {u : World} {X : Nat} {x0 x1 x2 x3 x4 : Value} {t : TypeId} (h : u.heap[X]? = some (.cells #[x0, x1, x2, x3, x4] t (0, 0))) (e : Value) : (u.setCell ⟨X, 4, none⟩ e).heap[X]? = some (.cells #[x0, x1, x2, x3, e] t (0, 0)) := by
  simp [World.setCell, Array.getElem?_modify, h]
theorem set_fifth_ne {u : World} {X Y : Nat} {o : Obj} (h : u.heap[Y]? = some o) (hne : X ≠ Y) (e : Value) : (u.setCell ⟨X, 4, none⟩ e).heap[Y]? = some o := by
  simp [World.setCell, Array.getElem?_modify, h, hne]
set_option maxHeartbeats 2000000 in
set_option maxRecDepth 100000 in
theorem kofcasts_any (w : World) : Calls Tryz.prog 11 #[] w fun e w' => ∃ gK, e = .returned (.agg #[.func (Fn.func 39) #[] #[.pointer (some ⟨gK, 0, none⟩)], .func (Fn.func 10) #[] #[], .func (Fn.func 37) #[] #[], .func (Fn.func 38) #[] #[], .func (Fn.func 9) #[] #[]]) ∧ w'.heap[gK]? = some (.cells #[.int .i8 16] 22 (0, 0)) ∧ w.heap.size ≤ gK ∧ Below w.heap.size w w' := by
  have HB := Lib.hid (below_n1 w (.cells #[.nilFunc, .nilFunc, .nilFunc, .nilFunc, .nilFunc] 44))
  have H0 := Lib.hid (heap_new w (.cells #[.nilFunc, .nilFunc, .nilFunc, .nilFunc, .nilFunc] 44))
  have CW := Lib.hid (fun W : World => ckwithout_any 16 W)
  have CS := Lib.hid (fun (g : Nat) (W : World) => sstrict_any 39 #[.pointer (some ⟨g, 0, none⟩)] W)
  go_enter Tryz.func11, Tryz.ntmps11
  go_upto_region 1 with fail
  generalize w.alloc (.cells #[.nilFunc, .nilFunc, .nilFunc, .nilFunc, .nilFunc] 44) = w1 at *
  go_wp2_with fail
  refine (CW.out _).mono ?_
  rintro e w2 ⟨g, rfl, hk, hg, hb⟩
  have HB2 := Lib.hid (HB.out.trans (hb.mono HB.out.size))
  have H2 := Lib.hid (heap_below hb (heap_lt H0.out) H0.out)
  have HG := Lib.hid hk
  have HL := Lib.hid (Nat.lt_of_lt_of_le (heap_lt H0.out) hg)
  clear hk hg hb
  go_wp2_with fail
  refine (CS.out g _).mono ?_
  rintro e w3 ⟨rfl, hb⟩
  have hb4 := below_n1 w3 (.cells #[.func (Fn.func 39) #[] #[.pointer (some ⟨g, 0, none⟩)], .func (Fn.func 10) #[] #[], .func (Fn.func 37) #[] #[], .func (Fn.func 38) #[] #[], .nilFunc] 44)
  have H4 := Lib.hid (heap_new w3 (.cells #[.func (Fn.func 39) #[] #[.pointer (some ⟨g, 0, none⟩)], .func (Fn.func 10) #[] #[], .func (Fn.func 37) #[] #[], .func (Fn.func 38) #[] #[], .nilFunc] 44))
  have HB4 := Lib.hid (HB2.out.trans ((hb.trans (hb4.mono hb.size)).mono HB2.out.size))
  have H24 := Lib.hid (heap_below (hb.trans (hb4.mono hb.size)) (heap_lt H2.out) H2.out)
  have HG4 := Lib.hid (heap_below (hb.trans (hb4.mono hb.size)) (heap_lt HG.out) HG.out)
  have HL3 := Lib.hid (Nat.lt_of_lt_of_le (heap_lt HG.out) hb.size)
  have HL4 := Lib.hid (Nat.lt_of_lt_of_le (heap_lt H2.out) hb.size)
  clear hb hb4
  go_upto_region 2 with fail
  generalize w3.alloc (.cells #[.func (Fn.func 39) #[] #[.pointer (some ⟨g, 0, none⟩)], .func (Fn.func 10) #[] #[], .func (Fn.func 37) #[] #[], .func (Fn.func 38) #[] #[], .nilFunc] 44) = w4 at *
  generalize w3.heap.size = S3 at *
  obtain ⟨r0, r1, r2, r3, r4, z0, z1, z2, z3, z4, rl⟩ := own5 H4.out
  obtain ⟨s0, s1, s2, s3, s4, y0, y1, y2, y3, y4, sl⟩ := own5 H24.out
  have H5 := Lib.hid (set_fifth H4.out (.func (Fn.func 9) #[] #[]))
  have H25 := Lib.hid (set_fifth_ne H24.out (show S3 ≠ w.heap.size by have := HL4.out; omega) (.func (Fn.func 9) #[] #[]))
  have HG5 := Lib.hid (set_fifth_ne HG4.out (show S3 ≠ g by have := HL3.out; omega) (.func (Fn.func 9) #[] #[]))
  have HB5 := Lib.hid (HB4.out.setCell (p := ⟨S3, 4, none⟩) (show w.heap.size ≤ S3 by have := HL4.out; omega) (.func (Fn.func 9) #[] #[]))
  go_upto_region 3 with fail
  generalize w4.setCell ⟨S3, 4, none⟩ (.func (Fn.func 9) #[] #[]) = w5 at *
  clear r0 r1 r2 r3 r4 z0 z1 z2 z3 z4 rl s0 s1 s2 s3 s4 y0 y1 y2 y3 y4 sl
  obtain ⟨r0, r1, r2, r3, r4, z0, z1, z2, z3, z4, rl⟩ := own5 H5.out
  obtain ⟨s0, s1, s2, s3, s4, y0, y1, y2, y3, y4, sl⟩ := own5 H25.out
  go_wp2_with fail
  have k1 := set_five H25.out (.func (Fn.func 39) #[] #[.pointer (some ⟨g, 0, none⟩)]) (.func (Fn.func 10) #[] #[]) (.func (Fn.func 37) #[] #[]) (.func (Fn.func 38) #[] #[]) (.func (Fn.func 9) #[] #[])
  obtain ⟨t0, t1, t2, t3, t4, -⟩ := own5 k1
  refine bodyPost_ret (v := .agg #[.func (Fn.func 39) #[] #[.pointer (some ⟨g, 0, none⟩)], .func (Fn.func 10) #[] #[], .func (Fn.func 37) #[] #[], .func (Fn.func 38) #[] #[], .func (Fn.func 9) #[] #[]]) (by simp [results, Tryz.results11, go_sem, t0, t1, t2, t3, t4]) rfl ⟨g, rfl, ?_, ?_, below_set5 HB5.out (Nat.le_refl _) _ _ _ _ _⟩
  · exact set_five_ne HG5.out (show w.heap.size ≠ g by have := HL.out; omega) _ _ _ _ _
  · have := HL.out; omega
/-- the kernel's rules -/
def kernRv (gK : Nat) : Cg.Rv where
  fr := 39
  cpt := #[.pointer (some ⟨gK, 0, none⟩)]
  vg := .func (Fn.func 9) #[] #[]
  fa := 10
  fm := 37
  ft := 38
  D := Kn.ops
  cfr := fun args W => by simp [go_sem]
  cfa := fun args W => by simp [go_sem]
  cfm := fun args W => by simp [go_sem]
  cft := fun args W => by simp [go_sem]
  agC := fun k kids A n c k' kids' A' n' c' w h1 h2 hS => same_any k kids A n c k' kids' A' n' c' w h1 h2 hS
  asC := fun Q kd a A n c w hkd hL hok _ => sparts_any Q kd a A n c w hkd hL hok
  mtC := fun Q a A n c b A' n' c' w h1 _ _ _ => smeet_any Q a A n c b A' n' c' w h1
  gC := fun _ => ⟨9, rfl, (fun args W => by simp [go_sem]), fun k kids A n c k' kids' A' n' c' w h1 h2 hS => agree_any k kids A n c k' kids' A' n' c' w h1 h2 hS⟩
namespace Kn
/-- what kernel.Type leaves -/
def TyPost (w : World) (r : Ck.R) (e : Ending) (w' : World) : Prop := match r with
  | .ok a => ∃ G m c, e = .returned (.tuple #[.agg #[.int .i8 a.1, .slice G m c], .int .i64 0]) ∧ Ck.Ly (fun b => w.heap.size ≤ b) w' a G m c ∧ Below w.heap.size w w'
  | .bad E _ _ => e = .returned (.tuple #[.agg #[.int .i8 0, .slice none 0 0], .int .i64 (num E)]) ∧ Below w.heap.size w w'
end Kn
end Go.Proofs.YteefhebdfeaojaaGreatDoor
namespace Go.Proofs.YteefhebdfeaojaaGreatDoor
open Go.RowKit
end Go.Proofs.YteefhebdfeaojaaGreatDoor
namespace Go.Proofs.YteefhebdfeaojaaGreatDoor
open Go.RowKit
set_option maxHeartbeats 2000000 in
set_option maxRecDepth 100000 in
theorem kind9_any (K : Nat) : ∀ (k : Int) (kids : Fo) (A : Option Addr) (n c : Nat) (k' : Int) (kids' : Fo) (A' : Option Addr) (n' c' : Nat) (w : World), Ty.nodes kids < K → Ty.Is w k kids A n c → Ty.Is w k' kids' A' n' c' →
    Calls Tryz.prog 7 #[.agg #[.int .i8 k, .slice A n c], .agg #[.int .i8 k', .slice A' n' c']] w fun e w' => e = .returned (.bool (Ty.eqT k kids k' kids')) ∧ Below w.heap.size w w' := by
  induction K with
  | zero => intro _ _ _ _ _ _ _ _ _ _ _ h; omega
  | succ K ih =>
    intro k kids A n c k' kids' A' n' c' w hK hIs hIs'
    have i5 : (n : Int) ≤ 9223372036854775807 := by have h1 := hIs.n_le; have h2 := hIs.c_le; unfold maxLen at h2; omega
    obtain ⟨hB0, hR0, hR1⟩ := two_boxes w k A n c k' A' n' c'
    have HI := Lib.hid hIs
    have HI' := Lib.hid hIs'
    have IH := Lib.hid ih
    clear ih hIs hIs'
    obtain ⟨b0, b1, _, _, hb0⟩ := own2 hR0
    obtain ⟨d0, d1, _, _, hd0⟩ := own2 hR1
    by_cases hkk : k = k'
    · by_cases hnn : n = n'
      · subst hkk
        subst hnn
        rw [show Ty.eqT k kids k kids' = Ty.eqF kids kids' by unfold Ty.eqT; simp]
        have hk2 : (k != k) = false := by simp
        obtain ⟨R, hR⟩ : ∃ R, Ty.eqF kids kids' = R := ⟨_, rfl⟩
        rw [hR]
        have HR := Lib.hid hR
        have hlies2 := HI'.out.lies.below hB0
        have hst := Over.start (HI.out.lies.below hB0) HI.out.n_eq
        have hst2 : Over2 w _ A' n 0 kids' := ⟨by have := HI'.out.n_eq; omega, hlies2⟩
        have hn2 : ((n : Int) != (n : Int)) = false := by simp
        clear hR0 hR1 hR hlies2
        generalize hw1 : (w.alloc (.cells #[.int .i8 k, .slice A n c] 25)).alloc (.cells #[.int .i8 k, .slice A' n c'] 25) = w1 at *
        have HS := Lib.hid hst
        have HS2 := Lib.hid hst2
        have HW := Lib.hid hw1
        clear hst hst2 hw1
        go_enter Tryz.func7, Tryz.ntmps7
        go_wp2_with fail
        rw [HW.out]
        go_wp2_with fail
        go_loopw [23] (fun v23 wr => ∃ (i : Nat) (r1 r2 : Fo), v23 = .int .i64 i ∧ Over w1 wr A n (Ty.nodes kids) i r1 ∧ Over2 w wr A' n i r2 ∧ Ty.eqF r1 r2 = R) (fun v _ => n - (intOf v).toNat)
        case atStart => exact ⟨0, kids, kids', rfl, HS.out, HS2.out, HR.out⟩
        case round =>
          obtain ⟨i, r1, r2, rfl, hO, hO2, hRR⟩ := hrel
          have hbB := hB0.trans (hO.below.mono hB0.size)
          obtain ⟨e0, e1⟩ := hO.box b0 b1
          obtain ⟨g0, g1⟩ := hO.box d0 d1
          clear b0 b1 d0 d1
          cases r1 with
          | nil =>
            have hi : i = n := by have := hO.i_eq; simpa [Ty.len] using this
            have hr2 : r2 = .nil := by
              have := hO2.i_eq
              cases r2 with
              | nil => rfl
              | node _ _ _ _ _ => simp only [Ty.len] at this; omega
            subst hr2
            clear hO hO2
            simp only [Ty.eqF] at hRR
            subst hi
            subst hRR
            go_wp2_with fail
            go_ret
            exact ⟨rfl, hbB⟩
          | node a b kk kks r =>
            cases r2 with
            | nil => have q1 := hO.i_eq; have q2 := hO2.i_eq; simp only [Ty.len] at q1 q2; omega
            | node a2 b2 kk2 kks2 s =>
            have hst := fun w2 hb => Over.step (w2 := w2) hO hb
            have h1 := hO.i_eq
            have h2 := hO.lies
            have h3 := hO.sub
            have q1 := hO2.i_eq
            have q2 := hO2.lies
            simp only [Ty.len, Ty.nodes, Ty.eqF] at h1 h3 hRR q1
            obtain ⟨bb, oo, B, c9, rfl, ⟨hk1, hk2'⟩, c1', c2', hl1, hl2, hl3, hl4⟩ := h2
            obtain ⟨bb2, oo2, B2, c3, rfl, ⟨gk1, gk2⟩, x1, x2, gl1, gl2, gl3, gl4⟩ := q2
            have hcall := fun (W : World) (hb : Below wr.heap.size wr W) => IH.out kk kks B (Ty.len kks) c9 kk2 kks2 B2 (Ty.len kks2) c3 W (by omega) ⟨hl3.below hb, rfl, hl1, hl2, hk1, hk2'⟩ ⟨gl3.below hb, rfl, gl1, gl2, gk1, gk2⟩
            have HST := Lib.hid hst
            have HL := Lib.hid hl4
            have HL2 := Lib.hid gl4
            have HC := Lib.hid hcall
            have HRR := Lib.hid hRR
            have j1 : (i : Int) < n := by omega
            have j2 : (0 : Int) ≤ i ∧ (i : Int) < n := by omega
            have hBd := Lib.hid (below_drewN (Below.refl wr.heap.size wr) 1)
            clear hst hl3 hl4 gl3 gl4 hcall hO hO2 hRR
            cases hp : Ty.eqT kk kks kk2 kks2
            · have hp0 : R = false := by rw [← HRR.out]; unfold Ty.eqT at hp; rw [hp]; rfl
              rw [hp] at HC
              subst hp0
              clear hp
              go_wp2_with fail
              go_still_tail 10, (by kernel_rfl)
              change wpList _ _ _ _ _ (wr.drewN 1)
              have hbB1 := hbB.trans (hBd.out.mono hbB.size)
              have hsz : (wr.drewN 1).heap.size = wr.heap.size := rfl
              clear e0 e1 g0 g1 c1' c2' x1 x2
              generalize wr.drewN 1 = w2 at *
              go_wp2_with fail
              refine (HC.out _ hBd.out).mono ?_
              rintro e w3 ⟨rfl, hb⟩
              go_wp2_with fail
              go_ret
              exact ⟨rfl, hbB1.trans (hb.mono hbB1.size)⟩
            · have hp0 := HRR.out
              unfold Ty.eqT at hp
              rw [hp, Bool.true_and] at hp0
              have HP := Lib.hid hp0
              rw [show Ty.eqT kk kks kk2 kks2 = true from hp] at HC
              clear hp hp0
              go_wp2_with fail
              go_still_tail 10, (by kernel_rfl)
              change wpList _ _ _ _ _ (wr.drewN 1)
              have hsz : (wr.drewN 1).heap.size = wr.heap.size := rfl
              clear e0 e1 g0 g1 c1' c2' x1 x2
              generalize wr.drewN 1 = w2 at *
              go_wp2_with fail
              refine (HC.out _ hBd.out).mono ?_
              rintro e w3 ⟨rfl, hb⟩
              have hB2 : Below wr.heap.size wr w3 := hBd.out.trans (hb.mono (by omega))
              have hbb := Lib.hid (HST.out w3 hB2 HL.out)
              have hbb2 : Hid (Over2 w w3 (some ⟨bb2, oo2, none⟩) n (i + 1) s) := Lib.hid ⟨by omega, HL2.out.below hB2⟩
              clear hb hB2 hsz
              go_wp2_with fail
              go_roundw
              case rel => exact ⟨i + 1, r, s, by go_num, hbb.out, hbb2.out, HP.out⟩
              case measure => simp [intOf]; omega
      · subst hkk
        have hl : Ty.len kids ≠ Ty.len kids' := by have h1 := HI.out.n_eq; have h2 := HI'.out.n_eq; omega
        rw [show Ty.eqT k kids k kids' = false by unfold Ty.eqT; simp [Ty.eqF_ne _ _ hl]]
        have hk2 : (k != k) = false := by simp
        have hn2 : ((n : Int) != (n' : Int)) = true := by simp; omega
        clear hl hR0 hR1
        go_enter Tryz.func7, Tryz.ntmps7
        go_wp2_with fail
        go_ret
        exact ⟨rfl, hB0⟩
    · rw [show Ty.eqT k kids k' kids' = false by unfold Ty.eqT; simp [hkk]]
      have hk2 : (k != k') = true := by simpa using hkk
      clear hkk hR0 hR1
      go_enter Tryz.func7, Tryz.ntmps7
      go_wp2_with fail
      go_ret
      exact ⟨rfl, hB0⟩


namespace Ck
end Ck
end Go.Proofs.YteefhebdfeaojaaGreatDoor
