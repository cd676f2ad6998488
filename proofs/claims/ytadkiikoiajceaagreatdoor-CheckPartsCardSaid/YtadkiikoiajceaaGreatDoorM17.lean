/-
  Layer 9: typeOf, tell and Type, whole. Layer 9: the law's Kind; its tooGreat; what Type leaves, as the law reads it. P9.5: pairs of closed terms. The law's walk.
-/
import Derived.Test.YtadkiikoiajceaaGreatDoorCk22
import Derived.Test.YtadkiikoiajceaaGreatDoorCk9
import Derived.Test.YtadkiikoiajceaaGreatDoorLow
import Derived.Deep.RegionHeld3
import Derived.Deep.DeepCutAuto
namespace Go.Proofs.YtadkiikoiajceaaGreatDoor
open Go.RowKit
namespace Ck
theorem kidat {wb : World} {h : Hd} {k r : Tm} {A : Option Addr} {i : Nat} (hl : Tm.Lies wb (.node h k r) A i) : ∃ b o q, A = some ⟨b, o, none⟩ ∧ KidAt wb b (o + i * 11) h q ∧ Tm.Is wb h k q ∧ Tm.Lies wb r A (i + 1) := by
  obtain ⟨b, o, q, hA, hc, hf, hk, hr⟩ := hl
  exact ⟨b, o, q, hA, fun j v hj => hc j v hj, ⟨hf, hk⟩, hr⟩
theorem leaf_ly (Q : Nat → Prop) (w : World) (k : Int) (hk : -128 ≤ k ∧ k ≤ 127) : Ly Q w (k, .nil) none 0 0 := fun u _ => leaf_is hk u
end Ck
theorem of_leaf (Q : Nat → Prop) (k : Int) (hk : -128 ≤ k ∧ k ≤ 127) (w : World) : Calls Tryz.prog 60 #[.int .i8 k, .slice none 0 0] w (Ck.Post Q w (.ok (k, .nil))) :=
  (ckof_any k none 0 0 w).mono fun _ _ ⟨he, hb⟩ => ⟨none, 0, 0, he, Ck.leaf_ly _ _ k hk, hb⟩

theorem cktype_any (K : Nat) (Q : Nat → Prop) (h : Hd) (kids : Tm) (p : Pl) (l : Ck.Env) (A : Option Addr) (n c : Nat) (wb w : World) (hIs : Tm.Is wb h kids p) (hwb : Below wb.heap.size wb w) (hQ : ∀ b, b < wb.heap.size → Q b) (hS : Shapes w) (hE : Ck.EAt Q w l A n c)
    (ho : Tm.okT h kids = true) (hc : Ck.castT h kids = false) (hb : l.length + 2 * (Tm.nodes kids + 1) ≤ 20000)
    (IH : ∀ (h1 : Hd) (k1 : Tm) (q : Pl), Tm.nodes k1 < Tm.nodes kids → Tm.Is wb h1 k1 q → Tm.okT h1 k1 = true → Ck.castT h1 k1 = false → Ck.TellsOf K wb h1 k1 q) :
    Calls Tryz.prog 33 #[.agg #[.func (Fn.func 16) #[] #[], .func (Fn.func 17) #[] #[]], .agg #[.int .i8 h.kind, .string h.name, .string h.arg, .int .i64 h.num, .int .i8 h.tk, .slice p.TA p.tn p.tc, .int .i8 h.uk, .slice p.UA p.un p.uc, .int .i64 h.label, .int .i64 h.pos, .slice p.A p.n p.c], .slice A n c] w (Ck.Post Q w (Ck.raw (Ck.ty K) h kids l)) := by
  by_cases hov : Ck.isOver h.kind
  · exact cktype_over K Q h kids p l A n c wb w hIs hwb hQ hS hE ho hc hov hb IH
  obtain ⟨hik, hlen, hokF⟩ := Ck.okT_parts ho
  obtain ⟨h17, hcF⟩ := Ck.castT_parts hc
  have hkk : h.kind = 0 ∨ h.kind = 1 ∨ h.kind = 2 ∨ h.kind = 3 ∨ h.kind = 4 ∨ h.kind = 5 ∨ h.kind = 7 ∨ h.kind = 14 := by
    simp only [Tm.isKind, decide_eq_true_eq] at hik
    unfold Ck.isOver at hov
    omega
  have hQ1 : ∀ w1 : World, Below w.heap.size w w1 → ∀ b, b < wb.heap.size → Ck.Cut Q w.heap.size (w.heap.size + 3) b := fun w1 _ b hb => .inl ⟨hQ b hb, Nat.lt_of_lt_of_le hb hwb.size⟩
  have hE1 : ∀ w1 : World, Below w.heap.size w w1 → Ck.EAt (Ck.Cut Q w.heap.size (w.heap.size + 3)) w1 l A n c := fun w1 hb1 => (hE.weak (fun b hb hq => .inl ⟨hq, hb⟩)).below hb1
  rcases hkk with hk | hk | hk | hk | hk | hk | hk | hk
  · rw [Ck.raw_0 _ _ _ _ hk]
    exact cktype_var Q h p A n c w _ hk fun w1 hb1 _ => cknamed_any _ h p l A n c w1 (hE1 w1 hb1) hIs.fit.nm
  · rw [Ck.raw_1 _ _ _ _ hk]
    exact cktype_num Q h p A n c w _ hk fun w1 _ _ => of_leaf _ 1 (by decide) w1
  · rw [Ck.raw_2 _ _ _ _ hk]
    exact cktype_yes Q h p A n c w _ hk fun w1 _ _ => of_leaf _ 2 (by decide) w1
  · rw [Ck.raw_3 _ _ _ _ hk]
    exact cktype_no Q h p A n c w _ hk fun w1 _ _ => of_leaf _ 2 (by decide) w1
  · rw [hk] at hlen
    obtain ⟨h1, k1, rfl⟩ : ∃ h1 k1, kids = .node h1 k1 .nil := by
      match kids, hlen with
      | .node h1 k1 .nil, _ => exact ⟨h1, k1, rfl⟩
      | .node _ _ (.node _ _ _), e => simp [Tm.len, Tm.kidsN] at e
      | .nil, e => simp [Tm.len, Tm.kidsN] at e
    rw [Ck.raw_4 _ _ _ _ hk]
    obtain ⟨b, o, q, hA, g1, i1, -⟩ := Ck.kidat hIs.lies
    have hn : p.n = 1 := hIs.fit.n_eq
    have hT := hIs.fit.ty
    have hU := hIs.fit.to
    have ok1 := Ck.okF_node' hokF
    simp only [Ck.castF, Bool.or_eq_false_iff] at hcF
    simp only [Tm.nodes] at hb
    have T1 := IH h1 k1 q (by simp only [Tm.nodes]; omega) i1 ok1.1 (by unfold Ck.castT; rw [hcF.1.1, hcF.1.2]; rfl)
    obtain ⟨TA, tn, tc, UA, un, uc, pA, pn, pc⟩ := p
    dsimp only at hA hn hT hU
    subst hA hn
    exact cklam_told K Q h h1 k1 q TA UA tn tc un uc b o pc l A n c wb w hT hU (by simpa using g1) hwb hQ hS hE hk (by omega) T1
  · rw [hk] at hlen
    obtain ⟨h1, k1, rfl⟩ : ∃ h1 k1, kids = .node h1 k1 .nil := by
      match kids, hlen with
      | .node h1 k1 .nil, _ => exact ⟨h1, k1, rfl⟩
      | .node _ _ (.node _ _ _), e => simp [Tm.len, Tm.kidsN] at e
      | .nil, e => simp [Tm.len, Tm.kidsN] at e
    rw [Ck.raw_5 _ _ _ _ hk]
    obtain ⟨b, o, q, hA, g1, i1, -⟩ := Ck.kidat hIs.lies
    have hn : p.n = 1 := hIs.fit.n_eq
    have hT := hIs.fit.ty
    have hU := hIs.fit.to
    have ok1 := Ck.okF_node' hokF
    simp only [Ck.castF, Bool.or_eq_false_iff] at hcF
    simp only [Tm.nodes] at hb
    have T1 := IH h1 k1 q (by simp only [Tm.nodes]; omega) i1 ok1.1 (by unfold Ck.castT; rw [hcF.1.1, hcF.1.2]; rfl)
    obtain ⟨TA, tn, tc, UA, un, uc, pA, pn, pc⟩ := p
    dsimp only at hA hn hT hU
    subst hA hn
    exact cktype_rec Q h _ A n c w _ hk fun w1 hb1 _ => ckrec_told K _ h h1 k1 q TA UA tn tc un uc b o pc l A n c wb w1 hT hU (by simpa using g1) (hwb.trans (hb1.mono hwb.size)) (hQ1 w1 hb1) (hS.below hb1) (hE1 w1 hb1) (by omega) T1
  · rw [hk] at hlen
    obtain ⟨h1, k1, h2, k2, rfl⟩ : ∃ h1 k1 h2 k2, kids = .node h1 k1 (.node h2 k2 .nil) := by
      match kids, hlen with
      | .node h1 k1 (.node h2 k2 .nil), _ => exact ⟨h1, k1, h2, k2, rfl⟩
      | .node _ _ (.node _ _ (.node _ _ _)), e => simp [Tm.len, Tm.kidsN] at e
      | .node _ _ .nil, e => simp [Tm.len, Tm.kidsN] at e
      | .nil, e => simp [Tm.len, Tm.kidsN] at e
    rw [Ck.raw_7 _ _ _ _ hk]
    obtain ⟨b, o, q, hA, g1, i1, l2⟩ := Ck.kidat hIs.lies
    obtain ⟨b', o', q2, hA2, g2, i2, -⟩ := Ck.kidat l2
    have hn : p.n = 2 := hIs.fit.n_eq
    have hT := hIs.fit.ty
    have hU := hIs.fit.to
    have ok1 := Ck.okF_node' hokF
    have ok2 := Ck.okF_node' ok1.2
    simp only [Ck.castF, Bool.or_eq_false_iff] at hcF
    simp only [Tm.nodes] at hb
    have T1 := IH h1 k1 q (by simp only [Tm.nodes]; omega) i1 ok1.1 (by unfold Ck.castT; rw [hcF.1.1, hcF.1.2]; rfl)
    have T2 := IH h2 k2 q2 (by simp only [Tm.nodes]; omega) i2 ok2.1 (by unfold Ck.castT; rw [hcF.2.1.1, hcF.2.1.2]; rfl)
    obtain ⟨TA, tn, tc, UA, un, uc, pA, pn, pc⟩ := p
    dsimp only at hA hA2 hn hT hU
    subst hA hn
    injection hA2 with hA2
    injection hA2 with e1 e2
    subst e1 e2
    exact cktype_let Q h _ A n c w _ hk fun w1 hb1 _ => cklet_told K _ h h1 h2 k1 k2 q q2 TA UA tn tc un uc b o pc l A n c wb w1 hT hU (by simpa using g1) (by simpa using g2) (hwb.trans (hb1.mono hwb.size)) (hQ1 w1 hb1) (hS.below hb1) (hE1 w1 hb1) (by omega) (by omega) T1 T2
  · rw [hk] at hlen
    obtain ⟨h1, k1, h2, k2, h3, k3, rfl⟩ : ∃ h1 k1 h2 k2 h3 k3, kids = .node h1 k1 (.node h2 k2 (.node h3 k3 .nil)) := by
      match kids, hlen with
      | .node h1 k1 (.node h2 k2 (.node h3 k3 .nil)), _ => exact ⟨h1, k1, h2, k2, h3, k3, rfl⟩
      | .node _ _ (.node _ _ (.node _ _ (.node _ _ _))), e => simp [Tm.len, Tm.kidsN] at e
      | .node _ _ (.node _ _ .nil), e => simp [Tm.len, Tm.kidsN] at e
      | .node _ _ .nil, e => simp [Tm.len, Tm.kidsN] at e
      | .nil, e => simp [Tm.len, Tm.kidsN] at e
    rw [Ck.raw_14 _ _ _ _ hk]
    obtain ⟨b, o, q, hA, g1, i1, l2⟩ := Ck.kidat hIs.lies
    obtain ⟨b', o', q2, hA2, g2, i2, l3⟩ := Ck.kidat l2
    obtain ⟨b2, o2, q3, hA3, g3, i3, -⟩ := Ck.kidat l3
    have hn : p.n = 3 := hIs.fit.n_eq
    have hT := hIs.fit.ty
    have hU := hIs.fit.to
    have ok1 := Ck.okF_node' hokF
    have ok2 := Ck.okF_node' ok1.2
    have ok3 := Ck.okF_node' ok2.2
    simp only [Ck.castF, Bool.or_eq_false_iff] at hcF
    simp only [Tm.nodes] at hb
    have T1 := IH h1 k1 q (by simp only [Tm.nodes]; omega) i1 ok1.1 (by unfold Ck.castT; rw [hcF.1.1, hcF.1.2]; rfl)
    have T2 := IH h2 k2 q2 (by simp only [Tm.nodes]; omega) i2 ok2.1 (by unfold Ck.castT; rw [hcF.2.1.1, hcF.2.1.2]; rfl)
    have T3 := IH h3 k3 q3 (by simp only [Tm.nodes]; omega) i3 ok3.1 (by unfold Ck.castT; rw [hcF.2.2.1.1, hcF.2.2.1.2]; rfl)
    obtain ⟨TA, tn, tc, UA, un, uc, pA, pn, pc⟩ := p
    dsimp only at hA hA2 hA3 hn hT hU
    subst hA hn
    injection hA2 with hA2
    injection hA2 with e1 e2
    subst e1 e2
    injection hA3 with hA3
    injection hA3 with e1 e2
    subst e1 e2
    exact cktype_case Q h _ A n c w _ hk fun w1 hb1 _ => ckbranches_told K _ h h1 h2 h3 k1 k2 k3 q q2 q3 TA UA tn tc un uc b o pc l A n c wb w1 hT hU (by simpa using g1) (by simpa using g2) (by simpa using g3) (hwb.trans (hb1.mono hwb.size)) (hQ1 w1 hb1) (hS.below hb1) (hE1 w1 hb1) (by omega) (by omega) (by omega) T1 T2 T3
/-- what the rules tell of a right term without casts -/
theorem cktell_any (K : Nat) : ∀ (h : Hd) (kids : Tm) (p : Pl) (wb : World), Tm.nodes kids < K → Tm.Is wb h kids p → Tm.okT h kids = true → Ck.castT h kids = false → Ck.TellsOf K wb h kids p := by
  induction K with
  | zero => intro _ _ _ _ hK; omega
  | succ K ih =>
    intro h kids p wb hK hIs ho hc Q l A n c W hwb hQ hS hE hlen
    rw [Ck.ty_succ]
    refine cktell_of Q h p A n c W _ hS fun w1 hb1 hz => ?_
    exact cktype_any K _ h kids p l A n c wb w1 hIs (hwb.trans (hb1.mono hwb.size)) (fun b hb => .inl ⟨hQ b hb, Nat.lt_of_lt_of_le hb hwb.size⟩) (hS.below hb1) ((hE.weak (fun b hb hq => .inl ⟨hq, hb⟩)).below hb1) ho hc hlen
      (fun h1 k1 q hlt hIs1 ho1 hc1 => ih h1 k1 q wb (by omega) hIs1 ho1 hc1)
/-- check.Type -/
theorem ckType_any (h : Hd) (kids : Tm) (p : Pl) (w : World) (hIs : Tm.Is w h kids p) (hG : TGlob w) :
    Calls Tryz.prog 6 #[.agg #[.int .i8 h.kind, .string h.name, .string h.arg, .int .i64 h.num, .int .i8 h.tk, .slice p.TA p.tn p.tc, .int .i8 h.uk, .slice p.UA p.un p.uc, .int .i64 h.label, .int .i64 h.pos, .slice p.A p.n p.c]] w (Ck.TyPost w (Ck.tell h kids)) := by
  by_cases h0 : Tm.chk h kids = 0
  · cases hc : Ck.castT h kids
    · have hr : Ck.refu h kids = 0 := by unfold Ck.refu; rw [if_neg (by simpa using h0), if_neg (by rw [hc]; decide)]
      obtain ⟨hnd, -, hok⟩ := Ck.chk_parts h0
      rw [Ck.tell_eq h0 hc]
      refine cktype_told h kids p w _ hIs hG hr (fun a e => Ck.ty_ok e) fun W hb => ?_
      exact cktell_any (Tm.nodes kids + 1) h kids p w (Nat.lt_succ_self _) hIs hok hc (fun b => b < w.heap.size) [] none 0 0 W hb (fun _ h => h) (hG.below hb).types (Ck.EAt.empty _ _) (by unfold Tm.nd at hnd; simp only [List.length_nil]; omega)
    · have hr : Ck.refu h kids = 30 := by unfold Ck.refu; rw [if_neg (by simpa using h0), if_pos hc]
      have ht : Ck.tell h kids = .bad (Ck.refu h kids) 0 Ck.e0 := by unfold Ck.tell; rw [if_neg (by omega), if_pos hc, hr]
      rw [ht]
      exact cktype_refused h kids p w hIs hG (by rw [hr]; decide)
  · have hr : Ck.refu h kids = Tm.chk h kids := by unfold Ck.refu; rw [if_pos (by simpa using h0)]
    have ht : Ck.tell h kids = .bad (Ck.refu h kids) 0 Ck.e0 := by unfold Ck.tell; rw [if_pos h0, hr]
    rw [ht]
    exact cktype_refused h kids p w hIs hG (by rw [hr]; omega)
end Go.Proofs.YtadkiikoiajceaaGreatDoor
namespace Go.Proofs.YtadkiikoiajceaaGreatDoor
open Go.RowKit
set_option maxHeartbeats 2000000 in
set_option maxRecDepth 100000 in
theorem kind9_any (K : Nat) : ∀ (k : Int) (kids : Fo) (A : Option Addr) (n c : Nat) (k' : Int) (kids' : Fo) (A' : Option Addr) (n' c' : Nat) (w : World), Ty.nodes kids < K → Ty.Is w k kids A n c → Ty.Is w k' kids' A' n' c' →
    Calls Tryz.prog 9 #[.agg #[.int .i8 k, .slice A n c], .agg #[.int .i8 k', .slice A' n' c']] w fun e w' => e = .returned (.bool (Ty.eqT k kids k' kids')) ∧ Below w.heap.size w w' := by
  induction K with
  | zero => intro _ _ _ _ _ _ _ _ _ _ _ h; omega
  | succ K ih =>
    intro k kids A n c k' kids' A' n' c' w hK hIs hIs'
    have i5 : (n : Int) ≤ 9223372036854775807 := by have h1 := hIs.n_le; have h2 := hIs.c_le; unfold maxLen at h2; omega
    obtain ⟨hB0, hR0, hR1⟩ := two_boxes w k A n c k' A' n' c'
    have HI := Lib.hid hIs
    have HI' := Lib.hid hIs'
    have IH := Lib.hid ih
    clear ih hIs hIs'
    obtain ⟨b0, b1, _, _, hb0⟩ := own2 hR0
    obtain ⟨d0, d1, _, _, hd0⟩ := own2 hR1
    by_cases hkk : k = k'
    · by_cases hnn : n = n'
      · subst hkk
        subst hnn
        rw [show Ty.eqT k kids k kids' = Ty.eqF kids kids' by unfold Ty.eqT; simp]
        have hk2 : (k != k) = false := by simp
        obtain ⟨R, hR⟩ : ∃ R, Ty.eqF kids kids' = R := ⟨_, rfl⟩
        rw [hR]
        have HR := Lib.hid hR
        have hlies2 := HI'.out.lies.below hB0
        have hst := Over.start (HI.out.lies.below hB0) HI.out.n_eq
        have hst2 : Over2 w _ A' n 0 kids' := ⟨by have := HI'.out.n_eq; omega, hlies2⟩
        have hn2 : ((n : Int) != (n : Int)) = false := by simp
        clear hR0 hR1 hR hlies2
        generalize hw1 : (w.alloc (.cells #[.int .i8 k, .slice A n c] 25)).alloc (.cells #[.int .i8 k, .slice A' n c'] 25) = w1 at *
        have HS := Lib.hid hst
        have HS2 := Lib.hid hst2
        have HW := Lib.hid hw1
        clear hst hst2 hw1
        go_enter Tryz.func9, Tryz.ntmps9
        go_wp2_with fail
        rw [HW.out]
        go_wp2_with fail
        go_loopw [23] (fun v23 wr => ∃ (i : Nat) (r1 r2 : Fo), v23 = .int .i64 i ∧ Over w1 wr A n (Ty.nodes kids) i r1 ∧ Over2 w wr A' n i r2 ∧ Ty.eqF r1 r2 = R) (fun v _ => n - (intOf v).toNat)
        case atStart => exact ⟨0, kids, kids', rfl, HS.out, HS2.out, HR.out⟩
        case round =>
          obtain ⟨i, r1, r2, rfl, hO, hO2, hRR⟩ := hrel
          have hbB := hB0.trans (hO.below.mono hB0.size)
          obtain ⟨e0, e1⟩ := hO.box b0 b1
          obtain ⟨g0, g1⟩ := hO.box d0 d1
          clear b0 b1 d0 d1
          cases r1 with
          | nil =>
            have hi : i = n := by have := hO.i_eq; simpa [Ty.len] using this
            have hr2 : r2 = .nil := by
              have := hO2.i_eq
              cases r2 with
              | nil => rfl
              | node _ _ _ _ _ => simp only [Ty.len] at this; omega
            subst hr2
            clear hO hO2
            simp only [Ty.eqF] at hRR
            subst hi
            subst hRR
            go_wp2_with fail
            go_ret
            exact ⟨rfl, hbB⟩
          | node a b kk kks r =>
            cases r2 with
            | nil => have q1 := hO.i_eq; have q2 := hO2.i_eq; simp only [Ty.len] at q1 q2; omega
            | node a2 b2 kk2 kks2 s =>
            have hst := fun w2 hb => Over.step (w2 := w2) hO hb
            have h1 := hO.i_eq
            have h2 := hO.lies
            have h3 := hO.sub
            have q1 := hO2.i_eq
            have q2 := hO2.lies
            simp only [Ty.len, Ty.nodes, Ty.eqF] at h1 h3 hRR q1
            obtain ⟨bb, oo, B, c9, rfl, ⟨hk1, hk2'⟩, c1', c2', hl1, hl2, hl3, hl4⟩ := h2
            obtain ⟨bb2, oo2, B2, c3, rfl, ⟨gk1, gk2⟩, x1, x2, gl1, gl2, gl3, gl4⟩ := q2
            have hcall := fun (W : World) (hb : Below wr.heap.size wr W) => IH.out kk kks B (Ty.len kks) c9 kk2 kks2 B2 (Ty.len kks2) c3 W (by omega) ⟨hl3.below hb, rfl, hl1, hl2, hk1, hk2'⟩ ⟨gl3.below hb, rfl, gl1, gl2, gk1, gk2⟩
            have HST := Lib.hid hst
            have HL := Lib.hid hl4
            have HL2 := Lib.hid gl4
            have HC := Lib.hid hcall
            have HRR := Lib.hid hRR
            have j1 : (i : Int) < n := by omega
            have j2 : (0 : Int) ≤ i ∧ (i : Int) < n := by omega
            have hBd := Lib.hid (below_drewN (Below.refl wr.heap.size wr) 1)
            clear hst hl3 hl4 gl3 gl4 hcall hO hO2 hRR
            cases hp : Ty.eqT kk kks kk2 kks2
            · have hp0 : R = false := by rw [← HRR.out]; unfold Ty.eqT at hp; rw [hp]; rfl
              rw [hp] at HC
              subst hp0
              clear hp
              go_wp2_with fail
              go_still_tail 10, (by kernel_rfl)
              change wpList _ _ _ _ _ (wr.drewN 1)
              have hbB1 := hbB.trans (hBd.out.mono hbB.size)
              have hsz : (wr.drewN 1).heap.size = wr.heap.size := rfl
              clear e0 e1 g0 g1 c1' c2' x1 x2
              generalize wr.drewN 1 = w2 at *
              go_wp2_with fail
              refine (HC.out _ hBd.out).mono ?_
              rintro e w3 ⟨rfl, hb⟩
              go_wp2_with fail
              go_ret
              exact ⟨rfl, hbB1.trans (hb.mono hbB1.size)⟩
            · have hp0 := HRR.out
              unfold Ty.eqT at hp
              rw [hp, Bool.true_and] at hp0
              have HP := Lib.hid hp0
              rw [show Ty.eqT kk kks kk2 kks2 = true from hp] at HC
              clear hp hp0
              go_wp2_with fail
              go_still_tail 10, (by kernel_rfl)
              change wpList _ _ _ _ _ (wr.drewN 1)
              have hsz : (wr.drewN 1).heap.size = wr.heap.size := rfl
              clear e0 e1 g0 g1 c1' c2' x1 x2
              generalize wr.drewN 1 = w2 at *
              go_wp2_with fail
              refine (HC.out _ hBd.out).mono ?_
              rintro e w3 ⟨rfl, hb⟩
              have hB2 : Below wr.heap.size wr w3 := hBd.out.trans (hb.mono (by omega))
              have hbb := Lib.hid (HST.out w3 hB2 HL.out)
              have hbb2 : Hid (Over2 w w3 (some ⟨bb2, oo2, none⟩) n (i + 1) s) := Lib.hid ⟨by omega, HL2.out.below hB2⟩
              clear hb hB2 hsz
              go_wp2_with fail
              go_roundw
              case rel => exact ⟨i + 1, r, s, by go_num, hbb.out, hbb2.out, HP.out⟩
              case measure => simp [intOf]; omega
      · subst hkk
        have hl : Ty.len kids ≠ Ty.len kids' := by have h1 := HI.out.n_eq; have h2 := HI'.out.n_eq; omega
        rw [show Ty.eqT k kids k kids' = false by unfold Ty.eqT; simp [Ty.eqF_ne _ _ hl]]
        have hk2 : (k != k) = false := by simp
        have hn2 : ((n : Int) != (n' : Int)) = true := by simp; omega
        clear hl hR0 hR1
        go_enter Tryz.func9, Tryz.ntmps9
        go_wp2_with fail
        go_ret
        exact ⟨rfl, hB0⟩
    · rw [show Ty.eqT k kids k' kids' = false by unfold Ty.eqT; simp [hkk]]
      have hk2 : (k != k') = true := by simpa using hkk
      clear hkk hR0 hR1
      go_enter Tryz.func9, Tryz.ntmps9
      go_wp2_with fail
      go_ret
      exact ⟨rfl, hB0⟩


theorem eNeqF (p : Option Addr) (w : World) : (binOp .neq 30 (.iface 48 (.pointer p)) .nilIface).run Tryz.prog w = .ok (.bool true) w := by kernel_rfl
theorem eNeqN (w : World) : (binOp .neq 30 .nilIface .nilIface).run Tryz.prog w = .ok (.bool false) w := by kernel_rfl
theorem eEqlF (p : Option Addr) (w : World) : (binOp .eql 30 (.iface 48 (.pointer p)) .nilIface).run Tryz.prog w = .ok (.bool false) w := by kernel_rfl
theorem eEqlN (w : World) : (binOp .eql 30 .nilIface .nilIface).run Tryz.prog w = .ok (.bool true) w := by kernel_rfl
namespace Ck
def badB : R → Bool
  | .ok _ => false
  | .bad _ _ _ => true
def tyOf : R → T2
  | .ok a => a
  | .bad _ _ _ => (0, .nil)
/-- an error's value, of which b says whether it is one -/
structure ErrV (v : Value) (b : Bool) : Prop where
  neq : ∀ w : World, (binOp .neq 30 v .nilIface).run Tryz.prog w = .ok (.bool b) w
  eql : ∀ w : World, (binOp .eql 30 v .nilIface).run Tryz.prog w = .ok (.bool !b) w
/-- what Type leaves -/
theorem TyPost.told {w w' : World} {r : R} {e : Ending} (h : TyPost w r e w') : ∃ G m c v, e = .returned (.tuple #[.agg #[.int .i8 (tyOf r).1, .slice G m c], v]) ∧ Ly (fun b => w.heap.size ≤ b) w' (tyOf r) G m c ∧ Below w.heap.size w w' ∧ ErrV v (badB r) := by
  cases r with
  | ok a =>
    obtain ⟨G, m, c, h1, h2, h3⟩ := h
    exact ⟨G, m, c, _, h1, h2, h3, eNeqN, eEqlN⟩
  | bad E p x =>
    obtain ⟨g, h1, -, -, h3⟩ := h
    exact ⟨none, 0, 0, _, h1, Ly.zero _ _, h3, eNeqF _, eEqlF _⟩
theorem badB_iff {r : R} : badB r = true ↔ isBad r := by cases r <;> simp [badB, isBad]
/-- a pair of terms that a block holds -/
theorem two_is {w : World} {X : Nat} {h h' : Hd} {k k' : Tm} {p p' : Pl} {ty : TypeId} (hX : w.heap[X]? = some (.cells #[.int .i8 h.kind, .string h.name, .string h.arg, .int .i64 h.num, .int .i8 h.tk, .slice p.TA p.tn p.tc, .int .i8 h.uk, .slice p.UA p.un p.uc, .int .i64 h.label, .int .i64 h.pos, .slice p.A p.n p.c, .int .i8 h'.kind, .string h'.name, .string h'.arg, .int .i64 h'.num, .int .i8 h'.tk, .slice p'.TA p'.tn p'.tc, .int .i8 h'.uk, .slice p'.UA p'.un p'.uc, .int .i64 h'.label, .int .i64 h'.pos, .slice p'.A p'.n p'.c] ty (0, 0)))
    (hI : Tm.Is w h k p) (hI' : Tm.Is w h' k' p') : Tm.Is w hd9 (two h k h' k') ⟨none, 0, 0, none, 0, 0, some ⟨X, 0, none⟩, 2, 2⟩ := by
  have hz : Ty.Is w 0 .nil none 0 0 := Ty.zero_is w
  refine ⟨⟨hz, hz, rfl, Nat.le_refl _, (show (2 : Nat) ≤ maxLen by decide), (show (-128 : Int) ≤ 9 by decide), (show (9 : Int) ≤ 127 by decide), (show (-9223372036854775808 : Int) ≤ 0 by decide), (show (0 : Int) ≤ 9223372036854775807 by decide), (show (0 : Nat) ≤ 281474976710656 by decide), (show (0 : Nat) ≤ 281474976710656 by decide)⟩, ?_⟩
  refine ⟨X, 0, p, rfl, fun j v hj => ?_, hI.fit, hI.lies, X, 0, p', rfl, fun j v hj => ?_, hI'.fit, hI'.lies, trivial⟩
  · have hlt : j < 11 := by
      rcases Nat.lt_or_ge j 11 with q | q
      · exact q
      · rw [List.getElem?_eq_none (by simpa using q)] at hj; cases hj
    refine cell_of_heap hX (0 + 0 * 11 + j) ?_
    rcases (by omega : j = 0 ∨ j = 1 ∨ j = 2 ∨ j = 3 ∨ j = 4 ∨ j = 5 ∨ j = 6 ∨ j = 7 ∨ j = 8 ∨ j = 9 ∨ j = 10) with rfl | rfl | rfl | rfl | rfl | rfl | rfl | rfl | rfl | rfl | rfl <;> exact hj
  · have hlt : j < 11 := by
      rcases Nat.lt_or_ge j 11 with q | q
      · exact q
      · rw [List.getElem?_eq_none (by simpa using q)] at hj; cases hj
    refine cell_of_heap hX (0 + (0 + 1) * 11 + j) ?_
    rcases (by omega : j = 0 ∨ j = 1 ∨ j = 2 ∨ j = 3 ∨ j = 4 ∨ j = 5 ∨ j = 6 ∨ j = 7 ∨ j = 8 ∨ j = 9 ∨ j = 10) with rfl | rfl | rfl | rfl | rfl | rfl | rfl | rfl | rfl | rfl | rfl <;> exact hj
end Ck
end Go.Proofs.YtadkiikoiajceaaGreatDoor
namespace Go.Proofs.YtadkiikoiajceaaGreatDoor
open Go.RowKit
set_option maxHeartbeats 2000000 in
set_option maxRecDepth 100000 in
theorem toogreat_any (h : Hd) (k : Tm) (p : Pl) (h' : Hd) (k' : Tm) (p' : Pl) (a : Ck.T2) (Ga : Option Addr) (ma ca : Nat) (b : Ck.T2) (Gb : Option Addr) (mb cb : Nat) (w : World) (hI : Tm.Is w h k p) (hI' : Tm.Is w h' k' p') (hG : TGlob w) (hA : Ck.Ly (fun b => b < w.heap.size) w a Ga ma ca) (hB : Ck.Ly (fun b => b < w.heap.size) w b Gb mb cb) :
    Calls Tryz.prog 13 #[.agg #[.int .i8 h.kind, .string h.name, .string h.arg, .int .i64 h.num, .int .i8 h.tk, .slice p.TA p.tn p.tc, .int .i8 h.uk, .slice p.UA p.un p.uc, .int .i64 h.label, .int .i64 h.pos, .slice p.A p.n p.c], .agg #[.int .i8 h'.kind, .string h'.name, .string h'.arg, .int .i64 h'.num, .int .i8 h'.tk, .slice p'.TA p'.tn p'.tc, .int .i8 h'.uk, .slice p'.UA p'.un p'.uc, .int .i64 h'.label, .int .i64 h'.pos, .slice p'.A p'.n p'.c], .agg #[.int .i8 a.1, .slice Ga ma ca], .agg #[.int .i8 b.1, .slice Gb mb cb]] w fun e w' => e = .returned (.bool (decide (Tm.chk Ck.hd9 (Ck.two h k h' k') ≠ 0 ∨ Ck.chk (Ck.mk2 4 a b) ≠ 0))) ∧ Below w.heap.size w w' := by
  have hb4 := below_n4 w (.cells #[.int .i8 h.kind, .string h.name, .string h.arg, .int .i64 h.num, .int .i8 h.tk, .slice p.TA p.tn p.tc, .int .i8 h.uk, .slice p.UA p.un p.uc, .int .i64 h.label, .int .i64 h.pos, .slice p.A p.n p.c] 28) (.cells #[.int .i8 h'.kind, .string h'.name, .string h'.arg, .int .i64 h'.num, .int .i8 h'.tk, .slice p'.TA p'.tn p'.tc, .int .i8 h'.uk, .slice p'.UA p'.un p'.uc, .int .i64 h'.label, .int .i64 h'.pos, .slice p'.A p'.n p'.c] 28) (.cells #[.int .i8 a.1, .slice Ga ma ca] 25) (.cells #[.int .i8 b.1, .slice Gb mb cb] 25)
  obtain ⟨x0, x1, x2, x3⟩ := heap_n4 w (.cells #[.int .i8 h.kind, .string h.name, .string h.arg, .int .i64 h.num, .int .i8 h.tk, .slice p.TA p.tn p.tc, .int .i8 h.uk, .slice p.UA p.un p.uc, .int .i64 h.label, .int .i64 h.pos, .slice p.A p.n p.c] 28) (.cells #[.int .i8 h'.kind, .string h'.name, .string h'.arg, .int .i64 h'.num, .int .i8 h'.tk, .slice p'.TA p'.tn p'.tc, .int .i8 h'.uk, .slice p'.UA p'.un p'.uc, .int .i64 h'.label, .int .i64 h'.pos, .slice p'.A p'.n p'.c] 28) (.cells #[.int .i8 a.1, .slice Ga ma ca] 25) (.cells #[.int .i8 b.1, .slice Gb mb cb] 25)
  generalize hw1 : (((w.alloc (.cells #[.int .i8 h.kind, .string h.name, .string h.arg, .int .i64 h.num, .int .i8 h.tk, .slice p.TA p.tn p.tc, .int .i8 h.uk, .slice p.UA p.un p.uc, .int .i64 h.label, .int .i64 h.pos, .slice p.A p.n p.c] 28)).alloc (.cells #[.int .i8 h'.kind, .string h'.name, .string h'.arg, .int .i64 h'.num, .int .i8 h'.tk, .slice p'.TA p'.tn p'.tc, .int .i8 h'.uk, .slice p'.UA p'.un p'.uc, .int .i64 h'.label, .int .i64 h'.pos, .slice p'.A p'.n p'.c] 28)).alloc (.cells #[.int .i8 a.1, .slice Ga ma ca] 25)).alloc (.cells #[.int .i8 b.1, .slice Gb mb cb] 25) = w1 at *
  have HW1 := Lib.hid hw1
  have HB1 := Lib.hid hb4
  have X0 := Lib.hid x0
  have X1 := Lib.hid x1
  have X2 := Lib.hid x2
  have X3 := Lib.hid x3
  have hr := below_n1 w1 (.cells #[.int .i8 h.kind, .string h.name, .string h.arg, .int .i64 h.num, .int .i8 h.tk, .slice p.TA p.tn p.tc, .int .i8 h.uk, .slice p.UA p.un p.uc, .int .i64 h.label, .int .i64 h.pos, .slice p.A p.n p.c, .int .i8 h'.kind, .string h'.name, .string h'.arg, .int .i64 h'.num, .int .i8 h'.tk, .slice p'.TA p'.tn p'.tc, .int .i8 h'.uk, .slice p'.UA p'.un p'.uc, .int .i64 h'.label, .int .i64 h'.pos, .slice p'.A p'.n p'.c] 28)
  have CT : Calls Tryz.prog 24 #[.agg #[.int .i8 9, .string ⟨#[]⟩, .string ⟨#[]⟩, .int .i64 0, .int .i8 0, .slice none 0 0, .int .i8 0, .slice none 0 0, .int .i64 0, .int .i64 0, .slice (some ⟨w1.heap.size, 0, none⟩) 2 2]] (w1.alloc (.cells #[.int .i8 h.kind, .string h.name, .string h.arg, .int .i64 h.num, .int .i8 h.tk, .slice p.TA p.tn p.tc, .int .i8 h.uk, .slice p.UA p.un p.uc, .int .i64 h.label, .int .i64 h.pos, .slice p.A p.n p.c, .int .i8 h'.kind, .string h'.name, .string h'.arg, .int .i64 h'.num, .int .i8 h'.tk, .slice p'.TA p'.tn p'.tc, .int .i8 h'.uk, .slice p'.UA p'.un p'.uc, .int .i64 h'.label, .int .i64 h'.pos, .slice p'.A p'.n p'.c] 28)) fun e w' => e = .returned (.int .i64 (Tm.chk Ck.hd9 (Ck.two h k h' k'))) ∧ Below (w1.alloc (.cells #[.int .i8 h.kind, .string h.name, .string h.arg, .int .i64 h.num, .int .i8 h.tk, .slice p.TA p.tn p.tc, .int .i8 h.uk, .slice p.UA p.un p.uc, .int .i64 h.label, .int .i64 h.pos, .slice p.A p.n p.c, .int .i8 h'.kind, .string h'.name, .string h'.arg, .int .i64 h'.num, .int .i8 h'.tk, .slice p'.TA p'.tn p'.tc, .int .i8 h'.uk, .slice p'.UA p'.un p'.uc, .int .i64 h'.label, .int .i64 h'.pos, .slice p'.A p'.n p'.c] 28)).heap.size (w1.alloc (.cells #[.int .i8 h.kind, .string h.name, .string h.arg, .int .i64 h.num, .int .i8 h.tk, .slice p.TA p.tn p.tc, .int .i8 h.uk, .slice p.UA p.un p.uc, .int .i64 h.label, .int .i64 h.pos, .slice p.A p.n p.c, .int .i8 h'.kind, .string h'.name, .string h'.arg, .int .i64 h'.num, .int .i8 h'.tk, .slice p'.TA p'.tn p'.tc, .int .i8 h'.uk, .slice p'.UA p'.un p'.uc, .int .i64 h'.label, .int .i64 h'.pos, .slice p'.A p'.n p'.c] 28)) w' :=
    tcheck_any Ck.hd9 (Ck.two h k h' k') (⟨none, 0, 0, none, 0, 0, some ⟨w1.heap.size, 0, none⟩, 2, 2⟩ : Pl) _ (Ck.two_is (heap_new w1 _) ((hI.below hb4).below hr) ((hI'.below hb4).below hr)) ((hG.below hb4).below hr)
  have HCT := Lib.hid CT
  have HR := Lib.hid hr
  have HG := Lib.hid (hG.below hb4)
  have HA := Lib.hid (hA.later hb4)
  have HB := Lib.hid (hB.later hb4)
  have HN1 := Lib.hid hb4.size
  clear hw1 hb4 x0 x1 x2 x3 hr CT hI hI' hG hA hB
  generalize Tm.chk Ck.hd9 (Ck.two h k h' k') = C at *
  obtain ⟨D, hD⟩ : ∃ D, Ck.chk (Ck.mk2 4 a b) = D := ⟨_, rfl⟩
  rw [hD]
  have HD := Lib.hid hD
  clear hD
  go_enter Tryz.func13, Tryz.ntmps13
  go_upto_region 1 with fail
  rw [HW1.out]
  obtain ⟨q0, q1, q2, q3, q4, q5, q6, q7, q8, q9, q10, ql⟩ := own11 X0.out
  obtain ⟨y0, y1, y2, y3, y4, y5, y6, y7, y8, y9, y10, yl⟩ := own11 X1.out
  by_cases h0 : C = 0
  · subst h0
    go_wp2_with fail
    refine HCT.out.mono ?_
    rintro e w2 ⟨rfl, hb2⟩
    have HB2 := Lib.hid (HR.out.trans (hb2.mono HR.out.size))
    clear hb2 q0 q1 q2 q3 q4 q5 q6 q7 q8 q9 q10 ql y0 y1 y2 y3 y4 y5 y6 y7 y8 y9 y10 yl
    obtain ⟨u0, u1, -, -, ul⟩ := own2 (heap_below HB2.out (heap_lt X2.out) X2.out)
    obtain ⟨v0, v1, -, -, vl⟩ := own2 (heap_below HB2.out (heap_lt X3.out) X3.out)
    have hr2 := below_n1 w2 (.cells #[.int .i8 a.1, .slice Ga ma ca, .int .i8 b.1, .slice Gb mb cb] 25)
    have CC : Calls Tryz.prog 27 #[.agg #[.int .i8 4, .slice (some ⟨w2.heap.size, 0, none⟩) 2 2]] (w2.alloc (.cells #[.int .i8 a.1, .slice Ga ma ca, .int .i8 b.1, .slice Gb mb cb] 25)) fun e w' => e = .returned (.int .i64 (Ck.chk (Ck.mk2 4 a b))) ∧ Below (w2.alloc (.cells #[.int .i8 a.1, .slice Ga ma ca, .int .i8 b.1, .slice Gb mb cb] 25)).heap.size (w2.alloc (.cells #[.int .i8 a.1, .slice Ga ma ca, .int .i8 b.1, .slice Gb mb cb] 25)) w' :=
      check_any 4 (Ck.mk2 4 a b).2 (some ⟨w2.heap.size, 0, none⟩) 2 2 _ (Ck.Ly.two (Q := fun _ => True) (a := a) (b := b) (heap_new w2 _) trivial (((HA.out.later HB2.out).later hr2).weak fun _ _ _ => trivial) (((HB.out.later HB2.out).later hr2).weak fun _ _ _ => trivial) 4 (by decide)).is ((HG.out.below HB2.out).below hr2).types
    rw [HD.out] at CC
    have HCC := Lib.hid CC
    have HR2 := Lib.hid (HB2.out.trans (hr2.mono HB2.out.size))
    clear CC hr2
    go_wp2_with fail
    refine HCC.out.mono ?_
    rintro e w3 ⟨rfl, hb3⟩
    have HB3 := Lib.hid (HR2.out.trans (hb3.mono HR2.out.size))
    clear hb3 u0 u1 ul v0 v1 vl
    by_cases h1 : D = 0
    · subst h1
      go_wp2_with fail
      go_ret
      exact ⟨by simp, HB1.out.trans (HB3.out.mono HB1.out.size)⟩
    · have hd : (((D : Nat) : Int) != 0) = true := by simp; omega
      go_wp2_with fail
      go_ret
      exact ⟨by simp [h1], HB1.out.trans (HB3.out.mono HB1.out.size)⟩
  · have hc : (((C : Nat) : Int) != 0) = true := by simp; omega
    go_wp2_with fail
    refine HCT.out.mono ?_
    rintro e w2 ⟨rfl, hb2⟩
    have HB2 := Lib.hid (HR.out.trans (hb2.mono HR.out.size))
    clear hb2 q0 q1 q2 q3 q4 q5 q6 q7 q8 q9 q10 ql y0 y1 y2 y3 y4 y5 y6 y7 y8 y9 y10 yl
    go_wp2_with fail
    go_ret
    exact ⟨by simp [h0], HB1.out.trans (HB2.out.mono HB1.out.size)⟩

set_option maxHeartbeats 4000000 in
set_option maxRecDepth 100000 in
theorem law_CheckParts (h : Hd) (k : Tm) (p : Pl) (h' : Hd) (k' : Tm) (p' : Pl) (w : World) (hI : Tm.Is w h k p) (hI' : Tm.Is w h' k' p') (hG : TGlob w) :
    Calls Tryz.prog 5 #[.agg #[.int .i8 h.kind, .string h.name, .string h.arg, .int .i64 h.num, .int .i8 h.tk, .slice p.TA p.tn p.tc, .int .i8 h.uk, .slice p.UA p.un p.uc, .int .i64 h.label, .int .i64 h.pos, .slice p.A p.n p.c], .agg #[.int .i8 h'.kind, .string h'.name, .string h'.arg, .int .i64 h'.num, .int .i8 h'.tk, .slice p'.TA p'.tn p'.tc, .int .i8 h'.uk, .slice p'.UA p'.un p'.uc, .int .i64 h'.label, .int .i64 h'.pos, .slice p'.A p'.n p'.c]] w fun e w' => e = .returned (.bool true) ∧ Below w.heap.size w w' := by
  have hb0 := below_n2 w (.cells #[.int .i8 h.kind, .string h.name, .string h.arg, .int .i64 h.num, .int .i8 h.tk, .slice p.TA p.tn p.tc, .int .i8 h.uk, .slice p.UA p.un p.uc, .int .i64 h.label, .int .i64 h.pos, .slice p.A p.n p.c] 28) (.cells #[.int .i8 h'.kind, .string h'.name, .string h'.arg, .int .i64 h'.num, .int .i8 h'.tk, .slice p'.TA p'.tn p'.tc, .int .i8 h'.uk, .slice p'.UA p'.un p'.uc, .int .i64 h'.label, .int .i64 h'.pos, .slice p'.A p'.n p'.c] 28)
  obtain ⟨x0, x1⟩ := heap_n2 w (.cells #[.int .i8 h.kind, .string h.name, .string h.arg, .int .i64 h.num, .int .i8 h.tk, .slice p.TA p.tn p.tc, .int .i8 h.uk, .slice p.UA p.un p.uc, .int .i64 h.label, .int .i64 h.pos, .slice p.A p.n p.c] 28) (.cells #[.int .i8 h'.kind, .string h'.name, .string h'.arg, .int .i64 h'.num, .int .i8 h'.tk, .slice p'.TA p'.tn p'.tc, .int .i8 h'.uk, .slice p'.UA p'.un p'.uc, .int .i64 h'.label, .int .i64 h'.pos, .slice p'.A p'.n p'.c] 28)
  generalize hw1 : (w.alloc (.cells #[.int .i8 h.kind, .string h.name, .string h.arg, .int .i64 h.num, .int .i8 h.tk, .slice p.TA p.tn p.tc, .int .i8 h.uk, .slice p.UA p.un p.uc, .int .i64 h.label, .int .i64 h.pos, .slice p.A p.n p.c] 28)).alloc (.cells #[.int .i8 h'.kind, .string h'.name, .string h'.arg, .int .i64 h'.num, .int .i8 h'.tk, .slice p'.TA p'.tn p'.tc, .int .i8 h'.uk, .slice p'.UA p'.un p'.uc, .int .i64 h'.label, .int .i64 h'.pos, .slice p'.A p'.n p'.c] 28) = w1 at *
  have HW1 := Lib.hid hw1
  have HB0 := Lib.hid hb0
  have X0 := Lib.hid x0
  have X1 := Lib.hid x1
  have HI := Lib.hid (hI.below hb0)
  have HI' := Lib.hid (hI'.below hb0)
  have HG := Lib.hid (hG.below hb0)
  have hTW := Ck.tell_two h k h' k'
  have CT1 := Lib.hid (fun (W : World) (hb : Below w1.heap.size w1 W) => (ckType_any h k p W (HI.out.below hb) (HG.out.below hb)))
  have CT2 := Lib.hid (fun (W : World) (hb : Below w1.heap.size w1 W) => (ckType_any h' k' p' W (HI'.out.below hb) (HG.out.below hb)))
  have CT3 : Hid (∀ (W : World) (_ : Below w1.heap.size w1 W), Calls Tryz.prog 6 #[.agg #[.int .i8 9, .string ⟨#[]⟩, .string ⟨#[]⟩, .int .i64 0, .int .i8 0, .slice none 0 0, .int .i8 0, .slice none 0 0, .int .i64 0, .int .i64 0, .slice (some ⟨W.heap.size, 0, none⟩) 2 2]] (W.alloc (.cells #[.int .i8 h.kind, .string h.name, .string h.arg, .int .i64 h.num, .int .i8 h.tk, .slice p.TA p.tn p.tc, .int .i8 h.uk, .slice p.UA p.un p.uc, .int .i64 h.label, .int .i64 h.pos, .slice p.A p.n p.c, .int .i8 h'.kind, .string h'.name, .string h'.arg, .int .i64 h'.num, .int .i8 h'.tk, .slice p'.TA p'.tn p'.tc, .int .i8 h'.uk, .slice p'.UA p'.un p'.uc, .int .i64 h'.label, .int .i64 h'.pos, .slice p'.A p'.n p'.c] 28)) (Ck.TyPost (W.alloc (.cells #[.int .i8 h.kind, .string h.name, .string h.arg, .int .i64 h.num, .int .i8 h.tk, .slice p.TA p.tn p.tc, .int .i8 h.uk, .slice p.UA p.un p.uc, .int .i64 h.label, .int .i64 h.pos, .slice p.A p.n p.c, .int .i8 h'.kind, .string h'.name, .string h'.arg, .int .i64 h'.num, .int .i8 h'.tk, .slice p'.TA p'.tn p'.tc, .int .i8 h'.uk, .slice p'.UA p'.un p'.uc, .int .i64 h'.label, .int .i64 h'.pos, .slice p'.A p'.n p'.c] 28)) (Ck.tell Ck.hd9 (Ck.two h k h' k')))) :=
    Lib.hid (fun W hb => ckType_any Ck.hd9 (Ck.two h k h' k') (⟨none, 0, 0, none, 0, 0, some ⟨W.heap.size, 0, none⟩, 2, 2⟩ : Pl) _ (Ck.two_is (heap_new W _) ((HI.out.below hb).below (below_n1 W _)) ((HI'.out.below hb).below (below_n1 W _))) ((HG.out.below hb).below (below_n1 W _)))
  have eF := eNeqF
  have eN := eNeqN
  have eF2 := eEqlF
  have eN2 := eEqlN
  have hcase : (∃ E q x E' q' x', Ck.tell h k = .bad E q x ∧ Ck.tell Ck.hd9 (Ck.two h k h' k') = .bad E' q' x') ∨ (∃ t1 E q x E' q' x', Ck.tell h k = .ok t1 ∧ Ck.tell h' k' = .bad E q x ∧ Ck.tell Ck.hd9 (Ck.two h k h' k') = .bad E' q' x') ∨ (∃ t1 t2 E' q' x', Ck.tell h k = .ok t1 ∧ Ck.tell h' k' = .ok t2 ∧ Ck.tell Ck.hd9 (Ck.two h k h' k') = .bad E' q' x' ∧ decide (Tm.chk Ck.hd9 (Ck.two h k h' k') ≠ 0 ∨ Ck.chk (Ck.mk2 4 t1 t2) ≠ 0) = true) ∨ (∃ t1 t2, Ck.tell h k = .ok t1 ∧ Ck.tell h' k' = .ok t2 ∧ Ck.tell Ck.hd9 (Ck.two h k h' k') = .ok (Ck.mk2 4 t1 t2)) := by
    rcases hTW with ⟨hbad, hwhy⟩ | ⟨a, b, e3, e1, e2⟩
    · cases e3 : Ck.tell Ck.hd9 (Ck.two h k h' k') with
      | ok a => rw [e3] at hbad; exact hbad.elim
      | bad E' q' x' =>
        cases e1 : Ck.tell h k with
        | bad E q x => exact .inl ⟨_, _, _, _, _, _, rfl, rfl⟩
        | ok t1 =>
          cases e2 : Ck.tell h' k' with
          | bad E q x => exact .inr (.inl ⟨_, _, _, _, _, _, _, rfl, rfl, rfl⟩)
          | ok t2 =>
            refine .inr (.inr (.inl ⟨_, _, _, _, _, rfl, rfl, rfl, decide_eq_true ?_⟩))
            rcases hwhy with q | q | q | ⟨a, b, q1, q2, q3⟩
            · rw [e1] at q; exact q.elim
            · rw [e2] at q; exact q.elim
            · exact .inl q
            · rw [e1] at q1; rw [e2] at q2
              injection q1 with q1; injection q2 with q2
              subst q1 q2
              exact .inr q3
    · exact .inr (.inr (.inr ⟨a, b, e1, e2, e3⟩))
  clear hw1 hb0 x0 x1 hI hI' hG hTW
  rcases hcase with ⟨E, q, x, E', q', x', e1, e3⟩ | ⟨t1, E, q, x, E', q', x', e1, e2, e3⟩ | ⟨t1, t2, E', q', x', e1, e2, e3, hdec⟩ | ⟨t1, t2, e1, e2, e3⟩
  · rw [e1] at CT1
    rw [e3] at CT3
    clear e1 e3
    cases e2 : Ck.tell h' k' with
    | bad E q x =>
      rw [e2] at CT2
      clear e2
      go_enter Tryz.func5, Tryz.ntmps5
      go_upto_region 1 with fail
      rw [HW1.out]
      obtain ⟨q0, q1, q2, q3, q4, q5, q6, q7, q8, q9, q10, ql⟩ := own11 X0.out
      go_wp2_with fail
      refine (CT1.out w1 (Below.refl _ _)).mono ?_
      rintro e u1 hp
      obtain ⟨g1, rfl, -, -, hb1⟩ := hp
      have hbb := below_n1 u1 (.cells #[.int .i8 0, .slice none 0 0] 25)
      have HX1 := Lib.hid (heap_new u1 (.cells #[.int .i8 0, .slice none 0 0] 25))
      have HB1 := Lib.hid (hb1.trans (hbb.mono hb1.size))
      clear hb1 hbb q0 q1 q2 q3 q4 q5 q6 q7 q8 q9 q10 ql
      go_upto_region 2 with fail
      generalize hw2 : u1.alloc (.cells #[.int .i8 0, .slice none 0 0] 25) = w2 at *
      clear hw2
      generalize u1.heap.size = S1 at *
      obtain ⟨q0, q1, q2, q3, q4, q5, q6, q7, q8, q9, q10, ql⟩ := own11 (heap_below HB1.out (heap_lt X1.out) X1.out)
      go_wp2_with fail
      refine (CT2.out w2 HB1.out).mono ?_
      rintro e u2 hp
      obtain ⟨g2, rfl, -, -, hb2⟩ := hp
      have hbb := below_n1 u2 (.cells #[.int .i8 0, .slice none 0 0] 25)
      have HX2 := Lib.hid (heap_new u2 (.cells #[.int .i8 0, .slice none 0 0] 25))
      have hb23 := hb2.trans (hbb.mono hb2.size)
      have HX1 := Lib.hid (heap_below hb23 (heap_lt HX1.out) HX1.out)
      have HB2 := Lib.hid (HB1.out.trans (hb23.mono HB1.out.size))
      clear hb2 hbb hb23 HB1 q0 q1 q2 q3 q4 q5 q6 q7 q8 q9 q10 ql
      go_upto_region 3 with fail
      generalize hw3 : u2.alloc (.cells #[.int .i8 0, .slice none 0 0] 25) = w3 at *
      clear hw3
      generalize u2.heap.size = S2 at *
      obtain ⟨q0, q1, q2, q3, q4, q5, q6, q7, q8, q9, q10, ql⟩ := own11 (heap_below HB2.out (heap_lt X0.out) X0.out)
      obtain ⟨y0, y1, y2, y3, y4, y5, y6, y7, y8, y9, y10, yl⟩ := own11 (heap_below HB2.out (heap_lt X1.out) X1.out)
      go_wp2_with fail
      refine (CT3.out w3 HB2.out).mono ?_
      rintro e u3 hp
      obtain ⟨g3, rfl, -, -, hb3⟩ := hp
      have hrow := below_n1 w3 (.cells #[.int .i8 h.kind, .string h.name, .string h.arg, .int .i64 h.num, .int .i8 h.tk, .slice p.TA p.tn p.tc, .int .i8 h.uk, .slice p.UA p.un p.uc, .int .i64 h.label, .int .i64 h.pos, .slice p.A p.n p.c, .int .i8 h'.kind, .string h'.name, .string h'.arg, .int .i64 h'.num, .int .i8 h'.tk, .slice p'.TA p'.tn p'.tc, .int .i8 h'.uk, .slice p'.UA p'.un p'.uc, .int .i64 h'.label, .int .i64 h'.pos, .slice p'.A p'.n p'.c] 28)
      have hbb := below_n1 u3 (.cells #[.int .i8 0, .slice none 0 0] 25)
      have HX3 := Lib.hid (heap_new u3 (.cells #[.int .i8 0, .slice none 0 0] 25))
      have hb34 := hrow.trans ((hb3.trans (hbb.mono hb3.size)).mono hrow.size)
      have HX1 := Lib.hid (heap_below hb34 (heap_lt HX1.out) HX1.out)
      have HX2 := Lib.hid (heap_below hb34 (heap_lt HX2.out) HX2.out)
      have HB3 := Lib.hid (HB2.out.trans (hb34.mono HB2.out.size))
      clear hb3 hbb hb34 hrow HB2 q0 q1 q2 q3 q4 q5 q6 q7 q8 q9 q10 ql y0 y1 y2 y3 y4 y5 y6 y7 y8 y9 y10 yl
      go_upto_region 4 with fail
      generalize hw4 : u3.alloc (.cells #[.int .i8 0, .slice none 0 0] 25) = w4 at *
      clear hw4
      generalize u3.heap.size = S3 at *
      have HBW := Lib.hid (HB0.out.trans (HB3.out.mono HB0.out.size))
      go_wp2_with fail
      go_ret
      exact ⟨rfl, HBW.out⟩
    | ok t2 =>
      rw [e2] at CT2
      clear e2
      go_enter Tryz.func5, Tryz.ntmps5
      go_upto_region 1 with fail
      rw [HW1.out]
      obtain ⟨q0, q1, q2, q3, q4, q5, q6, q7, q8, q9, q10, ql⟩ := own11 X0.out
      go_wp2_with fail
      refine (CT1.out w1 (Below.refl _ _)).mono ?_
      rintro e u1 hp
      obtain ⟨g1, rfl, -, -, hb1⟩ := hp
      have hbb := below_n1 u1 (.cells #[.int .i8 0, .slice none 0 0] 25)
      have HX1 := Lib.hid (heap_new u1 (.cells #[.int .i8 0, .slice none 0 0] 25))
      have HB1 := Lib.hid (hb1.trans (hbb.mono hb1.size))
      clear hb1 hbb q0 q1 q2 q3 q4 q5 q6 q7 q8 q9 q10 ql
      go_upto_region 2 with fail
      generalize hw2 : u1.alloc (.cells #[.int .i8 0, .slice none 0 0] 25) = w2 at *
      clear hw2
      generalize u1.heap.size = S1 at *
      obtain ⟨q0, q1, q2, q3, q4, q5, q6, q7, q8, q9, q10, ql⟩ := own11 (heap_below HB1.out (heap_lt X1.out) X1.out)
      go_wp2_with fail
      refine (CT2.out w2 HB1.out).mono ?_
      rintro e u2 hp
      obtain ⟨G2, m2, c2, rfl, hl2, hb2⟩ := hp
      have HL2 := Lib.hid ((Ck.Ly.weak (Q' := fun _ => True) hl2 fun _ _ _ => trivial).later (below_n1 u2 (.cells #[.int .i8 t2.1, .slice G2 m2 c2] 25)))
      clear hl2
      have hbb := below_n1 u2 (.cells #[.int .i8 t2.1, .slice G2 m2 c2] 25)
      have HX2 := Lib.hid (heap_new u2 (.cells #[.int .i8 t2.1, .slice G2 m2 c2] 25))
      have hb23 := hb2.trans (hbb.mono hb2.size)
      have HX1 := Lib.hid (heap_below hb23 (heap_lt HX1.out) HX1.out)
      have HB2 := Lib.hid (HB1.out.trans (hb23.mono HB1.out.size))
      clear hb2 hbb hb23 HB1 q0 q1 q2 q3 q4 q5 q6 q7 q8 q9 q10 ql
      go_upto_region 3 with fail
      generalize hw3 : u2.alloc (.cells #[.int .i8 t2.1, .slice G2 m2 c2] 25) = w3 at *
      clear hw3
      generalize u2.heap.size = S2 at *
      obtain ⟨q0, q1, q2, q3, q4, q5, q6, q7, q8, q9, q10, ql⟩ := own11 (heap_below HB2.out (heap_lt X0.out) X0.out)
      obtain ⟨y0, y1, y2, y3, y4, y5, y6, y7, y8, y9, y10, yl⟩ := own11 (heap_below HB2.out (heap_lt X1.out) X1.out)
      go_wp2_with fail
      refine (CT3.out w3 HB2.out).mono ?_
      rintro e u3 hp
      obtain ⟨g3, rfl, -, -, hb3⟩ := hp
      have hrow := below_n1 w3 (.cells #[.int .i8 h.kind, .string h.name, .string h.arg, .int .i64 h.num, .int .i8 h.tk, .slice p.TA p.tn p.tc, .int .i8 h.uk, .slice p.UA p.un p.uc, .int .i64 h.label, .int .i64 h.pos, .slice p.A p.n p.c, .int .i8 h'.kind, .string h'.name, .string h'.arg, .int .i64 h'.num, .int .i8 h'.tk, .slice p'.TA p'.tn p'.tc, .int .i8 h'.uk, .slice p'.UA p'.un p'.uc, .int .i64 h'.label, .int .i64 h'.pos, .slice p'.A p'.n p'.c] 28)
      have hbb := below_n1 u3 (.cells #[.int .i8 0, .slice none 0 0] 25)
      have HX3 := Lib.hid (heap_new u3 (.cells #[.int .i8 0, .slice none 0 0] 25))
      have hb34 := hrow.trans ((hb3.trans (hbb.mono hb3.size)).mono hrow.size)
      have HX1 := Lib.hid (heap_below hb34 (heap_lt HX1.out) HX1.out)
      have HX2 := Lib.hid (heap_below hb34 (heap_lt HX2.out) HX2.out)
      have HL2 := Lib.hid (HL2.out.later hb34)
      have HB3 := Lib.hid (HB2.out.trans (hb34.mono HB2.out.size))
      clear hb3 hbb hb34 hrow HB2 q0 q1 q2 q3 q4 q5 q6 q7 q8 q9 q10 ql y0 y1 y2 y3 y4 y5 y6 y7 y8 y9 y10 yl
      go_upto_region 4 with fail
      generalize hw4 : u3.alloc (.cells #[.int .i8 0, .slice none 0 0] 25) = w4 at *
      clear hw4
      generalize u3.heap.size = S3 at *
      have HBW := Lib.hid (HB0.out.trans (HB3.out.mono HB0.out.size))
      go_wp2_with fail
      go_ret
      exact ⟨rfl, HBW.out⟩
  · rw [e1] at CT1
    rw [e2] at CT2
    rw [e3] at CT3
    clear e1 e2 e3
    go_enter Tryz.func5, Tryz.ntmps5
    go_upto_region 1 with fail
    rw [HW1.out]
    obtain ⟨q0, q1, q2, q3, q4, q5, q6, q7, q8, q9, q10, ql⟩ := own11 X0.out
    go_wp2_with fail
    refine (CT1.out w1 (Below.refl _ _)).mono ?_
    rintro e u1 hp
    obtain ⟨G1, m1, c1, rfl, hl1, hb1⟩ := hp
    have HL1 := Lib.hid ((Ck.Ly.weak (Q' := fun _ => True) hl1 fun _ _ _ => trivial).later (below_n1 u1 (.cells #[.int .i8 t1.1, .slice G1 m1 c1] 25)))
    clear hl1
    have hbb := below_n1 u1 (.cells #[.int .i8 t1.1, .slice G1 m1 c1] 25)
    have HX1 := Lib.hid (heap_new u1 (.cells #[.int .i8 t1.1, .slice G1 m1 c1] 25))
    have HB1 := Lib.hid (hb1.trans (hbb.mono hb1.size))
    clear hb1 hbb q0 q1 q2 q3 q4 q5 q6 q7 q8 q9 q10 ql
    go_upto_region 2 with fail
    generalize hw2 : u1.alloc (.cells #[.int .i8 t1.1, .slice G1 m1 c1] 25) = w2 at *
    clear hw2
    generalize u1.heap.size = S1 at *
    obtain ⟨q0, q1, q2, q3, q4, q5, q6, q7, q8, q9, q10, ql⟩ := own11 (heap_below HB1.out (heap_lt X1.out) X1.out)
    go_wp2_with fail
    refine (CT2.out w2 HB1.out).mono ?_
    rintro e u2 hp
    obtain ⟨g2, rfl, -, -, hb2⟩ := hp
    have hbb := below_n1 u2 (.cells #[.int .i8 0, .slice none 0 0] 25)
    have HX2 := Lib.hid (heap_new u2 (.cells #[.int .i8 0, .slice none 0 0] 25))
    have hb23 := hb2.trans (hbb.mono hb2.size)
    have HX1 := Lib.hid (heap_below hb23 (heap_lt HX1.out) HX1.out)
    have HL1 := Lib.hid (HL1.out.later hb23)
    have HB2 := Lib.hid (HB1.out.trans (hb23.mono HB1.out.size))
    clear hb2 hbb hb23 HB1 q0 q1 q2 q3 q4 q5 q6 q7 q8 q9 q10 ql
    go_upto_region 3 with fail
    generalize hw3 : u2.alloc (.cells #[.int .i8 0, .slice none 0 0] 25) = w3 at *
    clear hw3
    generalize u2.heap.size = S2 at *
    obtain ⟨q0, q1, q2, q3, q4, q5, q6, q7, q8, q9, q10, ql⟩ := own11 (heap_below HB2.out (heap_lt X0.out) X0.out)
    obtain ⟨y0, y1, y2, y3, y4, y5, y6, y7, y8, y9, y10, yl⟩ := own11 (heap_below HB2.out (heap_lt X1.out) X1.out)
    go_wp2_with fail
    refine (CT3.out w3 HB2.out).mono ?_
    rintro e u3 hp
    obtain ⟨g3, rfl, -, -, hb3⟩ := hp
    have hrow := below_n1 w3 (.cells #[.int .i8 h.kind, .string h.name, .string h.arg, .int .i64 h.num, .int .i8 h.tk, .slice p.TA p.tn p.tc, .int .i8 h.uk, .slice p.UA p.un p.uc, .int .i64 h.label, .int .i64 h.pos, .slice p.A p.n p.c, .int .i8 h'.kind, .string h'.name, .string h'.arg, .int .i64 h'.num, .int .i8 h'.tk, .slice p'.TA p'.tn p'.tc, .int .i8 h'.uk, .slice p'.UA p'.un p'.uc, .int .i64 h'.label, .int .i64 h'.pos, .slice p'.A p'.n p'.c] 28)
    have hbb := below_n1 u3 (.cells #[.int .i8 0, .slice none 0 0] 25)
    have HX3 := Lib.hid (heap_new u3 (.cells #[.int .i8 0, .slice none 0 0] 25))
    have hb34 := hrow.trans ((hb3.trans (hbb.mono hb3.size)).mono hrow.size)
    have HX1 := Lib.hid (heap_below hb34 (heap_lt HX1.out) HX1.out)
    have HX2 := Lib.hid (heap_below hb34 (heap_lt HX2.out) HX2.out)
    have HL1 := Lib.hid (HL1.out.later hb34)
    have HB3 := Lib.hid (HB2.out.trans (hb34.mono HB2.out.size))
    clear hb3 hbb hb34 hrow HB2 q0 q1 q2 q3 q4 q5 q6 q7 q8 q9 q10 ql y0 y1 y2 y3 y4 y5 y6 y7 y8 y9 y10 yl
    go_upto_region 4 with fail
    generalize hw4 : u3.alloc (.cells #[.int .i8 0, .slice none 0 0] 25) = w4 at *
    clear hw4
    generalize u3.heap.size = S3 at *
    have HBW := Lib.hid (HB0.out.trans (HB3.out.mono HB0.out.size))
    go_wp2_with fail
    go_ret
    exact ⟨rfl, HBW.out⟩
  · rw [e1] at CT1
    rw [e2] at CT2
    rw [e3] at CT3
    have HDEC := Lib.hid hdec
    clear e1 e2 e3 hdec
    go_enter Tryz.func5, Tryz.ntmps5
    go_upto_region 1 with fail
    rw [HW1.out]
    obtain ⟨q0, q1, q2, q3, q4, q5, q6, q7, q8, q9, q10, ql⟩ := own11 X0.out
    go_wp2_with fail
    refine (CT1.out w1 (Below.refl _ _)).mono ?_
    rintro e u1 hp
    obtain ⟨G1, m1, c1, rfl, hl1, hb1⟩ := hp
    have HL1 := Lib.hid ((Ck.Ly.weak (Q' := fun _ => True) hl1 fun _ _ _ => trivial).later (below_n1 u1 (.cells #[.int .i8 t1.1, .slice G1 m1 c1] 25)))
    clear hl1
    have hbb := below_n1 u1 (.cells #[.int .i8 t1.1, .slice G1 m1 c1] 25)
    have HX1 := Lib.hid (heap_new u1 (.cells #[.int .i8 t1.1, .slice G1 m1 c1] 25))
    have HB1 := Lib.hid (hb1.trans (hbb.mono hb1.size))
    clear hb1 hbb q0 q1 q2 q3 q4 q5 q6 q7 q8 q9 q10 ql
    go_upto_region 2 with fail
    generalize hw2 : u1.alloc (.cells #[.int .i8 t1.1, .slice G1 m1 c1] 25) = w2 at *
    clear hw2
    generalize u1.heap.size = S1 at *
    obtain ⟨q0, q1, q2, q3, q4, q5, q6, q7, q8, q9, q10, ql⟩ := own11 (heap_below HB1.out (heap_lt X1.out) X1.out)
    go_wp2_with fail
    refine (CT2.out w2 HB1.out).mono ?_
    rintro e u2 hp
    obtain ⟨G2, m2, c2, rfl, hl2, hb2⟩ := hp
    have HL2 := Lib.hid ((Ck.Ly.weak (Q' := fun _ => True) hl2 fun _ _ _ => trivial).later (below_n1 u2 (.cells #[.int .i8 t2.1, .slice G2 m2 c2] 25)))
    clear hl2
    have hbb := below_n1 u2 (.cells #[.int .i8 t2.1, .slice G2 m2 c2] 25)
    have HX2 := Lib.hid (heap_new u2 (.cells #[.int .i8 t2.1, .slice G2 m2 c2] 25))
    have hb23 := hb2.trans (hbb.mono hb2.size)
    have HX1 := Lib.hid (heap_below hb23 (heap_lt HX1.out) HX1.out)
    have HL1 := Lib.hid (HL1.out.later hb23)
    have HB2 := Lib.hid (HB1.out.trans (hb23.mono HB1.out.size))
    clear hb2 hbb hb23 HB1 q0 q1 q2 q3 q4 q5 q6 q7 q8 q9 q10 ql
    go_upto_region 3 with fail
    generalize hw3 : u2.alloc (.cells #[.int .i8 t2.1, .slice G2 m2 c2] 25) = w3 at *
    clear hw3
    generalize u2.heap.size = S2 at *
    obtain ⟨q0, q1, q2, q3, q4, q5, q6, q7, q8, q9, q10, ql⟩ := own11 (heap_below HB2.out (heap_lt X0.out) X0.out)
    obtain ⟨y0, y1, y2, y3, y4, y5, y6, y7, y8, y9, y10, yl⟩ := own11 (heap_below HB2.out (heap_lt X1.out) X1.out)
    go_wp2_with fail
    refine (CT3.out w3 HB2.out).mono ?_
    rintro e u3 hp
    obtain ⟨g3, rfl, -, -, hb3⟩ := hp
    have hrow := below_n1 w3 (.cells #[.int .i8 h.kind, .string h.name, .string h.arg, .int .i64 h.num, .int .i8 h.tk, .slice p.TA p.tn p.tc, .int .i8 h.uk, .slice p.UA p.un p.uc, .int .i64 h.label, .int .i64 h.pos, .slice p.A p.n p.c, .int .i8 h'.kind, .string h'.name, .string h'.arg, .int .i64 h'.num, .int .i8 h'.tk, .slice p'.TA p'.tn p'.tc, .int .i8 h'.uk, .slice p'.UA p'.un p'.uc, .int .i64 h'.label, .int .i64 h'.pos, .slice p'.A p'.n p'.c] 28)
    have hbb := below_n1 u3 (.cells #[.int .i8 0, .slice none 0 0] 25)
    have HX3 := Lib.hid (heap_new u3 (.cells #[.int .i8 0, .slice none 0 0] 25))
    have hb34 := hrow.trans ((hb3.trans (hbb.mono hb3.size)).mono hrow.size)
    have HX1 := Lib.hid (heap_below hb34 (heap_lt HX1.out) HX1.out)
    have HX2 := Lib.hid (heap_below hb34 (heap_lt HX2.out) HX2.out)
    have HL1 := Lib.hid (HL1.out.later hb34)
    have HL2 := Lib.hid (HL2.out.later hb34)
    have HB3 := Lib.hid (HB2.out.trans (hb34.mono HB2.out.size))
    clear hb3 hbb hb34 hrow HB2 q0 q1 q2 q3 q4 q5 q6 q7 q8 q9 q10 ql y0 y1 y2 y3 y4 y5 y6 y7 y8 y9 y10 yl
    go_upto_region 4 with fail
    generalize hw4 : u3.alloc (.cells #[.int .i8 0, .slice none 0 0] 25) = w4 at *
    clear hw4
    generalize u3.heap.size = S3 at *
    have HBW := Lib.hid (HB0.out.trans (HB3.out.mono HB0.out.size))
    obtain ⟨q0, q1, q2, q3, q4, q5, q6, q7, q8, q9, q10, ql⟩ := own11 (heap_below HB3.out (heap_lt X0.out) X0.out)
    obtain ⟨y0, y1, y2, y3, y4, y5, y6, y7, y8, y9, y10, yl⟩ := own11 (heap_below HB3.out (heap_lt X1.out) X1.out)
    obtain ⟨u0, u1', -, -, ul⟩ := own2 HX1.out
    obtain ⟨z0, z1, -, -, zl⟩ := own2 HX2.out
    have CG := Lib.hid (toogreat_any h k p h' k' p' t1 G1 m1 c1 t2 G2 m2 c2 w4 (HI.out.below HB3.out) (HI'.out.below HB3.out) (HG.out.below HB3.out) (HL1.out.weak fun _ hb _ => hb) (HL2.out.weak fun _ hb _ => hb))
    rw [HDEC.out] at CG
    go_wp2_with fail
    refine CG.out.mono ?_
    rintro e w5 ⟨rfl, hb5⟩
    go_wp2_with fail
    go_ret
    exact ⟨rfl, HBW.out.trans (hb5.mono HBW.out.size)⟩
  · rw [e1] at CT1
    rw [e2] at CT2
    rw [e3] at CT3
    clear e1 e2 e3
    go_enter Tryz.func5, Tryz.ntmps5
    go_upto_region 1 with fail
    rw [HW1.out]
    obtain ⟨q0, q1, q2, q3, q4, q5, q6, q7, q8, q9, q10, ql⟩ := own11 X0.out
    go_wp2_with fail
    refine (CT1.out w1 (Below.refl _ _)).mono ?_
    rintro e u1 hp
    obtain ⟨G1, m1, c1, rfl, hl1, hb1⟩ := hp
    have HL1 := Lib.hid ((Ck.Ly.weak (Q' := fun _ => True) hl1 fun _ _ _ => trivial).later (below_n1 u1 (.cells #[.int .i8 t1.1, .slice G1 m1 c1] 25)))
    clear hl1
    have hbb := below_n1 u1 (.cells #[.int .i8 t1.1, .slice G1 m1 c1] 25)
    have HX1 := Lib.hid (heap_new u1 (.cells #[.int .i8 t1.1, .slice G1 m1 c1] 25))
    have HB1 := Lib.hid (hb1.trans (hbb.mono hb1.size))
    clear hb1 hbb q0 q1 q2 q3 q4 q5 q6 q7 q8 q9 q10 ql
    go_upto_region 2 with fail
    generalize hw2 : u1.alloc (.cells #[.int .i8 t1.1, .slice G1 m1 c1] 25) = w2 at *
    clear hw2
    generalize u1.heap.size = S1 at *
    obtain ⟨q0, q1, q2, q3, q4, q5, q6, q7, q8, q9, q10, ql⟩ := own11 (heap_below HB1.out (heap_lt X1.out) X1.out)
    go_wp2_with fail
    refine (CT2.out w2 HB1.out).mono ?_
    rintro e u2 hp
    obtain ⟨G2, m2, c2, rfl, hl2, hb2⟩ := hp
    have HL2 := Lib.hid ((Ck.Ly.weak (Q' := fun _ => True) hl2 fun _ _ _ => trivial).later (below_n1 u2 (.cells #[.int .i8 t2.1, .slice G2 m2 c2] 25)))
    clear hl2
    have hbb := below_n1 u2 (.cells #[.int .i8 t2.1, .slice G2 m2 c2] 25)
    have HX2 := Lib.hid (heap_new u2 (.cells #[.int .i8 t2.1, .slice G2 m2 c2] 25))
    have hb23 := hb2.trans (hbb.mono hb2.size)
    have HX1 := Lib.hid (heap_below hb23 (heap_lt HX1.out) HX1.out)
    have HL1 := Lib.hid (HL1.out.later hb23)
    have HB2 := Lib.hid (HB1.out.trans (hb23.mono HB1.out.size))
    clear hb2 hbb hb23 HB1 q0 q1 q2 q3 q4 q5 q6 q7 q8 q9 q10 ql
    go_upto_region 3 with fail
    generalize hw3 : u2.alloc (.cells #[.int .i8 t2.1, .slice G2 m2 c2] 25) = w3 at *
    clear hw3
    generalize u2.heap.size = S2 at *
    obtain ⟨q0, q1, q2, q3, q4, q5, q6, q7, q8, q9, q10, ql⟩ := own11 (heap_below HB2.out (heap_lt X0.out) X0.out)
    obtain ⟨y0, y1, y2, y3, y4, y5, y6, y7, y8, y9, y10, yl⟩ := own11 (heap_below HB2.out (heap_lt X1.out) X1.out)
    go_wp2_with fail
    refine (CT3.out w3 HB2.out).mono ?_
    rintro e u3 hp
    obtain ⟨G3, m3, c3, rfl, hl3, hb3⟩ := hp
    have HL3 := Lib.hid ((Ck.Ly.weak (Q' := fun _ => True) hl3 fun _ _ _ => trivial).later (below_n1 u3 (.cells #[.int .i8 (Ck.mk2 4 t1 t2).1, .slice G3 m3 c3] 25)))
    clear hl3
    have hrow := below_n1 w3 (.cells #[.int .i8 h.kind, .string h.name, .string h.arg, .int .i64 h.num, .int .i8 h.tk, .slice p.TA p.tn p.tc, .int .i8 h.uk, .slice p.UA p.un p.uc, .int .i64 h.label, .int .i64 h.pos, .slice p.A p.n p.c, .int .i8 h'.kind, .string h'.name, .string h'.arg, .int .i64 h'.num, .int .i8 h'.tk, .slice p'.TA p'.tn p'.tc, .int .i8 h'.uk, .slice p'.UA p'.un p'.uc, .int .i64 h'.label, .int .i64 h'.pos, .slice p'.A p'.n p'.c] 28)
    have hbb := below_n1 u3 (.cells #[.int .i8 (Ck.mk2 4 t1 t2).1, .slice G3 m3 c3] 25)
    have HX3 := Lib.hid (heap_new u3 (.cells #[.int .i8 (Ck.mk2 4 t1 t2).1, .slice G3 m3 c3] 25))
    have hb34 := hrow.trans ((hb3.trans (hbb.mono hb3.size)).mono hrow.size)
    have HX1 := Lib.hid (heap_below hb34 (heap_lt HX1.out) HX1.out)
    have HX2 := Lib.hid (heap_below hb34 (heap_lt HX2.out) HX2.out)
    have HL1 := Lib.hid (HL1.out.later hb34)
    have HL2 := Lib.hid (HL2.out.later hb34)
    have HB3 := Lib.hid (HB2.out.trans (hb34.mono HB2.out.size))
    clear hb3 hbb hb34 hrow HB2 q0 q1 q2 q3 q4 q5 q6 q7 q8 q9 q10 ql y0 y1 y2 y3 y4 y5 y6 y7 y8 y9 y10 yl
    go_upto_region 4 with fail
    generalize hw4 : u3.alloc (.cells #[.int .i8 (Ck.mk2 4 t1 t2).1, .slice G3 m3 c3] 25) = w4 at *
    clear hw4
    generalize u3.heap.size = S3 at *
    have HBW := Lib.hid (HB0.out.trans (HB3.out.mono HB0.out.size))
    have h3 : Ck.Ly (fun _ => True) w4 (Ck.mk2 4 t1 t2) G3 m3 c3 := HL3.out
    have h3i := h3.is
    have hm3 : m3 = 2 := h3i.n_eq
    obtain ⟨gb, go, B1, cb1, hA1, ⟨hk1, hk2⟩, g0, g1, n1, n2, l1, lr⟩ := h3i.lies
    obtain ⟨gb', go', B2, cb2, hA2, ⟨hk3, hk4⟩, g2, g3, n3, n4, l2, -⟩ := lr
    subst hA1
    injection hA2 with hA2
    injection hA2 with ea eb
    subst ea eb hm3
    have HK1 := Lib.hid (fun (W : World) (hb : Below w4.heap.size w4 W) => kind9_any (Ty.nodes t1.2 + 1) t1.1 t1.2 B1 (Ty.len t1.2) cb1 t1.1 t1.2 G1 m1 c1 W (Nat.lt_succ_self _) (Ty.Is.below ⟨l1, rfl, n1, n2, hk1, hk2⟩ hb) (Ck.Ly.is (HL1.out.later hb)))
    have HK2 := Lib.hid (fun (W : World) (hb : Below w4.heap.size w4 W) => kind9_any (Ty.nodes t2.2 + 1) t2.1 t2.2 B2 (Ty.len t2.2) cb2 t2.1 t2.2 G2 m2 c2 W (Nat.lt_succ_self _) (Ty.Is.below ⟨l2, rfl, n3, n4, hk3, hk4⟩ hb) (Ck.Ly.is (HL2.out.later hb)))
    have ra : Ty.eqT t1.1 t1.2 t1.1 t1.2 = true := by unfold Ty.eqT; simp [Ty.eqF_refl]
    have rb : Ty.eqT t2.1 t2.2 t2.1 t2.2 = true := by unfold Ty.eqT; simp [Ty.eqF_refl]
    rw [ra] at HK1
    rw [rb] at HK2
    obtain ⟨u0, u1', -, -, ul⟩ := own2 HX1.out
    obtain ⟨z0, z1, -, -, zl⟩ := own2 HX2.out
    obtain ⟨s0, s1, -, -, sl⟩ := own2 HX3.out
    clear h3 h3i l1 l2 ra rb hk1 hk2 hk3 hk4
    simp only [Nat.zero_mul, Nat.add_zero, Nat.zero_add, Nat.one_mul] at g0 g1 g2 g3
    go_upto_region 6 with fail
    have U0 := later_cell u0
    have U1 := later_cell u1'
    have Z0 := later_cell z0
    have Z1 := later_cell z1
    have S0' := later_cell s0
    have S1' := later_cell s1
    have Q0 := later_cell g0
    have Q1 := later_cell g1
    have Q2 := later_cell g2
    have Q3 := later_cell g3
    clear u0 u1' ul z0 z1 zl s0 s1 sl g0 g1 g2 g3
    refine wp_region_low (by kernel_rfl) (by kernel_rfl) ?_
    repeat
      first
        | go_big_quiet_skip
        | (go_big_quiet_want
           go_big_quiet_op
           first
             | go_big_quiet_on
             | (refine ⟨_, fun _ => rfl, ?_⟩
                go_big_quiet_on)
             | (apply Exists.intro
                refine ⟨fun h => ?_, ?_⟩
                · first
                    | (go_at_call 9; with_reducible exact call_low h (HK1.out h.u h.low))
                    | (go_at_call 9; with_reducible exact call_low h (HK2.out h.u h.low))
                go_big_quiet_on))
    refine wpQuiet_nil ?_
    rintro w9 ⟨⟨_, E9⟩, rfl⟩
    go_wp2_with fail
    go_ret
    exact ⟨rfl, HBW.out.trans (E9.mono HBW.out.size)⟩
end Go.Proofs.YtadkiikoiajceaaGreatDoor
