/-
  Terms that are less and more precise; slices.EqualFunc over them.
-/
import Derived.Test.YtfkbdpehdabepaaGreatDoorM8
import Derived.Test.YtfkbdpehdabepaaGreatDoorM7
import Derived.Test.YtfkbdpehdabepaaGreatDoorOr2
namespace Go.Proofs.YtfkbdpehdabepaaGreatDoor
open Go.RowKit

namespace Tm
/-- is the first head the second one, or that with less told, and no cast? -/
def leH (a b : Hd) : Bool := (a.kind == b.kind) && ((a.kind != 17) && ((a.name.toList == b.name.toList) && ((a.arg.toList == b.arg.toList) && ((a.num == b.num) && (Ty.leT a.tk a.tkids b.tk b.tkids && Ty.leT a.uk a.ukids b.uk b.ukids)))))
def leF : Tm → Tm → Bool
  | .nil, .nil => true
  | .nil, .node _ _ _ => false
  | .node _ _ _, .nil => false
  | .node h kids r, .node h' kids' r' => (leH h h' && leF kids kids') && leF r r'
def leT (h : Hd) (kids : Tm) (h' : Hd) (kids' : Tm) : Bool := leH h h' && leF kids kids'
theorem leF_len : ∀ f g : Tm, leF f g = true → len f = len g
  | .nil, .nil, _ => rfl
  | .nil, .node _ _ _, h => by simp [leF] at h
  | .node _ _ _, .nil, h => by simp [leF] at h
  | .node h kids r, .node h' kids' r', hh => by
    simp only [leF, Bool.and_eq_true] at hh
    simp only [len]; rw [leF_len r r' hh.2]
/-- the same, as the document has it: what counts alone is looked at -/
def reH (h h' : Hd) : Bool := (h.kind == h'.kind) && ((!hasName h.kind || (h.name.toList == h'.name.toList)) && ((!hasArg h.kind || (h.arg.toList == h'.arg.toList)) && ((!hasNum h.kind || (h.num == h'.num)) &&
    ((!hasType h.kind || Ty.leT h.tk h.tkids h'.tk h'.tkids) && (!hasTo h.kind || Ty.leT h.uk h.ukids h'.uk h'.ukids)))))
def reF : Tm → Tm → Bool
  | .nil, .nil => true
  | .nil, .node _ _ _ => false
  | .node _ _ _, .nil => false
  | .node h kids r, .node h' kids' r' => (reH h h' && reF kids kids') && reF r r'
def reT (h : Hd) (kids : Tm) (h' : Hd) (kids' : Tm) : Bool := reH h h' && reF kids kids'
/-- a cast somewhere? -/
def hcF : Tm → Bool
  | .nil => false
  | .node h kids r => ((h.kind == 17) || hcF kids) || hcF r
def hcT (h : Hd) (kids : Tm) : Bool := (h.kind == 17) || hcF kids
/-- all types are right ones -/
def tyF : Tm → Bool
  | .nil => true
  | .node h kids r => (Ty.okT h.tk h.tkids && Ty.okT h.uk h.ukids) && (tyF kids && tyF r)
def tyT (h : Hd) (kids : Tm) : Bool := (Ty.okT h.tk h.tkids && Ty.okT h.uk h.ukids) && tyF kids
theorem leH_cnt (h h' : Hd) : leH (cnt h) (cnt h') = ((!(h.kind == 17)) && ((!(h'.kind == 17)) && reH h h')) := by
  unfold leH reH cnt
  dsimp only
  by_cases hk : h.kind = h'.kind
  · rw [← hk]
    cases hz : (h.kind == 17)
    · have hz2 : (h.kind != 17) = true := by rw [bne, hz]; rfl
      have z : ∀ k f, Ty.leT 0 .nil k f = true := fun _ _ => rfl
      cases hasName h.kind <;> cases hasArg h.kind <;> cases hasNum h.kind <;> cases hasType h.kind <;> cases hasTo h.kind <;> simp [z, hz2]
    · have hz2 : (h.kind != 17) = false := by rw [bne, hz]; rfl
      simp [hz2]
  · rw [show (h.kind == h'.kind) = false by simpa using hk]
    simp
theorem leF_bF : ∀ f g : Tm, leF (bF f) (bF g) = ((!hcF f) && ((!hcF g) && reF f g))
  | .nil, .nil => rfl
  | .nil, .node _ _ _ => by simp [bF, leF, reF]
  | .node _ _ _, .nil => by simp [bF, leF, reF]
  | .node h kids r, .node h' kids' r' => by
    simp only [bF, leF, hcF, reF, Bool.not_or]
    rw [leH_cnt, leF_bF kids kids', leF_bF r r']
    ac_rfl
theorem leT_bare (h : Hd) (kids : Tm) (h' : Hd) (kids' : Tm) : leT (cnt h) (bF kids) (cnt h') (bF kids') = ((!hcT h kids) && ((!hcT h' kids') && reT h kids h' kids')) := by
  unfold leT hcT reT
  rw [leH_cnt, leF_bF, Bool.not_or, Bool.not_or]
  ac_rfl
theorem tyH_cnt {h : Hd} (ho : tysOk h = true) : (Ty.okT (cnt h).tk (cnt h).tkids && Ty.okT (cnt h).uk (cnt h).ukids) = true := by
  unfold tysOk at ho
  unfold cnt
  dsimp only
  have z : Ty.okT 0 .nil = true := rfl
  rw [Bool.and_eq_true] at ho ⊢
  refine ⟨?_, ?_⟩
  · cases hq : hasType h.kind
    · exact z
    · have := ho.1
      rw [hq] at this
      exact (Ty.chk_ok (by simpa using this)).1
  · cases hq : hasTo h.kind
    · exact z
    · have := ho.2
      rw [hq] at this
      exact (Ty.chk_ok (by simpa using this)).1
theorem headOk_tys {h : Hd} {n : Nat} (ho : headOk h n = true) : tysOk h = true := by
  unfold headOk at ho
  rw [Bool.and_eq_true] at ho
  exact ho.2
theorem tyF_bF : ∀ f : Tm, okF f = true → tyF (bF f) = true
  | .nil, _ => rfl
  | .node h kids r, ho => by
    simp only [okF, Bool.and_eq_true] at ho
    simp only [bF, tyF]
    rw [tyH_cnt (headOk_tys ho.1.1), tyF_bF kids ho.1.2, tyF_bF r ho.2]
    rfl
theorem chk_okT {h : Hd} {kids : Tm} (hc : chk h kids = 0) : okT h kids = true := by
  unfold chk at hc
  split at hc
  · cases hc
  · split at hc
    · cases hc
    · split at hc
      · assumption
      · cases hc
theorem tyT_bare {h : Hd} {kids : Tm} (hc : chk h kids = 0) : tyT (cnt h) (bF kids) = true := by
  have ho := chk_okT hc
  unfold okT at ho
  rw [Bool.and_eq_true] at ho
  unfold tyT
  rw [tyH_cnt (headOk_tys ho.1), tyF_bF kids ho.2]
  rfl
/-- a right term's types, those that count -/
theorem okF_node {h : Hd} {kids r : Tm} (ho : okF (.node h kids r) = true) : okT h kids = true ∧ okF r = true := by
  simp only [okF, Bool.and_eq_true] at ho
  unfold okT
  rw [Bool.and_eq_true]
  exact ⟨ho.1, ho.2⟩
theorem okT_ty {h : Hd} {kids : Tm} (ho : okT h kids = true) (hk : hasType h.kind = true) : Ty.okT h.tk h.tkids = true := by
  unfold okT at ho
  rw [Bool.and_eq_true] at ho
  have := headOk_tys ho.1
  unfold tysOk at this
  rw [Bool.and_eq_true, hk] at this
  exact (Ty.chk_ok (by simpa using this.1)).1
theorem okT_to {h : Hd} {kids : Tm} (ho : okT h kids = true) (hk : hasTo h.kind = true) : Ty.okT h.uk h.ukids = true := by
  unfold okT at ho
  rw [Bool.and_eq_true] at ho
  have := headOk_tys ho.1
  unfold tysOk at this
  rw [Bool.and_eq_true, hk] at this
  exact (Ty.chk_ok (by simpa using this.2)).1
theorem okT_len {h h' : Hd} {kids kids' : Tm} (ho : okT h kids = true) (ho' : okT h' kids' = true) (hk : h.kind = h'.kind) : len kids = len kids' := by
  unfold okT headOk at ho ho'
  simp only [Bool.and_eq_true, decide_eq_true_eq] at ho ho'
  have h1 := ho.1.1.1.1.2
  have h2 := ho'.1.1.1.1.2
  rw [h1, h2, hk]
end Tm

set_option maxHeartbeats 4000000 in
set_option maxRecDepth 100000 in
theorem lt_equal_any (f : FuncId) (kids kids2 : Tm) (A A2 : Option Addr) (n c n2 c2 : Nat) (w : World) (hL : Tm.Lies w kids A 0) (hn : n = Tm.len kids) (hnc : n ≤ c) (hc : c ≤ maxLen)
    (hL2 : Tm.Lies w kids2 A2 0) (hn2 : n2 = Tm.len kids2) (hnc2 : n2 ≤ c2) (hc2 : c2 ≤ maxLen)
    (hty : Tm.tyF kids = true) (hty2 : Tm.tyF kids2 = true) (hcf : ∀ (args : Array Value) (W : World), (callFunc f args).run Tryz.prog W = .ok (.enter f args) W)
    (hf : ∀ (h : Hd) (kd : Tm) (p : Pl) (h' : Hd) (kd' : Tm) (p' : Pl) (W : World), Tm.nodes kd < Tm.nodes kids → Tm.Is W h kd p → Tm.Is W h' kd' p' → Tm.tyT h kd = true → Tm.tyT h' kd' = true → Below w.heap.size w W →
      Calls Tryz.prog f #[.agg #[.int .i8 h.kind, .string h.name, .string h.arg, .int .i64 h.num, .int .i8 h.tk, .slice p.TA p.tn p.tc, .int .i8 h.uk, .slice p.UA p.un p.uc, .int .i64 h.label, .int .i64 h.pos, .slice p.A p.n p.c], .agg #[.int .i8 h'.kind, .string h'.name, .string h'.arg, .int .i64 h'.num, .int .i8 h'.tk, .slice p'.TA p'.tn p'.tc, .int .i8 h'.uk, .slice p'.UA p'.un p'.uc, .int .i64 h'.label, .int .i64 h'.pos, .slice p'.A p'.n p'.c]] W fun e w' => e = .returned (.bool (Tm.leT h kd h' kd')) ∧ Below W.heap.size W w') :
    Calls Tryz.prog 91 #[.slice A n c, .slice A2 n2 c2, .func (Fn.func f) #[] #[]] w fun e w' => e = .returned (.bool (Tm.leF kids kids2)) ∧ Below w.heap.size w w' := by
  have i5 : (n : Int) ≤ 9223372036854775807 := by unfold maxLen at hc; omega
  have i6 : (n2 : Int) ≤ 9223372036854775807 := by unfold maxLen at hc2; omega
  by_cases hnn : n = n2
  · have hst := OverT.start hL hn
    have hst2 := OverT.start hL2 hn2
    have HF := Lib.hid hf
    have HS := Lib.hid hst
    have HS2 := Lib.hid hst2
    have HTY := Lib.hid (And.intro hty hty2)
    clear hst hst2 hn hn2 hf hL hL2 hty hty2
    subst hnn
    obtain ⟨R, hR⟩ : ∃ R, Tm.leF kids kids2 = R := ⟨_, rfl⟩
    rw [hR]
    have HR := Lib.hid hR
    clear hR
    go_enter Tryz.func91, Tryz.ntmps91
    go_wp2_with fail
    go_loopw [17] (fun v wr => ∃ (i : Nat) (rest rest2 : Tm), v = .int .i64 i ∧ OverT w wr A n (Tm.nodes kids) i rest ∧ OverT w wr A2 n (Tm.nodes kids2) i rest2 ∧ Tm.leF rest rest2 = R ∧ Tm.tyF rest = true ∧ Tm.tyF rest2 = true) (fun v _ => n - (intOf v).toNat)
    case atStart => exact ⟨0, kids, kids2, rfl, HS.out, HS2.out, HR.out, HTY.out.1, HTY.out.2⟩
    case round =>
      obtain ⟨i, rest, rest2, rfl, hO, hO2, hR, ht1, ht2⟩ := hrel
      cases rest with
      | nil =>
        have hi : i = n := by have := hO.i_eq; simpa [Tm.len] using this
        have hB := hO.below
        cases rest2 with
        | node _ _ _ => have := hO2.i_eq; simp only [Tm.len] at this; omega
        | nil =>
        clear hO hO2 ht1 ht2
        simp only [Tm.leF] at hR
        subst hi
        subst hR
        go_wp2_with fail
        go_ret
        exact ⟨rfl, hB⟩
      | node h kd r =>
        cases rest2 with
        | nil => have h1 := hO2.i_eq; have h2 := hO.i_eq; simp only [Tm.len] at h1 h2; omega
        | node h' kd' r2 =>
        have hst := fun w2 hb => OverT.step (w2 := w2) hO hb
        have hst2 := fun w2 hb => OverT.step (w2 := w2) hO2 hb
        have h1 := hO.i_eq
        have h2 := hO.lies
        have h22 := hO2.lies
        have h3 := hO.sub
        have h4 := hO.below
        simp only [Tm.len, Tm.nodes, Tm.leF] at h1 h3 hR
        simp only [Tm.tyF, Bool.and_eq_true] at ht1 ht2
        have t1 : Tm.tyT h kd = true := by unfold Tm.tyT; simp only [Bool.and_eq_true]; exact ⟨ht1.1, ht1.2.1⟩
        have t2 : Tm.tyT h' kd' = true := by unfold Tm.tyT; simp only [Bool.and_eq_true]; exact ⟨ht2.1, ht2.2.1⟩
        have HT9 := Lib.hid (And.intro ht1.2.2 ht2.2.2)
        obtain ⟨bb, oo, p, rfl, hcs, hfit, hl3, hl4⟩ := h2
        obtain ⟨bb2, oo2, p', rfl, hcs2, hfit2, hl32, hl42⟩ := h22
        have hB2 : Below wr.heap.size wr ((wr.alloc (.cells #[.int .i8 h.kind, .string h.name, .string h.arg, .int .i64 h.num, .int .i8 h.tk, .slice p.TA p.tn p.tc, .int .i8 h.uk, .slice p.UA p.un p.uc, .int .i64 h.label, .int .i64 h.pos, .slice p.A p.n p.c] 28)).alloc (.cells #[.int .i8 h'.kind, .string h'.name, .string h'.arg, .int .i64 h'.num, .int .i8 h'.tk, .slice p'.TA p'.tn p'.tc, .int .i8 h'.uk, .slice p'.UA p'.un p'.uc, .int .i64 h'.label, .int .i64 h'.pos, .slice p'.A p'.n p'.c] 28)) := ((Below.refl _ _).alloc (Nat.le_refl _) _).alloc (by simp) _
        have hcall := HF.out h kd p h' kd' p' _ (by omega) (Tm.Is.below ⟨hfit, hl3⟩ hB2) (Tm.Is.below ⟨hfit2, hl32⟩ hB2) t1 t2 (h4.trans (hB2.mono h4.size))
        obtain ⟨c0, c1, c2, c3, c4, c5, c6, c7, c8, c9, c10⟩ := Tm.row hcs
        obtain ⟨d0, d1, d2, d3, d4, d5, d6, d7, d8, d9, d10⟩ := Tm.row hcs2
        have l1 := Ty.cell_lt c0
        have l2 := Ty.cell_lt d0
        have HST := Lib.hid hst
        have HST2 := Lib.hid hst2
        have HL := Lib.hid hl4
        have HL2 := Lib.hid hl42
        have HRR := Lib.hid hR
        have hal : Tm.leT h kd h' kd' = (Tm.leH h h' && Tm.leF kd kd') := rfl
        rw [← hal] at HRR
        have j1 : (i : Int) < n := by omega
        clear ht1 ht2 t1 t2 hst hst2 hl3 hl4 hl32 hl42 hO hO2 hR hcs hcs2 hfit hfit2 hal
        cases hp : Tm.leT h kd h' kd'
        · have hp0 : R = false := by rw [← HRR.out, hp]; rfl
          rw [hp] at hcall
          have HC := Lib.hid hcall
          clear hp hcall
          subst hp0
          go_wp2_with fail
          refine HC.out.mono ?_
          rintro e w2 ⟨rfl, hb⟩
          go_wp2_with fail
          go_ret
          exact ⟨rfl, h4.trans ((hB2.trans (hb.mono hB2.size)).mono h4.size)⟩
        · have hp0 := HRR.out
          rw [hp, Bool.true_and] at hp0
          have HP := Lib.hid hp0
          rw [hp] at hcall
          have HC := Lib.hid hcall
          clear hp hp0 hcall
          go_wp2_with fail
          refine HC.out.mono ?_
          rintro e w2 ⟨rfl, hb⟩
          have hbw := hB2.trans (hb.mono hB2.size)
          have hbb := Lib.hid (HST.out w2 hbw HL.out)
          have hbb2 := Lib.hid (HST2.out w2 hbw HL2.out)
          clear hb hbw
          go_wp2_with fail
          go_roundw
          case rel => exact ⟨i + 1, r, r2, by go_num, hbb.out, hbb2.out, HP.out, HT9.out.1, HT9.out.2⟩
          case measure => simp [intOf]; omega
  · have hne : ((n : Int) != (n2 : Int)) = true := by simp; omega
    have hres : Tm.leF kids kids2 = false := by
      cases hq : Tm.leF kids kids2
      · rfl
      · have := Tm.leF_len _ _ hq; omega
    rw [hres]
    clear hf hL hL2 hres hnn hn hn2 hty hty2
    go_enter Tryz.func91, Tryz.ntmps91
    go_wp2_with fail
    go_ret
    exact ⟨rfl, Below.refl _ _⟩
/-- what Terms tells -/
def Tm.tellT (h : Hd) (kids : Tm) (h' : Hd) (kids' : Tm) : Bool := (((Tm.chk h kids : Nat) : Int) == 0) && ((((Tm.chk h' kids' : Nat) : Int) == 0) && ((!Tm.hcT h kids) && ((!Tm.hcT h' kids') && Tm.reT h kids h' kids')))
end Go.Proofs.YtfkbdpehdabepaaGreatDoor
