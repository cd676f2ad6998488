/-
  slices.EqualFunc over terms; terms.alike, Same.
-/
import Derived.Test.YtfkbdpehdabepaaGreatDoorTmCount
import Derived.Deep.RegionLaw
import Derived.Deep.DeepCutAuto
namespace Go.Proofs.YtfkbdpehdabepaaGreatDoor
open Go.RowKit

namespace Tm
/-- are two heads the same? -/
def eqH (a b : Hd) : Bool := (a.kind == b.kind) && ((a.name.toList == b.name.toList) && ((a.arg.toList == b.arg.toList) && ((a.num == b.num) && ((a.label == b.label) && (Ty.sameT a.tk a.tkids b.tk b.tkids && Ty.sameT a.uk a.ukids b.uk b.ukids)))))
def alF : Tm → Tm → Bool
  | .nil, .nil => true
  | .nil, .node _ _ _ => false
  | .node _ _ _, .nil => false
  | .node h kids r, .node h' kids' r' => (eqH (cnt h) (cnt h') && alF kids kids') && alF r r'
def alT (h : Hd) (kids : Tm) (h' : Hd) (kids' : Tm) : Bool := eqH (cnt h) (cnt h') && alF kids kids'
def sameT (h : Hd) (kids : Tm) (h' : Hd) (kids' : Tm) : Bool := (((chk h kids : Nat) : Int) == 0) && ((((chk h' kids' : Nat) : Int) == 0) && alT h kids h' kids')
theorem alF_len : ∀ f g : Tm, alF f g = true → len f = len g
  | .nil, .nil, _ => rfl
  | .nil, .node _ _ _, h => by simp [alF] at h
  | .node _ _ _, .nil, h => by simp [alF] at h
  | .node h kids r, .node h' kids' r', hh => by
    simp only [alF, Bool.and_eq_true] at hh
    simp only [len]; rw [alF_len r r' hh.2]
end Tm

set_option maxHeartbeats 4000000 in
set_option maxRecDepth 100000 in
theorem tm_equal_any (f : FuncId) (kids kids2 : Tm) (A A2 : Option Addr) (n c n2 c2 : Nat) (w : World) (hL : Tm.Lies w kids A 0) (hn : n = Tm.len kids) (hnc : n ≤ c) (hc : c ≤ maxLen)
    (hL2 : Tm.Lies w kids2 A2 0) (hn2 : n2 = Tm.len kids2) (hnc2 : n2 ≤ c2) (hc2 : c2 ≤ maxLen)
    (hcf : ∀ (args : Array Value) (W : World), (callFunc f args).run Tryz.prog W = .ok (.enter f args) W)
    (hf : ∀ (h : Hd) (kd : Tm) (p : Pl) (h' : Hd) (kd' : Tm) (p' : Pl) (W : World), Tm.nodes kd < Tm.nodes kids → Tm.Is W h kd p → Tm.Is W h' kd' p' → Below w.heap.size w W →
      Calls Tryz.prog f #[.agg #[.int .i8 h.kind, .string h.name, .string h.arg, .int .i64 h.num, .int .i8 h.tk, .slice p.TA p.tn p.tc, .int .i8 h.uk, .slice p.UA p.un p.uc, .int .i64 h.label, .int .i64 h.pos, .slice p.A p.n p.c], .agg #[.int .i8 h'.kind, .string h'.name, .string h'.arg, .int .i64 h'.num, .int .i8 h'.tk, .slice p'.TA p'.tn p'.tc, .int .i8 h'.uk, .slice p'.UA p'.un p'.uc, .int .i64 h'.label, .int .i64 h'.pos, .slice p'.A p'.n p'.c]] W fun e w' => e = .returned (.bool (Tm.alT h kd h' kd')) ∧ Below W.heap.size W w') :
    Calls Tryz.prog 91 #[.slice A n c, .slice A2 n2 c2, .func (Fn.func f) #[] #[]] w fun e w' => e = .returned (.bool (Tm.alF kids kids2)) ∧ Below w.heap.size w w' := by
  have i5 : (n : Int) ≤ 9223372036854775807 := by unfold maxLen at hc; omega
  have i6 : (n2 : Int) ≤ 9223372036854775807 := by unfold maxLen at hc2; omega
  by_cases hnn : n = n2
  · have hst := OverT.start hL hn
    have hst2 := OverT.start hL2 hn2
    have HF := Lib.hid hf
    have HS := Lib.hid hst
    have HS2 := Lib.hid hst2
    clear hst hst2 hn hn2 hf hL hL2
    subst hnn
    obtain ⟨R, hR⟩ : ∃ R, Tm.alF kids kids2 = R := ⟨_, rfl⟩
    rw [hR]
    have HR := Lib.hid hR
    clear hR
    go_enter Tryz.func91, Tryz.ntmps91
    go_wp2_with fail
    go_loopw [17] (fun v wr => ∃ (i : Nat) (rest rest2 : Tm), v = .int .i64 i ∧ OverT w wr A n (Tm.nodes kids) i rest ∧ OverT w wr A2 n (Tm.nodes kids2) i rest2 ∧ Tm.alF rest rest2 = R) (fun v _ => n - (intOf v).toNat)
    case atStart => exact ⟨0, kids, kids2, rfl, HS.out, HS2.out, HR.out⟩
    case round =>
      obtain ⟨i, rest, rest2, rfl, hO, hO2, hR⟩ := hrel
      cases rest with
      | nil =>
        have hi : i = n := by have := hO.i_eq; simpa [Tm.len] using this
        have hB := hO.below
        cases rest2 with
        | node _ _ _ => have := hO2.i_eq; simp only [Tm.len] at this; omega
        | nil =>
        clear hO hO2
        simp only [Tm.alF] at hR
        subst hi
        subst hR
        go_wp2_with fail
        go_ret
        exact ⟨rfl, hB⟩
      | node h kd r =>
        cases rest2 with
        | nil => have h1 := hO2.i_eq; have h2 := hO.i_eq; simp only [Tm.len] at h1 h2; omega
        | node h' kd' r2 =>
        have hst := fun w2 hb => OverT.step (w2 := w2) hO hb
        have hst2 := fun w2 hb => OverT.step (w2 := w2) hO2 hb
        have h1 := hO.i_eq
        have h2 := hO.lies
        have h22 := hO2.lies
        have h3 := hO.sub
        have h4 := hO.below
        simp only [Tm.len, Tm.nodes, Tm.alF] at h1 h3 hR
        obtain ⟨bb, oo, p, rfl, hcs, hfit, hl3, hl4⟩ := h2
        obtain ⟨bb2, oo2, p', rfl, hcs2, hfit2, hl32, hl42⟩ := h22
        have hB2 : Below wr.heap.size wr ((wr.alloc (.cells #[.int .i8 h.kind, .string h.name, .string h.arg, .int .i64 h.num, .int .i8 h.tk, .slice p.TA p.tn p.tc, .int .i8 h.uk, .slice p.UA p.un p.uc, .int .i64 h.label, .int .i64 h.pos, .slice p.A p.n p.c] 28)).alloc (.cells #[.int .i8 h'.kind, .string h'.name, .string h'.arg, .int .i64 h'.num, .int .i8 h'.tk, .slice p'.TA p'.tn p'.tc, .int .i8 h'.uk, .slice p'.UA p'.un p'.uc, .int .i64 h'.label, .int .i64 h'.pos, .slice p'.A p'.n p'.c] 28)) := ((Below.refl _ _).alloc (Nat.le_refl _) _).alloc (by simp) _
        have hcall := HF.out h kd p h' kd' p' _ (by omega) (Tm.Is.below ⟨hfit, hl3⟩ hB2) (Tm.Is.below ⟨hfit2, hl32⟩ hB2) (h4.trans (hB2.mono h4.size))
        obtain ⟨c0, c1, c2, c3, c4, c5, c6, c7, c8, c9, c10⟩ := Tm.row hcs
        obtain ⟨d0, d1, d2, d3, d4, d5, d6, d7, d8, d9, d10⟩ := Tm.row hcs2
        have l1 := Ty.cell_lt c0
        have l2 := Ty.cell_lt d0
        have HST := Lib.hid hst
        have HST2 := Lib.hid hst2
        have HL := Lib.hid hl4
        have HL2 := Lib.hid hl42
        have HRR := Lib.hid hR
        have hal : Tm.alT h kd h' kd' = (Tm.eqH (Tm.cnt h) (Tm.cnt h') && Tm.alF kd kd') := rfl
        rw [← hal] at HRR
        have j1 : (i : Int) < n := by omega
        clear hst hst2 hl3 hl4 hl32 hl42 hO hO2 hR hcs hcs2 hfit hfit2 hal
        cases hp : Tm.alT h kd h' kd'
        · have hp0 : R = false := by rw [← HRR.out, hp]; rfl
          rw [hp] at hcall
          have HC := Lib.hid hcall
          clear hp hcall
          subst hp0
          go_wp2_with fail
          refine HC.out.mono ?_
          rintro e w2 ⟨rfl, hb⟩
          go_wp2_with fail
          go_ret
          exact ⟨rfl, h4.trans ((hB2.trans (hb.mono hB2.size)).mono h4.size)⟩
        · have hp0 := HRR.out
          rw [hp, Bool.true_and] at hp0
          have HP := Lib.hid hp0
          rw [hp] at hcall
          have HC := Lib.hid hcall
          clear hp hp0 hcall
          go_wp2_with fail
          refine HC.out.mono ?_
          rintro e w2 ⟨rfl, hb⟩
          have hbw := hB2.trans (hb.mono hB2.size)
          have hbb := Lib.hid (HST.out w2 hbw HL.out)
          have hbb2 := Lib.hid (HST2.out w2 hbw HL2.out)
          clear hb hbw
          go_wp2_with fail
          go_roundw
          case rel => exact ⟨i + 1, r, r2, by go_num, hbb.out, hbb2.out, HP.out⟩
          case measure => simp [intOf]; omega
  · have hne : ((n : Int) != (n2 : Int)) = true := by simp; omega
    have hres : Tm.alF kids kids2 = false := by
      cases hq : Tm.alF kids kids2
      · rfl
      · have := Tm.alF_len _ _ hq; omega
    rw [hres]
    clear hf hL hL2 hres hnn hn hn2
    go_enter Tryz.func91, Tryz.ntmps91
    go_wp2_with fail
    go_ret
    exact ⟨rfl, Below.refl _ _⟩
end Go.Proofs.YtfkbdpehdabepaaGreatDoor
