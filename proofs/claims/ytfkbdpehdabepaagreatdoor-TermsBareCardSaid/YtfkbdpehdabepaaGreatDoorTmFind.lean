/-
  slices.ContainsFunc over types and terms; terms.untyped, misnamed.
-/
import Derived.Test.YtfkbdpehdabepaaGreatDoorTmMeas
import Derived.Test.YtfkbdpehdabepaaGreatDoorM1
namespace Go.Proofs.YtfkbdpehdabepaaGreatDoor
open Go.RowKit

/-- what the program's own variables hold -/
structure TGlob (w : World) : Prop where
  terms : TShapes w
  types : Shapes w
  err : ∃ tp p, w.var? Tryz.prog "strconv.ErrRange" = some #[.iface tp p]
theorem TGlob.below {w w' : World} (h : TGlob w) (hb : Below w.heap.size w w') : TGlob w' :=
  ⟨h.terms.below hb, h.types.below hb, by obtain ⟨tp, p, hv⟩ := h.err; exact ⟨tp, p, var_at hb hv⟩⟩
theorem TGlob.alloc {w : World} (h : TGlob w) (o : Obj) : TGlob (w.alloc o) := h.below ((Below.refl _ _).alloc (Nat.le_refl _) _)

namespace Ty
def anyF (q : Int → Fo → Bool) : Fo → Bool
  | .nil => false
  | .node _ _ k kids r => q k kids || anyF q r
end Ty
namespace Tm
def anyF (q : Hd → Tm → Bool) : Tm → Bool
  | .nil => false
  | .node h kids r => q h kids || anyF q r
theorem tysOk_any (h : Hd) : Ty.anyF (fun k kids => Ty.chk k kids != 0) (tys h) = !tysOk h := by
  unfold tys tysOk
  cases ht : hasType h.kind
  · have hu : hasTo h.kind = false := by
      cases hq : hasTo h.kind
      · rfl
      · rw [hasTo_type hq] at ht; cases ht
    simp [hu, Ty.anyF]
  · cases hu : hasTo h.kind
    · simp [Ty.anyF, bne]
    · simp only [Ty.anyF, bne, if_true, Bool.not_true, Bool.false_or, Bool.or_false]
      cases (Ty.chk h.tk h.tkids == 0) <;> cases (Ty.chk h.uk h.ukids == 0) <;> rfl
theorem okF_any : ∀ f : Tm, anyF (fun h kids => !okT h kids) f = !okF f
  | .nil => rfl
  | .node h kids r => by
    simp only [anyF, okF]
    rw [okF_any r]
    have : okT h kids = (headOk h (len kids) && okF kids) := rfl
    rw [this]
    cases headOk h (len kids) <;> cases okF kids <;> cases okF r <;> rfl
end Tm

set_option maxHeartbeats 1000000 in
set_option maxRecDepth 100000 in
theorem untyped_any (k : Int) (kids : Fo) (A : Option Addr) (n c : Nat) (w : World) (hIs : Ty.Is w k kids A n c) (hS : Shapes w) :
    Calls Tryz.prog 89 #[.agg #[.int .i8 k, .slice A n c]] w fun e w' => e = .returned (.bool (Ty.chk k kids != 0)) ∧ Below w.heap.size w w' := by
  have hB0 := (Below.refl w.heap.size w).alloc (Nat.le_refl _) (.cells #[.int .i8 k, .slice A n c] 25)
  have HC := Lib.hid (fun (W : World) (hb : Below w.heap.size w W) => check_any k kids A n c W (hIs.below hb) (hS.below hb))
  clear hIs hS
  have e1 : (Ty.chk k kids != 0) = (((Ty.chk k kids : Nat) : Int) != 0) := by
    generalize Ty.chk k kids = N
    rw [Bool.eq_iff_iff]; simp
  rw [e1]
  generalize ((Ty.chk k kids : Nat) : Int) = N at *
  clear e1
  go_enter Tryz.func89, Tryz.ntmps89
  go_wp2_with fail
  refine (HC.out _ hB0).mono ?_
  rintro e w3 ⟨rfl, hb⟩
  go_wp2_with fail
  go_ret
  exact ⟨rfl, hB0.trans (hb.mono hB0.size)⟩

/-- the place of the first type of a list of which q holds; -1 -/
def Ty.firstI (q : Int → Fo → Bool) : Fo → Nat → Int
  | .nil, _ => -1
  | .node _ _ k kids r, i => if q k kids then i else Ty.firstI q r (i + 1)
theorem Ty.firstI_iff (q : Int → Fo → Bool) : ∀ (f : Fo) (i : Nat), 0 ≤ Ty.firstI q f i ↔ Ty.anyF q f = true
  | .nil, _ => by simp [Ty.firstI, Ty.anyF]
  | .node _ _ k kids r, i => by
    simp only [Ty.firstI, Ty.anyF, Bool.or_eq_true]
    by_cases hq : q k kids = true
    · rw [if_pos hq]; simp [hq]
    · rw [if_neg hq, Ty.firstI_iff q r (i + 1)]; simp [hq]
theorem Ty.firstI_any (q : Int → Fo → Bool) (f : Fo) (i : Nat) : decide (0 ≤ Ty.firstI q f i) = Ty.anyF q f := by
  rw [Bool.eq_iff_iff, decide_eq_true_eq]; exact Ty.firstI_iff q f i
def Tm.firstI (q : Hd → Tm → Bool) : Tm → Nat → Int
  | .nil, _ => -1
  | .node h kids r, i => if q h kids then i else Tm.firstI q r (i + 1)
theorem Tm.firstI_iff (q : Hd → Tm → Bool) : ∀ (f : Tm) (i : Nat), 0 ≤ Tm.firstI q f i ↔ Tm.anyF q f = true
  | .nil, _ => by simp [Tm.firstI, Tm.anyF]
  | .node h kids r, i => by
    simp only [Tm.firstI, Tm.anyF, Bool.or_eq_true]
    by_cases hq : q h kids = true
    · rw [if_pos hq]; simp [hq]
    · rw [if_neg hq, Tm.firstI_iff q r (i + 1)]; simp [hq]
theorem Tm.firstI_any (q : Hd → Tm → Bool) (f : Tm) (i : Nat) : decide (0 ≤ Tm.firstI q f i) = Tm.anyF q f := by
  rw [Bool.eq_iff_iff, decide_eq_true_eq]; exact Tm.firstI_iff q f i


set_option maxHeartbeats 1000000 in
set_option maxRecDepth 100000 in
theorem ty_index_any (f : FuncId) (q : Int → Fo → Bool) (kids : Fo) (A : Option Addr) (n c : Nat) (w : World) (hL : Ty.Lies w kids A 0) (hn : n = Ty.len kids) (hnc : n ≤ c) (hc : c ≤ maxLen)
    (hcf : ∀ (args : Array Value) (W : World), (callFunc f args).run Tryz.prog W = .ok (.enter f args) W)
    (hf : ∀ (k' : Int) (kids' : Fo) (A' : Option Addr) (n' c' : Nat) (W : World), Ty.Is W k' kids' A' n' c' → Below w.heap.size w W → Calls Tryz.prog f #[.agg #[.int .i8 k', .slice A' n' c']] W fun e w' => e = .returned (.bool (q k' kids')) ∧ Below W.heap.size W w') :
    Calls Tryz.prog 127 #[.slice A n c, .func (Fn.func f) #[] #[]] w fun e w' => e = .returned (.int .i64 (Ty.firstI q kids 0)) ∧ Below w.heap.size w w' := by
  have hst := Over.start hL hn
  have HF := Lib.hid hf
  have HS := Lib.hid hst
  have i5 : (n : Int) ≤ 9223372036854775807 := by unfold maxLen at hc; omega
  clear hst hn hf hL
  obtain ⟨R, hR⟩ : ∃ R, Ty.firstI q kids 0 = R := ⟨_, rfl⟩
  rw [hR]
  have HR := Lib.hid hR
  clear hR
  go_enter Tryz.func127, Tryz.ntmps127
  go_wp2_with fail
  go_loopw [8] (fun v wr => ∃ (i : Nat) (rest : Fo), v = .int .i64 i ∧ Over w wr A n (Ty.nodes kids) i rest ∧ Ty.firstI q rest i = R) (fun v _ => n - (intOf v).toNat)
  case atStart => exact ⟨0, kids, rfl, HS.out, HR.out⟩
  case round =>
    obtain ⟨i, rest, rfl, hO, hR⟩ := hrel
    cases rest with
    | nil =>
      have hi : i = n := by have := hO.i_eq; simpa [Ty.len] using this
      have hB := hO.below
      clear hO
      simp only [Ty.firstI] at hR
      subst hi
      subst hR
      go_wp2_with fail
      go_ret
      exact ⟨rfl, hB⟩
    | node a b k' kids' r =>
      have hst := fun w2 hb => Over.step (w2 := w2) hO hb
      have h1 := hO.i_eq
      have h2 := hO.lies
      have h4 := hO.below
      simp only [Ty.len, Ty.firstI] at h1 hR
      obtain ⟨bb, oo, B, c', rfl, ⟨hk1, hk2⟩, c1, c2, hl1, hl2, hl3, hl4⟩ := h2
      have hcall := HF.out k' kids' B (Ty.len kids') c' wr ⟨hl3, rfl, hl1, hl2, hk1, hk2⟩ h4
      have HS := Lib.hid hst
      have HL := Lib.hid hl4
      have HRR := Lib.hid hR
      have j1 : (i : Int) < n := by omega
      clear hst hl3 hl4 hO hR
      cases hp : q k' kids'
      · have hp0 := HRR.out
        rw [hp, if_neg (by simp)] at hp0
        have HP := Lib.hid hp0
        rw [hp] at hcall
        have HC := Lib.hid hcall
        clear hp hp0 hcall
        go_wp2_with fail
        refine HC.out.mono ?_
        rintro e w2 ⟨rfl, hb⟩
        have hbb := Lib.hid (HS.out w2 hb HL.out)
        clear hb
        go_wp2_with fail
        go_roundw
        case rel => exact ⟨i + 1, r, by go_num, hbb.out, HP.out⟩
        case measure => simp [intOf]; omega
      · have hp0 : R = i := by rw [← HRR.out, hp]; rfl
        rw [hp] at hcall
        have HC := Lib.hid hcall
        clear hp hcall
        subst hp0
        go_wp2_with fail
        refine HC.out.mono ?_
        rintro e w2 ⟨rfl, hb⟩
        go_wp2_with fail
        go_ret
        exact ⟨rfl, h4.trans (hb.mono h4.size)⟩

set_option maxHeartbeats 1000000 in
set_option maxRecDepth 100000 in
theorem ty_contains_any (f : FuncId) (q : Int → Fo → Bool) (kids : Fo) (A : Option Addr) (n c : Nat) (w : World) (hL : Ty.Lies w kids A 0) (hn : n = Ty.len kids) (hnc : n ≤ c) (hc : c ≤ maxLen)
    (hcf : ∀ (args : Array Value) (W : World), (callFunc f args).run Tryz.prog W = .ok (.enter f args) W)
    (hf : ∀ (k' : Int) (kids' : Fo) (A' : Option Addr) (n' c' : Nat) (W : World), Ty.Is W k' kids' A' n' c' → Below w.heap.size w W → Calls Tryz.prog f #[.agg #[.int .i8 k', .slice A' n' c']] W fun e w' => e = .returned (.bool (q k' kids')) ∧ Below W.heap.size W w') :
    Calls Tryz.prog 87 #[.slice A n c, .func (Fn.func f) #[] #[]] w fun e w' => e = .returned (.bool (Ty.anyF q kids)) ∧ Below w.heap.size w w' := by
  have HI := Lib.hid (ty_index_any f q kids A n c w hL hn hnc hc hcf hf)
  rw [← Ty.firstI_any q kids 0]
  clear hL hn hf hcf
  generalize Ty.firstI q kids 0 = R at *
  go_enter Tryz.func87, Tryz.ntmps87
  go_wp2_with fail
  refine HI.out.mono ?_
  rintro e w2 ⟨rfl, hb⟩
  go_wp2_with fail
  go_ret
  exact ⟨rfl, hb⟩
end Go.Proofs.YtfkbdpehdabepaaGreatDoor
