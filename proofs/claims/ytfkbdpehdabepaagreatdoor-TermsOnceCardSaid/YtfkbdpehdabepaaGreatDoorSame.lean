/-
  types.alike, types.Same; Nodes, Depth, Known, Ground.
-/
import Derived.Test.YtfkbdpehdabepaaGreatDoorFormed
import Derived.Deep.OwnRows
namespace Go.Proofs.YtfkbdpehdabepaaGreatDoor
open Go.RowKit

theorem cf_alike (args : Array Value) (W : World) : (callFunc 71 args).run Tryz.prog W = .ok (.enter 71 args) W := by simp [go_sem]
namespace Ty
def eqT (k : Int) (kids : Fo) (k' : Int) (kids' : Fo) : Bool := (k == k') && eqF kids kids'
def sameT (k : Int) (kids : Fo) (k' : Int) (kids' : Fo) : Bool := (chk k kids == 0) && (chk k' kids' == 0) && eqT k kids k' kids'
theorem eqF_ne (f g : Fo) (h : len f ≠ len g) : eqF f g = false := by
  cases hq : eqF f g
  · rfl
  · exact absurd (eqF_len f g hq) h
end Ty

/-- a loop's state over a second list -/
structure Over2 (w wr : World) (A : Option Addr) (n i : Nat) (rest : Fo) : Prop where
  i_eq : i + Ty.len rest = n
  lies : Ty.Lies wr rest A i

set_option maxHeartbeats 1000000 in
set_option maxRecDepth 100000 in
theorem equal_any (kids1 kids2 : Fo) (A1 A2 : Option Addr) (n1 c1 n2 c2 : Nat) (w : World) (hL1 : Ty.Lies w kids1 A1 0) (hn1 : n1 = Ty.len kids1) (hnc1 : n1 ≤ c1) (hc1 : c1 ≤ maxLen) (hL2 : Ty.Lies w kids2 A2 0) (hn2 : n2 = Ty.len kids2) (hnc2 : n2 ≤ c2)
    (hf : ∀ (k : Int) (kids : Fo) (A : Option Addr) (n c : Nat) (k' : Int) (kids' : Fo) (A' : Option Addr) (n' c' : Nat) (W : World), Ty.nodes kids < Ty.nodes kids1 → Ty.Is W k kids A n c → Ty.Is W k' kids' A' n' c' →
      Calls Tryz.prog 71 #[.agg #[.int .i8 k, .slice A n c], .agg #[.int .i8 k', .slice A' n' c']] W fun e w' => e = .returned (.bool (Ty.eqT k kids k' kids')) ∧ Below W.heap.size W w') :
    Calls Tryz.prog 114 #[.slice A1 n1 c1, .slice A2 n2 c2, .func (Fn.func 71) #[] #[]] w fun e w' => e = .returned (.bool (Ty.eqF kids1 kids2)) ∧ Below w.heap.size w w' := by
  have i5 : (n1 : Int) ≤ 9223372036854775807 := by unfold maxLen at hc1; omega
  have hcf := cf_alike
  by_cases hne : n1 = n2
  · have hst := Over.start hL1 hn1
    have hst2 : Over2 w w A2 n2 0 kids2 := ⟨by omega, hL2⟩
    have HF := Lib.hid hf
    have HS := Lib.hid hst
    have HS2 := Lib.hid hst2
    subst hne
    clear hst hst2 hn1 hn2 hf hL1 hL2
    obtain ⟨R, hR⟩ : ∃ R, Ty.eqF kids1 kids2 = R := ⟨_, rfl⟩
    rw [hR]
    have HR := Lib.hid hR
    clear hR
    have hb1 : ((n1 : Int) != (n1 : Int)) = false := by simp
    have hb2 : ((n1 : Nat) != n1) = false := by simp
    go_enter Tryz.func114, Tryz.ntmps114
    go_wp2_with fail
    go_loopw [17] (fun v wr => ∃ (i : Nat) (r1 r2 : Fo), v = .int .i64 i ∧ Over w wr A1 n1 (Ty.nodes kids1) i r1 ∧ Over2 w wr A2 n1 i r2 ∧ Ty.eqF r1 r2 = R) (fun v _ => n1 - (intOf v).toNat)
    case atStart => exact ⟨0, kids1, kids2, rfl, HS.out, HS2.out, HR.out⟩
    case round =>
      obtain ⟨i, r1, r2, rfl, hO, hO2, hR⟩ := hrel
      cases r1 with
      | nil =>
        have hi : i = n1 := by have := hO.i_eq; simpa [Ty.len] using this
        have hr2 : r2 = .nil := by
          have := hO2.i_eq
          cases r2 with
          | nil => rfl
          | node _ _ _ _ _ => simp only [Ty.len] at this; omega
        subst hr2
        have hB := hO.below
        clear hO hO2
        simp only [Ty.eqF] at hR
        subst hi
        subst hR
        go_wp2_with fail
        go_ret
        exact ⟨rfl, hB⟩
      | node a b k' kids' r =>
        cases r2 with
        | nil => have e1 := hO.i_eq; have e2 := hO2.i_eq; simp only [Ty.len] at e1 e2; omega
        | node a2 b2 k2' kids2' s =>
        have hst := fun w2 hb => Over.step (w2 := w2) hO hb
        have h1 := hO.i_eq
        have h2 := hO.lies
        have h3 := hO.sub
        have h4 := hO.below
        have g1 := hO2.i_eq
        have g2 := hO2.lies
        simp only [Ty.len, Ty.nodes, Ty.eqF] at h1 h3 hR g1
        obtain ⟨bb, oo, B, c', rfl, ⟨hk1, hk2⟩, c1', c2', hl1, hl2, hl3, hl4⟩ := h2
        obtain ⟨bb2, oo2, B2, c3, rfl, ⟨gk1, gk2⟩, d1, d2, gl1, gl2, gl3, gl4⟩ := g2
        have hcall := HF.out k' kids' B (Ty.len kids') c' k2' kids2' B2 (Ty.len kids2') c3 ((wr.alloc (.cells #[.int .i8 k', .slice B (Ty.len kids') c'] 25)).alloc (.cells #[.int .i8 k2', .slice B2 (Ty.len kids2') c3] 25)) (by omega) ⟨(hl3.alloc _).alloc _, rfl, hl1, hl2, hk1, hk2⟩ ⟨(gl3.alloc _).alloc _, rfl, gl1, gl2, gk1, gk2⟩
        have HS := Lib.hid hst
        have HL := Lib.hid hl4
        have HL2 := Lib.hid gl4
        have HC := Lib.hid hcall
        have HRR := Lib.hid hR
        have j1 : (i : Int) < n1 := by omega
        have hlt2 := Ty.cell_lt d1
        clear hst hl3 hl4 gl3 gl4 hcall hO hO2 hR
        cases hp : Ty.eqT k' kids' k2' kids2'
        · have hp0 : R = false := by rw [← HRR.out]; unfold Ty.eqT at hp; rw [hp]; rfl
          rw [hp] at HC
          subst hp0
          clear hp
          go_wp2_with fail
          refine HC.out.mono ?_
          rintro e w2 ⟨rfl, hb⟩
          go_wp2_with fail
          go_ret
          exact ⟨rfl, ((h4.alloc h4.size _).alloc (by have := h4.size; simp; omega) _).trans (hb.mono (by have := h4.size; simp; omega))⟩
        · have hp0 := HRR.out
          unfold Ty.eqT at hp
          rw [hp, Bool.true_and] at hp0
          have HP := Lib.hid hp0
          rw [show Ty.eqT k' kids' k2' kids2' = true from hp] at HC
          clear hp hp0
          go_wp2_with fail
          refine HC.out.mono ?_
          rintro e w2 ⟨rfl, hb⟩
          have hB2 : Below wr.heap.size wr w2 := (((Below.refl _ _).alloc (Nat.le_refl _) _).alloc (by simp) _).trans (hb.mono (by simp <;> omega))
          have hbb := Lib.hid (HS.out w2 hB2 HL.out)
          have hbb2 : Hid (Over2 w w2 (some ⟨bb2, oo2, none⟩) n1 (i + 1) s) := Lib.hid ⟨by omega, HL2.out.below hB2⟩
          clear hb hB2
          go_wp2_with fail
          go_roundw
          case rel => exact ⟨i + 1, r, s, by go_num, hbb.out, hbb2.out, HP.out⟩
          case measure => simp [intOf]; omega
  · have hR : Ty.eqF kids1 kids2 = false := Ty.eqF_ne _ _ (by omega)
    rw [hR]
    have hb1 : ((n1 : Int) != (n2 : Int)) = true := by simp; omega
    have hb2 : ((n1 : Nat) != n2) = true := by simp; omega
    clear hR hn1 hn2 hf hL1 hL2
    go_enter Tryz.func114, Tryz.ntmps114
    go_wp2_with fail
    go_ret
    exact ⟨rfl, Below.refl _ _⟩

set_option maxHeartbeats 1000000 in
set_option maxRecDepth 100000 in
theorem alike_any (K : Nat) : ∀ (k : Int) (kids : Fo) (A : Option Addr) (n c : Nat) (k' : Int) (kids' : Fo) (A' : Option Addr) (n' c' : Nat) (w : World), Ty.nodes kids < K → Ty.Is w k kids A n c → Ty.Is w k' kids' A' n' c' →
    Calls Tryz.prog 71 #[.agg #[.int .i8 k, .slice A n c], .agg #[.int .i8 k', .slice A' n' c']] w fun e w' => e = .returned (.bool (Ty.eqT k kids k' kids')) ∧ Below w.heap.size w w' := by
  induction K with
  | zero => intro _ _ _ _ _ _ _ _ _ _ _ h; omega
  | succ K ih =>
    intro k kids A n c k' kids' A' n' c' w hK hIs hIs'
    have hB0 := ((Below.refl w.heap.size w).alloc (Nat.le_refl _) (.cells #[.int .i8 k, .slice A n c] 25)).alloc (by simp) (.cells #[.int .i8 k', .slice A' n' c'] 25)
    have heq := fun (W : World) (hb : Below w.heap.size w W) => equal_any kids kids' A A' n c n' c' W (hIs.lies.below hb) hIs.n_eq hIs.n_le hIs.c_le (hIs'.lies.below hb) hIs'.n_eq hIs'.n_le
      (fun k kids2 A n c k' kids' A' n' c' W' h1 h2 h3 => ih k kids2 A n c k' kids' A' n' c' W' (by omega) h2 h3)
    have HE := Lib.hid heq
    clear heq hIs hIs' ih
    cases hk : (k == k')
    · have hres : Ty.eqT k kids k' kids' = false := by unfold Ty.eqT; rw [hk]; rfl
      rw [hres]
      clear hres
      go_enter Tryz.func71, Tryz.ntmps71
      go_wp2_with fail
      go_ret
      exact ⟨rfl, hB0⟩
    · have hres : Ty.eqT k kids k' kids' = Ty.eqF kids kids' := by unfold Ty.eqT; rw [hk]; rfl
      rw [hres]
      clear hres
      go_enter Tryz.func71, Tryz.ntmps71
      go_wp2_with fail
      refine (HE.out _ hB0).mono ?_
      rintro e w3 ⟨rfl, hb⟩
      go_wp2_with fail
      go_ret
      exact ⟨rfl, hB0.trans (hb.mono hB0.size)⟩
end Go.Proofs.YtfkbdpehdabepaaGreatDoor
