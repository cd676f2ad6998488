import Derived.Test.YtekeoilmfbcefaaGreatDoorChecked
import Derived.WalkKit
import Derived.ChangeSame
import Derived.Deep.Trees
import Derived.Deep.Slices
import Derived.Below
import Derived.Lib.Hide
import Derived.StillTailTactics
import Derived.RegionTactic
import Derived.BigRegion
import Derived.Defers
import Derived.Recover
import Derived.Deep.LoopGhost
import Derived.BigQuiet
import Derived.Deep.QuietTactic
import Derived.WalkSmall
import Derived.OwnWalk
import Derived.Laws.AppendOwn
import Derived.Deep.AppendLies
import Derived.Deep.OwnRows
import Derived.Test.YtekeoilmfbcefaaGreatDoorM6
import Derived.Test.YtekeoilmfbcefaaGreatDoorM8
import Derived.Test.YtekeoilmfbcefaaGreatDoorM1
import Derived.Test.YtekeoilmfbcefaaGreatDoorLow
import Derived.Laws.StructEq
namespace Go.Proofs.YtekeoilmfbcefaaGreatDoor
open Go.RowKit
theorem zEq {P : Prop} (h : P := by
 rw [hp] at HC
 subst hp0
 clear hp
 go_wp2_with fail
 go_still_tail 10, (by kernel_rfl)
 change wpList _ _ _ _ _ (wr.drewN 1)
 have hbB1 := hbB.trans (hBd.out.mono hbB.size)
 have hsz : (wr.drewN 1).heap.size = wr.heap.size := rfl
 clear e0 e1 g0 g1 c1' c2' x1 x2
 generalize wr.drewN 1 = w2 at *
 go_wp2_with fail
 refine (HC.out _ hBd.out).mono ?_
 rintro e w3 ⟨rfl, hb⟩
 go_wp2_with fail
 go_ret
 exact ⟨rfl, hbB1.trans (hb.mono hbB1.size)⟩) : P := h
theorem zFm {P : Prop} (h : P := by
 go_wp2_with fail
 refine (HM.out _ HB0.out).mono ?_
 rintro e w3 ⟨rfl, hb⟩
 have hB1 := kt_ HB0 hb
 have hR0 := zA hb (zC R0.out) R0.out
 have hR1 := zA hb (zC R1.out) R1.out
 obtain ⟨b0, b1, _, _, _⟩ := zF hR0
 obtain ⟨d0, d1, _, _, _⟩ := zF hR1
 have HR0 := k0_ hR0
 have HR1 := k0_ hR1
 clear hb hR0 hR1
 go_wp2_with fail
 refine (HN.out _ hB1.out).mono ?_
 rintro e w4 ⟨rfl, hb⟩
 have hB2 := kt_ hB1 hb
 obtain ⟨b0, b1, _, _, _⟩ := zF (zA hb (zC HR0.out) HR0.out)
 obtain ⟨d0, d1, _, _, _⟩ := zF (zA hb (zC HR1.out) HR1.out)
 clear hb
 go_wp2_with fail
 refine (HKK.out _ hB2.out).mono ?_
 rintro e w5 ⟨rfl, hb⟩
 go_wp2_with fail
 go_ret
 exact ⟨rfl, hB2.out.trans (hb.mono hB2.out.size)⟩) : P := h
theorem zFZ {P : Prop} (h : P := by
 go_wp2_with fail
 refine (HM.out _ HB0.out).mono ?_
 rintro e w3 ⟨rfl, hb⟩
 have hB1 := kt_ HB0 hb
 obtain ⟨d0, d1, _, _, _⟩ := zF (zA hb (zC R1.out) R1.out)
 clear hb
 go_wp2_with fail
 refine (HN.out _ hB1.out).mono ?_
 rintro e w4 ⟨rfl, hb⟩
 go_wp2_with fail
 go_ret
 exact ⟨rfl, hB1.out.trans (hb.mono hB1.out.size)⟩) : P := h
theorem zE5 {P : Prop} (h : P := by
 go_enter Tryz.func37, Tryz.ntmps37
 go_wp2_with fail
 rw [HW.out]
 go_wp2_with fail
 go_ret
 exact ⟨rfl, hB0⟩) : P := h
theorem zE4 {P : Prop} (h : P := by
 have := hO2.i_eq
 cases r2 with
 | nil => rfl
 | node _ _ _ _ _ => simp only [Ty.len] at this; omega) : P := h
theorem zFX {P : Prop} (h : P := by
 go_wp2_with fail
 refine HC.out.mono ?_
 rintro e w2 ⟨rfl, hb⟩
 have hbb := k0_ (HS.out w2 hb HL.out)
 clear hb
 go_wp2_with fail
 go_roundw
 case rel => exact ⟨i + 1, r, by go_num, hbb.out, HP.out⟩
 case measure => simp [intOf]; omega) : P := h
theorem zE2 {P : Prop} (h : P := by
 rintro e w5 ⟨rfl, hb⟩
 go_wp2_with fail
 go_ret
 exact ⟨rfl, hB2.trans (hb.mono hB2.size)⟩) : P := h
theorem zFW {P : Prop} (h : P := by
 go_wp2_with fail
 refine (HM.out _ hB0).mono ?_
 rintro e w3 ⟨rfl, hb⟩
 have hB1 := hB0.trans (hb.mono hB0.size)
 obtain ⟨d0, d1, _, _, _⟩ := zF (zA hb (zC R1.out) R1.out)
 clear hb
 go_wp2_with fail
 refine (HN.out _ hB1).mono ?_
 exact zAu) : P := h
theorem zE0 {P : Prop} (h : P := by
 subst hi
 subst hRR
 go_wp2_with fail
 go_ret
 exact ⟨rfl, hbB⟩) : P := h
theorem zFH {P : Prop} (h : P := by
 go_wp2_with fail
 go_roundw
 case rel => exact ⟨i + 1, r, s, by go_num, hbb.out, hbb2.out, HP.out⟩
 case measure => simp [intOf]; omega) : P := h
theorem zEh {P : Prop} (h : P := by
 go_enter Tryz.func79, Tryz.ntmps79
 go_wp2_with fail
 go_ret
 exact ⟨rfl, hB0⟩) : P := h
theorem zER {P : Prop} (h : P := by
 go_wp2_with fail
 refine (HM.out _ HB0.out).mono ?_
 rintro e w3 ⟨rfl, hb⟩
 go_wp2_with fail
 go_ret
 exact ⟨rfl, HB0.out.trans (hb.mono HB0.out.size)⟩) : P := h
end Go.Proofs.YtekeoilmfbcefaaGreatDoor
namespace Go.Proofs.YtekeoilmfbcefaaGreatDoor
set_option maxHeartbeats 1000000
set_option maxRecDepth 100000
open Go.RowKit
theorem zDJ (args : Array Value) (W : World) : (callFunc 53 args).run Tryz.prog W = .ok (.enter 53 args) W := by simp [go_sem]
namespace Ty
def eqT (k : Int) (kids : Fo) (k' : Int) (kids' : Fo) : Bool := (k == k') && eqF kids kids'
def sameT (k : Int) (kids : Fo) (k' : Int) (kids' : Fo) : Bool := (chk k kids == 0) && (chk k' kids' == 0) && eqT k kids k' kids'
theorem zDA (f g : Fo) (h : len f ≠ len g) : eqF f g = false := by
 cases hq : eqF f g
 ·rfl
 ·exact absurd (zBA f g hq) h
end Ty
structure Over2 (w wr : World) (A : Option Addr) (n i : Nat) (rest : Fo) : Prop where
 i_eq : i + Ty.len rest = n
 lies : Ty.Lies wr rest A i
theorem zBm (jq jT : Fo) (A1 A2 : Option Addr) (n1 c1 n2 c2 : Nat) (w : World) (hL1 : Ty.Lies w jq A1 0) (hn1 : n1 = Ty.len jq) (hnc1 : n1 ≤ c1) (hc1 : c1 ≤ maxLen) (hL2 : Ty.Lies w jT A2 0) (hn2 : n2 = Ty.len jT) (hnc2 : n2 ≤ c2)
  (hf : ∀ (k : Int) (kids : Fo) (A : Option Addr) (n c : Nat) (k' : Int) (kids' : Fo) (A' : Option Addr) (n' c' : Nat) (W : World), Ty.nodes kids < Ty.nodes jq → Ty.Is W k kids A n c → Ty.Is W k' kids' A' n' c' →
   Calls Tryz.prog 53 #[.agg #[.int .i8 k, .slice A n c], .agg #[.int .i8 k', .slice A' n' c']] W fun e w' => e = .returned (.bool (Ty.eqT k kids k' kids')) ∧ Below W.heap.size W w') :
  Calls Tryz.prog 83 #[.slice A1 n1 c1, .slice A2 n2 c2, .func (Fn.func 53) #[] #[]] w fun e w' => e = .returned (.bool (Ty.eqF jq jT)) ∧ Below w.heap.size w w' := by
 have i5 : (n1 : Int) ≤ 9223372036854775807 := by unfold maxLen at hc1; omega
 have hcf := zDJ
 by_cases hne : n1 = n2
 ·have hst := Over.start hL1 hn1
  have hst2 : Over2 w w A2 n2 0 jT := ⟨by omega, hL2⟩
  have HF := k0_ hf
  have HS := k0_ hst
  have HS2 := k0_ hst2
  subst hne
  clear hst hst2 hn1 hn2 hf hL1 hL2
  obtain ⟨R, hR⟩ : ∃ R, Ty.eqF jq jT = R := ⟨_, rfl⟩
  rw [hR]
  have HR := k0_ hR
  clear hR
  have hb1 : ((n1 : Int) != (n1 : Int)) = false := by simp
  have hb2 : ((n1 : Nat) != n1) = false := by simp
  go_enter Tryz.func83, Tryz.ntmps83
  go_wp2_with fail
  go_loopw [17] (fun v wr => ∃ (i : Nat) (r1 r2 : Fo), v = .int .i64 i ∧ Over w wr A1 n1 (Ty.nodes jq) i r1 ∧ Over2 w wr A2 n1 i r2 ∧ Ty.eqF r1 r2 = R) (fun v _ => n1 - (intOf v).toNat)
  case atStart => exact ⟨0, jq, jT, rfl, HS.out, HS2.out, HR.out⟩
  case round =>
   obtain ⟨i, r1, r2, rfl, hO, hO2, hR⟩ := hrel
   cases r1 with
   | nil =>
    have hi : i = n1 := by have := hO.i_eq; simpa [Ty.len] using this
    have hr2 : r2 = .nil := by
     exact zE4
    subst hr2
    have hB := hO.below
    clear hO hO2
    simp only [Ty.eqF] at hR
    exact zDR
   | node a b k' kids' r =>
    cases r2 with
    | nil => have e1 := hO.i_eq; have e2 := hO2.i_eq; simp only [Ty.len] at e1 e2; omega
    | node a2 b2 k2' kids2' s =>
    have hst := fun w2 hb => Over.step (w2 := w2) hO hb
    have h1 := hO.i_eq
    have h2 := hO.lies
    have h3 := hO.sub
    have h4 := hO.below
    have g1 := hO2.i_eq
    have g2 := hO2.lies
    simp only [Ty.len, Ty.nodes, Ty.eqF] at h1 h3 hR g1
    obtain ⟨bb, oo, B, c', rfl, ⟨hk1, hk2⟩, c1', c2', hl1, hl2, hl3, hl4⟩ := h2
    obtain ⟨bb2, oo2, B2, c3, rfl, ⟨gk1, gk2⟩, d1, d2, gl1, gl2, gl3, gl4⟩ := g2
    have hcall := HF.out k' kids' B (Ty.len kids') c' k2' kids2' B2 (Ty.len kids2') c3 ((wr.alloc (.cells #[.int .i8 k', .slice B (Ty.len kids') c'] 25)).alloc (.cells #[.int .i8 k2', .slice B2 (Ty.len kids2') c3] 25)) (by omega) ⟨(hl3.alloc _).alloc _, rfl, hl1, hl2, hk1, hk2⟩ ⟨(gl3.alloc _).alloc _, rfl, gl1, gl2, gk1, gk2⟩
    have HS := k0_ hst
    have HL := k0_ hl4
    have HL2 := k0_ gl4
    have HC := k0_ hcall
    have HRR := k0_ hR
    have j1 : (i : Int) < n1 := by omega
    have hlt2 := Ty.zZ d1
    clear hst hl3 hl4 gl3 gl4 hcall hO hO2 hR
    cases hp : Ty.eqT k' kids' k2' kids2'
    ·have hp0 : R = false := by rw [← HRR.out]; unfold Ty.eqT at hp; rw [hp]; rfl
     rw [hp] at HC
     subst hp0
     clear hp
     go_wp2_with fail
     refine HC.out.mono ?_
     rintro e w2 ⟨rfl, hb⟩
     go_wp2_with fail
     go_ret
     exact ⟨rfl, ((h4.alloc h4.size _).alloc (by have := h4.size; simp; omega) _).trans (hb.mono (by have := h4.size; simp; omega))⟩
    ·have hp0 := HRR.out
     unfold Ty.eqT at hp
     rw [hp, Bool.true_and] at hp0
     have HP := k0_ hp0
     rw [show Ty.eqT k' kids' k2' kids2' = true from hp] at HC
     clear hp hp0
     go_wp2_with fail
     refine HC.out.mono ?_
     rintro e w2 ⟨rfl, hb⟩
     have hB2 : Below wr.heap.size wr w2 := (((Below.refl _ _).alloc (Nat.le_refl _) _).alloc (by simp) _).trans (hb.mono (by simp <;> omega))
     have hbb := k0_ (HS.out w2 hB2 HL.out)
     have hbb2 : Hid (Over2 w w2 (some ⟨bb2, oo2, none⟩) n1 (i + 1) s) := k0_ ⟨by omega, HL2.out.below hB2⟩
     clear hb hB2
     exact zFH
 ·have hR : Ty.eqF jq jT = false := Ty.zDA _ _ (by omega)
  rw [hR]
  have hb1 : ((n1 : Int) != (n2 : Int)) = true := by simp; omega
  have hb2 : ((n1 : Nat) != n2) = true := by simp; omega
  clear hR hn1 hn2 hf hL1 hL2
  go_enter Tryz.func83, Tryz.ntmps83
  go_wp2_with fail
  go_ret
  exact ⟨rfl, Below.refl _ _⟩
theorem zCC (K : Nat) : ∀ (k : Int) (kids : Fo) (A : Option Addr) (n c : Nat) (k' : Int) (kids' : Fo) (A' : Option Addr) (n' c' : Nat) (w : World), Ty.nodes kids < K → Ty.Is w k kids A n c → Ty.Is w k' kids' A' n' c' →
  Calls Tryz.prog 53 #[.agg #[.int .i8 k, .slice A n c], .agg #[.int .i8 k', .slice A' n' c']] w fun e w' => e = .returned (.bool (Ty.eqT k kids k' kids')) ∧ Below w.heap.size w w' := by
 induction K with
 | zero => intro _ _ _ _ _ _ _ _ _ _ _ h; omega
 | succ K ih =>
  intro k kids A n c k' kids' A' n' c' w hK hIs hIs'
  have hB0 := ((Below.refl w.heap.size w).alloc (Nat.le_refl _) (.cells #[.int .i8 k, .slice A n c] 25)).alloc (by simp) (.cells #[.int .i8 k', .slice A' n' c'] 25)
  have heq := fun (W : World) (hb : Below w.heap.size w W) => zBm kids kids' A A' n c n' c' W (hIs.lies.below hb) hIs.n_eq hIs.n_le hIs.c_le (hIs'.lies.below hb) hIs'.n_eq hIs'.n_le
   (fun k jT A n c k' kids' A' n' c' W' h1 h2 h3 => ih k jT A n c k' kids' A' n' c' W' (by omega) h2 h3)
  have HE := k0_ heq
  clear heq hIs hIs' ih
  cases hk : (k == k')
  ·have hres : Ty.eqT k kids k' kids' = false := by unfold Ty.eqT; rw [hk]; rfl
   rw [hres]
   clear hres
   go_enter Tryz.func53, Tryz.ntmps53
   go_wp2_with fail
   go_ret
   exact ⟨rfl, hB0⟩
  ·have hres : Ty.eqT k kids k' kids' = Ty.eqF kids kids' := by unfold Ty.eqT; rw [hk]; rfl
   rw [hres]
   clear hres
   go_enter Tryz.func53, Tryz.ntmps53
   go_wp2_with fail
   refine (HE.out _ hB0).mono ?_
   exact yo
set_option maxHeartbeats 2000000
set_option maxRecDepth 100000
open Go.RowKit
theorem zBa (k : Int) (kids : Fo) (A : Option Addr) (n c : Nat) (w : World) (hIs : Ty.Is w k kids A n c) :
  Calls Tryz.prog 109 #[.agg #[.int .i8 k, .slice A n c]] w fun e w' => e = .returned (.int .i64 (Ty.nod kids)) ∧ Below w.heap.size w w' := by
 have hB0 := (Below.refl w.heap.size w).alloc (Nat.le_refl _) (.cells #[.int .i8 k, .slice A n c] 25)
 have HM := k0_ (fun (W : World) (hb : Below w.heap.size w W) => jm k kids A n c W (hIs.below hb))
 clear hIs
 go_enter Tryz.func109, Tryz.ntmps109
 exact zAs
theorem zBq (k : Int) (kids : Fo) (A : Option Addr) (n c : Nat) (w : World) (hIs : Ty.Is w k kids A n c) :
  Calls Tryz.prog 110 #[.agg #[.int .i8 k, .slice A n c]] w fun e w' => e = .returned (.int .i64 (Ty.dpt kids)) ∧ Below w.heap.size w w' := by
 have hB0 := (Below.refl w.heap.size w).alloc (Nat.le_refl _) (.cells #[.int .i8 k, .slice A n c] 25)
 have HM := k0_ (fun (W : World) (hb : Below w.heap.size w W) => jm k kids A n c W (hIs.below hb))
 clear hIs
 go_enter Tryz.func110, Tryz.ntmps110
 exact zAs
namespace Ty
end Ty
theorem zCY (k : Int) (kids : Fo) (A : Option Addr) (n c : Nat) (k' : Int) (kids' : Fo) (A' : Option Addr) (n' c' : Nat) (w : World) (hIs : Ty.Is w k kids A n c) (hIs' : Ty.Is w k' kids' A' n' c') (hS : Shapes w) :
  Calls Tryz.prog 30 #[.agg #[.int .i8 k, .slice A n c], .agg #[.int .i8 k', .slice A' n' c']] w fun e w' => e = .returned (.bool (Ty.sameT k kids k' kids')) ∧ Below w.heap.size w w' := by
 have hB0 := ((Below.refl w.heap.size w).alloc (Nat.le_refl _) (.cells #[.int .i8 k, .slice A n c] 25)).alloc (by simp) (.cells #[.int .i8 k', .slice A' n' c'] 25)
 have HM := k0_ (fun (W : World) (hb : Below w.heap.size w W) => jK k kids A n c W (hIs.below hb) (hS.below hb))
 have HN := k0_ (fun (W : World) (hb : Below w.heap.size w W) => jK k' kids' A' n' c' W (hIs'.below hb) (hS.below hb))
 have HK := k0_ (fun (W : World) (hb : Below w.heap.size w W) => zCC (Ty.nodes kids + 1) k kids A n c k' kids' A' n' c' W (by omega) (hIs.below hb) (hIs'.below hb))
 clear hIs hIs' hS
 have r0 := zH (zD w (.cells #[.int .i8 k, .slice A n c] 25)) (.cells #[.int .i8 k', .slice A' n' c'] 25)
 have r1 : ((w.alloc (.cells #[.int .i8 k, .slice A n c] 25)).alloc (.cells #[.int .i8 k', .slice A' n' c'] 25)).heap[w.heap.size + 1]? = some (.cells #[.int .i8 k', .slice A' n' c'] 25) := by
  have := zD (w.alloc (.cells #[.int .i8 k, .slice A n c] 25)) (.cells #[.int .i8 k', .slice A' n' c'] 25)
  simpa using this
 have R0 := k0_ r0
 have R1 := k0_ r1
 clear r0 r1
 by_cases h0 : Ty.chk k kids = 0
 ·rw [h0] at HM
  by_cases h1 : Ty.chk k' kids' = 0
  ·have hres : Ty.sameT k kids k' kids' = Ty.eqT k kids k' kids' := by unfold Ty.sameT; rw [h0, h1]; rfl
   rw [hres]
   rw [h1] at HN
   clear hres h0 h1
   go_enter Tryz.func30, Tryz.ntmps30
   go_wp2_with fail
   refine (HM.out _ hB0).mono ?_
   rintro e w3 ⟨rfl, hb⟩
   have hB1 := hB0.trans (hb.mono hB0.size)
   have hR0 := zA hb (zC R0.out) R0.out
   have hR1 := zA hb (zC R1.out) R1.out
   obtain ⟨b0, b1, _, _, _⟩ := zF hR0
   obtain ⟨d0, d1, _, _, _⟩ := zF hR1
   have HR0 := k0_ hR0
   have HR1 := k0_ hR1
   clear hb hR0 hR1
   go_wp2_with fail
   refine (HN.out _ hB1).mono ?_
   rintro e w4 ⟨rfl, hb⟩
   have hB2 := hB1.trans (hb.mono hB1.size)
   obtain ⟨b0, b1, _, _, _⟩ := zF (zA hb (zC HR0.out) HR0.out)
   obtain ⟨d0, d1, _, _, _⟩ := zF (zA hb (zC HR1.out) HR1.out)
   clear hb
   go_wp2_with fail
   refine (HK.out _ hB2).mono ?_
   exact zE2
  ·have hres : Ty.sameT k kids k' kids' = false := by unfold Ty.sameT; simp [h1]
   rw [hres]
   have hc : (((Ty.chk k' kids' : Nat) : Int) == 0) = false := by simp; omega
   generalize Ty.chk k' kids' = C at *
   clear hres h0 h1
   go_enter Tryz.func30, Tryz.ntmps30
   exact zFW
 ·have hres : Ty.sameT k kids k' kids' = false := by unfold Ty.sameT; simp [h0]
  rw [hres]
  have hc : (((Ty.chk k kids : Nat) : Int) == 0) = false := by simp; omega
  generalize Ty.chk k kids = C at *
  clear hres h0
  go_enter Tryz.func30, Tryz.ntmps30
  exact zAs
set_option maxHeartbeats 1000000
open Go.RowKit
namespace Ty
def kidsI (k : Int) : Int := if 0 ≤ k ∧ k ≤ 2 then 0 else if 3 ≤ k ∧ k ≤ 5 then 2 else -1
theorem zCv (k : Int) (n : Nat) : okK k n = (kidsI k == n) := by
 rw [Bool.eq_iff_iff]; unfold okK kidsI
 split
 ·simp <;> omega
 ·split
  ·simp <;> omega
  ·simp <;> omega
end Ty
theorem zD2 (k : Int) (w : World) :
  Calls Tryz.prog 115 #[.int .i8 k] w fun e w' => e = .returned (.int .i64 (Ty.kidsI k)) ∧ w' = w := by
 by_cases hr : 0 ≤ k ∧ k ≤ 5
 ·have hk : k = 0 ∨ k = 1 ∨ k = 2 ∨ k = 3 ∨ k = 4 ∨ k = 5 := by omega
  clear hr
  rcases hk with rfl | rfl | rfl | rfl | rfl | rfl
  all_goals
   go_enter Tryz.func115, Tryz.ntmps115
   go_wp2_with fail
   go_ret
   exact ⟨rfl, rfl⟩
 ·have e : Ty.kidsI k = -1 := by unfold Ty.kidsI; rw [if_neg (by omega), if_neg (by omega)]
  rw [e]
  have h0 : (k == 0) = false := by simp; omega
  have h1 : (k == 1) = false := by simp; omega
  have h2 : (k == 2) = false := by simp; omega
  have h3 : (k == 3) = false := by simp; omega
  have h4 : (k == 4) = false := by simp; omega
  have h5 : (k == 5) = false := by simp; omega
  clear hr e
  go_enter Tryz.func115, Tryz.ntmps115
  go_wp2_with fail
  go_ret
  exact ⟨rfl, rfl⟩
set_option maxRecDepth 100000 in
theorem zBQ (K : Nat) : ∀ (k : Int) (kids : Fo) (A : Option Addr) (n c : Nat) (w : World), Ty.nodes kids < K → Ty.Is w k kids A n c →
  Calls Tryz.prog 106 #[.agg #[.int .i8 k, .slice A n c]] w fun e w' => e = .returned (.bool (Ty.okT k kids)) ∧ Below w.heap.size w w' := by
 induction K with
 | zero => intro _ _ _ _ _ _ h; omega
 | succ K ih =>
  intro k kids A n c w hK hIs
  have i5 : (n : Int) ≤ 9223372036854775807 := by have h1 := hIs.n_le; have h2 := hIs.c_le; unfold maxLen at h2; omega
  have hneq := hIs.n_eq
  have IH := k0_ ih
  have HI := k0_ hIs
  have hB0 := (Below.refl w.heap.size w).alloc (Nat.le_refl _) (.cells #[.int .i8 k, .slice A n c] 25)
  have hkk := Ty.zCv k n
  have hka := zD2 k
  clear ih hIs
  obtain ⟨b0, b1, _, _, hbl⟩ := zF (zD w (.cells #[.int .i8 k, .slice A n c] 25))
  have hst := Over.start ((HI.out.alloc (.cells #[.int .i8 k, .slice A n c] 25)).lies) HI.out.n_eq
  cases hok : Ty.okK k n
  ·have hres : Ty.okT k kids = false := by unfold Ty.okT; rw [← hneq, hok]; rfl
   rw [hres]
   rw [hok] at hkk
   have hd : (Ty.kidsI k != (n : Int)) = true := by rw [bne, ← hkk]; rfl
   generalize Ty.kidsI k = KI at *
   clear hres hok hkk hst hneq
   go_enter Tryz.func106, Tryz.ntmps106
   go_wp2_with fail
   generalize w.alloc (.cells #[.int .i8 k, .slice A n c] 25) = w1 at *
   go_quiet ((go_at_call 115; exact Calls.quiet_of_same (hka _)))
   go_wp2_with fail
   go_ret
   exact ⟨rfl, below_drewN hB0 _⟩
  ·have hres : Ty.okT k kids = Ty.okF kids := by unfold Ty.okT; rw [← hneq, hok]; rfl
   rw [hres]
   rw [hok] at hkk
   have hd : (Ty.kidsI k != (n : Int)) = false := by rw [bne, ← hkk]; rfl
   generalize Ty.kidsI k = KI at *
   obtain ⟨R, hR⟩ : ∃ R, Ty.okF kids = R := ⟨_, rfl⟩
   rw [hR]
   have HR := k0_ hR
   have HS0 := k0_ hst
   clear hres hok hkk hst hneq hR
   go_enter Tryz.func106, Tryz.ntmps106
   go_wp2_with fail
   generalize w.alloc (.cells #[.int .i8 k, .slice A n c] 25) = w1 at *
   go_quiet ((go_at_call 115; exact Calls.quiet_of_same (hka _)))
   have HB1 := k0_ (below_drewN (Below.refl w1.heap.size w1) nq)
   go_wp2_with fail
   go_loopw [3] (fun v3 wr => ∃ (i : Nat) (rest : Fo), v3 = .int .i64 i ∧ Over w1 wr A n (Ty.nodes kids) i rest ∧ Ty.okF rest = R) (fun v _ => n - (intOf v).toNat)
   case atStart => exact ⟨0, kids, rfl, ⟨HS0.out.i_eq, HS0.out.lies.below HB1.out, HS0.out.sub, HB1.out⟩, HR.out⟩
   case round =>
    obtain ⟨i, rest, rfl, hO, hRR⟩ := hrel
    have hbB := hB0.trans (hO.below.mono hB0.size)
    obtain ⟨c0, c1⟩ := hO.box b0 b1
    clear b0 b1
    cases rest with
    | nil =>
     have hi : i = n := by have := hO.i_eq; simpa [Ty.len] using this
     simp only [Ty.okF] at hRR
     clear hO
     exact zE0
    | node a b k' kids' r =>
     have hst := fun w2 hb => Over.step (w2 := w2) hO hb
     have h1 := hO.i_eq
     have h2 := hO.lies
     have h3 := hO.sub
     simp only [Ty.len, Ty.nodes, Ty.okF] at h1 h3 hRR
     obtain ⟨bb, oo, B, c', rfl, ⟨hk1, hk2⟩, c1', c2', hl1, hl2, hl3, hl4⟩ := h2
     have j1 : (i : Int) < n := by omega
     have hcall := IH.out k' kids' B (Ty.len kids') c' wr (by omega) ⟨hl3, rfl, hl1, hl2, hk1, hk2⟩
     have HS := k0_ hst
     have HL := k0_ hl4
     have HC := k0_ hcall
     have HRR := k0_ hRR
     clear hst hl3 hl4 hcall hO hRR
     cases hp : Ty.okT k' kids'
     ·have hp0 : R = false := by unfold Ty.okT at hp; rw [← HRR.out, hp]; rfl
      rw [hp] at HC
      subst hp0
      clear hp
      go_wp2_with fail
      refine HC.out.mono ?_
      rintro e w2 ⟨rfl, hb⟩
      go_wp2_with fail
      go_ret
      exact ⟨rfl, hbB.trans (hb.mono hbB.size)⟩
     ·have hp0 := HRR.out
      rw [show (Ty.okK k' (Ty.len kids') && Ty.okF kids') = true from hp, Bool.true_and] at hp0
      have HP := k0_ hp0
      rw [hp] at HC
      clear hp hp0
      exact zFX
set_option maxRecDepth 100000 in
theorem jG (k : Int) (kids : Fo) (A : Option Addr) (n c : Nat) (w : World) (hIs : Ty.Is w k kids A n c) :
  Calls Tryz.prog 75 #[.agg #[.int .i8 k, .slice A n c]] w fun e w' => e = .returned (.int .i64 (Ty.chk k kids)) ∧ Below w.heap.size w w' := by
 have HN := k0_ (fun (W : World) (hb : Below w.heap.size w W) => jX k kids A n c W (hIs.below hb))
 have HM := k0_ (fun (W : World) (hb : Below w.heap.size w W) => jy k kids A n c W (hIs.below hb))
 have HF := k0_ (fun (W : World) (hb : Below w.heap.size w W) => zBQ (Ty.nodes kids + 1) k kids A n c W (by omega) (hIs.below hb))
 have hB0 := (Below.refl w.heap.size w).alloc (Nat.le_refl _) (.cells #[.int .i8 k, .slice A n c] 25)
 have R0 := k0_ (zD w (.cells #[.int .i8 k, .slice A n c] 25))
 clear hIs
 by_cases h1 : 8192 < Ty.nodes kids + 1
 ·have e1 : Ty.chk k kids = 32 := by unfold Ty.chk; rw [if_pos h1]
  have e2 : ((Ty.nod kids : Nat) : Int) = 8193 := by unfold Ty.nod; omega
  rw [e1]
  rw [e2] at HN
  clear e2 e1 h1
  go_enter Tryz.func75, Tryz.ntmps75
  go_wp2_with fail
  refine (HN.out _ hB0).mono ?_
  exact yo
 ·have e2 : ((Ty.nod kids : Nat) : Int) ≤ 8192 := by unfold Ty.nod; omega
  have e4 : Ty.dpt kids = min (Ty.dep kids + 1) 201 := by unfold Ty.dpt; rw [if_neg h1]
  by_cases h2 : 200 < Ty.dep kids + 1
  ·have e1 : Ty.chk k kids = 31 := by unfold Ty.chk; rw [if_neg h1, if_pos h2]
   have e3 : ((Ty.dpt kids : Nat) : Int) = 201 := by rw [e4]; omega
   rw [e1]
   rw [e3] at HM
   generalize Ty.nod kids = N at *
   clear e3 e1 h1 h2 e4
   go_enter Tryz.func75, Tryz.ntmps75
   go_wp2_with fail
   refine (HN.out _ hB0).mono ?_
   rintro e w3 ⟨rfl, hb⟩
   have hB1 := hB0.trans (hb.mono hB0.size)
   obtain ⟨b0, b1, _, _, _⟩ := zF (zA hb (zC R0.out) R0.out)
   clear hb
   go_wp2_with fail
   refine (HM.out _ hB1).mono ?_
   exact zAu
  ·have e3 : ((Ty.dpt kids : Nat) : Int) ≤ 200 := by rw [e4]; omega
   have e1 : Ty.chk k kids = if Ty.okT k kids then 0 else 20 := by unfold Ty.chk; rw [if_neg h1, if_neg h2]; rfl
   rw [e1]
   generalize Ty.nod kids = N at *
   generalize Ty.dpt kids = D at *
   clear e1 h1 h2 e4
   cases ho : Ty.okT k kids
   all_goals
    rw [ho] at HF
    clear ho
    go_enter Tryz.func75, Tryz.ntmps75
    go_wp2_with fail
    refine (HN.out _ hB0).mono ?_
    rintro e w3 ⟨rfl, hb⟩
    have hB1 := hB0.trans (hb.mono hB0.size)
    have R1 := kp_ hb R0
    obtain ⟨b0, b1, _, _, _⟩ := zF R1.out
    clear hb
    go_wp2_with fail
    refine (HM.out _ hB1).mono ?_
    rintro e w4 ⟨rfl, hb⟩
    have hB2 := hB1.trans (hb.mono hB1.size)
    obtain ⟨b0, b1, _, _, _⟩ := zF (zA hb (zC R1.out) R1.out)
    clear hb
    go_wp2_with fail
    refine (HF.out _ hB2).mono ?_
    exact zE2
end Go.Proofs.YtekeoilmfbcefaaGreatDoor
namespace Go.Proofs.YtekeoilmfbcefaaGreatDoor
open Go.RowKit
theorem qm (w : World) (k : Int) (A : Option Addr) (n c : Nat) (k' : Int) (A' : Option Addr) (n' c' : Nat) :
  Below w.heap.size w ((w.alloc (.cells #[.int .i8 k, .slice A n c] 25)).alloc (.cells #[.int .i8 k', .slice A' n' c'] 25)) ∧
  ((w.alloc (.cells #[.int .i8 k, .slice A n c] 25)).alloc (.cells #[.int .i8 k', .slice A' n' c'] 25)).heap[w.heap.size]? = some (.cells #[.int .i8 k, .slice A n c] 25) ∧
  ((w.alloc (.cells #[.int .i8 k, .slice A n c] 25)).alloc (.cells #[.int .i8 k', .slice A' n' c'] 25)).heap[w.heap.size + 1]? = some (.cells #[.int .i8 k', .slice A' n' c'] 25) := by
 refine ⟨((Below.refl w.heap.size w).alloc (Nat.le_refl _) _).alloc (by simp) _, zH (zD w _) _, ?_⟩
 have := zD (w.alloc (.cells #[.int .i8 k, .slice A n c] 25)) (.cells #[.int .i8 k', .slice A' n' c'] 25)
 simpa using this
theorem Ty.uE {k : Int} {n m : Nat} (h1 : Ty.okK k n = true) (h2 : Ty.okK k m = true) : n = m := by
 unfold Ty.okK at h1 h2
 split at h1
 ·simp at h1; rw [if_pos ‹_›] at h2; simp at h2; omega
 ·rw [if_neg ‹_›] at h2
  split at h1
  ·simp at h1; rw [if_pos ‹_›] at h2; simp at h2; omega
  ·cases h1
set_option maxHeartbeats 2000000 in
set_option maxRecDepth 100000 in
theorem zBR (K : Nat) : ∀ (k : Int) (kids : Fo) (A : Option Addr) (n c : Nat) (k' : Int) (kids' : Fo) (A' : Option Addr) (n' c' : Nat) (w : World), Ty.nodes kids < K → Ty.Is w k kids A n c → Ty.Is w k' kids' A' n' c' → Ty.okT k kids = true → Ty.okT k' kids' = true →
  Calls Tryz.prog 80 #[.agg #[.int .i8 k, .slice A n c], .agg #[.int .i8 k', .slice A' n' c']] w fun e w' => e = .returned (.bool (Ty.eqT k kids k' kids')) ∧ Below w.heap.size w w' := by
 induction K with
 | zero => intro _ _ _ _ _ _ _ _ _ _ _ h; omega
 | succ K ih =>
  intro k kids A n c k' kids' A' n' c' w hK hIs hIs' ho ho'
  have i5 : (n : Int) ≤ 9223372036854775807 := by have h1 := hIs.n_le; have h2 := hIs.c_le; unfold maxLen at h2; omega
  obtain ⟨hB0, hR0, hR1⟩ := qm w k A n c k' A' n' c'
  have HI := k0_ hIs
  have HI' := k0_ hIs'
  have IH := k0_ ih
  unfold Ty.okT at ho ho'
  rw [Bool.and_eq_true] at ho ho'
  have HO := k0_ ho
  have HO' := k0_ ho'
  clear ih hIs hIs' ho ho'
  obtain ⟨b0, b1, _, _, hb0⟩ := zF hR0
  obtain ⟨d0, d1, _, _, hd0⟩ := zF hR1
  cases hk : (k == k')
  ·have hres : Ty.eqT k kids k' kids' = false := by unfold Ty.eqT; rw [hk]; rfl
   have hk2 : (k != k') = true := by rw [bne, hk]; rfl
   rw [hres]
   clear hres hR0 hR1 hk
   go_enter Tryz.func80, Tryz.ntmps80
   go_wp2_with fail
   go_ret
   exact ⟨rfl, hB0⟩
  ·have hres : Ty.eqT k kids k' kids' = Ty.eqF kids kids' := by unfold Ty.eqT; rw [hk]; rfl
   have hk2 : (k != k') = false := by rw [bne, hk]; rfl
   have hnn : n = n' := by
    have e : k = k' := by simpa using hk
    subst e
    have := Ty.uE HO.out.1 HO'.out.1
    have h1 := HI.out.n_eq
    have h2 := HI'.out.n_eq
    omega
   subst hnn
   rw [hres]
   obtain ⟨R, hR⟩ : ∃ R, Ty.eqF kids kids' = R := ⟨_, rfl⟩
   rw [hR]
   have HR := k0_ hR
   have hlies2 := HI'.out.lies.below hB0
   have hst := Over.start (HI.out.lies.below hB0) HI.out.n_eq
   have hst2 : Over2 w _ A' n 0 kids' := ⟨by have := HI'.out.n_eq; omega, hlies2⟩
   clear hres hR0 hR1 hR hlies2
   generalize hw1 : (w.alloc (.cells #[.int .i8 k, .slice A n c] 25)).alloc (.cells #[.int .i8 k', .slice A' n c'] 25) = w1 at *
   have HS := k0_ hst
   have HS2 := k0_ hst2
   have HW := k0_ hw1
   clear hst hst2 hw1
   go_enter Tryz.func80, Tryz.ntmps80
   go_wp2_with fail
   rw [HW.out]
   go_loopw [5] (fun v5 wr => ∃ (i : Nat) (r1 r2 : Fo), v5 = .int .i64 i ∧ Over w1 wr A n (Ty.nodes kids) i r1 ∧ Over2 w wr A' n i r2 ∧ Ty.eqF r1 r2 = R ∧ Ty.okF r1 = true ∧ Ty.okF r2 = true) (fun v _ => n - (intOf v).toNat)
   case atStart => exact ⟨0, kids, kids', rfl, HS.out, HS2.out, HR.out, HO.out.2, HO'.out.2⟩
   case round =>
    obtain ⟨i, r1, r2, rfl, hO, hO2, hRR, ho1, ho2⟩ := hrel
    have hbB := hB0.trans (hO.below.mono hB0.size)
    obtain ⟨e0, e1⟩ := hO.box b0 b1
    obtain ⟨g0, g1⟩ := hO.box d0 d1
    clear b0 b1 d0 d1
    cases r1 with
    | nil =>
     have hi : i = n := by have := hO.i_eq; simpa [Ty.len] using this
     have hr2 : r2 = .nil := by
      exact zE4
     subst hr2
     clear hO hO2 ho1 ho2
     simp only [Ty.eqF] at hRR
     exact zE0
    | node a b kk kks r =>
     cases r2 with
     | nil => have q1 := hO.i_eq; have q2 := hO2.i_eq; simp only [Ty.len] at q1 q2; omega
     | node a2 b2 kk2 kks2 s =>
     have hst := fun w2 hb => Over.step (w2 := w2) hO hb
     have h1 := hO.i_eq
     have h2 := hO.lies
     have h3 := hO.sub
     have q1 := hO2.i_eq
     have q2 := hO2.lies
     simp only [Ty.len, Ty.nodes, Ty.eqF, Ty.okF] at h1 h3 hRR q1 ho1 ho2
     rw [Bool.and_eq_true] at ho1 ho2
     obtain ⟨bb, oo, B, c9, rfl, ⟨hk1, hk2'⟩, c1', c2', hl1, hl2, hl3, hl4⟩ := h2
     obtain ⟨bb2, oo2, B2, c3, rfl, ⟨gk1, gk2⟩, x1, x2, gl1, gl2, gl3, gl4⟩ := q2
     have hcall := fun (W : World) (hb : Below wr.heap.size wr W) => IH.out kk kks B (Ty.len kks) c9 kk2 kks2 B2 (Ty.len kks2) c3 W (by omega) ⟨hl3.below hb, rfl, hl1, hl2, hk1, hk2'⟩ ⟨gl3.below hb, rfl, gl1, gl2, gk1, gk2⟩ ho1.1 ho2.1
     have HST := k0_ hst
     have HL := k0_ hl4
     have HL2 := k0_ gl4
     have HC := k0_ hcall
     have HRR := k0_ hRR
     have HOO := k0_ (And.intro ho1.2 ho2.2)
     have j1 : (i : Int) < n := by omega
     have j2 : (0 : Int) ≤ i ∧ (i : Int) < n := by omega
     have hBd := k0_ (below_drewN (Below.refl wr.heap.size wr) 1)
     clear hst hl3 hl4 gl3 gl4 hcall hO hO2 hRR ho1 ho2
     cases hp : Ty.eqT kk kks kk2 kks2
     ·have hp0 : R = false := by rw [← HRR.out]; unfold Ty.eqT at hp; rw [hp]; rfl
      exact zEq
     ·have hp0 := HRR.out
      unfold Ty.eqT at hp
      rw [hp, Bool.true_and] at hp0
      have HP := k0_ hp0
      rw [show Ty.eqT kk kks kk2 kks2 = true from hp] at HC
      clear hp hp0
      go_wp2_with fail
      go_still_tail 10, (by kernel_rfl)
      change wpList _ _ _ _ _ (wr.drewN 1)
      have hsz : (wr.drewN 1).heap.size = wr.heap.size := rfl
      clear e0 e1 g0 g1 c1' c2' x1 x2
      generalize wr.drewN 1 = w2 at *
      go_wp2_with fail
      refine (HC.out _ hBd.out).mono ?_
      rintro e w3 ⟨rfl, hb⟩
      have hB2 : Below wr.heap.size wr w3 := hBd.out.trans (hb.mono (by omega))
      have hbb := k0_ (HST.out w3 hB2 HL.out)
      have hbb2 : Hid (Over2 w w3 (some ⟨bb2, oo2, none⟩) n (i + 1) s) := k0_ ⟨by omega, HL2.out.below hB2⟩
      clear hb hB2 hsz
      go_wp2_with fail
      go_roundw
      case rel => exact ⟨i + 1, r, s, by go_num, hbb.out, hbb2.out, HP.out, HOO.out.1, HOO.out.2⟩
      case measure => simp [intOf]; omega
theorem Ty.ze {k : Int} {kids : Fo} (h : Ty.chk k kids = 0) : Ty.okT k kids = true ∧ Ty.nodes kids + 1 ≤ 8192 ∧ Ty.dep kids + 1 ≤ 200 := by
 unfold Ty.chk at h
 split at h
 ·cases h
 ·split at h
  ·cases h
  ·split at h
   ·rename_i h1 h2 h3; exact ⟨h3, by omega, by omega⟩
   ·cases h
set_option maxHeartbeats 2000000 in
set_option maxRecDepth 100000 in
theorem kv (k : Int) (kids : Fo) (A : Option Addr) (n c : Nat) (k' : Int) (kids' : Fo) (A' : Option Addr) (n' c' : Nat) (w : World) (hIs : Ty.Is w k kids A n c) (hIs' : Ty.Is w k' kids' A' n' c') :
  Calls Tryz.prog 49 #[.agg #[.int .i8 k, .slice A n c], .agg #[.int .i8 k', .slice A' n' c']] w fun e w' => e = .returned (.bool (Ty.sameT k kids k' kids')) ∧ Below w.heap.size w w' := by
 obtain ⟨hB0, hR0, hR1⟩ := qm w k A n c k' A' n' c'
 have HM := k0_ (fun (W : World) (hb : Below w.heap.size w W) => jG k kids A n c W (hIs.below hb))
 have HN := k0_ (fun (W : World) (hb : Below w.heap.size w W) => jG k' kids' A' n' c' W (hIs'.below hb))
 have HK := k0_ (fun (W : World) (hb : Below w.heap.size w W) => zBR (Ty.nodes kids + 1) k kids A n c k' kids' A' n' c' W (by omega) (hIs.below hb) (hIs'.below hb))
 have R0 := k0_ hR0
 have R1 := k0_ hR1
 clear hIs hIs' hR0 hR1
 by_cases h0 : Ty.chk k kids = 0
 ·by_cases h1 : Ty.chk k' kids' = 0
  ·have hres : Ty.sameT k kids k' kids' = Ty.eqT k kids k' kids' := by unfold Ty.sameT; rw [h0, h1]; rfl
   have HK2 := k0_ (fun W hb => HK.out W hb (Ty.ze h0).1 (Ty.ze h1).1)
   rw [hres]
   rw [h0] at HM
   rw [h1] at HN
   clear hres h0 h1 HK
   go_enter Tryz.func49, Tryz.ntmps49
   go_wp2_with fail
   refine (HM.out _ hB0).mono ?_
   rintro e w3 ⟨rfl, hb⟩
   have hB1 := hB0.trans (hb.mono hB0.size)
   have hR0 := zA hb (zC R0.out) R0.out
   have hR1 := zA hb (zC R1.out) R1.out
   obtain ⟨b0, b1, _, _, _⟩ := zF hR0
   obtain ⟨d0, d1, _, _, _⟩ := zF hR1
   have HR0 := k0_ hR0
   have HR1 := k0_ hR1
   clear hb hR0 hR1
   go_wp2_with fail
   refine (HN.out _ hB1).mono ?_
   rintro e w4 ⟨rfl, hb⟩
   have hB2 := hB1.trans (hb.mono hB1.size)
   obtain ⟨b0, b1, _, _, _⟩ := zF (zA hb (zC HR0.out) HR0.out)
   obtain ⟨d0, d1, _, _, _⟩ := zF (zA hb (zC HR1.out) HR1.out)
   clear hb
   go_wp2_with fail
   refine (HK2.out _ hB2).mono ?_
   exact zE2
  ·have hres : Ty.sameT k kids k' kids' = false := by unfold Ty.sameT; simp [h1]
   rw [hres]
   rw [h0] at HM
   have hc : (((Ty.chk k' kids' : Nat) : Int) == 0) = false := by simp; omega
   generalize Ty.chk k' kids' = C at *
   clear hres h0 h1 HK
   go_enter Tryz.func49, Tryz.ntmps49
   exact zFW
 ·have hres : Ty.sameT k kids k' kids' = false := by unfold Ty.sameT; simp [h0]
  rw [hres]
  have hc : (((Ty.chk k kids : Nat) : Int) == 0) = false := by simp; omega
  generalize Ty.chk k kids = C at *
  clear hres h0 HK
  go_enter Tryz.func49, Tryz.ntmps49
  exact zAs
namespace Ty
def two (k : Int) (kids : Fo) (k' : Int) (kids' : Fo) : Fo := .node 0 0 k kids (.node 0 0 k' kids' .nil)
end Ty
namespace Ty
end Ty
theorem Ty.vw {k : Int} {kids : Fo} (h : Ty.okT k kids = true) : k = 0 ∨ k = 1 ∨ k = 2 ∨ k = 3 ∨ k = 4 ∨ k = 5 := by
 unfold Ty.okT Ty.okK at h
 split at h
 ·omega
 ·split at h
  ·omega
  ·simp at h
end Go.Proofs.YtekeoilmfbcefaaGreatDoor
namespace Go.Proofs.YtekeoilmfbcefaaGreatDoor
namespace Ty
def agF : Fo → Fo → Bool
 | .nil, _ => true
 | .node _ _ _ _ _, .nil => true
 | .node _ _ k kids r, .node _ _ k' kids' r' => ((k == 0) || (k' == 0) || ((k == k') && agF kids kids')) && agF r r'
def agT (k : Int) (kids : Fo) (k' : Int) (kids' : Fo) : Bool := (k == 0) || (k' == 0) || ((k == k') && agF kids kids')
def agreeT (k : Int) (kids : Fo) (k' : Int) (kids' : Fo) : Bool := (chk k kids == 0) && (chk k' kids' == 0) && agT k kids k' kids'
theorem vN (kids : Fo) (k' : Int) (kids' : Fo) : agT 0 kids k' kids' = true := rfl
theorem jw (k : Int) (kids kids' : Fo) : agT k kids 0 kids' = true := by unfold agT; simp
theorem zDS {k k' : Int} (kids kids' : Fo) (h1 : k ≠ 0) (h2 : k' ≠ 0) (h : k ≠ k') : agT k kids k' kids' = false := by unfold agT; simp [h1, h2, h]
theorem zAy {k : Int} (kids kids' : Fo) (h1 : k ≠ 0) : agT k kids k kids' = agF kids kids' := by unfold agT; simp [h1]
theorem jg {k : Int} {kids : Fo} (h : okT k kids = true) (h3 : 3 ≤ k) : ∃ a b k1 f1 c d k2 f2, kids = .node a b k1 f1 (.node c d k2 f2 .nil) ∧ okT k1 f1 = true ∧ okT k2 f2 = true := by
 unfold okT okK at h
 rw [if_neg (by omega), Bool.and_eq_true] at h
 split at h
 ·have hl : len kids = 2 := by simpa using h.1
  match kids, hl, h.2 with
  | .node a b k1 f1 (.node c d k2 f2 .nil), _, ho =>
   simp only [okF, Bool.and_eq_true] at ho
   exact ⟨a, b, k1, f1, c, d, k2, f2, rfl, by unfold okT; rw [Bool.and_eq_true]; exact ⟨ho.1.1, ho.1.2⟩, by unfold okT; rw [Bool.and_eq_true]; exact ⟨ho.2.1.1, ho.2.1.2⟩⟩
  | .nil, hl, _ => simp [len] at hl
  | .node _ _ _ _ .nil, hl, _ => simp [len] at hl
  | .node _ _ _ _ (.node _ _ _ _ (.node _ _ _ _ _)), hl, _ => simp [len] at hl
 ·simp at h
theorem zB5 {k : Int} {kids : Fo} (h : okT k kids = true) (h3 : k ≤ 2) : kids = .nil := by
 have h2 := h
 unfold okT okK at h
 have hr := vw h2
 rw [if_pos (by omega), Bool.and_eq_true] at h
 cases kids with
 | nil => rfl
 | node _ _ _ _ _ => simp [len] at h
end Ty
end Go.Proofs.YtekeoilmfbcefaaGreatDoor
namespace Go.Proofs.YtekeoilmfbcefaaGreatDoor
open Go.RowKit
theorem zBo (d : Nat) (a b c e : Int) (w : World) : (Op.equalIn (d + 1 + 1) 96 (.agg #[.int .i8 a, .int .i8 b]) (.agg #[.int .i8 c, .int .i8 e])).run Tryz.prog w = .ok ((a == c) && (b == e)) w := by
 have hu : Tryz.prog.underlying 96 = some (.array 2 22) := Tryz.underlying96
 have hi : Tryz.prog.underlying 22 = some (.int .i8) := Tryz.underlying22
 have e1 := fun W => run_equalIn_int (P := Tryz.prog) W d 22 .i8 .i8 a c hi
 have e2 := fun W => run_equalIn_int (P := Tryz.prog) W d 22 .i8 .i8 b e hi
 have p1 : ∀ (x y : Int) W, (part 22 #[.int .i8 x, .int .i8 y] 0).run Tryz.prog W = .ok (.int .i8 x) W := fun _ _ W => by kernel_rfl
 have p2 : ∀ (x y : Int) W, (part 22 #[.int .i8 x, .int .i8 y] 1).run Tryz.prog W = .ok (.int .i8 y) W := fun _ _ W => by kernel_rfl
 have hs : ∀ W, (sizeOf 22).run Tryz.prog W = .ok 1 W := fun W => by kernel_rfl
 rw [Op.equalIn]
 simp only [Sem.run_bind, run_underlying hu, Result.andThen_ok, hs]
 rw [Std.Legacy.Range.forIn_eq_forIn_range']
 simp only [Std.Legacy.Range.size, List.range', List.forIn_cons, List.forIn_nil, Sem.run_bind, Nat.zero_add, Nat.mul_one, p1, e1, Result.andThen_ok]
 cases a == c
 ·simp
 ·cases hb : b == e <;> simp [p2, e2, hb]
theorem zn (a b c d : Int) (w : World) : (binOp .eql 96 (.agg #[.int .i8 a, .int .i8 b]) (.agg #[.int .i8 c, .int .i8 d])).run Tryz.prog w = .ok (.bool ((a == c) && (b == d))) w := by
 rw [run_eql_struct, zBo 9998 a b c d w]
 rfl
theorem Ty.yD {w : World} {a b c d : Nat} {k1 k2 : Int} {f1 f2 : Fo} {A : Option Addr} (h : Ty.Lies w (.node a b k1 f1 (.node c d k2 f2 .nil)) A 0) :
  ∃ bb oo B1 c1 B2 c2, A = some ⟨bb, oo, none⟩ ∧ w.cell? ⟨bb, oo, none⟩ = some (.int .i8 k1) ∧ w.cell? ⟨bb, oo + 1, none⟩ = some (.slice B1 (Ty.len f1) c1) ∧ w.cell? ⟨bb, oo + 2, none⟩ = some (.int .i8 k2) ∧ w.cell? ⟨bb, oo + 3, none⟩ = some (.slice B2 (Ty.len f2) c2) ∧ Ty.Is w k1 f1 B1 (Ty.len f1) c1 ∧ Ty.Is w k2 f2 B2 (Ty.len f2) c2 := by
 obtain ⟨bb, oo, B1, c1, rfl, ⟨h1, h2⟩, h3, h4, h5, h6, h7, ⟨bb', oo', B2, c2, e, ⟨g1, g2⟩, g3, g4, g5, g6, g7, -⟩⟩ := h
 exact zFK
set_option maxHeartbeats 4000000 in
set_option maxRecDepth 100000 in
theorem wT (K : Nat) : ∀ (k : Int) (kids : Fo) (A : Option Addr) (n c : Nat) (k' : Int) (kids' : Fo) (A' : Option Addr) (n' c' : Nat) (w : World), Ty.nodes kids < K → Ty.Is w k kids A n c → Ty.Is w k' kids' A' n' c' → Ty.okT k kids = true → Ty.okT k' kids' = true →
  Calls Tryz.prog 37 #[.agg #[.int .i8 k, .slice A n c], .agg #[.int .i8 k', .slice A' n' c']] w fun e w' => e = .returned (.bool (Ty.agT k kids k' kids')) ∧ Below w.heap.size w w' := by
 induction K with
 | zero => intro _ _ _ _ _ _ _ _ _ _ _ h; omega
 | succ K ih =>
  intro k kids A n c k' kids' A' n' c' w hK hIs hIs' ho ho'
  obtain ⟨hB0, hR0, hR1⟩ := qm w k A n c k' A' n' c'
  have HI := k0_ (hIs.below hB0)
  have HI' := k0_ (hIs'.below hB0)
  have IH := k0_ ih
  clear ih hIs hIs'
  obtain ⟨b0, b1, _, _, hb0⟩ := zF hR0
  obtain ⟨d0, d1, _, _, hd0⟩ := zF hR1
  clear hR0 hR1
  generalize hw1 : (w.alloc (.cells #[.int .i8 k, .slice A n c] 25)).alloc (.cells #[.int .i8 k', .slice A' n' c'] 25) = w1 at *
  have HW := k0_ hw1
  clear hw1
  by_cases hk0 : k = 0
  ·subst hk0
   rw [Ty.vN]
   clear ho ho'
   exact zE5
  by_cases hk0' : k' = 0
  ·subst hk0'
   rw [Ty.jw]
   have hz : (k == 0) = false := by simpa using hk0
   clear ho ho' hk0
   exact zE5
  have hz : (k == 0) = false := by simpa using hk0
  have hz' : (k' == 0) = false := by simpa using hk0'
  by_cases hkk : k = k'
  ·subst hkk
   by_cases hlow : k ≤ 2
   ·obtain rfl := Ty.zB5 ho hlow
    obtain rfl := Ty.zB5 ho' hlow
    rw [Ty.zAy _ _ hk0]
    have hr := Ty.vw ho
    have hr2 : k = 1 ∨ k = 2 := by omega
    clear ho ho' hr hk0 hk0' hlow
    rcases hr2 with rfl | rfl
    all_goals
     have e1 := fun W => zn 1 1 1 1 W
     have e2 := fun W => zn 2 2 1 1 W
     have e3 := fun W => zn 2 2 2 2 W
     exact zE5
   ·obtain ⟨a1, a2, p1, f1, a3, a4, p2, f2, rfl, o1, o2⟩ := Ty.jg ho (by omega)
    obtain ⟨a1', a2', p1', f1', a3', a4', p2', f2', rfl, o1', o2'⟩ := Ty.jg ho' (by omega)
    rw [Ty.zAy _ _ hk0]
    have hn := HI.out.n_eq
    have hn' := HI'.out.n_eq
    simp only [Ty.len] at hn hn'
    subst hn
    subst hn'
    simp only [Ty.nodes] at hK
    obtain ⟨bb, oo, B1, c1, B2, c2, rfl, x0, x1, x2, x3, i1, i2⟩ := Ty.yD HI.out.lies
    obtain ⟨bb', oo', B1', c1', B2', c2', rfl, y0, y1, y2, y3, i1', i2'⟩ := Ty.yD HI'.out.lies
    have D1 := k0_ (fun (u : World) (hE : Below w1.heap.size w1 u) => IH.out p1 f1 B1 _ c1 p1' f1' B1' _ c1' u (by omega) (i1.below hE) (i1'.below hE) o1 o1')
    have D2 := k0_ (fun (u : World) (hE : Below w1.heap.size w1 u) => IH.out p2 f2 B2 _ c2 p2' f2' B2' _ c2' u (by omega) (i2.below hE) (i2'.below hE) o2 o2')
    have hres : Ty.agF (.node a1 a2 p1 f1 (.node a3 a4 p2 f2 .nil)) (.node a1' a2' p1' f1' (.node a3' a4' p2' f2' .nil)) = (Ty.agT p1 f1 p1' f1' && Ty.agT p2 f2 p2' f2') := by simp [Ty.agF, Ty.agT]
    rw [hres]
    have hr := Ty.vw ho
    have hr2 : k = 3 ∨ k = 4 ∨ k = 5 := by omega
    generalize hg1 : Ty.agT p1 f1 p1' f1' = R1 at D1
    generalize hg2 : Ty.agT p2 f2 p2' f2' = R2 at D2
    generalize Ty.len f1 = m1 at *
    generalize Ty.len f2 = m2 at *
    generalize Ty.len f1' = m1' at *
    generalize Ty.len f2' = m2' at *
    clear hres ho ho' hr hk0 hk0' hlow HI HI' IH i1 i2 i1' i2' o1 o2 o1' o2' hK hg1 hg2
    rcases hr2 with rfl | rfl | rfl
    all_goals
     have e1 := fun W => zn 3 3 1 1 W
     have e2 := fun W => zn 3 3 2 2 W
     have e3 := fun W => zn 3 3 3 3 W
     have f1 := fun W => zn 4 4 1 1 W
     have f2 := fun W => zn 4 4 2 2 W
     have f3 := fun W => zn 4 4 3 3 W
     have f4 := fun W => zn 4 4 4 4 W
     have g1 := fun W => zn 5 5 1 1 W
     have g2 := fun W => zn 5 5 2 2 W
     have g3 := fun W => zn 5 5 3 3 W
     have g4 := fun W => zn 5 5 4 4 W
     have g5 := fun W => zn 5 5 5 5 W
     cases R1
     all_goals
      go_enter Tryz.func37, Tryz.ntmps37
      go_wp2_with fail
      rw [HW.out]
      go_wp2_with fail
      clear e1 e2 e3 f1 f2 f3 f4 g1 g2 g3 g4 g5
      have B0 := zV b0
      have B1 := zV b1
      have C0 := zV d0
      have C1 := zV d1
      have X0 := zV x0
      have X1 := zV x1
      have X2 := zV x2
      have X3 := zV x3
      have Y0 := zV y0
      have Y1 := zV y1
      have Y2 := zV y2
      have Y3 := zV y3
      clear b0 b1 d0 d1 x0 x1 x2 x3 y0 y1 y2 y3
      refine jU (by kernel_rfl) (by kernel_rfl) ?_
      repeat
       first
        | go_big_quiet_skip
        | (go_big_quiet_want
           go_big_quiet_op
           first
            | go_big_quiet_on
            | (refine ⟨_, fun _ => rfl, ?_⟩
               go_big_quiet_on)
            | (apply Exists.intro
               refine ⟨fun h => ?_, ?_⟩
               ·first
                 | (go_at_call 37; with_reducible exact jC h (D1.out h.u h.low))
                 | (go_at_call 37; with_reducible exact jC h (D2.out h.u h.low))
               go_big_quiet_on))
      refine wpQuiet_nil ?_
      rintro _ ⟨⟨w8, E⟩, rfl⟩
      go_wp2_with fail
      go_ret
      exact ⟨rfl, hB0.trans (E.mono hB0.size)⟩
  ·rw [Ty.zDS _ _ hk0 hk0' hkk]
   have e1 : ∀ W, (binOp .eql 96 (.agg #[.int .i8 k, .int .i8 k']) (.agg #[.int .i8 1, .int .i8 1])).run Tryz.prog W = .ok (.bool false) W := fun W => by rw [zn]; simp; omega
   have e2 : ∀ W, (binOp .eql 96 (.agg #[.int .i8 k, .int .i8 k']) (.agg #[.int .i8 2, .int .i8 2])).run Tryz.prog W = .ok (.bool false) W := fun W => by rw [zn]; simp; omega
   have e3 : ∀ W, (binOp .eql 96 (.agg #[.int .i8 k, .int .i8 k']) (.agg #[.int .i8 3, .int .i8 3])).run Tryz.prog W = .ok (.bool false) W := fun W => by rw [zn]; simp; omega
   have e4 : ∀ W, (binOp .eql 96 (.agg #[.int .i8 k, .int .i8 k']) (.agg #[.int .i8 4, .int .i8 4])).run Tryz.prog W = .ok (.bool false) W := fun W => by rw [zn]; simp; omega
   have e5 : ∀ W, (binOp .eql 96 (.agg #[.int .i8 k, .int .i8 k']) (.agg #[.int .i8 5, .int .i8 5])).run Tryz.prog W = .ok (.bool false) W := fun W => by rw [zn]; simp; omega
   clear ho ho' hkk hk0 hk0'
   exact zE5
end Go.Proofs.YtekeoilmfbcefaaGreatDoor
namespace Go.Proofs.YtekeoilmfbcefaaGreatDoor
set_option maxHeartbeats 2000000
set_option maxRecDepth 100000
open Go.RowKit
theorem zCD (k : Int) (kids : Fo) (A : Option Addr) (n c : Nat) (k' : Int) (kids' : Fo) (A' : Option Addr) (n' c' : Nat) (w : World) (hIs : Ty.Is w k kids A n c) (hIs' : Ty.Is w k' kids' A' n' c') (hS : Shapes w) :
  Calls Tryz.prog 14 #[.agg #[.int .i8 k, .slice A n c], .agg #[.int .i8 k', .slice A' n' c']] w fun e w' => e = .returned (.bool (Ty.agreeT k kids k' kids')) ∧ Below w.heap.size w w' := by
 obtain ⟨hB0, hR0, hR1⟩ := qm w k A n c k' A' n' c'
 have HM := k0_ (fun (W : World) (hb : Below w.heap.size w W) => jK k kids A n c W (hIs.below hb) (hS.below hb))
 have HN := k0_ (fun (W : World) (hb : Below w.heap.size w W) => jK k' kids' A' n' c' W (hIs'.below hb) (hS.below hb))
 have HK := k0_ (fun (W : World) (hb : Below w.heap.size w W) (h1 : Ty.okT k kids = true) (h2 : Ty.okT k' kids' = true) => wT (Ty.nodes kids + 1) k kids A n c k' kids' A' n' c' W (by omega) (hIs.below hb) (hIs'.below hb) h1 h2)
 have R0 := k0_ hR0
 have R1 := k0_ hR1
 have HB0 := k0_ hB0
 clear hIs hIs' hS hR0 hR1
 by_cases h0 : Ty.chk k kids = 0
 ·have o1 := (Ty.ze h0).1
  rw [h0] at HM
  by_cases h1 : Ty.chk k' kids' = 0
  ·have o2 := (Ty.ze h1).1
   have hres : Ty.agreeT k kids k' kids' = Ty.agT k kids k' kids' := by unfold Ty.agreeT; rw [h0, h1]; rfl
   have HKK := k0_ (fun (W : World) (hb : Below w.heap.size w W) => HK.out W hb o1 o2)
   rw [hres]
   rw [h1] at HN
   clear hres h0 h1 o1 o2 HK hB0
   go_enter Tryz.func14, Tryz.ntmps14
   exact zFm
  ·have hres : Ty.agreeT k kids k' kids' = false := by unfold Ty.agreeT; simp [h1]
   rw [hres]
   have hc : (((Ty.chk k' kids' : Nat) : Int) == 0) = false := by simp; omega
   generalize Ty.chk k' kids' = C at *
   clear hres h0 h1 HK o1 hB0
   go_enter Tryz.func14, Tryz.ntmps14
   exact zFZ
 ·have hres : Ty.agreeT k kids k' kids' = false := by unfold Ty.agreeT; simp [h0]
  rw [hres]
  have hc : (((Ty.chk k kids : Nat) : Int) == 0) = false := by simp; omega
  generalize Ty.chk k kids = C at *
  clear hres h0 HK hB0
  go_enter Tryz.func14, Tryz.ntmps14
  exact zER
theorem zAD (K : Nat) : ∀ (k : Int) (kids : Fo) (A : Option Addr) (n c : Nat) (k' : Int) (kids' : Fo) (A' : Option Addr) (n' c' : Nat) (w : World), Ty.nodes kids < K → Ty.Is w k kids A n c → Ty.Is w k' kids' A' n' c' → Ty.okT k kids = true → Ty.okT k' kids' = true →
  Calls Tryz.prog 79 #[.agg #[.int .i8 k, .slice A n c], .agg #[.int .i8 k', .slice A' n' c']] w fun e w' => e = .returned (.bool (Ty.agT k kids k' kids')) ∧ Below w.heap.size w w' := by
 induction K with
 | zero => intro _ _ _ _ _ _ _ _ _ _ _ h; omega
 | succ K ih =>
  intro k kids A n c k' kids' A' n' c' w hK hIs hIs' ho ho'
  have i5 : (n : Int) ≤ 9223372036854775807 := by have h1 := hIs.n_le; have h2 := hIs.c_le; unfold maxLen at h2; omega
  obtain ⟨hB0, hR0, hR1⟩ := qm w k A n c k' A' n' c'
  have HI := k0_ hIs
  have HI' := k0_ hIs'
  have IH := k0_ ih
  clear ih hIs hIs'
  obtain ⟨b0, b1, _, _, hb0⟩ := zF hR0
  obtain ⟨d0, d1, _, _, hd0⟩ := zF hR1
  by_cases hk0 : k = 0
  ·subst hk0
   rw [Ty.vN]
   clear ho ho' hR0 hR1
   exact zEh
  by_cases hk0' : k' = 0
  ·subst hk0'
   rw [Ty.jw]
   have hz : (k == 0) = false := by simpa using hk0
   clear ho ho' hk0 hR0 hR1
   exact zEh
  have hz : (k == 0) = false := by simpa using hk0
  have hz' : (k' == 0) = false := by simpa using hk0'
  by_cases hkk : k = k'
  ·have hnn : n = n' := by
    subst hkk
    have h1 := HI.out.n_eq
    have h2 := HI'.out.n_eq
    unfold Ty.okT at ho ho'
    rw [Bool.and_eq_true] at ho ho'
    have := Ty.uE ho.1 ho'.1
    omega
   subst hkk
   subst hnn
   rw [Ty.zAy _ _ hk0]
   have hk2 : (k != k) = false := by simp
   have hF1 : Ty.okF kids = true := by unfold Ty.okT at ho; rw [Bool.and_eq_true] at ho; exact ho.2
   have hF2 : Ty.okF kids' = true := by unfold Ty.okT at ho'; rw [Bool.and_eq_true] at ho'; exact ho'.2
   obtain ⟨R, hR⟩ : ∃ R, Ty.agF kids kids' = R := ⟨_, rfl⟩
   rw [hR]
   have HR := k0_ hR
   have hlies2 := HI'.out.lies.below hB0
   have hst := Over.start (HI.out.lies.below hB0) HI.out.n_eq
   have hst2 : Over2 w _ A' n 0 kids' := ⟨by have := HI'.out.n_eq; omega, hlies2⟩
   have HF1 := k0_ hF1
   have HF2 := k0_ hF2
   clear hR0 hR1 hR hlies2 ho ho' hF1 hF2 hk0 hk0'
   generalize hw1 : (w.alloc (.cells #[.int .i8 k, .slice A n c] 25)).alloc (.cells #[.int .i8 k, .slice A' n c'] 25) = w1 at *
   have HS := k0_ hst
   have HS2 := k0_ hst2
   have HW := k0_ hw1
   clear hst hst2 hw1
   go_enter Tryz.func79, Tryz.ntmps79
   go_wp2_with fail
   rw [HW.out]
   go_wp2_with fail
   go_loopw [5] (fun v5 wr => ∃ (i : Nat) (r1 r2 : Fo), v5 = .int .i64 i ∧ Over w1 wr A n (Ty.nodes kids) i r1 ∧ Over2 w wr A' n i r2 ∧ Ty.agF r1 r2 = R ∧ Ty.okF r1 = true ∧ Ty.okF r2 = true) (fun v _ => n - (intOf v).toNat)
   case atStart => exact ⟨0, kids, kids', rfl, HS.out, HS2.out, HR.out, HF1.out, HF2.out⟩
   case round =>
    obtain ⟨i, r1, r2, rfl, hO, hO2, hRR, hF1, hF2⟩ := hrel
    have hbB := hB0.trans (hO.below.mono hB0.size)
    obtain ⟨e0, e1⟩ := hO.box b0 b1
    obtain ⟨g0, g1⟩ := hO.box d0 d1
    clear b0 b1 d0 d1
    cases r1 with
    | nil =>
     have hi : i = n := by have := hO.i_eq; simpa [Ty.len] using this
     have hr2 : r2 = .nil := by
      exact zE4
     subst hr2
     clear hO hO2 hF1 hF2
     simp only [Ty.agF] at hRR
     exact zE0
    | node a b kk kks r =>
     cases r2 with
     | nil => have q1 := hO.i_eq; have q2 := hO2.i_eq; simp only [Ty.len] at q1 q2; omega
     | node a2 b2 kk2 kks2 s =>
     have hst := fun w2 hb => Over.step (w2 := w2) hO hb
     have h1 := hO.i_eq
     have h2 := hO.lies
     have h3 := hO.sub
     have q1 := hO2.i_eq
     have q2 := hO2.lies
     simp only [Ty.len, Ty.nodes, Ty.agF] at h1 h3 hRR q1
     simp only [Ty.okF, Bool.and_eq_true] at hF1 hF2
     obtain ⟨bb, oo, B, c9, rfl, ⟨hk1, hk2'⟩, c1', c2', hl1, hl2, hl3, hl4⟩ := h2
     obtain ⟨bb2, oo2, B2, c3, rfl, ⟨gk1, gk2⟩, x1, x2, gl1, gl2, gl3, gl4⟩ := q2
     have o1 : Ty.okT kk kks = true := by unfold Ty.okT; rw [Bool.and_eq_true]; exact ⟨hF1.1.1, hF1.1.2⟩
     have o2 : Ty.okT kk2 kks2 = true := by unfold Ty.okT; rw [Bool.and_eq_true]; exact ⟨hF2.1.1, hF2.1.2⟩
     have hcall := fun (W : World) (hb : Below wr.heap.size wr W) => IH.out kk kks B (Ty.len kks) c9 kk2 kks2 B2 (Ty.len kks2) c3 W (by omega) ⟨hl3.below hb, rfl, hl1, hl2, hk1, hk2'⟩ ⟨gl3.below hb, rfl, gl1, gl2, gk1, gk2⟩ o1 o2
     have HST := k0_ hst
     have HL := k0_ hl4
     have HL2 := k0_ gl4
     have HC := k0_ hcall
     have HRR := k0_ hRR
     have HF3 := k0_ hF1.2
     have HF4 := k0_ hF2.2
     have j1 : (i : Int) < n := by omega
     have j2 : (0 : Int) ≤ i ∧ (i : Int) < n := by omega
     have hBd := k0_ (below_drewN (Below.refl wr.heap.size wr) 1)
     clear hst hl3 hl4 gl3 gl4 hcall hO hO2 hRR hF1 hF2 o1 o2
     cases hp : Ty.agT kk kks kk2 kks2
     ·have hp0 : R = false := by rw [← HRR.out]; unfold Ty.agT at hp; rw [hp]; rfl
      exact zEq
     ·have hp0 := HRR.out
      unfold Ty.agT at hp
      rw [hp, Bool.true_and] at hp0
      have HP := k0_ hp0
      rw [show Ty.agT kk kks kk2 kks2 = true from hp] at HC
      clear hp hp0
      go_wp2_with fail
      go_still_tail 10, (by kernel_rfl)
      change wpList _ _ _ _ _ (wr.drewN 1)
      have hsz : (wr.drewN 1).heap.size = wr.heap.size := rfl
      clear e0 e1 g0 g1 c1' c2' x1 x2
      generalize wr.drewN 1 = w2 at *
      go_wp2_with fail
      refine (HC.out _ hBd.out).mono ?_
      rintro e w3 ⟨rfl, hb⟩
      have hB2 : Below wr.heap.size wr w3 := hBd.out.trans (hb.mono (by omega))
      have hbb := k0_ (HST.out w3 hB2 HL.out)
      have hbb2 : Hid (Over2 w w3 (some ⟨bb2, oo2, none⟩) n (i + 1) s) := k0_ ⟨by omega, HL2.out.below hB2⟩
      clear hb hB2 hsz
      go_wp2_with fail
      go_roundw
      case rel => exact ⟨i + 1, r, s, by go_num, hbb.out, hbb2.out, HP.out, HF3.out, HF4.out⟩
      case measure => simp [intOf]; omega
  ·rw [Ty.zDS _ _ hk0 hk0' hkk]
   have hk2 : (k != k') = true := by simpa using hkk
   clear ho ho' hkk hk0 hk0' hR0 hR1
   exact zEh
theorem zAG (k : Int) (kids : Fo) (A : Option Addr) (n c : Nat) (k' : Int) (kids' : Fo) (A' : Option Addr) (n' c' : Nat) (w : World) (hIs : Ty.Is w k kids A n c) (hIs' : Ty.Is w k' kids' A' n' c') :
  Calls Tryz.prog 48 #[.agg #[.int .i8 k, .slice A n c], .agg #[.int .i8 k', .slice A' n' c']] w fun e w' => e = .returned (.bool (Ty.agreeT k kids k' kids')) ∧ Below w.heap.size w w' := by
 obtain ⟨hB0, hR0, hR1⟩ := qm w k A n c k' A' n' c'
 have HM := k0_ (fun (W : World) (hb : Below w.heap.size w W) => jG k kids A n c W (hIs.below hb))
 have HN := k0_ (fun (W : World) (hb : Below w.heap.size w W) => jG k' kids' A' n' c' W (hIs'.below hb))
 have HK := k0_ (fun (W : World) (hb : Below w.heap.size w W) (h1 : Ty.okT k kids = true) (h2 : Ty.okT k' kids' = true) => zAD (Ty.nodes kids + 1) k kids A n c k' kids' A' n' c' W (by omega) (hIs.below hb) (hIs'.below hb) h1 h2)
 have R0 := k0_ hR0
 have R1 := k0_ hR1
 have HB0 := k0_ hB0
 clear hIs hIs' hR0 hR1
 by_cases h0 : Ty.chk k kids = 0
 ·have o1 := (Ty.ze h0).1
  rw [h0] at HM
  by_cases h1 : Ty.chk k' kids' = 0
  ·have o2 := (Ty.ze h1).1
   have hres : Ty.agreeT k kids k' kids' = Ty.agT k kids k' kids' := by unfold Ty.agreeT; rw [h0, h1]; rfl
   have HKK := k0_ (fun (W : World) (hb : Below w.heap.size w W) => HK.out W hb o1 o2)
   rw [hres]
   rw [h1] at HN
   clear hres h0 h1 o1 o2 HK hB0
   go_enter Tryz.func48, Tryz.ntmps48
   exact zFm
  ·have hres : Ty.agreeT k kids k' kids' = false := by unfold Ty.agreeT; simp [h1]
   rw [hres]
   have hc : (((Ty.chk k' kids' : Nat) : Int) == 0) = false := by simp; omega
   generalize Ty.chk k' kids' = C at *
   clear hres h0 h1 HK o1 hB0
   go_enter Tryz.func48, Tryz.ntmps48
   exact zFZ
 ·have hres : Ty.agreeT k kids k' kids' = false := by unfold Ty.agreeT; simp [h0]
  rw [hres]
  have hc : (((Ty.chk k kids : Nat) : Int) == 0) = false := by simp; omega
  generalize Ty.chk k kids = C at *
  clear hres h0 HK hB0
  go_enter Tryz.func48, Tryz.ntmps48
  exact zER
namespace Ty
def leF : Fo → Fo → Bool
 | .nil, _ => true
 | .node _ _ _ _ _, .nil => true
 | .node _ _ k kids r, .node _ _ k' kids' r' => ((k == 0) || ((k == k') && leF kids kids')) && leF r r'
def leT (k : Int) (kids : Fo) (k' : Int) (kids' : Fo) : Bool := (k == 0) || ((k == k') && leF kids kids')
theorem yF : ∀ f : Fo, leF f f = true
 | .nil => rfl
 | .node _ _ k kids r => by simp [leF, yF kids, yF r]
theorem uD {k : Int} {kids : Fo} (h : chk k kids = 0) : okK k (len kids) = true ∧ okF kids = true := by
 have := (ze h).1
 unfold okT at this
 rw [Bool.and_eq_true] at this
 exact this
def mF : Fo → Fo → Fo
 | .nil, _ => .nil
 | .node a b k kids r, .nil => .node a b k kids r
 | .node a b k kids r, .node _ _ k' kids' r' => .node a b (if k = 0 then k' else k) (if k = 0 then kids' else if k' = 0 then kids else mF kids kids') (mF r r')
def mK (k k' : Int) : Int := if k = 0 then k' else k
def mT (k : Int) (kids : Fo) (k' : Int) (kids' : Fo) : Fo := if k = 0 then kids' else if k' = 0 then kids else mF kids kids'
end Ty
end Go.Proofs.YtekeoilmfbcefaaGreatDoor
