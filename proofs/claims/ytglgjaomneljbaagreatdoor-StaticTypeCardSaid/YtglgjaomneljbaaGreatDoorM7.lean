import Derived.Deep.OwnRows
import Derived.Test.YtglgjaomneljbaaGreatDoorM8
import Derived.Test.YtglgjaomneljbaaGreatDoorLow
import Derived.Laws.StructEq
namespace Go.Proofs.YtglgjaomneljbaaGreatDoor
open Go.RowKit
theorem zGF {P : Prop} (h : P := by
 have hp0 : R = false := by rw [← HRR.out]; unfold Ty.eqT at hp; rw [hp]; rfl
 rw [hp] at HC;subst hp0;clear hp
 go_wp2_with fail
 go_still_tail 10, (by kernel_rfl)
 change wpList _ _ _ _ _ (wr.drewN 1);have hbB1 := hbB.trans (hBd.out.mono hbB.size);have hsz : (wr.drewN 1).heap.size = wr.heap.size := rfl;clear e0 e1 g0 g1 c1' c2' x1 x2;generalize wr.drewN 1 = w2 at *
 go_wp2_with fail
 refine (HC.out _ hBd.out).mono ?_;rintro e w3 ⟨rfl, hb⟩
 go_wp2_with fail
 go_ret
 exact ⟨rfl, hbB1.trans (hb.mono hbB1.size)⟩) : P := h
theorem zFC {P : Prop} (h : P := by
 go_wp2_with fail
 refine HC.out.mono ?_;rintro e w2 ⟨rfl, hb⟩;have hbb := k0_ (HS.out w2 hb HL.out);clear hb
 go_wp2_with fail
 go_roundw
 case rel => exact ⟨i + 1, r, by go_num, hbb.out, HP.out⟩
 case measure => simp [intOf]; omega) : P := h
theorem zG0 {P : Prop} (h : P := by
 go_wp2_with fail
 refine (HM.out _ hB0).mono ?_;rintro e w3 ⟨rfl, hb⟩;have hB1 := hB0.trans (hb.mono hB0.size);obtain ⟨b0, b1, _, _, _⟩ := zF (zA hb (by simp) (zD w (.cells #[.int .i8 k, .slice A n c] 25)));clear hb
 go_wp2_with fail
 refine (HK.out _ hB1).mono ?_
 exact uy) : P := h
theorem zEX {P : Prop} (h : P := by
 rintro e w5 ⟨rfl, hb⟩
 go_wp2_with fail
 go_ret
 exact ⟨rfl, hB2.trans (hb.mono hB2.size)⟩) : P := h
theorem zFz {P : Prop} (h : P := by
 rw [hp] at HC;subst hp0;clear hp
 go_wp2_with fail
 refine HC.out.mono ?_;rintro e w2 ⟨rfl, hb⟩
 go_wp2_with fail
 go_ret
 exact ⟨rfl, hbB.trans (hb.mono hbB.size)⟩) : P := h
theorem zFy {P : Prop} (h : P := by
 go_wp2_with fail
 refine (HM.out _ hB0).mono ?_;rintro e w3 ⟨rfl, hb⟩;have hB1 := hB0.trans (hb.mono hB0.size);obtain ⟨d0, d1, _, _, _⟩ := zF (zA hb (zC R1.out) R1.out);clear hb
 go_wp2_with fail
 refine (HN.out _ hB1).mono ?_
 exact uy) : P := h
theorem zEV {P : Prop} (h : P := by
 subst hi;subst hRR
 go_wp2_with fail
 go_ret
 exact ⟨rfl, hbB⟩) : P := h
theorem zFA {P : Prop} (h : P := by
 have := hO2.i_eq
 cases r2 with
 | nil => rfl
 | node _ _ _ _ _ => simp only [Ty.len] at this; omega) : P := h
theorem zFk {P : Prop} (h : P := by
 go_wp2_with fail
 go_roundw
 case rel => exact ⟨i + 1, r, s, by go_num, hbb.out, hbb2.out, HP.out⟩
 case measure => simp [intOf]; omega) : P := h
end Go.Proofs.YtglgjaomneljbaaGreatDoor
namespace Go.Proofs.YtglgjaomneljbaaGreatDoor
set_option maxHeartbeats 1000000
set_option maxRecDepth 100000
open Go.RowKit
theorem zDn (args : Array Value) (W : World) : (callFunc 40 args).run Tryz.prog W = .ok (.enter 40 args) W := by simp [go_sem]
namespace Ty
def eqT (k : Int) (kids : Fo) (k' : Int) (kids' : Fo) : Bool := (k == k') && eqF kids kids'
def sameT (k : Int) (kids : Fo) (k' : Int) (kids' : Fo) : Bool := (chk k kids == 0) && (chk k' kids' == 0) && eqT k kids k' kids'
theorem zDd (f g : Fo) (h : len f ≠ len g) : eqF f g = false := by
 cases hq : eqF f g
 ·rfl
 ·exact absurd (zBP f g hq) h
end Ty
structure Over2 (w wr : World) (A : Option Addr) (n i : Nat) (rest : Fo) : Prop where
 i_eq : i + Ty.len rest = n
 lies : Ty.Lies wr rest A i
theorem zCB (jo jN : Fo) (A1 A2 : Option Addr) (n1 c1 n2 c2 : Nat) (w : World) (hL1 : Ty.Lies w jo A1 0) (hn1 : n1 = Ty.len jo) (hnc1 : n1 <= c1) (hc1 : c1 <= maxLen) (hL2 : Ty.Lies w jN A2 0) (hn2 : n2 = Ty.len jN) (hnc2 : n2 <= c2)
  (hf : ∀ (k : Int) (kids : Fo) (A : Option Addr) (n c : Nat) (k' : Int) (kids' : Fo) (A' : Option Addr) (n' c' : Nat) (W : World), Ty.nodes kids < Ty.nodes jo -> Ty.Is W k kids A n c -> Ty.Is W k' kids' A' n' c' ->
   Calls Tryz.prog 40 #[.agg #[.int .i8 k, .slice A n c], .agg #[.int .i8 k', .slice A' n' c']] W fun e w' => e = .returned (.bool (Ty.eqT k kids k' kids')) /\ Below W.heap.size W w') :
  Calls Tryz.prog 71 #[.slice A1 n1 c1, .slice A2 n2 c2, .func (Fn.func 40) #[] #[]] w fun e w' => e = .returned (.bool (Ty.eqF jo jN)) /\ Below w.heap.size w w' := by
 have i5 : (n1 : Int) <= 9223372036854775807 := by unfold maxLen at hc1; omega
 have hcf := zDn
 by_cases hne : n1 = n2
 ·have hst := Over.start hL1 hn1
  have hst2 : Over2 w w A2 n2 0 jN := ⟨by omega, hL2⟩;have HF := k0_ hf;have HS := k0_ hst;have HS2 := k0_ hst2;subst hne;clear hst hst2 hn1 hn2 hf hL1 hL2;obtain ⟨R, hR⟩ : ∃ R, Ty.eqF jo jN = R := ⟨_, rfl⟩
  rw [hR];have HR := k0_ hR;clear hR;have hb1 : ((n1 : Int) != (n1 : Int)) = false := by simp
  have hb2 : ((n1 : Nat) != n1) = false := by simp
  go_enter Tryz.func71, Tryz.ntmps71
  go_wp2_with fail
  go_loopw [17] (fun v wr => ∃ (i : Nat) (r1 r2 : Fo), v = .int .i64 i /\ Over w wr A1 n1 (Ty.nodes jo) i r1 /\ Over2 w wr A2 n1 i r2 /\ Ty.eqF r1 r2 = R) (fun v _ => n1 - (intOf v).toNat)
  case atStart => exact ⟨0, jo, jN, rfl, HS.out, HS2.out, HR.out⟩
  case round =>
   obtain ⟨i, r1, r2, rfl, hO, hO2, hR⟩ := hrel
   cases r1 with
   | nil =>
    have hi : i = n1 := by have := hO.i_eq; simpa [Ty.len] using this
    have hr2 : r2 = .nil := by
     exact zFA
    subst hr2;have hB := hO.below;clear hO hO2;simp only [Ty.eqF] at hR;exact zF3
   | node a b k' kids' r =>
    cases r2 with
    | nil => have e1 := hO.i_eq; have e2 := hO2.i_eq; simp only [Ty.len] at e1 e2; omega
    | node a2 b2 k2' kids2' s =>
    have hst := fun w2 hb => Over.step (w2 := w2) hO hb
    have h1 := hO.i_eq;have h2 := hO.lies;have h3 := hO.sub;have h4 := hO.below;have g1 := hO2.i_eq;have g2 := hO2.lies;simp only [Ty.len, Ty.nodes, Ty.eqF] at h1 h3 hR g1;obtain ⟨bb, oo, B, c', rfl, ⟨hk1, hk2⟩, c1', c2', hl1, hl2, hl3, hl4⟩ := h2;obtain ⟨bb2, oo2, B2, c3, rfl, ⟨gk1, gk2⟩, d1, d2, gl1, gl2, gl3, gl4⟩ := g2;have hcall := HF.out k' kids' B (Ty.len kids') c' k2' kids2' B2 (Ty.len kids2') c3 ((wr.alloc (.cells #[.int .i8 k', .slice B (Ty.len kids') c'] 25)).alloc (.cells #[.int .i8 k2', .slice B2 (Ty.len kids2') c3] 25)) (by omega) ⟨(hl3.alloc _).alloc _, rfl, hl1, hl2, hk1, hk2⟩ ⟨(gl3.alloc _).alloc _, rfl, gl1, gl2, gk1, gk2⟩;have HS := k0_ hst;have HL := k0_ hl4;have HL2 := k0_ gl4;have HC := k0_ hcall;have HRR := k0_ hR;have j1 : (i : Int) < n1 := by omega
    have hlt2 := Ty.zZ d1;clear hst hl3 hl4 gl3 gl4 hcall hO hO2 hR;cases hp : Ty.eqT k' kids' k2' kids2'
    ·have hp0 : R = false := by rw [← HRR.out]; unfold Ty.eqT at hp; rw [hp]; rfl
     rw [hp] at HC;subst hp0;clear hp
     go_wp2_with fail
     refine HC.out.mono ?_;rintro e w2 ⟨rfl, hb⟩
     go_wp2_with fail
     go_ret
     exact ⟨rfl, ((h4.alloc h4.size _).alloc (by have := h4.size; simp; omega) _).trans (hb.mono (by have := h4.size; simp; omega))⟩
    ·have hp0 := HRR.out
     unfold Ty.eqT at hp;rw [hp, Bool.true_and] at hp0;have HP := k0_ hp0;rw [show Ty.eqT k' kids' k2' kids2' = true from hp] at HC;clear hp hp0
     go_wp2_with fail
     refine HC.out.mono ?_;rintro e w2 ⟨rfl, hb⟩;have hB2 : Below wr.heap.size wr w2 := (((Below.refl _ _).alloc (Nat.le_refl _) _).alloc (by simp) _).trans (hb.mono (by simp <;> omega));have hbb := k0_ (HS.out w2 hB2 HL.out);have hbb2 : Hid (Over2 w w2 (some ⟨bb2, oo2, none⟩) n1 (i + 1) s) := k0_ ⟨by omega, HL2.out.below hB2⟩;clear hb hB2;exact zFk
 ·have hR : Ty.eqF jo jN = false := Ty.zDd _ _ (by omega)
  rw [hR];have hb1 : ((n1 : Int) != (n2 : Int)) = true := by simp; omega
  have hb2 : ((n1 : Nat) != n2) = true := by simp; omega
  clear hR hn1 hn2 hf hL1 hL2
  go_enter Tryz.func71, Tryz.ntmps71
  go_wp2_with fail
  go_ret
  exact ⟨rfl, Below.refl _ _⟩
theorem zCY (K : Nat) : ∀ (k : Int) (kids : Fo) (A : Option Addr) (n c : Nat) (k' : Int) (kids' : Fo) (A' : Option Addr) (n' c' : Nat) (w : World), Ty.nodes kids < K -> Ty.Is w k kids A n c -> Ty.Is w k' kids' A' n' c' ->
  Calls Tryz.prog 40 #[.agg #[.int .i8 k, .slice A n c], .agg #[.int .i8 k', .slice A' n' c']] w fun e w' => e = .returned (.bool (Ty.eqT k kids k' kids')) /\ Below w.heap.size w w' := by
 induction K with
 | zero => intro _ _ _ _ _ _ _ _ _ _ _ h; omega
 | succ K ih =>
  intro k kids A n c k' kids' A' n' c' w hK hIs hIs';have hB0 := ((Below.refl w.heap.size w).alloc (Nat.le_refl _) (.cells #[.int .i8 k, .slice A n c] 25)).alloc (by simp) (.cells #[.int .i8 k', .slice A' n' c'] 25)
  have heq := fun (W : World) (hb : Below w.heap.size w W) => zCB kids kids' A A' n c n' c' W (hIs.lies.below hb) hIs.n_eq hIs.n_le hIs.c_le (hIs'.lies.below hb) hIs'.n_eq hIs'.n_le
   (fun k jN A n c k' kids' A' n' c' W' h1 h2 h3 => ih k jN A n c k' kids' A' n' c' W' (by omega) h2 h3)
  have HE := k0_ heq;clear heq hIs hIs' ih;cases hk : (k == k')
  ·have hres : Ty.eqT k kids k' kids' = false := by unfold Ty.eqT; rw [hk]; rfl
   rw [hres];clear hres
   go_enter Tryz.func40, Tryz.ntmps40
   go_wp2_with fail
   go_ret
   exact ⟨rfl, hB0⟩
  ·have hres : Ty.eqT k kids k' kids' = Ty.eqF kids kids' := by unfold Ty.eqT; rw [hk]; rfl
   rw [hres];clear hres
   go_enter Tryz.func40, Tryz.ntmps40
   go_wp2_with fail
   refine (HE.out _ hB0).mono ?_;exact yZ
set_option maxHeartbeats 2000000
set_option maxRecDepth 100000
open Go.RowKit
theorem zBy (k : Int) (kids : Fo) (A : Option Addr) (n c : Nat) (w : World) (hIs : Ty.Is w k kids A n c) :
  Calls Tryz.prog 127 #[.agg #[.int .i8 k, .slice A n c]] w fun e w' => e = .returned (.int .i64 (Ty.nod kids)) /\ Below w.heap.size w w' := by
 have hB0 := (Below.refl w.heap.size w).alloc (Nat.le_refl _) (.cells #[.int .i8 k, .slice A n c] 25);have HM := k0_ (fun (W : World) (hb : Below w.heap.size w W) => jl k kids A n c W (hIs.below hb));clear hIs
 go_enter Tryz.func127, Tryz.ntmps127
 exact wW
theorem zCE (k : Int) (kids : Fo) (A : Option Addr) (n c : Nat) (w : World) (hIs : Ty.Is w k kids A n c) :
  Calls Tryz.prog 128 #[.agg #[.int .i8 k, .slice A n c]] w fun e w' => e = .returned (.int .i64 (Ty.dpt kids)) /\ Below w.heap.size w w' := by
 have hB0 := (Below.refl w.heap.size w).alloc (Nat.le_refl _) (.cells #[.int .i8 k, .slice A n c] 25);have HM := k0_ (fun (W : World) (hb : Below w.heap.size w W) => jl k kids A n c W (hIs.below hb));clear hIs
 go_enter Tryz.func128, Tryz.ntmps128
 exact wW
namespace Ty
def knownT (k : Int) (kids : Fo) : Bool := (chk k kids == 0) && knT k kids
end Ty
theorem zDU (k : Int) (kids : Fo) (A : Option Addr) (n c : Nat) (w : World) (hIs : Ty.Is w k kids A n c) (hS : Shapes w) :
  Calls Tryz.prog 77 #[.agg #[.int .i8 k, .slice A n c]] w fun e w' => e = .returned (.bool (Ty.knownT k kids)) /\ Below w.heap.size w w' := by
 have hB0 := (Below.refl w.heap.size w).alloc (Nat.le_refl _) (.cells #[.int .i8 k, .slice A n c] 25);have HM := k0_ (fun (W : World) (hb : Below w.heap.size w W) => jX k kids A n c W (hIs.below hb) (hS.below hb));have HK := k0_ (fun (W : World) (hb : Below w.heap.size w W) => zC2 (Ty.nodes kids + 1) k kids A n c W (by omega) (hIs.below hb));clear hIs hS
 by_cases h0 : Ty.chk k kids = 0
 ·have hres : Ty.knownT k kids = Ty.knT k kids := by unfold Ty.knownT; rw [h0]; rfl
  rw [hres];rw [h0] at HM;clear hres h0
  go_enter Tryz.func77, Tryz.ntmps77
  exact zG0
 ·have hres : Ty.knownT k kids = false := by unfold Ty.knownT; simp [h0]
  rw [hres];have hc : (((Ty.chk k kids : Nat) : Int) == 0) = false := by simp; omega
  generalize Ty.chk k kids = C at *;clear hres h0
  go_enter Tryz.func77, Tryz.ntmps77
  exact wW
theorem zCt (k : Int) (kids : Fo) (A : Option Addr) (n c : Nat) (k' : Int) (kids' : Fo) (A' : Option Addr) (n' c' : Nat) (w : World) (hIs : Ty.Is w k kids A n c) (hIs' : Ty.Is w k' kids' A' n' c') (hS : Shapes w) :
  Calls Tryz.prog 17 #[.agg #[.int .i8 k, .slice A n c], .agg #[.int .i8 k', .slice A' n' c']] w fun e w' => e = .returned (.bool (Ty.sameT k kids k' kids')) /\ Below w.heap.size w w' := by
 have hB0 := ((Below.refl w.heap.size w).alloc (Nat.le_refl _) (.cells #[.int .i8 k, .slice A n c] 25)).alloc (by simp) (.cells #[.int .i8 k', .slice A' n' c'] 25);have HM := k0_ (fun (W : World) (hb : Below w.heap.size w W) => jX k kids A n c W (hIs.below hb) (hS.below hb));have HN := k0_ (fun (W : World) (hb : Below w.heap.size w W) => jX k' kids' A' n' c' W (hIs'.below hb) (hS.below hb));have HK := k0_ (fun (W : World) (hb : Below w.heap.size w W) => zCY (Ty.nodes kids + 1) k kids A n c k' kids' A' n' c' W (by omega) (hIs.below hb) (hIs'.below hb));clear hIs hIs' hS;have r0 := zH (zD w (.cells #[.int .i8 k, .slice A n c] 25)) (.cells #[.int .i8 k', .slice A' n' c'] 25)
 have r1 : ((w.alloc (.cells #[.int .i8 k, .slice A n c] 25)).alloc (.cells #[.int .i8 k', .slice A' n' c'] 25)).heap[w.heap.size + 1]? = some (.cells #[.int .i8 k', .slice A' n' c'] 25) := by
  have := zD (w.alloc (.cells #[.int .i8 k, .slice A n c] 25)) (.cells #[.int .i8 k', .slice A' n' c'] 25)
  simpa using this
 have R0 := k0_ r0;have R1 := k0_ r1;clear r0 r1
 by_cases h0 : Ty.chk k kids = 0
 ·rw [h0] at HM
  by_cases h1 : Ty.chk k' kids' = 0
  ·have hres : Ty.sameT k kids k' kids' = Ty.eqT k kids k' kids' := by unfold Ty.sameT; rw [h0, h1]; rfl
   rw [hres];rw [h1] at HN;clear hres h0 h1
   go_enter Tryz.func17, Tryz.ntmps17
   go_wp2_with fail
   refine (HM.out _ hB0).mono ?_;rintro e w3 ⟨rfl, hb⟩;have hB1 := hB0.trans (hb.mono hB0.size);have hR0 := zA hb (zC R0.out) R0.out;have hR1 := zA hb (zC R1.out) R1.out;obtain ⟨b0, b1, _, _, _⟩ := zF hR0;obtain ⟨d0, d1, _, _, _⟩ := zF hR1;have HR0 := k0_ hR0;have HR1 := k0_ hR1;clear hb hR0 hR1
   go_wp2_with fail
   refine (HN.out _ hB1).mono ?_;rintro e w4 ⟨rfl, hb⟩;have hB2 := hB1.trans (hb.mono hB1.size);obtain ⟨b0, b1, _, _, _⟩ := zF (zA hb (zC HR0.out) HR0.out);obtain ⟨d0, d1, _, _, _⟩ := zF (zA hb (zC HR1.out) HR1.out);clear hb
   go_wp2_with fail
   refine (HK.out _ hB2).mono ?_;exact zEX
  ·have hres : Ty.sameT k kids k' kids' = false := by unfold Ty.sameT; simp [h1]
   rw [hres];have hc : (((Ty.chk k' kids' : Nat) : Int) == 0) = false := by simp; omega
   generalize Ty.chk k' kids' = C at *;clear hres h0 h1
   go_enter Tryz.func17, Tryz.ntmps17
   exact zFy
 ·have hres : Ty.sameT k kids k' kids' = false := by unfold Ty.sameT; simp [h0]
  rw [hres];have hc : (((Ty.chk k kids : Nat) : Int) == 0) = false := by simp; omega
  generalize Ty.chk k kids = C at *;clear hres h0
  go_enter Tryz.func17, Tryz.ntmps17
  exact wW
set_option maxHeartbeats 1000000
open Go.RowKit
namespace Ty
def kidsI (k : Int) : Int := if 0 <= k /\ k <= 2 then 0 else if 3 <= k /\ k <= 5 then 2 else -1
theorem zDN (k : Int) (n : Nat) : okK k n = (kidsI k == n) := by
 rw [Bool.eq_iff_iff]; unfold okK kidsI
 split
 ·simp <;> omega
 ·split
  ·simp <;> omega
  ·simp <;> omega
end Ty
theorem zDV (k : Int) (w : World) :
  Calls Tryz.prog 132 #[.int .i8 k] w fun e w' => e = .returned (.int .i64 (Ty.kidsI k)) /\ w' = w := by
 by_cases hr : 0 <= k /\ k <= 5
 ·have hk : k = 0 \/ k = 1 \/ k = 2 \/ k = 3 \/ k = 4 \/ k = 5 := by omega
  clear hr;rcases hk with rfl | rfl | rfl | rfl | rfl | rfl
  all_goals
   go_enter Tryz.func132, Tryz.ntmps132
   go_wp2_with fail
   go_ret
   exact ⟨rfl, rfl⟩
 ·have e : Ty.kidsI k = -1 := by unfold Ty.kidsI; rw [if_neg (by omega), if_neg (by omega)]
  rw [e];have h0 : (k == 0) = false := by simp; omega
  have h1 : (k == 1) = false := by simp; omega
  have h2 : (k == 2) = false := by simp; omega
  have h3 : (k == 3) = false := by simp; omega
  have h4 : (k == 4) = false := by simp; omega
  have h5 : (k == 5) = false := by simp; omega
  clear hr e
  go_enter Tryz.func132, Tryz.ntmps132
  go_wp2_with fail
  go_ret
  exact ⟨rfl, rfl⟩
set_option maxRecDepth 100000 in
theorem zBk (K : Nat) : ∀ (k : Int) (kids : Fo) (A : Option Addr) (n c : Nat) (w : World), Ty.nodes kids < K -> Ty.Is w k kids A n c ->
  Calls Tryz.prog 124 #[.agg #[.int .i8 k, .slice A n c]] w fun e w' => e = .returned (.bool (Ty.okT k kids)) /\ Below w.heap.size w w' := by
 induction K with
 | zero => intro _ _ _ _ _ _ h; omega
 | succ K ih =>
  intro k kids A n c w hK hIs;have i5 : (n : Int) <= 9223372036854775807 := by have h1 := hIs.n_le; have h2 := hIs.c_le; unfold maxLen at h2; omega
  have hneq := hIs.n_eq;have IH := k0_ ih;have HI := k0_ hIs;have hB0 := (Below.refl w.heap.size w).alloc (Nat.le_refl _) (.cells #[.int .i8 k, .slice A n c] 25);have hkk := Ty.zDN k n;have hka := zDV k;clear ih hIs;obtain ⟨b0, b1, _, _, hbl⟩ := zF (zD w (.cells #[.int .i8 k, .slice A n c] 25));have hst := Over.start ((HI.out.alloc (.cells #[.int .i8 k, .slice A n c] 25)).lies) HI.out.n_eq;cases hok : Ty.okK k n
  ·have hres : Ty.okT k kids = false := by unfold Ty.okT; rw [← hneq, hok]; rfl
   rw [hres];rw [hok] at hkk;have hd : (Ty.kidsI k != (n : Int)) = true := by rw [bne, ← hkk]; rfl
   generalize Ty.kidsI k = KI at *;clear hres hok hkk hst hneq
   go_enter Tryz.func124, Tryz.ntmps124
   go_wp2_with fail
   generalize w.alloc (.cells #[.int .i8 k, .slice A n c] 25) = w1 at *
   go_quiet ((go_at_call 132; exact Calls.quiet_of_same (hka _)))
   go_wp2_with fail
   go_ret
   exact ⟨rfl, below_drewN hB0 _⟩
  ·have hres : Ty.okT k kids = Ty.okF kids := by unfold Ty.okT; rw [← hneq, hok]; rfl
   rw [hres];rw [hok] at hkk;have hd : (Ty.kidsI k != (n : Int)) = false := by rw [bne, ← hkk]; rfl
   generalize Ty.kidsI k = KI at *;obtain ⟨R, hR⟩ : ∃ R, Ty.okF kids = R := ⟨_, rfl⟩
   rw [hR];have HR := k0_ hR;have HS0 := k0_ hst;clear hres hok hkk hst hneq hR
   go_enter Tryz.func124, Tryz.ntmps124
   go_wp2_with fail
   generalize w.alloc (.cells #[.int .i8 k, .slice A n c] 25) = w1 at *
   go_quiet ((go_at_call 132; exact Calls.quiet_of_same (hka _)))
   have HB1 := k0_ (below_drewN (Below.refl w1.heap.size w1) nq)
   go_wp2_with fail
   go_loopw [3] (fun v3 wr => ∃ (i : Nat) (rest : Fo), v3 = .int .i64 i /\ Over w1 wr A n (Ty.nodes kids) i rest /\ Ty.okF rest = R) (fun v _ => n - (intOf v).toNat)
   case atStart => exact ⟨0, kids, rfl, ⟨HS0.out.i_eq, HS0.out.lies.below HB1.out, HS0.out.sub, HB1.out⟩, HR.out⟩
   case round =>
    obtain ⟨i, rest, rfl, hO, hRR⟩ := hrel;have hbB := hB0.trans (hO.below.mono hB0.size);obtain ⟨c0, c1⟩ := hO.box b0 b1;clear b0 b1
    cases rest with
    | nil =>
     have hi : i = n := by have := hO.i_eq; simpa [Ty.len] using this
     simp only [Ty.okF] at hRR;clear hO;exact zEV
    | node a b k' kids' r =>
     have hst := fun w2 hb => Over.step (w2 := w2) hO hb
     have h1 := hO.i_eq;have h2 := hO.lies;have h3 := hO.sub;simp only [Ty.len, Ty.nodes, Ty.okF] at h1 h3 hRR;obtain ⟨bb, oo, B, c', rfl, ⟨hk1, hk2⟩, c1', c2', hl1, hl2, hl3, hl4⟩ := h2;have j1 : (i : Int) < n := by omega
     have hcall := IH.out k' kids' B (Ty.len kids') c' wr (by omega) ⟨hl3, rfl, hl1, hl2, hk1, hk2⟩;have HS := k0_ hst;have HL := k0_ hl4;have HC := k0_ hcall;have HRR := k0_ hRR;clear hst hl3 hl4 hcall hO hRR;cases hp : Ty.okT k' kids'
     ·have hp0 : R = false := by unfold Ty.okT at hp; rw [← HRR.out, hp]; rfl
      exact zFz
     ·have hp0 := HRR.out
      rw [show (Ty.okK k' (Ty.len kids') && Ty.okF kids') = true from hp, Bool.true_and] at hp0;have HP := k0_ hp0;rw [hp] at HC;clear hp hp0;exact zFC
set_option maxRecDepth 100000 in
theorem jU (k : Int) (kids : Fo) (A : Option Addr) (n c : Nat) (w : World) (hIs : Ty.Is w k kids A n c) :
  Calls Tryz.prog 92 #[.agg #[.int .i8 k, .slice A n c]] w fun e w' => e = .returned (.int .i64 (Ty.chk k kids)) /\ Below w.heap.size w w' := by
 have HN := k0_ (fun (W : World) (hb : Below w.heap.size w W) => jT k kids A n c W (hIs.below hb));have HM := k0_ (fun (W : World) (hb : Below w.heap.size w W) => jv k kids A n c W (hIs.below hb));have HF := k0_ (fun (W : World) (hb : Below w.heap.size w W) => zBk (Ty.nodes kids + 1) k kids A n c W (by omega) (hIs.below hb));have hB0 := (Below.refl w.heap.size w).alloc (Nat.le_refl _) (.cells #[.int .i8 k, .slice A n c] 25);have R0 := k0_ (zD w (.cells #[.int .i8 k, .slice A n c] 25));clear hIs
 by_cases h1 : 8192 < Ty.nodes kids + 1
 ·have e1 : Ty.chk k kids = 32 := by unfold Ty.chk; rw [if_pos h1]
  have e2 : ((Ty.nod kids : Nat) : Int) = 8193 := by unfold Ty.nod; omega
  rw [e1];rw [e2] at HN;clear e2 e1 h1
  go_enter Tryz.func92, Tryz.ntmps92
  go_wp2_with fail
  refine (HN.out _ hB0).mono ?_;exact yZ
 ·have e2 : ((Ty.nod kids : Nat) : Int) <= 8192 := by unfold Ty.nod; omega
  have e4 : Ty.dpt kids = min (Ty.dep kids + 1) 201 := by unfold Ty.dpt; rw [if_neg h1]
  by_cases h2 : 200 < Ty.dep kids + 1
  ·have e1 : Ty.chk k kids = 31 := by unfold Ty.chk; rw [if_neg h1, if_pos h2]
   have e3 : ((Ty.dpt kids : Nat) : Int) = 201 := by rw [e4]; omega
   rw [e1];rw [e3] at HM;generalize Ty.nod kids = N at *;clear e3 e1 h1 h2 e4
   go_enter Tryz.func92, Tryz.ntmps92
   go_wp2_with fail
   refine (HN.out _ hB0).mono ?_;rintro e w3 ⟨rfl, hb⟩;have hB1 := hB0.trans (hb.mono hB0.size);obtain ⟨b0, b1, _, _, _⟩ := zF (zA hb (zC R0.out) R0.out);clear hb
   go_wp2_with fail
   refine (HM.out _ hB1).mono ?_;exact uy
  ·have e3 : ((Ty.dpt kids : Nat) : Int) <= 200 := by rw [e4]; omega
   have e1 : Ty.chk k kids = if Ty.okT k kids then 0 else 20 := by unfold Ty.chk; rw [if_neg h1, if_neg h2]; rfl
   rw [e1];generalize Ty.nod kids = N at *;generalize Ty.dpt kids = D at *;clear e1 h1 h2 e4;cases ho : Ty.okT k kids
   all_goals
    rw [ho] at HF;clear ho
    go_enter Tryz.func92, Tryz.ntmps92
    go_wp2_with fail
    refine (HN.out _ hB0).mono ?_;rintro e w3 ⟨rfl, hb⟩;have hB1 := hB0.trans (hb.mono hB0.size);have R1 := kp_ hb R0;obtain ⟨b0, b1, _, _, _⟩ := zF R1.out;clear hb
    go_wp2_with fail
    refine (HM.out _ hB1).mono ?_;rintro e w4 ⟨rfl, hb⟩;have hB2 := hB1.trans (hb.mono hB1.size);obtain ⟨b0, b1, _, _, _⟩ := zF (zA hb (zC R1.out) R1.out);clear hb
    go_wp2_with fail
    refine (HF.out _ hB2).mono ?_;exact zEX
set_option maxRecDepth 100000 in
theorem zDK (K : Nat) : ∀ (k : Int) (kids : Fo) (A : Option Addr) (n c : Nat) (w : World), Ty.nodes kids < K -> Ty.Is w k kids A n c ->
  Calls Tryz.prog 93 #[.agg #[.int .i8 k, .slice A n c]] w fun e w' => e = .returned (.bool (!Ty.knT k kids)) /\ Below w.heap.size w w' := by
 induction K with
 | zero => intro _ _ _ _ _ _ h; omega
 | succ K ih =>
  intro k kids A n c w hK hIs;have i5 : (n : Int) <= 9223372036854775807 := by have h1 := hIs.n_le; have h2 := hIs.c_le; unfold maxLen at h2; omega
  have IH := k0_ ih;have HI := k0_ hIs;have hB0 := (Below.refl w.heap.size w).alloc (Nat.le_refl _) (.cells #[.int .i8 k, .slice A n c] 25);clear ih hIs;obtain ⟨b0, b1, _, _, hbl⟩ := zF (zD w (.cells #[.int .i8 k, .slice A n c] 25));have hst := Over.start ((HI.out.alloc (.cells #[.int .i8 k, .slice A n c] 25)).lies) HI.out.n_eq;cases hok : (k != 0)
  ·have hres : Ty.knT k kids = false := by unfold Ty.knT; rw [hok]; rfl
   have h0 : (k == 0) = true := by simpa using hok
   rw [hres];clear hres hok hst
   go_enter Tryz.func93, Tryz.ntmps93
   go_wp2_with fail
   go_ret
   exact ⟨rfl, hB0⟩
  ·have hres : Ty.knT k kids = Ty.knF kids := by unfold Ty.knT; rw [hok]; rfl
   have h0 : (k == 0) = false := by simpa using hok
   rw [hres];obtain ⟨R, hR⟩ : ∃ R, Ty.knF kids = R := ⟨_, rfl⟩
   rw [hR];have HR := k0_ hR;have HS0 := k0_ hst;clear hres hok hst hR
   go_enter Tryz.func93, Tryz.ntmps93
   go_wp2_with fail
   generalize w.alloc (.cells #[.int .i8 k, .slice A n c] 25) = w1 at *
   go_loopw [3] (fun v3 wr => ∃ (i : Nat) (rest : Fo), v3 = .int .i64 i /\ Over w1 wr A n (Ty.nodes kids) i rest /\ Ty.knF rest = R) (fun v _ => n - (intOf v).toNat)
   case atStart => exact ⟨0, kids, rfl, HS0.out, HR.out⟩
   case round =>
    obtain ⟨i, rest, rfl, hO, hRR⟩ := hrel;have hbB := hB0.trans (hO.below.mono hB0.size);obtain ⟨c0, c1⟩ := hO.box b0 b1;clear b0 b1
    cases rest with
    | nil =>
     have hi : i = n := by have := hO.i_eq; simpa [Ty.len] using this
     simp only [Ty.knF] at hRR;clear hO;exact zEV
    | node a b k' kids' r =>
     have hst := fun w2 hb => Over.step (w2 := w2) hO hb
     have h1 := hO.i_eq;have h2 := hO.lies;have h3 := hO.sub;simp only [Ty.len, Ty.nodes, Ty.knF] at h1 h3 hRR;obtain ⟨bb, oo, B, c', rfl, ⟨hk1, hk2⟩, c1', c2', hl1, hl2, hl3, hl4⟩ := h2;have j1 : (i : Int) < n := by omega
     have hcall := IH.out k' kids' B (Ty.len kids') c' wr (by omega) ⟨hl3, rfl, hl1, hl2, hk1, hk2⟩;have HS := k0_ hst;have HL := k0_ hl4;have HC := k0_ hcall;have HRR := k0_ hRR;clear hst hl3 hl4 hcall hO hRR;cases hp : Ty.knT k' kids'
     ·have hp0 : R = false := by unfold Ty.knT at hp; rw [← HRR.out, hp]; rfl
      exact zFz
     ·have hp0 := HRR.out
      rw [show ((k' != 0) && Ty.knF kids') = true from hp, Bool.true_and] at hp0;have HP := k0_ hp0;rw [hp] at HC;clear hp hp0;exact zFC
end Go.Proofs.YtglgjaomneljbaaGreatDoor
namespace Go.Proofs.YtglgjaomneljbaaGreatDoor
open Go.RowKit
theorem vv (w : World) (k : Int) (A : Option Addr) (n c : Nat) (k' : Int) (A' : Option Addr) (n' c' : Nat) :
  Below w.heap.size w ((w.alloc (.cells #[.int .i8 k, .slice A n c] 25)).alloc (.cells #[.int .i8 k', .slice A' n' c'] 25)) /\
  ((w.alloc (.cells #[.int .i8 k, .slice A n c] 25)).alloc (.cells #[.int .i8 k', .slice A' n' c'] 25)).heap[w.heap.size]? = some (.cells #[.int .i8 k, .slice A n c] 25) /\
  ((w.alloc (.cells #[.int .i8 k, .slice A n c] 25)).alloc (.cells #[.int .i8 k', .slice A' n' c'] 25)).heap[w.heap.size + 1]? = some (.cells #[.int .i8 k', .slice A' n' c'] 25) := by
 refine ⟨((Below.refl w.heap.size w).alloc (Nat.le_refl _) _).alloc (by simp) _, zH (zD w _) _, ?_⟩;have := zD (w.alloc (.cells #[.int .i8 k, .slice A n c] 25)) (.cells #[.int .i8 k', .slice A' n' c'] 25)
 simpa using this
theorem Ty.zDM {k : Int} {n m : Nat} (h1 : Ty.okK k n = true) (h2 : Ty.okK k m = true) : n = m := by
 unfold Ty.okK at h1 h2
 split at h1
 ·simp at h1; rw [if_pos ‹_›] at h2; simp at h2; omega
 ·rw [if_neg ‹_›] at h2
  split at h1
  ·simp at h1; rw [if_pos ‹_›] at h2; simp at h2; omega
  ·cases h1
set_option maxHeartbeats 2000000 in
set_option maxRecDepth 100000 in
theorem zBp (K : Nat) : ∀ (k : Int) (kids : Fo) (A : Option Addr) (n c : Nat) (k' : Int) (kids' : Fo) (A' : Option Addr) (n' c' : Nat) (w : World), Ty.nodes kids < K -> Ty.Is w k kids A n c -> Ty.Is w k' kids' A' n' c' -> Ty.okT k kids = true -> Ty.okT k' kids' = true ->
  Calls Tryz.prog 97 #[.agg #[.int .i8 k, .slice A n c], .agg #[.int .i8 k', .slice A' n' c']] w fun e w' => e = .returned (.bool (Ty.eqT k kids k' kids')) /\ Below w.heap.size w w' := by
 induction K with
 | zero => intro _ _ _ _ _ _ _ _ _ _ _ h; omega
 | succ K ih =>
  intro k kids A n c k' kids' A' n' c' w hK hIs hIs' ho ho';have i5 : (n : Int) <= 9223372036854775807 := by have h1 := hIs.n_le; have h2 := hIs.c_le; unfold maxLen at h2; omega
  obtain ⟨hB0, hR0, hR1⟩ := vv w k A n c k' A' n' c';have HI := k0_ hIs;have HI' := k0_ hIs';have IH := k0_ ih;unfold Ty.okT at ho ho';rw [Bool.and_eq_true] at ho ho';have HO := k0_ ho;have HO' := k0_ ho';clear ih hIs hIs' ho ho';obtain ⟨b0, b1, _, _, hb0⟩ := zF hR0;obtain ⟨d0, d1, _, _, hd0⟩ := zF hR1;cases hk : (k == k')
  ·have hres : Ty.eqT k kids k' kids' = false := by unfold Ty.eqT; rw [hk]; rfl
   have hk2 : (k != k') = true := by rw [bne, hk]; rfl
   rw [hres];clear hres hR0 hR1 hk
   go_enter Tryz.func97, Tryz.ntmps97
   go_wp2_with fail
   go_ret
   exact ⟨rfl, hB0⟩
  ·have hres : Ty.eqT k kids k' kids' = Ty.eqF kids kids' := by unfold Ty.eqT; rw [hk]; rfl
   have hk2 : (k != k') = false := by rw [bne, hk]; rfl
   have hnn : n = n' := by
    have e : k = k' := by simpa using hk
    subst e;have := Ty.zDM HO.out.1 HO'.out.1;have h1 := HI.out.n_eq;have h2 := HI'.out.n_eq
    omega
   subst hnn;rw [hres];obtain ⟨R, hR⟩ : ∃ R, Ty.eqF kids kids' = R := ⟨_, rfl⟩
   rw [hR];have HR := k0_ hR;have hlies2 := HI'.out.lies.below hB0;have hst := Over.start (HI.out.lies.below hB0) HI.out.n_eq;have hst2 : Over2 w _ A' n 0 kids' := ⟨by have := HI'.out.n_eq; omega, hlies2⟩;clear hres hR0 hR1 hR hlies2;generalize hw1 : (w.alloc (.cells #[.int .i8 k, .slice A n c] 25)).alloc (.cells #[.int .i8 k', .slice A' n c'] 25) = w1 at *;have HS := k0_ hst;have HS2 := k0_ hst2;have HW := k0_ hw1;clear hst hst2 hw1
   go_enter Tryz.func97, Tryz.ntmps97
   go_wp2_with fail
   rw [HW.out]
   go_loopw [5] (fun v5 wr => ∃ (i : Nat) (r1 r2 : Fo), v5 = .int .i64 i /\ Over w1 wr A n (Ty.nodes kids) i r1 /\ Over2 w wr A' n i r2 /\ Ty.eqF r1 r2 = R /\ Ty.okF r1 = true /\ Ty.okF r2 = true) (fun v _ => n - (intOf v).toNat)
   case atStart => exact ⟨0, kids, kids', rfl, HS.out, HS2.out, HR.out, HO.out.2, HO'.out.2⟩
   case round =>
    obtain ⟨i, r1, r2, rfl, hO, hO2, hRR, ho1, ho2⟩ := hrel;have hbB := hB0.trans (hO.below.mono hB0.size);obtain ⟨e0, e1⟩ := hO.box b0 b1;obtain ⟨g0, g1⟩ := hO.box d0 d1;clear b0 b1 d0 d1
    cases r1 with
    | nil =>
     have hi : i = n := by have := hO.i_eq; simpa [Ty.len] using this
     have hr2 : r2 = .nil := by
      exact zFA
     subst hr2;clear hO hO2 ho1 ho2;simp only [Ty.eqF] at hRR;exact zEV
    | node a b kk kks r =>
     cases r2 with
     | nil => have q1 := hO.i_eq; have q2 := hO2.i_eq; simp only [Ty.len] at q1 q2; omega
     | node a2 b2 kk2 kks2 s =>
     have hst := fun w2 hb => Over.step (w2 := w2) hO hb
     have h1 := hO.i_eq;have h2 := hO.lies;have h3 := hO.sub;have q1 := hO2.i_eq;have q2 := hO2.lies;simp only [Ty.len, Ty.nodes, Ty.eqF, Ty.okF] at h1 h3 hRR q1 ho1 ho2;rw [Bool.and_eq_true] at ho1 ho2;obtain ⟨bb, oo, B, c9, rfl, ⟨hk1, hk2'⟩, c1', c2', hl1, hl2, hl3, hl4⟩ := h2;obtain ⟨bb2, oo2, B2, c3, rfl, ⟨gk1, gk2⟩, x1, x2, gl1, gl2, gl3, gl4⟩ := q2;have hcall := fun (W : World) (hb : Below wr.heap.size wr W) => IH.out kk kks B (Ty.len kks) c9 kk2 kks2 B2 (Ty.len kks2) c3 W (by omega) ⟨hl3.below hb, rfl, hl1, hl2, hk1, hk2'⟩ ⟨gl3.below hb, rfl, gl1, gl2, gk1, gk2⟩ ho1.1 ho2.1
     have HST := k0_ hst;have HL := k0_ hl4;have HL2 := k0_ gl4;have HC := k0_ hcall;have HRR := k0_ hRR;have HOO := k0_ (And.intro ho1.2 ho2.2);have j1 : (i : Int) < n := by omega
     have j2 : (0 : Int) <= i /\ (i : Int) < n := by omega
     have hBd := k0_ (below_drewN (Below.refl wr.heap.size wr) 1);clear hst hl3 hl4 gl3 gl4 hcall hO hO2 hRR ho1 ho2;cases hp : Ty.eqT kk kks kk2 kks2
     ·exact zGF
     ·have hp0 := HRR.out
      unfold Ty.eqT at hp;rw [hp, Bool.true_and] at hp0;have HP := k0_ hp0;rw [show Ty.eqT kk kks kk2 kks2 = true from hp] at HC;clear hp hp0
      go_wp2_with fail
      go_still_tail 10, (by kernel_rfl)
      change wpList _ _ _ _ _ (wr.drewN 1);have hsz : (wr.drewN 1).heap.size = wr.heap.size := rfl;clear e0 e1 g0 g1 c1' c2' x1 x2;generalize wr.drewN 1 = w2 at *
      go_wp2_with fail
      refine (HC.out _ hBd.out).mono ?_;rintro e w3 ⟨rfl, hb⟩;have hB2 : Below wr.heap.size wr w3 := hBd.out.trans (hb.mono (by omega));have hbb := k0_ (HST.out w3 hB2 HL.out);have hbb2 : Hid (Over2 w w3 (some ⟨bb2, oo2, none⟩) n (i + 1) s) := k0_ ⟨by omega, HL2.out.below hB2⟩;clear hb hB2 hsz
      go_wp2_with fail
      go_roundw
      case rel => exact ⟨i + 1, r, s, by go_num, hbb.out, hbb2.out, HP.out, HOO.out.1, HOO.out.2⟩
      case measure => simp [intOf]; omega
end Go.Proofs.YtglgjaomneljbaaGreatDoor
namespace Go.Proofs.YtglgjaomneljbaaGreatDoor
set_option maxHeartbeats 2000000
set_option maxRecDepth 100000
open Go.RowKit
theorem Ty.zm {k : Int} {kids : Fo} (h : Ty.chk k kids = 0) : Ty.okT k kids = true /\ Ty.nodes kids + 1 <= 8192 /\ Ty.dep kids + 1 <= 200 := by
 unfold Ty.chk at h
 split at h
 ·cases h
 ·split at h
  ·cases h
  ·split at h
   ·rename_i h1 h2 h3; exact ⟨h3, by omega, by omega⟩
   ·cases h
theorem uE (k : Int) (kids : Fo) (A : Option Addr) (n c : Nat) (k' : Int) (kids' : Fo) (A' : Option Addr) (n' c' : Nat) (w : World) (hIs : Ty.Is w k kids A n c) (hIs' : Ty.Is w k' kids' A' n' c') :
  Calls Tryz.prog 59 #[.agg #[.int .i8 k, .slice A n c], .agg #[.int .i8 k', .slice A' n' c']] w fun e w' => e = .returned (.bool (Ty.sameT k kids k' kids')) /\ Below w.heap.size w w' := by
 obtain ⟨hB0, hR0, hR1⟩ := vv w k A n c k' A' n' c';have HM := k0_ (fun (W : World) (hb : Below w.heap.size w W) => jU k kids A n c W (hIs.below hb));have HN := k0_ (fun (W : World) (hb : Below w.heap.size w W) => jU k' kids' A' n' c' W (hIs'.below hb));have HK := k0_ (fun (W : World) (hb : Below w.heap.size w W) => zBp (Ty.nodes kids + 1) k kids A n c k' kids' A' n' c' W (by omega) (hIs.below hb) (hIs'.below hb));have R0 := k0_ hR0;have R1 := k0_ hR1;clear hIs hIs' hR0 hR1
 by_cases h0 : Ty.chk k kids = 0
 ·by_cases h1 : Ty.chk k' kids' = 0
  ·have hres : Ty.sameT k kids k' kids' = Ty.eqT k kids k' kids' := by unfold Ty.sameT; rw [h0, h1]; rfl
   have HK2 := k0_ (fun W hb => HK.out W hb (Ty.zm h0).1 (Ty.zm h1).1);rw [hres];rw [h0] at HM;rw [h1] at HN;clear hres h0 h1 HK
   go_enter Tryz.func59, Tryz.ntmps59
   go_wp2_with fail
   refine (HM.out _ hB0).mono ?_;rintro e w3 ⟨rfl, hb⟩;have hB1 := hB0.trans (hb.mono hB0.size);have hR0 := zA hb (zC R0.out) R0.out;have hR1 := zA hb (zC R1.out) R1.out;obtain ⟨b0, b1, _, _, _⟩ := zF hR0;obtain ⟨d0, d1, _, _, _⟩ := zF hR1;have HR0 := k0_ hR0;have HR1 := k0_ hR1;clear hb hR0 hR1
   go_wp2_with fail
   refine (HN.out _ hB1).mono ?_;rintro e w4 ⟨rfl, hb⟩;have hB2 := hB1.trans (hb.mono hB1.size);obtain ⟨b0, b1, _, _, _⟩ := zF (zA hb (zC HR0.out) HR0.out);obtain ⟨d0, d1, _, _, _⟩ := zF (zA hb (zC HR1.out) HR1.out);clear hb
   go_wp2_with fail
   refine (HK2.out _ hB2).mono ?_;exact zEX
  ·have hres : Ty.sameT k kids k' kids' = false := by unfold Ty.sameT; simp [h1]
   rw [hres];rw [h0] at HM;have hc : (((Ty.chk k' kids' : Nat) : Int) == 0) = false := by simp; omega
   generalize Ty.chk k' kids' = C at *;clear hres h0 h1 HK
   go_enter Tryz.func59, Tryz.ntmps59
   exact zFy
 ·have hres : Ty.sameT k kids k' kids' = false := by unfold Ty.sameT; simp [h0]
  rw [hres];have hc : (((Ty.chk k kids : Nat) : Int) == 0) = false := by simp; omega
  generalize Ty.chk k kids = C at *;clear hres h0 HK
  go_enter Tryz.func59, Tryz.ntmps59
  exact wW
theorem xD (k : Int) (kids : Fo) (A : Option Addr) (n c : Nat) (w : World) (hIs : Ty.Is w k kids A n c) :
  Calls Tryz.prog 54 #[.agg #[.int .i8 k, .slice A n c]] w fun e w' => e = .returned (.bool (Ty.knownT k kids)) /\ Below w.heap.size w w' := by
 have hB0 := (Below.refl w.heap.size w).alloc (Nat.le_refl _) (.cells #[.int .i8 k, .slice A n c] 25);have HM := k0_ (fun (W : World) (hb : Below w.heap.size w W) => jU k kids A n c W (hIs.below hb));have HK := k0_ (fun (W : World) (hb : Below w.heap.size w W) => zDK (Ty.nodes kids + 1) k kids A n c W (by omega) (hIs.below hb));have hnot : ∀ (x : Bool) (w : World), (Op.unary .not (.bool x)).run Tryz.prog w = .ok (.bool (!x)) w := fun _ _ => rfl
 clear hIs
 by_cases h0 : Ty.chk k kids = 0
 ·have hres : Ty.knownT k kids = Ty.knT k kids := by unfold Ty.knownT; rw [h0]; rfl
  rw [hres];rw [h0] at HM;clear hres h0;cases hkn : Ty.knT k kids
  all_goals
   rw [hkn] at HK;clear hkn
   go_enter Tryz.func54, Tryz.ntmps54
   exact zG0
 ·have hres : Ty.knownT k kids = false := by unfold Ty.knownT; simp [h0]
  rw [hres];have hc : (((Ty.chk k kids : Nat) : Int) == 0) = false := by simp; omega
  generalize Ty.chk k kids = C at *;clear hres h0
  go_enter Tryz.func54, Tryz.ntmps54
  exact wW
namespace Ty
def two (k : Int) (kids : Fo) (k' : Int) (kids' : Fo) : Fo := .node 0 0 k kids (.node 0 0 k' kids' .nil)
end Ty
namespace Ty
end Ty
namespace Ty
def agF : Fo -> Fo -> Bool
 | .nil, _ => true
 | .node _ _ _ _ _, .nil => true
 | .node _ _ k kids r, .node _ _ k' kids' r' => ((k == 0) || (k' == 0) || ((k == k') && agF kids kids')) && agF r r'
def agT (k : Int) (kids : Fo) (k' : Int) (kids' : Fo) : Bool := (k == 0) || (k' == 0) || ((k == k') && agF kids kids')
def agreeT (k : Int) (kids : Fo) (k' : Int) (kids' : Fo) : Bool := (chk k kids == 0) && (chk k' kids' == 0) && agT k kids k' kids'
theorem vk {k : Int} {kids : Fo} (h : okT k kids = true) (h3 : 3 <= k) : ∃ a b k1 f1 c d k2 f2, kids = .node a b k1 f1 (.node c d k2 f2 .nil) /\ okT k1 f1 = true /\ okT k2 f2 = true := by
 unfold okT okK at h;rw [if_neg (by omega), Bool.and_eq_true] at h
 split at h
 ·have hl : len kids = 2 := by simpa using h.1
  match kids, hl, h.2 with
  | .node a b k1 f1 (.node c d k2 f2 .nil), _, ho =>
   simp only [okF, Bool.and_eq_true] at ho;exact ⟨a, b, k1, f1, c, d, k2, f2, rfl, by unfold okT; rw [Bool.and_eq_true]; exact ⟨ho.1.1, ho.1.2⟩, by unfold okT; rw [Bool.and_eq_true]; exact ⟨ho.2.1.1, ho.2.1.2⟩⟩
  | .nil, hl, _ => simp [len] at hl
  | .node _ _ _ _ .nil, hl, _ => simp [len] at hl
  | .node _ _ _ _ (.node _ _ _ _ (.node _ _ _ _ _)), hl, _ => simp [len] at hl
 ·simp at h
end Ty
end Go.Proofs.YtglgjaomneljbaaGreatDoor
namespace Go.Proofs.YtglgjaomneljbaaGreatDoor
open Go.RowKit
theorem Ty.uP {w : World} {a b c d : Nat} {k1 k2 : Int} {f1 f2 : Fo} {A : Option Addr} (h : Ty.Lies w (.node a b k1 f1 (.node c d k2 f2 .nil)) A 0) :
  ∃ bb oo B1 c1 B2 c2, A = some ⟨bb, oo, none⟩ /\ w.cell? ⟨bb, oo, none⟩ = some (.int .i8 k1) /\ w.cell? ⟨bb, oo + 1, none⟩ = some (.slice B1 (Ty.len f1) c1) /\ w.cell? ⟨bb, oo + 2, none⟩ = some (.int .i8 k2) /\ w.cell? ⟨bb, oo + 3, none⟩ = some (.slice B2 (Ty.len f2) c2) /\ Ty.Is w k1 f1 B1 (Ty.len f1) c1 /\ Ty.Is w k2 f2 B2 (Ty.len f2) c2 := by
 obtain ⟨bb, oo, B1, c1, rfl, ⟨h1, h2⟩, h3, h4, h5, h6, h7, ⟨bb', oo', B2, c2, e, ⟨g1, g2⟩, g3, g4, g5, g6, g7, -⟩⟩ := h;exact zFm
end Go.Proofs.YtglgjaomneljbaaGreatDoor
namespace Go.Proofs.YtglgjaomneljbaaGreatDoor
namespace Ty
def leF : Fo -> Fo -> Bool
 | .nil, _ => true
 | .node _ _ _ _ _, .nil => true
 | .node _ _ k kids r, .node _ _ k' kids' r' => ((k == 0) || ((k == k') && leF kids kids')) && leF r r'
def leT (k : Int) (kids : Fo) (k' : Int) (kids' : Fo) : Bool := (k == 0) || ((k == k') && leF kids kids')
theorem yM : ∀ f : Fo, leF f f = true
 | .nil => rfl
 | .node _ _ k kids r => by simp [leF, yM kids, yM r]
theorem uL {k : Int} {kids : Fo} (h : chk k kids = 0) : okK k (len kids) = true /\ okF kids = true := by
 have := (zm h).1;unfold okT at this;rw [Bool.and_eq_true] at this;exact this
def mF : Fo -> Fo -> Fo
 | .nil, _ => .nil
 | .node a b k kids r, .nil => .node a b k kids r
 | .node a b k kids r, .node _ _ k' kids' r' => .node a b (if k = 0 then k' else k) (if k = 0 then kids' else if k' = 0 then kids else mF kids kids') (mF r r')
def mK (k k' : Int) : Int := if k = 0 then k' else k
def mT (k : Int) (kids : Fo) (k' : Int) (kids' : Fo) : Fo := if k = 0 then kids' else if k' = 0 then kids else mF kids kids'
end Ty
end Go.Proofs.YtglgjaomneljbaaGreatDoor
