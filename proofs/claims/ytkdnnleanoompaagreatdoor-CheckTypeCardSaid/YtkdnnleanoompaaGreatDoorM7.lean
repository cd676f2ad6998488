import Derived.Deep.OwnRows
import Derived.Test.YtkdnnleanoompaaGreatDoorM8
import Derived.Test.YtkdnnleanoompaaGreatDoorLow
import Derived.Laws.StructEq
namespace Go.Proofs.YtkdnnleanoompaaGreatDoor
open Go.RowKit
theorem zGo {P : Prop} (h : P := by
 go_wp2_with fail
 refine (HM.out _ HB0.out).mono ?_;rintro e w3 ⟨rfl, hb⟩;have hB1 := kt_ HB0 hb;have hR0 := zA hb (zC R0.out) R0.out;have hR1 := zA hb (zC R1.out) R1.out;obtain ⟨b0, b1, _, _, _⟩ := zF hR0;obtain ⟨d0, d1, _, _, _⟩ := zF hR1;have HR0 := k0_ hR0;have HR1 := k0_ hR1;clear hb hR0 hR1
 go_wp2_with fail
 refine (HN.out _ hB1.out).mono ?_;rintro e w4 ⟨rfl, hb⟩;have hB2 := kt_ hB1 hb;obtain ⟨b0, b1, _, _, _⟩ := zF (zA hb (zC HR0.out) HR0.out);obtain ⟨d0, d1, _, _, _⟩ := zF (zA hb (zC HR1.out) HR1.out);clear hb
 go_wp2_with fail
 refine (HKK.out _ hB2.out).mono ?_;rintro e w5 ⟨rfl, hb⟩
 go_wp2_with fail
 go_ret
 exact ⟨rfl, hB2.out.trans (hb.mono hB2.out.size)⟩) : P := h
theorem zGn {P : Prop} (h : P := by
 rw [hp] at HC;subst hp0;clear hp
 go_wp2_with fail
 go_still_tail 10, (by kernel_rfl)
 change wpList _ _ _ _ _ (wr.drewN 1);have hbB1 := hbB.trans (hBd.out.mono hbB.size);have hsz : (wr.drewN 1).heap.size = wr.heap.size := rfl;clear e0 e1 g0 g1 c1' c2' x1 x2;generalize wr.drewN 1 = w2 at *
 go_wp2_with fail
 refine (HC.out _ hBd.out).mono ?_;rintro e w3 ⟨rfl, hb⟩
 go_wp2_with fail
 go_ret
 exact ⟨rfl, hbB1.trans (hb.mono hbB1.size)⟩) : P := h
theorem zGZ {P : Prop} (h : P := by
 go_wp2_with fail
 refine (HM.out _ HB0.out).mono ?_;rintro e w3 ⟨rfl, hb⟩;have hB1 := kt_ HB0 hb;obtain ⟨d0, d1, _, _, _⟩ := zF (zA hb (zC R1.out) R1.out);clear hb
 go_wp2_with fail
 refine (HN.out _ hB1.out).mono ?_;rintro e w4 ⟨rfl, hb⟩
 go_wp2_with fail
 go_ret
 exact ⟨rfl, hB1.out.trans (hb.mono hB1.out.size)⟩) : P := h
theorem zEv {P : Prop} (h : P := by
 go_enter Tryz.func38, Tryz.ntmps38
 go_wp2_with fail
 rw [HW.out]
 go_wp2_with fail
 go_ret
 exact ⟨rfl, hB0⟩) : P := h
theorem zGW {P : Prop} (h : P := by
 go_wp2_with fail
 refine HC.out.mono ?_;rintro e w2 ⟨rfl, hb⟩;have hbb := k0_ (HS.out w2 hb HL.out);clear hb
 go_wp2_with fail
 go_roundw
 case rel => exact ⟨i + 1, r, by go_num, hbb.out, HP.out⟩
 case measure => simp [intOf]; omega) : P := h
theorem zFe {P : Prop} (h : P := by
 subst hi;subst hRR
 go_wp2_with fail
 go_ret
 exact ⟨rfl, hbB⟩) : P := h
theorem zGI {P : Prop} (h : P := by
 clear hb
 go_wp2_with fail
 refine (HF.out _ hB2).mono ?_;rintro e w5 ⟨rfl, hb⟩
 go_wp2_with fail
 go_ret
 exact ⟨rfl, hB2.trans (hb.mono hB2.size)⟩) : P := h
theorem zFa {P : Prop} (h : P := by
 go_enter Tryz.func88, Tryz.ntmps88
 go_wp2_with fail
 go_ret
 exact ⟨rfl, hB0⟩) : P := h
theorem zGA {P : Prop} (h : P := by
 go_wp2_with fail
 refine (HM.out _ HB0.out).mono ?_;rintro e w3 ⟨rfl, hb⟩
 go_wp2_with fail
 go_ret
 exact ⟨rfl, HB0.out.trans (hb.mono HB0.out.size)⟩) : P := h
theorem zFH {P : Prop} (h : P := by
 have := hO2.i_eq
 cases r2 with
 | nil => rfl
 | node _ _ _ _ _ => simp only [Ty.len] at this; omega) : P := h
namespace Ty
def eqT (k : Int) (kids : Fo) (k' : Int) (kids' : Fo) : Bool := (k == k') && eqF kids kids'
theorem zFX (f g : Fo) (h : len f ≠ len g) : eqF f g = false := by
 cases hq : eqF f g
 ·rfl
 ·exact absurd (zBm f g hq) h
end Ty
structure Over2 (w wr : World) (A : Option Addr) (n i : Nat) (rest : Fo) : Prop where
 i_eq : i + Ty.len rest = n
 lies : Ty.Lies wr rest A i
end Go.Proofs.YtkdnnleanoompaaGreatDoor
namespace Go.Proofs.YtkdnnleanoompaaGreatDoor
set_option maxHeartbeats 1000000
set_option maxRecDepth 100000
open Go.RowKit
theorem zCK (k : Int) (kids : Fo) (A : Option Addr) (n c : Nat) (w : World) (hIs : Ty.Is w k kids A n c) :
  Calls Tryz.prog 119 #[.agg #[.int .i8 k, .slice A n c]] w fun e w' => e = .returned (.int .i64 (Ty.nod kids)) /\ Below w.heap.size w w' := by
 have hB0 := (Below.refl w.heap.size w).alloc (Nat.le_refl _) (.cells #[.int .i8 k, .slice A n c] 25);have HM := k0_ (fun (W : World) (hb : Below w.heap.size w W) => vB k kids A n c W (hIs.below hb));clear hIs
 go_enter Tryz.func119, Tryz.ntmps119
 exact zEG
theorem zCa (k : Int) (kids : Fo) (A : Option Addr) (n c : Nat) (w : World) (hIs : Ty.Is w k kids A n c) :
  Calls Tryz.prog 120 #[.agg #[.int .i8 k, .slice A n c]] w fun e w' => e = .returned (.int .i64 (Ty.dpt kids)) /\ Below w.heap.size w w' := by
 have hB0 := (Below.refl w.heap.size w).alloc (Nat.le_refl _) (.cells #[.int .i8 k, .slice A n c] 25);have HM := k0_ (fun (W : World) (hb : Below w.heap.size w W) => vB k kids A n c W (hIs.below hb));clear hIs
 go_enter Tryz.func120, Tryz.ntmps120
 exact zEG
namespace Ty
end Ty
set_option maxHeartbeats 1000000
open Go.RowKit
namespace Ty
def kidsI (k : Int) : Int := if 0 <= k /\ k <= 2 then 0 else if 3 <= k /\ k <= 5 then 2 else -1
theorem zDm (k : Int) (n : Nat) : okK k n = (kidsI k == n) := by
 rw [Bool.eq_iff_iff]; unfold okK kidsI
 split
 ·simp <;> omega
 ·split
  ·simp <;> omega
  ·simp <;> omega
end Ty
theorem zDw (k : Int) (w : World) :
  Calls Tryz.prog 125 #[.int .i8 k] w fun e w' => e = .returned (.int .i64 (Ty.kidsI k)) /\ w' = w := by
 by_cases hr : 0 <= k /\ k <= 5
 ·have hk : k = 0 \/ k = 1 \/ k = 2 \/ k = 3 \/ k = 4 \/ k = 5 := by omega
  clear hr;rcases hk with rfl | rfl | rfl | rfl | rfl | rfl
  all_goals
   go_enter Tryz.func125, Tryz.ntmps125
   go_wp2_with fail
   go_ret
   exact ⟨rfl, rfl⟩
 ·have e : Ty.kidsI k = -1 := by unfold Ty.kidsI; rw [if_neg (by omega), if_neg (by omega)]
  rw [e];have h0 : (k == 0) = false := by simp; omega
  have h1 : (k == 1) = false := by simp; omega
  have h2 : (k == 2) = false := by simp; omega
  have h3 : (k == 3) = false := by simp; omega
  have h4 : (k == 4) = false := by simp; omega
  have h5 : (k == 5) = false := by simp; omega
  clear hr e
  go_enter Tryz.func125, Tryz.ntmps125
  go_wp2_with fail
  go_ret
  exact ⟨rfl, rfl⟩
set_option maxRecDepth 100000 in
theorem zC3 (K : Nat) : ∀ (k : Int) (kids : Fo) (A : Option Addr) (n c : Nat) (w : World), Ty.nodes kids < K -> Ty.Is w k kids A n c ->
  Calls Tryz.prog 116 #[.agg #[.int .i8 k, .slice A n c]] w fun e w' => e = .returned (.bool (Ty.okT k kids)) /\ Below w.heap.size w w' := by
 induction K with
 | zero => intro _ _ _ _ _ _ h; omega
 | succ K ih =>
  intro k kids A n c w hK hIs;have i5 : (n : Int) <= 9223372036854775807 := by have h1 := hIs.n_le; have h2 := hIs.c_le; unfold maxLen at h2; omega
  have hneq := hIs.n_eq;have IH := k0_ ih;have HI := k0_ hIs;have hB0 := (Below.refl w.heap.size w).alloc (Nat.le_refl _) (.cells #[.int .i8 k, .slice A n c] 25);have hkk := Ty.zDm k n;have hka := zDw k;clear ih hIs;obtain ⟨b0, b1, _, _, hbl⟩ := zF (zD w (.cells #[.int .i8 k, .slice A n c] 25));have hst := Over.start ((HI.out.alloc (.cells #[.int .i8 k, .slice A n c] 25)).lies) HI.out.n_eq;cases hok : Ty.okK k n
  ·have hres : Ty.okT k kids = false := by unfold Ty.okT; rw [← hneq, hok]; rfl
   rw [hres];rw [hok] at hkk;have hd : (Ty.kidsI k != (n : Int)) = true := by rw [bne, ← hkk]; rfl
   generalize Ty.kidsI k = KI at *;clear hres hok hkk hst hneq
   go_enter Tryz.func116, Tryz.ntmps116
   go_wp2_with fail
   generalize w.alloc (.cells #[.int .i8 k, .slice A n c] 25) = w1 at *
   go_quiet ((go_at_call 125; exact Calls.quiet_of_same (hka _)))
   go_wp2_with fail
   go_ret
   exact ⟨rfl, below_drewN hB0 _⟩
  ·have hres : Ty.okT k kids = Ty.okF kids := by unfold Ty.okT; rw [← hneq, hok]; rfl
   rw [hres];rw [hok] at hkk;have hd : (Ty.kidsI k != (n : Int)) = false := by rw [bne, ← hkk]; rfl
   generalize Ty.kidsI k = KI at *;obtain ⟨R, hR⟩ : ∃ R, Ty.okF kids = R := ⟨_, rfl⟩
   rw [hR];have HR := k0_ hR;have HS0 := k0_ hst;clear hres hok hkk hst hneq hR
   go_enter Tryz.func116, Tryz.ntmps116
   go_wp2_with fail
   generalize w.alloc (.cells #[.int .i8 k, .slice A n c] 25) = w1 at *
   go_quiet ((go_at_call 125; exact Calls.quiet_of_same (hka _)))
   have HB1 := k0_ (below_drewN (Below.refl w1.heap.size w1) nq)
   go_wp2_with fail
   go_loopw [3] (fun v3 wr => ∃ (i : Nat) (rest : Fo), v3 = .int .i64 i /\ Over w1 wr A n (Ty.nodes kids) i rest /\ Ty.okF rest = R) (fun v _ => n - (intOf v).toNat)
   case atStart => exact ⟨0, kids, rfl, ⟨HS0.out.i_eq, HS0.out.lies.below HB1.out, HS0.out.sub, HB1.out⟩, HR.out⟩
   case round =>
    obtain ⟨i, rest, rfl, hO, hRR⟩ := hrel;have hbB := hB0.trans (hO.below.mono hB0.size);obtain ⟨c0, c1⟩ := hO.box b0 b1;clear b0 b1
    cases rest with
    | nil =>
     have hi : i = n := by have := hO.i_eq; simpa [Ty.len] using this
     simp only [Ty.okF] at hRR;clear hO;exact zFe
    | node a b k' kids' r =>
     have hst := fun w2 hb => Over.step (w2 := w2) hO hb
     have h1 := hO.i_eq;have h2 := hO.lies;have h3 := hO.sub;simp only [Ty.len, Ty.nodes, Ty.okF] at h1 h3 hRR;obtain ⟨bb, oo, B, c', rfl, ⟨hk1, hk2⟩, c1', c2', hl1, hl2, hl3, hl4⟩ := h2;have j1 : (i : Int) < n := by omega
     have hcall := IH.out k' kids' B (Ty.len kids') c' wr (by omega) ⟨hl3, rfl, hl1, hl2, hk1, hk2⟩;have HS := k0_ hst;have HL := k0_ hl4;have HC := k0_ hcall;have HRR := k0_ hRR;clear hst hl3 hl4 hcall hO hRR;cases hp : Ty.okT k' kids'
     ·have hp0 : R = false := by unfold Ty.okT at hp; rw [← HRR.out, hp]; rfl
      rw [hp] at HC;subst hp0;clear hp
      go_wp2_with fail
      refine HC.out.mono ?_;rintro e w2 ⟨rfl, hb⟩
      go_wp2_with fail
      go_ret
      exact ⟨rfl, hbB.trans (hb.mono hbB.size)⟩
     ·have hp0 := HRR.out
      rw [show (Ty.okK k' (Ty.len kids') && Ty.okF kids') = true from hp, Bool.true_and] at hp0;have HP := k0_ hp0;rw [hp] at HC;clear hp hp0;exact zGW
set_option maxRecDepth 100000 in
theorem qp (k : Int) (kids : Fo) (A : Option Addr) (n c : Nat) (w : World) (hIs : Ty.Is w k kids A n c) :
  Calls Tryz.prog 84 #[.agg #[.int .i8 k, .slice A n c]] w fun e w' => e = .returned (.int .i64 (Ty.chk k kids)) /\ Below w.heap.size w w' := by
 have HN := k0_ (fun (W : World) (hb : Below w.heap.size w W) => jc k kids A n c W (hIs.below hb));have HM := k0_ (fun (W : World) (hb : Below w.heap.size w W) => vJ k kids A n c W (hIs.below hb));have HF := k0_ (fun (W : World) (hb : Below w.heap.size w W) => zC3 (Ty.nodes kids + 1) k kids A n c W (by omega) (hIs.below hb));have hB0 := (Below.refl w.heap.size w).alloc (Nat.le_refl _) (.cells #[.int .i8 k, .slice A n c] 25);have R0 := k0_ (zD w (.cells #[.int .i8 k, .slice A n c] 25));clear hIs
 by_cases h1 : 8192 < Ty.nodes kids + 1
 ·have e1 : Ty.chk k kids = 32 := by unfold Ty.chk; rw [if_pos h1]
  have e2 : ((Ty.nod kids : Nat) : Int) = 8193 := by unfold Ty.nod; omega
  rw [e1];rw [e2] at HN;clear e2 e1 h1
  go_enter Tryz.func84, Tryz.ntmps84
  go_wp2_with fail
  refine (HN.out _ hB0).mono ?_;exact uL
 ·have e2 : ((Ty.nod kids : Nat) : Int) <= 8192 := by unfold Ty.nod; omega
  have e4 : Ty.dpt kids = min (Ty.dep kids + 1) 201 := by unfold Ty.dpt; rw [if_neg h1]
  by_cases h2 : 200 < Ty.dep kids + 1
  ·have e1 : Ty.chk k kids = 31 := by unfold Ty.chk; rw [if_neg h1, if_pos h2]
   have e3 : ((Ty.dpt kids : Nat) : Int) = 201 := by rw [e4]; omega
   rw [e1];rw [e3] at HM;generalize Ty.nod kids = N at *;clear e3 e1 h1 h2 e4
   go_enter Tryz.func84, Tryz.ntmps84
   go_wp2_with fail
   refine (HN.out _ hB0).mono ?_;rintro e w3 ⟨rfl, hb⟩;have hB1 := hB0.trans (hb.mono hB0.size);obtain ⟨b0, b1, _, _, _⟩ := zF (zA hb (zC R0.out) R0.out);clear hb
   go_wp2_with fail
   refine (HM.out _ hB1).mono ?_;exact zCt
  ·have e3 : ((Ty.dpt kids : Nat) : Int) <= 200 := by rw [e4]; omega
   have e1 : Ty.chk k kids = if Ty.okT k kids then 0 else 20 := by unfold Ty.chk; rw [if_neg h1, if_neg h2]; rfl
   rw [e1];generalize Ty.nod kids = N at *;generalize Ty.dpt kids = D at *;clear e1 h1 h2 e4;cases ho : Ty.okT k kids
   all_goals
    rw [ho] at HF;clear ho
    go_enter Tryz.func84, Tryz.ntmps84
    go_wp2_with fail
    refine (HN.out _ hB0).mono ?_;rintro e w3 ⟨rfl, hb⟩;have hB1 := hB0.trans (hb.mono hB0.size);have R1 := kp_ hb R0;obtain ⟨b0, b1, _, _, _⟩ := zF R1.out;clear hb
    go_wp2_with fail
    refine (HM.out _ hB1).mono ?_;rintro e w4 ⟨rfl, hb⟩;have hB2 := hB1.trans (hb.mono hB1.size);obtain ⟨b0, b1, _, _, _⟩ := zF (zA hb (zC R1.out) R1.out);exact zGI
end Go.Proofs.YtkdnnleanoompaaGreatDoor
namespace Go.Proofs.YtkdnnleanoompaaGreatDoor
open Go.RowKit
theorem jb (w : World) (k : Int) (A : Option Addr) (n c : Nat) (k' : Int) (A' : Option Addr) (n' c' : Nat) :
  Below w.heap.size w ((w.alloc (.cells #[.int .i8 k, .slice A n c] 25)).alloc (.cells #[.int .i8 k', .slice A' n' c'] 25)) /\
  ((w.alloc (.cells #[.int .i8 k, .slice A n c] 25)).alloc (.cells #[.int .i8 k', .slice A' n' c'] 25)).heap[w.heap.size]? = some (.cells #[.int .i8 k, .slice A n c] 25) /\
  ((w.alloc (.cells #[.int .i8 k, .slice A n c] 25)).alloc (.cells #[.int .i8 k', .slice A' n' c'] 25)).heap[w.heap.size + 1]? = some (.cells #[.int .i8 k', .slice A' n' c'] 25) := by
 refine ⟨((Below.refl w.heap.size w).alloc (Nat.le_refl _) _).alloc (by simp) _, zG (zD w _) _, ?_⟩;have := zD (w.alloc (.cells #[.int .i8 k, .slice A n c] 25)) (.cells #[.int .i8 k', .slice A' n' c'] 25)
 simpa using this
theorem Ty.zDl {k : Int} {n m : Nat} (h1 : Ty.okK k n = true) (h2 : Ty.okK k m = true) : n = m := by
 unfold Ty.okK at h1 h2
 split at h1
 ·simp at h1; rw [if_pos ‹_›] at h2; simp at h2; omega
 ·rw [if_neg ‹_›] at h2
  split at h1
  ·simp at h1; rw [if_pos ‹_›] at h2; simp at h2; omega
  ·cases h1
theorem Ty.ze {k : Int} {kids : Fo} (h : Ty.chk k kids = 0) : Ty.okT k kids = true /\ Ty.nodes kids + 1 <= 8192 /\ Ty.dep kids + 1 <= 200 := by
 unfold Ty.chk at h
 split at h
 ·cases h
 ·split at h
  ·cases h
  ·split at h
   ·rename_i h1 h2 h3; exact ⟨h3, by omega, by omega⟩
   ·cases h
namespace Ty
def two (k : Int) (kids : Fo) (k' : Int) (kids' : Fo) : Fo := .node 0 0 k kids (.node 0 0 k' kids' .nil)
end Ty
namespace Ty
end Ty
theorem Ty.vL {k : Int} {kids : Fo} (h : Ty.okT k kids = true) : k = 0 \/ k = 1 \/ k = 2 \/ k = 3 \/ k = 4 \/ k = 5 := by
 unfold Ty.okT Ty.okK at h
 split at h
 ·omega
 ·split at h
  ·omega
  ·simp at h
end Go.Proofs.YtkdnnleanoompaaGreatDoor
namespace Go.Proofs.YtkdnnleanoompaaGreatDoor
namespace Ty
def agF : Fo -> Fo -> Bool
 | .nil, _ => true
 | .node _ _ _ _ _, .nil => true
 | .node _ _ k kids r, .node _ _ k' kids' r' => ((k == 0) || (k' == 0) || ((k == k') && agF kids kids')) && agF r r'
def agT (k : Int) (kids : Fo) (k' : Int) (kids' : Fo) : Bool := (k == 0) || (k' == 0) || ((k == k') && agF kids kids')
def agreeT (k : Int) (kids : Fo) (k' : Int) (kids' : Fo) : Bool := (chk k kids == 0) && (chk k' kids' == 0) && agT k kids k' kids'
theorem ve (kids : Fo) (k' : Int) (kids' : Fo) : agT 0 kids k' kids' = true := rfl
theorem vG (k : Int) (kids kids' : Fo) : agT k kids 0 kids' = true := by unfold agT; simp
theorem uO {k k' : Int} (kids kids' : Fo) (h1 : k ≠ 0) (h2 : k' ≠ 0) (h : k ≠ k') : agT k kids k' kids' = false := by unfold agT; simp [h1, h2, h]
theorem xE {k : Int} (kids kids' : Fo) (h1 : k ≠ 0) : agT k kids k kids' = agF kids kids' := by unfold agT; simp [h1]
theorem jE {k : Int} {kids : Fo} (h : okT k kids = true) (h3 : 3 <= k) : ∃ a b k1 f1 c d k2 f2, kids = .node a b k1 f1 (.node c d k2 f2 .nil) /\ okT k1 f1 = true /\ okT k2 f2 = true := by
 unfold okT okK at h;rw [if_neg (by omega), Bool.and_eq_true] at h
 split at h
 ·have hl : len kids = 2 := by simpa using h.1
  match kids, hl, h.2 with
  | .node a b k1 f1 (.node c d k2 f2 .nil), _, ho =>
   simp only [okF, Bool.and_eq_true] at ho;exact ⟨a, b, k1, f1, c, d, k2, f2, rfl, by unfold okT; rw [Bool.and_eq_true]; exact ⟨ho.1.1, ho.1.2⟩, by unfold okT; rw [Bool.and_eq_true]; exact ⟨ho.2.1.1, ho.2.1.2⟩⟩
  | .nil, hl, _ => simp [len] at hl
  | .node _ _ _ _ .nil, hl, _ => simp [len] at hl
  | .node _ _ _ _ (.node _ _ _ _ (.node _ _ _ _ _)), hl, _ => simp [len] at hl
 ·simp at h
theorem jU {k : Int} {kids : Fo} (h : okT k kids = true) (h3 : k <= 2) : kids = .nil := by
 have h2 := h;unfold okT okK at h;have hr := vL h2;rw [if_pos (by omega), Bool.and_eq_true] at h
 cases kids with
 | nil => rfl
 | node _ _ _ _ _ => simp [len] at h
end Ty
end Go.Proofs.YtkdnnleanoompaaGreatDoor
namespace Go.Proofs.YtkdnnleanoompaaGreatDoor
open Go.RowKit
theorem zCY (d : Nat) (a b c e : Int) (w : World) : (Op.equalIn (d + 1 + 1) 75 (.agg #[.int .i8 a, .int .i8 b]) (.agg #[.int .i8 c, .int .i8 e])).run Tryz.prog w = .ok ((a == c) && (b == e)) w := by
 have hu : Tryz.prog.underlying 75 = some (.array 2 22) := Tryz.underlying75;have hi : Tryz.prog.underlying 22 = some (.int .i8) := Tryz.underlying22;have e1 := fun W => run_equalIn_int (P := Tryz.prog) W d 22 .i8 .i8 a c hi
 have e2 := fun W => run_equalIn_int (P := Tryz.prog) W d 22 .i8 .i8 b e hi
 have p1 : ∀ (x y : Int) W, (part 22 #[.int .i8 x, .int .i8 y] 0).run Tryz.prog W = .ok (.int .i8 x) W := fun _ _ W => by kernel_rfl
 have p2 : ∀ (x y : Int) W, (part 22 #[.int .i8 x, .int .i8 y] 1).run Tryz.prog W = .ok (.int .i8 y) W := fun _ _ W => by kernel_rfl
 have hs : ∀ W, (sizeOf 22).run Tryz.prog W = .ok 1 W := fun W => by kernel_rfl
 rw [Op.equalIn];simp only [Sem.run_bind, run_underlying hu, Result.andThen_ok, hs];rw [Std.Legacy.Range.forIn_eq_forIn_range'];simp only [Std.Legacy.Range.size, List.range', List.forIn_cons, List.forIn_nil, Sem.run_bind, Nat.zero_add, Nat.mul_one, p1, e1, Result.andThen_ok];cases a == c
 ·simp
 ·cases hb : b == e <;> simp [p2, e2, hb]
theorem zO (a b c d : Int) (w : World) : (binOp .eql 75 (.agg #[.int .i8 a, .int .i8 b]) (.agg #[.int .i8 c, .int .i8 d])).run Tryz.prog w = .ok (.bool ((a == c) && (b == d))) w := by
 rw [run_eql_struct, zCY 9998 a b c d w]
 rfl
theorem Ty.yD {w : World} {a b c d : Nat} {k1 k2 : Int} {f1 f2 : Fo} {A : Option Addr} (h : Ty.Lies w (.node a b k1 f1 (.node c d k2 f2 .nil)) A 0) :
  ∃ bb oo B1 c1 B2 c2, A = some ⟨bb, oo, none⟩ /\ w.cell? ⟨bb, oo, none⟩ = some (.int .i8 k1) /\ w.cell? ⟨bb, oo + 1, none⟩ = some (.slice B1 (Ty.len f1) c1) /\ w.cell? ⟨bb, oo + 2, none⟩ = some (.int .i8 k2) /\ w.cell? ⟨bb, oo + 3, none⟩ = some (.slice B2 (Ty.len f2) c2) /\ Ty.Is w k1 f1 B1 (Ty.len f1) c1 /\ Ty.Is w k2 f2 B2 (Ty.len f2) c2 := by
 obtain ⟨bb, oo, B1, c1, rfl, ⟨h1, h2⟩, h3, h4, h5, h6, h7, ⟨bb', oo', B2, c2, e, ⟨g1, g2⟩, g3, g4, g5, g6, g7, -⟩⟩ := h;exact zGK
set_option maxHeartbeats 4000000 in
set_option maxRecDepth 100000 in
theorem uN (K : Nat) : ∀ (k : Int) (kids : Fo) (A : Option Addr) (n c : Nat) (k' : Int) (kids' : Fo) (A' : Option Addr) (n' c' : Nat) (w : World), Ty.nodes kids < K -> Ty.Is w k kids A n c -> Ty.Is w k' kids' A' n' c' -> Ty.okT k kids = true -> Ty.okT k' kids' = true ->
  Calls Tryz.prog 38 #[.agg #[.int .i8 k, .slice A n c], .agg #[.int .i8 k', .slice A' n' c']] w fun e w' => e = .returned (.bool (Ty.agT k kids k' kids')) /\ Below w.heap.size w w' := by
 induction K with
 | zero => intro _ _ _ _ _ _ _ _ _ _ _ h; omega
 | succ K ih =>
  intro k kids A n c k' kids' A' n' c' w hK hIs hIs' ho ho';obtain ⟨hB0, hR0, hR1⟩ := jb w k A n c k' A' n' c';have HI := k0_ (hIs.below hB0);have HI' := k0_ (hIs'.below hB0);have IH := k0_ ih;clear ih hIs hIs';obtain ⟨b0, b1, _, _, hb0⟩ := zF hR0;obtain ⟨d0, d1, _, _, hd0⟩ := zF hR1;clear hR0 hR1;generalize hw1 : (w.alloc (.cells #[.int .i8 k, .slice A n c] 25)).alloc (.cells #[.int .i8 k', .slice A' n' c'] 25) = w1 at *;have HW := k0_ hw1;clear hw1
  by_cases hk0 : k = 0
  ·subst hk0
   rw [Ty.ve];clear ho ho';exact zEv
  by_cases hk0' : k' = 0
  ·subst hk0'
   rw [Ty.vG];have hz : (k == 0) = false := by simpa using hk0
   clear ho ho' hk0;exact zEv
  have hz : (k == 0) = false := by simpa using hk0
  have hz' : (k' == 0) = false := by simpa using hk0'
  by_cases hkk : k = k'
  ·subst hkk
   by_cases hlow : k <= 2
   ·obtain rfl := Ty.jU ho hlow
    obtain rfl := Ty.jU ho' hlow;rw [Ty.xE _ _ hk0];have hr := Ty.vL ho;have hr2 : k = 1 \/ k = 2 := by omega
    clear ho ho' hr hk0 hk0' hlow;rcases hr2 with rfl | rfl
    all_goals
     have e1 := fun W => zO 1 1 1 1 W
     have e2 := fun W => zO 2 2 1 1 W
     have e3 := fun W => zO 2 2 2 2 W
     exact zEv
   ·obtain ⟨a1, a2, p1, f1, a3, a4, p2, f2, rfl, o1, o2⟩ := Ty.jE ho (by omega)
    obtain ⟨a1', a2', p1', f1', a3', a4', p2', f2', rfl, o1', o2'⟩ := Ty.jE ho' (by omega);rw [Ty.xE _ _ hk0];have hn := HI.out.n_eq;have hn' := HI'.out.n_eq;simp only [Ty.len] at hn hn';subst hn;subst hn';simp only [Ty.nodes] at hK;obtain ⟨bb, oo, B1, c1, B2, c2, rfl, x0, x1, x2, x3, i1, i2⟩ := Ty.yD HI.out.lies;obtain ⟨bb', oo', B1', c1', B2', c2', rfl, y0, y1, y2, y3, i1', i2'⟩ := Ty.yD HI'.out.lies;have D1 := k0_ (fun (u : World) (hE : Below w1.heap.size w1 u) => IH.out p1 f1 B1 _ c1 p1' f1' B1' _ c1' u (by omega) (i1.below hE) (i1'.below hE) o1 o1');have D2 := k0_ (fun (u : World) (hE : Below w1.heap.size w1 u) => IH.out p2 f2 B2 _ c2 p2' f2' B2' _ c2' u (by omega) (i2.below hE) (i2'.below hE) o2 o2');have hres : Ty.agF (.node a1 a2 p1 f1 (.node a3 a4 p2 f2 .nil)) (.node a1' a2' p1' f1' (.node a3' a4' p2' f2' .nil)) = (Ty.agT p1 f1 p1' f1' && Ty.agT p2 f2 p2' f2') := by simp [Ty.agF, Ty.agT]
    rw [hres];have hr := Ty.vL ho;have hr2 : k = 3 \/ k = 4 \/ k = 5 := by omega
    generalize hg1 : Ty.agT p1 f1 p1' f1' = R1 at D1;generalize hg2 : Ty.agT p2 f2 p2' f2' = R2 at D2;generalize Ty.len f1 = m1 at *;generalize Ty.len f2 = m2 at *;generalize Ty.len f1' = m1' at *;generalize Ty.len f2' = m2' at *;clear hres ho ho' hr hk0 hk0' hlow HI HI' IH i1 i2 i1' i2' o1 o2 o1' o2' hK hg1 hg2;rcases hr2 with rfl | rfl | rfl
    all_goals
     have e1 := fun W => zO 3 3 1 1 W
     have e2 := fun W => zO 3 3 2 2 W
     have e3 := fun W => zO 3 3 3 3 W
     have f1 := fun W => zO 4 4 1 1 W
     have f2 := fun W => zO 4 4 2 2 W
     have f3 := fun W => zO 4 4 3 3 W
     have f4 := fun W => zO 4 4 4 4 W
     have g1 := fun W => zO 5 5 1 1 W
     have g2 := fun W => zO 5 5 2 2 W
     have g3 := fun W => zO 5 5 3 3 W
     have g4 := fun W => zO 5 5 4 4 W
     have g5 := fun W => zO 5 5 5 5 W
     cases R1
     all_goals
      go_enter Tryz.func38, Tryz.ntmps38
      go_wp2_with fail
      rw [HW.out]
      go_wp2_with fail
      clear e1 e2 e3 f1 f2 f3 f4 g1 g2 g3 g4 g5;have B0 := zW b0;have B1 := zW b1;have C0 := zW d0;have C1 := zW d1;have X0 := zW x0;have X1 := zW x1;have X2 := zW x2;have X3 := zW x3;have Y0 := zW y0;have Y1 := zW y1;have Y2 := zW y2;have Y3 := zW y3;clear b0 b1 d0 d1 x0 x1 x2 x3 y0 y1 y2 y3;refine jX (by kernel_rfl) (by kernel_rfl) ?_
      repeat
       first
        | go_big_quiet_skip
        | (go_big_quiet_want
           go_big_quiet_op
           first
            | go_big_quiet_on
            | (refine ⟨_, fun _ => rfl, ?_⟩
               go_big_quiet_on)
            | (apply Exists.intro
               refine ⟨fun h => ?_, ?_⟩
               ·first
                 | (go_at_call 38; with_reducible exact jC h (D1.out h.u h.low))
                 | (go_at_call 38; with_reducible exact jC h (D2.out h.u h.low))
               go_big_quiet_on))
      refine wpQuiet_nil ?_;rintro _ ⟨⟨w8, E⟩, rfl⟩
      go_wp2_with fail
      go_ret
      exact ⟨rfl, hB0.trans (E.mono hB0.size)⟩
  ·rw [Ty.uO _ _ hk0 hk0' hkk]
   have e1 : ∀ W, (binOp .eql 75 (.agg #[.int .i8 k, .int .i8 k']) (.agg #[.int .i8 1, .int .i8 1])).run Tryz.prog W = .ok (.bool false) W := fun W => by rw [zO]; simp; omega
   have e2 : ∀ W, (binOp .eql 75 (.agg #[.int .i8 k, .int .i8 k']) (.agg #[.int .i8 2, .int .i8 2])).run Tryz.prog W = .ok (.bool false) W := fun W => by rw [zO]; simp; omega
   have e3 : ∀ W, (binOp .eql 75 (.agg #[.int .i8 k, .int .i8 k']) (.agg #[.int .i8 3, .int .i8 3])).run Tryz.prog W = .ok (.bool false) W := fun W => by rw [zO]; simp; omega
   have e4 : ∀ W, (binOp .eql 75 (.agg #[.int .i8 k, .int .i8 k']) (.agg #[.int .i8 4, .int .i8 4])).run Tryz.prog W = .ok (.bool false) W := fun W => by rw [zO]; simp; omega
   have e5 : ∀ W, (binOp .eql 75 (.agg #[.int .i8 k, .int .i8 k']) (.agg #[.int .i8 5, .int .i8 5])).run Tryz.prog W = .ok (.bool false) W := fun W => by rw [zO]; simp; omega
   clear ho ho' hkk hk0 hk0';exact zEv
end Go.Proofs.YtkdnnleanoompaaGreatDoor
namespace Go.Proofs.YtkdnnleanoompaaGreatDoor
set_option maxHeartbeats 2000000
set_option maxRecDepth 100000
open Go.RowKit
theorem xw (k : Int) (kids : Fo) (A : Option Addr) (n c : Nat) (k' : Int) (kids' : Fo) (A' : Option Addr) (n' c' : Nat) (w : World) (hIs : Ty.Is w k kids A n c) (hIs' : Ty.Is w k' kids' A' n' c') (hS : Shapes w) :
  Calls Tryz.prog 14 #[.agg #[.int .i8 k, .slice A n c], .agg #[.int .i8 k', .slice A' n' c']] w fun e w' => e = .returned (.bool (Ty.agreeT k kids k' kids')) /\ Below w.heap.size w w' := by
 obtain ⟨hB0, hR0, hR1⟩ := jb w k A n c k' A' n' c';have HM := k0_ (fun (W : World) (hb : Below w.heap.size w W) => jg k kids A n c W (hIs.below hb) (hS.below hb));have HN := k0_ (fun (W : World) (hb : Below w.heap.size w W) => jg k' kids' A' n' c' W (hIs'.below hb) (hS.below hb));have HK := k0_ (fun (W : World) (hb : Below w.heap.size w W) (h1 : Ty.okT k kids = true) (h2 : Ty.okT k' kids' = true) => uN (Ty.nodes kids + 1) k kids A n c k' kids' A' n' c' W (by omega) (hIs.below hb) (hIs'.below hb) h1 h2);have R0 := k0_ hR0;have R1 := k0_ hR1;have HB0 := k0_ hB0;clear hIs hIs' hS hR0 hR1
 by_cases h0 : Ty.chk k kids = 0
 ·have o1 := (Ty.ze h0).1
  rw [h0] at HM
  by_cases h1 : Ty.chk k' kids' = 0
  ·have o2 := (Ty.ze h1).1
   have hres : Ty.agreeT k kids k' kids' = Ty.agT k kids k' kids' := by unfold Ty.agreeT; rw [h0, h1]; rfl
   have HKK := k0_ (fun (W : World) (hb : Below w.heap.size w W) => HK.out W hb o1 o2);rw [hres];rw [h1] at HN;clear hres h0 h1 o1 o2 HK hB0
   go_enter Tryz.func14, Tryz.ntmps14
   exact zGo
  ·have hres : Ty.agreeT k kids k' kids' = false := by unfold Ty.agreeT; simp [h1]
   rw [hres];have hc : (((Ty.chk k' kids' : Nat) : Int) == 0) = false := by simp; omega
   generalize Ty.chk k' kids' = C at *;clear hres h0 h1 HK o1 hB0
   go_enter Tryz.func14, Tryz.ntmps14
   exact zGZ
 ·have hres : Ty.agreeT k kids k' kids' = false := by unfold Ty.agreeT; simp [h0]
  rw [hres];have hc : (((Ty.chk k kids : Nat) : Int) == 0) = false := by simp; omega
  generalize Ty.chk k kids = C at *;clear hres h0 HK hB0
  go_enter Tryz.func14, Tryz.ntmps14
  exact zGA
theorem zAm (K : Nat) : ∀ (k : Int) (kids : Fo) (A : Option Addr) (n c : Nat) (k' : Int) (kids' : Fo) (A' : Option Addr) (n' c' : Nat) (w : World), Ty.nodes kids < K -> Ty.Is w k kids A n c -> Ty.Is w k' kids' A' n' c' -> Ty.okT k kids = true -> Ty.okT k' kids' = true ->
  Calls Tryz.prog 88 #[.agg #[.int .i8 k, .slice A n c], .agg #[.int .i8 k', .slice A' n' c']] w fun e w' => e = .returned (.bool (Ty.agT k kids k' kids')) /\ Below w.heap.size w w' := by
 induction K with
 | zero => intro _ _ _ _ _ _ _ _ _ _ _ h; omega
 | succ K ih =>
  intro k kids A n c k' kids' A' n' c' w hK hIs hIs' ho ho';have i5 : (n : Int) <= 9223372036854775807 := by have h1 := hIs.n_le; have h2 := hIs.c_le; unfold maxLen at h2; omega
  obtain ⟨hB0, hR0, hR1⟩ := jb w k A n c k' A' n' c';have HI := k0_ hIs;have HI' := k0_ hIs';have IH := k0_ ih;clear ih hIs hIs';obtain ⟨b0, b1, _, _, hb0⟩ := zF hR0;obtain ⟨d0, d1, _, _, hd0⟩ := zF hR1
  by_cases hk0 : k = 0
  ·subst hk0
   rw [Ty.ve];clear ho ho' hR0 hR1;exact zFa
  by_cases hk0' : k' = 0
  ·subst hk0'
   rw [Ty.vG];have hz : (k == 0) = false := by simpa using hk0
   clear ho ho' hk0 hR0 hR1;exact zFa
  have hz : (k == 0) = false := by simpa using hk0
  have hz' : (k' == 0) = false := by simpa using hk0'
  by_cases hkk : k = k'
  ·have hnn : n = n' := by
    subst hkk;have h1 := HI.out.n_eq;have h2 := HI'.out.n_eq;unfold Ty.okT at ho ho';rw [Bool.and_eq_true] at ho ho';have := Ty.zDl ho.1 ho'.1
    omega
   subst hkk;subst hnn;rw [Ty.xE _ _ hk0];have hk2 : (k != k) = false := by simp
   have hF1 : Ty.okF kids = true := by unfold Ty.okT at ho; rw [Bool.and_eq_true] at ho; exact ho.2
   have hF2 : Ty.okF kids' = true := by unfold Ty.okT at ho'; rw [Bool.and_eq_true] at ho'; exact ho'.2
   obtain ⟨R, hR⟩ : ∃ R, Ty.agF kids kids' = R := ⟨_, rfl⟩
   rw [hR];have HR := k0_ hR;have hlies2 := HI'.out.lies.below hB0;have hst := Over.start (HI.out.lies.below hB0) HI.out.n_eq;have hst2 : Over2 w _ A' n 0 kids' := ⟨by have := HI'.out.n_eq; omega, hlies2⟩;have HF1 := k0_ hF1;have HF2 := k0_ hF2;clear hR0 hR1 hR hlies2 ho ho' hF1 hF2 hk0 hk0';generalize hw1 : (w.alloc (.cells #[.int .i8 k, .slice A n c] 25)).alloc (.cells #[.int .i8 k, .slice A' n c'] 25) = w1 at *;have HS := k0_ hst;have HS2 := k0_ hst2;have HW := k0_ hw1;clear hst hst2 hw1
   go_enter Tryz.func88, Tryz.ntmps88
   go_wp2_with fail
   rw [HW.out]
   go_wp2_with fail
   go_loopw [5] (fun v5 wr => ∃ (i : Nat) (r1 r2 : Fo), v5 = .int .i64 i /\ Over w1 wr A n (Ty.nodes kids) i r1 /\ Over2 w wr A' n i r2 /\ Ty.agF r1 r2 = R /\ Ty.okF r1 = true /\ Ty.okF r2 = true) (fun v _ => n - (intOf v).toNat)
   case atStart => exact ⟨0, kids, kids', rfl, HS.out, HS2.out, HR.out, HF1.out, HF2.out⟩
   case round =>
    obtain ⟨i, r1, r2, rfl, hO, hO2, hRR, hF1, hF2⟩ := hrel;have hbB := hB0.trans (hO.below.mono hB0.size);obtain ⟨e0, e1⟩ := hO.box b0 b1;obtain ⟨g0, g1⟩ := hO.box d0 d1;clear b0 b1 d0 d1
    cases r1 with
    | nil =>
     have hi : i = n := by have := hO.i_eq; simpa [Ty.len] using this
     have hr2 : r2 = .nil := by
      exact zFH
     subst hr2;clear hO hO2 hF1 hF2;simp only [Ty.agF] at hRR;exact zFe
    | node a b kk kks r =>
     cases r2 with
     | nil => have q1 := hO.i_eq; have q2 := hO2.i_eq; simp only [Ty.len] at q1 q2; omega
     | node a2 b2 kk2 kks2 s =>
     have hst := fun w2 hb => Over.step (w2 := w2) hO hb
     have h1 := hO.i_eq;have h2 := hO.lies;have h3 := hO.sub;have q1 := hO2.i_eq;have q2 := hO2.lies;simp only [Ty.len, Ty.nodes, Ty.agF] at h1 h3 hRR q1;simp only [Ty.okF, Bool.and_eq_true] at hF1 hF2;obtain ⟨bb, oo, B, c9, rfl, ⟨hk1, hk2'⟩, c1', c2', hl1, hl2, hl3, hl4⟩ := h2;obtain ⟨bb2, oo2, B2, c3, rfl, ⟨gk1, gk2⟩, x1, x2, gl1, gl2, gl3, gl4⟩ := q2;have o1 : Ty.okT kk kks = true := by unfold Ty.okT; rw [Bool.and_eq_true]; exact ⟨hF1.1.1, hF1.1.2⟩
     have o2 : Ty.okT kk2 kks2 = true := by unfold Ty.okT; rw [Bool.and_eq_true]; exact ⟨hF2.1.1, hF2.1.2⟩
     have hcall := fun (W : World) (hb : Below wr.heap.size wr W) => IH.out kk kks B (Ty.len kks) c9 kk2 kks2 B2 (Ty.len kks2) c3 W (by omega) ⟨hl3.below hb, rfl, hl1, hl2, hk1, hk2'⟩ ⟨gl3.below hb, rfl, gl1, gl2, gk1, gk2⟩ o1 o2
     have HST := k0_ hst;have HL := k0_ hl4;have HL2 := k0_ gl4;have HC := k0_ hcall;have HRR := k0_ hRR;have HF3 := k0_ hF1.2;have HF4 := k0_ hF2.2;have j1 : (i : Int) < n := by omega
     have j2 : (0 : Int) <= i /\ (i : Int) < n := by omega
     have hBd := k0_ (below_drewN (Below.refl wr.heap.size wr) 1);clear hst hl3 hl4 gl3 gl4 hcall hO hO2 hRR hF1 hF2 o1 o2;cases hp : Ty.agT kk kks kk2 kks2
     ·have hp0 : R = false := by rw [← HRR.out]; unfold Ty.agT at hp; rw [hp]; rfl
      exact zGn
     ·have hp0 := HRR.out
      unfold Ty.agT at hp;rw [hp, Bool.true_and] at hp0;have HP := k0_ hp0;rw [show Ty.agT kk kks kk2 kks2 = true from hp] at HC;clear hp hp0
      go_wp2_with fail
      go_still_tail 10, (by kernel_rfl)
      change wpList _ _ _ _ _ (wr.drewN 1);have hsz : (wr.drewN 1).heap.size = wr.heap.size := rfl;clear e0 e1 g0 g1 c1' c2' x1 x2;generalize wr.drewN 1 = w2 at *
      go_wp2_with fail
      refine (HC.out _ hBd.out).mono ?_;rintro e w3 ⟨rfl, hb⟩;have hB2 : Below wr.heap.size wr w3 := hBd.out.trans (hb.mono (by omega));have hbb := k0_ (HST.out w3 hB2 HL.out);have hbb2 : Hid (Over2 w w3 (some ⟨bb2, oo2, none⟩) n (i + 1) s) := k0_ ⟨by omega, HL2.out.below hB2⟩;clear hb hB2 hsz
      go_wp2_with fail
      go_roundw
      case rel => exact ⟨i + 1, r, s, by go_num, hbb.out, hbb2.out, HP.out, HF3.out, HF4.out⟩
      case measure => simp [intOf]; omega
  ·rw [Ty.uO _ _ hk0 hk0' hkk]
   have hk2 : (k != k') = true := by simpa using hkk
   clear ho ho' hkk hk0 hk0' hR0 hR1;exact zFa
theorem yY (k : Int) (kids : Fo) (A : Option Addr) (n c : Nat) (k' : Int) (kids' : Fo) (A' : Option Addr) (n' c' : Nat) (w : World) (hIs : Ty.Is w k kids A n c) (hIs' : Ty.Is w k' kids' A' n' c') :
  Calls Tryz.prog 49 #[.agg #[.int .i8 k, .slice A n c], .agg #[.int .i8 k', .slice A' n' c']] w fun e w' => e = .returned (.bool (Ty.agreeT k kids k' kids')) /\ Below w.heap.size w w' := by
 obtain ⟨hB0, hR0, hR1⟩ := jb w k A n c k' A' n' c';have HM := k0_ (fun (W : World) (hb : Below w.heap.size w W) => qp k kids A n c W (hIs.below hb));have HN := k0_ (fun (W : World) (hb : Below w.heap.size w W) => qp k' kids' A' n' c' W (hIs'.below hb));have HK := k0_ (fun (W : World) (hb : Below w.heap.size w W) (h1 : Ty.okT k kids = true) (h2 : Ty.okT k' kids' = true) => zAm (Ty.nodes kids + 1) k kids A n c k' kids' A' n' c' W (by omega) (hIs.below hb) (hIs'.below hb) h1 h2);have R0 := k0_ hR0;have R1 := k0_ hR1;have HB0 := k0_ hB0;clear hIs hIs' hR0 hR1
 by_cases h0 : Ty.chk k kids = 0
 ·have o1 := (Ty.ze h0).1
  rw [h0] at HM
  by_cases h1 : Ty.chk k' kids' = 0
  ·have o2 := (Ty.ze h1).1
   have hres : Ty.agreeT k kids k' kids' = Ty.agT k kids k' kids' := by unfold Ty.agreeT; rw [h0, h1]; rfl
   have HKK := k0_ (fun (W : World) (hb : Below w.heap.size w W) => HK.out W hb o1 o2);rw [hres];rw [h1] at HN;clear hres h0 h1 o1 o2 HK hB0
   go_enter Tryz.func49, Tryz.ntmps49
   exact zGo
  ·have hres : Ty.agreeT k kids k' kids' = false := by unfold Ty.agreeT; simp [h1]
   rw [hres];have hc : (((Ty.chk k' kids' : Nat) : Int) == 0) = false := by simp; omega
   generalize Ty.chk k' kids' = C at *;clear hres h0 h1 HK o1 hB0
   go_enter Tryz.func49, Tryz.ntmps49
   exact zGZ
 ·have hres : Ty.agreeT k kids k' kids' = false := by unfold Ty.agreeT; simp [h0]
  rw [hres];have hc : (((Ty.chk k kids : Nat) : Int) == 0) = false := by simp; omega
  generalize Ty.chk k kids = C at *;clear hres h0 HK hB0
  go_enter Tryz.func49, Tryz.ntmps49
  exact zGA
namespace Ty
def leF : Fo -> Fo -> Bool
 | .nil, _ => true
 | .node _ _ _ _ _, .nil => true
 | .node _ _ k kids r, .node _ _ k' kids' r' => ((k == 0) || ((k == k') && leF kids kids')) && leF r r'
def leT (k : Int) (kids : Fo) (k' : Int) (kids' : Fo) : Bool := (k == 0) || ((k == k') && leF kids kids')
theorem yh : ∀ f : Fo, leF f f = true
 | .nil => rfl
 | .node _ _ k kids r => by simp [leF, yh kids, yh r]
theorem um {k : Int} {kids : Fo} (h : chk k kids = 0) : okK k (len kids) = true /\ okF kids = true := by
 have := (ze h).1;unfold okT at this;rw [Bool.and_eq_true] at this;exact this
def mF : Fo -> Fo -> Fo
 | .nil, _ => .nil
 | .node a b k kids r, .nil => .node a b k kids r
 | .node a b k kids r, .node _ _ k' kids' r' => .node a b (if k = 0 then k' else k) (if k = 0 then kids' else if k' = 0 then kids else mF kids kids') (mF r r')
def mK (k k' : Int) : Int := if k = 0 then k' else k
def mT (k : Int) (kids : Fo) (k' : Int) (kids' : Fo) : Fo := if k = 0 then kids' else if k' = 0 then kids else mF kids kids'
theorem yf {k : Int} (kids kids' : Fo) (h : k ≠ 0) : mT k kids 0 kids' = kids := by unfold mT; simp [h]
theorem wZ {k k' : Int} (kids kids' : Fo) (h : k ≠ 0) (h' : k' ≠ 0) : mT k kids k' kids' = mF kids kids' := by unfold mT; simp [h, h']
theorem yC {k : Int} (k' : Int) (h : k ≠ 0) : mK k k' = k := by unfold mK; simp [h]
end Ty
end Go.Proofs.YtkdnnleanoompaaGreatDoor
