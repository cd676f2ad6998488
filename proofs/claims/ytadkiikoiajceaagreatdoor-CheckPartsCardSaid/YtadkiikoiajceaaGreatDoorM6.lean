/-
  types.alike, types.Same; Nodes, Depth, Known, Ground. types.Same, Nodes, Depth, Known, Ground. The reference's Kids, right, Check, Equal, Same, open, Known. The reference's Equal, Same, Known, Of, Ground; types.Ground. The reference's Same, Known, Of, Ground; types.Ground.
-/
import Derived.Test.YtadkiikoiajceaaGreatDoorFormed
import Derived.Deep.OwnRows
import Derived.Test.YtadkiikoiajceaaGreatDoorM5
namespace Go.Proofs.YtadkiikoiajceaaGreatDoor
open Go.RowKit

namespace Ty
def eqT (k : Int) (kids : Fo) (k' : Int) (kids' : Fo) : Bool := (k == k') && eqF kids kids'
def sameT (k : Int) (kids : Fo) (k' : Int) (kids' : Fo) : Bool := (chk k kids == 0) && (chk k' kids' == 0) && eqT k kids k' kids'
theorem eqF_ne (f g : Fo) (h : len f ≠ len g) : eqF f g = false := by
  cases hq : eqF f g
  · rfl
  · exact absurd (eqF_len f g hq) h
end Ty

/-- a loop's state over a second list -/
structure Over2 (w wr : World) (A : Option Addr) (n i : Nat) (rest : Fo) : Prop where
  i_eq : i + Ty.len rest = n
  lies : Ty.Lies wr rest A i

end Go.Proofs.YtadkiikoiajceaaGreatDoor
namespace Go.Proofs.YtadkiikoiajceaaGreatDoor
open Go.RowKit

set_option maxHeartbeats 1000000 in
set_option maxRecDepth 100000 in
theorem nodes_any (k : Int) (kids : Fo) (A : Option Addr) (n c : Nat) (w : World) (hIs : Ty.Is w k kids A n c) :
    Calls Tryz.prog 121 #[.agg #[.int .i8 k, .slice A n c]] w fun e w' => e = .returned (.int .i64 (Ty.nod kids)) ∧ Below w.heap.size w w' := by
  have hB0 := (Below.refl w.heap.size w).alloc (Nat.le_refl _) (.cells #[.int .i8 k, .slice A n c] 25)
  have HM := Lib.hid (fun (W : World) (hb : Below w.heap.size w W) => measure_any k kids A n c W (hIs.below hb))
  clear hIs
  go_enter Tryz.func121, Tryz.ntmps121
  go_wp2_with fail
  refine (HM.out _ hB0).mono ?_
  rintro e w3 ⟨rfl, hb⟩
  go_wp2_with fail
  go_ret
  exact ⟨rfl, hB0.trans (hb.mono hB0.size)⟩

set_option maxHeartbeats 1000000 in
set_option maxRecDepth 100000 in
theorem depth_any (k : Int) (kids : Fo) (A : Option Addr) (n c : Nat) (w : World) (hIs : Ty.Is w k kids A n c) :
    Calls Tryz.prog 122 #[.agg #[.int .i8 k, .slice A n c]] w fun e w' => e = .returned (.int .i64 (Ty.dpt kids)) ∧ Below w.heap.size w w' := by
  have hB0 := (Below.refl w.heap.size w).alloc (Nat.le_refl _) (.cells #[.int .i8 k, .slice A n c] 25)
  have HM := Lib.hid (fun (W : World) (hb : Below w.heap.size w W) => measure_any k kids A n c W (hIs.below hb))
  clear hIs
  go_enter Tryz.func122, Tryz.ntmps122
  go_wp2_with fail
  refine (HM.out _ hB0).mono ?_
  rintro e w3 ⟨rfl, hb⟩
  go_wp2_with fail
  go_ret
  exact ⟨rfl, hB0.trans (hb.mono hB0.size)⟩

namespace Ty
def knownT (k : Int) (kids : Fo) : Bool := (chk k kids == 0) && knT k kids
end Ty

end Go.Proofs.YtadkiikoiajceaaGreatDoor
namespace Go.Proofs.YtadkiikoiajceaaGreatDoor
open Go.RowKit

namespace Ty
def kidsI (k : Int) : Int := if 0 ≤ k ∧ k ≤ 2 then 0 else if 3 ≤ k ∧ k ≤ 5 then 2 else -1
theorem okK_kids (k : Int) (n : Nat) : okK k n = (kidsI k == n) := by
  rw [Bool.eq_iff_iff]; unfold okK kidsI
  split
  · simp <;> omega
  · split
    · simp <;> omega
    · simp <;> omega
end Ty

set_option maxHeartbeats 1000000 in
theorem kids_any (k : Int) (w : World) :
    Calls Tryz.prog 134 #[.int .i8 k] w fun e w' => e = .returned (.int .i64 (Ty.kidsI k)) ∧ w' = w := by
  by_cases hr : 0 ≤ k ∧ k ≤ 5
  · have hk : k = 0 ∨ k = 1 ∨ k = 2 ∨ k = 3 ∨ k = 4 ∨ k = 5 := by omega
    clear hr
    rcases hk with rfl | rfl | rfl | rfl | rfl | rfl
    all_goals
      go_enter Tryz.func134, Tryz.ntmps134
      go_wp2_with fail
      go_ret
      exact ⟨rfl, rfl⟩
  · have e : Ty.kidsI k = -1 := by unfold Ty.kidsI; rw [if_neg (by omega), if_neg (by omega)]
    rw [e]
    have h0 : (k == 0) = false := by simp; omega
    have h1 : (k == 1) = false := by simp; omega
    have h2 : (k == 2) = false := by simp; omega
    have h3 : (k == 3) = false := by simp; omega
    have h4 : (k == 4) = false := by simp; omega
    have h5 : (k == 5) = false := by simp; omega
    clear hr e
    go_enter Tryz.func134, Tryz.ntmps134
    go_wp2_with fail
    go_ret
    exact ⟨rfl, rfl⟩

set_option maxHeartbeats 1000000 in
set_option maxRecDepth 100000 in
theorem right_any (K : Nat) : ∀ (k : Int) (kids : Fo) (A : Option Addr) (n c : Nat) (w : World), Ty.nodes kids < K → Ty.Is w k kids A n c →
    Calls Tryz.prog 131 #[.agg #[.int .i8 k, .slice A n c]] w fun e w' => e = .returned (.bool (Ty.okT k kids)) ∧ Below w.heap.size w w' := by
  induction K with
  | zero => intro _ _ _ _ _ _ h; omega
  | succ K ih =>
    intro k kids A n c w hK hIs
    have i5 : (n : Int) ≤ 9223372036854775807 := by have h1 := hIs.n_le; have h2 := hIs.c_le; unfold maxLen at h2; omega
    have hneq := hIs.n_eq
    have IH := Lib.hid ih
    have HI := Lib.hid hIs
    have hB0 := (Below.refl w.heap.size w).alloc (Nat.le_refl _) (.cells #[.int .i8 k, .slice A n c] 25)
    have hkk := Ty.okK_kids k n
    have hka := kids_any k
    clear ih hIs
    obtain ⟨b0, b1, _, _, hbl⟩ := own2 (heap_new w (.cells #[.int .i8 k, .slice A n c] 25))
    have hst := Over.start ((HI.out.alloc (.cells #[.int .i8 k, .slice A n c] 25)).lies) HI.out.n_eq
    cases hok : Ty.okK k n
    · have hres : Ty.okT k kids = false := by unfold Ty.okT; rw [← hneq, hok]; rfl
      rw [hres]
      rw [hok] at hkk
      have hd : (Ty.kidsI k != (n : Int)) = true := by rw [bne, ← hkk]; rfl
      generalize Ty.kidsI k = KI at *
      clear hres hok hkk hst hneq
      go_enter Tryz.func131, Tryz.ntmps131
      go_wp2_with fail
      generalize w.alloc (.cells #[.int .i8 k, .slice A n c] 25) = w1 at *
      go_quiet ((go_at_call 134; exact Calls.quiet_of_same (hka _)))
      go_wp2_with fail
      go_ret
      exact ⟨rfl, below_drewN hB0 _⟩
    · have hres : Ty.okT k kids = Ty.okF kids := by unfold Ty.okT; rw [← hneq, hok]; rfl
      rw [hres]
      rw [hok] at hkk
      have hd : (Ty.kidsI k != (n : Int)) = false := by rw [bne, ← hkk]; rfl
      generalize Ty.kidsI k = KI at *
      obtain ⟨R, hR⟩ : ∃ R, Ty.okF kids = R := ⟨_, rfl⟩
      rw [hR]
      have HR := Lib.hid hR
      have HS0 := Lib.hid hst
      clear hres hok hkk hst hneq hR
      go_enter Tryz.func131, Tryz.ntmps131
      go_wp2_with fail
      generalize w.alloc (.cells #[.int .i8 k, .slice A n c] 25) = w1 at *
      go_quiet ((go_at_call 134; exact Calls.quiet_of_same (hka _)))
      have HB1 := Lib.hid (below_drewN (Below.refl w1.heap.size w1) nq)
      go_wp2_with fail
      go_loopw [3] (fun v3 wr => ∃ (i : Nat) (rest : Fo), v3 = .int .i64 i ∧ Over w1 wr A n (Ty.nodes kids) i rest ∧ Ty.okF rest = R) (fun v _ => n - (intOf v).toNat)
      case atStart => exact ⟨0, kids, rfl, ⟨HS0.out.i_eq, HS0.out.lies.below HB1.out, HS0.out.sub, HB1.out⟩, HR.out⟩
      case round =>
        obtain ⟨i, rest, rfl, hO, hRR⟩ := hrel
        have hbB := hB0.trans (hO.below.mono hB0.size)
        obtain ⟨c0, c1⟩ := hO.box b0 b1
        clear b0 b1
        cases rest with
        | nil =>
          have hi : i = n := by have := hO.i_eq; simpa [Ty.len] using this
          simp only [Ty.okF] at hRR
          clear hO
          subst hi
          subst hRR
          go_wp2_with fail
          go_ret
          exact ⟨rfl, hbB⟩
        | node a b k' kids' r =>
          have hst := fun w2 hb => Over.step (w2 := w2) hO hb
          have h1 := hO.i_eq
          have h2 := hO.lies
          have h3 := hO.sub
          simp only [Ty.len, Ty.nodes, Ty.okF] at h1 h3 hRR
          obtain ⟨bb, oo, B, c', rfl, ⟨hk1, hk2⟩, c1', c2', hl1, hl2, hl3, hl4⟩ := h2
          have j1 : (i : Int) < n := by omega
          have hcall := IH.out k' kids' B (Ty.len kids') c' wr (by omega) ⟨hl3, rfl, hl1, hl2, hk1, hk2⟩
          have HS := Lib.hid hst
          have HL := Lib.hid hl4
          have HC := Lib.hid hcall
          have HRR := Lib.hid hRR
          clear hst hl3 hl4 hcall hO hRR
          cases hp : Ty.okT k' kids'
          · have hp0 : R = false := by unfold Ty.okT at hp; rw [← HRR.out, hp]; rfl
            rw [hp] at HC
            subst hp0
            clear hp
            go_wp2_with fail
            refine HC.out.mono ?_
            rintro e w2 ⟨rfl, hb⟩
            go_wp2_with fail
            go_ret
            exact ⟨rfl, hbB.trans (hb.mono hbB.size)⟩
          · have hp0 := HRR.out
            rw [show (Ty.okK k' (Ty.len kids') && Ty.okF kids') = true from hp, Bool.true_and] at hp0
            have HP := Lib.hid hp0
            rw [hp] at HC
            clear hp hp0
            go_wp2_with fail
            refine HC.out.mono ?_
            rintro e w2 ⟨rfl, hb⟩
            have hbb := Lib.hid (HS.out w2 hb HL.out)
            clear hb
            go_wp2_with fail
            go_roundw
            case rel => exact ⟨i + 1, r, by go_num, hbb.out, HP.out⟩
            case measure => simp [intOf]; omega

set_option maxHeartbeats 1000000 in
set_option maxRecDepth 100000 in
theorem ref_check (k : Int) (kids : Fo) (A : Option Addr) (n c : Nat) (w : World) (hIs : Ty.Is w k kids A n c) :
    Calls Tryz.prog 110 #[.agg #[.int .i8 k, .slice A n c]] w fun e w' => e = .returned (.int .i64 (Ty.chk k kids)) ∧ Below w.heap.size w w' := by
  have HN := Lib.hid (fun (W : World) (hb : Below w.heap.size w W) => ref_nodes k kids A n c W (hIs.below hb))
  have HM := Lib.hid (fun (W : World) (hb : Below w.heap.size w W) => ref_depth k kids A n c W (hIs.below hb))
  have HF := Lib.hid (fun (W : World) (hb : Below w.heap.size w W) => right_any (Ty.nodes kids + 1) k kids A n c W (by omega) (hIs.below hb))
  have hB0 := (Below.refl w.heap.size w).alloc (Nat.le_refl _) (.cells #[.int .i8 k, .slice A n c] 25)
  have R0 := Lib.hid (heap_new w (.cells #[.int .i8 k, .slice A n c] 25))
  clear hIs
  by_cases h1 : 8192 < Ty.nodes kids + 1
  · have e1 : Ty.chk k kids = 32 := by unfold Ty.chk; rw [if_pos h1]
    have e2 : ((Ty.nod kids : Nat) : Int) = 8193 := by unfold Ty.nod; omega
    rw [e1]
    rw [e2] at HN
    clear e2 e1 h1
    go_enter Tryz.func110, Tryz.ntmps110
    go_wp2_with fail
    refine (HN.out _ hB0).mono ?_
    rintro e w3 ⟨rfl, hb⟩
    go_wp2_with fail
    go_ret
    exact ⟨rfl, hB0.trans (hb.mono hB0.size)⟩
  · have e2 : ((Ty.nod kids : Nat) : Int) ≤ 8192 := by unfold Ty.nod; omega
    have e4 : Ty.dpt kids = min (Ty.dep kids + 1) 201 := by unfold Ty.dpt; rw [if_neg h1]
    by_cases h2 : 200 < Ty.dep kids + 1
    · have e1 : Ty.chk k kids = 31 := by unfold Ty.chk; rw [if_neg h1, if_pos h2]
      have e3 : ((Ty.dpt kids : Nat) : Int) = 201 := by rw [e4]; omega
      rw [e1]
      rw [e3] at HM
      generalize Ty.nod kids = N at *
      clear e3 e1 h1 h2 e4
      go_enter Tryz.func110, Tryz.ntmps110
      go_wp2_with fail
      refine (HN.out _ hB0).mono ?_
      rintro e w3 ⟨rfl, hb⟩
      have hB1 := hB0.trans (hb.mono hB0.size)
      obtain ⟨b0, b1, _, _, _⟩ := own2 (heap_below hb (heap_lt R0.out) R0.out)
      clear hb
      go_wp2_with fail
      refine (HM.out _ hB1).mono ?_
      rintro e w4 ⟨rfl, hb⟩
      go_wp2_with fail
      go_ret
      exact ⟨rfl, hB1.trans (hb.mono hB1.size)⟩
    · have e3 : ((Ty.dpt kids : Nat) : Int) ≤ 200 := by rw [e4]; omega
      have e1 : Ty.chk k kids = if Ty.okT k kids then 0 else 20 := by unfold Ty.chk; rw [if_neg h1, if_neg h2]; rfl
      rw [e1]
      generalize Ty.nod kids = N at *
      generalize Ty.dpt kids = D at *
      clear e1 h1 h2 e4
      cases ho : Ty.okT k kids
      all_goals
        rw [ho] at HF
        clear ho
        go_enter Tryz.func110, Tryz.ntmps110
        go_wp2_with fail
        refine (HN.out _ hB0).mono ?_
        rintro e w3 ⟨rfl, hb⟩
        have hB1 := hB0.trans (hb.mono hB0.size)
        have R1 := Lib.hid (heap_below hb (heap_lt R0.out) R0.out)
        obtain ⟨b0, b1, _, _, _⟩ := own2 R1.out
        clear hb
        go_wp2_with fail
        refine (HM.out _ hB1).mono ?_
        rintro e w4 ⟨rfl, hb⟩
        have hB2 := hB1.trans (hb.mono hB1.size)
        obtain ⟨b0, b1, _, _, _⟩ := own2 (heap_below hb (heap_lt R1.out) R1.out)
        clear hb
        go_wp2_with fail
        refine (HF.out _ hB2).mono ?_
        rintro e w5 ⟨rfl, hb⟩
        go_wp2_with fail
        go_ret
        exact ⟨rfl, hB2.trans (hb.mono hB2.size)⟩

end Go.Proofs.YtadkiikoiajceaaGreatDoor
namespace Go.Proofs.YtadkiikoiajceaaGreatDoor
open Go.RowKit

theorem two_boxes (w : World) (k : Int) (A : Option Addr) (n c : Nat) (k' : Int) (A' : Option Addr) (n' c' : Nat) :
    Below w.heap.size w ((w.alloc (.cells #[.int .i8 k, .slice A n c] 25)).alloc (.cells #[.int .i8 k', .slice A' n' c'] 25)) ∧
    ((w.alloc (.cells #[.int .i8 k, .slice A n c] 25)).alloc (.cells #[.int .i8 k', .slice A' n' c'] 25)).heap[w.heap.size]? = some (.cells #[.int .i8 k, .slice A n c] 25) ∧
    ((w.alloc (.cells #[.int .i8 k, .slice A n c] 25)).alloc (.cells #[.int .i8 k', .slice A' n' c'] 25)).heap[w.heap.size + 1]? = some (.cells #[.int .i8 k', .slice A' n' c'] 25) := by
  refine ⟨((Below.refl w.heap.size w).alloc (Nat.le_refl _) _).alloc (by simp) _, heap_old (heap_new w _) _, ?_⟩
  have := heap_new (w.alloc (.cells #[.int .i8 k, .slice A n c] 25)) (.cells #[.int .i8 k', .slice A' n' c'] 25)
  simpa using this

theorem Ty.okK_same {k : Int} {n m : Nat} (h1 : Ty.okK k n = true) (h2 : Ty.okK k m = true) : n = m := by
  unfold Ty.okK at h1 h2
  split at h1
  · simp at h1; rw [if_pos ‹_›] at h2; simp at h2; omega
  · rw [if_neg ‹_›] at h2
    split at h1
    · simp at h1; rw [if_pos ‹_›] at h2; simp at h2; omega
    · cases h1

set_option maxHeartbeats 2000000 in
set_option maxRecDepth 100000 in
theorem ref_equal (K : Nat) : ∀ (k : Int) (kids : Fo) (A : Option Addr) (n c : Nat) (k' : Int) (kids' : Fo) (A' : Option Addr) (n' c' : Nat) (w : World), Ty.nodes kids < K → Ty.Is w k kids A n c → Ty.Is w k' kids' A' n' c' → Ty.okT k kids = true → Ty.okT k' kids' = true →
    Calls Tryz.prog 115 #[.agg #[.int .i8 k, .slice A n c], .agg #[.int .i8 k', .slice A' n' c']] w fun e w' => e = .returned (.bool (Ty.eqT k kids k' kids')) ∧ Below w.heap.size w w' := by
  induction K with
  | zero => intro _ _ _ _ _ _ _ _ _ _ _ h; omega
  | succ K ih =>
    intro k kids A n c k' kids' A' n' c' w hK hIs hIs' ho ho'
    have i5 : (n : Int) ≤ 9223372036854775807 := by have h1 := hIs.n_le; have h2 := hIs.c_le; unfold maxLen at h2; omega
    obtain ⟨hB0, hR0, hR1⟩ := two_boxes w k A n c k' A' n' c'
    have HI := Lib.hid hIs
    have HI' := Lib.hid hIs'
    have IH := Lib.hid ih
    unfold Ty.okT at ho ho'
    rw [Bool.and_eq_true] at ho ho'
    have HO := Lib.hid ho
    have HO' := Lib.hid ho'
    clear ih hIs hIs' ho ho'
    obtain ⟨b0, b1, _, _, hb0⟩ := own2 hR0
    obtain ⟨d0, d1, _, _, hd0⟩ := own2 hR1
    cases hk : (k == k')
    · have hres : Ty.eqT k kids k' kids' = false := by unfold Ty.eqT; rw [hk]; rfl
      have hk2 : (k != k') = true := by rw [bne, hk]; rfl
      rw [hres]
      clear hres hR0 hR1 hk
      go_enter Tryz.func115, Tryz.ntmps115
      go_wp2_with fail
      go_ret
      exact ⟨rfl, hB0⟩
    · have hres : Ty.eqT k kids k' kids' = Ty.eqF kids kids' := by unfold Ty.eqT; rw [hk]; rfl
      have hk2 : (k != k') = false := by rw [bne, hk]; rfl
      have hnn : n = n' := by
        have e : k = k' := by simpa using hk
        subst e
        have := Ty.okK_same HO.out.1 HO'.out.1
        have h1 := HI.out.n_eq
        have h2 := HI'.out.n_eq
        omega
      subst hnn
      rw [hres]
      obtain ⟨R, hR⟩ : ∃ R, Ty.eqF kids kids' = R := ⟨_, rfl⟩
      rw [hR]
      have HR := Lib.hid hR
      have hlies2 := HI'.out.lies.below hB0
      have hst := Over.start (HI.out.lies.below hB0) HI.out.n_eq
      have hst2 : Over2 w _ A' n 0 kids' := ⟨by have := HI'.out.n_eq; omega, hlies2⟩
      clear hres hR0 hR1 hR hlies2
      generalize hw1 : (w.alloc (.cells #[.int .i8 k, .slice A n c] 25)).alloc (.cells #[.int .i8 k', .slice A' n c'] 25) = w1 at *
      have HS := Lib.hid hst
      have HS2 := Lib.hid hst2
      have HW := Lib.hid hw1
      clear hst hst2 hw1
      go_enter Tryz.func115, Tryz.ntmps115
      go_wp2_with fail
      rw [HW.out]
      go_loopw [5] (fun v5 wr => ∃ (i : Nat) (r1 r2 : Fo), v5 = .int .i64 i ∧ Over w1 wr A n (Ty.nodes kids) i r1 ∧ Over2 w wr A' n i r2 ∧ Ty.eqF r1 r2 = R ∧ Ty.okF r1 = true ∧ Ty.okF r2 = true) (fun v _ => n - (intOf v).toNat)
      case atStart => exact ⟨0, kids, kids', rfl, HS.out, HS2.out, HR.out, HO.out.2, HO'.out.2⟩
      case round =>
        obtain ⟨i, r1, r2, rfl, hO, hO2, hRR, ho1, ho2⟩ := hrel
        have hbB := hB0.trans (hO.below.mono hB0.size)
        obtain ⟨e0, e1⟩ := hO.box b0 b1
        obtain ⟨g0, g1⟩ := hO.box d0 d1
        clear b0 b1 d0 d1
        cases r1 with
        | nil =>
          have hi : i = n := by have := hO.i_eq; simpa [Ty.len] using this
          have hr2 : r2 = .nil := by
            have := hO2.i_eq
            cases r2 with
            | nil => rfl
            | node _ _ _ _ _ => simp only [Ty.len] at this; omega
          subst hr2
          clear hO hO2 ho1 ho2
          simp only [Ty.eqF] at hRR
          subst hi
          subst hRR
          go_wp2_with fail
          go_ret
          exact ⟨rfl, hbB⟩
        | node a b kk kks r =>
          cases r2 with
          | nil => have q1 := hO.i_eq; have q2 := hO2.i_eq; simp only [Ty.len] at q1 q2; omega
          | node a2 b2 kk2 kks2 s =>
          have hst := fun w2 hb => Over.step (w2 := w2) hO hb
          have h1 := hO.i_eq
          have h2 := hO.lies
          have h3 := hO.sub
          have q1 := hO2.i_eq
          have q2 := hO2.lies
          simp only [Ty.len, Ty.nodes, Ty.eqF, Ty.okF] at h1 h3 hRR q1 ho1 ho2
          rw [Bool.and_eq_true] at ho1 ho2
          obtain ⟨bb, oo, B, c9, rfl, ⟨hk1, hk2'⟩, c1', c2', hl1, hl2, hl3, hl4⟩ := h2
          obtain ⟨bb2, oo2, B2, c3, rfl, ⟨gk1, gk2⟩, x1, x2, gl1, gl2, gl3, gl4⟩ := q2
          have hcall := fun (W : World) (hb : Below wr.heap.size wr W) => IH.out kk kks B (Ty.len kks) c9 kk2 kks2 B2 (Ty.len kks2) c3 W (by omega) ⟨hl3.below hb, rfl, hl1, hl2, hk1, hk2'⟩ ⟨gl3.below hb, rfl, gl1, gl2, gk1, gk2⟩ ho1.1 ho2.1
          have HST := Lib.hid hst
          have HL := Lib.hid hl4
          have HL2 := Lib.hid gl4
          have HC := Lib.hid hcall
          have HRR := Lib.hid hRR
          have HOO := Lib.hid (And.intro ho1.2 ho2.2)
          have j1 : (i : Int) < n := by omega
          have j2 : (0 : Int) ≤ i ∧ (i : Int) < n := by omega
          have hBd := Lib.hid (below_drewN (Below.refl wr.heap.size wr) 1)
          clear hst hl3 hl4 gl3 gl4 hcall hO hO2 hRR ho1 ho2
          cases hp : Ty.eqT kk kks kk2 kks2
          · have hp0 : R = false := by rw [← HRR.out]; unfold Ty.eqT at hp; rw [hp]; rfl
            rw [hp] at HC
            subst hp0
            clear hp
            go_wp2_with fail
            go_still_tail 10, (by kernel_rfl)
            change wpList _ _ _ _ _ (wr.drewN 1)
            have hbB1 := hbB.trans (hBd.out.mono hbB.size)
            have hsz : (wr.drewN 1).heap.size = wr.heap.size := rfl
            clear e0 e1 g0 g1 c1' c2' x1 x2
            generalize wr.drewN 1 = w2 at *
            go_wp2_with fail
            refine (HC.out _ hBd.out).mono ?_
            rintro e w3 ⟨rfl, hb⟩
            go_wp2_with fail
            go_ret
            exact ⟨rfl, hbB1.trans (hb.mono hbB1.size)⟩
          · have hp0 := HRR.out
            unfold Ty.eqT at hp
            rw [hp, Bool.true_and] at hp0
            have HP := Lib.hid hp0
            rw [show Ty.eqT kk kks kk2 kks2 = true from hp] at HC
            clear hp hp0
            go_wp2_with fail
            go_still_tail 10, (by kernel_rfl)
            change wpList _ _ _ _ _ (wr.drewN 1)
            have hsz : (wr.drewN 1).heap.size = wr.heap.size := rfl
            clear e0 e1 g0 g1 c1' c2' x1 x2
            generalize wr.drewN 1 = w2 at *
            go_wp2_with fail
            refine (HC.out _ hBd.out).mono ?_
            rintro e w3 ⟨rfl, hb⟩
            have hB2 : Below wr.heap.size wr w3 := hBd.out.trans (hb.mono (by omega))
            have hbb := Lib.hid (HST.out w3 hB2 HL.out)
            have hbb2 : Hid (Over2 w w3 (some ⟨bb2, oo2, none⟩) n (i + 1) s) := Lib.hid ⟨by omega, HL2.out.below hB2⟩
            clear hb hB2 hsz
            go_wp2_with fail
            go_roundw
            case rel => exact ⟨i + 1, r, s, by go_num, hbb.out, hbb2.out, HP.out, HOO.out.1, HOO.out.2⟩
            case measure => simp [intOf]; omega
end Go.Proofs.YtadkiikoiajceaaGreatDoor
namespace Go.Proofs.YtadkiikoiajceaaGreatDoor
open Go.RowKit

theorem Ty.chk_ok {k : Int} {kids : Fo} (h : Ty.chk k kids = 0) : Ty.okT k kids = true ∧ Ty.nodes kids + 1 ≤ 8192 ∧ Ty.dep kids + 1 ≤ 200 := by
  unfold Ty.chk at h
  split at h
  · cases h
  · split at h
    · cases h
    · split at h
      · rename_i h1 h2 h3; exact ⟨h3, by omega, by omega⟩
      · cases h

set_option maxHeartbeats 2000000 in
set_option maxRecDepth 100000 in
theorem ref_same (k : Int) (kids : Fo) (A : Option Addr) (n c : Nat) (k' : Int) (kids' : Fo) (A' : Option Addr) (n' c' : Nat) (w : World) (hIs : Ty.Is w k kids A n c) (hIs' : Ty.Is w k' kids' A' n' c') :
    Calls Tryz.prog 72 #[.agg #[.int .i8 k, .slice A n c], .agg #[.int .i8 k', .slice A' n' c']] w fun e w' => e = .returned (.bool (Ty.sameT k kids k' kids')) ∧ Below w.heap.size w w' := by
  obtain ⟨hB0, hR0, hR1⟩ := two_boxes w k A n c k' A' n' c'
  have HM := Lib.hid (fun (W : World) (hb : Below w.heap.size w W) => ref_check k kids A n c W (hIs.below hb))
  have HN := Lib.hid (fun (W : World) (hb : Below w.heap.size w W) => ref_check k' kids' A' n' c' W (hIs'.below hb))
  have HK := Lib.hid (fun (W : World) (hb : Below w.heap.size w W) => ref_equal (Ty.nodes kids + 1) k kids A n c k' kids' A' n' c' W (by omega) (hIs.below hb) (hIs'.below hb))
  have R0 := Lib.hid hR0
  have R1 := Lib.hid hR1
  clear hIs hIs' hR0 hR1
  by_cases h0 : Ty.chk k kids = 0
  · by_cases h1 : Ty.chk k' kids' = 0
    · have hres : Ty.sameT k kids k' kids' = Ty.eqT k kids k' kids' := by unfold Ty.sameT; rw [h0, h1]; rfl
      have HK2 := Lib.hid (fun W hb => HK.out W hb (Ty.chk_ok h0).1 (Ty.chk_ok h1).1)
      rw [hres]
      rw [h0] at HM
      rw [h1] at HN
      clear hres h0 h1 HK
      go_enter Tryz.func72, Tryz.ntmps72
      go_wp2_with fail
      refine (HM.out _ hB0).mono ?_
      rintro e w3 ⟨rfl, hb⟩
      have hB1 := hB0.trans (hb.mono hB0.size)
      have hR0 := heap_below hb (heap_lt R0.out) R0.out
      have hR1 := heap_below hb (heap_lt R1.out) R1.out
      obtain ⟨b0, b1, _, _, _⟩ := own2 hR0
      obtain ⟨d0, d1, _, _, _⟩ := own2 hR1
      have HR0 := Lib.hid hR0
      have HR1 := Lib.hid hR1
      clear hb hR0 hR1
      go_wp2_with fail
      refine (HN.out _ hB1).mono ?_
      rintro e w4 ⟨rfl, hb⟩
      have hB2 := hB1.trans (hb.mono hB1.size)
      obtain ⟨b0, b1, _, _, _⟩ := own2 (heap_below hb (heap_lt HR0.out) HR0.out)
      obtain ⟨d0, d1, _, _, _⟩ := own2 (heap_below hb (heap_lt HR1.out) HR1.out)
      clear hb
      go_wp2_with fail
      refine (HK2.out _ hB2).mono ?_
      rintro e w5 ⟨rfl, hb⟩
      go_wp2_with fail
      go_ret
      exact ⟨rfl, hB2.trans (hb.mono hB2.size)⟩
    · have hres : Ty.sameT k kids k' kids' = false := by unfold Ty.sameT; simp [h1]
      rw [hres]
      rw [h0] at HM
      have hc : (((Ty.chk k' kids' : Nat) : Int) == 0) = false := by simp; omega
      generalize Ty.chk k' kids' = C at *
      clear hres h0 h1 HK
      go_enter Tryz.func72, Tryz.ntmps72
      go_wp2_with fail
      refine (HM.out _ hB0).mono ?_
      rintro e w3 ⟨rfl, hb⟩
      have hB1 := hB0.trans (hb.mono hB0.size)
      obtain ⟨d0, d1, _, _, _⟩ := own2 (heap_below hb (heap_lt R1.out) R1.out)
      clear hb
      go_wp2_with fail
      refine (HN.out _ hB1).mono ?_
      rintro e w4 ⟨rfl, hb⟩
      go_wp2_with fail
      go_ret
      exact ⟨rfl, hB1.trans (hb.mono hB1.size)⟩
  · have hres : Ty.sameT k kids k' kids' = false := by unfold Ty.sameT; simp [h0]
    rw [hres]
    have hc : (((Ty.chk k kids : Nat) : Int) == 0) = false := by simp; omega
    generalize Ty.chk k kids = C at *
    clear hres h0 HK
    go_enter Tryz.func72, Tryz.ntmps72
    go_wp2_with fail
    refine (HM.out _ hB0).mono ?_
    rintro e w3 ⟨rfl, hb⟩
    go_wp2_with fail
    go_ret
    exact ⟨rfl, hB0.trans (hb.mono hB0.size)⟩

namespace Ty
/-- two parts -/
def two (k : Int) (kids : Fo) (k' : Int) (kids' : Fo) : Fo := .node 0 0 k kids (.node 0 0 k' kids' .nil)
/-- a block of two types' cells -/
theorem lies_two {w : World} {N : Nat} {k k' : Int} {kids kids' : Fo} {A A' : Option Addr} {n c n' c' : Nat} {t : TypeId} (h : w.heap[N]? = some (.cells #[.int .i8 k, .slice A n c, .int .i8 k', .slice A' n' c'] t (0, 0))) (h1 : Is w k kids A n c) (h2 : Is w k' kids' A' n' c') :
    Lies w (two k kids k' kids') (some ⟨N, 0, none⟩) 0 := by
  refine ⟨N, 0, A, c, rfl, ⟨h1.lo, h1.hi⟩, by simp [World.cell?, h], by rw [← h1.n_eq]; simp [World.cell?, h], by rw [← h1.n_eq]; exact h1.n_le, h1.c_le, h1.lies, ?_⟩
  exact ⟨N, 0, A', c', rfl, ⟨h2.lo, h2.hi⟩, by simp [World.cell?, h], by rw [← h2.n_eq]; simp [World.cell?, h], by rw [← h2.n_eq]; exact h2.n_le, h2.c_le, h2.lies, trivial⟩
end Ty

/-- what Of leaves: a type in new memory -/
def OfPost (w : World) (kd k : Int) (kids : Fo) (k' : Int) (kids' : Fo) (e : Ending) (w' : World) : Prop :=
  ∃ N, e = .returned (.agg #[.int .i8 kd, .slice (some ⟨N, 0, none⟩) 2 2]) ∧ w.heap.size ≤ N ∧ Ty.Is w' kd (Ty.two k kids k' kids') (some ⟨N, 0, none⟩) 2 2 ∧ Below w.heap.size w w'

/-- .. cell by cell -/
def OfRaw (w : World) (kd k : Int) (A : Option Addr) (n c : Nat) (k' : Int) (A' : Option Addr) (n' c' : Nat) (e : Ending) (w' : World) : Prop :=
  ∃ N, e = .returned (.agg #[.int .i8 kd, .slice (some ⟨N, 0, none⟩) 2 2]) ∧ w.heap.size ≤ N ∧ w'.heap[N]? = some (.cells #[.int .i8 k, .slice A n c, .int .i8 k', .slice A' n' c'] 25 (0, 0)) ∧ Below w.heap.size w w'

namespace Ty
def gOk (k : Int) (kids : Fo) : Bool := (chk k kids == 0) && (k != 0)
def gK (k : Int) (kids : Fo) : Int := if chk k kids = 0 then k else 0
def gKids (k : Int) (kids : Fo) : Fo := if chk k kids = 0 ∧ 3 ≤ k then two 0 .nil 0 .nil else .nil
theorem is_nil (w : World) (k : Int) (h1 : -128 ≤ k) (h2 : k ≤ 127) : Is w k .nil none 0 0 := ⟨trivial, rfl, Nat.le_refl _, Nat.zero_le _, h1, h2⟩
end Ty
/-- what Ground leaves: a ground in new memory, and whether there is one -/
def GroundPost (w : World) (k : Int) (kids : Fo) (e : Ending) (w' : World) : Prop :=
  ∃ G m c, e = .returned (.tuple #[.agg #[.int .i8 (Ty.gK k kids), .slice G m c], .bool (Ty.gOk k kids)]) ∧ Ty.Is w' (Ty.gK k kids) (Ty.gKids k kids) G m c ∧
    (G = none ∨ ∃ g, G = some ⟨g, 0, none⟩ ∧ w.heap.size ≤ g ∧ m = 2 ∧ w'.heap[g]? = some (.cells #[.int .i8 0, .slice none 0 0, .int .i8 0, .slice none 0 0] 25 (0, 0))) ∧ Below w.heap.size w w'

theorem Ty.okT_range {k : Int} {kids : Fo} (h : Ty.okT k kids = true) : k = 0 ∨ k = 1 ∨ k = 2 ∨ k = 3 ∨ k = 4 ∨ k = 5 := by
  unfold Ty.okT Ty.okK at h
  split at h
  · omega
  · split at h
    · omega
    · simp at h

end Go.Proofs.YtadkiikoiajceaaGreatDoor
