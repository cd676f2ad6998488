/-
  order.less, order.Less; the document's less, Less.
-/
import Derived.Test.YtfkbdpehdabepaaGreatDoorOr1
namespace Go.Proofs.YtfkbdpehdabepaaGreatDoor
open Go.RowKit

set_option maxHeartbeats 1000000 in
set_option maxRecDepth 100000 in
theorem less_any (K : Nat) (k : Int) (kids : Fo) (A : Option Addr) (n c : Nat) (k' : Int) (kids' : Fo) (A' : Option Addr) (n' c' : Nat) (w : World) (hK : Ty.nodes kids < K) (hIs : Ty.Is w k kids A n c) (hIs' : Ty.Is w k' kids' A' n' c') (ho : Ty.okT k kids = true) (ho' : Ty.okT k' kids' = true) :
    Calls Tryz.prog 98 #[.agg #[.int .i8 k, .slice A n c], .agg #[.int .i8 k', .slice A' n' c']] w fun e w' => e = .returned (.bool (Ty.leT k kids k' kids')) ∧ Below w.heap.size w w' := by
  obtain ⟨hB0, hR0, hR1⟩ := two_boxes w k A n c k' A' n' c'
  obtain ⟨b0, b1, _, _, hb0⟩ := own2 hR0
  obtain ⟨d0, d1, _, _, hd0⟩ := own2 hR1
  have HC := Lib.hid (tless_any K k kids A n c k' kids' A' n' c' w.heap.size 0 _ hK b0 b1 (hIs.below hB0) (hIs'.below hB0) ho ho')
  clear hIs hIs' ho ho'
  go_enter Tryz.func98, Tryz.ntmps98
  go_wp2_with fail
  refine HC.out.mono ?_
  rintro e w2 ⟨rfl, hb⟩
  go_wp2_with fail
  go_ret
  exact ⟨rfl, hB0.trans (hb.mono hB0.size)⟩

set_option maxHeartbeats 2000000 in
set_option maxRecDepth 100000 in
theorem qless1_any (K : Nat) : ∀ (k : Int) (kids : Fo) (A : Option Addr) (n c : Nat) (k' : Int) (kids' : Fo) (A' : Option Addr) (n' c' : Nat) (w : World), Ty.nodes kids < K → Ty.Is w k kids A n c → Ty.Is w k' kids' A' n' c' → Ty.okT k kids = true → Ty.okT k' kids' = true →
    Calls Tryz.prog 99 #[.agg #[.int .i8 k, .slice A n c], .agg #[.int .i8 k', .slice A' n' c']] w fun e w' => e = .returned (.bool (Ty.leT k kids k' kids')) ∧ Below w.heap.size w w' := by
  induction K with
  | zero => intro _ _ _ _ _ _ _ _ _ _ _ h; omega
  | succ K ih =>
    intro k kids A n c k' kids' A' n' c' w hK hIs hIs' ho ho'
    have i5 : (n : Int) ≤ 9223372036854775807 := by have h1 := hIs.n_le; have h2 := hIs.c_le; unfold maxLen at h2; omega
    obtain ⟨hB0, hR0, hR1⟩ := two_boxes w k A n c k' A' n' c'
    have HI := Lib.hid hIs
    have HI' := Lib.hid hIs'
    have IH := Lib.hid ih
    clear ih hIs hIs'
    obtain ⟨b0, b1, _, _, hb0⟩ := own2 hR0
    obtain ⟨d0, d1, _, _, hd0⟩ := own2 hR1
    by_cases hk0 : k = 0
    · subst hk0
      rw [Ty.leT_zero]
      clear ho ho' hR0 hR1
      go_enter Tryz.func99, Tryz.ntmps99
      go_wp2_with fail
      go_ret
      exact ⟨rfl, hB0⟩
    have hz : (k == 0) = false := by simpa using hk0
    by_cases hkk : k = k'
    · have hnn : n = n' := by
        subst hkk
        have h1 := HI.out.n_eq
        have h2 := HI'.out.n_eq
        unfold Ty.okT at ho ho'
        rw [Bool.and_eq_true] at ho ho'
        have := Ty.okK_same ho.1 ho'.1
        omega
      subst hkk
      subst hnn
      rw [Ty.leT_eq _ _ hk0]
      have hk2 : (k != k) = false := by simp
      have hF1 : Ty.okF kids = true := by unfold Ty.okT at ho; rw [Bool.and_eq_true] at ho; exact ho.2
      have hF2 : Ty.okF kids' = true := by unfold Ty.okT at ho'; rw [Bool.and_eq_true] at ho'; exact ho'.2
      obtain ⟨R, hR⟩ : ∃ R, Ty.leF kids kids' = R := ⟨_, rfl⟩
      rw [hR]
      have HR := Lib.hid hR
      have hlies2 := HI'.out.lies.below hB0
      have hst := Over.start (HI.out.lies.below hB0) HI.out.n_eq
      have hst2 : Over2 w _ A' n 0 kids' := ⟨by have := HI'.out.n_eq; omega, hlies2⟩
      have HF1 := Lib.hid hF1
      have HF2 := Lib.hid hF2
      clear hR0 hR1 hR hlies2 ho ho' hF1 hF2 hk0
      generalize hw1 : (w.alloc (.cells #[.int .i8 k, .slice A n c] 25)).alloc (.cells #[.int .i8 k, .slice A' n c'] 25) = w1 at *
      have HS := Lib.hid hst
      have HS2 := Lib.hid hst2
      have HW := Lib.hid hw1
      clear hst hst2 hw1
      go_enter Tryz.func99, Tryz.ntmps99
      go_wp2_with fail
      rw [HW.out]
      go_wp2_with fail
      go_loopw [5] (fun v5 wr => ∃ (i : Nat) (r1 r2 : Fo), v5 = .int .i64 i ∧ Over w1 wr A n (Ty.nodes kids) i r1 ∧ Over2 w wr A' n i r2 ∧ Ty.leF r1 r2 = R ∧ Ty.okF r1 = true ∧ Ty.okF r2 = true) (fun v _ => n - (intOf v).toNat)
      case atStart => exact ⟨0, kids, kids', rfl, HS.out, HS2.out, HR.out, HF1.out, HF2.out⟩
      case round =>
        obtain ⟨i, r1, r2, rfl, hO, hO2, hRR, hF1, hF2⟩ := hrel
        have hbB := hB0.trans (hO.below.mono hB0.size)
        obtain ⟨e0, e1⟩ := hO.box b0 b1
        obtain ⟨g0, g1⟩ := hO.box d0 d1
        clear b0 b1 d0 d1
        cases r1 with
        | nil =>
          have hi : i = n := by have := hO.i_eq; simpa [Ty.len] using this
          have hr2 : r2 = .nil := by
            have := hO2.i_eq
            cases r2 with
            | nil => rfl
            | node _ _ _ _ _ => simp only [Ty.len] at this; omega
          subst hr2
          clear hO hO2 hF1 hF2
          simp only [Ty.leF] at hRR
          subst hi
          subst hRR
          go_wp2_with fail
          go_ret
          exact ⟨rfl, hbB⟩
        | node a b kk kks r =>
          cases r2 with
          | nil => have q1 := hO.i_eq; have q2 := hO2.i_eq; simp only [Ty.len] at q1 q2; omega
          | node a2 b2 kk2 kks2 s =>
          have hst := fun w2 hb => Over.step (w2 := w2) hO hb
          have h1 := hO.i_eq
          have h2 := hO.lies
          have h3 := hO.sub
          have q1 := hO2.i_eq
          have q2 := hO2.lies
          simp only [Ty.len, Ty.nodes, Ty.leF] at h1 h3 hRR q1
          simp only [Ty.okF, Bool.and_eq_true] at hF1 hF2
          obtain ⟨bb, oo, B, c9, rfl, ⟨hk1, hk2'⟩, c1', c2', hl1, hl2, hl3, hl4⟩ := h2
          obtain ⟨bb2, oo2, B2, c3, rfl, ⟨gk1, gk2⟩, x1, x2, gl1, gl2, gl3, gl4⟩ := q2
          have o1 : Ty.okT kk kks = true := by unfold Ty.okT; rw [Bool.and_eq_true]; exact ⟨hF1.1.1, hF1.1.2⟩
          have o2 : Ty.okT kk2 kks2 = true := by unfold Ty.okT; rw [Bool.and_eq_true]; exact ⟨hF2.1.1, hF2.1.2⟩
          have hcall := fun (W : World) (hb : Below wr.heap.size wr W) => IH.out kk kks B (Ty.len kks) c9 kk2 kks2 B2 (Ty.len kks2) c3 W (by omega) ⟨hl3.below hb, rfl, hl1, hl2, hk1, hk2'⟩ ⟨gl3.below hb, rfl, gl1, gl2, gk1, gk2⟩ o1 o2
          have HST := Lib.hid hst
          have HL := Lib.hid hl4
          have HL2 := Lib.hid gl4
          have HC := Lib.hid hcall
          have HRR := Lib.hid hRR
          have HF3 := Lib.hid hF1.2
          have HF4 := Lib.hid hF2.2
          have j1 : (i : Int) < n := by omega
          have j2 : (0 : Int) ≤ i ∧ (i : Int) < n := by omega
          have hBd := Lib.hid (below_drewN (Below.refl wr.heap.size wr) 1)
          clear hst hl3 hl4 gl3 gl4 hcall hO hO2 hRR hF1 hF2 o1 o2
          cases hp : Ty.leT kk kks kk2 kks2
          · have hp0 : R = false := by rw [← HRR.out]; unfold Ty.leT at hp; rw [hp]; rfl
            rw [hp] at HC
            subst hp0
            clear hp
            go_wp2_with fail
            go_still_tail 10, (by kernel_rfl)
            change wpList _ _ _ _ _ (wr.drewN 1)
            have hbB1 := hbB.trans (hBd.out.mono hbB.size)
            have hsz : (wr.drewN 1).heap.size = wr.heap.size := rfl
            clear e0 e1 g0 g1 c1' c2' x1 x2
            generalize wr.drewN 1 = w2 at *
            go_wp2_with fail
            refine (HC.out _ hBd.out).mono ?_
            rintro e w3 ⟨rfl, hb⟩
            go_wp2_with fail
            go_ret
            exact ⟨rfl, hbB1.trans (hb.mono hbB1.size)⟩
          · have hp0 := HRR.out
            unfold Ty.leT at hp
            rw [hp, Bool.true_and] at hp0
            have HP := Lib.hid hp0
            rw [show Ty.leT kk kks kk2 kks2 = true from hp] at HC
            clear hp hp0
            go_wp2_with fail
            go_still_tail 10, (by kernel_rfl)
            change wpList _ _ _ _ _ (wr.drewN 1)
            have hsz : (wr.drewN 1).heap.size = wr.heap.size := rfl
            clear e0 e1 g0 g1 c1' c2' x1 x2
            generalize wr.drewN 1 = w2 at *
            go_wp2_with fail
            refine (HC.out _ hBd.out).mono ?_
            rintro e w3 ⟨rfl, hb⟩
            have hB2 : Below wr.heap.size wr w3 := hBd.out.trans (hb.mono (by omega))
            have hbb := Lib.hid (HST.out w3 hB2 HL.out)
            have hbb2 : Hid (Over2 w w3 (some ⟨bb2, oo2, none⟩) n (i + 1) s) := Lib.hid ⟨by omega, HL2.out.below hB2⟩
            clear hb hB2 hsz
            go_wp2_with fail
            go_roundw
            case rel => exact ⟨i + 1, r, s, by go_num, hbb.out, hbb2.out, HP.out, HF3.out, HF4.out⟩
            case measure => simp [intOf]; omega
    · rw [Ty.leT_ne _ _ hk0 hkk]
      have hk2 : (k != k') = true := by simpa using hkk
      clear ho ho' hkk hk0 hR0 hR1
      go_enter Tryz.func99, Tryz.ntmps99
      go_wp2_with fail
      go_ret
      exact ⟨rfl, hB0⟩

end Go.Proofs.YtfkbdpehdabepaaGreatDoor
