/-
  order.together held against order.less's own closure: at most as precise; order.less, order.Less.
-/
import Derived.Test.YtfkbdpehdabepaaGreatDoorM5
import Derived.Deep.DeepCutAuto
namespace Go.Proofs.YtfkbdpehdabepaaGreatDoor
open Go.RowKit

theorem cf_less1 (args : Array Value) (W : World) : (callFunc 133 args).run Tryz.prog W = .ok (.enter 133 args) W := by simp [go_sem]

set_option maxHeartbeats 1000000 in
set_option maxRecDepth 100000 in
theorem less1_any (k k' : Int) (A' : Option Addr) (n' c' : Nat) (b o : Nat) (w : World) (h0 : w.cell? ⟨b, o, none⟩ = some (.int .i8 k)) :
    Calls Tryz.prog 133 #[.pointer (some ⟨b, o, none⟩), .agg #[.int .i8 k', .slice A' n' c']] w fun e w' => e = .returned (.bool (k == 0)) ∧ Below w.heap.size w w' := by
  have hlt := Ty.cell_lt h0
  have hb : Below w.heap.size w (w.alloc (.cells #[.int .i8 k', .slice A' n' c'] 25)) := (Below.refl _ _).alloc (Nat.le_refl _) _
  go_enter Tryz.func133, Tryz.ntmps133
  go_wp2_with fail
  go_ret
  exact ⟨rfl, hb⟩

set_option maxHeartbeats 4000000 in
set_option maxRecDepth 100000 in
theorem tless_any (K : Nat) : ∀ (k : Int) (kids : Fo) (A : Option Addr) (n c : Nat) (k' : Int) (kids' : Fo) (A' : Option Addr) (n' c' : Nat) (b o : Nat) (w : World), Ty.nodes kids < K → w.cell? ⟨b, o, none⟩ = some (.int .i8 k) → w.cell? ⟨b, o + 1, none⟩ = some (.slice A n c) →
    Ty.Is w k kids A n c → Ty.Is w k' kids' A' n' c' → Ty.okT k kids = true → Ty.okT k' kids' = true →
    Calls Tryz.prog 132 #[.pointer (some ⟨b, o, none⟩), .agg #[.int .i8 k', .slice A' n' c'], .func (Fn.func 133) #[] #[]] w fun e w' => e = .returned (.bool (Ty.leT k kids k' kids')) ∧ Below w.heap.size w w' := by
  induction K with
  | zero => intro _ _ _ _ _ _ _ _ _ _ _ _ _ h; omega
  | succ K ih =>
    intro k kids A n c k' kids' A' n' c' b o w hK h0 h1 hIs hIs' ho ho'
    have hcf := cf_less1
    have i5 : (n : Int) ≤ 9223372036854775807 := by have h1 := hIs.n_le; have h2 := hIs.c_le; unfold maxLen at h2; omega
    have hlt := Ty.cell_lt h0
    have hb1 : Below w.heap.size w (w.alloc (.cells #[.int .i8 k', .slice A' n' c'] 25)) := (Below.refl _ _).alloc (Nat.le_refl _) _
    have hbox := heap_new w (.cells #[.int .i8 k', .slice A' n' c'] 25)
    generalize hw1 : w.alloc (.cells #[.int .i8 k', .slice A' n' c'] 25) = w1 at *
    have HW := Lib.hid hw1
    clear hw1
    have g0 : w1.cell? ⟨b, o, none⟩ = some (.int .i8 k) := by rw [hb1.cell (p := ⟨b, o, none⟩) hlt]; exact h0
    have g1 : w1.cell? ⟨b, o + 1, none⟩ = some (.slice A n c) := by rw [hb1.cell (p := ⟨b, o + 1, none⟩) hlt]; exact h1
    have HP := Lib.hid (less1_any k k' A' n' c' b o w1 g0)
    have HI := Lib.hid (hIs.below hb1)
    have HI' := Lib.hid (hIs'.below hb1)
    have IH := Lib.hid ih
    have HB1 := Lib.hid hb1
    have HX := Lib.hid hbox
    have G0 := Lib.hid g0
    have G1 := Lib.hid g1
    clear ih hIs hIs' h0 h1 g0 g1 hb1 hlt hbox
    by_cases hk0 : k = 0
    · subst hk0
      rw [Ty.leT_zero]
      clear ho ho'
      obtain ⟨d0, d1, _, _, hd0⟩ := own2 HX.out
      go_enter Tryz.func132, Tryz.ntmps132
      go_upto_region 1 with fail
      rw [HW.out]
      go_wp2_with fail
      refine HP.out.mono ?_
      rintro e w2 ⟨rfl, hb⟩
      go_wp2_with fail
      go_ret
      exact ⟨rfl, HB1.out.trans (hb.mono HB1.out.size)⟩
    have hz : (k == 0) = false := by simpa using hk0
    rw [hz] at HP
    by_cases hkk : k = k'
    · have hnn : n = n' := by
        subst hkk
        have h1 := HI.out.n_eq
        have h2 := HI'.out.n_eq
        unfold Ty.okT at ho ho'
        rw [Bool.and_eq_true] at ho ho'
        have := Ty.okK_same ho.1 ho'.1
        omega
      subst hkk
      subst hnn
      rw [Ty.leT_eq _ _ hk0]
      have hk2 : (k != k) = false := by simp
      have hF1 : Ty.okF kids = true := by unfold Ty.okT at ho; rw [Bool.and_eq_true] at ho; exact ho.2
      have hF2 : Ty.okF kids' = true := by unfold Ty.okT at ho'; rw [Bool.and_eq_true] at ho'; exact ho'.2
      obtain ⟨R, hR⟩ : ∃ R, Ty.leF kids kids' = R := ⟨_, rfl⟩
      rw [hR]
      have HR := Lib.hid hR
      have HF1 := Lib.hid hF1
      have HF2 := Lib.hid hF2
      clear hR ho ho' hF1 hF2 hk0
      obtain ⟨d0, d1, _, _, hd0⟩ := own2 HX.out
      go_enter Tryz.func132, Tryz.ntmps132
      go_upto_region 1 with fail
      rw [HW.out]
      go_wp2_with fail
      refine HP.out.mono ?_
      rintro e w2 ⟨rfl, hb⟩
      clear d0 d1 hd0
      have HB2 := Lib.hid (HB1.out.trans (hb.mono HB1.out.size))
      have X2 := Lib.hid (heap_below hb (heap_lt HX.out) HX.out)
      have E0 : w2.cell? ⟨b, o, none⟩ = some (.int .i8 k) := by rw [hb.cell (p := ⟨b, o, none⟩) (Ty.cell_lt G0.out)]; exact G0.out
      have E1 : w2.cell? ⟨b, o + 1, none⟩ = some (.slice A n c) := by rw [hb.cell (p := ⟨b, o + 1, none⟩) (Ty.cell_lt G1.out)]; exact G1.out
      have HS := Lib.hid (Over.start (HI.out.lies.below hb) HI.out.n_eq)
      have HS2 := Lib.hid (show Over2 w2 w2 A' n 0 kids' from ⟨by have := HI'.out.n_eq; omega, HI'.out.lies.below hb⟩)
      obtain ⟨d0, d1, _, _, hd0⟩ := own2 X2.out
      clear hb
      go_wp2_with fail
      go_quiet (fail)
      have hD := below_drewN (Below.refl w2.heap.size w2) nq
      have HB3 := Lib.hid (below_drewN HB2.out nq)
      have HS3 := Lib.hid (show Over (w2.drewN nq) (w2.drewN nq) A n (Ty.nodes kids) 0 kids from ⟨HS.out.i_eq, HS.out.lies.below hD, HS.out.sub, Below.refl _ _⟩)
      have HS4 := Lib.hid (show Over2 (w2.drewN nq) (w2.drewN nq) A' n 0 kids' from ⟨HS2.out.i_eq, HS2.out.lies.below hD⟩)
      have e0 : (w2.drewN nq).cell? ⟨b, o, none⟩ = some (.int .i8 k) := E0
      have e1 : (w2.drewN nq).cell? ⟨b, o + 1, none⟩ = some (.slice A n c) := E1
      have f0 : (w2.drewN nq).cell? ⟨w.heap.size, 0, none⟩ = some (.int .i8 k) := d0
      have f1 : (w2.drewN nq).cell? ⟨w.heap.size, 1, none⟩ = some (.slice A' n c') := d1
      clear E0 E1 d0 d1 hd0 hD
      generalize w2.drewN nq = w3 at *
      go_wp2_with fail
      go_loopw [24] (fun v24 wr => ∃ (i : Nat) (r1 r2 : Fo), v24 = .int .i64 i ∧ Over w3 wr A n (Ty.nodes kids) i r1 ∧ Over2 w3 wr A' n i r2 ∧ Ty.leF r1 r2 = R ∧ Ty.okF r1 = true ∧ Ty.okF r2 = true) (fun v _ => n - (intOf v).toNat)
      case atStart => exact ⟨0, kids, kids', rfl, HS3.out, HS4.out, HR.out, HF1.out, HF2.out⟩
      case round =>
        obtain ⟨i, r1, r2, rfl, hO, hO2, hRR, hF1, hF2⟩ := hrel
        have hbB := HB3.out.trans (hO.below.mono HB3.out.size)
        have x0 : wr.cell? ⟨b, o, none⟩ = some (.int .i8 k) := by rw [hO.below.cell (p := ⟨b, o, none⟩) (Ty.cell_lt e0)]; exact e0
        have x1 : wr.cell? ⟨b, o + 1, none⟩ = some (.slice A n c) := by rw [hO.below.cell (p := ⟨b, o + 1, none⟩) (Ty.cell_lt e1)]; exact e1
        obtain ⟨y0, y1⟩ := hO.box f0 f1
        clear e0 e1 f0 f1
        cases r1 with
        | nil =>
          have hi : i = n := by have := hO.i_eq; simpa [Ty.len] using this
          clear hO hO2 hF1 hF2
          simp only [Ty.leF] at hRR
          subst hi
          subst hRR
          go_wp2_with fail
          go_ret
          exact ⟨rfl, hbB⟩
        | node a1 a2 kk kks r =>
          cases r2 with
          | nil => have q1 := hO.i_eq; have q2 := hO2.i_eq; simp only [Ty.len] at q1 q2; omega
          | node a3 a4 kk2 kks2 s =>
          have hst := fun w2 hb => Over.step (w2 := w2) hO hb
          have h1 := hO.i_eq
          have h2 := hO.lies
          have h3 := hO.sub
          have q1 := hO2.i_eq
          have q2 := hO2.lies
          simp only [Ty.len, Ty.nodes, Ty.leF] at h1 h3 hRR q1
          simp only [Ty.okF, Bool.and_eq_true] at hF1 hF2
          obtain ⟨bb, oo, B, c9, rfl, ⟨hk1, hk2'⟩, c1', c2', hl1, hl2, hl3, hl4⟩ := h2
          obtain ⟨bb2, oo2, B2, c3, rfl, ⟨gk1, gk2⟩, z1, z2, gl1, gl2, gl3, gl4⟩ := q2
          have o1 : Ty.okT kk kks = true := by unfold Ty.okT; rw [Bool.and_eq_true]; exact ⟨hF1.1.1, hF1.1.2⟩
          have o2 : Ty.okT kk2 kks2 = true := by unfold Ty.okT; rw [Bool.and_eq_true]; exact ⟨hF2.1.1, hF2.1.2⟩
          have hcall := fun (W : World) (hb : Below wr.heap.size wr W) => IH.out kk kks B (Ty.len kks) c9 kk2 kks2 B2 (Ty.len kks2) c3 bb (oo + i * 2) W (by omega) (by rw [hb.cell (p := ⟨bb, _, none⟩) (Ty.cell_lt c1')]; exact c1') (by rw [hb.cell (p := ⟨bb, _, none⟩) (Ty.cell_lt c2')]; exact c2') ⟨hl3.below hb, rfl, hl1, hl2, hk1, hk2'⟩ ⟨gl3.below hb, rfl, gl1, gl2, gk1, gk2⟩ o1 o2
          have HST := Lib.hid hst
          have HL := Lib.hid hl4
          have HL2 := Lib.hid gl4
          have HC := Lib.hid hcall
          have HRR := Lib.hid hRR
          have HF3 := Lib.hid hF1.2
          have HF4 := Lib.hid hF2.2
          have j1 : (i : Int) < n := by omega
          have j2 : (0 : Int) ≤ i ∧ (i : Int) < n := by omega
          have hBd := Lib.hid (below_drewN (Below.refl wr.heap.size wr) 1)
          clear hst hl3 hl4 gl3 gl4 hcall hO hO2 hRR hF1 hF2 o1 o2
          cases hp : Ty.leT kk kks kk2 kks2
          · have hp0 : R = false := by rw [← HRR.out]; unfold Ty.leT at hp; rw [hp]; rfl
            rw [hp] at HC
            subst hp0
            clear hp
            go_wp2_with fail
            go_still_tail 12, (by kernel_rfl)
            change wpList _ _ _ _ _ (wr.drewN 1)
            have hbB1 := hbB.trans (hBd.out.mono hbB.size)
            have hsz : (wr.drewN 1).heap.size = wr.heap.size := rfl
            clear x0 x1 y0 y1 c1' c2' z1 z2
            generalize wr.drewN 1 = w4 at *
            go_wp2_with fail
            refine (HC.out _ hBd.out).mono ?_
            rintro e w5 ⟨rfl, hb⟩
            go_wp2_with fail
            go_ret
            exact ⟨rfl, hbB1.trans (hb.mono hbB1.size)⟩
          · have hp0 := HRR.out
            unfold Ty.leT at hp
            rw [hp, Bool.true_and] at hp0
            have HPP := Lib.hid hp0
            rw [show Ty.leT kk kks kk2 kks2 = true from hp] at HC
            clear hp hp0
            go_wp2_with fail
            go_still_tail 12, (by kernel_rfl)
            change wpList _ _ _ _ _ (wr.drewN 1)
            have hsz : (wr.drewN 1).heap.size = wr.heap.size := rfl
            clear x0 x1 y0 y1 c1' c2' z1 z2
            generalize wr.drewN 1 = w4 at *
            go_wp2_with fail
            refine (HC.out _ hBd.out).mono ?_
            rintro e w5 ⟨rfl, hb⟩
            have hB2 : Below wr.heap.size wr w5 := hBd.out.trans (hb.mono (by omega))
            have hbb := Lib.hid (HST.out w5 hB2 HL.out)
            have hbb2 : Hid (Over2 w3 w5 (some ⟨bb2, oo2, none⟩) n (i + 1) s) := Lib.hid ⟨by omega, HL2.out.below hB2⟩
            clear hb hB2 hsz
            go_wp2_with fail
            go_roundw
            case rel => exact ⟨i + 1, r, s, by go_num, hbb.out, hbb2.out, HPP.out, HF3.out, HF4.out⟩
            case measure => simp [intOf]; omega
    · rw [Ty.leT_ne _ _ hk0 hkk]
      have hk2 : (k != k') = true := by simpa using hkk
      clear ho ho' hkk hk0
      obtain ⟨d0, d1, _, _, hd0⟩ := own2 HX.out
      go_enter Tryz.func132, Tryz.ntmps132
      go_upto_region 1 with fail
      rw [HW.out]
      go_wp2_with fail
      refine HP.out.mono ?_
      rintro e w2 ⟨rfl, hb⟩
      clear d0 d1 hd0
      have HB2 := Lib.hid (HB1.out.trans (hb.mono HB1.out.size))
      have X2 := Lib.hid (heap_below hb (heap_lt HX.out) HX.out)
      have E0 : w2.cell? ⟨b, o, none⟩ = some (.int .i8 k) := by rw [hb.cell (p := ⟨b, o, none⟩) (Ty.cell_lt G0.out)]; exact G0.out
      obtain ⟨d0, d1, _, _, hd0⟩ := own2 X2.out
      clear hb
      go_wp2_with fail
      go_quiet (fail)
      go_wp2_with fail
      go_ret
      exact ⟨rfl, below_drewN HB2.out _⟩
end Go.Proofs.YtfkbdpehdabepaaGreatDoor
