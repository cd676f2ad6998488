/-
  The document's Has (of Cast), least.
-/
import Derived.Test.YtdeomggkhbdkaaaGreatDoorM16
namespace Go.Proofs.YtdeomggkhbdkaaaGreatDoor
open Go.RowKit
namespace Sh
def hcH (h : Hd) : Bool := h.kind == 17
def hcF : Tm → Bool
  | .nil => false
  | .node h kids r => (hcH h || hcF kids) || hcF r
def hcT (h : Hd) (kids : Tm) : Bool := hcH h || hcF kids
def lsH (h : Hd) : Bool := (h.kind == 1) && (h.num == -9223372036854775808)
def lsF : Tm → Bool
  | .nil => false
  | .node h kids r => (lsH h || lsF kids) || lsF r
def lsT (h : Hd) (kids : Tm) : Bool := lsH h || lsF kids
theorem ret_b {a b : Bool} (h : a = b) : Ending.returned (.bool a) = Ending.returned (.bool b) := by rw [h]
theorem bad_sF : ∀ f : Tm, badF f = (hcF f || lsF f)
  | .nil => rfl
  | .node h kids r => by
    simp only [badF, hcF, lsF]
    rw [bad_sF kids, bad_sF r]
    unfold badH hcH lsH
    ac_rfl
theorem bad_s (h : Hd) (kids : Tm) : badT h kids = (hcT h kids || lsT h kids) := by
  unfold badT hcT lsT
  rw [bad_sF kids]
  unfold badH hcH lsH
  ac_rfl
end Sh

set_option maxHeartbeats 4000000 in
set_option maxRecDepth 100000 in
theorem rhas_any (K : Nat) : ∀ (h : Hd) (kids : Tm) (p : Pl) (w : World), Tm.nodes kids < K → Tm.Is w h kids p →
    Calls Tryz.prog 14 #[.agg #[.int .i8 h.kind, .string h.name, .string h.arg, .int .i64 h.num, .int .i8 h.tk, .slice p.TA p.tn p.tc, .int .i8 h.uk, .slice p.UA p.un p.uc, .int .i64 h.label, .int .i64 h.pos, .slice p.A p.n p.c], .int .i8 17] w fun e w' => e = .returned (.bool (Sh.hcT h kids)) ∧ Below w.heap.size w w' := by
  induction K with
  | zero => intro _ _ _ _ hK; omega
  | succ K ih =>
    intro h kids p w hK hIs
    have hB0 : Below w.heap.size w (w.alloc (.cells #[.int .i8 h.kind, .string h.name, .string h.arg, .int .i64 h.num, .int .i8 h.tk, .slice p.TA p.tn p.tc, .int .i8 h.uk, .slice p.UA p.un p.uc, .int .i64 h.label, .int .i64 h.pos, .slice p.A p.n p.c] 28)) := (Below.refl _ _).alloc (Nat.le_refl _) _
    have hbox := heap_new w (.cells #[.int .i8 h.kind, .string h.name, .string h.arg, .int .i64 h.num, .int .i8 h.tk, .slice p.TA p.tn p.tc, .int .i8 h.uk, .slice p.UA p.un p.uc, .int .i64 h.label, .int .i64 h.pos, .slice p.A p.n p.c] 28)
    generalize hw1 : w.alloc (.cells #[.int .i8 h.kind, .string h.name, .string h.arg, .int .i64 h.num, .int .i8 h.tk, .slice p.TA p.tn p.tc, .int .i8 h.uk, .slice p.UA p.un p.uc, .int .i64 h.label, .int .i64 h.pos, .slice p.A p.n p.c] 28) = w1 at *
    have HW := Lib.hid hw1
    have HB := Lib.hid hB0
    have HX := Lib.hid hbox
    have IH := Lib.hid ih
    have i5 : (p.n : Int) ≤ 9223372036854775807 := by have h1 := hIs.fit.n_le; have h2 := hIs.fit.c_le; unfold maxLen at h2; omega
    have HST := Lib.hid (OverT.start (hIs.below hB0).lies hIs.fit.n_eq)
    obtain ⟨q0, q1, q2, q3, q4, q5, q6, q7, q8, q9, q10, ql⟩ := own11 HX.out
    clear ih hIs hB0 hbox hw1
    cases hk : (h.kind == 17)
    · obtain ⟨R, hR⟩ : ∃ R, Sh.hcF kids = R := ⟨_, rfl⟩
      rw [show Sh.hcT h kids = R by unfold Sh.hcT Sh.hcH; rw [hk, hR]; rfl]
      have HR := Lib.hid hR
      clear hR
      go_enter Tryz.func14, Tryz.ntmps14
      go_wp2_with fail
      rw [HW.out]
      go_wp2_with fail
      clear q0 q1 q2 q3 q4 q5 q6 q7 q8 q9 q10 ql
      go_loopw [5] (fun v wr => ∃ (i : Nat) (rest : Tm), v = .int .i64 i ∧ OverT w1 wr p.A p.n (Tm.nodes kids) i rest ∧ Sh.hcF rest = R) (fun v _ => p.n - (intOf v).toNat)
      case atStart => exact ⟨0, kids, rfl, HST.out, HR.out⟩
      case round =>
        obtain ⟨i, rest, rfl, hO, hR⟩ := hrel
        have hbB := HB.out.trans (hO.below.mono HB.out.size)
        obtain ⟨q0, q1, q2, q3, q4, q5, q6, q7, q8, q9, q10, ql⟩ := own11 (heap_below hO.below (heap_lt HX.out) HX.out)
        cases rest with
        | nil =>
          have hi : i = p.n := by have := hO.i_eq; simpa [Tm.len] using this
          clear hO
          simp only [Sh.hcF] at hR
          subst hi
          subst hR
          go_wp2_with fail
          go_ret
          exact ⟨rfl, hbB⟩
        | node h1 kd r =>
          have hst := fun w2 hb => OverT.step (w2 := w2) hO hb
          have e1 := hO.i_eq
          have e2 := hO.lies
          have e3 := hO.sub
          simp only [Tm.len, Tm.nodes, Sh.hcF] at e1 e3 hR
          obtain ⟨bb, oo, p1, hpA, hcs, hfit, hl3, hl4⟩ := e2
          have hcall := IH.out h1 kd p1 wr (by omega) ⟨hfit, hl3⟩
          obtain ⟨c0, c1, c2, c3, c4, c5, c6, c7, c8, c9, c10⟩ := Tm.row hcs
          have HS1 := Lib.hid hst
          have HL := Lib.hid hl4
          have HRR := Lib.hid hR
          have hal : Sh.hcT h1 kd = (Sh.hcH h1 || Sh.hcF kd) := rfl
          rw [← hal] at HRR
          have j1 : (0 : Int) ≤ (i : Int) ∧ (i : Int) < p.n := by omega
          have HPA := Lib.hid hpA
          clear hst hl3 hl4 hO hR hcs hfit hal hpA
          generalize Sh.hcT h1 kd = x at *
          have HCK := Lib.hid hcall
          clear hcall
          generalize hPA : p.A = PA at *
          obtain rfl : PA = some ⟨bb, oo, none⟩ := HPA.out
          clear hPA HPA
          cases x
          · go_wp2_with fail
            refine HCK.out.mono ?_
            rintro e w2 ⟨rfl, hb⟩
            have hbb := Lib.hid (HS1.out w2 hb HL.out)
            have HNX := Lib.hid (show Sh.hcF r = R by rw [← HRR.out]; rfl)
            clear hb q0 q1 q2 q3 q4 q5 q6 q7 q8 q9 q10 ql c0 c1 c2 c3 c4 c5 c6 c7 c8 c9 c10
            go_wp2_with fail
            go_roundw
            case rel => exact ⟨i + 1, r, by go_num, hbb.out, HNX.out⟩
            case measure => simp [intOf]; omega
          · go_wp2_with fail
            refine HCK.out.mono ?_
            rintro e w2 ⟨rfl, hb⟩
            go_wp2_with fail
            go_ret
            exact ⟨Sh.ret_b (by rw [← HRR.out]; rfl), hbB.trans (hb.mono hbB.size)⟩
    · rw [show Sh.hcT h kids = true by unfold Sh.hcT Sh.hcH; rw [hk]; rfl]
      go_enter Tryz.func14, Tryz.ntmps14
      go_wp2_with fail
      rw [HW.out]
      go_wp2_with fail
      go_ret
      exact ⟨rfl, HB.out⟩

set_option maxHeartbeats 4000000 in
set_option maxRecDepth 100000 in
theorem rleast_any (K : Nat) : ∀ (h : Hd) (kids : Tm) (p : Pl) (w : World), Tm.nodes kids < K → Tm.Is w h kids p →
    Calls Tryz.prog 15 #[.agg #[.int .i8 h.kind, .string h.name, .string h.arg, .int .i64 h.num, .int .i8 h.tk, .slice p.TA p.tn p.tc, .int .i8 h.uk, .slice p.UA p.un p.uc, .int .i64 h.label, .int .i64 h.pos, .slice p.A p.n p.c]] w fun e w' => e = .returned (.bool (Sh.lsT h kids)) ∧ Below w.heap.size w w' := by
  induction K with
  | zero => intro _ _ _ _ hK; omega
  | succ K ih =>
    intro h kids p w hK hIs
    have hB0 : Below w.heap.size w (w.alloc (.cells #[.int .i8 h.kind, .string h.name, .string h.arg, .int .i64 h.num, .int .i8 h.tk, .slice p.TA p.tn p.tc, .int .i8 h.uk, .slice p.UA p.un p.uc, .int .i64 h.label, .int .i64 h.pos, .slice p.A p.n p.c] 28)) := (Below.refl _ _).alloc (Nat.le_refl _) _
    have hbox := heap_new w (.cells #[.int .i8 h.kind, .string h.name, .string h.arg, .int .i64 h.num, .int .i8 h.tk, .slice p.TA p.tn p.tc, .int .i8 h.uk, .slice p.UA p.un p.uc, .int .i64 h.label, .int .i64 h.pos, .slice p.A p.n p.c] 28)
    generalize hw1 : w.alloc (.cells #[.int .i8 h.kind, .string h.name, .string h.arg, .int .i64 h.num, .int .i8 h.tk, .slice p.TA p.tn p.tc, .int .i8 h.uk, .slice p.UA p.un p.uc, .int .i64 h.label, .int .i64 h.pos, .slice p.A p.n p.c] 28) = w1 at *
    have HW := Lib.hid hw1
    have HB := Lib.hid hB0
    have HX := Lib.hid hbox
    have IH := Lib.hid ih
    have i5 : (p.n : Int) ≤ 9223372036854775807 := by have h1 := hIs.fit.n_le; have h2 := hIs.fit.c_le; unfold maxLen at h2; omega
    have HST := Lib.hid (OverT.start (hIs.below hB0).lies hIs.fit.n_eq)
    obtain ⟨q0, q1, q2, q3, q4, q5, q6, q7, q8, q9, q10, ql⟩ := own11 HX.out
    clear ih hIs hB0 hbox hw1
    cases hk : (h.kind == 1)
    · obtain ⟨R, hR⟩ : ∃ R, Sh.lsF kids = R := ⟨_, rfl⟩
      rw [show Sh.lsT h kids = R by unfold Sh.lsT Sh.lsH; rw [hk, hR]; rfl]
      have HR := Lib.hid hR
      clear hR
      go_enter Tryz.func15, Tryz.ntmps15
      go_wp2_with fail
      rw [HW.out]
      go_wp2_with fail
      clear q0 q1 q2 q3 q4 q5 q6 q7 q8 q9 q10 ql
      go_loopw [3] (fun v wr => ∃ (i : Nat) (rest : Tm), v = .int .i64 i ∧ OverT w1 wr p.A p.n (Tm.nodes kids) i rest ∧ Sh.lsF rest = R) (fun v _ => p.n - (intOf v).toNat)
      case atStart => exact ⟨0, kids, rfl, HST.out, HR.out⟩
      case round =>
        obtain ⟨i, rest, rfl, hO, hR⟩ := hrel
        have hbB := HB.out.trans (hO.below.mono HB.out.size)
        obtain ⟨q0, q1, q2, q3, q4, q5, q6, q7, q8, q9, q10, ql⟩ := own11 (heap_below hO.below (heap_lt HX.out) HX.out)
        cases rest with
        | nil =>
          have hi : i = p.n := by have := hO.i_eq; simpa [Tm.len] using this
          clear hO
          simp only [Sh.lsF] at hR
          subst hi
          subst hR
          go_wp2_with fail
          go_ret
          exact ⟨rfl, hbB⟩
        | node h1 kd r =>
          have hst := fun w2 hb => OverT.step (w2 := w2) hO hb
          have e1 := hO.i_eq
          have e2 := hO.lies
          have e3 := hO.sub
          simp only [Tm.len, Tm.nodes, Sh.lsF] at e1 e3 hR
          obtain ⟨bb, oo, p1, hpA, hcs, hfit, hl3, hl4⟩ := e2
          have hcall := IH.out h1 kd p1 wr (by omega) ⟨hfit, hl3⟩
          obtain ⟨c0, c1, c2, c3, c4, c5, c6, c7, c8, c9, c10⟩ := Tm.row hcs
          have HS1 := Lib.hid hst
          have HL := Lib.hid hl4
          have HRR := Lib.hid hR
          have hal : Sh.lsT h1 kd = (Sh.lsH h1 || Sh.lsF kd) := rfl
          rw [← hal] at HRR
          have j1 : (0 : Int) ≤ (i : Int) ∧ (i : Int) < p.n := by omega
          have HPA := Lib.hid hpA
          clear hst hl3 hl4 hO hR hcs hfit hal hpA
          generalize Sh.lsT h1 kd = x at *
          have HCK := Lib.hid hcall
          clear hcall
          generalize hPA : p.A = PA at *
          obtain rfl : PA = some ⟨bb, oo, none⟩ := HPA.out
          clear hPA HPA
          cases x
          · go_wp2_with fail
            refine HCK.out.mono ?_
            rintro e w2 ⟨rfl, hb⟩
            have hbb := Lib.hid (HS1.out w2 hb HL.out)
            have HNX := Lib.hid (show Sh.lsF r = R by rw [← HRR.out]; rfl)
            clear hb q0 q1 q2 q3 q4 q5 q6 q7 q8 q9 q10 ql c0 c1 c2 c3 c4 c5 c6 c7 c8 c9 c10
            go_wp2_with fail
            go_roundw
            case rel => exact ⟨i + 1, r, by go_num, hbb.out, HNX.out⟩
            case measure => simp [intOf]; omega
          · go_wp2_with fail
            refine HCK.out.mono ?_
            rintro e w2 ⟨rfl, hb⟩
            go_wp2_with fail
            go_ret
            exact ⟨Sh.ret_b (by rw [← HRR.out]; rfl), hbB.trans (hb.mono hbB.size)⟩
    · cases hk2 : (h.num == -9223372036854775808)
      · obtain ⟨R, hR⟩ : ∃ R, Sh.lsF kids = R := ⟨_, rfl⟩
        rw [show Sh.lsT h kids = R by unfold Sh.lsT Sh.lsH; rw [hk, hk2, hR]; rfl]
        have HR := Lib.hid hR
        clear hR
        go_enter Tryz.func15, Tryz.ntmps15
        go_wp2_with fail
        rw [HW.out]
        go_wp2_with fail
        clear q0 q1 q2 q3 q4 q5 q6 q7 q8 q9 q10 ql
        go_loopw [3] (fun v wr => ∃ (i : Nat) (rest : Tm), v = .int .i64 i ∧ OverT w1 wr p.A p.n (Tm.nodes kids) i rest ∧ Sh.lsF rest = R) (fun v _ => p.n - (intOf v).toNat)
        case atStart => exact ⟨0, kids, rfl, HST.out, HR.out⟩
        case round =>
          obtain ⟨i, rest, rfl, hO, hR⟩ := hrel
          have hbB := HB.out.trans (hO.below.mono HB.out.size)
          obtain ⟨q0, q1, q2, q3, q4, q5, q6, q7, q8, q9, q10, ql⟩ := own11 (heap_below hO.below (heap_lt HX.out) HX.out)
          cases rest with
          | nil =>
            have hi : i = p.n := by have := hO.i_eq; simpa [Tm.len] using this
            clear hO
            simp only [Sh.lsF] at hR
            subst hi
            subst hR
            go_wp2_with fail
            go_ret
            exact ⟨rfl, hbB⟩
          | node h1 kd r =>
            have hst := fun w2 hb => OverT.step (w2 := w2) hO hb
            have e1 := hO.i_eq
            have e2 := hO.lies
            have e3 := hO.sub
            simp only [Tm.len, Tm.nodes, Sh.lsF] at e1 e3 hR
            obtain ⟨bb, oo, p1, hpA, hcs, hfit, hl3, hl4⟩ := e2
            have hcall := IH.out h1 kd p1 wr (by omega) ⟨hfit, hl3⟩
            obtain ⟨c0, c1, c2, c3, c4, c5, c6, c7, c8, c9, c10⟩ := Tm.row hcs
            have HS1 := Lib.hid hst
            have HL := Lib.hid hl4
            have HRR := Lib.hid hR
            have hal : Sh.lsT h1 kd = (Sh.lsH h1 || Sh.lsF kd) := rfl
            rw [← hal] at HRR
            have j1 : (0 : Int) ≤ (i : Int) ∧ (i : Int) < p.n := by omega
            have HPA := Lib.hid hpA
            clear hst hl3 hl4 hO hR hcs hfit hal hpA
            generalize Sh.lsT h1 kd = x at *
            have HCK := Lib.hid hcall
            clear hcall
            generalize hPA : p.A = PA at *
            obtain rfl : PA = some ⟨bb, oo, none⟩ := HPA.out
            clear hPA HPA
            cases x
            · go_wp2_with fail
              refine HCK.out.mono ?_
              rintro e w2 ⟨rfl, hb⟩
              have hbb := Lib.hid (HS1.out w2 hb HL.out)
              have HNX := Lib.hid (show Sh.lsF r = R by rw [← HRR.out]; rfl)
              clear hb q0 q1 q2 q3 q4 q5 q6 q7 q8 q9 q10 ql c0 c1 c2 c3 c4 c5 c6 c7 c8 c9 c10
              go_wp2_with fail
              go_roundw
              case rel => exact ⟨i + 1, r, by go_num, hbb.out, HNX.out⟩
              case measure => simp [intOf]; omega
            · go_wp2_with fail
              refine HCK.out.mono ?_
              rintro e w2 ⟨rfl, hb⟩
              go_wp2_with fail
              go_ret
              exact ⟨Sh.ret_b (by rw [← HRR.out]; rfl), hbB.trans (hb.mono hbB.size)⟩
      · rw [show Sh.lsT h kids = true by unfold Sh.lsT Sh.lsH; rw [hk, hk2]; rfl]
        go_enter Tryz.func15, Tryz.ntmps15
        go_wp2_with fail
        rw [HW.out]
        go_wp2_with fail
        go_ret
        exact ⟨rfl, HB.out⟩

end Go.Proofs.YtdeomggkhbdkaaaGreatDoor
