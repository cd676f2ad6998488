/-
  The law's kind and Whole, where both are the same.
-/
import Derived.Test.YtfkbdpehdabepaaGreatDoorTmEqual
import Derived.StillTailTactics
namespace Go.Proofs.YtfkbdpehdabepaaGreatDoor
open Go.RowKit

set_option maxHeartbeats 4000000 in
set_option maxRecDepth 100000 in
theorem kind_any (K : Nat) : ∀ (k : Int) (kids : Fo) (A : Option Addr) (n c : Nat) (A' : Option Addr) (n' c' : Nat) (w : World), Ty.nodes kids < K → Ty.Is w k kids A n c → Ty.Is w k kids A' n' c' →
    Calls Tryz.prog 37 #[.agg #[.int .i8 k, .slice A n c], .agg #[.int .i8 k, .slice A' n' c']] w fun e w' => e = .returned (.bool true) ∧ Below w.heap.size w w' := by
  induction K with
  | zero => intro _ _ _ _ _ _ _ _ _ hK; omega
  | succ K ih =>
    intro k kids A n c A' n' c' w hK hIs hIs'
    obtain rfl : n = n' := by rw [hIs.n_eq, hIs'.n_eq]
    have hB0 : Below w.heap.size w ((w.alloc (.cells #[.int .i8 k, .slice A n c] 25)).alloc (.cells #[.int .i8 k, .slice A' n c'] 25)) := ((Below.refl _ _).alloc (Nat.le_refl _) _).alloc (by simp) _
    obtain ⟨r0, r1, r2⟩ := two_new w (.cells #[.int .i8 k, .slice A n c] 25) (.cells #[.int .i8 k, .slice A' n c'] 25)
    have i5 : (n : Int) ≤ 9223372036854775807 := by have h1 := hIs.n_le; have h2 := hIs.c_le; unfold maxLen at h2; omega
    have HS1 := Lib.hid (Over.start (hIs.below hB0).lies hIs.n_eq)
    have HS2 := Lib.hid (Over.start (hIs'.below hB0).lies hIs'.n_eq)
    have IH := Lib.hid ih
    have R0 := Lib.hid r0
    have R1 := Lib.hid r1
    obtain ⟨b0, b1, _, _, hb0⟩ := own2 r0
    obtain ⟨d0, d1, _, _, hd0⟩ := own2 r1
    clear hIs hIs' ih r0 r1 r2
    go_enter Tryz.func37, Tryz.ntmps37
    go_wp2_with fail
    generalize (w.alloc (.cells #[.int .i8 k, .slice A n c] 25)).alloc (.cells #[.int .i8 k, .slice A' n c'] 25) = w1 at *
    clear b0 b1 d0 d1
    go_loopw [23] (fun v wr => ∃ (i : Nat) (rest : Fo), v = .int .i64 i ∧ Over w1 wr A n (Ty.nodes kids) i rest ∧ Over w1 wr A' n (Ty.nodes kids) i rest) (fun v _ => n - (intOf v).toNat)
    case atStart => exact ⟨0, kids, rfl, HS1.out, HS2.out⟩
    case round =>
      obtain ⟨i, rest, rfl, hO, hO2⟩ := hrel
      have hbB := hB0.trans (hO.below.mono hB0.size)
      obtain ⟨b0, b1, _, _, hbl0⟩ := own2 (heap_below hO.below hb0 R0.out)
      obtain ⟨d0, d1, _, _, hdl0⟩ := own2 (heap_below hO.below hd0 R1.out)
      cases rest with
      | nil =>
        have hi : i = n := by have := hO.i_eq; simpa [Ty.len] using this
        clear hO hO2
        subst hi
        go_wp2_with fail
        go_ret
        exact ⟨rfl, hbB⟩
      | node a b kk kd r =>
        have hst := fun w2 hb => Over.step (w2 := w2) hO hb
        have hst2 := fun w2 hb => Over.step (w2 := w2) hO2 hb
        have e1 := hO.i_eq
        have e2 := hO.lies
        have e22 := hO2.lies
        have e3 := hO.sub
        simp only [Ty.len, Ty.nodes] at e1 e3
        obtain ⟨bb, oo, B, cB, hA, ⟨hk1, hk2⟩, c0, c1, hl1, hl2, hl3, hl4⟩ := e2
        obtain ⟨bb2, oo2, B2, cB2, hA2, _, f0, f1, hm1, hm2, hm3, hm4⟩ := e22
        have E0 : Below wr.heap.size wr wr.drew := (Below.refl _ _).drew
        have hcall := IH.out kk kd B (Ty.len kd) cB B2 (Ty.len kd) cB2 wr.drew (by omega) (Ty.Is.below ⟨hl3, rfl, hl1, hl2, hk1, hk2⟩ E0) (Ty.Is.below ⟨hm3, rfl, hm1, hm2, hk1, hk2⟩ E0)
        have HST := Lib.hid hst
        have HST2 := Lib.hid hst2
        have HL := Lib.hid hl4
        have HL2 := Lib.hid hm4
        have j1 : (0 : Int) ≤ (i : Int) ∧ (i : Int) < n := by omega
        have HCK := Lib.hid hcall
        have HA := Lib.hid hA
        have HA2 := Lib.hid hA2
        clear hst hst2 hl3 hl4 hm3 hm4 hcall hO hO2 hA hA2
        obtain rfl : A = some ⟨bb, oo, none⟩ := HA.out
        obtain rfl : A' = some ⟨bb2, oo2, none⟩ := HA2.out
        clear HA HA2
        go_wp2_with fail
        go_still_tail 10, (by kernel_rfl)
        change wpList _ _ _ _ _ wr.drew
        clear b0 b1 d0 d1 c0 c1 f0 f1
        generalize wr.drew = w5 at *
        go_wp2_with fail
        refine HCK.out.mono ?_
        rintro e w2 ⟨rfl, hb⟩
        have hbw := E0.trans (hb.mono E0.size)
        have hbb := Lib.hid (HST.out w2 hbw HL.out)
        have hbb2 := Lib.hid (HST2.out w2 hbw HL2.out)
        clear hb hbw
        go_wp2_with fail
        go_roundw
        case rel => exact ⟨i + 1, r, by go_num, hbb.out, hbb2.out⟩
        case measure => simp [intOf]; omega

set_option maxHeartbeats 4000000 in
set_option maxRecDepth 100000 in
theorem whole_any (K : Nat) : ∀ (h : Hd) (kids : Tm) (p p' : Pl) (w : World), Tm.nodes kids < K → Tm.Is w h kids p → Tm.Is w h kids p' →
    Calls Tryz.prog 9 #[.agg #[.int .i8 h.kind, .string h.name, .string h.arg, .int .i64 h.num, .int .i8 h.tk, .slice p.TA p.tn p.tc, .int .i8 h.uk, .slice p.UA p.un p.uc, .int .i64 h.label, .int .i64 h.pos, .slice p.A p.n p.c], .agg #[.int .i8 h.kind, .string h.name, .string h.arg, .int .i64 h.num, .int .i8 h.tk, .slice p'.TA p'.tn p'.tc, .int .i8 h.uk, .slice p'.UA p'.un p'.uc, .int .i64 h.label, .int .i64 h.pos, .slice p'.A p'.n p'.c]] w fun e w' => e = .returned (.bool true) ∧ Below w.heap.size w w' := by
  induction K with
  | zero => intro _ _ _ _ _ hK; omega
  | succ K ih =>
    intro h kids p p' w hK hIs hIs'
    have hB0 : Below w.heap.size w ((w.alloc (.cells #[.int .i8 h.kind, .string h.name, .string h.arg, .int .i64 h.num, .int .i8 h.tk, .slice p.TA p.tn p.tc, .int .i8 h.uk, .slice p.UA p.un p.uc, .int .i64 h.label, .int .i64 h.pos, .slice p.A p.n p.c] 28)).alloc (.cells #[.int .i8 h.kind, .string h.name, .string h.arg, .int .i64 h.num, .int .i8 h.tk, .slice p'.TA p'.tn p'.tc, .int .i8 h.uk, .slice p'.UA p'.un p'.uc, .int .i64 h.label, .int .i64 h.pos, .slice p'.A p'.n p'.c] 28)) := ((Below.refl _ _).alloc (Nat.le_refl _) _).alloc (by simp) _
    obtain ⟨r0, r1, r2⟩ := two_new w (.cells #[.int .i8 h.kind, .string h.name, .string h.arg, .int .i64 h.num, .int .i8 h.tk, .slice p.TA p.tn p.tc, .int .i8 h.uk, .slice p.UA p.un p.uc, .int .i64 h.label, .int .i64 h.pos, .slice p.A p.n p.c] 28) (.cells #[.int .i8 h.kind, .string h.name, .string h.arg, .int .i64 h.num, .int .i8 h.tk, .slice p'.TA p'.tn p'.tc, .int .i8 h.uk, .slice p'.UA p'.un p'.uc, .int .i64 h.label, .int .i64 h.pos, .slice p'.A p'.n p'.c] 28)
    have i5 : (p.n : Int) ≤ 9223372036854775807 := by have h1 := hIs.fit.n_le; have h2 := hIs.fit.c_le; unfold maxLen at h2; omega
    have i6 : (p'.n : Int) ≤ 9223372036854775807 := by have h1 := hIs'.fit.n_le; have h2 := hIs'.fit.c_le; unfold maxLen at h2; omega
    have hnn : p.n = p'.n := by rw [hIs.fit.n_eq, hIs'.fit.n_eq]
    have hne : ((p.n : Int) != (p'.n : Int)) = false := by simp [hnn]
    have HNN := Lib.hid hnn
    have C1 := Lib.hid (fun (W : World) (hb : Below w.heap.size w W) => kind_any (Ty.nodes h.tkids + 1) h.tk h.tkids p.TA p.tn p.tc p'.TA p'.tn p'.tc W (by omega) (hIs.below hb).fit.ty (hIs'.below hb).fit.ty)
    have C2 := Lib.hid (fun (W : World) (hb : Below w.heap.size w W) => kind_any (Ty.nodes h.ukids + 1) h.uk h.ukids p.UA p.un p.uc p'.UA p'.un p'.uc W (by omega) (hIs.below hb).fit.to (hIs'.below hb).fit.to)
    have HLI := Lib.hid (fun (W : World) (hb : Below w.heap.size w W) => And.intro (hIs.below hb).lies (hIs'.below hb).lies)
    have HE1 := Lib.hid hIs.fit.n_eq
    have HE2 := Lib.hid hIs'.fit.n_eq
    have IH := Lib.hid ih
    have R0 := Lib.hid r0
    have R1 := Lib.hid r1
    obtain ⟨q0, q1, q2, q3, q4, q5, q6, q7, q8, q9, q10, ql⟩ := own11 r0
    obtain ⟨y0, y1, y2, y3, y4, y5, y6, y7, y8, y9, y10, yl⟩ := own11 r1
    clear hIs hIs' ih r0 r1 r2 hnn
    go_enter Tryz.func9, Tryz.ntmps9
    go_wp2_with fail
    refine (C1.out _ hB0).mono ?_
    rintro e u1 ⟨rfl, hb⟩
    have hB1 := hB0.trans (hb.mono hB0.size)
    have S0 := Lib.hid (heap_below hb ql R0.out)
    have S1 := Lib.hid (heap_below hb yl R1.out)
    clear hb q0 q1 q2 q3 q4 q5 q6 q7 q8 q9 q10 ql y0 y1 y2 y3 y4 y5 y6 y7 y8 y9 y10 yl
    obtain ⟨q0, q1, q2, q3, q4, q5, q6, q7, q8, q9, q10, ql⟩ := own11 S0.out
    obtain ⟨y0, y1, y2, y3, y4, y5, y6, y7, y8, y9, y10, yl⟩ := own11 S1.out
    go_wp2_with fail
    refine (C2.out _ hB1).mono ?_
    rintro e u2 ⟨rfl, hb⟩
    have hB2 := hB1.trans (hb.mono hB1.size)
    have T0 := Lib.hid (heap_below hb ql S0.out)
    have T1 := Lib.hid (heap_below hb yl S1.out)
    clear hb q0 q1 q2 q3 q4 q5 q6 q7 q8 q9 q10 ql y0 y1 y2 y3 y4 y5 y6 y7 y8 y9 y10 yl
    obtain ⟨q0, q1, q2, q3, q4, q5, q6, q7, q8, q9, q10, ql⟩ := own11 T0.out
    obtain ⟨y0, y1, y2, y3, y4, y5, y6, y7, y8, y9, y10, yl⟩ := own11 T1.out
    have HS1 := Lib.hid (OverT.start (HLI.out _ hB2).1 HE1.out)
    have HS2 := Lib.hid (OverT.start (HLI.out _ hB2).2 HE2.out)
    go_wp2_with fail
    clear q0 q1 q2 q3 q4 q5 q6 q7 q8 q9 q10 y0 y1 y2 y3 y4 y5 y6 y7 y8 y9 y10
    go_loopw [74] (fun v wr => ∃ (i : Nat) (rest : Tm), v = .int .i64 i ∧ OverT u2 wr p.A p.n (Tm.nodes kids) i rest ∧ OverT u2 wr p'.A p'.n (Tm.nodes kids) i rest) (fun v _ => p.n - (intOf v).toNat)
    case atStart => exact ⟨0, kids, rfl, HS1.out, HS2.out⟩
    case round =>
      obtain ⟨i, rest, rfl, hO, hO2⟩ := hrel
      have hbB := hB2.trans (hO.below.mono hB2.size)
      obtain ⟨q0, q1, q2, q3, q4, q5, q6, q7, q8, q9, q10, ql2⟩ := own11 (heap_below hO.below ql T0.out)
      obtain ⟨y0, y1, y2, y3, y4, y5, y6, y7, y8, y9, y10, yl2⟩ := own11 (heap_below hO.below yl T1.out)
      cases rest with
      | nil =>
        have hi : i = p.n := by have := hO.i_eq; simpa [Tm.len] using this
        clear hO hO2
        subst hi
        go_wp2_with fail
        go_ret
        exact ⟨rfl, hbB⟩
      | node h1 kd r =>
        have hst := fun w2 hb => OverT.step (w2 := w2) hO hb
        have hst2 := fun w2 hb => OverT.step (w2 := w2) hO2 hb
        have e1 := hO.i_eq
        have e2 := hO.lies
        have e22 := hO2.lies
        have e3 := hO.sub
        simp only [Tm.len, Tm.nodes] at e1 e3
        obtain ⟨bb, oo, p1, hpA, hcs, hfit, hl3, hl4⟩ := e2
        obtain ⟨bb2, oo2, p2, hpA2, hcs2, hfit2, hl32, hl42⟩ := e22
        have E0 : Below wr.heap.size wr wr.drew := (Below.refl _ _).drew
        have hcall := IH.out h1 kd p1 p2 wr.drew (by omega) (Tm.Is.below ⟨hfit, hl3⟩ E0) (Tm.Is.below ⟨hfit2, hl32⟩ E0)
        obtain ⟨c0, c1, c2, c3, c4, c5, c6, c7, c8, c9, c10⟩ := Tm.row hcs
        obtain ⟨d0, d1, d2, d3, d4, d5, d6, d7, d8, d9, d10⟩ := Tm.row hcs2
        have HST := Lib.hid hst
        have HST2 := Lib.hid hst2
        have HL := Lib.hid hl4
        have HL2 := Lib.hid hl42
        have j1 : (0 : Int) ≤ (i : Int) ∧ (i : Int) < p.n := by omega
        have j2 : (0 : Int) ≤ (i : Int) ∧ (i : Int) < p'.n := by have h9 := HNN.out; omega
        have HPA := Lib.hid hpA
        have HPA2 := Lib.hid hpA2
        have HCK := Lib.hid hcall
        clear hst hst2 hl3 hl4 hl32 hl42 hO hO2 hcs hcs2 hfit hfit2 hpA hpA2 hcall
        generalize hPA : p.A = PA at *
        generalize hPA2 : p'.A = PA2 at *
        obtain rfl : PA = some ⟨bb, oo, none⟩ := HPA.out
        obtain rfl : PA2 = some ⟨bb2, oo2, none⟩ := HPA2.out
        clear hPA hPA2 HPA HPA2
        go_wp2_with fail
        go_still_tail 10, (by kernel_rfl)
        change wpList _ _ _ _ _ wr.drew
        clear q0 q1 q2 q3 q4 q5 q6 q7 q8 q9 q10 ql2 y0 y1 y2 y3 y4 y5 y6 y7 y8 y9 y10 yl2 c0 c1 c2 c3 c4 c5 c6 c7 c8 c9 c10 d0 d1 d2 d3 d4 d5 d6 d7 d8 d9 d10
        generalize wr.drew = w5 at *
        go_wp2_with fail
        refine HCK.out.mono ?_
        rintro e w2 ⟨rfl, hb⟩
        have hbw := E0.trans (hb.mono E0.size)
        have hbb := Lib.hid (HST.out w2 hbw HL.out)
        have hbb2 := Lib.hid (HST2.out w2 hbw HL2.out)
        clear hb hbw
        go_wp2_with fail
        go_roundw
        case rel => exact ⟨i + 1, r, by go_num, hbb.out, hbb2.out⟩
        case measure => simp [intOf]; omega
end Go.Proofs.YtfkbdpehdabepaaGreatDoor
